/- A word that is drawn: contract. -/
import Derived.Test.YtdabllnigaafmaaDoorSrcM
import Derived.Test.YtdabllnigaafmaaDoorSrcR
namespace Go.Proofs.YtdabllnigaafmaaDoor
open Go.RowKit
set_option linter.unusedVariables false

theorem wordDrawn_w (len cap B : Nat) (a : Option Addr) (w : World) (hB : Bytes w B a len) (hb : B ≤ w.heap.size) :
    Calls Tryd.prog 7 #[.slice a len cap] w fun e w' => ∃ v : Nat, v < 4294967296 ∧ e = .returned (.int .i64 v) ∧ Below w.heap.size w w' := by
  go_enter Tryd.func7, Tryd.ntmps7
  go_wp2_with fail
  refine (source_any len cap a _ hB.1).mono ?_
  rintro e w1 ⟨sd, rfl, hs, hbel, hsz⟩
  go_wp2_with fail
  refine (word_ctx B _ len cap 0 a _ ⟨⟨0, sd, by omega, hs⟩, hB.below (hbel.mono hb), hb, hsz⟩ (by omega)).mono ?_
  rintro e w2 ⟨v, hv, rfl, _, hg⟩
  go_wp2
  go_ret
  exact ⟨v, hv, rfl, hbel.trans (Below.refl _ _ |>.grown hg (by omega) (fun k e => by injection e; omega))⟩
end Go.Proofs.YtdabllnigaafmaaDoor
