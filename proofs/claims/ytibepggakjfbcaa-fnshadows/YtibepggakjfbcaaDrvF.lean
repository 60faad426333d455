/- A law's lists of shadow variables: its own helper. -/
import Derived.Test.YtibepggakjfbcaaDrvL
import Derived.Test.YtibepggakjfbcaaDrvE
namespace Go.Proofs.Ytibepggakjfbcaa
open Go Go.RowKit Go.Maps
set_option linter.unusedVariables false

theorem samO {L M : List ShwD} {p q : Option Addr} {c d : Nat} (w : World) (hL : Fine L) (hM : Fine M) (hp : LstAt w L p c) (hq : LstAt w M q d) (b : Bool) (hb : b = true ↔ L = M) :
    Calls Try.prog 19 #[.slice p L.length c, .slice q M.length d] w fun e w' => e = .returned (.bool b) ∧ Below w.heap.size w w' := by
  have h16 := hL.1
  have h17 := hM.1
  refine eqlL p q L.length M.length c d (nthD L) (nthD M) w (by omega) (by omega) hp.2 hq.2 b ?_
  rw [hb]
  constructor
  · rintro rfl
    exact ⟨rfl, fun i hi => rfl⟩
  · rintro ⟨h1, h2⟩
    exact nth_ext h1 h2
theorem fidL_twice (L : List ShwD) (x : Int) : fidL (fidL L x) x = fidL L x := by
  unfold fidL
  rw [List.filter_filter]
  simp
theorem fidL_all (L : List ShwD) (x : Int) : fidL (lstS L.length (nthD L)) x = fidL L x := by rw [lstS_self]
end Go.Proofs.Ytibepggakjfbcaa
