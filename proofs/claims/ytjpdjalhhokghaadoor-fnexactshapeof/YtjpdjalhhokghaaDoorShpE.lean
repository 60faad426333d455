/- The shapes: the law's comparison. -/
import Derived.Test.YtjpdjalhhokghaaDoorShpS
import Derived.Test.YtjpdjalhhokghaaDoorSpOp
namespace Go.Proofs.YtjpdjalhhokghaaDoor
open Go.RowKit
set_option linter.unusedVariables false

set_option maxHeartbeats 1000000 in
theorem specShapeNo (op : Int) (w : World) (h : op < 1 ∨ 64 < op) :
    Calls Tryd.prog 23 #[.int .i64 op] w fun e w' => e = .returned (.tuple #[shV (0, 0, 0, 0), .int .i64 4]) ∧ Below w.heap.size w w' := by
  go_enter Tryd.func23, Tryd.ntmps23
  go_wp2_with fail
  refine (spOp1 op _ false (.inr ⟨rfl, h⟩)).mono ?_
  rintro e w1 ⟨rfl, rfl⟩
  clear h
  go_wp2
  refine bodyPost_ret (v := .tuple #[shV (0, 0, 0, 0), .int .i64 4]) (by simp [results, Tryd.results23, go_sem]; rfl) rfl ⟨rfl, ?_⟩
  exact (Below.refl _ _).alloc (Nat.le_refl _) _

theorem eqShapeC (s : Int × Int × Int × Int) (w : World) :
    Calls Tryd.prog 25 #[shV s, shV s] w fun e w' => e = .returned (.bool true) ∧ Below w.heap.size w w' := by
  unfold shV
  go_enter Tryd.func25, Tryd.ntmps25
  go_wp2
  go_ret
  exact ⟨rfl, ((Below.refl _ _).alloc (Nat.le_refl _) _).alloc (by simp) _⟩
end Go.Proofs.YtjpdjalhhokghaaDoor
