/- The shapes: the law's comparison. -/
import Derived.Test.YtigdhbhjknpojaaDoorShpS
namespace Go.Proofs.YtigdhbhjknpojaaDoor
open Go.RowKit
set_option linter.unusedVariables false

theorem spOp1 (c : Int) (w : World) (b : Bool) (h : (b = true ∧ 1 ≤ c ∧ c ≤ 64) ∨ (b = false ∧ (c < 1 ∨ 64 < c))) :
    Calls Tryd.prog 46 #[.int .i64 c] w fun e w' => e = .returned (.bool b) ∧ w' = w := by
  go_enter Tryd.func46, Tryd.ntmps46
  go_wp2_with fail
  refine (spIn _ _ _ _ b h).mono ?_
  rintro e w1 ⟨rfl, rfl⟩
  clear h
  go_wp2
  go_ret
  exact ⟨rfl, rfl⟩

set_option maxHeartbeats 1000000 in
theorem specShapeNo (op : Int) (w : World) (h : op < 1 ∨ 64 < op) :
    Calls Tryd.prog 18 #[.int .i64 op] w fun e w' => e = .returned (.tuple #[shV (0, 0, 0, 0), .int .i64 4]) ∧ Below w.heap.size w w' := by
  go_enter Tryd.func18, Tryd.ntmps18
  go_wp2_with fail
  refine (spOp1 op _ false (.inr ⟨rfl, h⟩)).mono ?_
  rintro e w1 ⟨rfl, rfl⟩
  clear h
  go_wp2
  refine bodyPost_ret (v := .tuple #[shV (0, 0, 0, 0), .int .i64 4]) (by simp [results, Tryd.results18, go_sem]; rfl) rfl ⟨rfl, ?_⟩
  exact (Below.refl _ _).alloc (Nat.le_refl _) _

theorem eqShapeC (s : Int × Int × Int × Int) (w : World) :
    Calls Tryd.prog 20 #[shV s, shV s] w fun e w' => e = .returned (.bool true) ∧ Below w.heap.size w w' := by
  unfold shV
  go_enter Tryd.func20, Tryd.ntmps20
  go_wp2
  go_ret
  exact ⟨rfl, ((Below.refl _ _).alloc (Nat.le_refl _) _).alloc (by simp) _⟩
end Go.Proofs.YtigdhbhjknpojaaDoor
