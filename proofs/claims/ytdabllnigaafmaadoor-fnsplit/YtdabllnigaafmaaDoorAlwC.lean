/- May a field be a number? Contracts. -/
import Derived.Test.YtdabllnigaafmaaDoorLayA
import Derived.Test.YtdabllnigaafmaaDoorLayB
import Derived.Test.YtdabllnigaafmaaDoorLayC
import Derived.Test.YtdabllnigaafmaaDoorLayD
import Derived.Test.YtdabllnigaafmaaDoorTkeA
import Derived.Test.YtdabllnigaafmaaDoorTkeB
import Derived.Test.YtdabllnigaafmaaDoorTkeC
import Derived.Test.YtdabllnigaafmaaDoorTkeD
import Derived.BigRegion
import Derived.Deep.RegionWith
namespace Go.Proofs.YtdabllnigaafmaaDoor
open Go.RowKit
set_option linter.unusedVariables false

/-- May a form's number be v? -/
def okB (f v : Int) : Bool := takeF f (layF f v) == v
theorem okB_iff (f v : Int) (h1 : 0 ≤ f) (h9 : f ≤ 9) : okB f v = true ↔ okI f v := by
  unfold okB
  rw [beq_iff_eq]
  exact take_lay f v h1 h9
/-- May a register be v? -/
def regB (v : Int) : Bool := decide (0 ≤ v ∧ v ≤ 31)

set_option maxHeartbeats 1000000 in
theorem allowsG (a b c d e1 f g h i j k l m v L R : Int) (hl : Hid (∀ w, Calls Tryd.prog 33 #[.agg #[.int .i64 a, .int .i64 b, .int .i64 c, .int .i64 d, .int .i64 e1, .int .i64 f, .int .i64 g, .int .i64 h, .int .i64 i, .int .i64 j, .int .i64 k, .int .i64 l, .int .i64 m], .int .i64 v] w fun e w' => e = .returned (.int .i64 L) ∧ Below w.heap.size w w'))
    (ht : Hid (∀ w, Calls Tryd.prog 32 #[.agg #[.int .i64 a, .int .i64 b, .int .i64 c, .int .i64 d, .int .i64 e1, .int .i64 f, .int .i64 g, .int .i64 h, .int .i64 i, .int .i64 j, .int .i64 k, .int .i64 l, .int .i64 m], .int .i64 L] w fun e w' => e = .returned (.int .i64 R) ∧ Below w.heap.size w w')) (w : World) :
    Calls Tryd.prog 21 #[.agg #[.int .i64 a, .int .i64 b, .int .i64 c, .int .i64 d, .int .i64 e1, .int .i64 f, .int .i64 g, .int .i64 h, .int .i64 i, .int .i64 j, .int .i64 k, .int .i64 l, .int .i64 m], .int .i64 v] w fun e w' => e = .returned (.bool (R == v)) ∧ Below w.heap.size w w' := by
  go_enter Tryd.func21, Tryd.ntmps21
  go_wp2_with fail
  go_region_with (first | (go_at_call 33; refine (hl.out _).mono ?_; rintro e w1 ⟨rfl, hb1⟩; obtain ⟨hc1, hf1⟩ := bcell hb1; have hz1 : w.heap.size < w1.heap.size := by (have := hb1.size; simp at this; omega)) | (go_at_call 32; refine (ht.out _).mono ?_; rintro e w2 ⟨rfl, hb2⟩))
  all_goals
    clear hl ht
    have HB : Hid (Below w.heap.size w w2) := (((Below.refl _ _).alloc (Nat.le_refl _) _).drew.trans (hb1.mono (by simp))).trans (hb2.mono (by omega))
    clear hc1 hf1 hb1 hb2
    go_wp2
    go_ret
    exact ⟨rfl, HB.out⟩
theorem allows1 (v : Int) (w : World) :
    Calls Tryd.prog 21 #[rule1, .int .i64 v] w fun e w' => e = .returned (.bool (okB 1 v)) ∧ Below w.heap.size w w' :=
  allowsG _ _ _ _ _ _ _ _ _ _ _ _ _ v (layF 1 v) (takeF 1 (layF 1 v)) (fun w => lay1 v w) (fun w => take1 (layF 1 v) w) w
theorem allows2 (v : Int) (w : World) :
    Calls Tryd.prog 21 #[rule2, .int .i64 v] w fun e w' => e = .returned (.bool (okB 2 v)) ∧ Below w.heap.size w w' :=
  allowsG _ _ _ _ _ _ _ _ _ _ _ _ _ v (layF 2 v) (takeF 2 (layF 2 v)) (fun w => lay2 v w) (fun w => take2 (layF 2 v) w) w
theorem allows3 (v : Int) (w : World) :
    Calls Tryd.prog 21 #[rule3, .int .i64 v] w fun e w' => e = .returned (.bool (okB 3 v)) ∧ Below w.heap.size w w' :=
  allowsG _ _ _ _ _ _ _ _ _ _ _ _ _ v (layF 3 v) (takeF 3 (layF 3 v)) (fun w => lay3 v w) (fun w => take3 (layF 3 v) w) w
theorem allows4 (v : Int) (w : World) :
    Calls Tryd.prog 21 #[rule4, .int .i64 v] w fun e w' => e = .returned (.bool (okB 4 v)) ∧ Below w.heap.size w w' :=
  allowsG _ _ _ _ _ _ _ _ _ _ _ _ _ v (layF 4 v) (takeF 4 (layF 4 v)) (fun w => lay4 v w) (fun w => take4 (layF 4 v) w) w
theorem allows5 (v : Int) (w : World) :
    Calls Tryd.prog 21 #[rule5, .int .i64 v] w fun e w' => e = .returned (.bool (okB 5 v)) ∧ Below w.heap.size w w' :=
  allowsG _ _ _ _ _ _ _ _ _ _ _ _ _ v (layF 5 v) (takeF 5 (layF 5 v)) (fun w => lay5 v w) (fun w => take5 (layF 5 v) w) w
theorem allows6 (v : Int) (w : World) :
    Calls Tryd.prog 21 #[rule6, .int .i64 v] w fun e w' => e = .returned (.bool (okB 6 v)) ∧ Below w.heap.size w w' :=
  allowsG _ _ _ _ _ _ _ _ _ _ _ _ _ v (layF 6 v) (takeF 6 (layF 6 v)) (fun w => lay6 v w) (fun w => take6 (layF 6 v) w) w
theorem allows7 (v : Int) (w : World) :
    Calls Tryd.prog 21 #[rule7, .int .i64 v] w fun e w' => e = .returned (.bool (okB 7 v)) ∧ Below w.heap.size w w' :=
  allowsG _ _ _ _ _ _ _ _ _ _ _ _ _ v (layF 7 v) (takeF 7 (layF 7 v)) (fun w => lay7 v w) (fun w => take7 (layF 7 v) w) w
theorem allows8 (v : Int) (w : World) :
    Calls Tryd.prog 21 #[rule8, .int .i64 v] w fun e w' => e = .returned (.bool (okB 8 v)) ∧ Below w.heap.size w w' :=
  allowsG _ _ _ _ _ _ _ _ _ _ _ _ _ v (layF 8 v) (takeF 8 (layF 8 v)) (fun w => lay8 v w) (fun w => take8 (layF 8 v) w) w
end Go.Proofs.YtdabllnigaafmaaDoor
