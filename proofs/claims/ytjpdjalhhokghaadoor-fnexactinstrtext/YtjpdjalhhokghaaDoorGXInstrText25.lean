/- InstrOK of the program: the contract. A struct of five numbers in memory. -/
import Derived.Test.YtjpdjalhhokghaaDoorGXInstrText22
import Derived.Test.YtjpdjalhhokghaaDoorGXInstrText23
import Derived.Test.YtjpdjalhhokghaaDoorGXInstrText24
import Derived.Test.YtjpdjalhhokghaaDoorGXInstrText19
import Derived.WalkKit
import Derived.LoopTactic
namespace Go.Proofs.YtjpdjalhhokghaaDoor
open Go.RowKit
set_option linter.unusedVariables false

set_option maxHeartbeats 1000000 in
theorem insNo (op rd r1 r2 im : Int) (hL : ∀ w : World, Laid w → True) (w : World) (hl : Laid w) (h : op < 1 ∨ 64 < op) :
    Calls Tryd.prog 28 #[.agg #[.int .i64 op, .int .i64 rd, .int .i64 r1, .int .i64 r2, .int .i64 im]] w fun e w' => e = .returned (.bool false) ∧ Below w.heap.size w w' := by
  clear hL
  go_enter Tryd.func28, Tryd.ntmps28
  go_wp2_with fail
  refine (shapeNo op _ (laid_below hl ((Below.refl _ _).alloc (Nat.le_refl _) _)) h).mono ?_
  rintro e w1 ⟨rfl, hb1⟩
  have hz1 : w.heap.size < w1.heap.size := by have := hb1.size; simp at this; omega
  have HB1 : Hid (Below w.heap.size w w1) := ((Below.refl _ _).alloc (Nat.le_refl _) _).trans (hb1.mono (by simp))
  clear hb1 hl h
  unfold shV at *
  go_wp2
  go_ret
  exact ⟨rfl, HB1.out.alloc (by omega) _⟩

theorem insYes (op rd r1 r2 im : Int) (w : World) (h0 : 1 ≤ op) (h1 : op ≤ 64) :
    Calls Tryd.prog 28 #[.agg #[.int .i64 op, .int .i64 rd, .int .i64 r1, .int .i64 r2, .int .i64 im]] w fun e w' => e = .returned (.bool (rightF (shT op).1 rd r1 r2 im)) ∧ Below w.heap.size w w' := by
  have hf := shT_form op h0 h1
  obtain ⟨f, c, g, h, hs⟩ : ∃ f c g h, shT op = (f, c, g, h) := ⟨_, _, _, _, rfl⟩
  rw [hs]
  rw [hs] at hf
  change 1 ≤ f ∧ f ≤ 9 at hf
  change Calls _ _ _ _ fun e w' => e = .returned (.bool (rightF f rd r1 r2 im)) ∧ Below w.heap.size w w'
  rcases (show f = 1 ∨ f = 2 ∨ f = 3 ∨ f = 4 ∨ f = 5 ∨ f = 6 ∨ f = 7 ∨ f = 8 ∨ f = 9 by omega) with rfl | rfl | rfl | rfl | rfl | rfl | rfl | rfl | rfl
  · exact okA op rd r1 r2 im 1 c g h (okB 1 im) hs (fun w => told1 w) (fun w => fieldI1 im w) h0 h1 w
  · exact okA op rd r1 r2 im 2 c g h (okB 2 im) hs (fun w => told2 w) (fun w => fieldI2 im w) h0 h1 w
  · exact okB_ op rd r1 r2 im 3 c g h (okB 3 im) hs (fun w => told3 w) (fun w => fieldI3 im w) h0 h1 w
  · refine (okC op rd r1 r2 im 4 c g h (okB 4 im) hs (fun w => told4 w) (fun w => fieldI4 im w) h0 h1 w).mono ?_
    rintro e w' ⟨rfl, hb⟩
    exact ⟨congrArg (fun x => Ending.returned (.bool x)) (by show _ = (rd == 0 && regB r1 && regB r2 && okB 4 im); cases regB r1 <;> cases regB r2 <;> cases (rd == 0) <;> cases okB 4 im <;> rfl), hb⟩
  · refine (okD op rd r1 r2 im 5 c g h (okB 5 im) hs (fun w => told5 w) (fun w => fieldI5 im w) h0 h1 w).mono ?_
    rintro e w' ⟨rfl, hb⟩
    exact ⟨congrArg (fun x => Ending.returned (.bool x)) (by show _ = (rd == 0 && regB r1 && regB r2 && okB 5 im); cases regB r1 <;> cases regB r2 <;> cases (rd == 0) <;> cases okB 5 im <;> rfl), hb⟩
  · exact okB_ op rd r1 r2 im 6 c g h (okB 6 im) hs (fun w => told6 w) (fun w => fieldI6 im w) h0 h1 w
  · exact okB_ op rd r1 r2 im 7 c g h (okB 7 im) hs (fun w => told7 w) (fun w => fieldI7 im w) h0 h1 w
  · exact okE op rd r1 r2 im 8 c g h hs (fun w => told8 w) h0 h1 w
  · exact okF op rd r1 r2 im 9 c g h hs (fun w => told9 w) h0 h1 w

theorem insC (op rd r1 r2 im : Int) (w : World) (hl : Laid w) :
    Calls Tryd.prog 28 #[.agg #[.int .i64 op, .int .i64 rd, .int .i64 r1, .int .i64 r2, .int .i64 im]] w fun e w' => e = .returned (.bool (rightB op rd r1 r2 im)) ∧ Below w.heap.size w w' := by
  unfold rightB
  by_cases h : 1 ≤ op ∧ op ≤ 64
  · have e : decide (1 ≤ op ∧ op ≤ 64) = true := decide_eq_true h
    rw [e, Bool.true_and]
    exact insYes op rd r1 r2 im w h.1 h.2
  · have e : decide (1 ≤ op ∧ op ≤ 64) = false := decide_eq_false h
    rw [e, Bool.false_and]
    exact insNo op rd r1 r2 im (fun _ _ => trivial) w hl (by omega)
end Go.Proofs.YtjpdjalhhokghaaDoor

namespace Go.Proofs.YtjpdjalhhokghaaDoor
open Go.RowKit
set_option linter.unusedVariables false

/-- Five numbers at block b, to be written. -/
structure Five (w : World) (b : Nat) (v0 v1 v2 v3 v4 : Int) : Prop where
  c0 : w.cell? ⟨b, 0, none⟩ = some (.int .i64 v0)
  c1 : w.cell? ⟨b, 1, none⟩ = some (.int .i64 v1)
  c2 : w.cell? ⟨b, 2, none⟩ = some (.int .i64 v2)
  c3 : w.cell? ⟨b, 3, none⟩ = some (.int .i64 v3)
  c4 : w.cell? ⟨b, 4, none⟩ = some (.int .i64 v4)
  f0 : w.frozen? ⟨b, 0, none⟩ = false
  f1 : w.frozen? ⟨b, 1, none⟩ = false
  f2 : w.frozen? ⟨b, 2, none⟩ = false
  f3 : w.frozen? ⟨b, 3, none⟩ = false
  f4 : w.frozen? ⟨b, 4, none⟩ = false
theorem Five.set0 {w : World} {b : Nat} {v0 v1 v2 v3 v4 : Int} (h : Five w b v0 v1 v2 v3 v4) (x : Int) : Five (w.setCell ⟨b, 0, none⟩ (.int .i64 x)) b x v1 v2 v3 v4 :=
  ⟨World.cell?_setCell_same _ _ _ h.c0, (World.cell?_setCell_other _ _ _ _ (by simp)).trans h.c1, (World.cell?_setCell_other _ _ _ _ (by simp)).trans h.c2, (World.cell?_setCell_other _ _ _ _ (by simp)).trans h.c3, (World.cell?_setCell_other _ _ _ _ (by simp)).trans h.c4,
   (World.frozen?_setCell _ _ _ _).trans h.f0, (World.frozen?_setCell _ _ _ _).trans h.f1, (World.frozen?_setCell _ _ _ _).trans h.f2, (World.frozen?_setCell _ _ _ _).trans h.f3, (World.frozen?_setCell _ _ _ _).trans h.f4⟩
theorem Five.oth0 {w : World} {b d : Nat} {v0 v1 v2 v3 v4 : Int} (h : Five w b v0 v1 v2 v3 v4) (hd : b ≠ d) (u : Value) : Five (w.setCell ⟨d, 0, none⟩ u) b v0 v1 v2 v3 v4 :=
  ⟨(World.cell?_setCell_other _ _ _ _ (by simp <;> omega)).trans h.c0, (World.cell?_setCell_other _ _ _ _ (by simp <;> omega)).trans h.c1, (World.cell?_setCell_other _ _ _ _ (by simp <;> omega)).trans h.c2, (World.cell?_setCell_other _ _ _ _ (by simp <;> omega)).trans h.c3, (World.cell?_setCell_other _ _ _ _ (by simp <;> omega)).trans h.c4,
   (World.frozen?_setCell _ _ _ _).trans h.f0, (World.frozen?_setCell _ _ _ _).trans h.f1, (World.frozen?_setCell _ _ _ _).trans h.f2, (World.frozen?_setCell _ _ _ _).trans h.f3, (World.frozen?_setCell _ _ _ _).trans h.f4⟩
theorem Five.set1 {w : World} {b : Nat} {v0 v1 v2 v3 v4 : Int} (h : Five w b v0 v1 v2 v3 v4) (x : Int) : Five (w.setCell ⟨b, 1, none⟩ (.int .i64 x)) b v0 x v2 v3 v4 :=
  ⟨(World.cell?_setCell_other _ _ _ _ (by simp)).trans h.c0, World.cell?_setCell_same _ _ _ h.c1, (World.cell?_setCell_other _ _ _ _ (by simp)).trans h.c2, (World.cell?_setCell_other _ _ _ _ (by simp)).trans h.c3, (World.cell?_setCell_other _ _ _ _ (by simp)).trans h.c4,
   (World.frozen?_setCell _ _ _ _).trans h.f0, (World.frozen?_setCell _ _ _ _).trans h.f1, (World.frozen?_setCell _ _ _ _).trans h.f2, (World.frozen?_setCell _ _ _ _).trans h.f3, (World.frozen?_setCell _ _ _ _).trans h.f4⟩
theorem Five.oth1 {w : World} {b d : Nat} {v0 v1 v2 v3 v4 : Int} (h : Five w b v0 v1 v2 v3 v4) (hd : b ≠ d) (u : Value) : Five (w.setCell ⟨d, 1, none⟩ u) b v0 v1 v2 v3 v4 :=
  ⟨(World.cell?_setCell_other _ _ _ _ (by simp <;> omega)).trans h.c0, (World.cell?_setCell_other _ _ _ _ (by simp <;> omega)).trans h.c1, (World.cell?_setCell_other _ _ _ _ (by simp <;> omega)).trans h.c2, (World.cell?_setCell_other _ _ _ _ (by simp <;> omega)).trans h.c3, (World.cell?_setCell_other _ _ _ _ (by simp <;> omega)).trans h.c4,
   (World.frozen?_setCell _ _ _ _).trans h.f0, (World.frozen?_setCell _ _ _ _).trans h.f1, (World.frozen?_setCell _ _ _ _).trans h.f2, (World.frozen?_setCell _ _ _ _).trans h.f3, (World.frozen?_setCell _ _ _ _).trans h.f4⟩
theorem Five.set2 {w : World} {b : Nat} {v0 v1 v2 v3 v4 : Int} (h : Five w b v0 v1 v2 v3 v4) (x : Int) : Five (w.setCell ⟨b, 2, none⟩ (.int .i64 x)) b v0 v1 x v3 v4 :=
  ⟨(World.cell?_setCell_other _ _ _ _ (by simp)).trans h.c0, (World.cell?_setCell_other _ _ _ _ (by simp)).trans h.c1, World.cell?_setCell_same _ _ _ h.c2, (World.cell?_setCell_other _ _ _ _ (by simp)).trans h.c3, (World.cell?_setCell_other _ _ _ _ (by simp)).trans h.c4,
   (World.frozen?_setCell _ _ _ _).trans h.f0, (World.frozen?_setCell _ _ _ _).trans h.f1, (World.frozen?_setCell _ _ _ _).trans h.f2, (World.frozen?_setCell _ _ _ _).trans h.f3, (World.frozen?_setCell _ _ _ _).trans h.f4⟩
theorem Five.oth2 {w : World} {b d : Nat} {v0 v1 v2 v3 v4 : Int} (h : Five w b v0 v1 v2 v3 v4) (hd : b ≠ d) (u : Value) : Five (w.setCell ⟨d, 2, none⟩ u) b v0 v1 v2 v3 v4 :=
  ⟨(World.cell?_setCell_other _ _ _ _ (by simp <;> omega)).trans h.c0, (World.cell?_setCell_other _ _ _ _ (by simp <;> omega)).trans h.c1, (World.cell?_setCell_other _ _ _ _ (by simp <;> omega)).trans h.c2, (World.cell?_setCell_other _ _ _ _ (by simp <;> omega)).trans h.c3, (World.cell?_setCell_other _ _ _ _ (by simp <;> omega)).trans h.c4,
   (World.frozen?_setCell _ _ _ _).trans h.f0, (World.frozen?_setCell _ _ _ _).trans h.f1, (World.frozen?_setCell _ _ _ _).trans h.f2, (World.frozen?_setCell _ _ _ _).trans h.f3, (World.frozen?_setCell _ _ _ _).trans h.f4⟩
theorem Five.set3 {w : World} {b : Nat} {v0 v1 v2 v3 v4 : Int} (h : Five w b v0 v1 v2 v3 v4) (x : Int) : Five (w.setCell ⟨b, 3, none⟩ (.int .i64 x)) b v0 v1 v2 x v4 :=
  ⟨(World.cell?_setCell_other _ _ _ _ (by simp)).trans h.c0, (World.cell?_setCell_other _ _ _ _ (by simp)).trans h.c1, (World.cell?_setCell_other _ _ _ _ (by simp)).trans h.c2, World.cell?_setCell_same _ _ _ h.c3, (World.cell?_setCell_other _ _ _ _ (by simp)).trans h.c4,
   (World.frozen?_setCell _ _ _ _).trans h.f0, (World.frozen?_setCell _ _ _ _).trans h.f1, (World.frozen?_setCell _ _ _ _).trans h.f2, (World.frozen?_setCell _ _ _ _).trans h.f3, (World.frozen?_setCell _ _ _ _).trans h.f4⟩
theorem Five.oth3 {w : World} {b d : Nat} {v0 v1 v2 v3 v4 : Int} (h : Five w b v0 v1 v2 v3 v4) (hd : b ≠ d) (u : Value) : Five (w.setCell ⟨d, 3, none⟩ u) b v0 v1 v2 v3 v4 :=
  ⟨(World.cell?_setCell_other _ _ _ _ (by simp <;> omega)).trans h.c0, (World.cell?_setCell_other _ _ _ _ (by simp <;> omega)).trans h.c1, (World.cell?_setCell_other _ _ _ _ (by simp <;> omega)).trans h.c2, (World.cell?_setCell_other _ _ _ _ (by simp <;> omega)).trans h.c3, (World.cell?_setCell_other _ _ _ _ (by simp <;> omega)).trans h.c4,
   (World.frozen?_setCell _ _ _ _).trans h.f0, (World.frozen?_setCell _ _ _ _).trans h.f1, (World.frozen?_setCell _ _ _ _).trans h.f2, (World.frozen?_setCell _ _ _ _).trans h.f3, (World.frozen?_setCell _ _ _ _).trans h.f4⟩
theorem Five.set4 {w : World} {b : Nat} {v0 v1 v2 v3 v4 : Int} (h : Five w b v0 v1 v2 v3 v4) (x : Int) : Five (w.setCell ⟨b, 4, none⟩ (.int .i64 x)) b v0 v1 v2 v3 x :=
  ⟨(World.cell?_setCell_other _ _ _ _ (by simp)).trans h.c0, (World.cell?_setCell_other _ _ _ _ (by simp)).trans h.c1, (World.cell?_setCell_other _ _ _ _ (by simp)).trans h.c2, (World.cell?_setCell_other _ _ _ _ (by simp)).trans h.c3, World.cell?_setCell_same _ _ _ h.c4,
   (World.frozen?_setCell _ _ _ _).trans h.f0, (World.frozen?_setCell _ _ _ _).trans h.f1, (World.frozen?_setCell _ _ _ _).trans h.f2, (World.frozen?_setCell _ _ _ _).trans h.f3, (World.frozen?_setCell _ _ _ _).trans h.f4⟩
theorem Five.oth4 {w : World} {b d : Nat} {v0 v1 v2 v3 v4 : Int} (h : Five w b v0 v1 v2 v3 v4) (hd : b ≠ d) (u : Value) : Five (w.setCell ⟨d, 4, none⟩ u) b v0 v1 v2 v3 v4 :=
  ⟨(World.cell?_setCell_other _ _ _ _ (by simp <;> omega)).trans h.c0, (World.cell?_setCell_other _ _ _ _ (by simp <;> omega)).trans h.c1, (World.cell?_setCell_other _ _ _ _ (by simp <;> omega)).trans h.c2, (World.cell?_setCell_other _ _ _ _ (by simp <;> omega)).trans h.c3, (World.cell?_setCell_other _ _ _ _ (by simp <;> omega)).trans h.c4,
   (World.frozen?_setCell _ _ _ _).trans h.f0, (World.frozen?_setCell _ _ _ _).trans h.f1, (World.frozen?_setCell _ _ _ _).trans h.f2, (World.frozen?_setCell _ _ _ _).trans h.f3, (World.frozen?_setCell _ _ _ _).trans h.f4⟩
theorem Five.below {w w' : World} {b B : Nat} {v0 v1 v2 v3 v4 : Int} (h : Five w b v0 v1 v2 v3 v4) (hb : Below B w w') (hB : b < B) : Five w' b v0 v1 v2 v3 v4 :=
  ⟨(hb.cell (p := ⟨b, 0, none⟩) hB).trans h.c0, (hb.cell (p := ⟨b, 1, none⟩) hB).trans h.c1, (hb.cell (p := ⟨b, 2, none⟩) hB).trans h.c2, (hb.cell (p := ⟨b, 3, none⟩) hB).trans h.c3, (hb.cell (p := ⟨b, 4, none⟩) hB).trans h.c4,
   (hb.frozen (p := ⟨b, 0, none⟩) hB).trans h.f0, (hb.frozen (p := ⟨b, 1, none⟩) hB).trans h.f1, (hb.frozen (p := ⟨b, 2, none⟩) hB).trans h.f2, (hb.frozen (p := ⟨b, 3, none⟩) hB).trans h.f3, (hb.frozen (p := ⟨b, 4, none⟩) hB).trans h.f4⟩
theorem Five.drew {w : World} {b : Nat} {v0 v1 v2 v3 v4 : Int} (h : Five w b v0 v1 v2 v3 v4) : Five w.drew b v0 v1 v2 v3 v4 := ⟨h.c0, h.c1, h.c2, h.c3, h.c4, h.f0, h.f1, h.f2, h.f3, h.f4⟩
end Go.Proofs.YtjpdjalhhokghaaDoor
