/- InstrOK, told fields 'd12'. InstrOK, told fields ''. InstrOK of the program: the contract. A struct of five numbers in memory. InstrText of the program: the contract. -/
import Derived.Test.YtdbngfeelfgbeaaDoorGXReadInstr16
import Derived.Test.YtdbngfeelfgbeaaDoorGXReadInstr19
import Derived.Test.YtdbngfeelfgbeaaDoorGXReadInstr20
import Derived.Test.YtdbngfeelfgbeaaDoorGXReadInstr21
import Derived.Test.YtdbngfeelfgbeaaDoorGXReadInstr22
import Derived.Test.YtdbngfeelfgbeaaDoorGXReadInstr18
import Derived.WalkKit
import Derived.LoopTactic
import Derived.Lib.Join
import Derived.Deep.RegionHeld3
import Derived.Deep.AppendLies
namespace Go.Proofs.YtdbngfeelfgbeaaDoor
open Go.RowKit
set_option linter.unusedVariables false

set_option maxRecDepth 100000 in
set_option maxHeartbeats 8000000 in
theorem okE (op rd r1 r2 im f c g h : Int) (hs : Hid (shT op = (f, c, g, h))) (ht : Hid (ToldIs f { data := #[100, 49, 50] })) (h0 : 1 ≤ op) (h1 : op ≤ 64) (w : World) :
    Calls Tryd.prog 13 #[.agg #[.int .i64 op, .int .i64 rd, .int .i64 r1, .int .i64 r2, .int .i64 im]] w fun e w' => e = .returned (.bool (regB rd && regB r1 && regB r2 && im == 0)) ∧ Below w.heap.size w w' := by
  go_enter Tryd.func13, Tryd.ntmps13
  go_wp2_with fail
  refine (shapeOKs op f c g h _ hs.out h0 h1).mono ?_
  rintro e w1 ⟨rfl, hb1⟩
  obtain ⟨hc1, hf1⟩ := bcell hb1
  have hz1 : w.heap.size < w1.heap.size := by have := hb1.size; simp at this; omega
  have HB1 : Below w.heap.size w w1 := ((Below.refl _ _).alloc (Nat.le_refl _) _).trans (hb1.mono (by simp))
  have hx : w1.cell? ⟨w.heap.size, 0, none⟩ = some (.int .i64 op) := by
    rw [hc1 _ _ (by simp)]
    simp
  clear hs hb1
  go_wp2_with fail
  refine (ht.out _).mono ?_
  rintro e w2 ⟨rfl, rfl⟩
  clear ht
  go_wp2
  refine wp_loop_rounds 4 ?_
  rw [rounds_succ]
  go_wp2_with (go_at_call 17; refine (fld100 _ _).mono ?_; rintro e w2 ⟨rfl, rfl⟩)
  cases hr1 : regB rd with
  | false =>
    go_quiet ((go_at_call 31; exact Calls.quiet_of_same (fieldR f 100 rd (by decide) _)))
    go_wp2
    go_ret
    refine ⟨congrArg (fun x => Ending.returned (.bool x)) (by simp [hr1]), ?_⟩
    repeat (first | exact HB1 | exact Below.refl _ _ | refine Below.setCell ?_ (by first | omega | (simp; done) | (simp; omega)) _ | refine bdN ?_ _ | refine Below.drew ?_ | refine Below.alloc ?_ (by first | omega | (simp; done) | (simp; omega)) _)
  | true =>
    go_quiet ((go_at_call 31; exact Calls.quiet_of_same (fieldR f 100 rd (by decide) _)))
    go_wp2
    rw [rounds_succ]
    go_wp2_with (go_at_call 17; refine (fld49 _ _).mono ?_; rintro e w2 ⟨rfl, rfl⟩)
    cases hr2 : regB r1 with
    | false =>
      go_quiet ((go_at_call 31; exact Calls.quiet_of_same (fieldR f 49 r1 (by decide) _)))
      go_wp2
      go_ret
      refine ⟨congrArg (fun x => Ending.returned (.bool x)) (by simp [hr2]), ?_⟩
      repeat (first | exact HB1 | exact Below.refl _ _ | refine Below.setCell ?_ (by first | omega | (simp; done) | (simp; omega)) _ | refine bdN ?_ _ | refine Below.drew ?_ | refine Below.alloc ?_ (by first | omega | (simp; done) | (simp; omega)) _)
    | true =>
      go_quiet ((go_at_call 31; exact Calls.quiet_of_same (fieldR f 49 r1 (by decide) _)))
      go_wp2
      rw [rounds_succ]
      go_wp2_with (go_at_call 17; refine (fld50 _ _).mono ?_; rintro e w2 ⟨rfl, rfl⟩)
      cases hr3 : regB r2 with
      | false =>
        go_quiet ((go_at_call 31; exact Calls.quiet_of_same (fieldR f 50 r2 (by decide) _)))
        go_wp2
        go_ret
        refine ⟨congrArg (fun x => Ending.returned (.bool x)) (by simp [hr3]), ?_⟩
        repeat (first | exact HB1 | exact Below.refl _ _ | refine Below.setCell ?_ (by first | omega | (simp; done) | (simp; omega)) _ | refine bdN ?_ _ | refine Below.drew ?_ | refine Below.alloc ?_ (by first | omega | (simp; done) | (simp; omega)) _)
      | true =>
        go_quiet ((go_at_call 31; exact Calls.quiet_of_same (fieldR f 50 r2 (by decide) _)))
        go_wp2
        rw [rounds_succ]
        by_cases eim : im = 0
        case neg =>
          have nim : (im == 0) = false := by simpa using eim
          go_wp2
          go_ret
          refine ⟨congrArg (fun x => Ending.returned (.bool x)) (by simp [hr1, hr2, hr3, nim]), ?_⟩
          repeat (first | exact HB1 | exact Below.refl _ _ | refine Below.setCell ?_ (by first | omega | (simp; done) | (simp; omega)) _ | refine bdN ?_ _ | refine Below.drew ?_ | refine Below.alloc ?_ (by first | omega | (simp; done) | (simp; omega)) _)
        subst eim
        go_wp2
        go_ret
        refine ⟨congrArg (fun x => Ending.returned (.bool x)) (by simp [hr1, hr2, hr3]), ?_⟩
        repeat (first | exact HB1 | exact Below.refl _ _ | refine Below.setCell ?_ (by first | omega | (simp; done) | (simp; omega)) _ | refine bdN ?_ _ | refine Below.drew ?_ | refine Below.alloc ?_ (by first | omega | (simp; done) | (simp; omega)) _)
end Go.Proofs.YtdbngfeelfgbeaaDoor

namespace Go.Proofs.YtdbngfeelfgbeaaDoor
open Go.RowKit
set_option linter.unusedVariables false

set_option maxRecDepth 100000 in
set_option maxHeartbeats 8000000 in
theorem okF (op rd r1 r2 im f c g h : Int) (hs : Hid (shT op = (f, c, g, h))) (ht : Hid (ToldIs f { data := #[] })) (h0 : 1 ≤ op) (h1 : op ≤ 64) (w : World) :
    Calls Tryd.prog 13 #[.agg #[.int .i64 op, .int .i64 rd, .int .i64 r1, .int .i64 r2, .int .i64 im]] w fun e w' => e = .returned (.bool (rd == 0 && r1 == 0 && r2 == 0 && im == 0)) ∧ Below w.heap.size w w' := by
  go_enter Tryd.func13, Tryd.ntmps13
  go_wp2_with fail
  refine (shapeOKs op f c g h _ hs.out h0 h1).mono ?_
  rintro e w1 ⟨rfl, hb1⟩
  obtain ⟨hc1, hf1⟩ := bcell hb1
  have hz1 : w.heap.size < w1.heap.size := by have := hb1.size; simp at this; omega
  have HB1 : Below w.heap.size w w1 := ((Below.refl _ _).alloc (Nat.le_refl _) _).trans (hb1.mono (by simp))
  have hx : w1.cell? ⟨w.heap.size, 0, none⟩ = some (.int .i64 op) := by
    rw [hc1 _ _ (by simp)]
    simp
  clear hs hb1
  go_wp2_with fail
  refine (ht.out _).mono ?_
  rintro e w2 ⟨rfl, rfl⟩
  clear ht
  go_wp2
  refine wp_loop_rounds 1 ?_
  rw [rounds_succ]
  by_cases erd : rd = 0
  case neg =>
    have nrd : (rd == 0) = false := by simpa using erd
    go_wp2
    go_ret
    refine ⟨congrArg (fun x => Ending.returned (.bool x)) (by simp [nrd]), ?_⟩
    repeat (first | exact HB1 | exact Below.refl _ _ | refine Below.setCell ?_ (by first | omega | (simp; done) | (simp; omega)) _ | refine bdN ?_ _ | refine Below.drew ?_ | refine Below.alloc ?_ (by first | omega | (simp; done) | (simp; omega)) _)
  subst erd
  by_cases er1 : r1 = 0
  case neg =>
    have nr1 : (r1 == 0) = false := by simpa using er1
    go_wp2
    go_ret
    refine ⟨congrArg (fun x => Ending.returned (.bool x)) (by simp [nr1]), ?_⟩
    repeat (first | exact HB1 | exact Below.refl _ _ | refine Below.setCell ?_ (by first | omega | (simp; done) | (simp; omega)) _ | refine bdN ?_ _ | refine Below.drew ?_ | refine Below.alloc ?_ (by first | omega | (simp; done) | (simp; omega)) _)
  subst er1
  by_cases er2 : r2 = 0
  case neg =>
    have nr2 : (r2 == 0) = false := by simpa using er2
    go_wp2
    go_ret
    refine ⟨congrArg (fun x => Ending.returned (.bool x)) (by simp [nr2]), ?_⟩
    repeat (first | exact HB1 | exact Below.refl _ _ | refine Below.setCell ?_ (by first | omega | (simp; done) | (simp; omega)) _ | refine bdN ?_ _ | refine Below.drew ?_ | refine Below.alloc ?_ (by first | omega | (simp; done) | (simp; omega)) _)
  subst er2
  by_cases eim : im = 0
  case neg =>
    have nim : (im == 0) = false := by simpa using eim
    go_wp2
    go_ret
    refine ⟨congrArg (fun x => Ending.returned (.bool x)) (by simp [nim]), ?_⟩
    repeat (first | exact HB1 | exact Below.refl _ _ | refine Below.setCell ?_ (by first | omega | (simp; done) | (simp; omega)) _ | refine bdN ?_ _ | refine Below.drew ?_ | refine Below.alloc ?_ (by first | omega | (simp; done) | (simp; omega)) _)
  subst eim
  go_wp2
  go_ret
  refine ⟨congrArg (fun x => Ending.returned (.bool x)) (by simp []), ?_⟩
  repeat (first | exact HB1 | exact Below.refl _ _ | refine Below.setCell ?_ (by first | omega | (simp; done) | (simp; omega)) _ | refine bdN ?_ _ | refine Below.drew ?_ | refine Below.alloc ?_ (by first | omega | (simp; done) | (simp; omega)) _)
end Go.Proofs.YtdbngfeelfgbeaaDoor

namespace Go.Proofs.YtdbngfeelfgbeaaDoor
open Go.RowKit
set_option linter.unusedVariables false

set_option maxHeartbeats 1000000 in
theorem insNo (op rd r1 r2 im : Int) (hL : ∀ w : World, Laid w → True) (w : World) (hl : Laid w) (h : op < 1 ∨ 64 < op) :
    Calls Tryd.prog 13 #[.agg #[.int .i64 op, .int .i64 rd, .int .i64 r1, .int .i64 r2, .int .i64 im]] w fun e w' => e = .returned (.bool false) ∧ Below w.heap.size w w' := by
  clear hL
  go_enter Tryd.func13, Tryd.ntmps13
  go_wp2_with fail
  refine (shapeNo op _ (laid_below hl ((Below.refl _ _).alloc (Nat.le_refl _) _)) h).mono ?_
  rintro e w1 ⟨rfl, hb1⟩
  have hz1 : w.heap.size < w1.heap.size := by have := hb1.size; simp at this; omega
  have HB1 : Hid (Below w.heap.size w w1) := ((Below.refl _ _).alloc (Nat.le_refl _) _).trans (hb1.mono (by simp))
  clear hb1 hl h
  unfold shV at *
  go_wp2
  go_ret
  exact ⟨rfl, HB1.out.alloc (by omega) _⟩

theorem insYes (op rd r1 r2 im : Int) (w : World) (h0 : 1 ≤ op) (h1 : op ≤ 64) :
    Calls Tryd.prog 13 #[.agg #[.int .i64 op, .int .i64 rd, .int .i64 r1, .int .i64 r2, .int .i64 im]] w fun e w' => e = .returned (.bool (rightF (shT op).1 rd r1 r2 im)) ∧ Below w.heap.size w w' := by
  have hf := shT_form op h0 h1
  obtain ⟨f, c, g, h, hs⟩ : ∃ f c g h, shT op = (f, c, g, h) := ⟨_, _, _, _, rfl⟩
  rw [hs]
  rw [hs] at hf
  change 1 ≤ f ∧ f ≤ 9 at hf
  change Calls _ _ _ _ fun e w' => e = .returned (.bool (rightF f rd r1 r2 im)) ∧ Below w.heap.size w w'
  rcases (show f = 1 ∨ f = 2 ∨ f = 3 ∨ f = 4 ∨ f = 5 ∨ f = 6 ∨ f = 7 ∨ f = 8 ∨ f = 9 by omega) with rfl | rfl | rfl | rfl | rfl | rfl | rfl | rfl | rfl
  · exact okA op rd r1 r2 im 1 c g h (okB 1 im) hs (fun w => told1 w) (fun w => fieldI1 im w) h0 h1 w
  · exact okA op rd r1 r2 im 2 c g h (okB 2 im) hs (fun w => told2 w) (fun w => fieldI2 im w) h0 h1 w
  · exact okB_ op rd r1 r2 im 3 c g h (okB 3 im) hs (fun w => told3 w) (fun w => fieldI3 im w) h0 h1 w
  · refine (okC op rd r1 r2 im 4 c g h (okB 4 im) hs (fun w => told4 w) (fun w => fieldI4 im w) h0 h1 w).mono ?_
    rintro e w' ⟨rfl, hb⟩
    exact ⟨congrArg (fun x => Ending.returned (.bool x)) (by show _ = (rd == 0 && regB r1 && regB r2 && okB 4 im); cases regB r1 <;> cases regB r2 <;> cases (rd == 0) <;> cases okB 4 im <;> rfl), hb⟩
  · refine (okD op rd r1 r2 im 5 c g h (okB 5 im) hs (fun w => told5 w) (fun w => fieldI5 im w) h0 h1 w).mono ?_
    rintro e w' ⟨rfl, hb⟩
    exact ⟨congrArg (fun x => Ending.returned (.bool x)) (by show _ = (rd == 0 && regB r1 && regB r2 && okB 5 im); cases regB r1 <;> cases regB r2 <;> cases (rd == 0) <;> cases okB 5 im <;> rfl), hb⟩
  · exact okB_ op rd r1 r2 im 6 c g h (okB 6 im) hs (fun w => told6 w) (fun w => fieldI6 im w) h0 h1 w
  · exact okB_ op rd r1 r2 im 7 c g h (okB 7 im) hs (fun w => told7 w) (fun w => fieldI7 im w) h0 h1 w
  · exact okE op rd r1 r2 im 8 c g h hs (fun w => told8 w) h0 h1 w
  · exact okF op rd r1 r2 im 9 c g h hs (fun w => told9 w) h0 h1 w

theorem insC (op rd r1 r2 im : Int) (w : World) (hl : Laid w) :
    Calls Tryd.prog 13 #[.agg #[.int .i64 op, .int .i64 rd, .int .i64 r1, .int .i64 r2, .int .i64 im]] w fun e w' => e = .returned (.bool (rightB op rd r1 r2 im)) ∧ Below w.heap.size w w' := by
  unfold rightB
  by_cases h : 1 ≤ op ∧ op ≤ 64
  · have e : decide (1 ≤ op ∧ op ≤ 64) = true := decide_eq_true h
    rw [e, Bool.true_and]
    exact insYes op rd r1 r2 im w h.1 h.2
  · have e : decide (1 ≤ op ∧ op ≤ 64) = false := decide_eq_false h
    rw [e, Bool.false_and]
    exact insNo op rd r1 r2 im (fun _ _ => trivial) w hl (by omega)
end Go.Proofs.YtdbngfeelfgbeaaDoor

namespace Go.Proofs.YtdbngfeelfgbeaaDoor
open Go.RowKit
set_option linter.unusedVariables false

/-- Five numbers at block b, to be written. -/
structure Five (w : World) (b : Nat) (v0 v1 v2 v3 v4 : Int) : Prop where
  c0 : w.cell? ⟨b, 0, none⟩ = some (.int .i64 v0)
  c1 : w.cell? ⟨b, 1, none⟩ = some (.int .i64 v1)
  c2 : w.cell? ⟨b, 2, none⟩ = some (.int .i64 v2)
  c3 : w.cell? ⟨b, 3, none⟩ = some (.int .i64 v3)
  c4 : w.cell? ⟨b, 4, none⟩ = some (.int .i64 v4)
  f0 : w.frozen? ⟨b, 0, none⟩ = false
  f1 : w.frozen? ⟨b, 1, none⟩ = false
  f2 : w.frozen? ⟨b, 2, none⟩ = false
  f3 : w.frozen? ⟨b, 3, none⟩ = false
  f4 : w.frozen? ⟨b, 4, none⟩ = false
theorem Five.set0 {w : World} {b : Nat} {v0 v1 v2 v3 v4 : Int} (h : Five w b v0 v1 v2 v3 v4) (x : Int) : Five (w.setCell ⟨b, 0, none⟩ (.int .i64 x)) b x v1 v2 v3 v4 :=
  ⟨World.cell?_setCell_same _ _ _ h.c0, (World.cell?_setCell_other _ _ _ _ (by simp)).trans h.c1, (World.cell?_setCell_other _ _ _ _ (by simp)).trans h.c2, (World.cell?_setCell_other _ _ _ _ (by simp)).trans h.c3, (World.cell?_setCell_other _ _ _ _ (by simp)).trans h.c4,
   (World.frozen?_setCell _ _ _ _).trans h.f0, (World.frozen?_setCell _ _ _ _).trans h.f1, (World.frozen?_setCell _ _ _ _).trans h.f2, (World.frozen?_setCell _ _ _ _).trans h.f3, (World.frozen?_setCell _ _ _ _).trans h.f4⟩
theorem Five.oth0 {w : World} {b d : Nat} {v0 v1 v2 v3 v4 : Int} (h : Five w b v0 v1 v2 v3 v4) (hd : b ≠ d) (u : Value) : Five (w.setCell ⟨d, 0, none⟩ u) b v0 v1 v2 v3 v4 :=
  ⟨(World.cell?_setCell_other _ _ _ _ (by simp <;> omega)).trans h.c0, (World.cell?_setCell_other _ _ _ _ (by simp <;> omega)).trans h.c1, (World.cell?_setCell_other _ _ _ _ (by simp <;> omega)).trans h.c2, (World.cell?_setCell_other _ _ _ _ (by simp <;> omega)).trans h.c3, (World.cell?_setCell_other _ _ _ _ (by simp <;> omega)).trans h.c4,
   (World.frozen?_setCell _ _ _ _).trans h.f0, (World.frozen?_setCell _ _ _ _).trans h.f1, (World.frozen?_setCell _ _ _ _).trans h.f2, (World.frozen?_setCell _ _ _ _).trans h.f3, (World.frozen?_setCell _ _ _ _).trans h.f4⟩
theorem Five.set1 {w : World} {b : Nat} {v0 v1 v2 v3 v4 : Int} (h : Five w b v0 v1 v2 v3 v4) (x : Int) : Five (w.setCell ⟨b, 1, none⟩ (.int .i64 x)) b v0 x v2 v3 v4 :=
  ⟨(World.cell?_setCell_other _ _ _ _ (by simp)).trans h.c0, World.cell?_setCell_same _ _ _ h.c1, (World.cell?_setCell_other _ _ _ _ (by simp)).trans h.c2, (World.cell?_setCell_other _ _ _ _ (by simp)).trans h.c3, (World.cell?_setCell_other _ _ _ _ (by simp)).trans h.c4,
   (World.frozen?_setCell _ _ _ _).trans h.f0, (World.frozen?_setCell _ _ _ _).trans h.f1, (World.frozen?_setCell _ _ _ _).trans h.f2, (World.frozen?_setCell _ _ _ _).trans h.f3, (World.frozen?_setCell _ _ _ _).trans h.f4⟩
theorem Five.oth1 {w : World} {b d : Nat} {v0 v1 v2 v3 v4 : Int} (h : Five w b v0 v1 v2 v3 v4) (hd : b ≠ d) (u : Value) : Five (w.setCell ⟨d, 1, none⟩ u) b v0 v1 v2 v3 v4 :=
  ⟨(World.cell?_setCell_other _ _ _ _ (by simp <;> omega)).trans h.c0, (World.cell?_setCell_other _ _ _ _ (by simp <;> omega)).trans h.c1, (World.cell?_setCell_other _ _ _ _ (by simp <;> omega)).trans h.c2, (World.cell?_setCell_other _ _ _ _ (by simp <;> omega)).trans h.c3, (World.cell?_setCell_other _ _ _ _ (by simp <;> omega)).trans h.c4,
   (World.frozen?_setCell _ _ _ _).trans h.f0, (World.frozen?_setCell _ _ _ _).trans h.f1, (World.frozen?_setCell _ _ _ _).trans h.f2, (World.frozen?_setCell _ _ _ _).trans h.f3, (World.frozen?_setCell _ _ _ _).trans h.f4⟩
theorem Five.set2 {w : World} {b : Nat} {v0 v1 v2 v3 v4 : Int} (h : Five w b v0 v1 v2 v3 v4) (x : Int) : Five (w.setCell ⟨b, 2, none⟩ (.int .i64 x)) b v0 v1 x v3 v4 :=
  ⟨(World.cell?_setCell_other _ _ _ _ (by simp)).trans h.c0, (World.cell?_setCell_other _ _ _ _ (by simp)).trans h.c1, World.cell?_setCell_same _ _ _ h.c2, (World.cell?_setCell_other _ _ _ _ (by simp)).trans h.c3, (World.cell?_setCell_other _ _ _ _ (by simp)).trans h.c4,
   (World.frozen?_setCell _ _ _ _).trans h.f0, (World.frozen?_setCell _ _ _ _).trans h.f1, (World.frozen?_setCell _ _ _ _).trans h.f2, (World.frozen?_setCell _ _ _ _).trans h.f3, (World.frozen?_setCell _ _ _ _).trans h.f4⟩
theorem Five.oth2 {w : World} {b d : Nat} {v0 v1 v2 v3 v4 : Int} (h : Five w b v0 v1 v2 v3 v4) (hd : b ≠ d) (u : Value) : Five (w.setCell ⟨d, 2, none⟩ u) b v0 v1 v2 v3 v4 :=
  ⟨(World.cell?_setCell_other _ _ _ _ (by simp <;> omega)).trans h.c0, (World.cell?_setCell_other _ _ _ _ (by simp <;> omega)).trans h.c1, (World.cell?_setCell_other _ _ _ _ (by simp <;> omega)).trans h.c2, (World.cell?_setCell_other _ _ _ _ (by simp <;> omega)).trans h.c3, (World.cell?_setCell_other _ _ _ _ (by simp <;> omega)).trans h.c4,
   (World.frozen?_setCell _ _ _ _).trans h.f0, (World.frozen?_setCell _ _ _ _).trans h.f1, (World.frozen?_setCell _ _ _ _).trans h.f2, (World.frozen?_setCell _ _ _ _).trans h.f3, (World.frozen?_setCell _ _ _ _).trans h.f4⟩
theorem Five.set3 {w : World} {b : Nat} {v0 v1 v2 v3 v4 : Int} (h : Five w b v0 v1 v2 v3 v4) (x : Int) : Five (w.setCell ⟨b, 3, none⟩ (.int .i64 x)) b v0 v1 v2 x v4 :=
  ⟨(World.cell?_setCell_other _ _ _ _ (by simp)).trans h.c0, (World.cell?_setCell_other _ _ _ _ (by simp)).trans h.c1, (World.cell?_setCell_other _ _ _ _ (by simp)).trans h.c2, World.cell?_setCell_same _ _ _ h.c3, (World.cell?_setCell_other _ _ _ _ (by simp)).trans h.c4,
   (World.frozen?_setCell _ _ _ _).trans h.f0, (World.frozen?_setCell _ _ _ _).trans h.f1, (World.frozen?_setCell _ _ _ _).trans h.f2, (World.frozen?_setCell _ _ _ _).trans h.f3, (World.frozen?_setCell _ _ _ _).trans h.f4⟩
theorem Five.oth3 {w : World} {b d : Nat} {v0 v1 v2 v3 v4 : Int} (h : Five w b v0 v1 v2 v3 v4) (hd : b ≠ d) (u : Value) : Five (w.setCell ⟨d, 3, none⟩ u) b v0 v1 v2 v3 v4 :=
  ⟨(World.cell?_setCell_other _ _ _ _ (by simp <;> omega)).trans h.c0, (World.cell?_setCell_other _ _ _ _ (by simp <;> omega)).trans h.c1, (World.cell?_setCell_other _ _ _ _ (by simp <;> omega)).trans h.c2, (World.cell?_setCell_other _ _ _ _ (by simp <;> omega)).trans h.c3, (World.cell?_setCell_other _ _ _ _ (by simp <;> omega)).trans h.c4,
   (World.frozen?_setCell _ _ _ _).trans h.f0, (World.frozen?_setCell _ _ _ _).trans h.f1, (World.frozen?_setCell _ _ _ _).trans h.f2, (World.frozen?_setCell _ _ _ _).trans h.f3, (World.frozen?_setCell _ _ _ _).trans h.f4⟩
theorem Five.set4 {w : World} {b : Nat} {v0 v1 v2 v3 v4 : Int} (h : Five w b v0 v1 v2 v3 v4) (x : Int) : Five (w.setCell ⟨b, 4, none⟩ (.int .i64 x)) b v0 v1 v2 v3 x :=
  ⟨(World.cell?_setCell_other _ _ _ _ (by simp)).trans h.c0, (World.cell?_setCell_other _ _ _ _ (by simp)).trans h.c1, (World.cell?_setCell_other _ _ _ _ (by simp)).trans h.c2, (World.cell?_setCell_other _ _ _ _ (by simp)).trans h.c3, World.cell?_setCell_same _ _ _ h.c4,
   (World.frozen?_setCell _ _ _ _).trans h.f0, (World.frozen?_setCell _ _ _ _).trans h.f1, (World.frozen?_setCell _ _ _ _).trans h.f2, (World.frozen?_setCell _ _ _ _).trans h.f3, (World.frozen?_setCell _ _ _ _).trans h.f4⟩
theorem Five.oth4 {w : World} {b d : Nat} {v0 v1 v2 v3 v4 : Int} (h : Five w b v0 v1 v2 v3 v4) (hd : b ≠ d) (u : Value) : Five (w.setCell ⟨d, 4, none⟩ u) b v0 v1 v2 v3 v4 :=
  ⟨(World.cell?_setCell_other _ _ _ _ (by simp <;> omega)).trans h.c0, (World.cell?_setCell_other _ _ _ _ (by simp <;> omega)).trans h.c1, (World.cell?_setCell_other _ _ _ _ (by simp <;> omega)).trans h.c2, (World.cell?_setCell_other _ _ _ _ (by simp <;> omega)).trans h.c3, (World.cell?_setCell_other _ _ _ _ (by simp <;> omega)).trans h.c4,
   (World.frozen?_setCell _ _ _ _).trans h.f0, (World.frozen?_setCell _ _ _ _).trans h.f1, (World.frozen?_setCell _ _ _ _).trans h.f2, (World.frozen?_setCell _ _ _ _).trans h.f3, (World.frozen?_setCell _ _ _ _).trans h.f4⟩
theorem Five.below {w w' : World} {b B : Nat} {v0 v1 v2 v3 v4 : Int} (h : Five w b v0 v1 v2 v3 v4) (hb : Below B w w') (hB : b < B) : Five w' b v0 v1 v2 v3 v4 :=
  ⟨(hb.cell (p := ⟨b, 0, none⟩) hB).trans h.c0, (hb.cell (p := ⟨b, 1, none⟩) hB).trans h.c1, (hb.cell (p := ⟨b, 2, none⟩) hB).trans h.c2, (hb.cell (p := ⟨b, 3, none⟩) hB).trans h.c3, (hb.cell (p := ⟨b, 4, none⟩) hB).trans h.c4,
   (hb.frozen (p := ⟨b, 0, none⟩) hB).trans h.f0, (hb.frozen (p := ⟨b, 1, none⟩) hB).trans h.f1, (hb.frozen (p := ⟨b, 2, none⟩) hB).trans h.f2, (hb.frozen (p := ⟨b, 3, none⟩) hB).trans h.f3, (hb.frozen (p := ⟨b, 4, none⟩) hB).trans h.f4⟩
theorem Five.drew {w : World} {b : Nat} {v0 v1 v2 v3 v4 : Int} (h : Five w b v0 v1 v2 v3 v4) : Five w.drew b v0 v1 v2 v3 v4 := ⟨h.c0, h.c1, h.c2, h.c3, h.c4, h.f0, h.f1, h.f2, h.f3, h.f4⟩
end Go.Proofs.YtdbngfeelfgbeaaDoor

namespace Go.Proofs.YtdbngfeelfgbeaaDoor.Tx
open Go.RowKit
set_option linter.unusedVariables false

theorem Tryd.info_str : (Tryd.prog.info? 9).map (fun i => (i.zero, i.size, i.bytes)) = some (some (.string ⟨#[]⟩), 1, 16) := by kernel_rfl
theorem info_parts {i? : Option TypeInfo} {z : Value} {a b : Nat} (h : i?.map (fun i => (i.zero, i.size, i.bytes)) = some (some z, a, b)) : ∃ i, i? = some i ∧ i.zero = some z ∧ i.size = a ∧ i.bytes = b := by
  obtain ⟨i, hi, he⟩ := Option.map_eq_some_iff.1 h
  simp only [Prod.mk.injEq] at he
  exact ⟨i, hi, he.1, he.2.1, he.2.2⟩

def letterOK (l : UInt8) : Prop := l = 100 ∨ l = 49 ∨ l = 50 ∨ l = 105
def offL (l : UInt8) : Nat := if l = 100 then 1 else if l = 49 then 2 else if l = 50 then 3 else 4
def valL (l : UInt8) (rd r1 r2 im : Int) : Int := if l = 100 then rd else if l = 49 then r1 else if l = 50 then r2 else im
theorem fldAny (l : UInt8) (hl : letterOK l) (b : Nat) (w : World) :
    Calls Tryd.prog 17 #[.pointer (some ⟨b, 0, none⟩), .int .u8 (l.toNat : Int)] w fun e w' => e = .returned (.pointer (some ⟨b, offL l, none⟩)) ∧ w' = w := by
  rcases hl with rfl | rfl | rfl | rfl
  · exact fld100 b w
  · exact fld49 b w
  · exact fld50 b w
  · exact fld105 b w
theorem five_at {w : World} {b : Nat} {op rd r1 r2 im : Int} (h : Five w b op rd r1 r2 im) (l : UInt8) (hl : letterOK l) : w.cell? ⟨b, offL l, none⟩ = some (.int .i64 (valL l rd r1 r2 im)) := by
  rcases hl with rfl | rfl | rfl | rfl
  · exact h.c1
  · exact h.c2
  · exact h.c3
  · exact h.c4
theorem fldTxt (l : UInt8) (hl : letterOK l) (v : Int) (h : In64 v) (w : World) (hp : Pow w) :
    Calls Tryd.prog 16 #[.int .u8 (l.toNat : Int), .int .i64 v] w fun e w' => e = .returned (.string (txt (wordF l v))) ∧ Below w.heap.size w w' := by
  rcases hl with rfl | rfl | rfl | rfl
  · exact fldReg 100 (by decide) v h w hp
  · exact fldReg 49 (by decide) v h w hp
  · exact fldReg 50 (by decide) v h w hp
  · exact fldImm v h w hp

def vals (ls : List (List UInt8)) : List Value := ls.map fun t => .string (txt t)
theorem vals_snoc (ls : List (List UInt8)) (x : List UInt8) : vals (ls ++ [x]) = vals ls ++ vals [x] := by simp [vals]
/-- The words of an instruction's text behind its name. -/
def fieldsL (told : List UInt8) (rd r1 r2 im : Int) : List (List UInt8) := told.map fun l => wordF l (valL l rd r1 r2 im)

/-- What a form tells. -/
structure Told (f : Int) (told : ByteArray) : Prop where
  call : ∀ w, Calls Tryd.prog 14 #[.int .i64 f] w fun e w' => e = .returned (.string told) ∧ w' = w
  ok : ∀ l ∈ told.data.toList, letterOK l
  few : told.size ≤ 3
  text : ∀ n rd r1 r2 im, Lib.join (n :: fieldsL told.data.toList rd r1 r2 im) [32] = textL f n rd r1 r2 im

theorem told_all (f : Int) (h0 : 1 ≤ f) (h1 : f ≤ 9) : ∃ told, Told f told := by
  rcases (show f = 1 ∨ f = 2 ∨ f = 3 ∨ f = 4 ∨ f = 5 ∨ f = 6 ∨ f = 7 ∨ f = 8 ∨ f = 9 by omega) with rfl | rfl | rfl | rfl | rfl | rfl | rfl | rfl | rfl
  · exact ⟨_, told1, by simp [letterOK], by decide, by intros; simp [Lib.join_cons, Lib.joinTail, fieldsL, wordF, valL, textL, regT, immT]⟩
  · exact ⟨_, told2, by simp [letterOK], by decide, by intros; simp [Lib.join_cons, Lib.joinTail, fieldsL, wordF, valL, textL, regT, immT]⟩
  · exact ⟨_, told3, by simp [letterOK], by decide, by intros; simp [Lib.join_cons, Lib.joinTail, fieldsL, wordF, valL, textL, regT, immT]⟩
  · exact ⟨_, told4, by simp [letterOK], by decide, by intros; simp [Lib.join_cons, Lib.joinTail, fieldsL, wordF, valL, textL, regT, immT]⟩
  · exact ⟨_, told5, by simp [letterOK], by decide, by intros; simp [Lib.join_cons, Lib.joinTail, fieldsL, wordF, valL, textL, regT, immT]⟩
  · exact ⟨_, told6, by simp [letterOK], by decide, by intros; simp [Lib.join_cons, Lib.joinTail, fieldsL, wordF, valL, textL, regT, immT]⟩
  · exact ⟨_, told7, by simp [letterOK], by decide, by intros; simp [Lib.join_cons, Lib.joinTail, fieldsL, wordF, valL, textL, regT, immT]⟩
  · exact ⟨_, told8, by simp [letterOK], by decide, by intros; simp [Lib.join_cons, Lib.joinTail, fieldsL, wordF, valL, textL, regT]⟩
  · exact ⟨_, told9, by simp [letterOK], by decide, by intros; simp [Lib.join_cons, Lib.joinTail, fieldsL, textL]⟩

theorem textL_len (f : Int) (n : List UInt8) (rd r1 r2 im : Int) (hn : n.length ≤ 100) (h1 : In64 rd) (h2 : In64 r1) (h3 : In64 r2) (h4 : In64 im) : (textL f n rd r1 r2 im).length ≤ 200 := by
  have L1 := regT_len rd h1
  have L2 := regT_len r1 h2
  have L3 := regT_len r2 h3
  have L4 := immT_len im h4
  unfold textL
  repeat' split
  all_goals simp <;> omega
end Go.Proofs.YtdbngfeelfgbeaaDoor.Tx
