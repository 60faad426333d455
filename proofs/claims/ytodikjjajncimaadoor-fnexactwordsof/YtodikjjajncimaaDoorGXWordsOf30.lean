/- InstrOK, told fields ''. InstrOK of the program: the contract. -/
import Derived.Test.YtodikjjajncimaaDoorGXWordsOf20
import Derived.Test.YtodikjjajncimaaDoorGXWordsOf27
import Derived.Test.YtodikjjajncimaaDoorGXWordsOf28
import Derived.Test.YtodikjjajncimaaDoorGXWordsOf29
import Derived.Test.YtodikjjajncimaaDoorGXWordsOf21
namespace Go.Proofs.YtodikjjajncimaaDoor
open Go.RowKit
set_option linter.unusedVariables false

set_option maxRecDepth 100000 in
set_option maxHeartbeats 8000000 in
theorem okF (op rd r1 r2 im f c g h : Int) (hs : Hid (shT op = (f, c, g, h))) (ht : Hid (ToldIs f { data := #[] })) (h0 : 1 ≤ op) (h1 : op ≤ 64) (w : World) :
    Calls Tryd.prog 13 #[.agg #[.int .i64 op, .int .i64 rd, .int .i64 r1, .int .i64 r2, .int .i64 im]] w fun e w' => e = .returned (.bool (rd == 0 && r1 == 0 && r2 == 0 && im == 0)) ∧ Below w.heap.size w w' := by
  go_enter Tryd.func13, Tryd.ntmps13
  go_wp2_with fail
  refine (shapeOKs op f c g h _ hs.out h0 h1).mono ?_
  rintro e w1 ⟨rfl, hb1⟩
  obtain ⟨hc1, hf1⟩ := bcell hb1
  have hz1 : w.heap.size < w1.heap.size := by have := hb1.size; simp at this; omega
  have HB1 : Below w.heap.size w w1 := ((Below.refl _ _).alloc (Nat.le_refl _) _).trans (hb1.mono (by simp))
  have hx : w1.cell? ⟨w.heap.size, 0, none⟩ = some (.int .i64 op) := by
    rw [hc1 _ _ (by simp)]
    simp
  clear hs hb1
  go_wp2_with fail
  refine (ht.out _).mono ?_
  rintro e w2 ⟨rfl, rfl⟩
  clear ht
  go_wp2
  refine wp_loop_rounds 1 ?_
  rw [rounds_succ]
  by_cases erd : rd = 0
  case neg =>
    have nrd : (rd == 0) = false := by simpa using erd
    go_wp2
    go_ret
    refine ⟨congrArg (fun x => Ending.returned (.bool x)) (by simp [nrd]), ?_⟩
    repeat (first | exact HB1 | exact Below.refl _ _ | refine Below.setCell ?_ (by first | omega | (simp; done) | (simp; omega)) _ | refine bdN ?_ _ | refine Below.drew ?_ | refine Below.alloc ?_ (by first | omega | (simp; done) | (simp; omega)) _)
  subst erd
  by_cases er1 : r1 = 0
  case neg =>
    have nr1 : (r1 == 0) = false := by simpa using er1
    go_wp2
    go_ret
    refine ⟨congrArg (fun x => Ending.returned (.bool x)) (by simp [nr1]), ?_⟩
    repeat (first | exact HB1 | exact Below.refl _ _ | refine Below.setCell ?_ (by first | omega | (simp; done) | (simp; omega)) _ | refine bdN ?_ _ | refine Below.drew ?_ | refine Below.alloc ?_ (by first | omega | (simp; done) | (simp; omega)) _)
  subst er1
  by_cases er2 : r2 = 0
  case neg =>
    have nr2 : (r2 == 0) = false := by simpa using er2
    go_wp2
    go_ret
    refine ⟨congrArg (fun x => Ending.returned (.bool x)) (by simp [nr2]), ?_⟩
    repeat (first | exact HB1 | exact Below.refl _ _ | refine Below.setCell ?_ (by first | omega | (simp; done) | (simp; omega)) _ | refine bdN ?_ _ | refine Below.drew ?_ | refine Below.alloc ?_ (by first | omega | (simp; done) | (simp; omega)) _)
  subst er2
  by_cases eim : im = 0
  case neg =>
    have nim : (im == 0) = false := by simpa using eim
    go_wp2
    go_ret
    refine ⟨congrArg (fun x => Ending.returned (.bool x)) (by simp [nim]), ?_⟩
    repeat (first | exact HB1 | exact Below.refl _ _ | refine Below.setCell ?_ (by first | omega | (simp; done) | (simp; omega)) _ | refine bdN ?_ _ | refine Below.drew ?_ | refine Below.alloc ?_ (by first | omega | (simp; done) | (simp; omega)) _)
  subst eim
  go_wp2
  go_ret
  refine ⟨congrArg (fun x => Ending.returned (.bool x)) (by simp []), ?_⟩
  repeat (first | exact HB1 | exact Below.refl _ _ | refine Below.setCell ?_ (by first | omega | (simp; done) | (simp; omega)) _ | refine bdN ?_ _ | refine Below.drew ?_ | refine Below.alloc ?_ (by first | omega | (simp; done) | (simp; omega)) _)
end Go.Proofs.YtodikjjajncimaaDoor

namespace Go.Proofs.YtodikjjajncimaaDoor
open Go.RowKit
set_option linter.unusedVariables false

set_option maxHeartbeats 1000000 in
theorem insNo (op rd r1 r2 im : Int) (hL : ∀ w : World, Laid w → True) (w : World) (hl : Laid w) (h : op < 1 ∨ 64 < op) :
    Calls Tryd.prog 13 #[.agg #[.int .i64 op, .int .i64 rd, .int .i64 r1, .int .i64 r2, .int .i64 im]] w fun e w' => e = .returned (.bool false) ∧ Below w.heap.size w w' := by
  clear hL
  go_enter Tryd.func13, Tryd.ntmps13
  go_wp2_with fail
  refine (shapeNo op _ (laid_below hl ((Below.refl _ _).alloc (Nat.le_refl _) _)) h).mono ?_
  rintro e w1 ⟨rfl, hb1⟩
  have hz1 : w.heap.size < w1.heap.size := by have := hb1.size; simp at this; omega
  have HB1 : Hid (Below w.heap.size w w1) := ((Below.refl _ _).alloc (Nat.le_refl _) _).trans (hb1.mono (by simp))
  clear hb1 hl h
  unfold shV at *
  go_wp2
  go_ret
  exact ⟨rfl, HB1.out.alloc (by omega) _⟩

theorem insYes (op rd r1 r2 im : Int) (w : World) (h0 : 1 ≤ op) (h1 : op ≤ 64) :
    Calls Tryd.prog 13 #[.agg #[.int .i64 op, .int .i64 rd, .int .i64 r1, .int .i64 r2, .int .i64 im]] w fun e w' => e = .returned (.bool (rightF (shT op).1 rd r1 r2 im)) ∧ Below w.heap.size w w' := by
  have hf := shT_form op h0 h1
  obtain ⟨f, c, g, h, hs⟩ : ∃ f c g h, shT op = (f, c, g, h) := ⟨_, _, _, _, rfl⟩
  rw [hs]
  rw [hs] at hf
  change 1 ≤ f ∧ f ≤ 9 at hf
  change Calls _ _ _ _ fun e w' => e = .returned (.bool (rightF f rd r1 r2 im)) ∧ Below w.heap.size w w'
  rcases (show f = 1 ∨ f = 2 ∨ f = 3 ∨ f = 4 ∨ f = 5 ∨ f = 6 ∨ f = 7 ∨ f = 8 ∨ f = 9 by omega) with rfl | rfl | rfl | rfl | rfl | rfl | rfl | rfl | rfl
  · exact okA op rd r1 r2 im 1 c g h (okB 1 im) hs (fun w => told1 w) (fun w => fieldI1 im w) h0 h1 w
  · exact okA op rd r1 r2 im 2 c g h (okB 2 im) hs (fun w => told2 w) (fun w => fieldI2 im w) h0 h1 w
  · exact okB_ op rd r1 r2 im 3 c g h (okB 3 im) hs (fun w => told3 w) (fun w => fieldI3 im w) h0 h1 w
  · refine (okC op rd r1 r2 im 4 c g h (okB 4 im) hs (fun w => told4 w) (fun w => fieldI4 im w) h0 h1 w).mono ?_
    rintro e w' ⟨rfl, hb⟩
    exact ⟨congrArg (fun x => Ending.returned (.bool x)) (by show _ = (rd == 0 && regB r1 && regB r2 && okB 4 im); cases regB r1 <;> cases regB r2 <;> cases (rd == 0) <;> cases okB 4 im <;> rfl), hb⟩
  · refine (okD op rd r1 r2 im 5 c g h (okB 5 im) hs (fun w => told5 w) (fun w => fieldI5 im w) h0 h1 w).mono ?_
    rintro e w' ⟨rfl, hb⟩
    exact ⟨congrArg (fun x => Ending.returned (.bool x)) (by show _ = (rd == 0 && regB r1 && regB r2 && okB 5 im); cases regB r1 <;> cases regB r2 <;> cases (rd == 0) <;> cases okB 5 im <;> rfl), hb⟩
  · exact okB_ op rd r1 r2 im 6 c g h (okB 6 im) hs (fun w => told6 w) (fun w => fieldI6 im w) h0 h1 w
  · exact okB_ op rd r1 r2 im 7 c g h (okB 7 im) hs (fun w => told7 w) (fun w => fieldI7 im w) h0 h1 w
  · exact okE op rd r1 r2 im 8 c g h hs (fun w => told8 w) h0 h1 w
  · exact okF op rd r1 r2 im 9 c g h hs (fun w => told9 w) h0 h1 w

theorem insC (op rd r1 r2 im : Int) (w : World) (hl : Laid w) :
    Calls Tryd.prog 13 #[.agg #[.int .i64 op, .int .i64 rd, .int .i64 r1, .int .i64 r2, .int .i64 im]] w fun e w' => e = .returned (.bool (rightB op rd r1 r2 im)) ∧ Below w.heap.size w w' := by
  unfold rightB
  by_cases h : 1 ≤ op ∧ op ≤ 64
  · have e : decide (1 ≤ op ∧ op ≤ 64) = true := decide_eq_true h
    rw [e, Bool.true_and]
    exact insYes op rd r1 r2 im w h.1 h.2
  · have e : decide (1 ≤ op ∧ op ≤ 64) = false := decide_eq_false h
    rw [e, Bool.false_and]
    exact insNo op rd r1 r2 im (fun _ _ => trivial) w hl (by omega)
end Go.Proofs.YtodikjjajncimaaDoor
