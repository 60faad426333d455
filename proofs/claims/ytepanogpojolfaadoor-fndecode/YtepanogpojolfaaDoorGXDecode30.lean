/- InstrOK, told fields 'd12'. InstrOK, told fields ''. InstrOK of the program: the contract. Encode of the program: the contract. -/
import Derived.Test.YtepanogpojolfaaDoorGXDecode18
import Derived.Test.YtepanogpojolfaaDoorGXDecode26
import Derived.Test.YtepanogpojolfaaDoorGXDecode27
import Derived.Test.YtepanogpojolfaaDoorGXDecode28
import Derived.Test.YtepanogpojolfaaDoorGXDecode29
import Derived.Test.YtepanogpojolfaaDoorGXDecode20
import Derived.Deep.RegionHeld3
namespace Go.Proofs.YtepanogpojolfaaDoor
open Go.RowKit
set_option linter.unusedVariables false

set_option maxRecDepth 100000 in
set_option maxHeartbeats 8000000 in
theorem okE (op rd r1 r2 im f c g h : Int) (hs : Hid (shT op = (f, c, g, h))) (ht : Hid (ToldIs f { data := #[100, 49, 50] })) (h0 : 1 ≤ op) (h1 : op ≤ 64) (w : World) :
    Calls Tryd.prog 13 #[.agg #[.int .i64 op, .int .i64 rd, .int .i64 r1, .int .i64 r2, .int .i64 im]] w fun e w' => e = .returned (.bool (regB rd && regB r1 && regB r2 && im == 0)) ∧ Below w.heap.size w w' := by
  go_enter Tryd.func13, Tryd.ntmps13
  go_wp2_with fail
  refine (shapeOKs op f c g h _ hs.out h0 h1).mono ?_
  rintro e w1 ⟨rfl, hb1⟩
  obtain ⟨hc1, hf1⟩ := bcell hb1
  have hz1 : w.heap.size < w1.heap.size := by have := hb1.size; simp at this; omega
  have HB1 : Below w.heap.size w w1 := ((Below.refl _ _).alloc (Nat.le_refl _) _).trans (hb1.mono (by simp))
  have hx : w1.cell? ⟨w.heap.size, 0, none⟩ = some (.int .i64 op) := by
    rw [hc1 _ _ (by simp)]
    simp
  clear hs hb1
  go_wp2_with fail
  refine (ht.out _).mono ?_
  rintro e w2 ⟨rfl, rfl⟩
  clear ht
  go_wp2
  refine wp_loop_rounds 4 ?_
  rw [rounds_succ]
  go_wp2_with (go_at_call 47; refine (fld100 _ _).mono ?_; rintro e w2 ⟨rfl, rfl⟩)
  cases hr1 : regB rd with
  | false =>
    go_quiet ((go_at_call 48; exact Calls.quiet_of_same (fieldR f 100 rd (by decide) _)))
    go_wp2
    go_ret
    refine ⟨congrArg (fun x => Ending.returned (.bool x)) (by simp [hr1]), ?_⟩
    repeat (first | exact HB1 | exact Below.refl _ _ | refine Below.setCell ?_ (by first | omega | (simp; done) | (simp; omega)) _ | refine bdN ?_ _ | refine Below.drew ?_ | refine Below.alloc ?_ (by first | omega | (simp; done) | (simp; omega)) _)
  | true =>
    go_quiet ((go_at_call 48; exact Calls.quiet_of_same (fieldR f 100 rd (by decide) _)))
    go_wp2
    rw [rounds_succ]
    go_wp2_with (go_at_call 47; refine (fld49 _ _).mono ?_; rintro e w2 ⟨rfl, rfl⟩)
    cases hr2 : regB r1 with
    | false =>
      go_quiet ((go_at_call 48; exact Calls.quiet_of_same (fieldR f 49 r1 (by decide) _)))
      go_wp2
      go_ret
      refine ⟨congrArg (fun x => Ending.returned (.bool x)) (by simp [hr2]), ?_⟩
      repeat (first | exact HB1 | exact Below.refl _ _ | refine Below.setCell ?_ (by first | omega | (simp; done) | (simp; omega)) _ | refine bdN ?_ _ | refine Below.drew ?_ | refine Below.alloc ?_ (by first | omega | (simp; done) | (simp; omega)) _)
    | true =>
      go_quiet ((go_at_call 48; exact Calls.quiet_of_same (fieldR f 49 r1 (by decide) _)))
      go_wp2
      rw [rounds_succ]
      go_wp2_with (go_at_call 47; refine (fld50 _ _).mono ?_; rintro e w2 ⟨rfl, rfl⟩)
      cases hr3 : regB r2 with
      | false =>
        go_quiet ((go_at_call 48; exact Calls.quiet_of_same (fieldR f 50 r2 (by decide) _)))
        go_wp2
        go_ret
        refine ⟨congrArg (fun x => Ending.returned (.bool x)) (by simp [hr3]), ?_⟩
        repeat (first | exact HB1 | exact Below.refl _ _ | refine Below.setCell ?_ (by first | omega | (simp; done) | (simp; omega)) _ | refine bdN ?_ _ | refine Below.drew ?_ | refine Below.alloc ?_ (by first | omega | (simp; done) | (simp; omega)) _)
      | true =>
        go_quiet ((go_at_call 48; exact Calls.quiet_of_same (fieldR f 50 r2 (by decide) _)))
        go_wp2
        rw [rounds_succ]
        by_cases eim : im = 0
        case neg =>
          have nim : (im == 0) = false := by simpa using eim
          go_wp2
          go_ret
          refine ⟨congrArg (fun x => Ending.returned (.bool x)) (by simp [hr1, hr2, hr3, nim]), ?_⟩
          repeat (first | exact HB1 | exact Below.refl _ _ | refine Below.setCell ?_ (by first | omega | (simp; done) | (simp; omega)) _ | refine bdN ?_ _ | refine Below.drew ?_ | refine Below.alloc ?_ (by first | omega | (simp; done) | (simp; omega)) _)
        subst eim
        go_wp2
        go_ret
        refine ⟨congrArg (fun x => Ending.returned (.bool x)) (by simp [hr1, hr2, hr3]), ?_⟩
        repeat (first | exact HB1 | exact Below.refl _ _ | refine Below.setCell ?_ (by first | omega | (simp; done) | (simp; omega)) _ | refine bdN ?_ _ | refine Below.drew ?_ | refine Below.alloc ?_ (by first | omega | (simp; done) | (simp; omega)) _)
end Go.Proofs.YtepanogpojolfaaDoor

namespace Go.Proofs.YtepanogpojolfaaDoor
open Go.RowKit
set_option linter.unusedVariables false

set_option maxRecDepth 100000 in
set_option maxHeartbeats 8000000 in
theorem okF (op rd r1 r2 im f c g h : Int) (hs : Hid (shT op = (f, c, g, h))) (ht : Hid (ToldIs f { data := #[] })) (h0 : 1 ≤ op) (h1 : op ≤ 64) (w : World) :
    Calls Tryd.prog 13 #[.agg #[.int .i64 op, .int .i64 rd, .int .i64 r1, .int .i64 r2, .int .i64 im]] w fun e w' => e = .returned (.bool (rd == 0 && r1 == 0 && r2 == 0 && im == 0)) ∧ Below w.heap.size w w' := by
  go_enter Tryd.func13, Tryd.ntmps13
  go_wp2_with fail
  refine (shapeOKs op f c g h _ hs.out h0 h1).mono ?_
  rintro e w1 ⟨rfl, hb1⟩
  obtain ⟨hc1, hf1⟩ := bcell hb1
  have hz1 : w.heap.size < w1.heap.size := by have := hb1.size; simp at this; omega
  have HB1 : Below w.heap.size w w1 := ((Below.refl _ _).alloc (Nat.le_refl _) _).trans (hb1.mono (by simp))
  have hx : w1.cell? ⟨w.heap.size, 0, none⟩ = some (.int .i64 op) := by
    rw [hc1 _ _ (by simp)]
    simp
  clear hs hb1
  go_wp2_with fail
  refine (ht.out _).mono ?_
  rintro e w2 ⟨rfl, rfl⟩
  clear ht
  go_wp2
  refine wp_loop_rounds 1 ?_
  rw [rounds_succ]
  by_cases erd : rd = 0
  case neg =>
    have nrd : (rd == 0) = false := by simpa using erd
    go_wp2
    go_ret
    refine ⟨congrArg (fun x => Ending.returned (.bool x)) (by simp [nrd]), ?_⟩
    repeat (first | exact HB1 | exact Below.refl _ _ | refine Below.setCell ?_ (by first | omega | (simp; done) | (simp; omega)) _ | refine bdN ?_ _ | refine Below.drew ?_ | refine Below.alloc ?_ (by first | omega | (simp; done) | (simp; omega)) _)
  subst erd
  by_cases er1 : r1 = 0
  case neg =>
    have nr1 : (r1 == 0) = false := by simpa using er1
    go_wp2
    go_ret
    refine ⟨congrArg (fun x => Ending.returned (.bool x)) (by simp [nr1]), ?_⟩
    repeat (first | exact HB1 | exact Below.refl _ _ | refine Below.setCell ?_ (by first | omega | (simp; done) | (simp; omega)) _ | refine bdN ?_ _ | refine Below.drew ?_ | refine Below.alloc ?_ (by first | omega | (simp; done) | (simp; omega)) _)
  subst er1
  by_cases er2 : r2 = 0
  case neg =>
    have nr2 : (r2 == 0) = false := by simpa using er2
    go_wp2
    go_ret
    refine ⟨congrArg (fun x => Ending.returned (.bool x)) (by simp [nr2]), ?_⟩
    repeat (first | exact HB1 | exact Below.refl _ _ | refine Below.setCell ?_ (by first | omega | (simp; done) | (simp; omega)) _ | refine bdN ?_ _ | refine Below.drew ?_ | refine Below.alloc ?_ (by first | omega | (simp; done) | (simp; omega)) _)
  subst er2
  by_cases eim : im = 0
  case neg =>
    have nim : (im == 0) = false := by simpa using eim
    go_wp2
    go_ret
    refine ⟨congrArg (fun x => Ending.returned (.bool x)) (by simp [nim]), ?_⟩
    repeat (first | exact HB1 | exact Below.refl _ _ | refine Below.setCell ?_ (by first | omega | (simp; done) | (simp; omega)) _ | refine bdN ?_ _ | refine Below.drew ?_ | refine Below.alloc ?_ (by first | omega | (simp; done) | (simp; omega)) _)
  subst eim
  go_wp2
  go_ret
  refine ⟨congrArg (fun x => Ending.returned (.bool x)) (by simp []), ?_⟩
  repeat (first | exact HB1 | exact Below.refl _ _ | refine Below.setCell ?_ (by first | omega | (simp; done) | (simp; omega)) _ | refine bdN ?_ _ | refine Below.drew ?_ | refine Below.alloc ?_ (by first | omega | (simp; done) | (simp; omega)) _)
end Go.Proofs.YtepanogpojolfaaDoor

namespace Go.Proofs.YtepanogpojolfaaDoor
open Go.RowKit
set_option linter.unusedVariables false

set_option maxHeartbeats 1000000 in
theorem insNo (op rd r1 r2 im : Int) (hL : ∀ w : World, Laid w → True) (w : World) (hl : Laid w) (h : op < 1 ∨ 64 < op) :
    Calls Tryd.prog 13 #[.agg #[.int .i64 op, .int .i64 rd, .int .i64 r1, .int .i64 r2, .int .i64 im]] w fun e w' => e = .returned (.bool false) ∧ Below w.heap.size w w' := by
  clear hL
  go_enter Tryd.func13, Tryd.ntmps13
  go_wp2_with fail
  refine (shapeNo op _ (laid_below hl ((Below.refl _ _).alloc (Nat.le_refl _) _)) h).mono ?_
  rintro e w1 ⟨rfl, hb1⟩
  have hz1 : w.heap.size < w1.heap.size := by have := hb1.size; simp at this; omega
  have HB1 : Hid (Below w.heap.size w w1) := ((Below.refl _ _).alloc (Nat.le_refl _) _).trans (hb1.mono (by simp))
  clear hb1 hl h
  unfold shV at *
  go_wp2
  go_ret
  exact ⟨rfl, HB1.out.alloc (by omega) _⟩

theorem insYes (op rd r1 r2 im : Int) (w : World) (h0 : 1 ≤ op) (h1 : op ≤ 64) :
    Calls Tryd.prog 13 #[.agg #[.int .i64 op, .int .i64 rd, .int .i64 r1, .int .i64 r2, .int .i64 im]] w fun e w' => e = .returned (.bool (rightF (shT op).1 rd r1 r2 im)) ∧ Below w.heap.size w w' := by
  have hf := shT_form op h0 h1
  obtain ⟨f, c, g, h, hs⟩ : ∃ f c g h, shT op = (f, c, g, h) := ⟨_, _, _, _, rfl⟩
  rw [hs]
  rw [hs] at hf
  change 1 ≤ f ∧ f ≤ 9 at hf
  change Calls _ _ _ _ fun e w' => e = .returned (.bool (rightF f rd r1 r2 im)) ∧ Below w.heap.size w w'
  rcases (show f = 1 ∨ f = 2 ∨ f = 3 ∨ f = 4 ∨ f = 5 ∨ f = 6 ∨ f = 7 ∨ f = 8 ∨ f = 9 by omega) with rfl | rfl | rfl | rfl | rfl | rfl | rfl | rfl | rfl
  · exact okA op rd r1 r2 im 1 c g h (okB 1 im) hs (fun w => told1 w) (fun w => fieldI1 im w) h0 h1 w
  · exact okA op rd r1 r2 im 2 c g h (okB 2 im) hs (fun w => told2 w) (fun w => fieldI2 im w) h0 h1 w
  · exact okB_ op rd r1 r2 im 3 c g h (okB 3 im) hs (fun w => told3 w) (fun w => fieldI3 im w) h0 h1 w
  · refine (okC op rd r1 r2 im 4 c g h (okB 4 im) hs (fun w => told4 w) (fun w => fieldI4 im w) h0 h1 w).mono ?_
    rintro e w' ⟨rfl, hb⟩
    exact ⟨congrArg (fun x => Ending.returned (.bool x)) (by show _ = (rd == 0 && regB r1 && regB r2 && okB 4 im); cases regB r1 <;> cases regB r2 <;> cases (rd == 0) <;> cases okB 4 im <;> rfl), hb⟩
  · refine (okD op rd r1 r2 im 5 c g h (okB 5 im) hs (fun w => told5 w) (fun w => fieldI5 im w) h0 h1 w).mono ?_
    rintro e w' ⟨rfl, hb⟩
    exact ⟨congrArg (fun x => Ending.returned (.bool x)) (by show _ = (rd == 0 && regB r1 && regB r2 && okB 5 im); cases regB r1 <;> cases regB r2 <;> cases (rd == 0) <;> cases okB 5 im <;> rfl), hb⟩
  · exact okB_ op rd r1 r2 im 6 c g h (okB 6 im) hs (fun w => told6 w) (fun w => fieldI6 im w) h0 h1 w
  · exact okB_ op rd r1 r2 im 7 c g h (okB 7 im) hs (fun w => told7 w) (fun w => fieldI7 im w) h0 h1 w
  · exact okE op rd r1 r2 im 8 c g h hs (fun w => told8 w) h0 h1 w
  · exact okF op rd r1 r2 im 9 c g h hs (fun w => told9 w) h0 h1 w

theorem insC (op rd r1 r2 im : Int) (w : World) (hl : Laid w) :
    Calls Tryd.prog 13 #[.agg #[.int .i64 op, .int .i64 rd, .int .i64 r1, .int .i64 r2, .int .i64 im]] w fun e w' => e = .returned (.bool (rightB op rd r1 r2 im)) ∧ Below w.heap.size w w' := by
  unfold rightB
  by_cases h : 1 ≤ op ∧ op ≤ 64
  · have e : decide (1 ≤ op ∧ op ≤ 64) = true := decide_eq_true h
    rw [e, Bool.true_and]
    exact insYes op rd r1 r2 im w h.1 h.2
  · have e : decide (1 ≤ op ∧ op ≤ 64) = false := decide_eq_false h
    rw [e, Bool.false_and]
    exact insNo op rd r1 r2 im (fun _ _ => trivial) w hl (by omega)
end Go.Proofs.YtepanogpojolfaaDoor

namespace Go.Proofs.YtepanogpojolfaaDoor
open Go.RowKit
set_option linter.unusedVariables false

theorem right_parts {f rd r1 r2 im : Int} (h0 : 1 ≤ f) (h1 : f ≤ 9) (h : rightF f rd r1 r2 im = true) :
    (regB rd = true ∧ regB r1 = true ∧ regB r2 = true) ∧ (f = 4 ∨ f = 5 ∨ f = 9 → rd = 0) ∧ (f = 1 ∨ f = 2 ∨ f = 9 → r1 = 0) ∧ (¬ (f = 4 ∨ f = 5 ∨ f = 8) → r2 = 0) := by
  have hz : ∀ r : Int, (r == 0) = true → regB r = true ∧ r = 0 := fun r e => by
    have := eq_of_beq e
    subst this
    exact ⟨rfl, rfl⟩
  rcases (show f = 1 ∨ f = 2 ∨ f = 3 ∨ f = 4 ∨ f = 5 ∨ f = 6 ∨ f = 7 ∨ f = 8 ∨ f = 9 by omega) with rfl | rfl | rfl | rfl | rfl | rfl | rfl | rfl | rfl
  all_goals
    simp [rightF] at h
    simp
    try omega
  all_goals simp_all [regB]

/-- The rule of a form, and what it lays. -/
theorem rule_lay (f im : Int) (h0 : 1 ≤ f) (h1 : f ≤ 9) : ∃ R : Value, (∀ w, Calls Tryd.prog 37 #[.int .i64 f] w fun e w' => e = .returned R ∧ Below w.heap.size w w') ∧
    (∀ w, Calls Tryd.prog 38 #[R, .int .i64 im] w fun e w' => e = .returned (.int .i64 (layF f im)) ∧ Below w.heap.size w w') := by
  rcases (show f = 1 ∨ f = 2 ∨ f = 3 ∨ f = 4 ∨ f = 5 ∨ f = 6 ∨ f = 7 ∨ f = 8 ∨ f = 9 by omega) with rfl | rfl | rfl | rfl | rfl | rfl | rfl | rfl | rfl
  · exact ⟨rule1, fun w => rule_1 w, fun w => lay1 im w⟩
  · exact ⟨rule2, fun w => rule_2 w, fun w => lay2 im w⟩
  · exact ⟨rule3, fun w => rule_3 w, fun w => lay3 im w⟩
  · exact ⟨rule4, fun w => rule_4 w, fun w => lay4 im w⟩
  · exact ⟨rule5, fun w => rule_5 w, fun w => lay5 im w⟩
  · exact ⟨rule6, fun w => rule_6 w, fun w => lay6 im w⟩
  · exact ⟨rule7, fun w => rule_7 w, fun w => lay7 im w⟩
  · exact ⟨rule8, fun w => rule_none 8 (.inl rfl) w, fun w => lay8 im w⟩
  · exact ⟨rule8, fun w => rule_none 9 (.inr (.inl rfl)) w, fun w => lay8 im w⟩

theorem shapeCs (op f c g h : Int) (w : World) (hs : shT op = (f, c, g, h)) :
    Calls Tryd.prog 35 #[.int .i64 op] w fun e w' => e = .returned (.agg #[.int .i64 f, .int .i64 c, .int .i64 g, .int .i64 h]) ∧ Below w.heap.size w w' := by
  have := shapeC op w
  rw [hs] at this
  exact this

theorem encNo (op rd r1 r2 im : Int) (w : World) (hl : Laid w) (hr : rightB op rd r1 r2 im = false) :
    Calls Tryd.prog 10 #[.agg #[.int .i64 op, .int .i64 rd, .int .i64 r1, .int .i64 r2, .int .i64 im]] w fun e w' => e = .returned (.tuple #[.int .i64 0, .int .i64 1]) ∧ Below w.heap.size w w' := by
  go_enter Tryd.func10, Tryd.ntmps10
  go_wp2_with fail
  refine (insC op rd r1 r2 im _ (laid_below hl ((Below.refl _ _).alloc (Nat.le_refl _) _))).mono ?_
  rintro e w1 ⟨rfl, hb1⟩
  have HB1 : Hid (Below w.heap.size w w1) := ((Below.refl _ _).alloc (Nat.le_refl _) _).trans (hb1.mono (by simp))
  clear hb1 hl
  go_wp2
  go_ret2
  exact ⟨rfl, HB1.out⟩

set_option maxRecDepth 100000 in
set_option maxHeartbeats 8000000 in
theorem encYes (op rd r1 r2 im f c g h : Int) (w : World) (hl : Laid w) (hr : rightB op rd r1 r2 im = true) (hs : Hid (shT op = (f, c, g, h))) :
    Calls Tryd.prog 10 #[.agg #[.int .i64 op, .int .i64 rd, .int .i64 r1, .int .i64 r2, .int .i64 im]] w fun e w' => e = .returned (.tuple #[.int .i64 (encW f c g h rd r1 r2 im), .int .i64 0]) ∧ Below w.heap.size w w' := by
  have hop : 1 ≤ op ∧ op ≤ 64 := by
    unfold rightB at hr
    exact of_decide_eq_true (Bool.and_eq_true_iff.1 hr).1
  have hf : rightF f rd r1 r2 im = true := by
    unfold rightB at hr
    have := (Bool.and_eq_true_iff.1 hr).2
    rw [hs.out] at this
    exact this
  have hok : shOK f c g h = true := by
    have := shT_ok op hop.1 hop.2
    rw [hs.out] at this
    exact this
  obtain ⟨f0, f1, k0, k1, g0, g1, h0, h1⟩ := sh_bounds hok
  obtain ⟨⟨b1, b2, b3⟩, z1, z2, z3⟩ := right_parts f0 f1 hf
  obtain ⟨rd0, rd1⟩ := regB_bd b1
  obtain ⟨r10, r11⟩ := regB_bd b2
  obtain ⟨r20, r21⟩ := regB_bd b3
  have HE : Hid (bits .or .i64 (bits .or .i64 (fixW f c g h) (rd * 128 + r1 * 32768 + r2 * 1048576)) (layF f im) = encW f c g h rd r1 r2 im) := lay_or f c g h rd r1 r2 im hok rd0 rd1 r10 r11 r20 r21 z1 z2 z3
  have hregs := regs_or rd r1 r2 rd0 rd1 r10 r11 r20 r21
  obtain ⟨R, hR, hLy⟩ := rule_lay f im f0 f1
  have HR : Hid (∀ w, Calls Tryd.prog 37 #[.int .i64 f] w fun e w' => e = .returned R ∧ Below w.heap.size w w') := hR
  have HLy : Hid (∀ w, Calls Tryd.prog 38 #[R, .int .i64 im] w fun e w' => e = .returned (.int .i64 (layF f im)) ∧ Below w.heap.size w w') := hLy
  have HF : Hid (∀ w, Calls Tryd.prog 36 #[.agg #[.int .i64 f, .int .i64 c, .int .i64 g, .int .i64 h]] w fun e w' => e = .returned (.int .i64 (fixW f c g h)) ∧ Below w.heap.size w w') := fun w => fixC f c g h w f0 f1 k0 k1 g0 g1 h0 h1
  clear hR hLy hf hok b1 b2 b3 z1 z2 z3 hop
  go_enter Tryd.func10, Tryd.ntmps10
  go_wp2_with fail
  refine (insC op rd r1 r2 im _ (laid_below hl ((Below.refl _ _).alloc (Nat.le_refl _) _))).mono ?_
  rintro e w1 ⟨rfl, hb1⟩
  obtain ⟨hc1, hf1⟩ := bcell hb1
  have hz1 : w.heap.size < w1.heap.size := by have := hb1.size; simp at this; omega
  have HB1 : Below w.heap.size w w1 := ((Below.refl _ _).alloc (Nat.le_refl _) _).trans (hb1.mono (by simp))
  clear hb1 hl
  go_wp2_with fail
  refine (shapeCs op f c g h _ hs.out).mono ?_
  rintro e w2 ⟨rfl, hb2⟩
  obtain ⟨hc2, hf2⟩ := bcell hb2
  have hz2 := hb2.size
  have HB2 : Below w.heap.size w w2 := HB1.trans (hb2.mono HB1.size)
  have hx4 : w2.cell? ⟨w.heap.size, 4, none⟩ = some (.int .i64 im) := by
    rw [hc2 _ _ hz1, hc1 _ _ (by simp)]
    simp
  have hlt : w.heap.size < w2.heap.size := by omega
  clear hb2 HB1 hs hr
  go_wp2_with fail
  generalize hW : w2.alloc (.cells #[.int .i64 f, .int .i64 c, .int .i64 g, .int .i64 h] 57) = W0
  have y4 : W0.cell? ⟨w.heap.size, 4, none⟩ = some (.int .i64 im) := by rw [← hW]; exact (((Below.refl w2.heap.size w2).alloc (Nat.le_refl _) _).cell (p := ⟨w.heap.size, 4, none⟩) hlt).trans hx4
  have y0 : W0.cell? ⟨w2.heap.size, 0, none⟩ = some (.int .i64 f) := by rw [← hW]; simp
  have y1 : W0.cell? ⟨w2.heap.size, 1, none⟩ = some (.int .i64 c) := by rw [← hW]; simp
  have y2 : W0.cell? ⟨w2.heap.size, 2, none⟩ = some (.int .i64 g) := by rw [← hW]; simp
  have y3 : W0.cell? ⟨w2.heap.size, 3, none⟩ = some (.int .i64 h) := by rw [← hW]; simp
  have HBW : Below w.heap.size w W0 := by rw [← hW]; exact HB2.alloc HB2.size _
  have hzW : W0.heap.size = w2.heap.size + 1 := by rw [← hW]; simp
  have hbW : Below W0.heap.size W0 W0 := Below.refl _ _
  clear hW hc1 hc2 hf1 hf2 hz1 hz2 hx4 HB2
  go_region_held3? (fun w' => w'.cell? ⟨w2.heap.size, 0, none⟩ = some (.int .i64 f) ∧ w'.cell? ⟨w2.heap.size, 1, none⟩ = some (.int .i64 c) ∧ w'.cell? ⟨w2.heap.size, 2, none⟩ = some (.int .i64 g) ∧ w'.cell? ⟨w2.heap.size, 3, none⟩ = some (.int .i64 h) ∧ w'.cell? ⟨w.heap.size, 4, none⟩ = some (.int .i64 im)) (go_keep) (first | (go_at_call 36; refine (HF.out _).mono ?_; rintro e w3 ⟨rfl, hb3⟩; have hz3 : W0.heap.size ≤ w3.heap.size := (by have := hb3.size; (try simp at this); omega); have q34 := (hb3.cell (p := ⟨w.heap.size, 4, none⟩) (by first | omega | (simp; omega))).trans (by first | assumption | (simp; assumption)); have q30 := (hb3.cell (p := ⟨w2.heap.size, 0, none⟩) (by first | omega | (simp; omega))).trans (by first | assumption | (simp; assumption)); have q31 := (hb3.cell (p := ⟨w2.heap.size, 1, none⟩) (by first | omega | (simp; omega))).trans (by first | assumption | (simp; assumption)); have q32 := (hb3.cell (p := ⟨w2.heap.size, 2, none⟩) (by first | omega | (simp; omega))).trans (by first | assumption | (simp; assumption)); have q33 := (hb3.cell (p := ⟨w2.heap.size, 3, none⟩) (by first | omega | (simp; omega))).trans (by first | assumption | (simp; assumption))) | (go_at_call 37; refine (HR.out _).mono ?_; rintro e w4 ⟨rfl, hb4⟩; have hz4 : W0.heap.size ≤ w4.heap.size := (by have := hb4.size; (try simp at this); omega); have q44 := (hb4.cell (p := ⟨w.heap.size, 4, none⟩) (by first | omega | (simp; omega))).trans (by first | assumption | (simp; assumption)); have q40 := (hb4.cell (p := ⟨w2.heap.size, 0, none⟩) (by first | omega | (simp; omega))).trans (by first | assumption | (simp; assumption)); have q41 := (hb4.cell (p := ⟨w2.heap.size, 1, none⟩) (by first | omega | (simp; omega))).trans (by first | assumption | (simp; assumption)); have q42 := (hb4.cell (p := ⟨w2.heap.size, 2, none⟩) (by first | omega | (simp; omega))).trans (by first | assumption | (simp; assumption)); have q43 := (hb4.cell (p := ⟨w2.heap.size, 3, none⟩) (by first | omega | (simp; omega))).trans (by first | assumption | (simp; assumption))) | (go_at_call 38; refine (HLy.out _).mono ?_; rintro e w5 ⟨rfl, hb5⟩; have hz5 : W0.heap.size ≤ w5.heap.size := (by have := hb5.size; (try simp at this); omega); have q54 := (hb5.cell (p := ⟨w.heap.size, 4, none⟩) (by first | omega | (simp; omega))).trans (by first | assumption | (simp; assumption)); have q50 := (hb5.cell (p := ⟨w2.heap.size, 0, none⟩) (by first | omega | (simp; omega))).trans (by first | assumption | (simp; assumption)); have q51 := (hb5.cell (p := ⟨w2.heap.size, 1, none⟩) (by first | omega | (simp; omega))).trans (by first | assumption | (simp; assumption)); have q52 := (hb5.cell (p := ⟨w2.heap.size, 2, none⟩) (by first | omega | (simp; omega))).trans (by first | assumption | (simp; assumption)); have q53 := (hb5.cell (p := ⟨w2.heap.size, 3, none⟩) (by first | omega | (simp; omega))).trans (by first | assumption | (simp; assumption))))
  have hsW := HBW.size
  have HB3 : Below w.heap.size w w3 := by
    refine Below.trans ?_ (hb3.mono (by first | omega | (simp; omega)))
    repeat (first | exact HBW | refine Below.drew ?_ | refine bdN ?_ _)
  have HB4 : Below w.heap.size w w4 := by
    refine Below.trans ?_ (hb4.mono (by first | omega | (simp; omega)))
    repeat (first | exact HB3 | refine Below.drew ?_ | refine bdN ?_ _)
  have HB5 : Hid (Below w.heap.size w w5) := by
    refine Below.trans ?_ (hb5.mono (by first | omega | (simp; omega)))
    repeat (first | exact HB4 | refine Below.drew ?_ | refine bdN ?_ _)
  clear hb3 hb4 hb5 HB3 HB4 HBW
  go_wp2
  go_ret2
  exact ⟨ret_ints HE.out rfl, HB5.out⟩
end Go.Proofs.YtepanogpojolfaaDoor
