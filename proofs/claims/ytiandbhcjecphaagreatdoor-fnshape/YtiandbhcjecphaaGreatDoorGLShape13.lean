/- The model's check of an instruction: form 8. The model's check of an instruction: form 9. The model's check of an instruction: the contract. InstrOK, told fields 'di'. -/
import Derived.Test.YtiandbhcjecphaaGreatDoorGLShape9
import Derived.Test.YtiandbhcjecphaaGreatDoorGLShape11
import Derived.Test.YtiandbhcjecphaaGreatDoorGLShape12
import Derived.Test.YtiandbhcjecphaaGreatDoorGLShape8
namespace Go.Proofs.YtiandbhcjecphaaGreatDoor
open Go.RowKit
set_option linter.unusedVariables false

set_option maxRecDepth 100000 in
set_option maxHeartbeats 8000000 in
theorem rgt8 (op rd r1 r2 im c g h : Int) (hs : Hid (shT op = (8, c, g, h))) (h0 : 1 ≤ op) (h1 : op ≤ 64) (hrd : regB rd = true) (hr1 : regB r1 = true) (hr2 : regB r2 = true) (w : World) :
    Calls Tryz.prog 92 #[.agg #[.int .i64 op, .int .i64 rd, .int .i64 r1, .int .i64 r2, .int .i64 im]] w fun e w' => e = .returned (.bool (rightF 8 rd r1 r2 im)) ∧ Below w.heap.size w w' := by
  go_enter Tryz.func92, Tryz.ntmps92
  go_wp2_with (first | (go_at_call 117; refine (spOp1 _ _ true (.inl ⟨rfl, h0, h1⟩)).mono ?_; rintro e w2 ⟨rfl, rfl⟩) | (go_at_call 118; refine (spReg _ _).mono ?_; rintro e w2 ⟨rfl, rfl⟩) | (go_at_call 58; refine (spInB _ _ _ _).mono ?_; rintro e w2 ⟨rfl, rfl⟩))
  refine (specShs op 8 c g h _ hs.out).mono ?_
  rintro e w1 ⟨rfl, hb1⟩
  obtain ⟨hc1, hf1⟩ := bcell hb1
  have HB1 : Hid (Below w.heap.size w w1) := ((Below.refl _ _).alloc (Nat.le_refl _) _).trans (hb1.mono (by simp))
  clear hs hb1
  have hfd := shField0 8 c g h
  go_wp2_with (first | (go_at_call 117; refine (spOp1 _ _ true (.inl ⟨rfl, h0, h1⟩)).mono ?_; rintro e w2 ⟨rfl, rfl⟩) | (go_at_call 118; refine (spReg _ _).mono ?_; rintro e w2 ⟨rfl, rfl⟩) | (go_at_call 58; refine (spInB _ _ _ _).mono ?_; rintro e w2 ⟨rfl, rfl⟩))
  go_ret
  exact ⟨congrArg (fun x => Ending.returned (.bool x)) (by simp [rightF, hrd, hr1, hr2]), HB1.out⟩
end Go.Proofs.YtiandbhcjecphaaGreatDoor

namespace Go.Proofs.YtiandbhcjecphaaGreatDoor
open Go.RowKit
set_option linter.unusedVariables false

set_option maxRecDepth 100000 in
set_option maxHeartbeats 8000000 in
theorem rgt9 (op rd r1 r2 im c g h : Int) (hs : Hid (shT op = (9, c, g, h))) (h0 : 1 ≤ op) (h1 : op ≤ 64) (hrd : regB rd = true) (hr1 : regB r1 = true) (hr2 : regB r2 = true) (w : World) :
    Calls Tryz.prog 92 #[.agg #[.int .i64 op, .int .i64 rd, .int .i64 r1, .int .i64 r2, .int .i64 im]] w fun e w' => e = .returned (.bool (rightF 9 rd r1 r2 im)) ∧ Below w.heap.size w w' := by
  go_enter Tryz.func92, Tryz.ntmps92
  go_wp2_with (first | (go_at_call 117; refine (spOp1 _ _ true (.inl ⟨rfl, h0, h1⟩)).mono ?_; rintro e w2 ⟨rfl, rfl⟩) | (go_at_call 118; refine (spReg _ _).mono ?_; rintro e w2 ⟨rfl, rfl⟩) | (go_at_call 58; refine (spInB _ _ _ _).mono ?_; rintro e w2 ⟨rfl, rfl⟩))
  refine (specShs op 9 c g h _ hs.out).mono ?_
  rintro e w1 ⟨rfl, hb1⟩
  obtain ⟨hc1, hf1⟩ := bcell hb1
  have HB1 : Hid (Below w.heap.size w w1) := ((Below.refl _ _).alloc (Nat.le_refl _) _).trans (hb1.mono (by simp))
  clear hs hb1
  have hfd := shField0 9 c g h
  by_cases erd : rd = 0
  case neg =>
    have nrd : (rd == 0) = false := by simpa using erd
    go_wp2_with (first | (go_at_call 117; refine (spOp1 _ _ true (.inl ⟨rfl, h0, h1⟩)).mono ?_; rintro e w2 ⟨rfl, rfl⟩) | (go_at_call 118; refine (spReg _ _).mono ?_; rintro e w2 ⟨rfl, rfl⟩) | (go_at_call 58; refine (spInB _ _ _ _).mono ?_; rintro e w2 ⟨rfl, rfl⟩))
    go_ret
    exact ⟨congrArg (fun x => Ending.returned (.bool x)) (by simp [rightF, nrd]), HB1.out⟩
  subst erd
  by_cases er1 : r1 = 0
  case neg =>
    have nr1 : (r1 == 0) = false := by simpa using er1
    go_wp2_with (first | (go_at_call 117; refine (spOp1 _ _ true (.inl ⟨rfl, h0, h1⟩)).mono ?_; rintro e w2 ⟨rfl, rfl⟩) | (go_at_call 118; refine (spReg _ _).mono ?_; rintro e w2 ⟨rfl, rfl⟩) | (go_at_call 58; refine (spInB _ _ _ _).mono ?_; rintro e w2 ⟨rfl, rfl⟩))
    go_ret
    exact ⟨congrArg (fun x => Ending.returned (.bool x)) (by simp [rightF, nr1]), HB1.out⟩
  subst er1
  by_cases er2 : r2 = 0
  case neg =>
    have nr2 : (r2 == 0) = false := by simpa using er2
    go_wp2_with (first | (go_at_call 117; refine (spOp1 _ _ true (.inl ⟨rfl, h0, h1⟩)).mono ?_; rintro e w2 ⟨rfl, rfl⟩) | (go_at_call 118; refine (spReg _ _).mono ?_; rintro e w2 ⟨rfl, rfl⟩) | (go_at_call 58; refine (spInB _ _ _ _).mono ?_; rintro e w2 ⟨rfl, rfl⟩))
    go_ret
    exact ⟨congrArg (fun x => Ending.returned (.bool x)) (by simp [rightF, nr2]), HB1.out⟩
  subst er2
  go_wp2_with (first | (go_at_call 117; refine (spOp1 _ _ true (.inl ⟨rfl, h0, h1⟩)).mono ?_; rintro e w2 ⟨rfl, rfl⟩) | (go_at_call 118; refine (spReg _ _).mono ?_; rintro e w2 ⟨rfl, rfl⟩) | (go_at_call 58; refine (spInB _ _ _ _).mono ?_; rintro e w2 ⟨rfl, rfl⟩))
  go_ret
  exact ⟨congrArg (fun x => Ending.returned (.bool x)) (by simp [rightF]), HB1.out⟩
end Go.Proofs.YtiandbhcjecphaaGreatDoor

namespace Go.Proofs.YtiandbhcjecphaaGreatDoor
open Go.RowKit
set_option linter.unusedVariables false

theorem rgtYes (op rd r1 r2 im : Int) (h0 : 1 ≤ op) (h1 : op ≤ 64) (hrd : regB rd = true) (hr1 : regB r1 = true) (hr2 : regB r2 = true) (w : World) :
    Calls Tryz.prog 92 #[.agg #[.int .i64 op, .int .i64 rd, .int .i64 r1, .int .i64 r2, .int .i64 im]] w fun e w' => e = .returned (.bool (rightF (shT op).1 rd r1 r2 im)) ∧ Below w.heap.size w w' := by
  have hf := shT_form op h0 h1
  obtain ⟨f, c, g, h, hs⟩ : ∃ f c g h, shT op = (f, c, g, h) := ⟨_, _, _, _, rfl⟩
  rw [hs]
  rw [hs] at hf
  change 1 ≤ f ∧ f ≤ 9 at hf
  change Calls _ _ _ _ fun e w' => e = .returned (.bool (rightF f rd r1 r2 im)) ∧ Below w.heap.size w w'
  rcases (show f = 1 ∨ f = 2 ∨ f = 3 ∨ f = 4 ∨ f = 5 ∨ f = 6 ∨ f = 7 ∨ f = 8 ∨ f = 9 by omega) with rfl | rfl | rfl | rfl | rfl | rfl | rfl | rfl | rfl
  · exact rgt1 op rd r1 r2 im c g h hs h0 h1 hrd hr1 hr2 w
  · exact rgt2 op rd r1 r2 im c g h hs h0 h1 hrd hr1 hr2 w
  · exact rgt3 op rd r1 r2 im c g h hs h0 h1 hrd hr1 hr2 w
  · exact rgt4 op rd r1 r2 im c g h hs h0 h1 hrd hr1 hr2 w
  · exact rgt5 op rd r1 r2 im c g h hs h0 h1 hrd hr1 hr2 w
  · exact rgt6 op rd r1 r2 im c g h hs h0 h1 hrd hr1 hr2 w
  · exact rgt7 op rd r1 r2 im c g h hs h0 h1 hrd hr1 hr2 w
  · exact rgt8 op rd r1 r2 im c g h hs h0 h1 hrd hr1 hr2 w
  · exact rgt9 op rd r1 r2 im c g h hs h0 h1 hrd hr1 hr2 w

set_option maxHeartbeats 4000000 in
theorem rightC (op rd r1 r2 im : Int) (w : World) :
    Calls Tryz.prog 92 #[.agg #[.int .i64 op, .int .i64 rd, .int .i64 r1, .int .i64 r2, .int .i64 im]] w fun e w' => e = .returned (.bool (rightB op rd r1 r2 im)) ∧ Below w.heap.size w w' := by
  by_cases h : 1 ≤ op ∧ op ≤ 64
  case neg =>
    have hr : rightB op rd r1 r2 im = false := by
      unfold rightB
      rw [decide_eq_false h, Bool.false_and]
    have ho : op < 1 ∨ 64 < op := by omega
    clear h
    rw [hr]
    clear hr
    go_enter Tryz.func92, Tryz.ntmps92
    go_wp2_with (go_at_call 117; refine (spOp1 _ _ false (.inr ⟨rfl, ho⟩)).mono ?_; rintro e w2 ⟨rfl, rfl⟩; clear ho)
    go_ret
    exact ⟨rfl, (Below.refl _ _).alloc (Nat.le_refl _) _⟩
  obtain ⟨h0, h1⟩ := h
  have e1 : rightB op rd r1 r2 im = rightF (shT op).1 rd r1 r2 im := by
    unfold rightB
    rw [decide_eq_true ⟨h0, h1⟩, Bool.true_and]
  rw [e1]
  clear e1
  cases hrd : regB rd with
  | false =>
    rw [rightF_rd hrd]
    go_enter Tryz.func92, Tryz.ntmps92
    go_wp2_with (first | (go_at_call 117; refine (spOp1 _ _ true (.inl ⟨rfl, h0, h1⟩)).mono ?_; rintro e w2 ⟨rfl, rfl⟩) | (go_at_call 118; refine (spReg _ _).mono ?_; rintro e w2 ⟨rfl, rfl⟩))
    go_ret
    exact ⟨rfl, (Below.refl _ _).alloc (Nat.le_refl _) _⟩
  | true =>
    cases hr1 : regB r1 with
    | false =>
      rw [rightF_r1 hr1]
      go_enter Tryz.func92, Tryz.ntmps92
      go_wp2_with (first | (go_at_call 117; refine (spOp1 _ _ true (.inl ⟨rfl, h0, h1⟩)).mono ?_; rintro e w2 ⟨rfl, rfl⟩) | (go_at_call 118; refine (spReg _ _).mono ?_; rintro e w2 ⟨rfl, rfl⟩))
      go_ret
      exact ⟨rfl, (Below.refl _ _).alloc (Nat.le_refl _) _⟩
    | true =>
      cases hr2 : regB r2 with
      | false =>
        rw [rightF_r2 hr2]
        go_enter Tryz.func92, Tryz.ntmps92
        go_wp2_with (first | (go_at_call 117; refine (spOp1 _ _ true (.inl ⟨rfl, h0, h1⟩)).mono ?_; rintro e w2 ⟨rfl, rfl⟩) | (go_at_call 118; refine (spReg _ _).mono ?_; rintro e w2 ⟨rfl, rfl⟩))
        go_ret
        exact ⟨rfl, (Below.refl _ _).alloc (Nat.le_refl _) _⟩
      | true => exact rgtYes op rd r1 r2 im h0 h1 hrd hr1 hr2 w

end Go.Proofs.YtiandbhcjecphaaGreatDoor

namespace Go.Proofs.YtiandbhcjecphaaGreatDoor
open Go.RowKit
set_option linter.unusedVariables false

set_option maxRecDepth 100000 in
set_option maxHeartbeats 8000000 in
theorem okA (op rd r1 r2 im f c g h : Int) (B : Bool) (hs : Hid (shT op = (f, c, g, h))) (ht : Hid (ToldIs f { data := #[100, 105] })) (hi : Hid (NumIs f im B)) (h0 : 1 ≤ op) (h1 : op ≤ 64) (w : World) :
    Calls Tryz.prog 43 #[.agg #[.int .i64 op, .int .i64 rd, .int .i64 r1, .int .i64 r2, .int .i64 im]] w fun e w' => e = .returned (.bool (regB rd && r1 == 0 && r2 == 0 && B)) ∧ Below w.heap.size w w' := by
  go_enter Tryz.func43, Tryz.ntmps43
  go_wp2_with fail
  refine (shapeOKs op f c g h _ hs.out h0 h1).mono ?_
  rintro e w1 ⟨rfl, hb1⟩
  obtain ⟨hc1, hf1⟩ := bcell hb1
  have hz1 : w.heap.size < w1.heap.size := by have := hb1.size; simp at this; omega
  have HB1 : Below w.heap.size w w1 := ((Below.refl _ _).alloc (Nat.le_refl _) _).trans (hb1.mono (by simp))
  have hx : w1.cell? ⟨w.heap.size, 0, none⟩ = some (.int .i64 op) := by
    rw [hc1 _ _ (by simp)]
    simp
  clear hs hb1
  go_wp2_with fail
  refine (ht.out _).mono ?_
  rintro e w2 ⟨rfl, rfl⟩
  clear ht
  go_wp2
  refine wp_loop_rounds 3 ?_
  rw [rounds_succ]
  go_wp2_with (go_at_call 64; refine (fld100 _ _).mono ?_; rintro e w2 ⟨rfl, rfl⟩)
  cases hr1 : regB rd with
  | false =>
    go_quiet ((go_at_call 65; exact Calls.quiet_of_same (fieldR f 100 rd (by decide) _)))
    go_wp2
    go_ret
    refine ⟨congrArg (fun x => Ending.returned (.bool x)) (by simp [hr1]), ?_⟩
    repeat (first | exact HB1 | exact Below.refl _ _ | refine Below.setCell ?_ (by first | omega | (simp; done) | (simp; omega)) _ | refine bdN ?_ _ | refine Below.drew ?_ | refine Below.alloc ?_ (by first | omega | (simp; done) | (simp; omega)) _)
  | true =>
    go_quiet ((go_at_call 65; exact Calls.quiet_of_same (fieldR f 100 rd (by decide) _)))
    go_wp2
    rw [rounds_succ]
    go_wp2_with (go_at_call 64; refine (fld105 _ _).mono ?_; rintro e w2 ⟨rfl, rfl⟩)
    go_region_with (go_at_call 65; refine (hi.out _).mono ?_; rintro e w3 ⟨rfl, hb3⟩)
    all_goals
      clear hi
      obtain ⟨hc3, hf3⟩ := bcell hb3
      have hz3 : w1.heap.size + 1 < w3.heap.size := by have := hb3.size; simp at this; omega
      have hne : ¬ w.heap.size = w1.heap.size + 1 := by omega
      have HW : Below w1.heap.size w1 w3 := by
        refine Below.trans ?_ (hb3.mono (by first | omega | (simp; done) | (simp; omega)))
        repeat (first | exact Below.refl _ _ | refine Below.setCell ?_ (by first | omega | (simp; done) | (simp; omega)) _ | refine bdN ?_ _ | refine Below.drew ?_ | refine Below.alloc ?_ (by first | omega | (simp; done) | (simp; omega)) _)
      have HB3 : Below w.heap.size w w3 := HB1.trans (HW.mono (by omega))
      have hx0 : w3.cell? ⟨w.heap.size, 0, none⟩ = some (.int .i64 op) := (HW.cell (p := ⟨w.heap.size, 0, none⟩) hz1).trans hx
      clear HW
      clear hb3
      cases B with
      | false =>
        go_wp2
        go_ret
        refine ⟨congrArg (fun x => Ending.returned (.bool x)) (by simp), ?_⟩
        repeat (first | exact HB1 | exact HB3 | exact Below.refl _ _ | refine Below.setCell ?_ (by first | omega | (simp; done) | (simp; omega)) _ | refine bdN ?_ _ | refine Below.drew ?_ | refine Below.alloc ?_ (by first | omega | (simp; done) | (simp; omega)) _)
      | true =>
        go_wp2
        rw [rounds_succ]
        by_cases er1 : r1 = 0
        case neg =>
          have nr1 : (r1 == 0) = false := by simpa using er1
          go_wp2
          go_ret
          refine ⟨congrArg (fun x => Ending.returned (.bool x)) (by simp [hr1, nr1]), ?_⟩
          repeat (first | exact HB1 | exact HB3 | exact Below.refl _ _ | refine Below.setCell ?_ (by first | omega | (simp; done) | (simp; omega)) _ | refine bdN ?_ _ | refine Below.drew ?_ | refine Below.alloc ?_ (by first | omega | (simp; done) | (simp; omega)) _)
        subst er1
        by_cases er2 : r2 = 0
        case neg =>
          have nr2 : (r2 == 0) = false := by simpa using er2
          go_wp2
          go_ret
          refine ⟨congrArg (fun x => Ending.returned (.bool x)) (by simp [hr1, nr2]), ?_⟩
          repeat (first | exact HB1 | exact HB3 | exact Below.refl _ _ | refine Below.setCell ?_ (by first | omega | (simp; done) | (simp; omega)) _ | refine bdN ?_ _ | refine Below.drew ?_ | refine Below.alloc ?_ (by first | omega | (simp; done) | (simp; omega)) _)
        subst er2
        go_wp2
        go_ret
        refine ⟨congrArg (fun x => Ending.returned (.bool x)) (by simp [hr1]), ?_⟩
        repeat (first | exact HB1 | exact HB3 | exact Below.refl _ _ | refine Below.setCell ?_ (by first | omega | (simp; done) | (simp; omega)) _ | refine bdN ?_ _ | refine Below.drew ?_ | refine Below.alloc ?_ (by first | omega | (simp; done) | (simp; omega)) _)
end Go.Proofs.YtiandbhcjecphaaGreatDoor
