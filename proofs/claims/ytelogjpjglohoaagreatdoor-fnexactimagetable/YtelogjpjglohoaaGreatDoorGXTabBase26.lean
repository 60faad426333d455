/- The model's check of an instruction: form 5. The model's check of an instruction: form 6. The model's check of an instruction: form 7. The model's check of an instruction: form 8. The model's check of an instruction: form 9. The model's check of an instruction: the contract. InstrOK, told fields 'di'. InstrOK, told fields 'd1i'. InstrOK, told fields '12i'. -/
import Derived.Test.YtelogjpjglohoaaGreatDoorGXTabBase20
import Derived.Test.YtelogjpjglohoaaGreatDoorGXTabBase25
import Derived.Test.YtelogjpjglohoaaGreatDoorGXTabBase18
namespace Go.Proofs.YtelogjpjglohoaaGreatDoor
open Go.RowKit
set_option linter.unusedVariables false

set_option maxRecDepth 100000 in
set_option maxHeartbeats 8000000 in
theorem rgt5 (op rd r1 r2 im c g h : Int) (hs : Hid (shT op = (5, c, g, h))) (h0 : 1 ≤ op) (h1 : op ≤ 64) (hrd : regB rd = true) (hr1 : regB r1 = true) (hr2 : regB r2 = true) (w : World) :
    Calls Tryz.prog 108 #[.agg #[.int .i64 op, .int .i64 rd, .int .i64 r1, .int .i64 r2, .int .i64 im]] w fun e w' => e = .returned (.bool (rightF 5 rd r1 r2 im)) ∧ Below w.heap.size w w' := by
  go_enter Tryz.func108, Tryz.ntmps108
  go_wp2_with (first | (go_at_call 117; refine (spOp1 _ _ true (.inl ⟨rfl, h0, h1⟩)).mono ?_; rintro e w2 ⟨rfl, rfl⟩) | (go_at_call 118; refine (spReg _ _).mono ?_; rintro e w2 ⟨rfl, rfl⟩) | (go_at_call 79; refine (spInB _ _ _ _).mono ?_; rintro e w2 ⟨rfl, rfl⟩))
  refine (specShs op 5 c g h _ hs.out).mono ?_
  rintro e w1 ⟨rfl, hb1⟩
  obtain ⟨hc1, hf1⟩ := bcell hb1
  have HB1 : Hid (Below w.heap.size w w1) := ((Below.refl _ _).alloc (Nat.le_refl _) _).trans (hb1.mono (by simp))
  clear hs hb1
  have hfd := shField0 5 c g h
  by_cases erd : rd = 0
  case neg =>
    have nrd : (rd == 0) = false := by simpa using erd
    go_wp2_with (first | (go_at_call 117; refine (spOp1 _ _ true (.inl ⟨rfl, h0, h1⟩)).mono ?_; rintro e w2 ⟨rfl, rfl⟩) | (go_at_call 118; refine (spReg _ _).mono ?_; rintro e w2 ⟨rfl, rfl⟩) | (go_at_call 79; refine (spInB _ _ _ _).mono ?_; rintro e w2 ⟨rfl, rfl⟩))
    go_ret
    exact ⟨congrArg (fun x => Ending.returned (.bool x)) (by simp [rightF, nrd]), HB1.out⟩
  subst erd
  by_cases hin : -2048 ≤ im ∧ im ≤ 2047
  case neg =>
    have hi0 := inB_f hin
    have hk : okB 5 im = false := okB_f (by decide) (by decide) (by show ¬ (_ ∧ _); omega)
    clear hin
    go_wp2_with (first | (go_at_call 117; refine (spOp1 _ _ true (.inl ⟨rfl, h0, h1⟩)).mono ?_; rintro e w2 ⟨rfl, rfl⟩) | (go_at_call 118; refine (spReg _ _).mono ?_; rintro e w2 ⟨rfl, rfl⟩) | (go_at_call 79; refine (spInB _ _ _ _).mono ?_; rintro e w2 ⟨rfl, rfl⟩))
    go_ret
    exact ⟨congrArg (fun x => Ending.returned (.bool x)) (by simp [rightF, hk]), HB1.out⟩
  obtain ⟨hin0, hin1⟩ := hin
  have hi0 := inB_t hin0 hin1
  have hk : okB 5 im = true := okB_t (by decide) (by decide) (by show _ ∧ _; omega)
  clear hin0 hin1
  go_wp2_with (first | (go_at_call 117; refine (spOp1 _ _ true (.inl ⟨rfl, h0, h1⟩)).mono ?_; rintro e w2 ⟨rfl, rfl⟩) | (go_at_call 118; refine (spReg _ _).mono ?_; rintro e w2 ⟨rfl, rfl⟩) | (go_at_call 79; refine (spInB _ _ _ _).mono ?_; rintro e w2 ⟨rfl, rfl⟩))
  go_ret
  exact ⟨congrArg (fun x => Ending.returned (.bool x)) (by simp [rightF, hk, hr1, hr2]), HB1.out⟩
end Go.Proofs.YtelogjpjglohoaaGreatDoor

namespace Go.Proofs.YtelogjpjglohoaaGreatDoor
open Go.RowKit
set_option linter.unusedVariables false

set_option maxRecDepth 100000 in
set_option maxHeartbeats 8000000 in
theorem rgt6 (op rd r1 r2 im c g h : Int) (hs : Hid (shT op = (6, c, g, h))) (h0 : 1 ≤ op) (h1 : op ≤ 64) (hrd : regB rd = true) (hr1 : regB r1 = true) (hr2 : regB r2 = true) (w : World) :
    Calls Tryz.prog 108 #[.agg #[.int .i64 op, .int .i64 rd, .int .i64 r1, .int .i64 r2, .int .i64 im]] w fun e w' => e = .returned (.bool (rightF 6 rd r1 r2 im)) ∧ Below w.heap.size w w' := by
  go_enter Tryz.func108, Tryz.ntmps108
  go_wp2_with (first | (go_at_call 117; refine (spOp1 _ _ true (.inl ⟨rfl, h0, h1⟩)).mono ?_; rintro e w2 ⟨rfl, rfl⟩) | (go_at_call 118; refine (spReg _ _).mono ?_; rintro e w2 ⟨rfl, rfl⟩) | (go_at_call 79; refine (spInB _ _ _ _).mono ?_; rintro e w2 ⟨rfl, rfl⟩))
  refine (specShs op 6 c g h _ hs.out).mono ?_
  rintro e w1 ⟨rfl, hb1⟩
  obtain ⟨hc1, hf1⟩ := bcell hb1
  have HB1 : Hid (Below w.heap.size w w1) := ((Below.refl _ _).alloc (Nat.le_refl _) _).trans (hb1.mono (by simp))
  clear hs hb1
  have hfd := shField0 6 c g h
  by_cases er2 : r2 = 0
  case neg =>
    have nr2 : (r2 == 0) = false := by simpa using er2
    go_wp2_with (first | (go_at_call 117; refine (spOp1 _ _ true (.inl ⟨rfl, h0, h1⟩)).mono ?_; rintro e w2 ⟨rfl, rfl⟩) | (go_at_call 118; refine (spReg _ _).mono ?_; rintro e w2 ⟨rfl, rfl⟩) | (go_at_call 79; refine (spInB _ _ _ _).mono ?_; rintro e w2 ⟨rfl, rfl⟩))
    go_ret
    exact ⟨congrArg (fun x => Ending.returned (.bool x)) (by simp [rightF, nr2]), HB1.out⟩
  subst er2
  by_cases hin : 0 ≤ im ∧ im ≤ 63
  case neg =>
    have hi0 := inB_f hin
    have hk : okB 6 im = false := okB_f (by decide) (by decide) (by show ¬ (_ ∧ _); omega)
    clear hin
    go_wp2_with (first | (go_at_call 117; refine (spOp1 _ _ true (.inl ⟨rfl, h0, h1⟩)).mono ?_; rintro e w2 ⟨rfl, rfl⟩) | (go_at_call 118; refine (spReg _ _).mono ?_; rintro e w2 ⟨rfl, rfl⟩) | (go_at_call 79; refine (spInB _ _ _ _).mono ?_; rintro e w2 ⟨rfl, rfl⟩))
    go_ret
    exact ⟨congrArg (fun x => Ending.returned (.bool x)) (by simp [rightF, hk]), HB1.out⟩
  obtain ⟨hin0, hin1⟩ := hin
  have hi0 := inB_t hin0 hin1
  have hk : okB 6 im = true := okB_t (by decide) (by decide) (by show _ ∧ _; omega)
  clear hin0 hin1
  go_wp2_with (first | (go_at_call 117; refine (spOp1 _ _ true (.inl ⟨rfl, h0, h1⟩)).mono ?_; rintro e w2 ⟨rfl, rfl⟩) | (go_at_call 118; refine (spReg _ _).mono ?_; rintro e w2 ⟨rfl, rfl⟩) | (go_at_call 79; refine (spInB _ _ _ _).mono ?_; rintro e w2 ⟨rfl, rfl⟩))
  go_ret
  exact ⟨congrArg (fun x => Ending.returned (.bool x)) (by simp [rightF, hk, hrd, hr1]), HB1.out⟩
end Go.Proofs.YtelogjpjglohoaaGreatDoor

namespace Go.Proofs.YtelogjpjglohoaaGreatDoor
open Go.RowKit
set_option linter.unusedVariables false

set_option maxRecDepth 100000 in
set_option maxHeartbeats 8000000 in
theorem rgt7 (op rd r1 r2 im c g h : Int) (hs : Hid (shT op = (7, c, g, h))) (h0 : 1 ≤ op) (h1 : op ≤ 64) (hrd : regB rd = true) (hr1 : regB r1 = true) (hr2 : regB r2 = true) (w : World) :
    Calls Tryz.prog 108 #[.agg #[.int .i64 op, .int .i64 rd, .int .i64 r1, .int .i64 r2, .int .i64 im]] w fun e w' => e = .returned (.bool (rightF 7 rd r1 r2 im)) ∧ Below w.heap.size w w' := by
  go_enter Tryz.func108, Tryz.ntmps108
  go_wp2_with (first | (go_at_call 117; refine (spOp1 _ _ true (.inl ⟨rfl, h0, h1⟩)).mono ?_; rintro e w2 ⟨rfl, rfl⟩) | (go_at_call 118; refine (spReg _ _).mono ?_; rintro e w2 ⟨rfl, rfl⟩) | (go_at_call 79; refine (spInB _ _ _ _).mono ?_; rintro e w2 ⟨rfl, rfl⟩))
  refine (specShs op 7 c g h _ hs.out).mono ?_
  rintro e w1 ⟨rfl, hb1⟩
  obtain ⟨hc1, hf1⟩ := bcell hb1
  have HB1 : Hid (Below w.heap.size w w1) := ((Below.refl _ _).alloc (Nat.le_refl _) _).trans (hb1.mono (by simp))
  clear hs hb1
  have hfd := shField0 7 c g h
  by_cases er2 : r2 = 0
  case neg =>
    have nr2 : (r2 == 0) = false := by simpa using er2
    go_wp2_with (first | (go_at_call 117; refine (spOp1 _ _ true (.inl ⟨rfl, h0, h1⟩)).mono ?_; rintro e w2 ⟨rfl, rfl⟩) | (go_at_call 118; refine (spReg _ _).mono ?_; rintro e w2 ⟨rfl, rfl⟩) | (go_at_call 79; refine (spInB _ _ _ _).mono ?_; rintro e w2 ⟨rfl, rfl⟩))
    go_ret
    exact ⟨congrArg (fun x => Ending.returned (.bool x)) (by simp [rightF, nr2]), HB1.out⟩
  subst er2
  by_cases hin : 0 ≤ im ∧ im ≤ 31
  case neg =>
    have hi0 := inB_f hin
    have hk : okB 7 im = false := okB_f (by decide) (by decide) (by show ¬ (_ ∧ _); omega)
    clear hin
    go_wp2_with (first | (go_at_call 117; refine (spOp1 _ _ true (.inl ⟨rfl, h0, h1⟩)).mono ?_; rintro e w2 ⟨rfl, rfl⟩) | (go_at_call 118; refine (spReg _ _).mono ?_; rintro e w2 ⟨rfl, rfl⟩) | (go_at_call 79; refine (spInB _ _ _ _).mono ?_; rintro e w2 ⟨rfl, rfl⟩))
    go_ret
    exact ⟨congrArg (fun x => Ending.returned (.bool x)) (by simp [rightF, hk]), HB1.out⟩
  obtain ⟨hin0, hin1⟩ := hin
  have hi0 := inB_t hin0 hin1
  have hk : okB 7 im = true := okB_t (by decide) (by decide) (by show _ ∧ _; omega)
  clear hin0 hin1
  go_wp2_with (first | (go_at_call 117; refine (spOp1 _ _ true (.inl ⟨rfl, h0, h1⟩)).mono ?_; rintro e w2 ⟨rfl, rfl⟩) | (go_at_call 118; refine (spReg _ _).mono ?_; rintro e w2 ⟨rfl, rfl⟩) | (go_at_call 79; refine (spInB _ _ _ _).mono ?_; rintro e w2 ⟨rfl, rfl⟩))
  go_ret
  exact ⟨congrArg (fun x => Ending.returned (.bool x)) (by simp [rightF, hk, hrd, hr1]), HB1.out⟩
end Go.Proofs.YtelogjpjglohoaaGreatDoor

namespace Go.Proofs.YtelogjpjglohoaaGreatDoor
open Go.RowKit
set_option linter.unusedVariables false

set_option maxRecDepth 100000 in
set_option maxHeartbeats 8000000 in
theorem rgt8 (op rd r1 r2 im c g h : Int) (hs : Hid (shT op = (8, c, g, h))) (h0 : 1 ≤ op) (h1 : op ≤ 64) (hrd : regB rd = true) (hr1 : regB r1 = true) (hr2 : regB r2 = true) (w : World) :
    Calls Tryz.prog 108 #[.agg #[.int .i64 op, .int .i64 rd, .int .i64 r1, .int .i64 r2, .int .i64 im]] w fun e w' => e = .returned (.bool (rightF 8 rd r1 r2 im)) ∧ Below w.heap.size w w' := by
  go_enter Tryz.func108, Tryz.ntmps108
  go_wp2_with (first | (go_at_call 117; refine (spOp1 _ _ true (.inl ⟨rfl, h0, h1⟩)).mono ?_; rintro e w2 ⟨rfl, rfl⟩) | (go_at_call 118; refine (spReg _ _).mono ?_; rintro e w2 ⟨rfl, rfl⟩) | (go_at_call 79; refine (spInB _ _ _ _).mono ?_; rintro e w2 ⟨rfl, rfl⟩))
  refine (specShs op 8 c g h _ hs.out).mono ?_
  rintro e w1 ⟨rfl, hb1⟩
  obtain ⟨hc1, hf1⟩ := bcell hb1
  have HB1 : Hid (Below w.heap.size w w1) := ((Below.refl _ _).alloc (Nat.le_refl _) _).trans (hb1.mono (by simp))
  clear hs hb1
  have hfd := shField0 8 c g h
  go_wp2_with (first | (go_at_call 117; refine (spOp1 _ _ true (.inl ⟨rfl, h0, h1⟩)).mono ?_; rintro e w2 ⟨rfl, rfl⟩) | (go_at_call 118; refine (spReg _ _).mono ?_; rintro e w2 ⟨rfl, rfl⟩) | (go_at_call 79; refine (spInB _ _ _ _).mono ?_; rintro e w2 ⟨rfl, rfl⟩))
  go_ret
  exact ⟨congrArg (fun x => Ending.returned (.bool x)) (by simp [rightF, hrd, hr1, hr2]), HB1.out⟩
end Go.Proofs.YtelogjpjglohoaaGreatDoor

namespace Go.Proofs.YtelogjpjglohoaaGreatDoor
open Go.RowKit
set_option linter.unusedVariables false

set_option maxRecDepth 100000 in
set_option maxHeartbeats 8000000 in
theorem rgt9 (op rd r1 r2 im c g h : Int) (hs : Hid (shT op = (9, c, g, h))) (h0 : 1 ≤ op) (h1 : op ≤ 64) (hrd : regB rd = true) (hr1 : regB r1 = true) (hr2 : regB r2 = true) (w : World) :
    Calls Tryz.prog 108 #[.agg #[.int .i64 op, .int .i64 rd, .int .i64 r1, .int .i64 r2, .int .i64 im]] w fun e w' => e = .returned (.bool (rightF 9 rd r1 r2 im)) ∧ Below w.heap.size w w' := by
  go_enter Tryz.func108, Tryz.ntmps108
  go_wp2_with (first | (go_at_call 117; refine (spOp1 _ _ true (.inl ⟨rfl, h0, h1⟩)).mono ?_; rintro e w2 ⟨rfl, rfl⟩) | (go_at_call 118; refine (spReg _ _).mono ?_; rintro e w2 ⟨rfl, rfl⟩) | (go_at_call 79; refine (spInB _ _ _ _).mono ?_; rintro e w2 ⟨rfl, rfl⟩))
  refine (specShs op 9 c g h _ hs.out).mono ?_
  rintro e w1 ⟨rfl, hb1⟩
  obtain ⟨hc1, hf1⟩ := bcell hb1
  have HB1 : Hid (Below w.heap.size w w1) := ((Below.refl _ _).alloc (Nat.le_refl _) _).trans (hb1.mono (by simp))
  clear hs hb1
  have hfd := shField0 9 c g h
  by_cases erd : rd = 0
  case neg =>
    have nrd : (rd == 0) = false := by simpa using erd
    go_wp2_with (first | (go_at_call 117; refine (spOp1 _ _ true (.inl ⟨rfl, h0, h1⟩)).mono ?_; rintro e w2 ⟨rfl, rfl⟩) | (go_at_call 118; refine (spReg _ _).mono ?_; rintro e w2 ⟨rfl, rfl⟩) | (go_at_call 79; refine (spInB _ _ _ _).mono ?_; rintro e w2 ⟨rfl, rfl⟩))
    go_ret
    exact ⟨congrArg (fun x => Ending.returned (.bool x)) (by simp [rightF, nrd]), HB1.out⟩
  subst erd
  by_cases er1 : r1 = 0
  case neg =>
    have nr1 : (r1 == 0) = false := by simpa using er1
    go_wp2_with (first | (go_at_call 117; refine (spOp1 _ _ true (.inl ⟨rfl, h0, h1⟩)).mono ?_; rintro e w2 ⟨rfl, rfl⟩) | (go_at_call 118; refine (spReg _ _).mono ?_; rintro e w2 ⟨rfl, rfl⟩) | (go_at_call 79; refine (spInB _ _ _ _).mono ?_; rintro e w2 ⟨rfl, rfl⟩))
    go_ret
    exact ⟨congrArg (fun x => Ending.returned (.bool x)) (by simp [rightF, nr1]), HB1.out⟩
  subst er1
  by_cases er2 : r2 = 0
  case neg =>
    have nr2 : (r2 == 0) = false := by simpa using er2
    go_wp2_with (first | (go_at_call 117; refine (spOp1 _ _ true (.inl ⟨rfl, h0, h1⟩)).mono ?_; rintro e w2 ⟨rfl, rfl⟩) | (go_at_call 118; refine (spReg _ _).mono ?_; rintro e w2 ⟨rfl, rfl⟩) | (go_at_call 79; refine (spInB _ _ _ _).mono ?_; rintro e w2 ⟨rfl, rfl⟩))
    go_ret
    exact ⟨congrArg (fun x => Ending.returned (.bool x)) (by simp [rightF, nr2]), HB1.out⟩
  subst er2
  go_wp2_with (first | (go_at_call 117; refine (spOp1 _ _ true (.inl ⟨rfl, h0, h1⟩)).mono ?_; rintro e w2 ⟨rfl, rfl⟩) | (go_at_call 118; refine (spReg _ _).mono ?_; rintro e w2 ⟨rfl, rfl⟩) | (go_at_call 79; refine (spInB _ _ _ _).mono ?_; rintro e w2 ⟨rfl, rfl⟩))
  go_ret
  exact ⟨congrArg (fun x => Ending.returned (.bool x)) (by simp [rightF]), HB1.out⟩
end Go.Proofs.YtelogjpjglohoaaGreatDoor

namespace Go.Proofs.YtelogjpjglohoaaGreatDoor
open Go.RowKit
set_option linter.unusedVariables false

theorem rgtYes (op rd r1 r2 im : Int) (h0 : 1 ≤ op) (h1 : op ≤ 64) (hrd : regB rd = true) (hr1 : regB r1 = true) (hr2 : regB r2 = true) (w : World) :
    Calls Tryz.prog 108 #[.agg #[.int .i64 op, .int .i64 rd, .int .i64 r1, .int .i64 r2, .int .i64 im]] w fun e w' => e = .returned (.bool (rightF (shT op).1 rd r1 r2 im)) ∧ Below w.heap.size w w' := by
  have hf := shT_form op h0 h1
  obtain ⟨f, c, g, h, hs⟩ : ∃ f c g h, shT op = (f, c, g, h) := ⟨_, _, _, _, rfl⟩
  rw [hs]
  rw [hs] at hf
  change 1 ≤ f ∧ f ≤ 9 at hf
  change Calls _ _ _ _ fun e w' => e = .returned (.bool (rightF f rd r1 r2 im)) ∧ Below w.heap.size w w'
  rcases (show f = 1 ∨ f = 2 ∨ f = 3 ∨ f = 4 ∨ f = 5 ∨ f = 6 ∨ f = 7 ∨ f = 8 ∨ f = 9 by omega) with rfl | rfl | rfl | rfl | rfl | rfl | rfl | rfl | rfl
  · exact rgt1 op rd r1 r2 im c g h hs h0 h1 hrd hr1 hr2 w
  · exact rgt2 op rd r1 r2 im c g h hs h0 h1 hrd hr1 hr2 w
  · exact rgt3 op rd r1 r2 im c g h hs h0 h1 hrd hr1 hr2 w
  · exact rgt4 op rd r1 r2 im c g h hs h0 h1 hrd hr1 hr2 w
  · exact rgt5 op rd r1 r2 im c g h hs h0 h1 hrd hr1 hr2 w
  · exact rgt6 op rd r1 r2 im c g h hs h0 h1 hrd hr1 hr2 w
  · exact rgt7 op rd r1 r2 im c g h hs h0 h1 hrd hr1 hr2 w
  · exact rgt8 op rd r1 r2 im c g h hs h0 h1 hrd hr1 hr2 w
  · exact rgt9 op rd r1 r2 im c g h hs h0 h1 hrd hr1 hr2 w

set_option maxHeartbeats 4000000 in
theorem rightC (op rd r1 r2 im : Int) (w : World) :
    Calls Tryz.prog 108 #[.agg #[.int .i64 op, .int .i64 rd, .int .i64 r1, .int .i64 r2, .int .i64 im]] w fun e w' => e = .returned (.bool (rightB op rd r1 r2 im)) ∧ Below w.heap.size w w' := by
  by_cases h : 1 ≤ op ∧ op ≤ 64
  case neg =>
    have hr : rightB op rd r1 r2 im = false := by
      unfold rightB
      rw [decide_eq_false h, Bool.false_and]
    have ho : op < 1 ∨ 64 < op := by omega
    clear h
    rw [hr]
    clear hr
    go_enter Tryz.func108, Tryz.ntmps108
    go_wp2_with (go_at_call 117; refine (spOp1 _ _ false (.inr ⟨rfl, ho⟩)).mono ?_; rintro e w2 ⟨rfl, rfl⟩; clear ho)
    go_ret
    exact ⟨rfl, (Below.refl _ _).alloc (Nat.le_refl _) _⟩
  obtain ⟨h0, h1⟩ := h
  have e1 : rightB op rd r1 r2 im = rightF (shT op).1 rd r1 r2 im := by
    unfold rightB
    rw [decide_eq_true ⟨h0, h1⟩, Bool.true_and]
  rw [e1]
  clear e1
  cases hrd : regB rd with
  | false =>
    rw [rightF_rd hrd]
    go_enter Tryz.func108, Tryz.ntmps108
    go_wp2_with (first | (go_at_call 117; refine (spOp1 _ _ true (.inl ⟨rfl, h0, h1⟩)).mono ?_; rintro e w2 ⟨rfl, rfl⟩) | (go_at_call 118; refine (spReg _ _).mono ?_; rintro e w2 ⟨rfl, rfl⟩))
    go_ret
    exact ⟨rfl, (Below.refl _ _).alloc (Nat.le_refl _) _⟩
  | true =>
    cases hr1 : regB r1 with
    | false =>
      rw [rightF_r1 hr1]
      go_enter Tryz.func108, Tryz.ntmps108
      go_wp2_with (first | (go_at_call 117; refine (spOp1 _ _ true (.inl ⟨rfl, h0, h1⟩)).mono ?_; rintro e w2 ⟨rfl, rfl⟩) | (go_at_call 118; refine (spReg _ _).mono ?_; rintro e w2 ⟨rfl, rfl⟩))
      go_ret
      exact ⟨rfl, (Below.refl _ _).alloc (Nat.le_refl _) _⟩
    | true =>
      cases hr2 : regB r2 with
      | false =>
        rw [rightF_r2 hr2]
        go_enter Tryz.func108, Tryz.ntmps108
        go_wp2_with (first | (go_at_call 117; refine (spOp1 _ _ true (.inl ⟨rfl, h0, h1⟩)).mono ?_; rintro e w2 ⟨rfl, rfl⟩) | (go_at_call 118; refine (spReg _ _).mono ?_; rintro e w2 ⟨rfl, rfl⟩))
        go_ret
        exact ⟨rfl, (Below.refl _ _).alloc (Nat.le_refl _) _⟩
      | true => exact rgtYes op rd r1 r2 im h0 h1 hrd hr1 hr2 w

end Go.Proofs.YtelogjpjglohoaaGreatDoor

namespace Go.Proofs.YtelogjpjglohoaaGreatDoor
open Go.RowKit
set_option linter.unusedVariables false

end Go.Proofs.YtelogjpjglohoaaGreatDoor

namespace Go.Proofs.YtelogjpjglohoaaGreatDoor
open Go.RowKit
set_option linter.unusedVariables false

end Go.Proofs.YtelogjpjglohoaaGreatDoor

namespace Go.Proofs.YtelogjpjglohoaaGreatDoor
open Go.RowKit
set_option linter.unusedVariables false

end Go.Proofs.YtelogjpjglohoaaGreatDoor
