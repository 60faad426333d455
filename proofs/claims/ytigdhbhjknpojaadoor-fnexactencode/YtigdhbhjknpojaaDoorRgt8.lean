/- The model's check of an instruction: form 8. -/
import Derived.Test.YtigdhbhjknpojaaDoorRgtP
namespace Go.Proofs.YtigdhbhjknpojaaDoor
open Go.RowKit
set_option linter.unusedVariables false

set_option maxRecDepth 100000 in
set_option maxHeartbeats 8000000 in
theorem rgt8 (op rd r1 r2 im c g h : Int) (hs : Hid (shT op = (8, c, g, h))) (h0 : 1 ≤ op) (h1 : op ≤ 64) (hrd : regB rd = true) (hr1 : regB r1 = true) (hr2 : regB r2 = true) (w : World) :
    Calls Tryd.prog 34 #[.agg #[.int .i64 op, .int .i64 rd, .int .i64 r1, .int .i64 r2, .int .i64 im]] w fun e w' => e = .returned (.bool (rightF 8 rd r1 r2 im)) ∧ Below w.heap.size w w' := by
  go_enter Tryd.func34, Tryd.ntmps34
  go_wp2_with (first | (go_at_call 46; refine (spOp1 _ _ true (.inl ⟨rfl, h0, h1⟩)).mono ?_; rintro e w2 ⟨rfl, rfl⟩) | (go_at_call 59; refine (spReg _ _).mono ?_; rintro e w2 ⟨rfl, rfl⟩) | (go_at_call 60; refine (spInB _ _ _ _).mono ?_; rintro e w2 ⟨rfl, rfl⟩))
  refine (specShs op 8 c g h _ hs.out).mono ?_
  rintro e w1 ⟨rfl, hb1⟩
  obtain ⟨hc1, hf1⟩ := bcell hb1
  have HB1 : Hid (Below w.heap.size w w1) := ((Below.refl _ _).alloc (Nat.le_refl _) _).trans (hb1.mono (by simp))
  clear hs hb1
  have hfd := shField0 8 c g h
  go_wp2_with (first | (go_at_call 46; refine (spOp1 _ _ true (.inl ⟨rfl, h0, h1⟩)).mono ?_; rintro e w2 ⟨rfl, rfl⟩) | (go_at_call 59; refine (spReg _ _).mono ?_; rintro e w2 ⟨rfl, rfl⟩) | (go_at_call 60; refine (spInB _ _ _ _).mono ?_; rintro e w2 ⟨rfl, rfl⟩))
  go_ret
  exact ⟨congrArg (fun x => Ending.returned (.bool x)) (by simp [rightF, hrd, hr1, hr2]), HB1.out⟩
end Go.Proofs.YtigdhbhjknpojaaDoor
