/- The model's check of an instruction: form 8. The model's check of an instruction: form 9. The model's check of an instruction: the contract. The fixed bits of a word, by the program: the contract. -/
import Derived.Test.YtbfoopfmjiilcaaDoorGXWordsOf25
import Derived.Test.YtbfoopfmjiilcaaDoorGXWordsOf26
import Derived.Test.YtbfoopfmjiilcaaDoorGXWordsOf0
namespace Go.Proofs.YtbfoopfmjiilcaaDoor
open Go.RowKit
set_option linter.unusedVariables false

set_option maxRecDepth 100000 in
set_option maxHeartbeats 8000000 in
theorem rgt8 (op rd r1 r2 im c g h : Int) (hs : Hid (shT op = (8, c, g, h))) (h0 : 1 ≤ op) (h1 : op ≤ 64) (hrd : regB rd = true) (hr1 : regB r1 = true) (hr2 : regB r2 = true) (w : World) :
    Calls Tryd.prog 27 #[.agg #[.int .i64 op, .int .i64 rd, .int .i64 r1, .int .i64 r2, .int .i64 im]] w fun e w' => e = .returned (.bool (rightF 8 rd r1 r2 im)) ∧ Below w.heap.size w w' := by
  go_enter Tryd.func27, Tryd.ntmps27
  go_wp2_with (first | (go_at_call 50; refine (spOp1 _ _ true (.inl ⟨rfl, h0, h1⟩)).mono ?_; rintro e w2 ⟨rfl, rfl⟩) | (go_at_call 51; refine (spReg _ _).mono ?_; rintro e w2 ⟨rfl, rfl⟩) | (go_at_call 41; refine (spInB _ _ _ _).mono ?_; rintro e w2 ⟨rfl, rfl⟩))
  refine (specShs op 8 c g h _ hs.out).mono ?_
  rintro e w1 ⟨rfl, hb1⟩
  obtain ⟨hc1, hf1⟩ := bcell hb1
  have HB1 : Hid (Below w.heap.size w w1) := ((Below.refl _ _).alloc (Nat.le_refl _) _).trans (hb1.mono (by simp))
  clear hs hb1
  have hfd := shField0 8 c g h
  go_wp2_with (first | (go_at_call 50; refine (spOp1 _ _ true (.inl ⟨rfl, h0, h1⟩)).mono ?_; rintro e w2 ⟨rfl, rfl⟩) | (go_at_call 51; refine (spReg _ _).mono ?_; rintro e w2 ⟨rfl, rfl⟩) | (go_at_call 41; refine (spInB _ _ _ _).mono ?_; rintro e w2 ⟨rfl, rfl⟩))
  go_ret
  exact ⟨congrArg (fun x => Ending.returned (.bool x)) (by simp [rightF, hrd, hr1, hr2]), HB1.out⟩
end Go.Proofs.YtbfoopfmjiilcaaDoor

namespace Go.Proofs.YtbfoopfmjiilcaaDoor
open Go.RowKit
set_option linter.unusedVariables false

set_option maxRecDepth 100000 in
set_option maxHeartbeats 8000000 in
theorem rgt9 (op rd r1 r2 im c g h : Int) (hs : Hid (shT op = (9, c, g, h))) (h0 : 1 ≤ op) (h1 : op ≤ 64) (hrd : regB rd = true) (hr1 : regB r1 = true) (hr2 : regB r2 = true) (w : World) :
    Calls Tryd.prog 27 #[.agg #[.int .i64 op, .int .i64 rd, .int .i64 r1, .int .i64 r2, .int .i64 im]] w fun e w' => e = .returned (.bool (rightF 9 rd r1 r2 im)) ∧ Below w.heap.size w w' := by
  go_enter Tryd.func27, Tryd.ntmps27
  go_wp2_with (first | (go_at_call 50; refine (spOp1 _ _ true (.inl ⟨rfl, h0, h1⟩)).mono ?_; rintro e w2 ⟨rfl, rfl⟩) | (go_at_call 51; refine (spReg _ _).mono ?_; rintro e w2 ⟨rfl, rfl⟩) | (go_at_call 41; refine (spInB _ _ _ _).mono ?_; rintro e w2 ⟨rfl, rfl⟩))
  refine (specShs op 9 c g h _ hs.out).mono ?_
  rintro e w1 ⟨rfl, hb1⟩
  obtain ⟨hc1, hf1⟩ := bcell hb1
  have HB1 : Hid (Below w.heap.size w w1) := ((Below.refl _ _).alloc (Nat.le_refl _) _).trans (hb1.mono (by simp))
  clear hs hb1
  have hfd := shField0 9 c g h
  by_cases erd : rd = 0
  case neg =>
    have nrd : (rd == 0) = false := by simpa using erd
    go_wp2_with (first | (go_at_call 50; refine (spOp1 _ _ true (.inl ⟨rfl, h0, h1⟩)).mono ?_; rintro e w2 ⟨rfl, rfl⟩) | (go_at_call 51; refine (spReg _ _).mono ?_; rintro e w2 ⟨rfl, rfl⟩) | (go_at_call 41; refine (spInB _ _ _ _).mono ?_; rintro e w2 ⟨rfl, rfl⟩))
    go_ret
    exact ⟨congrArg (fun x => Ending.returned (.bool x)) (by simp [rightF, nrd]), HB1.out⟩
  subst erd
  by_cases er1 : r1 = 0
  case neg =>
    have nr1 : (r1 == 0) = false := by simpa using er1
    go_wp2_with (first | (go_at_call 50; refine (spOp1 _ _ true (.inl ⟨rfl, h0, h1⟩)).mono ?_; rintro e w2 ⟨rfl, rfl⟩) | (go_at_call 51; refine (spReg _ _).mono ?_; rintro e w2 ⟨rfl, rfl⟩) | (go_at_call 41; refine (spInB _ _ _ _).mono ?_; rintro e w2 ⟨rfl, rfl⟩))
    go_ret
    exact ⟨congrArg (fun x => Ending.returned (.bool x)) (by simp [rightF, nr1]), HB1.out⟩
  subst er1
  by_cases er2 : r2 = 0
  case neg =>
    have nr2 : (r2 == 0) = false := by simpa using er2
    go_wp2_with (first | (go_at_call 50; refine (spOp1 _ _ true (.inl ⟨rfl, h0, h1⟩)).mono ?_; rintro e w2 ⟨rfl, rfl⟩) | (go_at_call 51; refine (spReg _ _).mono ?_; rintro e w2 ⟨rfl, rfl⟩) | (go_at_call 41; refine (spInB _ _ _ _).mono ?_; rintro e w2 ⟨rfl, rfl⟩))
    go_ret
    exact ⟨congrArg (fun x => Ending.returned (.bool x)) (by simp [rightF, nr2]), HB1.out⟩
  subst er2
  go_wp2_with (first | (go_at_call 50; refine (spOp1 _ _ true (.inl ⟨rfl, h0, h1⟩)).mono ?_; rintro e w2 ⟨rfl, rfl⟩) | (go_at_call 51; refine (spReg _ _).mono ?_; rintro e w2 ⟨rfl, rfl⟩) | (go_at_call 41; refine (spInB _ _ _ _).mono ?_; rintro e w2 ⟨rfl, rfl⟩))
  go_ret
  exact ⟨congrArg (fun x => Ending.returned (.bool x)) (by simp [rightF]), HB1.out⟩
end Go.Proofs.YtbfoopfmjiilcaaDoor

namespace Go.Proofs.YtbfoopfmjiilcaaDoor
open Go.RowKit
set_option linter.unusedVariables false

theorem rgtYes (op rd r1 r2 im : Int) (h0 : 1 ≤ op) (h1 : op ≤ 64) (hrd : regB rd = true) (hr1 : regB r1 = true) (hr2 : regB r2 = true) (w : World) :
    Calls Tryd.prog 27 #[.agg #[.int .i64 op, .int .i64 rd, .int .i64 r1, .int .i64 r2, .int .i64 im]] w fun e w' => e = .returned (.bool (rightF (shT op).1 rd r1 r2 im)) ∧ Below w.heap.size w w' := by
  have hf := shT_form op h0 h1
  obtain ⟨f, c, g, h, hs⟩ : ∃ f c g h, shT op = (f, c, g, h) := ⟨_, _, _, _, rfl⟩
  rw [hs]
  rw [hs] at hf
  change 1 ≤ f ∧ f ≤ 9 at hf
  change Calls _ _ _ _ fun e w' => e = .returned (.bool (rightF f rd r1 r2 im)) ∧ Below w.heap.size w w'
  rcases (show f = 1 ∨ f = 2 ∨ f = 3 ∨ f = 4 ∨ f = 5 ∨ f = 6 ∨ f = 7 ∨ f = 8 ∨ f = 9 by omega) with rfl | rfl | rfl | rfl | rfl | rfl | rfl | rfl | rfl
  · exact rgt1 op rd r1 r2 im c g h hs h0 h1 hrd hr1 hr2 w
  · exact rgt2 op rd r1 r2 im c g h hs h0 h1 hrd hr1 hr2 w
  · exact rgt3 op rd r1 r2 im c g h hs h0 h1 hrd hr1 hr2 w
  · exact rgt4 op rd r1 r2 im c g h hs h0 h1 hrd hr1 hr2 w
  · exact rgt5 op rd r1 r2 im c g h hs h0 h1 hrd hr1 hr2 w
  · exact rgt6 op rd r1 r2 im c g h hs h0 h1 hrd hr1 hr2 w
  · exact rgt7 op rd r1 r2 im c g h hs h0 h1 hrd hr1 hr2 w
  · exact rgt8 op rd r1 r2 im c g h hs h0 h1 hrd hr1 hr2 w
  · exact rgt9 op rd r1 r2 im c g h hs h0 h1 hrd hr1 hr2 w

set_option maxHeartbeats 4000000 in
theorem rightC (op rd r1 r2 im : Int) (w : World) :
    Calls Tryd.prog 27 #[.agg #[.int .i64 op, .int .i64 rd, .int .i64 r1, .int .i64 r2, .int .i64 im]] w fun e w' => e = .returned (.bool (rightB op rd r1 r2 im)) ∧ Below w.heap.size w w' := by
  by_cases h : 1 ≤ op ∧ op ≤ 64
  case neg =>
    have hr : rightB op rd r1 r2 im = false := by
      unfold rightB
      rw [decide_eq_false h, Bool.false_and]
    have ho : op < 1 ∨ 64 < op := by omega
    clear h
    rw [hr]
    clear hr
    go_enter Tryd.func27, Tryd.ntmps27
    go_wp2_with (go_at_call 50; refine (spOp1 _ _ false (.inr ⟨rfl, ho⟩)).mono ?_; rintro e w2 ⟨rfl, rfl⟩; clear ho)
    go_ret
    exact ⟨rfl, (Below.refl _ _).alloc (Nat.le_refl _) _⟩
  obtain ⟨h0, h1⟩ := h
  have e1 : rightB op rd r1 r2 im = rightF (shT op).1 rd r1 r2 im := by
    unfold rightB
    rw [decide_eq_true ⟨h0, h1⟩, Bool.true_and]
  rw [e1]
  clear e1
  cases hrd : regB rd with
  | false =>
    rw [rightF_rd hrd]
    go_enter Tryd.func27, Tryd.ntmps27
    go_wp2_with (first | (go_at_call 50; refine (spOp1 _ _ true (.inl ⟨rfl, h0, h1⟩)).mono ?_; rintro e w2 ⟨rfl, rfl⟩) | (go_at_call 51; refine (spReg _ _).mono ?_; rintro e w2 ⟨rfl, rfl⟩))
    go_ret
    exact ⟨rfl, (Below.refl _ _).alloc (Nat.le_refl _) _⟩
  | true =>
    cases hr1 : regB r1 with
    | false =>
      rw [rightF_r1 hr1]
      go_enter Tryd.func27, Tryd.ntmps27
      go_wp2_with (first | (go_at_call 50; refine (spOp1 _ _ true (.inl ⟨rfl, h0, h1⟩)).mono ?_; rintro e w2 ⟨rfl, rfl⟩) | (go_at_call 51; refine (spReg _ _).mono ?_; rintro e w2 ⟨rfl, rfl⟩))
      go_ret
      exact ⟨rfl, (Below.refl _ _).alloc (Nat.le_refl _) _⟩
    | true =>
      cases hr2 : regB r2 with
      | false =>
        rw [rightF_r2 hr2]
        go_enter Tryd.func27, Tryd.ntmps27
        go_wp2_with (first | (go_at_call 50; refine (spOp1 _ _ true (.inl ⟨rfl, h0, h1⟩)).mono ?_; rintro e w2 ⟨rfl, rfl⟩) | (go_at_call 51; refine (spReg _ _).mono ?_; rintro e w2 ⟨rfl, rfl⟩))
        go_ret
        exact ⟨rfl, (Below.refl _ _).alloc (Nat.le_refl _) _⟩
      | true => exact rgtYes op rd r1 r2 im h0 h1 hrd hr1 hr2 w

set_option maxHeartbeats 1000000 in
theorem toInstrC (op rd r1 r2 im : Int) (w : World) :
    Calls Tryd.prog 29 #[.agg #[.int .i64 op, .int .i64 rd, .int .i64 r1, .int .i64 r2, .int .i64 im]] w fun e w' => e = .returned (.agg #[.int .i64 op, .int .i64 rd, .int .i64 r1, .int .i64 r2, .int .i64 im]) ∧ Below w.heap.size w w' := by
  go_enter Tryd.func29, Tryd.ntmps29
  go_wp2
  refine bodyPost_ret (v := .agg #[.int .i64 op, .int .i64 rd, .int .i64 r1, .int .i64 r2, .int .i64 im]) (by simp [results, Tryd.results29, go_sem]) rfl ⟨rfl, ?_⟩
  exact (((Below.refl _ _).alloc (Nat.le_refl _) _).alloc (by simp) _).alloc (by simp; omega) _
end Go.Proofs.YtbfoopfmjiilcaaDoor

namespace Go.Proofs.YtbfoopfmjiilcaaDoor
open Go.RowKit
set_option linter.unusedVariables false

theorem shT_ok (op : Int) (h0 : 1 ≤ op) (h1 : op ≤ 64) : shOK (shT op).1 (shT op).2.1 (shT op).2.2.1 (shT op).2.2.2 = true := by
  obtain ⟨k, rfl⟩ := Int.eq_ofNat_of_zero_le (show 0 ≤ op by omega)
  have hk : k < 65 := by omega
  have hk0 : 1 ≤ k := by omega
  have key : ∀ j : Nat, j < 65 → 1 ≤ j → shOK (shT (j : Int)).1 (shT (j : Int)).2.1 (shT (j : Int)).2.2.1 (shT (j : Int)).2.2.2 = true := by decide +kernel
  exact key k hk hk0

theorem sh_bounds {f c g h : Int} (hs : shOK f c g h = true) : 1 ≤ f ∧ f ≤ 9 ∧ 0 ≤ c ∧ c < 128 ∧ 0 ≤ g ∧ g < 8 ∧ 0 ≤ h ∧ h < 64 := by
  simp only [shOK, Bool.and_eq_true, Bool.or_eq_true, decide_eq_true_eq] at hs
  obtain ⟨⟨⟨⟨⟨⟨⟨⟨⟨⟨⟨⟨⟨f0, f1⟩, k0⟩, k1⟩, g0⟩, g1⟩, h0⟩, h1⟩, s1⟩, s2⟩, s3⟩, s4⟩, s5⟩, s9⟩ := hs
  exact ⟨f0, f1, k0, k1, g0, g1, h0, h1⟩

theorem cg_or (c g : Int) (k0 : 0 ≤ c) (k1 : c < 128) (g0 : 0 ≤ g) (g1 : g < 8) : bits .or .i64 c (g * 4096) = c + g * 4096 :=
  i64_or_gap 12 3 4096 32768 (by decide) (by decide) _ _ (by omega) (by omega) (by omega) (by omega) (by omega) (by omega) (by decide)

set_option maxHeartbeats 1000000 in
theorem fixC (f c g h : Int) (w : World) (f0 : 1 ≤ f) (f1 : f ≤ 9) (k0 : 0 ≤ c) (k1 : c < 128) (g0 : 0 ≤ g) (g1 : g < 8) (h0 : 0 ≤ h) (h1 : h < 64) :
    Calls Tryd.prog 57 #[.agg #[.int .i64 f, .int .i64 c, .int .i64 g, .int .i64 h]] w fun e w' => e = .returned (.int .i64 (fixW f c g h)) ∧ Below w.heap.size w w' := by
  have hcg := cg_or c g k0 k1 g0 g1
  by_cases e6 : f = 6
  · subst e6
    have e : Hid (bits .or .i64 (c + g * 4096) (h / 2 * 67108864) = fixW 6 c g h) :=
      i64_or_gap 26 6 67108864 4294967296 (by decide) (by decide) _ _ (by omega) (by omega) (by omega) (by omega) (by omega) (by omega) (by decide)
    go_enter Tryd.func57, Tryd.ntmps57
    go_wp2
    go_ret
    exact ⟨congrArg (fun x => Ending.returned (.int .i64 x)) e.out, (Below.refl _ _).alloc (Nat.le_refl _) _⟩
  by_cases e9 : f = 9
  · subst e9
    have e : Hid (bits .or .i64 (c + g * 4096) (h * 1048576) = fixW 9 c g h) :=
      i64_or_gap 20 6 1048576 67108864 (by decide) (by decide) _ _ (by omega) (by omega) (by omega) (by omega) (by omega) (by omega) (by decide)
    clear e6
    go_enter Tryd.func57, Tryd.ntmps57
    go_wp2
    go_ret
    exact ⟨congrArg (fun x => Ending.returned (.int .i64 x)) e.out, (Below.refl _ _).alloc (Nat.le_refl _) _⟩
  · have ef : fixW f c g h = c + g * 4096 + h * 33554432 := by
      unfold fixW
      rw [if_neg e6, if_neg e9]
    have e : Hid (bits .or .i64 (c + g * 4096) (h * 33554432) = fixW f c g h) := by
      rw [ef]
      exact i64_or_gap 25 7 33554432 4294967296 (by decide) (by decide) _ _ (by omega) (by omega) (by omega) (by omega) (by omega) (by omega) (by decide)
    clear ef
    have n6 : (f == 6) = false := by simpa using e6
    have n9 : (f == 9) = false := by simpa using e9
    clear e6 e9
    go_enter Tryd.func57, Tryd.ntmps57
    go_wp2
    go_ret
    exact ⟨congrArg (fun x => Ending.returned (.int .i64 x)) e.out, (Below.refl _ _).alloc (Nat.le_refl _) _⟩
end Go.Proofs.YtbfoopfmjiilcaaDoor
