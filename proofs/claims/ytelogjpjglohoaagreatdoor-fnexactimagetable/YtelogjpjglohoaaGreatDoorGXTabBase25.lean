/- Bits laid into a word whose place is free, by the model: the contract. The model's check of an instruction: form 1. The model's check of an instruction: form 2. The model's check of an instruction: form 3. The model's check of an instruction: form 4. -/
import Derived.Test.YtelogjpjglohoaaGreatDoorGXTabBase24
import Derived.Test.YtelogjpjglohoaaGreatDoorGXTabBase22
import Derived.Test.YtelogjpjglohoaaGreatDoorGXTabBase14
import Derived.Test.YtelogjpjglohoaaGreatDoorGXTabBase20
namespace Go.Proofs.YtelogjpjglohoaaGreatDoor
open Go.RowKit
set_option linter.unusedVariables false

theorem putStep (word v : Int) (low count k : Nat) (hw : 0 ≤ word) (hz : word / 2 ^ low % 2 ^ count = 0) :
    putT word v low count / 2 ^ k = 2 * (putT word v low count / 2 ^ (k + 1)) + (if low ≤ k ∧ k < low + count then bitT v (k - low) else bitT word k) := by
  rw [← put_bit word v low count k hw hz]
  exact int_half _ k

set_option maxRecDepth 100000 in
set_option maxHeartbeats 4000000 in
theorem putC (word v : Int) (low count : Nat) (w : World) (hw : 0 ≤ word) (hw2 : word < 4294967296) (h : low + count ≤ 32) (hz : word / 2 ^ low % 2 ^ count = 0) :
    Calls Tryz.prog 91 #[.int .i64 word, .int .i64 low, .int .i64 count, .int .i64 v] w fun e w' => e = .returned (.int .i64 (putT word v low count)) ∧ w' = w := by
  have hbd := put_bd word v low count hw hw2 h hz
  have hst := fun k => putStep word v low count k hw hz
  obtain ⟨R, hR⟩ : ∃ R, R = putT word v low count := ⟨_, rfl⟩
  rw [← hR] at hbd hst
  rw [← hR]
  clear hR hw hw2 hz
  obtain ⟨hR0, hR1⟩ := hbd
  have hR1' : R < 4294967296 := hR1
  have HST : Hid (∀ k, R / 2 ^ k = 2 * (R / 2 ^ (k + 1)) + (if low ≤ k ∧ k < low + count then bitT v (k - low) else bitT word k)) := hst
  have HB : Hid (0 ≤ R ∧ R < 4294967296) := ⟨hR0, hR1'⟩
  clear hst hR0 hR1 hR1'
  go_enter Tryz.func91, Tryz.ntmps91
  go_wp2
  go_loop [9, 10] (fun x t => ∃ k : Nat, ∃ o : Int, k ≤ 32 ∧ t = .int .i64 ((k : Int) - 1) ∧ x = .int .i64 o ∧ Hid (o = R / 2 ^ k)) (fun _ t => (intOf t + 1).toNat)
  case atStart => exact ⟨32, 0, Nat.le_refl _, rfl, rfl, (Int.ediv_eq_zero_of_lt HB.out.1 HB.out.2).symm⟩
  case round =>
    obtain ⟨k, o, hk, rfl, rfl, ho⟩ := hrel
    by_cases hlt : 1 ≤ k
    · obtain ⟨j, rfl⟩ : ∃ j, k = j + 1 := ⟨k - 1, by omega⟩
      have ho0 : 0 ≤ o := by rw [ho.out]; exact Int.ediv_nonneg HB.out.1 (Int.le_of_lt (pow_pos _))
      have ho1 : o < 4294967296 := by
        rw [ho.out]
        have := Int.ediv_le_self (2 ^ (j + 1)) HB.out.1
        have := HB.out.2
        omega
      have HJ : Hid (R / 2 ^ j = 2 * o + (if low ≤ j ∧ j < low + count then bitT v (j - low) else bitT word j)) := by
        have := HST.out j
        rw [← ho.out] at this
        exact this
      have ej : ((j + 1 : Nat) : Int) - 1 = (j : Int) := by omega
      clear ho HST HB
      by_cases h1 : low ≤ j
      · by_cases h2 : j < low + count
        · obtain ⟨m, rfl⟩ : ∃ m, j = low + m := ⟨j - low, by omega⟩
          rw [if_pos ⟨h1, h2⟩, Nat.add_sub_cancel_left] at HJ
          have hm : (low : Int) + (m : Int) - (low : Int) = (m : Int) := by omega
          go_wp2_with fail
          refine (bit_any word (low + m) _ (by omega)).mono ?_
          rintro e w2 ⟨rfl, rfl⟩
          go_wp2_with fail
          refine (bit_any v m _ (by omega)).mono ?_
          rintro e w2 ⟨rfl, rfl⟩
          have hbd := bitT_bd v m
          generalize bitT v m = b at *
          have hb0 : 0 ≤ b := by omega
          have hb1 : b ≤ 1 := by omega
          clear hbd h1 h2
          go_wp2
          go_round
          case rel => exact ⟨low + m, 2 * o + b, by omega, by go_num, by go_num, HJ.out.symm⟩
          case measure => simp [intOf]; omega
        · rw [if_neg (by omega)] at HJ
          have h2i : (low : Int) + (count : Int) ≤ (j : Int) := by omega
          clear h2
          go_wp2_with fail
          refine (bit_any word j _ (by omega)).mono ?_
          rintro e w2 ⟨rfl, rfl⟩
          have hbd := bitT_bd word j
          generalize bitT word j = b at *
          have hb0 : 0 ≤ b := by omega
          have hb1 : b ≤ 1 := by omega
          clear hbd h1
          go_wp2
          go_round
          case rel => exact ⟨j, 2 * o + b, by omega, by go_num, by go_num, HJ.out.symm⟩
          case measure => simp [intOf]
      · rw [if_neg (by omega)] at HJ
        have h1i : (j : Int) < (low : Int) := by omega
        go_wp2_with fail
        refine (bit_any word j _ (by omega)).mono ?_
        rintro e w2 ⟨rfl, rfl⟩
        have hbd := bitT_bd word j
        generalize bitT word j = b at *
        have hb0 : 0 ≤ b := by omega
        have hb1 : b ≤ 1 := by omega
        clear hbd h1
        go_wp2
        go_round
        case rel => exact ⟨j, 2 * o + b, by omega, by go_num, by go_num, HJ.out.symm⟩
        case measure => simp [intOf]
    · obtain rfl : k = 0 := by omega
      have ho' : o = R := by rw [ho.out]; simp
      clear ho HST HB
      go_wp2
      go_ret
      exact ⟨rfl, rfl⟩
end Go.Proofs.YtelogjpjglohoaaGreatDoor

namespace Go.Proofs.YtelogjpjglohoaaGreatDoor
open Go.RowKit
set_option linter.unusedVariables false

set_option maxRecDepth 100000 in
set_option maxHeartbeats 8000000 in
theorem rgt1 (op rd r1 r2 im c g h : Int) (hs : Hid (shT op = (1, c, g, h))) (h0 : 1 ≤ op) (h1 : op ≤ 64) (hrd : regB rd = true) (hr1 : regB r1 = true) (hr2 : regB r2 = true) (w : World) :
    Calls Tryz.prog 108 #[.agg #[.int .i64 op, .int .i64 rd, .int .i64 r1, .int .i64 r2, .int .i64 im]] w fun e w' => e = .returned (.bool (rightF 1 rd r1 r2 im)) ∧ Below w.heap.size w w' := by
  go_enter Tryz.func108, Tryz.ntmps108
  go_wp2_with (first | (go_at_call 117; refine (spOp1 _ _ true (.inl ⟨rfl, h0, h1⟩)).mono ?_; rintro e w2 ⟨rfl, rfl⟩) | (go_at_call 118; refine (spReg _ _).mono ?_; rintro e w2 ⟨rfl, rfl⟩) | (go_at_call 79; refine (spInB _ _ _ _).mono ?_; rintro e w2 ⟨rfl, rfl⟩))
  refine (specShs op 1 c g h _ hs.out).mono ?_
  rintro e w1 ⟨rfl, hb1⟩
  obtain ⟨hc1, hf1⟩ := bcell hb1
  have HB1 : Hid (Below w.heap.size w w1) := ((Below.refl _ _).alloc (Nat.le_refl _) _).trans (hb1.mono (by simp))
  clear hs hb1
  have hfd := shField0 1 c g h
  by_cases er1 : r1 = 0
  case neg =>
    have nr1 : (r1 == 0) = false := by simpa using er1
    go_wp2_with (first | (go_at_call 117; refine (spOp1 _ _ true (.inl ⟨rfl, h0, h1⟩)).mono ?_; rintro e w2 ⟨rfl, rfl⟩) | (go_at_call 118; refine (spReg _ _).mono ?_; rintro e w2 ⟨rfl, rfl⟩) | (go_at_call 79; refine (spInB _ _ _ _).mono ?_; rintro e w2 ⟨rfl, rfl⟩))
    go_ret
    exact ⟨congrArg (fun x => Ending.returned (.bool x)) (by simp [rightF, nr1]), HB1.out⟩
  subst er1
  by_cases er2 : r2 = 0
  case neg =>
    have nr2 : (r2 == 0) = false := by simpa using er2
    go_wp2_with (first | (go_at_call 117; refine (spOp1 _ _ true (.inl ⟨rfl, h0, h1⟩)).mono ?_; rintro e w2 ⟨rfl, rfl⟩) | (go_at_call 118; refine (spReg _ _).mono ?_; rintro e w2 ⟨rfl, rfl⟩) | (go_at_call 79; refine (spInB _ _ _ _).mono ?_; rintro e w2 ⟨rfl, rfl⟩))
    go_ret
    exact ⟨congrArg (fun x => Ending.returned (.bool x)) (by simp [rightF, nr2]), HB1.out⟩
  subst er2
  by_cases hin : -2147483648 ≤ im ∧ im ≤ 2147479552
  case neg =>
    have hi0 := inB_f hin
    have hk : okB 1 im = false := okB_f (by decide) (by decide) (by show ¬ (_ ∧ _ ∧ _); omega)
    clear hin
    go_wp2_with (first | (go_at_call 117; refine (spOp1 _ _ true (.inl ⟨rfl, h0, h1⟩)).mono ?_; rintro e w2 ⟨rfl, rfl⟩) | (go_at_call 118; refine (spReg _ _).mono ?_; rintro e w2 ⟨rfl, rfl⟩) | (go_at_call 79; refine (spInB _ _ _ _).mono ?_; rintro e w2 ⟨rfl, rfl⟩))
    go_ret
    exact ⟨congrArg (fun x => Ending.returned (.bool x)) (by simp [rightF, hk]), HB1.out⟩
  obtain ⟨hin0, hin1⟩ := hin
  have hi0 := inB_t hin0 hin1
  by_cases hm : im % 4096 = 0
  case neg =>
    have hk : okB 1 im = false := okB_f (by decide) (by decide) (by show ¬ (_ ∧ _ ∧ _); omega)
    have hm2 : (im.tmod 4096 == 0) = false := by
      have := tm0 im 4096
      simpa [this] using hm
    clear hin0 hin1 hm
    go_wp2_with (first | (go_at_call 117; refine (spOp1 _ _ true (.inl ⟨rfl, h0, h1⟩)).mono ?_; rintro e w2 ⟨rfl, rfl⟩) | (go_at_call 118; refine (spReg _ _).mono ?_; rintro e w2 ⟨rfl, rfl⟩) | (go_at_call 79; refine (spInB _ _ _ _).mono ?_; rintro e w2 ⟨rfl, rfl⟩))
    go_ret
    exact ⟨congrArg (fun x => Ending.returned (.bool x)) (by simp [rightF, hk]), HB1.out⟩
  have hk : okB 1 im = true := okB_t (by decide) (by decide) (by show _ ∧ _ ∧ _; omega)
  have hm2 : im.tmod 4096 = 0 := (tm0 im 4096).2 hm
  clear hin0 hin1 hm
  go_wp2_with (first | (go_at_call 117; refine (spOp1 _ _ true (.inl ⟨rfl, h0, h1⟩)).mono ?_; rintro e w2 ⟨rfl, rfl⟩) | (go_at_call 118; refine (spReg _ _).mono ?_; rintro e w2 ⟨rfl, rfl⟩) | (go_at_call 79; refine (spInB _ _ _ _).mono ?_; rintro e w2 ⟨rfl, rfl⟩))
  go_ret
  exact ⟨congrArg (fun x => Ending.returned (.bool x)) (by simp [rightF, hk, hrd]), HB1.out⟩
end Go.Proofs.YtelogjpjglohoaaGreatDoor

namespace Go.Proofs.YtelogjpjglohoaaGreatDoor
open Go.RowKit
set_option linter.unusedVariables false

set_option maxRecDepth 100000 in
set_option maxHeartbeats 8000000 in
theorem rgt2 (op rd r1 r2 im c g h : Int) (hs : Hid (shT op = (2, c, g, h))) (h0 : 1 ≤ op) (h1 : op ≤ 64) (hrd : regB rd = true) (hr1 : regB r1 = true) (hr2 : regB r2 = true) (w : World) :
    Calls Tryz.prog 108 #[.agg #[.int .i64 op, .int .i64 rd, .int .i64 r1, .int .i64 r2, .int .i64 im]] w fun e w' => e = .returned (.bool (rightF 2 rd r1 r2 im)) ∧ Below w.heap.size w w' := by
  go_enter Tryz.func108, Tryz.ntmps108
  go_wp2_with (first | (go_at_call 117; refine (spOp1 _ _ true (.inl ⟨rfl, h0, h1⟩)).mono ?_; rintro e w2 ⟨rfl, rfl⟩) | (go_at_call 118; refine (spReg _ _).mono ?_; rintro e w2 ⟨rfl, rfl⟩) | (go_at_call 79; refine (spInB _ _ _ _).mono ?_; rintro e w2 ⟨rfl, rfl⟩))
  refine (specShs op 2 c g h _ hs.out).mono ?_
  rintro e w1 ⟨rfl, hb1⟩
  obtain ⟨hc1, hf1⟩ := bcell hb1
  have HB1 : Hid (Below w.heap.size w w1) := ((Below.refl _ _).alloc (Nat.le_refl _) _).trans (hb1.mono (by simp))
  clear hs hb1
  have hfd := shField0 2 c g h
  by_cases er1 : r1 = 0
  case neg =>
    have nr1 : (r1 == 0) = false := by simpa using er1
    go_wp2_with (first | (go_at_call 117; refine (spOp1 _ _ true (.inl ⟨rfl, h0, h1⟩)).mono ?_; rintro e w2 ⟨rfl, rfl⟩) | (go_at_call 118; refine (spReg _ _).mono ?_; rintro e w2 ⟨rfl, rfl⟩) | (go_at_call 79; refine (spInB _ _ _ _).mono ?_; rintro e w2 ⟨rfl, rfl⟩))
    go_ret
    exact ⟨congrArg (fun x => Ending.returned (.bool x)) (by simp [rightF, nr1]), HB1.out⟩
  subst er1
  by_cases er2 : r2 = 0
  case neg =>
    have nr2 : (r2 == 0) = false := by simpa using er2
    go_wp2_with (first | (go_at_call 117; refine (spOp1 _ _ true (.inl ⟨rfl, h0, h1⟩)).mono ?_; rintro e w2 ⟨rfl, rfl⟩) | (go_at_call 118; refine (spReg _ _).mono ?_; rintro e w2 ⟨rfl, rfl⟩) | (go_at_call 79; refine (spInB _ _ _ _).mono ?_; rintro e w2 ⟨rfl, rfl⟩))
    go_ret
    exact ⟨congrArg (fun x => Ending.returned (.bool x)) (by simp [rightF, nr2]), HB1.out⟩
  subst er2
  by_cases hin : -1048576 ≤ im ∧ im ≤ 1048574
  case neg =>
    have hi0 := inB_f hin
    have hk : okB 2 im = false := okB_f (by decide) (by decide) (by show ¬ (_ ∧ _ ∧ _); omega)
    clear hin
    go_wp2_with (first | (go_at_call 117; refine (spOp1 _ _ true (.inl ⟨rfl, h0, h1⟩)).mono ?_; rintro e w2 ⟨rfl, rfl⟩) | (go_at_call 118; refine (spReg _ _).mono ?_; rintro e w2 ⟨rfl, rfl⟩) | (go_at_call 79; refine (spInB _ _ _ _).mono ?_; rintro e w2 ⟨rfl, rfl⟩))
    go_ret
    exact ⟨congrArg (fun x => Ending.returned (.bool x)) (by simp [rightF, hk]), HB1.out⟩
  obtain ⟨hin0, hin1⟩ := hin
  have hi0 := inB_t hin0 hin1
  by_cases hm : im % 2 = 0
  case neg =>
    have hk : okB 2 im = false := okB_f (by decide) (by decide) (by show ¬ (_ ∧ _ ∧ _); omega)
    have hm2 : (im.tmod 2 == 0) = false := by
      have := tm0 im 2
      simpa [this] using hm
    clear hin0 hin1 hm
    go_wp2_with (first | (go_at_call 117; refine (spOp1 _ _ true (.inl ⟨rfl, h0, h1⟩)).mono ?_; rintro e w2 ⟨rfl, rfl⟩) | (go_at_call 118; refine (spReg _ _).mono ?_; rintro e w2 ⟨rfl, rfl⟩) | (go_at_call 79; refine (spInB _ _ _ _).mono ?_; rintro e w2 ⟨rfl, rfl⟩))
    go_ret
    exact ⟨congrArg (fun x => Ending.returned (.bool x)) (by simp [rightF, hk]), HB1.out⟩
  have hk : okB 2 im = true := okB_t (by decide) (by decide) (by show _ ∧ _ ∧ _; omega)
  have hm2 : im.tmod 2 = 0 := (tm0 im 2).2 hm
  clear hin0 hin1 hm
  go_wp2_with (first | (go_at_call 117; refine (spOp1 _ _ true (.inl ⟨rfl, h0, h1⟩)).mono ?_; rintro e w2 ⟨rfl, rfl⟩) | (go_at_call 118; refine (spReg _ _).mono ?_; rintro e w2 ⟨rfl, rfl⟩) | (go_at_call 79; refine (spInB _ _ _ _).mono ?_; rintro e w2 ⟨rfl, rfl⟩))
  go_ret
  exact ⟨congrArg (fun x => Ending.returned (.bool x)) (by simp [rightF, hk, hrd]), HB1.out⟩
end Go.Proofs.YtelogjpjglohoaaGreatDoor

namespace Go.Proofs.YtelogjpjglohoaaGreatDoor
open Go.RowKit
set_option linter.unusedVariables false

set_option maxRecDepth 100000 in
set_option maxHeartbeats 8000000 in
theorem rgt3 (op rd r1 r2 im c g h : Int) (hs : Hid (shT op = (3, c, g, h))) (h0 : 1 ≤ op) (h1 : op ≤ 64) (hrd : regB rd = true) (hr1 : regB r1 = true) (hr2 : regB r2 = true) (w : World) :
    Calls Tryz.prog 108 #[.agg #[.int .i64 op, .int .i64 rd, .int .i64 r1, .int .i64 r2, .int .i64 im]] w fun e w' => e = .returned (.bool (rightF 3 rd r1 r2 im)) ∧ Below w.heap.size w w' := by
  go_enter Tryz.func108, Tryz.ntmps108
  go_wp2_with (first | (go_at_call 117; refine (spOp1 _ _ true (.inl ⟨rfl, h0, h1⟩)).mono ?_; rintro e w2 ⟨rfl, rfl⟩) | (go_at_call 118; refine (spReg _ _).mono ?_; rintro e w2 ⟨rfl, rfl⟩) | (go_at_call 79; refine (spInB _ _ _ _).mono ?_; rintro e w2 ⟨rfl, rfl⟩))
  refine (specShs op 3 c g h _ hs.out).mono ?_
  rintro e w1 ⟨rfl, hb1⟩
  obtain ⟨hc1, hf1⟩ := bcell hb1
  have HB1 : Hid (Below w.heap.size w w1) := ((Below.refl _ _).alloc (Nat.le_refl _) _).trans (hb1.mono (by simp))
  clear hs hb1
  have hfd := shField0 3 c g h
  by_cases er2 : r2 = 0
  case neg =>
    have nr2 : (r2 == 0) = false := by simpa using er2
    go_wp2_with (first | (go_at_call 117; refine (spOp1 _ _ true (.inl ⟨rfl, h0, h1⟩)).mono ?_; rintro e w2 ⟨rfl, rfl⟩) | (go_at_call 118; refine (spReg _ _).mono ?_; rintro e w2 ⟨rfl, rfl⟩) | (go_at_call 79; refine (spInB _ _ _ _).mono ?_; rintro e w2 ⟨rfl, rfl⟩))
    go_ret
    exact ⟨congrArg (fun x => Ending.returned (.bool x)) (by simp [rightF, nr2]), HB1.out⟩
  subst er2
  by_cases hin : -2048 ≤ im ∧ im ≤ 2047
  case neg =>
    have hi0 := inB_f hin
    have hk : okB 3 im = false := okB_f (by decide) (by decide) (by show ¬ (_ ∧ _); omega)
    clear hin
    go_wp2_with (first | (go_at_call 117; refine (spOp1 _ _ true (.inl ⟨rfl, h0, h1⟩)).mono ?_; rintro e w2 ⟨rfl, rfl⟩) | (go_at_call 118; refine (spReg _ _).mono ?_; rintro e w2 ⟨rfl, rfl⟩) | (go_at_call 79; refine (spInB _ _ _ _).mono ?_; rintro e w2 ⟨rfl, rfl⟩))
    go_ret
    exact ⟨congrArg (fun x => Ending.returned (.bool x)) (by simp [rightF, hk]), HB1.out⟩
  obtain ⟨hin0, hin1⟩ := hin
  have hi0 := inB_t hin0 hin1
  have hk : okB 3 im = true := okB_t (by decide) (by decide) (by show _ ∧ _; omega)
  clear hin0 hin1
  go_wp2_with (first | (go_at_call 117; refine (spOp1 _ _ true (.inl ⟨rfl, h0, h1⟩)).mono ?_; rintro e w2 ⟨rfl, rfl⟩) | (go_at_call 118; refine (spReg _ _).mono ?_; rintro e w2 ⟨rfl, rfl⟩) | (go_at_call 79; refine (spInB _ _ _ _).mono ?_; rintro e w2 ⟨rfl, rfl⟩))
  go_ret
  exact ⟨congrArg (fun x => Ending.returned (.bool x)) (by simp [rightF, hk, hrd, hr1]), HB1.out⟩
end Go.Proofs.YtelogjpjglohoaaGreatDoor

namespace Go.Proofs.YtelogjpjglohoaaGreatDoor
open Go.RowKit
set_option linter.unusedVariables false

set_option maxRecDepth 100000 in
set_option maxHeartbeats 8000000 in
theorem rgt4 (op rd r1 r2 im c g h : Int) (hs : Hid (shT op = (4, c, g, h))) (h0 : 1 ≤ op) (h1 : op ≤ 64) (hrd : regB rd = true) (hr1 : regB r1 = true) (hr2 : regB r2 = true) (w : World) :
    Calls Tryz.prog 108 #[.agg #[.int .i64 op, .int .i64 rd, .int .i64 r1, .int .i64 r2, .int .i64 im]] w fun e w' => e = .returned (.bool (rightF 4 rd r1 r2 im)) ∧ Below w.heap.size w w' := by
  go_enter Tryz.func108, Tryz.ntmps108
  go_wp2_with (first | (go_at_call 117; refine (spOp1 _ _ true (.inl ⟨rfl, h0, h1⟩)).mono ?_; rintro e w2 ⟨rfl, rfl⟩) | (go_at_call 118; refine (spReg _ _).mono ?_; rintro e w2 ⟨rfl, rfl⟩) | (go_at_call 79; refine (spInB _ _ _ _).mono ?_; rintro e w2 ⟨rfl, rfl⟩))
  refine (specShs op 4 c g h _ hs.out).mono ?_
  rintro e w1 ⟨rfl, hb1⟩
  obtain ⟨hc1, hf1⟩ := bcell hb1
  have HB1 : Hid (Below w.heap.size w w1) := ((Below.refl _ _).alloc (Nat.le_refl _) _).trans (hb1.mono (by simp))
  clear hs hb1
  have hfd := shField0 4 c g h
  by_cases erd : rd = 0
  case neg =>
    have nrd : (rd == 0) = false := by simpa using erd
    go_wp2_with (first | (go_at_call 117; refine (spOp1 _ _ true (.inl ⟨rfl, h0, h1⟩)).mono ?_; rintro e w2 ⟨rfl, rfl⟩) | (go_at_call 118; refine (spReg _ _).mono ?_; rintro e w2 ⟨rfl, rfl⟩) | (go_at_call 79; refine (spInB _ _ _ _).mono ?_; rintro e w2 ⟨rfl, rfl⟩))
    go_ret
    exact ⟨congrArg (fun x => Ending.returned (.bool x)) (by simp [rightF, nrd]), HB1.out⟩
  subst erd
  by_cases hin : -4096 ≤ im ∧ im ≤ 4094
  case neg =>
    have hi0 := inB_f hin
    have hk : okB 4 im = false := okB_f (by decide) (by decide) (by show ¬ (_ ∧ _ ∧ _); omega)
    clear hin
    go_wp2_with (first | (go_at_call 117; refine (spOp1 _ _ true (.inl ⟨rfl, h0, h1⟩)).mono ?_; rintro e w2 ⟨rfl, rfl⟩) | (go_at_call 118; refine (spReg _ _).mono ?_; rintro e w2 ⟨rfl, rfl⟩) | (go_at_call 79; refine (spInB _ _ _ _).mono ?_; rintro e w2 ⟨rfl, rfl⟩))
    go_ret
    exact ⟨congrArg (fun x => Ending.returned (.bool x)) (by simp [rightF, hk]), HB1.out⟩
  obtain ⟨hin0, hin1⟩ := hin
  have hi0 := inB_t hin0 hin1
  by_cases hm : im % 2 = 0
  case neg =>
    have hk : okB 4 im = false := okB_f (by decide) (by decide) (by show ¬ (_ ∧ _ ∧ _); omega)
    have hm2 : (im.tmod 2 == 0) = false := by
      have := tm0 im 2
      simpa [this] using hm
    clear hin0 hin1 hm
    go_wp2_with (first | (go_at_call 117; refine (spOp1 _ _ true (.inl ⟨rfl, h0, h1⟩)).mono ?_; rintro e w2 ⟨rfl, rfl⟩) | (go_at_call 118; refine (spReg _ _).mono ?_; rintro e w2 ⟨rfl, rfl⟩) | (go_at_call 79; refine (spInB _ _ _ _).mono ?_; rintro e w2 ⟨rfl, rfl⟩))
    go_ret
    exact ⟨congrArg (fun x => Ending.returned (.bool x)) (by simp [rightF, hk]), HB1.out⟩
  have hk : okB 4 im = true := okB_t (by decide) (by decide) (by show _ ∧ _ ∧ _; omega)
  have hm2 : im.tmod 2 = 0 := (tm0 im 2).2 hm
  clear hin0 hin1 hm
  go_wp2_with (first | (go_at_call 117; refine (spOp1 _ _ true (.inl ⟨rfl, h0, h1⟩)).mono ?_; rintro e w2 ⟨rfl, rfl⟩) | (go_at_call 118; refine (spReg _ _).mono ?_; rintro e w2 ⟨rfl, rfl⟩) | (go_at_call 79; refine (spInB _ _ _ _).mono ?_; rintro e w2 ⟨rfl, rfl⟩))
  go_ret
  exact ⟨congrArg (fun x => Ending.returned (.bool x)) (by simp [rightF, hk, hr1, hr2]), HB1.out⟩
end Go.Proofs.YtelogjpjglohoaaGreatDoor
