/- The model's division with signs, and the upper halves of products: contracts. -/
import Derived.Test.YtmahjgaaahkakaaDivB
import Derived.Test.YtmahjgaaahkakaaIn64
import Derived.Test.YtmahjgaaahkakaaWidB
import Derived.Test.YtmahjgaaahkakaaWrdA
namespace Go.Proofs.Ytmahjgaaahkakaa
open Go.RowKit
set_option linter.unusedVariables false

theorem natAbs_le (a : Int) (h : In64 a) : a.natAbs ≤ 9223372036854775808 := by unfold In64 at h; omega

theorem size_neg (a : Int) (w : World) (h : In64 a) (h0 : a < 0) :
    Calls Try.prog 109 #[.int .i64 a] w fun e w' => e = .returned (.int .u64 (a.natAbs : Int)) ∧ w' = w := by
  have e1 : IntKind.u64.wrap (-(IntKind.u64.wrap a)) = (a.natAbs : Int) := by
    unfold In64 at h
    simp only [IntKind.wrap_u64]; omega
  have E1 : Hid (IntKind.u64.wrap (-(IntKind.u64.wrap a)) = (a.natAbs : Int)) := e1
  clear e1 h
  go_enter Try.func109, Try.ntmps109
  go_wp2
  go_ret
  exact ⟨by rw [← E1.out]; rfl, rfl⟩
theorem size_pos (a : Int) (w : World) (h : In64 a) (h0 : 0 ≤ a) :
    Calls Try.prog 109 #[.int .i64 a] w fun e w' => e = .returned (.int .u64 (a.natAbs : Int)) ∧ w' = w := by
  have e1 : IntKind.u64.wrap a = (a.natAbs : Int) := by
    unfold In64 at h
    rw [IntKind.wrap_u64]; omega
  have E1 : Hid (IntKind.u64.wrap a = (a.natAbs : Int)) := e1
  clear e1 h
  go_enter Try.func109, Try.ntmps109
  go_wp2
  go_ret
  exact ⟨by rw [← E1.out]; first | rfl | (rw [IntKind.wrap_u64]), rfl⟩
theorem size_any (a : Int) (w : World) (h : In64 a) :
    Calls Try.prog 109 #[.int .i64 a] w fun e w' => e = .returned (.int .u64 (a.natAbs : Int)) ∧ w' = w := by
  by_cases h0 : a < 0
  · exact size_neg a w h h0
  · exact size_pos a w h (by omega)

/-- Quotient and rest with signs. -/
def quS (a b : Int) : Int := if b = 0 then -1 else wrap64 (a.tdiv b)
def reS (a b : Int) : Int := if b = 0 then a else a.tmod b
theorem tdiv_abs (a b : Int) : a.tdiv b = if (a < 0) = (b < 0) then ((a.natAbs / b.natAbs : Nat) : Int) else -((a.natAbs / b.natAbs : Nat) : Int) := by
  rcases Int.natAbs_eq a with h | h <;> rcases Int.natAbs_eq b with k | k
  all_goals
    generalize a.natAbs = x at *
    generalize b.natAbs = y at *
    subst h k
  · rw [tdiv_pp, if_pos (by simp <;> omega)]
  · rw [tdiv_pn]
    by_cases hy : y = 0
    · subst hy; simp
    · rw [if_neg (by simp <;> omega)]
  · rw [tdiv_np]
    by_cases hx : x = 0
    · subst hx; simp
    · rw [if_neg (by simp <;> omega)]
  · rw [tdiv_nn]
    by_cases hx : x = 0
    · subst hx; simp
    · by_cases hy : y = 0
      · subst hy; simp
      · rw [if_pos (by simp <;> omega)]
theorem tmod_abs (a b : Int) : a.tmod b = if a < 0 then -((a.natAbs % b.natAbs : Nat) : Int) else ((a.natAbs % b.natAbs : Nat) : Int) := by
  rcases Int.natAbs_eq a with h | h <;> rcases Int.natAbs_eq b with k | k
  all_goals
    generalize a.natAbs = x at *
    generalize b.natAbs = y at *
    subst h k
  · rw [tmod_pp, if_neg (by omega)]
  · rw [tmod_pn, if_neg (by omega)]
  · rw [tmod_np]
    by_cases hx : x = 0
    · subst hx; simp
    · rw [if_pos (by omega)]
  · rw [tmod_nn]
    by_cases hx : x = 0
    · subst hx; simp
    · rw [if_pos (by omega)]

theorem signed_zero (a : Int) (w : World) :
    Calls Try.prog 110 #[.int .i64 a, .int .i64 0] w fun e w' => e = .returned (.tuple #[.int .i64 (-1), .int .i64 a]) ∧ w' = w := by
  go_enter Try.func110, Try.ntmps110
  go_wp2
  go_ret2
  exact ⟨rfl, rfl⟩

set_option maxHeartbeats 1000000 in
theorem signed_any (a b : Int) (w : World) (ha : In64 a) (hb : In64 b) (h0 : b ≠ 0) :
    Calls Try.prog 110 #[.int .i64 a, .int .i64 b] w fun e w' => e = .returned (.tuple #[.int .i64 (wrap64 (a.tdiv b)), .int .i64 (a.tmod b)]) ∧ w' = w := by
  have hb0 : (b == 0) = false := beq_eq_false_iff_ne.2 h0
  have n1 := natAbs_le a ha
  have n2 := natAbs_le b hb
  have n3 : 0 < b.natAbs := by omega
  have hq : a.natAbs / b.natAbs ≤ 9223372036854775808 := Nat.le_trans (Nat.div_le_self _ _) n1
  have hr : a.natAbs % b.natAbs ≤ 9223372036854775807 := by have := Nat.mod_lt a.natAbs n3; omega
  have T1 : Hid (_ = _) := tdiv_abs a b
  have T2 : Hid (_ = _) := tmod_abs a b
  by_cases c1 : a < 0 <;> by_cases c2 : b < 0
  · skip
    rw [if_pos (by simp only [eq_iff_iff]; omega)] at T1
    rw [if_pos c1] at T2
    have d1 : decide (a < 0) = true := decide_eq_true c1
    have d2 : decide (b < 0) = true := decide_eq_true c2
    generalize a.tdiv b = tq at *
    generalize a.tmod b = tr at *
    generalize hQ : a.natAbs / b.natAbs = Q at *
    generalize hR : a.natAbs % b.natAbs = R at *
    have HQ : Hid (a.natAbs / b.natAbs = Q) := hQ
    have HR : Hid (a.natAbs % b.natAbs = R) := hR
    
    
    have HA : Hid (In64 a) := ha
    have HB : Hid (In64 b) := hb
    have HN1 : Hid (a.natAbs ≤ 9223372036854775808) := n1
    have HN2 : Hid (b.natAbs ≤ 9223372036854775808) := n2
    have HN3 : Hid (0 < b.natAbs) := n3
    clear hQ hR h0 n1 n2 n3 ha hb  
    go_enter Try.func110, Try.ntmps110
    go_wp2_with fail
    refine (size_any a _ HA.out).mono ?_
    rintro e w1 ⟨rfl, rfl⟩
    go_wp2_with fail
    refine (size_any b _ HB.out).mono ?_
    rintro e w1 ⟨rfl, rfl⟩
    go_wp2_with fail
    refine (divide_any a.natAbs b.natAbs _ (by have := HN1.out; omega) (by have := HN2.out; omega) HN3.out).mono ?_
    rintro e w1 ⟨rfl, rfl⟩
    rw [HQ.out, HR.out]
    go_wp2
    go_ret2
    refine ⟨ret_ints ?_ ?_, rfl⟩
    · have h := T1.out; subst h; first | rfl | (simp only [IntKind.wrap_u64, wrap64]; omega)
    · have h := T2.out; subst h; first | rfl | (simp only [IntKind.wrap_u64, wrap64]; omega)
  · skip
    rw [if_neg (by simp only [eq_iff_iff]; omega)] at T1
    rw [if_pos c1] at T2
    have d1 : decide (a < 0) = true := decide_eq_true c1
    generalize a.tdiv b = tq at *
    generalize a.tmod b = tr at *
    generalize hQ : a.natAbs / b.natAbs = Q at *
    generalize hR : a.natAbs % b.natAbs = R at *
    have HQ : Hid (a.natAbs / b.natAbs = Q) := hQ
    have HR : Hid (a.natAbs % b.natAbs = R) := hR
    
    have c2p : 0 ≤ b := by omega
    have d2 : decide (b < 0) = false := decide_eq_false c2
    have HA : Hid (In64 a) := ha
    have HB : Hid (In64 b) := hb
    have HN1 : Hid (a.natAbs ≤ 9223372036854775808) := n1
    have HN2 : Hid (b.natAbs ≤ 9223372036854775808) := n2
    have HN3 : Hid (0 < b.natAbs) := n3
    clear hQ hR h0 n1 n2 n3 ha hb  c2
    go_enter Try.func110, Try.ntmps110
    go_wp2_with fail
    refine (size_any a _ HA.out).mono ?_
    rintro e w1 ⟨rfl, rfl⟩
    go_wp2_with fail
    refine (size_any b _ HB.out).mono ?_
    rintro e w1 ⟨rfl, rfl⟩
    go_wp2_with fail
    refine (divide_any a.natAbs b.natAbs _ (by have := HN1.out; omega) (by have := HN2.out; omega) HN3.out).mono ?_
    rintro e w1 ⟨rfl, rfl⟩
    rw [HQ.out, HR.out]
    go_wp2
    go_ret2
    refine ⟨ret_ints ?_ ?_, rfl⟩
    · have h := T1.out; subst h; first | rfl | (simp only [IntKind.wrap_u64, wrap64]; omega)
    · have h := T2.out; subst h; first | rfl | (simp only [IntKind.wrap_u64, wrap64]; omega)
  · skip
    rw [if_neg (by simp only [eq_iff_iff]; omega)] at T1
    rw [if_neg c1] at T2
    have d2 : decide (b < 0) = true := decide_eq_true c2
    generalize a.tdiv b = tq at *
    generalize a.tmod b = tr at *
    generalize hQ : a.natAbs / b.natAbs = Q at *
    generalize hR : a.natAbs % b.natAbs = R at *
    have HQ : Hid (a.natAbs / b.natAbs = Q) := hQ
    have HR : Hid (a.natAbs % b.natAbs = R) := hR
    have c1p : 0 ≤ a := by omega
    have d1 : decide (a < 0) = false := decide_eq_false c1
    
    have HA : Hid (In64 a) := ha
    have HB : Hid (In64 b) := hb
    have HN1 : Hid (a.natAbs ≤ 9223372036854775808) := n1
    have HN2 : Hid (b.natAbs ≤ 9223372036854775808) := n2
    have HN3 : Hid (0 < b.natAbs) := n3
    clear hQ hR h0 n1 n2 n3 ha hb c1 
    go_enter Try.func110, Try.ntmps110
    go_wp2_with fail
    refine (size_any a _ HA.out).mono ?_
    rintro e w1 ⟨rfl, rfl⟩
    go_wp2_with fail
    refine (size_any b _ HB.out).mono ?_
    rintro e w1 ⟨rfl, rfl⟩
    go_wp2_with fail
    refine (divide_any a.natAbs b.natAbs _ (by have := HN1.out; omega) (by have := HN2.out; omega) HN3.out).mono ?_
    rintro e w1 ⟨rfl, rfl⟩
    rw [HQ.out, HR.out]
    go_wp2
    go_ret2
    refine ⟨ret_ints ?_ ?_, rfl⟩
    · have h := T1.out; subst h; first | rfl | (simp only [IntKind.wrap_u64, wrap64]; omega)
    · have h := T2.out; subst h; first | rfl | (simp only [IntKind.wrap_u64, wrap64]; omega)
  · skip
    rw [if_pos (by simp only [eq_iff_iff]; omega)] at T1
    rw [if_neg c1] at T2
    generalize a.tdiv b = tq at *
    generalize a.tmod b = tr at *
    generalize hQ : a.natAbs / b.natAbs = Q at *
    generalize hR : a.natAbs % b.natAbs = R at *
    have HQ : Hid (a.natAbs / b.natAbs = Q) := hQ
    have HR : Hid (a.natAbs % b.natAbs = R) := hR
    have c1p : 0 ≤ a := by omega
    have d1 : decide (a < 0) = false := decide_eq_false c1
    have c2p : 0 ≤ b := by omega
    have d2 : decide (b < 0) = false := decide_eq_false c2
    have HA : Hid (In64 a) := ha
    have HB : Hid (In64 b) := hb
    have HN1 : Hid (a.natAbs ≤ 9223372036854775808) := n1
    have HN2 : Hid (b.natAbs ≤ 9223372036854775808) := n2
    have HN3 : Hid (0 < b.natAbs) := n3
    clear hQ hR h0 n1 n2 n3 ha hb c1 c2
    go_enter Try.func110, Try.ntmps110
    go_wp2_with fail
    refine (size_any a _ HA.out).mono ?_
    rintro e w1 ⟨rfl, rfl⟩
    go_wp2_with fail
    refine (size_any b _ HB.out).mono ?_
    rintro e w1 ⟨rfl, rfl⟩
    go_wp2_with fail
    refine (divide_any a.natAbs b.natAbs _ (by have := HN1.out; omega) (by have := HN2.out; omega) HN3.out).mono ?_
    rintro e w1 ⟨rfl, rfl⟩
    rw [HQ.out, HR.out]
    go_wp2
    go_ret2
    refine ⟨ret_ints ?_ ?_, rfl⟩
    · have h := T1.out; subst h; first | rfl | (simp only [IntKind.wrap_u64, wrap64]; omega)
    · have h := T2.out; subst h; first | rfl | (simp only [IntKind.wrap_u64, wrap64]; omega)
end Go.Proofs.Ytmahjgaaahkakaa
