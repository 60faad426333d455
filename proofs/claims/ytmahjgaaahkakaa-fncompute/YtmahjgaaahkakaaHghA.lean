/- The model's upper halves of products: contracts. -/
import Derived.Test.YtmahjgaaahkakaaSzdA
import Derived.Laws.Bits64
namespace Go.Proofs.Ytmahjgaaahkakaa
open Go.RowKit
set_option linter.unusedVariables false

/-- The upper half of the product with both signs, and with the first alone. -/
def upS (a b : Int) : Int := wrap64 (a * b / 18446744073709551616)
def upSU (a b : Int) : Int := wrap64 (a * (u64 b : Int) / 18446744073709551616)

theorem notN (p : Nat) (h : p < 18446744073709551616) : bits .xor .u64 IntKind.u64.max (p : Int) = 18446744073709551615 - (p : Int) := by
  have e : IntKind.u64.max = ((18446744073709551615 : Nat) : Int) := by decide
  rw [e, bits_xor_u64_nat _ _ (by omega) h]
  have h1 : (BitVec.allOnes 64 ^^^ BitVec.ofNat 64 p).toNat = 18446744073709551615 - p := by
    rw [← BitVec.not_def, BitVec.toNat_not, BitVec.toNat_ofNat]
    omega
  rw [BitVec.toNat_xor, BitVec.toNat_allOnes, BitVec.toNat_ofNat, Nat.mod_eq_of_lt (by omega)] at h1
  have h2 : 18446744073709551615 ^^^ p = 18446744073709551615 - p := h1
  rw [h2]; omega
theorem neg_high0 (P : Nat) (h : P % 18446744073709551616 = 0) (hP : P ≤ 340282366920938463426481119284349108225) : wrap64 (IntKind.u64.wrap (18446744073709551615 - ((P / 18446744073709551616 : Nat) : Int) + 1)) = wrap64 (-(P : Int) / 18446744073709551616) := by
  simp only [IntKind.wrap_u64, wrap64]; omega
theorem neg_high1 (P : Nat) (h : P % 18446744073709551616 ≠ 0) (hP : P ≤ 340282366920938463426481119284349108225) : wrap64 (18446744073709551615 - ((P / 18446744073709551616 : Nat) : Int)) = wrap64 (-(P : Int) / 18446744073709551616) := by
  simp only [wrap64]; omega

theorem ret_int' {a b : Int} (h : a = b) : Ending.returned (.int .i64 a) = .returned (.int .i64 b) := by rw [h]
theorem high_ff (a b : Int) (w : World) :
    Calls Try.prog 97 #[.int .i64 a, .int .i64 b, .bool false, .bool false] w fun e w' => e = .returned (.int .i64 (upU a b)) ∧ w' = w := by
  have ea := wrap_u64 a
  have eb := wrap_u64 b
  have ha := u64_lt a
  have hb := u64_lt b
  unfold upU
  generalize u64 a = x at *
  generalize u64 b = y at *
  obtain ⟨p, hp⟩ : ∃ p, p = x * y / 18446744073709551616 := ⟨_, rfl⟩
  obtain ⟨q, hq⟩ : ∃ q, q = x * y % 18446744073709551616 := ⟨_, rfl⟩
  rw [← hp]
  have Hp : Hid (p = x * y / 18446744073709551616) := hp
  have Hq : Hid (q = x * y % 18446744073709551616) := hq
  clear hp hq
  go_enter Try.func97, Try.ntmps97
  go_wp2_with fail
  refine (wide_any x y _ ha hb).mono ?_
  rintro e w1 ⟨rfl, rfl⟩
  rw [← Hp.out, ← Hq.out]
  clear ea eb
  go_wp2
  go_ret
  exact ⟨rfl, rfl⟩

theorem high_tf1 (a b : Int) (w : World) (ha : In64 a) (c1 : a < 0) :
    Calls Try.prog 97 #[.int .i64 a, .int .i64 b, .bool true, .bool false] w fun e w' => e = .returned (.int .i64 (upSU a b)) ∧ w' = w := by
  have n1 := natAbs_le a ha
  have n2 := u64_lt b
  have hlx : a.natAbs < 18446744073709551616 := by omega
  have hly : u64 b < 18446744073709551616 := by omega
  have hP := mul_bd _ _ hlx hly
  have E : Hid (wrap64 (-((a.natAbs * u64 b : Nat) : Int) / 18446744073709551616) = upSU a b) := by
    show _ = _
    unfold upSU
    rw [Int.natCast_mul]
    rw [show (a.natAbs : Int) = -a from by omega]
    rw [Int.neg_mul, Int.neg_neg]
  generalize hr : upSU a b = r at *
  clear hr
  have HA : Hid (In64 a) := ha
  clear ha
  have eb : IntKind.u64.wrap b = (u64 b : Int) := wrap_u64 b
  generalize hx : a.natAbs = x at *
  generalize hy : u64 b = y at *
  have HX : Hid (a.natAbs = x) := hx
  have HY : Hid (u64 b = y) := hy
  clear hx hy n1 n2
  obtain ⟨p, hp⟩ : ∃ p, p = x * y / 18446744073709551616 := ⟨_, rfl⟩
  obtain ⟨q, hq⟩ : ∃ q, q = x * y % 18446744073709551616 := ⟨_, rfl⟩
  have Hp : Hid (p = x * y / 18446744073709551616) := hp
  have Hq : Hid (q = x * y % 18446744073709551616) := hq
  by_cases hz : q = 0
  · have EE : Hid (wrap64 (IntKind.u64.wrap (bits .xor .u64 IntKind.u64.max (p : Int) + 1)) = r) := by
      show _ = _
      rw [hp, notN _ (by omega), neg_high0 (x * y) (by omega) hP]
      exact E.out
    subst hz
    clear hp hq hP
    go_enter Try.func97, Try.ntmps97
    go_wp2_with fail
    refine (size_any a _ HA.out).mono ?_
    rintro e w1 ⟨rfl, rfl⟩
    rw [HX.out]
    go_wp2_with fail
    refine (wide_any x y _ hlx hly).mono ?_
    rintro e w1 ⟨rfl, rfl⟩
    rw [← Hp.out, ← Hq.out]
    go_wp2
    go_ret
    exact ⟨ret_int' EE.out, rfl⟩
  · have EE : Hid (wrap64 (bits .xor .u64 IntKind.u64.max (p : Int)) = r) := by
      show _ = _
      rw [hp, notN _ (by omega), neg_high1 (x * y) (by omega) hP]
      exact E.out
    have hz' : ((q : Int) == 0) = false := beq_eq_false_iff_ne.2 (by omega)
    clear hp hq hP hz
    go_enter Try.func97, Try.ntmps97
    go_wp2_with fail
    refine (size_any a _ HA.out).mono ?_
    rintro e w1 ⟨rfl, rfl⟩
    rw [HX.out]
    go_wp2_with fail
    refine (wide_any x y _ hlx hly).mono ?_
    rintro e w1 ⟨rfl, rfl⟩
    rw [← Hp.out, ← Hq.out]
    go_wp2
    go_ret
    exact ⟨ret_int' EE.out, rfl⟩

theorem high_tf0 (a b : Int) (w : World) (ha : In64 a) (c1 : 0 ≤ a) :
    Calls Try.prog 97 #[.int .i64 a, .int .i64 b, .bool true, .bool false] w fun e w' => e = .returned (.int .i64 (upSU a b)) ∧ w' = w := by
  have n1 := natAbs_le a ha
  have n2 := u64_lt b
  have hlx : a.natAbs < 18446744073709551616 := by omega
  have hly : u64 b < 18446744073709551616 := by omega
  have hP := mul_bd _ _ hlx hly
  have E : Hid (wrap64 (((a.natAbs * u64 b : Nat) : Int) / 18446744073709551616) = upSU a b) := by
    show _ = _
    unfold upSU
    rw [Int.natCast_mul]
    rw [show (a.natAbs : Int) = a from by omega]
  generalize hr : upSU a b = r at *
  clear hr
  have ea : IntKind.u64.wrap a = (a.natAbs : Int) := by unfold In64 at ha; rw [IntKind.wrap_u64]; omega
  clear ha
  have eb : IntKind.u64.wrap b = (u64 b : Int) := wrap_u64 b
  generalize hx : a.natAbs = x at *
  generalize hy : u64 b = y at *
  have HX : Hid (a.natAbs = x) := hx
  have HY : Hid (u64 b = y) := hy
  clear hx hy n1 n2
  obtain ⟨p, hp⟩ : ∃ p, p = x * y / 18446744073709551616 := ⟨_, rfl⟩
  obtain ⟨q, hq⟩ : ∃ q, q = x * y % 18446744073709551616 := ⟨_, rfl⟩
  have Hp : Hid (p = x * y / 18446744073709551616) := hp
  have Hq : Hid (q = x * y % 18446744073709551616) := hq
  have EE : Hid (wrap64 (p : Int) = r) := by show _ = _; rw [hp, Int.natCast_ediv]; exact E.out
  clear hp hq hP
  go_enter Try.func97, Try.ntmps97
  go_wp2_with fail
  refine (wide_any x y _ hlx hly).mono ?_
  rintro e w1 ⟨rfl, rfl⟩
  rw [← Hp.out, ← Hq.out]
  go_wp2
  go_ret
  exact ⟨ret_int' EE.out, rfl⟩

theorem high_tt11 (a b : Int) (w : World) (ha : In64 a) (hb : In64 b) (c1 : a < 0) (c2 : b < 0) :
    Calls Try.prog 97 #[.int .i64 a, .int .i64 b, .bool true, .bool true] w fun e w' => e = .returned (.int .i64 (upS a b)) ∧ w' = w := by
  have n1 := natAbs_le a ha
  have n2 := natAbs_le b hb
  have hlx : a.natAbs < 18446744073709551616 := by omega
  have hly : b.natAbs < 18446744073709551616 := by omega
  have hP := mul_bd _ _ hlx hly
  have E : Hid (wrap64 (((a.natAbs * b.natAbs : Nat) : Int) / 18446744073709551616) = upS a b) := by
    show _ = _
    unfold upS
    rw [Int.natCast_mul]
    rw [show (a.natAbs : Int) = -a from by omega]
    rw [show (b.natAbs : Int) = -b from by omega]
    rw [Int.neg_mul_neg]
  generalize hr : upS a b = r at *
  clear hr
  have HA : Hid (In64 a) := ha
  clear ha
  have HB : Hid (In64 b) := hb
  clear hb
  generalize hx : a.natAbs = x at *
  generalize hy : b.natAbs = y at *
  have HX : Hid (a.natAbs = x) := hx
  have HY : Hid (b.natAbs = y) := hy
  clear hx hy n1 n2
  obtain ⟨p, hp⟩ : ∃ p, p = x * y / 18446744073709551616 := ⟨_, rfl⟩
  obtain ⟨q, hq⟩ : ∃ q, q = x * y % 18446744073709551616 := ⟨_, rfl⟩
  have Hp : Hid (p = x * y / 18446744073709551616) := hp
  have Hq : Hid (q = x * y % 18446744073709551616) := hq
  have EE : Hid (wrap64 (p : Int) = r) := by show _ = _; rw [hp, Int.natCast_ediv]; exact E.out
  clear hp hq hP
  go_enter Try.func97, Try.ntmps97
  go_wp2_with fail
  refine (size_any a _ HA.out).mono ?_
  rintro e w1 ⟨rfl, rfl⟩
  rw [HX.out]
  go_wp2_with fail
  refine (size_any b _ HB.out).mono ?_
  rintro e w1 ⟨rfl, rfl⟩
  rw [HY.out]
  go_wp2_with fail
  refine (wide_any x y _ hlx hly).mono ?_
  rintro e w1 ⟨rfl, rfl⟩
  rw [← Hp.out, ← Hq.out]
  go_wp2
  go_ret
  exact ⟨ret_int' EE.out, rfl⟩

theorem high_tt10 (a b : Int) (w : World) (ha : In64 a) (hb : In64 b) (c1 : a < 0) (c2 : 0 ≤ b) :
    Calls Try.prog 97 #[.int .i64 a, .int .i64 b, .bool true, .bool true] w fun e w' => e = .returned (.int .i64 (upS a b)) ∧ w' = w := by
  have n1 := natAbs_le a ha
  have n2 := natAbs_le b hb
  have hlx : a.natAbs < 18446744073709551616 := by omega
  have hly : b.natAbs < 18446744073709551616 := by omega
  have hP := mul_bd _ _ hlx hly
  have E : Hid (wrap64 (-((a.natAbs * b.natAbs : Nat) : Int) / 18446744073709551616) = upS a b) := by
    show _ = _
    unfold upS
    rw [Int.natCast_mul]
    rw [show (a.natAbs : Int) = -a from by omega]
    rw [show (b.natAbs : Int) = b from by omega]
    rw [Int.neg_mul, Int.neg_neg]
  generalize hr : upS a b = r at *
  clear hr
  have HA : Hid (In64 a) := ha
  clear ha
  have eb : IntKind.u64.wrap b = (b.natAbs : Int) := by unfold In64 at hb; rw [IntKind.wrap_u64]; omega
  clear hb
  generalize hx : a.natAbs = x at *
  generalize hy : b.natAbs = y at *
  have HX : Hid (a.natAbs = x) := hx
  have HY : Hid (b.natAbs = y) := hy
  clear hx hy n1 n2
  obtain ⟨p, hp⟩ : ∃ p, p = x * y / 18446744073709551616 := ⟨_, rfl⟩
  obtain ⟨q, hq⟩ : ∃ q, q = x * y % 18446744073709551616 := ⟨_, rfl⟩
  have Hp : Hid (p = x * y / 18446744073709551616) := hp
  have Hq : Hid (q = x * y % 18446744073709551616) := hq
  by_cases hz : q = 0
  · have EE : Hid (wrap64 (IntKind.u64.wrap (bits .xor .u64 IntKind.u64.max (p : Int) + 1)) = r) := by
      show _ = _
      rw [hp, notN _ (by omega), neg_high0 (x * y) (by omega) hP]
      exact E.out
    subst hz
    clear hp hq hP
    go_enter Try.func97, Try.ntmps97
    go_wp2_with fail
    refine (size_any a _ HA.out).mono ?_
    rintro e w1 ⟨rfl, rfl⟩
    rw [HX.out]
    go_wp2_with fail
    refine (wide_any x y _ hlx hly).mono ?_
    rintro e w1 ⟨rfl, rfl⟩
    rw [← Hp.out, ← Hq.out]
    go_wp2
    go_ret
    exact ⟨ret_int' EE.out, rfl⟩
  · have EE : Hid (wrap64 (bits .xor .u64 IntKind.u64.max (p : Int)) = r) := by
      show _ = _
      rw [hp, notN _ (by omega), neg_high1 (x * y) (by omega) hP]
      exact E.out
    have hz' : ((q : Int) == 0) = false := beq_eq_false_iff_ne.2 (by omega)
    clear hp hq hP hz
    go_enter Try.func97, Try.ntmps97
    go_wp2_with fail
    refine (size_any a _ HA.out).mono ?_
    rintro e w1 ⟨rfl, rfl⟩
    rw [HX.out]
    go_wp2_with fail
    refine (wide_any x y _ hlx hly).mono ?_
    rintro e w1 ⟨rfl, rfl⟩
    rw [← Hp.out, ← Hq.out]
    go_wp2
    go_ret
    exact ⟨ret_int' EE.out, rfl⟩

theorem high_tt01 (a b : Int) (w : World) (ha : In64 a) (hb : In64 b) (c1 : 0 ≤ a) (c2 : b < 0) :
    Calls Try.prog 97 #[.int .i64 a, .int .i64 b, .bool true, .bool true] w fun e w' => e = .returned (.int .i64 (upS a b)) ∧ w' = w := by
  have n1 := natAbs_le a ha
  have n2 := natAbs_le b hb
  have hlx : a.natAbs < 18446744073709551616 := by omega
  have hly : b.natAbs < 18446744073709551616 := by omega
  have hP := mul_bd _ _ hlx hly
  have E : Hid (wrap64 (-((a.natAbs * b.natAbs : Nat) : Int) / 18446744073709551616) = upS a b) := by
    show _ = _
    unfold upS
    rw [Int.natCast_mul]
    rw [show (a.natAbs : Int) = a from by omega]
    rw [show (b.natAbs : Int) = -b from by omega]
    rw [Int.mul_neg, Int.neg_neg]
  generalize hr : upS a b = r at *
  clear hr
  have ea : IntKind.u64.wrap a = (a.natAbs : Int) := by unfold In64 at ha; rw [IntKind.wrap_u64]; omega
  clear ha
  have HB : Hid (In64 b) := hb
  clear hb
  generalize hx : a.natAbs = x at *
  generalize hy : b.natAbs = y at *
  have HX : Hid (a.natAbs = x) := hx
  have HY : Hid (b.natAbs = y) := hy
  clear hx hy n1 n2
  obtain ⟨p, hp⟩ : ∃ p, p = x * y / 18446744073709551616 := ⟨_, rfl⟩
  obtain ⟨q, hq⟩ : ∃ q, q = x * y % 18446744073709551616 := ⟨_, rfl⟩
  have Hp : Hid (p = x * y / 18446744073709551616) := hp
  have Hq : Hid (q = x * y % 18446744073709551616) := hq
  by_cases hz : q = 0
  · have EE : Hid (wrap64 (IntKind.u64.wrap (bits .xor .u64 IntKind.u64.max (p : Int) + 1)) = r) := by
      show _ = _
      rw [hp, notN _ (by omega), neg_high0 (x * y) (by omega) hP]
      exact E.out
    subst hz
    clear hp hq hP
    go_enter Try.func97, Try.ntmps97
    go_wp2_with fail
    refine (size_any b _ HB.out).mono ?_
    rintro e w1 ⟨rfl, rfl⟩
    rw [HY.out]
    go_wp2_with fail
    refine (wide_any x y _ hlx hly).mono ?_
    rintro e w1 ⟨rfl, rfl⟩
    rw [← Hp.out, ← Hq.out]
    go_wp2
    go_ret
    exact ⟨ret_int' EE.out, rfl⟩
  · have EE : Hid (wrap64 (bits .xor .u64 IntKind.u64.max (p : Int)) = r) := by
      show _ = _
      rw [hp, notN _ (by omega), neg_high1 (x * y) (by omega) hP]
      exact E.out
    have hz' : ((q : Int) == 0) = false := beq_eq_false_iff_ne.2 (by omega)
    clear hp hq hP hz
    go_enter Try.func97, Try.ntmps97
    go_wp2_with fail
    refine (size_any b _ HB.out).mono ?_
    rintro e w1 ⟨rfl, rfl⟩
    rw [HY.out]
    go_wp2_with fail
    refine (wide_any x y _ hlx hly).mono ?_
    rintro e w1 ⟨rfl, rfl⟩
    rw [← Hp.out, ← Hq.out]
    go_wp2
    go_ret
    exact ⟨ret_int' EE.out, rfl⟩

theorem high_tt00 (a b : Int) (w : World) (ha : In64 a) (hb : In64 b) (c1 : 0 ≤ a) (c2 : 0 ≤ b) :
    Calls Try.prog 97 #[.int .i64 a, .int .i64 b, .bool true, .bool true] w fun e w' => e = .returned (.int .i64 (upS a b)) ∧ w' = w := by
  have n1 := natAbs_le a ha
  have n2 := natAbs_le b hb
  have hlx : a.natAbs < 18446744073709551616 := by omega
  have hly : b.natAbs < 18446744073709551616 := by omega
  have hP := mul_bd _ _ hlx hly
  have E : Hid (wrap64 (((a.natAbs * b.natAbs : Nat) : Int) / 18446744073709551616) = upS a b) := by
    show _ = _
    unfold upS
    rw [Int.natCast_mul]
    rw [show (a.natAbs : Int) = a from by omega]
    rw [show (b.natAbs : Int) = b from by omega]
  generalize hr : upS a b = r at *
  clear hr
  have ea : IntKind.u64.wrap a = (a.natAbs : Int) := by unfold In64 at ha; rw [IntKind.wrap_u64]; omega
  clear ha
  have eb : IntKind.u64.wrap b = (b.natAbs : Int) := by unfold In64 at hb; rw [IntKind.wrap_u64]; omega
  clear hb
  generalize hx : a.natAbs = x at *
  generalize hy : b.natAbs = y at *
  have HX : Hid (a.natAbs = x) := hx
  have HY : Hid (b.natAbs = y) := hy
  clear hx hy n1 n2
  obtain ⟨p, hp⟩ : ∃ p, p = x * y / 18446744073709551616 := ⟨_, rfl⟩
  obtain ⟨q, hq⟩ : ∃ q, q = x * y % 18446744073709551616 := ⟨_, rfl⟩
  have Hp : Hid (p = x * y / 18446744073709551616) := hp
  have Hq : Hid (q = x * y % 18446744073709551616) := hq
  have EE : Hid (wrap64 (p : Int) = r) := by show _ = _; rw [hp, Int.natCast_ediv]; exact E.out
  clear hp hq hP
  go_enter Try.func97, Try.ntmps97
  go_wp2_with fail
  refine (wide_any x y _ hlx hly).mono ?_
  rintro e w1 ⟨rfl, rfl⟩
  rw [← Hp.out, ← Hq.out]
  go_wp2
  go_ret
  exact ⟨ret_int' EE.out, rfl⟩

theorem high_tf (a b : Int) (w : World) (ha : In64 a) :
    Calls Try.prog 97 #[.int .i64 a, .int .i64 b, .bool true, .bool false] w fun e w' => e = .returned (.int .i64 (upSU a b)) ∧ w' = w := by
  by_cases c : a < 0
  · exact high_tf1 a b w ha c
  · exact high_tf0 a b w ha (by omega)
theorem high_tt (a b : Int) (w : World) (ha : In64 a) (hb : In64 b) :
    Calls Try.prog 97 #[.int .i64 a, .int .i64 b, .bool true, .bool true] w fun e w' => e = .returned (.int .i64 (upS a b)) ∧ w' = w := by
  by_cases c : a < 0 <;> by_cases d : b < 0
  · exact high_tt11 a b w ha hb c d
  · exact high_tt10 a b w ha hb c (by omega)
  · exact high_tt01 a b w ha hb (by omega) d
  · exact high_tt00 a b w ha hb (by omega) (by omega)
end Go.Proofs.Ytmahjgaaahkakaa
