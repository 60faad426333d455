/- Quotient and rest of the program, at each of the four kinds of numbers; DivideU. -/
import Derived.Test.YtmahjgaaahkakaaDivA
import Derived.Test.YtmahjgaaahkakaaSgnB
namespace Go.Proofs.Ytmahjgaaahkakaa
open Go.RowKit
set_option linter.unusedVariables false

theorem quo64_zero (a : Nat) (w : World) :
    Calls Try.prog 40 #[.int .u64 a, .int .u64 0] w fun e w' => e = .returned (.int .u64 18446744073709551615) ∧ w' = w := by
  go_enter Try.func40, Try.ntmps40
  go_wp2
  go_ret
  exact ⟨rfl, rfl⟩
theorem quo64_any (a b : Nat) (w : World) (h0 : 0 < b) (ha : a < 18446744073709551616) :
    Calls Try.prog 40 #[.int .u64 a, .int .u64 b] w fun e w' => e = .returned (.int .u64 ((a / b : Nat) : Int)) ∧ w' = w := by
  have hbn : ((b : Int) == 0) = false := beq_eq_false_iff_ne.2 (by omega)
  have hb : ¬ (b : Int) = 0 := by omega
  have hl := Nat.div_le_self a b
  have hw : IntKind.u64.wrap ((a : Int) / (b : Int)) = ((a / b : Nat) : Int) := by
    rw [← Int.natCast_ediv, IntKind.wrap_u64]; generalize a / b = q at *; omega
  go_enter Try.func40, Try.ntmps40
  go_wp2
  go_ret
  exact ⟨rfl, rfl⟩
theorem rest64_zero (a : Nat) (w : World) :
    Calls Try.prog 41 #[.int .u64 a, .int .u64 0] w fun e w' => e = .returned (.int .u64 a) ∧ w' = w := by
  go_enter Try.func41, Try.ntmps41
  go_wp2
  go_ret
  exact ⟨rfl, rfl⟩
theorem rest64_any (a b : Nat) (w : World) (h0 : 0 < b) :
    Calls Try.prog 41 #[.int .u64 a, .int .u64 b] w fun e w' => e = .returned (.int .u64 ((a % b : Nat) : Int)) ∧ w' = w := by
  have hbn : ((b : Int) == 0) = false := beq_eq_false_iff_ne.2 (by omega)
  have hb : ¬ (b : Int) = 0 := by omega
  have ht := tmod_pp a b
  go_enter Try.func41, Try.ntmps41
  go_wp2
  go_ret
  exact ⟨rfl, rfl⟩
theorem quo32_zero (a : Nat) (w : World) :
    Calls Try.prog 65 #[.int .u32 a, .int .u32 0] w fun e w' => e = .returned (.int .u32 4294967295) ∧ w' = w := by
  go_enter Try.func65, Try.ntmps65
  go_wp2
  go_ret
  exact ⟨rfl, rfl⟩
theorem quo32_any (a b : Nat) (w : World) (h0 : 0 < b) (ha : a < 4294967296) :
    Calls Try.prog 65 #[.int .u32 a, .int .u32 b] w fun e w' => e = .returned (.int .u32 ((a / b : Nat) : Int)) ∧ w' = w := by
  have hbn : ((b : Int) == 0) = false := beq_eq_false_iff_ne.2 (by omega)
  have hb : ¬ (b : Int) = 0 := by omega
  have hl := Nat.div_le_self a b
  have hw : (a : Int) / (b : Int) % 4294967296 = ((a / b : Nat) : Int) := by
    rw [← Int.natCast_ediv]; generalize a / b = q at *; omega
  go_enter Try.func65, Try.ntmps65
  go_wp2
  go_ret
  exact ⟨rfl, rfl⟩
theorem rest32_zero (a : Nat) (w : World) :
    Calls Try.prog 69 #[.int .u32 a, .int .u32 0] w fun e w' => e = .returned (.int .u32 a) ∧ w' = w := by
  go_enter Try.func69, Try.ntmps69
  go_wp2
  go_ret
  exact ⟨rfl, rfl⟩
theorem rest32_any (a b : Nat) (w : World) (h0 : 0 < b) :
    Calls Try.prog 69 #[.int .u32 a, .int .u32 b] w fun e w' => e = .returned (.int .u32 ((a % b : Nat) : Int)) ∧ w' = w := by
  have hbn : ((b : Int) == 0) = false := beq_eq_false_iff_ne.2 (by omega)
  have hb : ¬ (b : Int) = 0 := by omega
  have ht := tmod_pp a b
  go_enter Try.func69, Try.ntmps69
  go_wp2
  go_ret
  exact ⟨rfl, rfl⟩
theorem quoS64_zero (a : Int) (w : World) :
    Calls Try.prog 86 #[.int .i64 a, .int .i64 0] w fun e w' => e = .returned (.int .i64 (-1)) ∧ w' = w := by
  go_enter Try.func86, Try.ntmps86
  go_wp2
  go_ret
  exact ⟨rfl, rfl⟩
theorem quoS64_any (a b : Int) (w : World) (h0 : b ≠ 0) :
    Calls Try.prog 86 #[.int .i64 a, .int .i64 b] w fun e w' => e = .returned (.int .i64 (wrap64 (a.tdiv b))) ∧ w' = w := by
  have hbn : (b == 0) = false := beq_eq_false_iff_ne.2 h0
  have hb : ¬ b = 0 := h0
  clear h0
  go_enter Try.func86, Try.ntmps86
  go_wp2
  go_ret
  exact ⟨rfl, rfl⟩
theorem restS64_zero (a : Int) (w : World) :
    Calls Try.prog 89 #[.int .i64 a, .int .i64 0] w fun e w' => e = .returned (.int .i64 a) ∧ w' = w := by
  go_enter Try.func89, Try.ntmps89
  go_wp2
  go_ret
  exact ⟨rfl, rfl⟩
theorem restS64_any (a b : Int) (w : World) (h0 : b ≠ 0) :
    Calls Try.prog 89 #[.int .i64 a, .int .i64 b] w fun e w' => e = .returned (.int .i64 (a.tmod b)) ∧ w' = w := by
  have hbn : (b == 0) = false := beq_eq_false_iff_ne.2 h0
  have hb : ¬ b = 0 := h0
  clear h0
  go_enter Try.func89, Try.ntmps89
  go_wp2
  go_ret
  exact ⟨rfl, rfl⟩
theorem quoS32_zero (a : Int) (w : World) :
    Calls Try.prog 63 #[.int .i32 a, .int .i32 0] w fun e w' => e = .returned (.int .i32 (-1)) ∧ w' = w := by
  go_enter Try.func63, Try.ntmps63
  go_wp2
  go_ret
  exact ⟨rfl, rfl⟩
theorem quoS32_any (a b : Int) (w : World) (h0 : b ≠ 0) :
    Calls Try.prog 63 #[.int .i32 a, .int .i32 b] w fun e w' => e = .returned (.int .i32 (wrap32 (a.tdiv b))) ∧ w' = w := by
  have hbn : (b == 0) = false := beq_eq_false_iff_ne.2 h0
  have hb : ¬ b = 0 := h0
  clear h0
  go_enter Try.func63, Try.ntmps63
  go_wp2
  go_ret
  exact ⟨rfl, rfl⟩
theorem restS32_zero (a : Int) (w : World) :
    Calls Try.prog 67 #[.int .i32 a, .int .i32 0] w fun e w' => e = .returned (.int .i32 a) ∧ w' = w := by
  go_enter Try.func67, Try.ntmps67
  go_wp2
  go_ret
  exact ⟨rfl, rfl⟩
theorem restS32_any (a b : Int) (w : World) (h0 : b ≠ 0) :
    Calls Try.prog 67 #[.int .i32 a, .int .i32 b] w fun e w' => e = .returned (.int .i32 (a.tmod b)) ∧ w' = w := by
  have hbn : (b == 0) = false := beq_eq_false_iff_ne.2 h0
  have hb : ¬ b = 0 := h0
  clear h0
  go_enter Try.func67, Try.ntmps67
  go_wp2
  go_ret
  exact ⟨rfl, rfl⟩

/-- Quotient and rest without a sign, as numbers with a sign. -/
def quU (a b : Int) : Int := if u64 b = 0 then -1 else wrap64 ((u64 a / u64 b : Nat) : Int)
def reU (a b : Int) : Int := if u64 b = 0 then wrap64 (u64 a : Int) else wrap64 ((u64 a % u64 b : Nat) : Int)

theorem all1 : wrap64 18446744073709551615 = -1 := by unfold wrap64; omega

theorem implDivide (a b : Int) (w : World) :
    Calls Try.prog 19 #[.int .i64 a, .int .i64 b] w fun e w' => e = .returned (.tuple #[.int .i64 (quU a b), .int .i64 (reU a b)]) ∧ w' = w := by
  have ea := wrap_u64 a
  have eb := wrap_u64 b
  have ha := u64_lt a
  have hb := u64_lt b
  unfold quU reU
  generalize u64 a = x at *
  generalize u64 b = y at *
  by_cases h0 : y = 0
  · subst h0
    rw [if_pos rfl, if_pos rfl]
    go_enter Try.func19, Try.ntmps19
    go_wp2_with fail
    refine (quo64_zero x _).mono ?_
    rintro e w1 ⟨rfl, rfl⟩
    go_wp2_with fail
    refine (rest64_zero x _).mono ?_
    rintro e w1 ⟨rfl, rfl⟩
    clear ea eb
    go_wp2
    go_ret2
    exact ⟨ret_ints all1 rfl, rfl⟩
  · rw [if_neg h0, if_neg h0]
    obtain ⟨p, hp⟩ : ∃ p, p = x / y := ⟨_, rfl⟩
    obtain ⟨q, hq⟩ : ∃ q, q = x % y := ⟨_, rfl⟩
    rw [← hp, ← hq]
    have Hp : Hid (p = x / y) := hp
    have Hq : Hid (q = x % y) := hq
    clear hp hq
    have h1 : 0 < y := by omega
    clear h0
    go_enter Try.func19, Try.ntmps19
    go_wp2_with fail
    refine (quo64_any x y _ h1 ha).mono ?_
    rintro e w1 ⟨rfl, rfl⟩
    rw [← Hp.out]
    go_wp2_with fail
    refine (rest64_any x y _ h1).mono ?_
    rintro e w1 ⟨rfl, rfl⟩
    rw [← Hq.out]
    clear ea eb
    go_wp2
    go_ret2
    exact ⟨rfl, rfl⟩

theorem specDivU (a b : Int) (w : World) :
    Calls Try.prog 29 #[.int .i64 a, .int .i64 b] w fun e w' => e = .returned (.tuple #[.int .i64 (quU a b), .int .i64 (reU a b)]) ∧ w' = w := by
  have ea := wrap_u64 a
  have eb := wrap_u64 b
  have ha := u64_lt a
  have hb := u64_lt b
  unfold quU reU
  generalize u64 a = x at *
  generalize u64 b = y at *
  by_cases h0 : y = 0
  · subst h0
    rw [if_pos rfl, if_pos rfl]
    go_enter Try.func29, Try.ntmps29
    go_wp2_with fail
    refine (divide_zero x _).mono ?_
    rintro e w1 ⟨rfl, rfl⟩
    clear ea eb
    go_wp2
    go_ret2
    exact ⟨ret_ints all1 rfl, rfl⟩
  · rw [if_neg h0, if_neg h0]
    obtain ⟨p, hp⟩ : ∃ p, p = x / y := ⟨_, rfl⟩
    obtain ⟨q, hq⟩ : ∃ q, q = x % y := ⟨_, rfl⟩
    rw [← hp, ← hq]
    have Hp : Hid (p = x / y) := hp
    have Hq : Hid (q = x % y) := hq
    clear hp hq
    have h1 : 0 < y := by omega
    clear h0
    go_enter Try.func29, Try.ntmps29
    go_wp2_with fail
    refine (divide_any x y _ ha hb h1).mono ?_
    rintro e w1 ⟨rfl, rfl⟩
    rw [← Hp.out, ← Hq.out]
    clear ea eb
    go_wp2
    go_ret2
    exact ⟨rfl, rfl⟩
end Go.Proofs.Ytmahjgaaahkakaa
