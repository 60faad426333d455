/- MulWide: the library's product of 128 bits, the program's and the model's. -/
import Derived.Test.YtmahjgaaahkakaaWidA
import Derived.Lib.Mul64
import Derived.Laws.Bits64b
namespace Go.Proofs.Ytmahjgaaahkakaa
open Go.RowKit
set_option linter.unusedVariables false

theorem maskN (a : Nat) (ha : a < 18446744073709551616) : bits .and .u64 (a : Int) 4294967295 = ((a % 4294967296 : Nat) : Int) := by
  have h := bits_and_u64_nat a 4294967295 ha (by omega)
  have e : a &&& 4294967295 = a % 4294967296 := Nat.and_two_pow_sub_one_eq_mod a 32
  rw [e] at h
  exact h
theorem divN (a : Nat) : (a : Int) / 4294967296 = ((a / 4294967296 : Nat) : Int) := by omega
theorem mulN (a b : Nat) : (a : Int) * (b : Int) = ((a * b : Nat) : Int) := (Int.natCast_mul a b).symm
theorem addN (a b : Nat) : (a : Int) + (b : Int) = ((a + b : Nat) : Int) := (Int.natCast_add a b).symm
theorem wrapN (a : Nat) (ha : a < 18446744073709551616) : IntKind.u64.wrap (a : Int) = (a : Int) := by rw [IntKind.wrap_u64]; omega
theorem wrapM (a : Nat) : IntKind.u64.wrap (a : Int) = ((a % 18446744073709551616 : Nat) : Int) := by rw [IntKind.wrap_u64]; omega

set_option maxHeartbeats 1000000 in
theorem mul64_any (x y : Nat) (w : World) (hx : x < 18446744073709551616) (hy : y < 18446744073709551616) :
    Calls Try.prog 34 #[.int .u64 x, .int .u64 y] w fun e w' => e = .returned (.tuple #[.int .u64 ((x * y / 18446744073709551616 : Nat) : Int), .int .u64 ((x * y % 18446744073709551616 : Nat) : Int)]) ∧ w' = w := by
  obtain ⟨bd, bt, bw, hhi⟩ := Lib.mul64_hi x y hx hy
  have ba := Lib.half_mul_le (a := x / 4294967296) (b := y / 4294967296) (by omega) (by omega)
  have bb := Lib.half_mul_le (a := x / 4294967296) (b := y % 4294967296) (by omega) (by omega)
  have bc := Lib.half_mul_le (a := x % 4294967296) (b := y / 4294967296) (by omega) (by omega)
  have ba' : x / 4294967296 * (y / 4294967296) < 18446744073709551616 := by omega
  have bb' : x / 4294967296 * (y % 4294967296) < 18446744073709551616 := by omega
  have bc' : x % 4294967296 * (y / 4294967296) < 18446744073709551616 := by omega
  have bh1 : x / 4294967296 * (y / 4294967296) + (x / 4294967296 * (y % 4294967296) + x % 4294967296 * (y % 4294967296) / 4294967296) / 4294967296 < 18446744073709551616 := by omega
  have bh : x / 4294967296 * (y / 4294967296) + (x / 4294967296 * (y % 4294967296) + x % 4294967296 * (y % 4294967296) / 4294967296) / 4294967296 + ((x / 4294967296 * (y % 4294967296) + x % 4294967296 * (y % 4294967296) / 4294967296) % 4294967296 + x % 4294967296 * (y / 4294967296)) / 4294967296 < 18446744073709551616 := by omega
  go_enter Try.func34, Try.ntmps34
  go_wp2
  simp only [maskN x hx, maskN y hy, divN, mulN, addN, wrapN _ bd, wrapN _ bb', wrapN _ bt, maskN _ bt, wrapN _ bc', wrapN _ bw, wrapN _ ba', wrapN _ bh1, wrapN _ bh, wrapM (x * y)]
  rw [hhi]
  go_ret2
  exact ⟨rfl, rfl⟩

/-- The upper and the lower half of the product without a sign, as numbers with a sign. -/
def upU (a b : Int) : Int := wrap64 ((u64 a * u64 b / 18446744073709551616 : Nat) : Int)
def loU (a b : Int) : Int := wrap64 ((u64 a * u64 b % 18446744073709551616 : Nat) : Int)

theorem implWide (a b : Int) (w : World) :
    Calls Try.prog 15 #[.int .i64 a, .int .i64 b] w fun e w' => e = .returned (.tuple #[.int .i64 (upU a b), .int .i64 (loU a b)]) ∧ w' = w := by
  have ea := wrap_u64 a
  have eb := wrap_u64 b
  have ha := u64_lt a
  have hb := u64_lt b
  unfold upU loU
  generalize u64 a = x at *
  generalize u64 b = y at *
  obtain ⟨p, hp⟩ : ∃ p, p = x * y / 18446744073709551616 := ⟨_, rfl⟩
  obtain ⟨q, hq⟩ : ∃ q, q = x * y % 18446744073709551616 := ⟨_, rfl⟩
  rw [← hp, ← hq]
  have Hp : Hid (p = x * y / 18446744073709551616) := hp
  have Hq : Hid (q = x * y % 18446744073709551616) := hq
  clear hp hq
  go_enter Try.func15, Try.ntmps15
  go_wp2_with fail
  refine (mul64_any x y _ ha hb).mono ?_
  rintro e w1 ⟨rfl, rfl⟩
  rw [← Hp.out, ← Hq.out]
  clear ea eb
  go_wp2
  go_ret2
  exact ⟨rfl, rfl⟩

theorem specMulW (a b : Int) (w : World) :
    Calls Try.prog 16 #[.int .i64 a, .int .i64 b] w fun e w' => e = .returned (.tuple #[.int .i64 (upU a b), .int .i64 (loU a b)]) ∧ w' = w := by
  have ea := wrap_u64 a
  have eb := wrap_u64 b
  have ha := u64_lt a
  have hb := u64_lt b
  unfold upU loU
  generalize u64 a = x at *
  generalize u64 b = y at *
  obtain ⟨p, hp⟩ : ∃ p, p = x * y / 18446744073709551616 := ⟨_, rfl⟩
  obtain ⟨q, hq⟩ : ∃ q, q = x * y % 18446744073709551616 := ⟨_, rfl⟩
  rw [← hp, ← hq]
  have Hp : Hid (p = x * y / 18446744073709551616) := hp
  have Hq : Hid (q = x * y % 18446744073709551616) := hq
  clear hp hq
  go_enter Try.func16, Try.ntmps16
  go_wp2_with fail
  refine (wide_any x y _ ha hb).mono ?_
  rintro e w1 ⟨rfl, rfl⟩
  rw [← Hp.out, ← Hq.out]
  clear ea eb
  go_wp2
  go_ret2
  exact ⟨rfl, rfl⟩
end Go.Proofs.Ytmahjgaaahkakaa
