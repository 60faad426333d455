/- What operations make of two numbers: the contracts' words, and the model's parts. -/
import Derived.Test.YtmahjgaaahkakaaShfA
import Derived.Test.YtmahjgaaahkakaaWisA
import Derived.Test.YtmahjgaaahkakaaHghA
import Derived.Test.YtmahjgaaahkakaaFieC
import Derived.Test.YtmahjgaaahkakaaKndC
namespace Go.Proofs.Ytmahjgaaahkakaa
open Go.RowKit
set_option linter.unusedVariables false


/-- How far a shift goes. -/
def sh6 (b : Int) : Nat := (b % 64).toNat
def sh5 (b : Int) : Nat := (b % 32).toNat
theorem sh6_lt (b : Int) : sh6 b < 64 := by unfold sh6; omega
theorem sh5_lt (b : Int) : sh5 b < 32 := by unfold sh5; omega
theorem sh6_eq (b : Int) : b / 2 ^ 0 % 2 ^ 6 = (sh6 b : Int) := by
  unfold sh6
  rw [Int.pow_zero, Int.ediv_one, show (2 : Int) ^ 6 = 64 from rfl]; omega
theorem sh5_eq (b : Int) : b / 2 ^ 0 % 2 ^ 5 = (sh5 b : Int) := by
  unfold sh5
  rw [Int.pow_zero, Int.ediv_one, show (2 : Int) ^ 5 = 32 from rfl]; omega
/-- The lowest 32 bits without a sign. -/
def lo32 (a : Int) : Int := a % 4294967296
theorem lo32_bd (a : Int) : 0 ≤ lo32 a ∧ lo32 a ≤ 4294967295 := by unfold lo32; omega
theorem lo32_eq (b : Int) : b / 2 ^ 0 % 2 ^ 32 = lo32 b := by
  unfold lo32
  rw [Int.pow_zero, Int.ediv_one, show (2 : Int) ^ 32 = 4294967296 from rfl]
theorem fld6 (b : Int) (w : World) :
    Calls Try.prog 94 #[.int .i64 b, .int .i64 0, .int .i64 6] w fun e w' => e = .returned (.int .i64 (sh6 b : Int)) ∧ w' = w := by
  have h := fieC b 0 6 w (by decide) (by decide)
  rw [sh6_eq] at h
  exact h
theorem fld5 (b : Int) (w : World) :
    Calls Try.prog 94 #[.int .i64 b, .int .i64 0, .int .i64 5] w fun e w' => e = .returned (.int .i64 (sh5 b : Int)) ∧ w' = w := by
  have h := fieC b 0 5 w (by decide) (by decide)
  rw [sh5_eq] at h
  exact h
theorem fld32 (b : Int) (w : World) :
    Calls Try.prog 94 #[.int .i64 b, .int .i64 0, .int .i64 32] w fun e w' => e = .returned (.int .i64 (lo32 b)) ∧ w' = w := by
  have h := fieC b 0 32 w (by decide) (by decide)
  rw [lo32_eq] at h
  exact h
theorem shL (k : Int) (a b : Int) (w : World) (hk : k = 0 ∨ k = 1 ∨ k = 2) :
    Calls Try.prog 93 #[.int .i64 k, .int .i64 a, .int .i64 (sh6 b : Int), .int .i64 64] w fun e w' => e = .returned (.int .i64 (sgn (shX k.toNat a (sh6 b) 64) 64)) ∧ w' = w := by
  rcases hk with rfl | rfl | rfl
  · exact shC0 a (sh6 b) 64 w (.inr rfl) (sh6_lt b)
  · exact shC1 a (sh6 b) 64 w (.inr rfl) (sh6_lt b)
  · exact shC2 a (sh6 b) 64 w (.inr rfl) (sh6_lt b)
theorem shW (k : Int) (a b : Int) (w : World) (hk : k = 0 ∨ k = 1 ∨ k = 2) :
    Calls Try.prog 93 #[.int .i64 k, .int .i64 a, .int .i64 (sh5 b : Int), .int .i64 32] w fun e w' => e = .returned (.int .i64 (sgn (shX k.toNat a (sh5 b) 32) 32)) ∧ w' = w := by
  rcases hk with rfl | rfl | rfl
  · exact shC0 a (sh5 b) 32 w (.inl rfl) (sh5_lt b)
  · exact shC1 a (sh5 b) 32 w (.inl rfl) (sh5_lt b)
  · exact shC2 a (sh5 b) 32 w (.inl rfl) (sh5_lt b)
def oneB (b : Bool) : Int := if b then 1 else 0
theorem bitC (b : Bool) (w : World) :
    Calls Try.prog 95 #[.bool b] w fun e w' => e = .returned (.int .i64 (oneB b)) ∧ w' = w := by
  cases b
  · go_enter Try.func95, Try.ntmps95
    go_wp2
    go_ret
    exact ⟨rfl, rfl⟩
  · go_enter Try.func95, Try.ntmps95
    go_wp2
    go_ret
    exact ⟨rfl, rfl⟩
theorem sgn_in64 (a : Int) : In64 (sgn a 32) := by
  have := sgn32_bd a
  unfold In64; omega
theorem signedC (a b : Int) (w : World) (ha : In64 a) (hb : In64 b) :
    Calls Try.prog 110 #[.int .i64 a, .int .i64 b] w fun e w' => e = .returned (.tuple #[.int .i64 (quS a b), .int .i64 (reS a b)]) ∧ w' = w := by
  unfold quS reS
  by_cases h : b = 0
  · subst h
    exact signed_zero a w
  · rw [if_neg h, if_neg h]
    exact signed_any a b w ha hb h

def cm31 (a b : Int) : Int := wrap64 (a + b)
def cm32 (a b : Int) : Int := wrap64 (a - b)
def cm33 (a b : Int) : Int := sgn (shX 0 a (sh6 b) 64) 64
def cm34 (a b : Int) : Int := oneB (decide (a < b))
def cm35 (a b : Int) : Int := oneB (belB a b)
def cm36 (a b : Int) : Int := wrap64 ((wiN 36 (u64 a) (u64 b) : Nat) : Int)
def cm37 (a b : Int) : Int := sgn (shX 1 a (sh6 b) 64) 64
def cm38 (a b : Int) : Int := sgn (shX 2 a (sh6 b) 64) 64
def cm39 (a b : Int) : Int := wrap64 ((wiN 39 (u64 a) (u64 b) : Nat) : Int)
def cm40 (a b : Int) : Int := wrap64 ((wiN 40 (u64 a) (u64 b) : Nat) : Int)
def cm45 (a b : Int) : Int := sgn (sgn a 32 + sgn b 32) 32
def cm46 (a b : Int) : Int := sgn (sgn a 32 - sgn b 32) 32
def cm47 (a b : Int) : Int := sgn (shX 0 a (sh5 b) 32) 32
def cm48 (a b : Int) : Int := sgn (shX 1 a (sh5 b) 32) 32
def cm49 (a b : Int) : Int := sgn (shX 2 a (sh5 b) 32) 32
def cm50 (a b : Int) : Int := loU a b
def cm51 (a b : Int) : Int := upS a b
def cm52 (a b : Int) : Int := upSU a b
def cm53 (a b : Int) : Int := upU a b
def cm54 (a b : Int) : Int := quS a b
def cm55 (a b : Int) : Int := quU a b
def cm56 (a b : Int) : Int := reS a b
def cm57 (a b : Int) : Int := reU a b
def cm58 (a b : Int) : Int := sgn (sgn a 32 * sgn b 32) 32
def cm59 (a b : Int) : Int := sgn (quS (sgn a 32) (sgn b 32)) 32
def cm60 (a b : Int) : Int := sgn (quU (lo32 a) (lo32 b)) 32
def cm61 (a b : Int) : Int := sgn (reS (sgn a 32) (sgn b 32)) 32
def cm62 (a b : Int) : Int := sgn (reU (lo32 a) (lo32 b)) 32

/-- What an operation makes of two numbers. -/
def cmT (op a b : Int) : Int :=
  if op = 22 then cm31 a b
  else if op = 23 then cm34 a b
  else if op = 24 then cm35 a b
  else if op = 25 then cm36 a b
  else if op = 26 then cm39 a b
  else if op = 27 then cm40 a b
  else if op = 28 then cm33 a b
  else if op = 29 then cm37 a b
  else if op = 30 then cm38 a b
  else if op = 31 then cm31 a b
  else if op = 32 then cm32 a b
  else if op = 33 then cm33 a b
  else if op = 34 then cm34 a b
  else if op = 35 then cm35 a b
  else if op = 36 then cm36 a b
  else if op = 37 then cm37 a b
  else if op = 38 then cm38 a b
  else if op = 39 then cm39 a b
  else if op = 40 then cm40 a b
  else if op = 41 then cm45 a b
  else if op = 42 then cm47 a b
  else if op = 43 then cm48 a b
  else if op = 44 then cm49 a b
  else if op = 45 then cm45 a b
  else if op = 46 then cm46 a b
  else if op = 47 then cm47 a b
  else if op = 48 then cm48 a b
  else if op = 49 then cm49 a b
  else if op = 50 then cm50 a b
  else if op = 51 then cm51 a b
  else if op = 52 then cm52 a b
  else if op = 53 then cm53 a b
  else if op = 54 then cm54 a b
  else if op = 55 then cm55 a b
  else if op = 56 then cm56 a b
  else if op = 57 then cm57 a b
  else if op = 58 then cm58 a b
  else if op = 59 then cm59 a b
  else if op = 60 then cm60 a b
  else if op = 61 then cm61 a b
  else if op = 62 then cm62 a b
  else 0

theorem plC22 (w : World) :
    Calls Try.prog 92 #[.int .i64 22] w fun e w' => e = .returned (.int .i64 31) ∧ w' = w := by
  go_enter Try.func92, Try.ntmps92
  go_wp2
  go_ret
  exact ⟨rfl, rfl⟩
theorem plC23 (w : World) :
    Calls Try.prog 92 #[.int .i64 23] w fun e w' => e = .returned (.int .i64 34) ∧ w' = w := by
  go_enter Try.func92, Try.ntmps92
  go_wp2
  go_ret
  exact ⟨rfl, rfl⟩
theorem plC24 (w : World) :
    Calls Try.prog 92 #[.int .i64 24] w fun e w' => e = .returned (.int .i64 35) ∧ w' = w := by
  go_enter Try.func92, Try.ntmps92
  go_wp2
  go_ret
  exact ⟨rfl, rfl⟩
theorem plC25 (w : World) :
    Calls Try.prog 92 #[.int .i64 25] w fun e w' => e = .returned (.int .i64 36) ∧ w' = w := by
  go_enter Try.func92, Try.ntmps92
  go_wp2
  go_ret
  exact ⟨rfl, rfl⟩
theorem plC26 (w : World) :
    Calls Try.prog 92 #[.int .i64 26] w fun e w' => e = .returned (.int .i64 39) ∧ w' = w := by
  go_enter Try.func92, Try.ntmps92
  go_wp2
  go_ret
  exact ⟨rfl, rfl⟩
theorem plC27 (w : World) :
    Calls Try.prog 92 #[.int .i64 27] w fun e w' => e = .returned (.int .i64 40) ∧ w' = w := by
  go_enter Try.func92, Try.ntmps92
  go_wp2
  go_ret
  exact ⟨rfl, rfl⟩
theorem plC28 (w : World) :
    Calls Try.prog 92 #[.int .i64 28] w fun e w' => e = .returned (.int .i64 33) ∧ w' = w := by
  go_enter Try.func92, Try.ntmps92
  go_wp2
  go_ret
  exact ⟨rfl, rfl⟩
theorem plC29 (w : World) :
    Calls Try.prog 92 #[.int .i64 29] w fun e w' => e = .returned (.int .i64 37) ∧ w' = w := by
  go_enter Try.func92, Try.ntmps92
  go_wp2
  go_ret
  exact ⟨rfl, rfl⟩
theorem plC30 (w : World) :
    Calls Try.prog 92 #[.int .i64 30] w fun e w' => e = .returned (.int .i64 38) ∧ w' = w := by
  go_enter Try.func92, Try.ntmps92
  go_wp2
  go_ret
  exact ⟨rfl, rfl⟩
theorem plC31 (w : World) :
    Calls Try.prog 92 #[.int .i64 31] w fun e w' => e = .returned (.int .i64 31) ∧ w' = w := by
  go_enter Try.func92, Try.ntmps92
  go_wp2
  go_ret
  exact ⟨rfl, rfl⟩
theorem plC32 (w : World) :
    Calls Try.prog 92 #[.int .i64 32] w fun e w' => e = .returned (.int .i64 32) ∧ w' = w := by
  go_enter Try.func92, Try.ntmps92
  go_wp2
  go_ret
  exact ⟨rfl, rfl⟩
theorem plC33 (w : World) :
    Calls Try.prog 92 #[.int .i64 33] w fun e w' => e = .returned (.int .i64 33) ∧ w' = w := by
  go_enter Try.func92, Try.ntmps92
  go_wp2
  go_ret
  exact ⟨rfl, rfl⟩
theorem plC34 (w : World) :
    Calls Try.prog 92 #[.int .i64 34] w fun e w' => e = .returned (.int .i64 34) ∧ w' = w := by
  go_enter Try.func92, Try.ntmps92
  go_wp2
  go_ret
  exact ⟨rfl, rfl⟩
theorem plC35 (w : World) :
    Calls Try.prog 92 #[.int .i64 35] w fun e w' => e = .returned (.int .i64 35) ∧ w' = w := by
  go_enter Try.func92, Try.ntmps92
  go_wp2
  go_ret
  exact ⟨rfl, rfl⟩
theorem plC36 (w : World) :
    Calls Try.prog 92 #[.int .i64 36] w fun e w' => e = .returned (.int .i64 36) ∧ w' = w := by
  go_enter Try.func92, Try.ntmps92
  go_wp2
  go_ret
  exact ⟨rfl, rfl⟩
theorem plC37 (w : World) :
    Calls Try.prog 92 #[.int .i64 37] w fun e w' => e = .returned (.int .i64 37) ∧ w' = w := by
  go_enter Try.func92, Try.ntmps92
  go_wp2
  go_ret
  exact ⟨rfl, rfl⟩
theorem plC38 (w : World) :
    Calls Try.prog 92 #[.int .i64 38] w fun e w' => e = .returned (.int .i64 38) ∧ w' = w := by
  go_enter Try.func92, Try.ntmps92
  go_wp2
  go_ret
  exact ⟨rfl, rfl⟩
theorem plC39 (w : World) :
    Calls Try.prog 92 #[.int .i64 39] w fun e w' => e = .returned (.int .i64 39) ∧ w' = w := by
  go_enter Try.func92, Try.ntmps92
  go_wp2
  go_ret
  exact ⟨rfl, rfl⟩
theorem plC40 (w : World) :
    Calls Try.prog 92 #[.int .i64 40] w fun e w' => e = .returned (.int .i64 40) ∧ w' = w := by
  go_enter Try.func92, Try.ntmps92
  go_wp2
  go_ret
  exact ⟨rfl, rfl⟩
theorem plC41 (w : World) :
    Calls Try.prog 92 #[.int .i64 41] w fun e w' => e = .returned (.int .i64 45) ∧ w' = w := by
  go_enter Try.func92, Try.ntmps92
  go_wp2
  go_ret
  exact ⟨rfl, rfl⟩
theorem plC42 (w : World) :
    Calls Try.prog 92 #[.int .i64 42] w fun e w' => e = .returned (.int .i64 47) ∧ w' = w := by
  go_enter Try.func92, Try.ntmps92
  go_wp2
  go_ret
  exact ⟨rfl, rfl⟩
theorem plC43 (w : World) :
    Calls Try.prog 92 #[.int .i64 43] w fun e w' => e = .returned (.int .i64 48) ∧ w' = w := by
  go_enter Try.func92, Try.ntmps92
  go_wp2
  go_ret
  exact ⟨rfl, rfl⟩
theorem plC44 (w : World) :
    Calls Try.prog 92 #[.int .i64 44] w fun e w' => e = .returned (.int .i64 49) ∧ w' = w := by
  go_enter Try.func92, Try.ntmps92
  go_wp2
  go_ret
  exact ⟨rfl, rfl⟩
theorem plC45 (w : World) :
    Calls Try.prog 92 #[.int .i64 45] w fun e w' => e = .returned (.int .i64 45) ∧ w' = w := by
  go_enter Try.func92, Try.ntmps92
  go_wp2
  go_ret
  exact ⟨rfl, rfl⟩
theorem plC46 (w : World) :
    Calls Try.prog 92 #[.int .i64 46] w fun e w' => e = .returned (.int .i64 46) ∧ w' = w := by
  go_enter Try.func92, Try.ntmps92
  go_wp2
  go_ret
  exact ⟨rfl, rfl⟩
theorem plC47 (w : World) :
    Calls Try.prog 92 #[.int .i64 47] w fun e w' => e = .returned (.int .i64 47) ∧ w' = w := by
  go_enter Try.func92, Try.ntmps92
  go_wp2
  go_ret
  exact ⟨rfl, rfl⟩
theorem plC48 (w : World) :
    Calls Try.prog 92 #[.int .i64 48] w fun e w' => e = .returned (.int .i64 48) ∧ w' = w := by
  go_enter Try.func92, Try.ntmps92
  go_wp2
  go_ret
  exact ⟨rfl, rfl⟩
theorem plC49 (w : World) :
    Calls Try.prog 92 #[.int .i64 49] w fun e w' => e = .returned (.int .i64 49) ∧ w' = w := by
  go_enter Try.func92, Try.ntmps92
  go_wp2
  go_ret
  exact ⟨rfl, rfl⟩
theorem plC50 (w : World) :
    Calls Try.prog 92 #[.int .i64 50] w fun e w' => e = .returned (.int .i64 50) ∧ w' = w := by
  go_enter Try.func92, Try.ntmps92
  go_wp2
  go_ret
  exact ⟨rfl, rfl⟩
theorem plC51 (w : World) :
    Calls Try.prog 92 #[.int .i64 51] w fun e w' => e = .returned (.int .i64 51) ∧ w' = w := by
  go_enter Try.func92, Try.ntmps92
  go_wp2
  go_ret
  exact ⟨rfl, rfl⟩
theorem plC52 (w : World) :
    Calls Try.prog 92 #[.int .i64 52] w fun e w' => e = .returned (.int .i64 52) ∧ w' = w := by
  go_enter Try.func92, Try.ntmps92
  go_wp2
  go_ret
  exact ⟨rfl, rfl⟩
theorem plC53 (w : World) :
    Calls Try.prog 92 #[.int .i64 53] w fun e w' => e = .returned (.int .i64 53) ∧ w' = w := by
  go_enter Try.func92, Try.ntmps92
  go_wp2
  go_ret
  exact ⟨rfl, rfl⟩
theorem plC54 (w : World) :
    Calls Try.prog 92 #[.int .i64 54] w fun e w' => e = .returned (.int .i64 54) ∧ w' = w := by
  go_enter Try.func92, Try.ntmps92
  go_wp2
  go_ret
  exact ⟨rfl, rfl⟩
theorem plC55 (w : World) :
    Calls Try.prog 92 #[.int .i64 55] w fun e w' => e = .returned (.int .i64 55) ∧ w' = w := by
  go_enter Try.func92, Try.ntmps92
  go_wp2
  go_ret
  exact ⟨rfl, rfl⟩
theorem plC56 (w : World) :
    Calls Try.prog 92 #[.int .i64 56] w fun e w' => e = .returned (.int .i64 56) ∧ w' = w := by
  go_enter Try.func92, Try.ntmps92
  go_wp2
  go_ret
  exact ⟨rfl, rfl⟩
theorem plC57 (w : World) :
    Calls Try.prog 92 #[.int .i64 57] w fun e w' => e = .returned (.int .i64 57) ∧ w' = w := by
  go_enter Try.func92, Try.ntmps92
  go_wp2
  go_ret
  exact ⟨rfl, rfl⟩
theorem plC58 (w : World) :
    Calls Try.prog 92 #[.int .i64 58] w fun e w' => e = .returned (.int .i64 58) ∧ w' = w := by
  go_enter Try.func92, Try.ntmps92
  go_wp2
  go_ret
  exact ⟨rfl, rfl⟩
theorem plC59 (w : World) :
    Calls Try.prog 92 #[.int .i64 59] w fun e w' => e = .returned (.int .i64 59) ∧ w' = w := by
  go_enter Try.func92, Try.ntmps92
  go_wp2
  go_ret
  exact ⟨rfl, rfl⟩
theorem plC60 (w : World) :
    Calls Try.prog 92 #[.int .i64 60] w fun e w' => e = .returned (.int .i64 60) ∧ w' = w := by
  go_enter Try.func92, Try.ntmps92
  go_wp2
  go_ret
  exact ⟨rfl, rfl⟩
theorem plC61 (w : World) :
    Calls Try.prog 92 #[.int .i64 61] w fun e w' => e = .returned (.int .i64 61) ∧ w' = w := by
  go_enter Try.func92, Try.ntmps92
  go_wp2
  go_ret
  exact ⟨rfl, rfl⟩
theorem plC62 (w : World) :
    Calls Try.prog 92 #[.int .i64 62] w fun e w' => e = .returned (.int .i64 62) ∧ w' = w := by
  go_enter Try.func92, Try.ntmps92
  go_wp2
  go_ret
  exact ⟨rfl, rfl⟩
end Go.Proofs.Ytmahjgaaahkakaa
