/- The fixed bits of a word, by the program: the contract. Bits laid into a word whose place is free: plain. -/
import Derived.Test.YtelogjpjglohoaaGreatDoorGXTabBase21
import Derived.Test.YtelogjpjglohoaaGreatDoorGXTabBase20
import Derived.Test.YtelogjpjglohoaaGreatDoorGXTabBase12
namespace Go.Proofs.YtelogjpjglohoaaGreatDoor
open Go.RowKit
set_option linter.unusedVariables false

theorem shT_ok (op : Int) (h0 : 1 ≤ op) (h1 : op ≤ 64) : shOK (shT op).1 (shT op).2.1 (shT op).2.2.1 (shT op).2.2.2 = true := by
  obtain ⟨k, rfl⟩ := Int.eq_ofNat_of_zero_le (show 0 ≤ op by omega)
  have hk : k < 65 := by omega
  have hk0 : 1 ≤ k := by omega
  have key : ∀ j : Nat, j < 65 → 1 ≤ j → shOK (shT (j : Int)).1 (shT (j : Int)).2.1 (shT (j : Int)).2.2.1 (shT (j : Int)).2.2.2 = true := by decide +kernel
  exact key k hk hk0

theorem sh_bounds {f c g h : Int} (hs : shOK f c g h = true) : 1 ≤ f ∧ f ≤ 9 ∧ 0 ≤ c ∧ c < 128 ∧ 0 ≤ g ∧ g < 8 ∧ 0 ≤ h ∧ h < 64 := by
  simp only [shOK, Bool.and_eq_true, Bool.or_eq_true, decide_eq_true_eq] at hs
  obtain ⟨⟨⟨⟨⟨⟨⟨⟨⟨⟨⟨⟨⟨f0, f1⟩, k0⟩, k1⟩, g0⟩, g1⟩, h0⟩, h1⟩, s1⟩, s2⟩, s3⟩, s4⟩, s5⟩, s9⟩ := hs
  exact ⟨f0, f1, k0, k1, g0, g1, h0, h1⟩

theorem cg_or (c g : Int) (k0 : 0 ≤ c) (k1 : c < 128) (g0 : 0 ≤ g) (g1 : g < 8) : bits .or .i64 c (g * 4096) = c + g * 4096 :=
  i64_or_gap 12 3 4096 32768 (by decide) (by decide) _ _ (by omega) (by omega) (by omega) (by omega) (by omega) (by omega) (by decide)

set_option maxHeartbeats 1000000 in
theorem fixC (f c g h : Int) (w : World) (f0 : 1 ≤ f) (f1 : f ≤ 9) (k0 : 0 ≤ c) (k1 : c < 128) (g0 : 0 ≤ g) (g1 : g < 8) (h0 : 0 ≤ h) (h1 : h < 64) :
    Calls Tryz.prog 131 #[.agg #[.int .i64 f, .int .i64 c, .int .i64 g, .int .i64 h]] w fun e w' => e = .returned (.int .i64 (fixW f c g h)) ∧ Below w.heap.size w w' := by
  have hcg := cg_or c g k0 k1 g0 g1
  by_cases e6 : f = 6
  · subst e6
    have e : Hid (bits .or .i64 (c + g * 4096) (h / 2 * 67108864) = fixW 6 c g h) :=
      i64_or_gap 26 6 67108864 4294967296 (by decide) (by decide) _ _ (by omega) (by omega) (by omega) (by omega) (by omega) (by omega) (by decide)
    go_enter Tryz.func131, Tryz.ntmps131
    go_wp2
    go_ret
    exact ⟨congrArg (fun x => Ending.returned (.int .i64 x)) e.out, (Below.refl _ _).alloc (Nat.le_refl _) _⟩
  by_cases e9 : f = 9
  · subst e9
    have e : Hid (bits .or .i64 (c + g * 4096) (h * 1048576) = fixW 9 c g h) :=
      i64_or_gap 20 6 1048576 67108864 (by decide) (by decide) _ _ (by omega) (by omega) (by omega) (by omega) (by omega) (by omega) (by decide)
    clear e6
    go_enter Tryz.func131, Tryz.ntmps131
    go_wp2
    go_ret
    exact ⟨congrArg (fun x => Ending.returned (.int .i64 x)) e.out, (Below.refl _ _).alloc (Nat.le_refl _) _⟩
  · have ef : fixW f c g h = c + g * 4096 + h * 33554432 := by
      unfold fixW
      rw [if_neg e6, if_neg e9]
    have e : Hid (bits .or .i64 (c + g * 4096) (h * 33554432) = fixW f c g h) := by
      rw [ef]
      exact i64_or_gap 25 7 33554432 4294967296 (by decide) (by decide) _ _ (by omega) (by omega) (by omega) (by omega) (by omega) (by omega) (by decide)
    clear ef
    have n6 : (f == 6) = false := by simpa using e6
    have n9 : (f == 9) = false := by simpa using e9
    clear e6 e9
    go_enter Tryz.func131, Tryz.ntmps131
    go_wp2
    go_ret
    exact ⟨congrArg (fun x => Ending.returned (.int .i64 x)) e.out, (Below.refl _ _).alloc (Nat.le_refl _) _⟩
end Go.Proofs.YtelogjpjglohoaaGreatDoor

namespace Go.Proofs.YtelogjpjglohoaaGreatDoor

theorem dd (a : Int) {b : Int} (c : Int) (hb : 0 ≤ b) : a / b / c = a / (b * c) := by
  rw [Int.ediv_ediv, if_neg (fun h => absurd h.1 (by omega)), Int.sub_zero]
theorem div_up (a lo : Int) (k j : Nat) (h0 : 0 ≤ lo) (h1 : lo < 2 ^ k) : (a * 2 ^ k + lo) / 2 ^ (k + j) = a / 2 ^ j := by
  rw [Int.pow_add, ← dd _ _ (Int.le_of_lt (pow_pos k)), Int.add_comm, Int.add_mul_ediv_right _ _ (Int.ne_of_gt (pow_pos k)), Int.ediv_eq_zero_of_lt h0 h1, Int.zero_add]
theorem bit_up (a lo : Int) (k j : Nat) (h0 : 0 ≤ lo) (h1 : lo < 2 ^ k) : bitT (a * 2 ^ k + lo) (k + j) = bitT a j := by
  unfold bitT
  rw [div_up a lo k j h0 h1]
theorem bit_mod (v : Int) (n i : Nat) (h : i < n) : bitT (v % 2 ^ n) i = bitT v i := by
  have e : v = v % 2 ^ n + (v / 2 ^ n) * 2 ^ n := by have := Int.emod_add_mul_ediv v (2 ^ n); rw [Int.mul_comm]; exact this.symm
  have := bit_far (v % 2 ^ n) (v / 2 ^ n) n i h
  rw [← e] at this
  exact this.symm

/-- The word with the number laid at a free place. -/
def putT (word v : Int) (low count : Nat) : Int := word + v % 2 ^ count * 2 ^ low

theorem put_bit (word v : Int) (low count i : Nat) (_hw : 0 ≤ word) (hz : word / 2 ^ low % 2 ^ count = 0) :
    bitT (putT word v low count) i = if low ≤ i ∧ i < low + count then bitT v (i - low) else bitT word i := by
  obtain ⟨hi, lo, hlo0, hlo1, e⟩ : ∃ hi lo : Int, 0 ≤ lo ∧ lo < 2 ^ low ∧ word = hi * 2 ^ (low + count) + lo := by
    refine ⟨word / 2 ^ (low + count), word % 2 ^ low, Int.emod_nonneg _ (Int.ne_of_gt (pow_pos low)), Int.emod_lt_of_pos _ (pow_pos low), ?_⟩
    have h1 := Int.emod_add_mul_ediv word (2 ^ low)
    have h2 := Int.emod_add_mul_ediv (word / 2 ^ low) (2 ^ count)
    rw [hz, dd _ _ (Int.le_of_lt (pow_pos low)), ← Int.pow_add] at h2
    have h3 : word / 2 ^ (low + count) * 2 ^ (low + count) = 2 ^ low * (word / 2 ^ low) := by
      rw [← h2, Int.pow_add]
      rw [Int.zero_add, Int.mul_comm, Int.mul_assoc]
    omega
  have e2 : putT word v low count = (hi * 2 ^ count + v % 2 ^ count) * 2 ^ low + lo := by
    unfold putT
    rw [e, Int.add_mul, Int.pow_add]
    have : hi * (2 ^ low * 2 ^ count) = hi * 2 ^ count * 2 ^ low := by simp only [Int.mul_comm, Int.mul_left_comm]
    omega
  have hp := pow_pos count
  by_cases h1 : i < low
  · rw [if_neg (by omega), e2, e]
    have a1 := bit_far lo (hi * 2 ^ count + v % 2 ^ count) low i h1
    have a2 := bit_far lo hi (low + count) i (by omega)
    rw [Int.add_comm] at a1 a2
    rw [a1, a2]
  obtain ⟨j, rfl⟩ : ∃ j, i = low + j := ⟨i - low, by omega⟩
  rw [e2, bit_up _ lo low j hlo0 hlo1]
  by_cases h2 : j < count
  · rw [if_pos (by omega), Nat.add_sub_cancel_left]
    have a1 := bit_far (v % 2 ^ count) hi count j h2
    rw [Int.add_comm] at a1
    rw [a1, bit_mod v count j h2]
  · rw [if_neg (by omega), e]
    obtain ⟨m, rfl⟩ : ∃ m, j = count + m := ⟨j - count, by omega⟩
    rw [bit_up hi (v % 2 ^ count) count m (Int.emod_nonneg _ (Int.ne_of_gt hp)) (Int.emod_lt_of_pos _ hp)]
    have hl2 : lo < 2 ^ (low + count) := by
      have : (2 : Int) ^ low ≤ 2 ^ (low + count) := pow_le (by omega)
      omega
    rw [show low + (count + m) = (low + count) + m by omega, bit_up hi lo (low + count) m hlo0 hl2]

theorem int_half (s : Int) (k : Nat) : s / 2 ^ k = 2 * (s / 2 ^ (k + 1)) + bitT s k := by
  unfold bitT
  rw [Int.pow_succ, ← dd _ _ (Int.le_of_lt (pow_pos k))]
  omega

theorem put_bd (word v : Int) (low count : Nat) (hw : 0 ≤ word) (hw2 : word < 2 ^ 32) (h : low + count ≤ 32) (hz : word / 2 ^ low % 2 ^ count = 0) : 0 ≤ putT word v low count ∧ putT word v low count < 2 ^ 32 := by
  have h0 : 0 ≤ v % 2 ^ count := Int.emod_nonneg _ (Int.ne_of_gt (pow_pos count))
  have h00 : 0 ≤ v % 2 ^ count * 2 ^ low := Int.mul_nonneg h0 (Int.le_of_lt (pow_pos low))
  refine ⟨by unfold putT; omega, ?_⟩
  -- all bits from 32 on are 0
  have hd : putT word v low count / 2 ^ 32 = 0 := by
    have hb : ∀ m, bitT (putT word v low count) (32 + m) = bitT word (32 + m) := fun m => by
      rw [put_bit word v low count (32 + m) hw hz, if_neg (by omega)]
    have h1 : v % 2 ^ count < 2 ^ count := Int.emod_lt_of_pos _ (pow_pos count)
    obtain ⟨d, hd⟩ : ∃ d, 32 = low + count + d := ⟨32 - low - count, by omega⟩
    obtain ⟨hi, lo, hlo0, hlo1, e⟩ : ∃ hi lo : Int, 0 ≤ lo ∧ lo < 2 ^ low ∧ word = hi * 2 ^ (low + count) + lo := by
      refine ⟨word / 2 ^ (low + count), word % 2 ^ low, Int.emod_nonneg _ (Int.ne_of_gt (pow_pos low)), Int.emod_lt_of_pos _ (pow_pos low), ?_⟩
      have h1 := Int.emod_add_mul_ediv word (2 ^ low)
      have h2 := Int.emod_add_mul_ediv (word / 2 ^ low) (2 ^ count)
      rw [hz, dd _ _ (Int.le_of_lt (pow_pos low)), ← Int.pow_add] at h2
      have h3 : word / 2 ^ (low + count) * 2 ^ (low + count) = 2 ^ low * (word / 2 ^ low) := by
        rw [← h2, Int.pow_add]
        rw [Int.zero_add, Int.mul_comm, Int.mul_assoc]
      omega
    have e2 : putT word v low count = (hi * 2 ^ count + v % 2 ^ count) * 2 ^ low + lo := by
      unfold putT
      rw [e, Int.add_mul, Int.pow_add]
      have : hi * (2 ^ low * 2 ^ count) = hi * 2 ^ count * 2 ^ low := by simp only [Int.mul_comm, Int.mul_left_comm]
      omega
    have hl2 : lo < 2 ^ (low + count) := by
      have : (2 : Int) ^ low ≤ 2 ^ (low + count) := pow_le (by omega)
      omega
    have w0 : word / 2 ^ 32 = 0 := Int.ediv_eq_zero_of_lt hw hw2
    rw [hd] at w0 ⊢
    rw [e, div_up hi lo (low + count) d hlo0 hl2] at w0
    rw [e2, show low + count + d = low + (count + d) by omega, div_up _ lo low (count + d) hlo0 hlo1, div_up hi _ count d h0 h1]
    exact w0
  have hm := Int.emod_add_mul_ediv (putT word v low count) (2 ^ 32)
  rw [hd] at hm
  have hl := Int.emod_lt_of_pos (putT word v low count) (pow_pos 32)
  omega
end Go.Proofs.YtelogjpjglohoaaGreatDoor
