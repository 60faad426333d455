/- The shapes of the operations: contracts. Bits of numbers with a sign: plain. -/
import Derived.Test.YtjpdjalhhokghaaDoorGXInstrOK1
import Derived.Test.YtjpdjalhhokghaaDoorGXInstrOK2
import Derived.Test.YtjpdjalhhokghaaDoorGXInstrOK3
import Derived.Test.YtjpdjalhhokghaaDoorGXInstrOK4
import Derived.WalkKit
import Derived.Laws.BitsAllLaws
import Derived.IntWalk
namespace Go.Proofs.YtjpdjalhhokghaaDoor
open Go.RowKit
set_option linter.unusedVariables false

theorem bcell {W w1 : World} (hb : Below W.heap.size W w1) : (∀ b o, b < W.heap.size → w1.cell? ⟨b, o, none⟩ = W.cell? ⟨b, o, none⟩) ∧ (∀ b o, b < W.heap.size → w1.frozen? ⟨b, o, none⟩ = W.frozen? ⟨b, o, none⟩) :=
  ⟨fun b o h => hb.cell (p := ⟨b, o, none⟩) h, fun b o h => hb.frozen (p := ⟨b, o, none⟩) h⟩

set_option maxRecDepth 100000 in
set_option maxHeartbeats 4000000 in
theorem shapeC (op : Int) (w : World) :
    Calls Tryd.prog 64 #[.int .i64 op] w fun e w' => e = .returned (shV (shT op)) ∧ Below w.heap.size w w' := by
  by_cases h1 : op ≤ 10
  · go_enter Tryd.func64, Tryd.ntmps64
    go_wp2_with fail
    refine (flowC _ _ (.inl h1)).mono ?_
    rintro e w1 ⟨rfl, hb⟩
    obtain ⟨hc, hf⟩ := bcell hb
    have hz : w.heap.size < w1.heap.size := by have := hb.size; simp at this; omega
    unfold shV at *
    go_wp2
    refine bodyPost_ret (v := shV (shT op)) (by simp [results, Tryd.results64, go_sem, hc]; rfl) rfl ⟨rfl, ?_⟩
    exact ((((((Below.refl _ _).alloc (Nat.le_refl _) _).trans (hb.mono (by simp))).setCell (Nat.le_refl _) _).setCell (Nat.le_refl _) _).setCell (Nat.le_refl _) _).setCell (Nat.le_refl _) _
  by_cases h2 : 63 ≤ op
  · go_enter Tryd.func64, Tryd.ntmps64
    go_wp2_with fail
    refine (flowC _ _ (.inr h2)).mono ?_
    rintro e w1 ⟨rfl, hb⟩
    obtain ⟨hc, hf⟩ := bcell hb
    have hz : w.heap.size < w1.heap.size := by have := hb.size; simp at this; omega
    unfold shV at *
    go_wp2
    refine bodyPost_ret (v := shV (shT op)) (by simp [results, Tryd.results64, go_sem, hc]; rfl) rfl ⟨rfl, ?_⟩
    exact ((((((Below.refl _ _).alloc (Nat.le_refl _) _).trans (hb.mono (by simp))).setCell (Nat.le_refl _) _).setCell (Nat.le_refl _) _).setCell (Nat.le_refl _) _).setCell (Nat.le_refl _) _
  by_cases h3 : op ≤ 21
  · have hk : Hid (op = 11 ∨ op = 12 ∨ op = 13 ∨ op = 14 ∨ op = 15 ∨ op = 16 ∨ op = 17 ∨ op = 18 ∨ op = 19 ∨ op = 20 ∨ op = 21) := (show (op = 11 ∨ op = 12 ∨ op = 13 ∨ op = 14 ∨ op = 15 ∨ op = 16 ∨ op = 17 ∨ op = 18 ∨ op = 19 ∨ op = 20 ∨ op = 21) by omega)
    go_enter Tryd.func64, Tryd.ntmps64
    go_wp2_with fail
    refine (moveC _ _ hk).mono ?_
    rintro e w1 ⟨rfl, hb⟩
    obtain ⟨hc, hf⟩ := bcell hb
    have hz : w.heap.size < w1.heap.size := by have := hb.size; simp at this; omega
    unfold shV at *
    go_wp2
    refine bodyPost_ret (v := shV (shT op)) (by simp [results, Tryd.results64, go_sem, hc]; rfl) rfl ⟨rfl, ?_⟩
    exact ((((((Below.refl _ _).alloc (Nat.le_refl _) _).trans (hb.mono (by simp))).setCell (Nat.le_refl _) _).setCell (Nat.le_refl _) _).setCell (Nat.le_refl _) _).setCell (Nat.le_refl _) _
  by_cases h4 : op ≤ 30
  · have hk : Hid (op = 22 ∨ op = 23 ∨ op = 24 ∨ op = 25 ∨ op = 26 ∨ op = 27 ∨ op = 28 ∨ op = 29 ∨ op = 30 ∨ op = 41 ∨ op = 42 ∨ op = 43 ∨ op = 44) := (show (op = 22 ∨ op = 23 ∨ op = 24 ∨ op = 25 ∨ op = 26 ∨ op = 27 ∨ op = 28 ∨ op = 29 ∨ op = 30 ∨ op = 41 ∨ op = 42 ∨ op = 43 ∨ op = 44) by omega)
    go_enter Tryd.func64, Tryd.ntmps64
    go_wp2_with fail
    refine (numberC _ _ hk).mono ?_
    rintro e w1 ⟨rfl, hb⟩
    obtain ⟨hc, hf⟩ := bcell hb
    have hz : w.heap.size < w1.heap.size := by have := hb.size; simp at this; omega
    unfold shV at *
    go_wp2
    refine bodyPost_ret (v := shV (shT op)) (by simp [results, Tryd.results64, go_sem, hc]; rfl) rfl ⟨rfl, ?_⟩
    exact ((((((Below.refl _ _).alloc (Nat.le_refl _) _).trans (hb.mono (by simp))).setCell (Nat.le_refl _) _).setCell (Nat.le_refl _) _).setCell (Nat.le_refl _) _).setCell (Nat.le_refl _) _
  by_cases h5 : 41 ≤ op ∧ op ≤ 44
  · have hk : Hid (op = 22 ∨ op = 23 ∨ op = 24 ∨ op = 25 ∨ op = 26 ∨ op = 27 ∨ op = 28 ∨ op = 29 ∨ op = 30 ∨ op = 41 ∨ op = 42 ∨ op = 43 ∨ op = 44) := (show (op = 22 ∨ op = 23 ∨ op = 24 ∨ op = 25 ∨ op = 26 ∨ op = 27 ∨ op = 28 ∨ op = 29 ∨ op = 30 ∨ op = 41 ∨ op = 42 ∨ op = 43 ∨ op = 44) by omega)
    obtain ⟨h5a, h5b⟩ := h5
    go_enter Tryd.func64, Tryd.ntmps64
    go_wp2_with fail
    refine (numberC _ _ hk).mono ?_
    rintro e w1 ⟨rfl, hb⟩
    obtain ⟨hc, hf⟩ := bcell hb
    have hz : w.heap.size < w1.heap.size := by have := hb.size; simp at this; omega
    unfold shV at *
    go_wp2
    refine bodyPost_ret (v := shV (shT op)) (by simp [results, Tryd.results64, go_sem, hc]; rfl) rfl ⟨rfl, ?_⟩
    exact ((((((Below.refl _ _).alloc (Nat.le_refl _) _).trans (hb.mono (by simp))).setCell (Nat.le_refl _) _).setCell (Nat.le_refl _) _).setCell (Nat.le_refl _) _).setCell (Nat.le_refl _) _
  by_cases h6 : op ≤ 40
  · have hk : Hid (op = 31 ∨ op = 32 ∨ op = 33 ∨ op = 34 ∨ op = 35 ∨ op = 36 ∨ op = 37 ∨ op = 38 ∨ op = 39 ∨ op = 40 ∨ op = 50 ∨ op = 51 ∨ op = 52 ∨ op = 53 ∨ op = 54 ∨ op = 55 ∨ op = 56 ∨ op = 57) := (show (op = 31 ∨ op = 32 ∨ op = 33 ∨ op = 34 ∨ op = 35 ∨ op = 36 ∨ op = 37 ∨ op = 38 ∨ op = 39 ∨ op = 40 ∨ op = 50 ∨ op = 51 ∨ op = 52 ∨ op = 53 ∨ op = 54 ∨ op = 55 ∨ op = 56 ∨ op = 57) by omega)
    clear h5
    go_enter Tryd.func64, Tryd.ntmps64
    go_wp2_with fail
    refine (wholeC _ _ hk).mono ?_
    rintro e w1 ⟨rfl, hb⟩
    obtain ⟨hc, hf⟩ := bcell hb
    have hz : w.heap.size < w1.heap.size := by have := hb.size; simp at this; omega
    unfold shV at *
    go_wp2
    refine bodyPost_ret (v := shV (shT op)) (by simp [results, Tryd.results64, go_sem, hc]; rfl) rfl ⟨rfl, ?_⟩
    exact ((((((Below.refl _ _).alloc (Nat.le_refl _) _).trans (hb.mono (by simp))).setCell (Nat.le_refl _) _).setCell (Nat.le_refl _) _).setCell (Nat.le_refl _) _).setCell (Nat.le_refl _) _
  by_cases h7 : 50 ≤ op ∧ op ≤ 57
  · have hk : Hid (op = 31 ∨ op = 32 ∨ op = 33 ∨ op = 34 ∨ op = 35 ∨ op = 36 ∨ op = 37 ∨ op = 38 ∨ op = 39 ∨ op = 40 ∨ op = 50 ∨ op = 51 ∨ op = 52 ∨ op = 53 ∨ op = 54 ∨ op = 55 ∨ op = 56 ∨ op = 57) := (show (op = 31 ∨ op = 32 ∨ op = 33 ∨ op = 34 ∨ op = 35 ∨ op = 36 ∨ op = 37 ∨ op = 38 ∨ op = 39 ∨ op = 40 ∨ op = 50 ∨ op = 51 ∨ op = 52 ∨ op = 53 ∨ op = 54 ∨ op = 55 ∨ op = 56 ∨ op = 57) by omega)
    obtain ⟨h7a, h7b⟩ := h7
    have h5c : 44 < op := by omega
    clear h5
    go_enter Tryd.func64, Tryd.ntmps64
    go_wp2_with fail
    refine (wholeC _ _ hk).mono ?_
    rintro e w1 ⟨rfl, hb⟩
    obtain ⟨hc, hf⟩ := bcell hb
    have hz : w.heap.size < w1.heap.size := by have := hb.size; simp at this; omega
    unfold shV at *
    go_wp2
    refine bodyPost_ret (v := shV (shT op)) (by simp [results, Tryd.results64, go_sem, hc]; rfl) rfl ⟨rfl, ?_⟩
    exact ((((((Below.refl _ _).alloc (Nat.le_refl _) _).trans (hb.mono (by simp))).setCell (Nat.le_refl _) _).setCell (Nat.le_refl _) _).setCell (Nat.le_refl _) _).setCell (Nat.le_refl _) _
  have hk : Hid (op = 45 ∨ op = 46 ∨ op = 47 ∨ op = 48 ∨ op = 49 ∨ op = 58 ∨ op = 59 ∨ op = 60 ∨ op = 61 ∨ op = 62) := (show (op = 45 ∨ op = 46 ∨ op = 47 ∨ op = 48 ∨ op = 49 ∨ op = 58 ∨ op = 59 ∨ op = 60 ∨ op = 61 ∨ op = 62) by omega)
  have h5c : 44 < op := by omega
  clear h5
  by_cases h8 : 50 ≤ op
  · have h8b : 57 < op := by omega
    clear h7
    go_enter Tryd.func64, Tryd.ntmps64
    go_wp2_with fail
    refine (halfC _ _ hk).mono ?_
    rintro e w1 ⟨rfl, hb⟩
    obtain ⟨hc, hf⟩ := bcell hb
    have hz : w.heap.size < w1.heap.size := by have := hb.size; simp at this; omega
    unfold shV at *
    go_wp2
    refine bodyPost_ret (v := shV (shT op)) (by simp [results, Tryd.results64, go_sem, hc]; rfl) rfl ⟨rfl, ?_⟩
    exact ((((((Below.refl _ _).alloc (Nat.le_refl _) _).trans (hb.mono (by simp))).setCell (Nat.le_refl _) _).setCell (Nat.le_refl _) _).setCell (Nat.le_refl _) _).setCell (Nat.le_refl _) _
  · clear h7
    go_enter Tryd.func64, Tryd.ntmps64
    go_wp2_with fail
    refine (halfC _ _ hk).mono ?_
    rintro e w1 ⟨rfl, hb⟩
    obtain ⟨hc, hf⟩ := bcell hb
    have hz : w.heap.size < w1.heap.size := by have := hb.size; simp at this; omega
    unfold shV at *
    go_wp2
    refine bodyPost_ret (v := shV (shT op)) (by simp [results, Tryd.results64, go_sem, hc]; rfl) rfl ⟨rfl, ?_⟩
    exact ((((((Below.refl _ _).alloc (Nat.le_refl _) _).trans (hb.mono (by simp))).setCell (Nat.le_refl _) _).setCell (Nat.le_refl _) _).setCell (Nat.le_refl _) _).setCell (Nat.le_refl _) _

set_option maxHeartbeats 1000000 in
theorem shapeOK (op : Int) (w : World) (h0 : 1 ≤ op) (h1 : op ≤ 64) :
    Calls Tryd.prog 24 #[.int .i64 op] w fun e w' => e = .returned (.tuple #[shV (shT op), .int .i64 0]) ∧ Below w.heap.size w w' := by
  go_enter Tryd.func24, Tryd.ntmps24
  go_wp2_with fail
  refine (inside_ok _ op 1 64 _ h0 h1).mono ?_
  rintro e w1 ⟨rfl, rfl⟩
  go_wp2_with fail
  refine (shapeC op _).mono ?_
  rintro e w1 ⟨rfl, hb⟩
  obtain ⟨hc, hf⟩ := bcell hb
  have hz : w.heap.size < w1.heap.size := by have := hb.size; simp at this; omega
  unfold shV at *
  go_wp2
  refine bodyPost_ret (v := .tuple #[shV (shT op), .int .i64 0]) (by simp [results, Tryd.results24, go_sem, hc]; rfl) rfl ⟨rfl, ?_⟩
  exact ((((((Below.refl _ _).alloc (Nat.le_refl _) _).trans (hb.mono (by simp))).setCell (Nat.le_refl _) _).setCell (Nat.le_refl _) _).setCell (Nat.le_refl _) _).setCell (Nat.le_refl _) _

set_option maxHeartbeats 1000000 in
theorem shapeNo (op : Int) (w : World) (hL : Laid w) (h : op < 1 ∨ 64 < op) :
    Calls Tryd.prog 24 #[.int .i64 op] w fun e w' => e = .returned (.tuple #[shV (0, 0, 0, 0), .int .i64 4]) ∧ Below w.heap.size w w' := by
  obtain ⟨a0, a1, hL⟩ := hL
  go_enter Tryd.func24, Tryd.ntmps24
  go_wp2_with fail
  refine (inside_no _ op 1 64 _ a0 a1 (hL.below ((Below.refl _ _).alloc (Nat.le_refl _) _)) h).mono ?_
  rintro e w1 ⟨rfl, rfl⟩
  go_wp2_with fail
  refine (code_range _ _ a0 a1 (hL.below ((Below.refl _ _).alloc (Nat.le_refl _) _))).mono ?_
  rintro e w1 ⟨rfl, hb⟩
  clear hL h
  obtain ⟨hc, hf⟩ := bcell hb
  have hz : w.heap.size < w1.heap.size := by have := hb.size; simp at this; omega
  go_wp2
  refine bodyPost_ret (v := .tuple #[shV (0, 0, 0, 0), .int .i64 4]) (by simp [results, Tryd.results24, go_sem, hc]; rfl) rfl ⟨rfl, ?_⟩
  exact ((((((Below.refl _ _).alloc (Nat.le_refl _) _).trans (hb.mono (by simp))).setCell (Nat.le_refl _) _).setCell (Nat.le_refl _) _).setCell (Nat.le_refl _) _).setCell (Nat.le_refl _) _
end Go.Proofs.YtjpdjalhhokghaaDoor

namespace Go.Proofs.YtjpdjalhhokghaaDoor

theorem i64_and_mask (a : Int) (n : Nat) (hn : n ≤ 62) : bits .and .i64 a (2 ^ n - 1) = a % 2 ^ n := by
  have hp : (2 : Nat) ^ n ≤ 2 ^ 62 := Nat.pow_le_pow_right (by decide) hn
  have hp1 : 0 < (2 : Nat) ^ n := Nat.pow_pos (by decide)
  have h62 : (2 : Nat) ^ 62 = 4611686018427387904 := by decide
  have e0 : ((2 : Int) ^ n - 1) = ((2 ^ n - 1 : Nat) : Int) := by
    rw [Int.natCast_sub hp1]
    simp
  have hm : (BitVec.ofInt 64 ((2 : Int) ^ n - 1)).toNat = 2 ^ n - 1 := by
    rw [e0, ofInt_u64 _ (by omega)]
  have key : (BitVec.ofInt 64 a &&& BitVec.ofInt 64 ((2 : Int) ^ n - 1)).toNat = (a % ((2 ^ 64 : Nat) : Int)).toNat % 2 ^ n := by
    rw [BitVec.toNat_and, BitVec.toNat_ofInt, hm, Nat.and_two_pow_sub_one_eq_mod]
  show IntKind.i64.wrap ((BitVec.ofInt 64 a &&& BitVec.ofInt 64 ((2 : Int) ^ n - 1)).toNat : Nat) = _
  have h0 : 0 ≤ a % ((2 ^ 64 : Nat) : Int) := Int.emod_nonneg _ (by decide)
  have hd : ((2 : Int) ^ n) ∣ ((2 ^ 64 : Nat) : Int) := by
    have : (2 : Nat) ^ n ∣ 2 ^ 64 := Nat.pow_dvd_pow 2 (by omega)
    have := Int.natCast_dvd_natCast.2 this
    simpa using this
  have hb := Nat.mod_lt (a % ((2 ^ 64 : Nat) : Int)).toNat hp1
  rw [key, IntWalk.i64_in _ (by omega), Int.natCast_emod, Int.toNat_of_nonneg h0]
  have e2 : ((2 ^ n : Nat) : Int) = 2 ^ n := by simp
  rw [e2, Int.emod_emod_of_dvd _ hd]

theorem or_gap (k n x y : Nat) (hx : x % 2 ^ (k + n) < 2 ^ k) (hy : y < 2 ^ (k + n)) (hz : y % 2 ^ k = 0) : x ||| y = x + y := by
  have hq := nat_join k y (x % 2 ^ (k + n)) hz hx
  have hc : y = 2 ^ k * (y / 2 ^ k) := by have := Nat.div_add_mod y (2 ^ k); omega
  have hlt : y / 2 ^ k < 2 ^ n := by
    rw [Nat.div_lt_iff_lt_mul (Nat.pow_pos (by decide)), ← Nat.pow_add, Nat.add_comm n k]
    exact hy
  have hle : 2 ^ k * (y / 2 ^ k + 1) ≤ 2 ^ k * 2 ^ n := Nat.mul_le_mul_left _ hlt
  rw [← Nat.pow_add, Nat.mul_add, ← hc, Nat.mul_one] at hle
  have hsum : y + x % 2 ^ (k + n) < 2 ^ (k + n) := by omega
  have hxx : 2 ^ (k + n) * (x / 2 ^ (k + n)) + x % 2 ^ (k + n) = x := Nat.div_add_mod _ _
  have j1 := nat_join (k + n) (2 ^ (k + n) * (x / 2 ^ (k + n))) (x % 2 ^ (k + n)) (Nat.mul_mod_right _ _) (Nat.mod_lt _ (Nat.pow_pos (by decide)))
  have j2 := nat_join (k + n) (2 ^ (k + n) * (x / 2 ^ (k + n))) (y + x % 2 ^ (k + n)) (Nat.mul_mod_right _ _) hsum
  have e : x ||| y = 2 ^ (k + n) * (x / 2 ^ (k + n)) ||| (y ||| x % 2 ^ (k + n)) := by
    rw [Nat.or_comm y, ← Nat.or_assoc, j1, hxx]
  rw [e, hq, j2]
  omega

theorem i64_or_nat (a b : Nat) (ha : a < 9223372036854775808) (hb : b < 9223372036854775808) : bits .or .i64 (a : Int) (b : Int) = ((a ||| b : Nat) : Int) := by
  have hx : a ||| b < 2 ^ 63 := Nat.or_lt_two_pow (by omega) (by omega)
  show IntKind.i64.wrap ((BitVec.ofInt 64 (a : Int) ||| BitVec.ofInt 64 (b : Int)).toNat : Int) = _
  rw [BitVec.toNat_or, ofInt_u64 a (by omega), ofInt_u64 b (by omega), IntWalk.i64_in _ (by omega)]

/-- Two numbers without a common bit: y lies in the bits k to k + n - 1, and x has none of these. -/
theorem i64_or_gap (k n : Nat) (A B : Int) (hA : A = 2 ^ k) (hB : B = 2 ^ (k + n)) (x y : Int) (x0 : 0 ≤ x) (x1 : x < 9223372036854775808) (hx : x % B < A) (y0 : 0 ≤ y) (y1 : y < B) (hz : y % A = 0) (hkn : k + n ≤ 63) : bits .or .i64 x y = x + y := by
  obtain ⟨x, rfl⟩ := Int.eq_ofNat_of_zero_le x0
  obtain ⟨y, rfl⟩ := Int.eq_ofNat_of_zero_le y0
  have eA : A = ((2 ^ k : Nat) : Int) := by rw [hA]; simp
  have eB : B = ((2 ^ (k + n) : Nat) : Int) := by rw [hB]; simp
  have hp : (2 : Nat) ^ (k + n) ≤ 2 ^ 63 := Nat.pow_le_pow_right (by decide) hkn
  have h63 : (2 : Nat) ^ 63 = 9223372036854775808 := by decide
  rw [eA, eB] at hx
  rw [eB] at y1
  rw [eA] at hz
  have hx' : x % 2 ^ (k + n) < 2 ^ k := by exact_mod_cast hx
  have hz' : y % 2 ^ k = 0 := by exact_mod_cast hz
  rw [i64_or_nat x y (by omega) (by omega), or_gap k n x y hx' (by omega) hz']
  simp
end Go.Proofs.YtjpdjalhhokghaaDoor
