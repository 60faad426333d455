/- Which word is an instruction of which shape: plain. The bits of a word that are alike in all instructions of one Op: contracts. -/
import Derived.Test.YtjpdjalhhokghaaDoorGXEncode0
import Derived.Test.YtjpdjalhhokghaaDoorGXInstrOK7
namespace Go.Proofs.YtjpdjalhhokghaaDoor

theorem and_at (w n k : Nat) : w &&& ((2 ^ n - 1) * 2 ^ k) = w / 2 ^ k % 2 ^ n * 2 ^ k := by
  apply Nat.eq_of_testBit_eq
  intro i
  rw [Nat.testBit_and, ← Nat.shiftLeft_eq, ← Nat.shiftLeft_eq, Nat.testBit_shiftLeft, Nat.testBit_shiftLeft, Nat.testBit_two_pow_sub_one, Nat.testBit_mod_two_pow, ← Nat.shiftRight_eq_div_pow, Nat.testBit_shiftRight]
  by_cases h : k ≤ i
  · have e : k + (i - k) = i := by omega
    rw [e]
    simp [h, Bool.and_comm]
  · simp [h]
theorem and_split (w a b : Nat) (h : a ||| b = a + b) : w &&& (a + b) = (w &&& a) ||| (w &&& b) := by
  rw [← h, Nat.and_or_distrib_left]
theorem i64_and_nat (a b : Nat) (ha : a < 4294967296) (hb : b < 4294967296) : bits .and .i64 (a : Int) (b : Int) = ((a &&& b : Nat) : Int) := by
  have hx : a &&& b < 2 ^ 32 := Nat.and_lt_two_pow _ (by omega)
  show IntKind.i64.wrap ((BitVec.ofInt 64 (a : Int) &&& BitVec.ofInt 64 (b : Int)).toNat : Int) = _
  rw [BitVec.toNat_and, ofInt_u64 a (by omega), ofInt_u64 b (by omega), IntWalk.i64_in _ (by omega)]

/-- The word's bits that are fixed in a form. -/
theorem and_127 (w : Nat) (_h : w < 4294967296) : bits .and .i64 (w : Int) 127 = ((w % 128 : Nat) : Int) := by
  have := i64_and_mask (w : Int) 7 (by decide)
  have e : bits .and .i64 (w : Int) 127 = (w : Int) % 128 := this
  rw [e]
  omega
theorem and_28799 (w : Nat) (h : w < 4294967296) : bits .and .i64 (w : Int) 28799 = ((w % 128 + w / 4096 % 8 * 4096 : Nat) : Int) := by
  have e := i64_and_nat w 28799 h (by decide)
  have e2 : w &&& 28799 = w % 128 + w / 4096 % 8 * 4096 := by
    rw [show 28799 = 127 + 7 * 4096 by decide, and_split w 127 (7 * 4096) (by decide)]
    have a1 : w &&& 127 = w % 128 := Nat.and_two_pow_sub_one_eq_mod w 7
    have a2 : w &&& (7 * 4096) = w / 4096 % 8 * 4096 := and_at w 3 12
    rw [a1, a2, or_gap 12 3 (w % 128) (w / 4096 % 8 * 4096) (by omega) (by omega) (by omega)]
  rw [e2] at e
  exact e
theorem and_4227887231 (w : Nat) (h : w < 4294967296) : bits .and .i64 (w : Int) 4227887231 = ((w % 128 + w / 4096 % 8 * 4096 + w / 67108864 * 67108864 : Nat) : Int) := by
  have e := i64_and_nat w 4227887231 h (by decide)
  have e2 : w &&& 4227887231 = w % 128 + w / 4096 % 8 * 4096 + w / 67108864 * 67108864 := by
    rw [show 4227887231 = 127 + 7 * 4096 + 63 * 67108864 by decide, and_split w (127 + 7 * 4096) (63 * 67108864) (by decide), and_split w 127 (7 * 4096) (by decide)]
    have a1 : w &&& 127 = w % 128 := Nat.and_two_pow_sub_one_eq_mod w 7
    have a2 : w &&& (7 * 4096) = w / 4096 % 8 * 4096 := and_at w 3 12
    have a3 : w &&& (63 * 67108864) = w / 67108864 % 64 * 67108864 := and_at w 6 26
    have a4 : w / 67108864 % 64 = w / 67108864 := by omega
    rw [a1, a2, a3, a4, or_gap 12 3 (w % 128) (w / 4096 % 8 * 4096) (by omega) (by omega) (by omega)]
    have p : w % 128 + w / 4096 % 8 * 4096 < 67108864 := by omega
    have q : w / 67108864 < 64 := by omega
    generalize w % 128 + w / 4096 % 8 * 4096 = x at *
    generalize w / 67108864 = y at *
    rw [or_gap 26 6 x (y * 67108864) (by omega) (by omega) (by omega)]
  rw [e2] at e
  exact e
theorem and_4261441663 (w : Nat) (h : w < 4294967296) : bits .and .i64 (w : Int) 4261441663 = ((w % 128 + w / 4096 % 8 * 4096 + w / 33554432 * 33554432 : Nat) : Int) := by
  have e := i64_and_nat w 4261441663 h (by decide)
  have e2 : w &&& 4261441663 = w % 128 + w / 4096 % 8 * 4096 + w / 33554432 * 33554432 := by
    rw [show 4261441663 = 127 + 7 * 4096 + 127 * 33554432 by decide, and_split w (127 + 7 * 4096) (127 * 33554432) (by decide), and_split w 127 (7 * 4096) (by decide)]
    have a1 : w &&& 127 = w % 128 := Nat.and_two_pow_sub_one_eq_mod w 7
    have a2 : w &&& (7 * 4096) = w / 4096 % 8 * 4096 := and_at w 3 12
    have a3 : w &&& (127 * 33554432) = w / 33554432 % 128 * 33554432 := and_at w 7 25
    have a4 : w / 33554432 % 128 = w / 33554432 := by omega
    rw [a1, a2, a3, a4, or_gap 12 3 (w % 128) (w / 4096 % 8 * 4096) (by omega) (by omega) (by omega)]
    have p : w % 128 + w / 4096 % 8 * 4096 < 33554432 := by omega
    have q : w / 33554432 < 128 := by omega
    generalize w % 128 + w / 4096 % 8 * 4096 = x at *
    generalize w / 33554432 = y at *
    rw [or_gap 25 7 x (y * 33554432) (by omega) (by omega) (by omega)]
  rw [e2] at e
  exact e
theorem and_all (w : Nat) (h : w < 4294967296) : bits .and .i64 (w : Int) 4294967295 = (w : Int) := by
  have := i64_and_mask (w : Int) 32 (by decide)
  have e : bits .and .i64 (w : Int) 4294967295 = (w : Int) % 4294967296 := this
  rw [e]
  omega

/-- Is a word of a shape? -/
def hitI (f c g h w : Int) : Prop :=
  if f = 1 ∨ f = 2 then w % 128 = c
  else if f = 3 ∨ f = 4 ∨ f = 5 then w % 128 = c ∧ w / 4096 % 8 = g
  else if f = 6 then w % 128 = c ∧ w / 4096 % 8 = g ∧ w / 67108864 = h / 2
  else if f = 7 ∨ f = 8 then w % 128 = c ∧ w / 4096 % 8 = g ∧ w / 33554432 = h
  else w = c + g * 4096 + h * 1048576
end Go.Proofs.YtjpdjalhhokghaaDoor

namespace Go.Proofs.YtjpdjalhhokghaaDoor
open Go.RowKit
set_option linter.unusedVariables false

theorem low3 (w : World) : Calls Tryd.prog 103 #[.int .i64 3] w fun e w' => e = .returned (.int .i64 7) ∧ w' = w := by
  go_enter Tryd.func103, Tryd.ntmps103
  go_wp2
  go_ret
  exact ⟨rfl, rfl⟩
theorem low32 (w : World) : Calls Tryd.prog 103 #[.int .i64 32] w fun e w' => e = .returned (.int .i64 4294967295) ∧ w' = w := by
  go_enter Tryd.func103, Tryd.ntmps103
  go_wp2
  go_ret
  exact ⟨rfl, rfl⟩
/-- The fixed bits of a form. -/
def fixB (f : Int) : Int := if f = 1 then 127 else if f = 2 then 127 else if f = 3 then 28799 else if f = 4 then 28799 else if f = 5 then 28799 else if f = 6 then 4227887231 else if f = 7 then 4261441663 else if f = 8 then 4261441663 else 4294967295
set_option maxRecDepth 100000 in
theorem fixB1 (w : World) : Calls Tryd.prog 75 #[.int .i64 1] w fun e w' => e = .returned (.int .i64 127) ∧ w' = w := by
  go_enter Tryd.func75, Tryd.ntmps75
  go_wp2_with (go_at_call 103; first | (refine (low7 _).mono ?_; rintro e w1 ⟨rfl, rfl⟩) | (refine (low3 _).mono ?_; rintro e w1 ⟨rfl, rfl⟩) | (refine (low6 _).mono ?_; rintro e w1 ⟨rfl, rfl⟩) | (refine (low32 _).mono ?_; rintro e w1 ⟨rfl, rfl⟩))
  go_ret
  exact ⟨rfl, rfl⟩
set_option maxRecDepth 100000 in
theorem fixB2 (w : World) : Calls Tryd.prog 75 #[.int .i64 2] w fun e w' => e = .returned (.int .i64 127) ∧ w' = w := by
  go_enter Tryd.func75, Tryd.ntmps75
  go_wp2_with (go_at_call 103; first | (refine (low7 _).mono ?_; rintro e w1 ⟨rfl, rfl⟩) | (refine (low3 _).mono ?_; rintro e w1 ⟨rfl, rfl⟩) | (refine (low6 _).mono ?_; rintro e w1 ⟨rfl, rfl⟩) | (refine (low32 _).mono ?_; rintro e w1 ⟨rfl, rfl⟩))
  go_ret
  exact ⟨rfl, rfl⟩
set_option maxRecDepth 100000 in
theorem fixB3 (w : World) : Calls Tryd.prog 75 #[.int .i64 3] w fun e w' => e = .returned (.int .i64 28799) ∧ w' = w := by
  go_enter Tryd.func75, Tryd.ntmps75
  go_wp2_with (go_at_call 103; first | (refine (low7 _).mono ?_; rintro e w1 ⟨rfl, rfl⟩) | (refine (low3 _).mono ?_; rintro e w1 ⟨rfl, rfl⟩) | (refine (low6 _).mono ?_; rintro e w1 ⟨rfl, rfl⟩) | (refine (low32 _).mono ?_; rintro e w1 ⟨rfl, rfl⟩))
  go_ret
  exact ⟨rfl, rfl⟩
set_option maxRecDepth 100000 in
theorem fixB4 (w : World) : Calls Tryd.prog 75 #[.int .i64 4] w fun e w' => e = .returned (.int .i64 28799) ∧ w' = w := by
  go_enter Tryd.func75, Tryd.ntmps75
  go_wp2_with (go_at_call 103; first | (refine (low7 _).mono ?_; rintro e w1 ⟨rfl, rfl⟩) | (refine (low3 _).mono ?_; rintro e w1 ⟨rfl, rfl⟩) | (refine (low6 _).mono ?_; rintro e w1 ⟨rfl, rfl⟩) | (refine (low32 _).mono ?_; rintro e w1 ⟨rfl, rfl⟩))
  go_ret
  exact ⟨rfl, rfl⟩
set_option maxRecDepth 100000 in
theorem fixB5 (w : World) : Calls Tryd.prog 75 #[.int .i64 5] w fun e w' => e = .returned (.int .i64 28799) ∧ w' = w := by
  go_enter Tryd.func75, Tryd.ntmps75
  go_wp2_with (go_at_call 103; first | (refine (low7 _).mono ?_; rintro e w1 ⟨rfl, rfl⟩) | (refine (low3 _).mono ?_; rintro e w1 ⟨rfl, rfl⟩) | (refine (low6 _).mono ?_; rintro e w1 ⟨rfl, rfl⟩) | (refine (low32 _).mono ?_; rintro e w1 ⟨rfl, rfl⟩))
  go_ret
  exact ⟨rfl, rfl⟩
set_option maxRecDepth 100000 in
theorem fixB6 (w : World) : Calls Tryd.prog 75 #[.int .i64 6] w fun e w' => e = .returned (.int .i64 4227887231) ∧ w' = w := by
  go_enter Tryd.func75, Tryd.ntmps75
  go_wp2_with (go_at_call 103; first | (refine (low7 _).mono ?_; rintro e w1 ⟨rfl, rfl⟩) | (refine (low3 _).mono ?_; rintro e w1 ⟨rfl, rfl⟩) | (refine (low6 _).mono ?_; rintro e w1 ⟨rfl, rfl⟩) | (refine (low32 _).mono ?_; rintro e w1 ⟨rfl, rfl⟩))
  go_ret
  exact ⟨rfl, rfl⟩
set_option maxRecDepth 100000 in
theorem fixB7 (w : World) : Calls Tryd.prog 75 #[.int .i64 7] w fun e w' => e = .returned (.int .i64 4261441663) ∧ w' = w := by
  go_enter Tryd.func75, Tryd.ntmps75
  go_wp2_with (go_at_call 103; first | (refine (low7 _).mono ?_; rintro e w1 ⟨rfl, rfl⟩) | (refine (low3 _).mono ?_; rintro e w1 ⟨rfl, rfl⟩) | (refine (low6 _).mono ?_; rintro e w1 ⟨rfl, rfl⟩) | (refine (low32 _).mono ?_; rintro e w1 ⟨rfl, rfl⟩))
  go_ret
  exact ⟨rfl, rfl⟩
set_option maxRecDepth 100000 in
theorem fixB8 (w : World) : Calls Tryd.prog 75 #[.int .i64 8] w fun e w' => e = .returned (.int .i64 4261441663) ∧ w' = w := by
  go_enter Tryd.func75, Tryd.ntmps75
  go_wp2_with (go_at_call 103; first | (refine (low7 _).mono ?_; rintro e w1 ⟨rfl, rfl⟩) | (refine (low3 _).mono ?_; rintro e w1 ⟨rfl, rfl⟩) | (refine (low6 _).mono ?_; rintro e w1 ⟨rfl, rfl⟩) | (refine (low32 _).mono ?_; rintro e w1 ⟨rfl, rfl⟩))
  go_ret
  exact ⟨rfl, rfl⟩
set_option maxRecDepth 100000 in
theorem fixB9 (w : World) : Calls Tryd.prog 75 #[.int .i64 9] w fun e w' => e = .returned (.int .i64 4294967295) ∧ w' = w := by
  go_enter Tryd.func75, Tryd.ntmps75
  go_wp2_with (go_at_call 103; first | (refine (low7 _).mono ?_; rintro e w1 ⟨rfl, rfl⟩) | (refine (low3 _).mono ?_; rintro e w1 ⟨rfl, rfl⟩) | (refine (low6 _).mono ?_; rintro e w1 ⟨rfl, rfl⟩) | (refine (low32 _).mono ?_; rintro e w1 ⟨rfl, rfl⟩))
  go_ret
  exact ⟨rfl, rfl⟩
theorem fixBC (f : Int) (h0 : 1 ≤ f) (h1 : f ≤ 9) (w : World) : Calls Tryd.prog 75 #[.int .i64 f] w fun e w' => e = .returned (.int .i64 (fixB f)) ∧ w' = w := by
  rcases (show f = 1 ∨ f = 2 ∨ f = 3 ∨ f = 4 ∨ f = 5 ∨ f = 6 ∨ f = 7 ∨ f = 8 ∨ f = 9 by omega) with rfl | rfl | rfl | rfl | rfl | rfl | rfl | rfl | rfl
  · exact fixB1 w
  · exact fixB2 w
  · exact fixB3 w
  · exact fixB4 w
  · exact fixB5 w
  · exact fixB6 w
  · exact fixB7 w
  · exact fixB8 w
  · exact fixB9 w
end Go.Proofs.YtjpdjalhhokghaaDoor
