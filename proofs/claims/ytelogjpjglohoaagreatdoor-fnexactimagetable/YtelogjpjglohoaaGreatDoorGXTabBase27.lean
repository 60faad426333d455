/- InstrOK, told fields '21i'. InstrOK, told fields 'd12'. InstrOK, told fields ''. InstrOK of the program: the contract. Encode of the program: the contract. An instruction's word, by the model: the steps. An instruction's word, by the model: form 1. An instruction's word, by the model: form 2. An instruction's word, by the model: form 3. An instruction's word, by the model: form 4. -/
import Derived.Test.YtelogjpjglohoaaGreatDoorGXTabBase18
import Derived.Test.YtelogjpjglohoaaGreatDoorGXTabBase26
import Derived.Test.YtelogjpjglohoaaGreatDoorGXTabBase20
import Derived.Test.YtelogjpjglohoaaGreatDoorGXTabBase22
import Derived.Deep.RegionHeld3
import Derived.Test.YtelogjpjglohoaaGreatDoorGXTabBase24
import Derived.Test.YtelogjpjglohoaaGreatDoorGXTabBase25
namespace Go.Proofs.YtelogjpjglohoaaGreatDoor
open Go.RowKit
set_option linter.unusedVariables false

end Go.Proofs.YtelogjpjglohoaaGreatDoor

namespace Go.Proofs.YtelogjpjglohoaaGreatDoor
open Go.RowKit
set_option linter.unusedVariables false

end Go.Proofs.YtelogjpjglohoaaGreatDoor

namespace Go.Proofs.YtelogjpjglohoaaGreatDoor
open Go.RowKit
set_option linter.unusedVariables false

end Go.Proofs.YtelogjpjglohoaaGreatDoor

namespace Go.Proofs.YtelogjpjglohoaaGreatDoor
open Go.RowKit
set_option linter.unusedVariables false

end Go.Proofs.YtelogjpjglohoaaGreatDoor

namespace Go.Proofs.YtelogjpjglohoaaGreatDoor
open Go.RowKit
set_option linter.unusedVariables false

theorem right_parts {f rd r1 r2 im : Int} (h0 : 1 ≤ f) (h1 : f ≤ 9) (h : rightF f rd r1 r2 im = true) :
    (regB rd = true ∧ regB r1 = true ∧ regB r2 = true) ∧ (f = 4 ∨ f = 5 ∨ f = 9 → rd = 0) ∧ (f = 1 ∨ f = 2 ∨ f = 9 → r1 = 0) ∧ (¬ (f = 4 ∨ f = 5 ∨ f = 8) → r2 = 0) := by
  have hz : ∀ r : Int, (r == 0) = true → regB r = true ∧ r = 0 := fun r e => by
    have := eq_of_beq e
    subst this
    exact ⟨rfl, rfl⟩
  rcases (show f = 1 ∨ f = 2 ∨ f = 3 ∨ f = 4 ∨ f = 5 ∨ f = 6 ∨ f = 7 ∨ f = 8 ∨ f = 9 by omega) with rfl | rfl | rfl | rfl | rfl | rfl | rfl | rfl | rfl
  all_goals
    simp [rightF] at h
    simp
    try omega
  all_goals simp_all [regB]

theorem shapeCs (op f c g h : Int) (w : World) (hs : shT op = (f, c, g, h)) :
    Calls Tryz.prog 126 #[.int .i64 op] w fun e w' => e = .returned (.agg #[.int .i64 f, .int .i64 c, .int .i64 g, .int .i64 h]) ∧ Below w.heap.size w w' := by
  have := shapeC op w
  rw [hs] at this
  exact this

end Go.Proofs.YtelogjpjglohoaaGreatDoor

namespace Go.Proofs.YtelogjpjglohoaaGreatDoor
open Go.RowKit
set_option linter.unusedVariables false

/-- A number laid at a free place, all in numbers. -/
theorem putN (word v R low count : Int) (l c : Nat) (A B : Int) (w : World) (hl : (l : Int) = low) (hc : (c : Int) = count) (hA : A = 2 ^ l) (hB : B = 2 ^ c) (w0 : 0 ≤ word) (w1 : word < 4294967296) (h : l + c ≤ 32)
    (hz : word / A % B = 0) (hR : R = word + v % B * A) :
    Calls Tryz.prog 91 #[.int .i64 word, .int .i64 low, .int .i64 count, .int .i64 v] w fun e w' => e = .returned (.int .i64 R) ∧ w' = w := by
  subst hl hc hA hB hR
  exact putC word v l c w w0 w1 h hz

theorem sh6 (op : Int) (h0 : 1 ≤ op) (h1 : op ≤ 64) : (shT op).1 = 6 → (shT op).2.2.2 % 2 = 0 := by
  obtain ⟨k, rfl⟩ := Int.eq_ofNat_of_zero_le (show 0 ≤ op by omega)
  have hk : k < 65 := by omega
  have hk0 : 1 ≤ k := by omega
  have key : ∀ j : Nat, j < 65 → 1 ≤ j → (shT (j : Int)).1 = 6 → (shT (j : Int)).2.2.2 % 2 = 0 := by decide +kernel
  exact key k hk hk0
end Go.Proofs.YtelogjpjglohoaaGreatDoor

namespace Go.Proofs.YtelogjpjglohoaaGreatDoor
open Go.RowKit
set_option linter.unusedVariables false

set_option maxRecDepth 100000 in
set_option maxHeartbeats 8000000 in
theorem ens1 (op rd im c g h : Int) (hs : Hid (shT op = (1, c, g, h))) (k0 : 0 ≤ c) (k1 : c < 128) (g0 : 0 ≤ g) (g1 : g < 8) (h0 : 0 ≤ h) (h1 : h < 64) (rd0 : 0 ≤ rd) (rd1 : rd ≤ 31) (m0 : -2147483648 ≤ im) (m1 : im ≤ 2147483647) (hm : im % 4096 = 0) (sg : g = 0) (sh : h = 0) (w : World) :
    Calls Tryz.prog 72 #[.agg #[.int .i64 op, .int .i64 rd, .int .i64 0, .int .i64 0, .int .i64 im]] w fun e w' => e = .returned (.int .i64 (encW 1 c g h rd 0 0 im)) ∧ Below w.heap.size w w' := by
  obtain ⟨y, hy⟩ : ∃ y, y = im / 4096 := ⟨_, rfl⟩
  have HY : Hid (y = im / 4096) := hy
  have ht : im.tdiv 4096 = y := by
    have := (tm0 im 4096).2 hm
    have h2 := Int.mul_tdiv_add_tmod im 4096
    omega
  have hwy : wrap64 y = y := wrap_in y (by omega) (by omega)
  clear hy m0 m1
  subst sh
  subst sg
  clear hm
  go_enter Tryz.func72, Tryz.ntmps72
  go_wp2_with fail
  refine (specShs op 1 c 0 0 _ hs.out).mono ?_
  rintro e w1 ⟨rfl, hb1⟩
  obtain ⟨hc1, hf1⟩ := bcell hb1
  have hz1 : w.heap.size < w1.heap.size := by have := hb1.size; simp at this; omega
  have HB1 : Hid (Below w.heap.size w w1) := ((Below.refl _ _).alloc (Nat.le_refl _) _).trans (hb1.mono (by simp))
  clear hs hb1
  go_wp2_with fail
  refine (putN (c) rd (c + rd * 128) 7 5 7 5 128 32 _ rfl rfl (by decide) (by decide) (by omega) (by omega) (by decide) (by omega) (by omega)).mono ?_
  rintro e w2 ⟨rfl, rfl⟩
  go_wp2_with fail
  refine (putN (c + rd * 128) y (c + rd * 128 + y % 1048576 * 4096) 12 20 12 20 4096 1048576 _ rfl rfl (by decide) (by decide) (by omega) (by omega) (by decide) (by omega) (by omega)).mono ?_
  rintro e w2 ⟨rfl, rfl⟩
  go_wp2
  go_ret
  refine ⟨congrArg (fun x => Ending.returned (.int .i64 x)) ?_, HB1.out.alloc (by omega) _⟩
  show c + rd * 128 + y % 1048576 * 4096 = fixW 1 c 0 0 + rd * 128 + 0 * 32768 + 0 * 1048576 + layF 1 im
  have l : layF 1 im = im / 4096 % 1048576 * 4096 := rfl
  have e : fixW 1 c 0 0 = c + 0 * 4096 + 0 * 33554432 := rfl
  rw [l, e, HY.out]
  omega
end Go.Proofs.YtelogjpjglohoaaGreatDoor

namespace Go.Proofs.YtelogjpjglohoaaGreatDoor
open Go.RowKit
set_option linter.unusedVariables false

set_option maxRecDepth 100000 in
set_option maxHeartbeats 8000000 in
theorem ens2 (op rd im c g h : Int) (hs : Hid (shT op = (2, c, g, h))) (k0 : 0 ≤ c) (k1 : c < 128) (g0 : 0 ≤ g) (g1 : g < 8) (h0 : 0 ≤ h) (h1 : h < 64) (rd0 : 0 ≤ rd) (rd1 : rd ≤ 31) (sg : g = 0) (sh : h = 0) (w : World) :
    Calls Tryz.prog 72 #[.agg #[.int .i64 op, .int .i64 rd, .int .i64 0, .int .i64 0, .int .i64 im]] w fun e w' => e = .returned (.int .i64 (encW 2 c g h rd 0 0 im)) ∧ Below w.heap.size w w' := by
  subst sh
  subst sg
  go_enter Tryz.func72, Tryz.ntmps72
  go_wp2_with fail
  refine (specShs op 2 c 0 0 _ hs.out).mono ?_
  rintro e w1 ⟨rfl, hb1⟩
  obtain ⟨hc1, hf1⟩ := bcell hb1
  have hz1 : w.heap.size < w1.heap.size := by have := hb1.size; simp at this; omega
  have HB1 : Hid (Below w.heap.size w w1) := ((Below.refl _ _).alloc (Nat.le_refl _) _).trans (hb1.mono (by simp))
  clear hs hb1
  go_wp2_with fail
  refine (putN (c) rd (c + rd * 128) 7 5 7 5 128 32 _ rfl rfl (by decide) (by decide) (by omega) (by omega) (by decide) (by omega) (by omega)).mono ?_
  rintro e w2 ⟨rfl, rfl⟩
  have hst := fun (k : Nat) (h0 : 1 ≤ k) (h1 : k ≤ 20) => stepJ im (c + rd * 128) k (by omega) (by omega) h0 h1
  have HST : Hid (∀ k : Nat, 1 ≤ k → k ≤ 20 → 0 ≤ layF 2 (im % 2 ^ k) ∧ c + rd * 128 + layF 2 (im % 2 ^ k) < 4294967296 ∧ (c + rd * 128 + layF 2 (im % 2 ^ k)) / 2 ^ atJ k % 2 ^ 1 = 0 ∧
    layF 2 (im % 2 ^ (k + 1)) = layF 2 (im % 2 ^ k) + bitT im k % 2 ^ 1 * 2 ^ atJ k) := hst
  clear hst
  have HN : Hid (0 ≤ c + rd * 128) := (by omega : 0 ≤ c + rd * 128)
  have hlast : Hid (c + rd * 128 + layF 2 im = encW 2 c 0 0 rd 0 0 im) := by
    have e : fixW 2 c 0 0 = c + 0 * 4096 + 0 * 33554432 := rfl
    show c + rd * 128 + layF 2 im = fixW 2 c 0 0 + rd * 128 + 0 * 32768 + 0 * 1048576 + layF 2 im
    rw [e]
    omega
  go_wp2
  go_loop [4, 5] (fun x t => ∃ k : Nat, ∃ o : Int, 1 ≤ k ∧ k ≤ 21 ∧ t = .int .i64 k ∧ x = .int .i64 o ∧ Hid (o = c + rd * 128 + layF 2 (im % 2 ^ k))) (fun _ t => 21 - (intOf t).toNat)
  case atStart => exact ⟨1, _, by omega, by omega, rfl, rfl, by
    show _ = _
    rw [zeroJ]
    omega⟩
  case round =>
    obtain ⟨k, o, hk0, hk1, rfl, rfl, ho⟩ := hrel
    by_cases hlt : k ≤ 20
    · obtain ⟨p0, p1, p2, p3⟩ := HST.out k hk0 hlt
      have hn := HN.out
      rw [← ho.out] at p1 p2
      have o0 : 0 ≤ o := by rw [ho.out]; omega
      have HR : Hid (o + bitT im k % 2 ^ 1 * 2 ^ atJ k = c + rd * 128 + layF 2 (im % 2 ^ (k + 1))) := by
        show _ = _
        rw [p3, ho.out]
        omega
      have hz : Hid (o / 2 ^ atJ k % 2 ^ 1 = 0) := p2
      clear HST HN hlast ho p0 p2 p3 hn
      by_cases c1 : k ≤ 10
      · have hat : atJ k = 20 + k := by unfold atJ; rw [if_neg (by omega), if_neg (by omega), if_neg (by omega)]
        go_wp2_with fail
        refine (bit_any im k _ (by omega)).mono ?_
        rintro e w2 ⟨rfl, rfl⟩
        go_wp2_with fail
        refine (putN o (bitT im k) (o + bitT im k % 2 ^ 1 * 2 ^ atJ k) _ 1 (atJ k) 1 _ _ _ (by rw [hat] <;> first | rfl | (push_cast; omega) | omega) rfl rfl rfl o0 p1 (by rw [hat]; omega) hz.out rfl).mono ?_
        rintro e w2 ⟨rfl, rfl⟩
        obtain ⟨o2, ho2⟩ : ∃ o2, o2 = o + bitT im k % 2 ^ 1 * 2 ^ atJ k := ⟨_, rfl⟩
        have HO : Hid (o2 = c + rd * 128 + layF 2 (im % 2 ^ (k + 1))) := ho2.trans HR.out
        rw [← ho2]
        clear ho2 HR hz hat
        go_wp2
        go_round
        case rel => exact ⟨k + 1, o2, by omega, by omega, by go_num, rfl, HO⟩
        case measure => simp [intOf] <;> omega
      by_cases c2 : k = 11
      · have hat : atJ k = 20 := by unfold atJ; rw [if_neg (by omega), if_neg (by omega), if_pos c2]
        subst c2
        go_wp2_with fail
        refine (bit_any im 11 _ (by omega)).mono ?_
        rintro e w2 ⟨rfl, rfl⟩
        go_wp2_with fail
        refine (putN o (bitT im 11) (o + bitT im 11 % 2 ^ 1 * 2 ^ atJ 11) _ 1 (atJ 11) 1 _ _ _ (by rw [hat] <;> first | rfl | (push_cast; omega) | omega) rfl rfl rfl o0 p1 (by rw [hat]; omega) hz.out rfl).mono ?_
        rintro e w2 ⟨rfl, rfl⟩
        obtain ⟨o2, ho2⟩ : ∃ o2, o2 = o + bitT im 11 % 2 ^ 1 * 2 ^ atJ 11 := ⟨_, rfl⟩
        have HO : Hid (o2 = c + rd * 128 + layF 2 (im % 2 ^ (11 + 1))) := ho2.trans HR.out
        rw [← ho2]
        clear ho2 HR hz hat
        go_wp2
        go_round
        case rel => exact ⟨11 + 1, o2, by omega, by omega, by go_num, rfl, HO⟩
        case measure => simp [intOf] <;> omega
      by_cases c3 : k = 20
      · have hat : atJ k = 31 := by unfold atJ; rw [if_pos c3]
        subst c3
        go_wp2_with fail
        refine (bit_any im 20 _ (by omega)).mono ?_
        rintro e w2 ⟨rfl, rfl⟩
        go_wp2_with fail
        refine (putN o (bitT im 20) (o + bitT im 20 % 2 ^ 1 * 2 ^ atJ 20) _ 1 (atJ 20) 1 _ _ _ (by rw [hat] <;> first | rfl | (push_cast; omega) | omega) rfl rfl rfl o0 p1 (by rw [hat]; omega) hz.out rfl).mono ?_
        rintro e w2 ⟨rfl, rfl⟩
        obtain ⟨o2, ho2⟩ : ∃ o2, o2 = o + bitT im 20 % 2 ^ 1 * 2 ^ atJ 20 := ⟨_, rfl⟩
        have HO : Hid (o2 = c + rd * 128 + layF 2 (im % 2 ^ (20 + 1))) := ho2.trans HR.out
        rw [← ho2]
        clear ho2 HR hz hat
        go_wp2
        go_round
        case rel => exact ⟨20 + 1, o2, by omega, by omega, by go_num, rfl, HO⟩
        case measure => simp [intOf] <;> omega
      · have hat : atJ k = k := by unfold atJ; rw [if_neg c3, if_pos (by omega)]
        have c4 : 11 < k := by omega
        have c5 : ((k : Int) == 20) = false := by simp; omega
        clear c1 c2 c3
        go_wp2_with fail
        refine (bit_any im k _ (by omega)).mono ?_
        rintro e w2 ⟨rfl, rfl⟩
        go_wp2_with fail
        refine (putN o (bitT im k) (o + bitT im k % 2 ^ 1 * 2 ^ atJ k) _ 1 (atJ k) 1 _ _ _ (by rw [hat] <;> first | rfl | (push_cast; omega) | omega) rfl rfl rfl o0 p1 (by rw [hat]; omega) hz.out rfl).mono ?_
        rintro e w2 ⟨rfl, rfl⟩
        obtain ⟨o2, ho2⟩ : ∃ o2, o2 = o + bitT im k % 2 ^ 1 * 2 ^ atJ k := ⟨_, rfl⟩
        have HO : Hid (o2 = c + rd * 128 + layF 2 (im % 2 ^ (k + 1))) := ho2.trans HR.out
        rw [← ho2]
        clear ho2 HR hz hat
        go_wp2
        go_round
        case rel => exact ⟨k + 1, o2, by omega, by omega, by go_num, rfl, HO⟩
        case measure => simp [intOf] <;> omega
    · obtain rfl : k = 21 := by omega
      have HO : o = encW 2 c 0 0 rd 0 0 im := by rw [ho.out, fullJ]; exact hlast.out
      clear ho HST HN hlast
      go_wp2
      go_ret
      exact ⟨rfl, HB1.out.alloc (by omega) _⟩
end Go.Proofs.YtelogjpjglohoaaGreatDoor

namespace Go.Proofs.YtelogjpjglohoaaGreatDoor
open Go.RowKit
set_option linter.unusedVariables false

set_option maxRecDepth 100000 in
set_option maxHeartbeats 8000000 in
theorem ens3 (op rd r1 im c g h : Int) (hs : Hid (shT op = (3, c, g, h))) (k0 : 0 ≤ c) (k1 : c < 128) (g0 : 0 ≤ g) (g1 : g < 8) (h0 : 0 ≤ h) (h1 : h < 64) (rd0 : 0 ≤ rd) (rd1 : rd ≤ 31) (r10 : 0 ≤ r1) (r11 : r1 ≤ 31) (sh : h = 0) (w : World) :
    Calls Tryz.prog 72 #[.agg #[.int .i64 op, .int .i64 rd, .int .i64 r1, .int .i64 0, .int .i64 im]] w fun e w' => e = .returned (.int .i64 (encW 3 c g h rd r1 0 im)) ∧ Below w.heap.size w w' := by
  subst sh
  go_enter Tryz.func72, Tryz.ntmps72
  go_wp2_with fail
  refine (specShs op 3 c g 0 _ hs.out).mono ?_
  rintro e w1 ⟨rfl, hb1⟩
  obtain ⟨hc1, hf1⟩ := bcell hb1
  have hz1 : w.heap.size < w1.heap.size := by have := hb1.size; simp at this; omega
  have HB1 : Hid (Below w.heap.size w w1) := ((Below.refl _ _).alloc (Nat.le_refl _) _).trans (hb1.mono (by simp))
  clear hs hb1
  go_wp2_with fail
  refine (putN (c) rd (c + rd * 128) 7 5 7 5 128 32 _ rfl rfl (by decide) (by decide) (by omega) (by omega) (by decide) (by omega) (by omega)).mono ?_
  rintro e w2 ⟨rfl, rfl⟩
  go_wp2_with fail
  refine (putN (c + rd * 128) g (c + rd * 128 + g * 4096) 12 3 12 3 4096 8 _ rfl rfl (by decide) (by decide) (by omega) (by omega) (by decide) (by omega) (by omega)).mono ?_
  rintro e w2 ⟨rfl, rfl⟩
  go_wp2_with fail
  refine (putN (c + rd * 128 + g * 4096) r1 (c + rd * 128 + g * 4096 + r1 * 32768) 15 5 15 5 32768 32 _ rfl rfl (by decide) (by decide) (by omega) (by omega) (by decide) (by omega) (by omega)).mono ?_
  rintro e w2 ⟨rfl, rfl⟩
  go_wp2_with fail
  refine (putN (c + rd * 128 + g * 4096 + r1 * 32768) im (c + rd * 128 + g * 4096 + r1 * 32768 + im % 4096 * 1048576) 20 12 20 12 1048576 4096 _ rfl rfl (by decide) (by decide) (by omega) (by omega) (by decide) (by omega) (by omega)).mono ?_
  rintro e w2 ⟨rfl, rfl⟩
  go_wp2
  go_ret
  refine ⟨congrArg (fun x => Ending.returned (.int .i64 x)) ?_, HB1.out.alloc (by omega) _⟩
  show c + rd * 128 + g * 4096 + r1 * 32768 + im % 4096 * 1048576 = fixW 3 c g 0 + rd * 128 + r1 * 32768 + 0 * 1048576 + layF 3 im
  have l : layF 3 im = im % 4096 * 1048576 := rfl
  have e : fixW 3 c g 0 = c + g * 4096 + 0 * 33554432 := rfl
  rw [l, e]
  omega
end Go.Proofs.YtelogjpjglohoaaGreatDoor

namespace Go.Proofs.YtelogjpjglohoaaGreatDoor
open Go.RowKit
set_option linter.unusedVariables false

set_option maxRecDepth 100000 in
set_option maxHeartbeats 8000000 in
theorem ens4 (op r1 r2 im c g h : Int) (hs : Hid (shT op = (4, c, g, h))) (k0 : 0 ≤ c) (k1 : c < 128) (g0 : 0 ≤ g) (g1 : g < 8) (h0 : 0 ≤ h) (h1 : h < 64) (r10 : 0 ≤ r1) (r11 : r1 ≤ 31) (r20 : 0 ≤ r2) (r21 : r2 ≤ 31) (sh : h = 0) (w : World) :
    Calls Tryz.prog 72 #[.agg #[.int .i64 op, .int .i64 0, .int .i64 r1, .int .i64 r2, .int .i64 im]] w fun e w' => e = .returned (.int .i64 (encW 4 c g h 0 r1 r2 im)) ∧ Below w.heap.size w w' := by
  subst sh
  go_enter Tryz.func72, Tryz.ntmps72
  go_wp2_with fail
  refine (specShs op 4 c g 0 _ hs.out).mono ?_
  rintro e w1 ⟨rfl, hb1⟩
  obtain ⟨hc1, hf1⟩ := bcell hb1
  have hz1 : w.heap.size < w1.heap.size := by have := hb1.size; simp at this; omega
  have HB1 : Hid (Below w.heap.size w w1) := ((Below.refl _ _).alloc (Nat.le_refl _) _).trans (hb1.mono (by simp))
  clear hs hb1
  go_wp2_with fail
  refine (putN (c) g (c + g * 4096) 12 3 12 3 4096 8 _ rfl rfl (by decide) (by decide) (by omega) (by omega) (by decide) (by omega) (by omega)).mono ?_
  rintro e w2 ⟨rfl, rfl⟩
  go_wp2_with fail
  refine (putN (c + g * 4096) r1 (c + g * 4096 + r1 * 32768) 15 5 15 5 32768 32 _ rfl rfl (by decide) (by decide) (by omega) (by omega) (by decide) (by omega) (by omega)).mono ?_
  rintro e w2 ⟨rfl, rfl⟩
  go_wp2_with fail
  refine (putN (c + g * 4096 + r1 * 32768) r2 (c + g * 4096 + r1 * 32768 + r2 * 1048576) 20 5 20 5 1048576 32 _ rfl rfl (by decide) (by decide) (by omega) (by omega) (by decide) (by omega) (by omega)).mono ?_
  rintro e w2 ⟨rfl, rfl⟩
  have hst := fun (k : Nat) (h0 : 1 ≤ k) (h1 : k ≤ 12) => stepB im (c + g * 4096 + r1 * 32768 + r2 * 1048576) k (by omega) (by omega) (by omega) h0 h1
  have HST : Hid (∀ k : Nat, 1 ≤ k → k ≤ 12 → 0 ≤ layF 4 (im % 2 ^ k) ∧ c + g * 4096 + r1 * 32768 + r2 * 1048576 + layF 4 (im % 2 ^ k) < 4294967296 ∧ (c + g * 4096 + r1 * 32768 + r2 * 1048576 + layF 4 (im % 2 ^ k)) / 2 ^ atB k % 2 ^ 1 = 0 ∧
    layF 4 (im % 2 ^ (k + 1)) = layF 4 (im % 2 ^ k) + bitT im k % 2 ^ 1 * 2 ^ atB k) := hst
  clear hst
  have HN : Hid (0 ≤ c + g * 4096 + r1 * 32768 + r2 * 1048576) := (by omega : 0 ≤ c + g * 4096 + r1 * 32768 + r2 * 1048576)
  have hlast : Hid (c + g * 4096 + r1 * 32768 + r2 * 1048576 + layF 4 im = encW 4 c g 0 0 r1 r2 im) := by
    have e : fixW 4 c g 0 = c + g * 4096 + 0 * 33554432 := rfl
    show c + g * 4096 + r1 * 32768 + r2 * 1048576 + layF 4 im = fixW 4 c g 0 + 0 * 128 + r1 * 32768 + r2 * 1048576 + layF 4 im
    rw [e]
    omega
  go_wp2
  go_loop [4, 7] (fun x t => ∃ k : Nat, ∃ o : Int, 1 ≤ k ∧ k ≤ 13 ∧ t = .int .i64 k ∧ x = .int .i64 o ∧ Hid (o = c + g * 4096 + r1 * 32768 + r2 * 1048576 + layF 4 (im % 2 ^ k))) (fun _ t => 13 - (intOf t).toNat)
  case atStart => exact ⟨1, _, by omega, by omega, rfl, rfl, by
    show _ = _
    rw [zeroB]
    omega⟩
  case round =>
    obtain ⟨k, o, hk0, hk1, rfl, rfl, ho⟩ := hrel
    by_cases hlt : k ≤ 12
    · obtain ⟨p0, p1, p2, p3⟩ := HST.out k hk0 hlt
      have hn := HN.out
      rw [← ho.out] at p1 p2
      have o0 : 0 ≤ o := by rw [ho.out]; omega
      have HR : Hid (o + bitT im k % 2 ^ 1 * 2 ^ atB k = c + g * 4096 + r1 * 32768 + r2 * 1048576 + layF 4 (im % 2 ^ (k + 1))) := by
        show _ = _
        rw [p3, ho.out]
        omega
      have hz : Hid (o / 2 ^ atB k % 2 ^ 1 = 0) := p2
      clear HST HN hlast ho p0 p2 p3 hn
      by_cases c1 : k ≤ 4
      · have hat : atB k = 7 + k := by unfold atB; rw [if_neg (by omega), if_neg (by omega), if_neg (by omega)]
        go_wp2_with fail
        refine (bit_any im k _ (by omega)).mono ?_
        rintro e w2 ⟨rfl, rfl⟩
        go_wp2_with fail
        refine (putN o (bitT im k) (o + bitT im k % 2 ^ 1 * 2 ^ atB k) _ 1 (atB k) 1 _ _ _ (by rw [hat] <;> first | rfl | (push_cast; omega) | omega) rfl rfl rfl o0 p1 (by rw [hat]; omega) hz.out rfl).mono ?_
        rintro e w2 ⟨rfl, rfl⟩
        obtain ⟨o2, ho2⟩ : ∃ o2, o2 = o + bitT im k % 2 ^ 1 * 2 ^ atB k := ⟨_, rfl⟩
        have HO : Hid (o2 = c + g * 4096 + r1 * 32768 + r2 * 1048576 + layF 4 (im % 2 ^ (k + 1))) := ho2.trans HR.out
        rw [← ho2]
        clear ho2 HR hz hat
        go_wp2
        go_round
        case rel => exact ⟨k + 1, o2, by omega, by omega, by go_num, rfl, HO⟩
        case measure => simp [intOf] <;> omega
      by_cases c2 : k = 11
      · have hat : atB k = 7 := by unfold atB; rw [if_neg (by omega), if_pos c2]
        subst c2
        go_wp2_with fail
        refine (bit_any im 11 _ (by omega)).mono ?_
        rintro e w2 ⟨rfl, rfl⟩
        go_wp2_with fail
        refine (putN o (bitT im 11) (o + bitT im 11 % 2 ^ 1 * 2 ^ atB 11) _ 1 (atB 11) 1 _ _ _ (by rw [hat] <;> first | rfl | (push_cast; omega) | omega) rfl rfl rfl o0 p1 (by rw [hat]; omega) hz.out rfl).mono ?_
        rintro e w2 ⟨rfl, rfl⟩
        obtain ⟨o2, ho2⟩ : ∃ o2, o2 = o + bitT im 11 % 2 ^ 1 * 2 ^ atB 11 := ⟨_, rfl⟩
        have HO : Hid (o2 = c + g * 4096 + r1 * 32768 + r2 * 1048576 + layF 4 (im % 2 ^ (11 + 1))) := ho2.trans HR.out
        rw [← ho2]
        clear ho2 HR hz hat
        go_wp2
        go_round
        case rel => exact ⟨11 + 1, o2, by omega, by omega, by go_num, rfl, HO⟩
        case measure => simp [intOf] <;> omega
      by_cases c3 : k = 12
      · have hat : atB k = 31 := by unfold atB; rw [if_pos c3]
        subst c3
        go_wp2_with fail
        refine (bit_any im 12 _ (by omega)).mono ?_
        rintro e w2 ⟨rfl, rfl⟩
        go_wp2_with fail
        refine (putN o (bitT im 12) (o + bitT im 12 % 2 ^ 1 * 2 ^ atB 12) _ 1 (atB 12) 1 _ _ _ (by rw [hat] <;> first | rfl | (push_cast; omega) | omega) rfl rfl rfl o0 p1 (by rw [hat]; omega) hz.out rfl).mono ?_
        rintro e w2 ⟨rfl, rfl⟩
        obtain ⟨o2, ho2⟩ : ∃ o2, o2 = o + bitT im 12 % 2 ^ 1 * 2 ^ atB 12 := ⟨_, rfl⟩
        have HO : Hid (o2 = c + g * 4096 + r1 * 32768 + r2 * 1048576 + layF 4 (im % 2 ^ (12 + 1))) := ho2.trans HR.out
        rw [← ho2]
        clear ho2 HR hz hat
        go_wp2
        go_round
        case rel => exact ⟨12 + 1, o2, by omega, by omega, by go_num, rfl, HO⟩
        case measure => simp [intOf] <;> omega
      · have hat : atB k = 20 + k := by unfold atB; rw [if_neg c3, if_neg c2, if_pos (by omega)]
        have c4 : 4 < k := by omega
        have c7 : k ≤ 10 := by omega
        have c5 : ((k : Int) == 11) = false := by simp; omega
        have c6 : ((k : Int) == 12) = false := by simp; omega
        clear c1 c2 c3
        go_wp2_with fail
        refine (bit_any im k _ (by omega)).mono ?_
        rintro e w2 ⟨rfl, rfl⟩
        go_wp2_with fail
        refine (putN o (bitT im k) (o + bitT im k % 2 ^ 1 * 2 ^ atB k) _ 1 (atB k) 1 _ _ _ (by rw [hat] <;> first | rfl | (push_cast; omega) | omega) rfl rfl rfl o0 p1 (by rw [hat]; omega) hz.out rfl).mono ?_
        rintro e w2 ⟨rfl, rfl⟩
        obtain ⟨o2, ho2⟩ : ∃ o2, o2 = o + bitT im k % 2 ^ 1 * 2 ^ atB k := ⟨_, rfl⟩
        have HO : Hid (o2 = c + g * 4096 + r1 * 32768 + r2 * 1048576 + layF 4 (im % 2 ^ (k + 1))) := ho2.trans HR.out
        rw [← ho2]
        clear ho2 HR hz hat
        go_wp2
        go_round
        case rel => exact ⟨k + 1, o2, by omega, by omega, by go_num, rfl, HO⟩
        case measure => simp [intOf] <;> omega
    · obtain rfl : k = 13 := by omega
      have HO : o = encW 4 c g 0 0 r1 r2 im := by rw [ho.out, fullB]; exact hlast.out
      clear ho HST HN hlast
      go_wp2
      go_ret
      exact ⟨rfl, HB1.out.alloc (by omega) _⟩
end Go.Proofs.YtelogjpjglohoaaGreatDoor
