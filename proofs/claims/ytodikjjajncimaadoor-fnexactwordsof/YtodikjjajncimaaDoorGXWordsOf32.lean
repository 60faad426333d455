/- An instruction's word, by the model: form 2. An instruction's word, by the model: form 3. -/
import Derived.Test.YtodikjjajncimaaDoorGXWordsOf31
namespace Go.Proofs.YtodikjjajncimaaDoor
open Go.RowKit
set_option linter.unusedVariables false

set_option maxRecDepth 100000 in
set_option maxHeartbeats 8000000 in
theorem ens2 (op rd im c g h : Int) (hs : Hid (shT op = (2, c, g, h))) (k0 : 0 ≤ c) (k1 : c < 128) (g0 : 0 ≤ g) (g1 : g < 8) (h0 : 0 ≤ h) (h1 : h < 64) (rd0 : 0 ≤ rd) (rd1 : rd ≤ 31) (sg : g = 0) (sh : h = 0) (w : World) :
    Calls Tryd.prog 43 #[.agg #[.int .i64 op, .int .i64 rd, .int .i64 0, .int .i64 0, .int .i64 im]] w fun e w' => e = .returned (.int .i64 (encW 2 c g h rd 0 0 im)) ∧ Below w.heap.size w w' := by
  subst sh
  subst sg
  go_enter Tryd.func43, Tryd.ntmps43
  go_wp2_with fail
  refine (specShs op 2 c 0 0 _ hs.out).mono ?_
  rintro e w1 ⟨rfl, hb1⟩
  obtain ⟨hc1, hf1⟩ := bcell hb1
  have hz1 : w.heap.size < w1.heap.size := by have := hb1.size; simp at this; omega
  have HB1 : Hid (Below w.heap.size w w1) := ((Below.refl _ _).alloc (Nat.le_refl _) _).trans (hb1.mono (by simp))
  clear hs hb1
  go_wp2_with fail
  refine (putN (c) rd (c + rd * 128) 7 5 7 5 128 32 _ rfl rfl (by decide) (by decide) (by omega) (by omega) (by decide) (by omega) (by omega)).mono ?_
  rintro e w2 ⟨rfl, rfl⟩
  have hst := fun (k : Nat) (h0 : 1 ≤ k) (h1 : k ≤ 20) => stepJ im (c + rd * 128) k (by omega) (by omega) h0 h1
  have HST : Hid (∀ k : Nat, 1 ≤ k → k ≤ 20 → 0 ≤ layF 2 (im % 2 ^ k) ∧ c + rd * 128 + layF 2 (im % 2 ^ k) < 4294967296 ∧ (c + rd * 128 + layF 2 (im % 2 ^ k)) / 2 ^ atJ k % 2 ^ 1 = 0 ∧
    layF 2 (im % 2 ^ (k + 1)) = layF 2 (im % 2 ^ k) + bitT im k % 2 ^ 1 * 2 ^ atJ k) := hst
  clear hst
  have HN : Hid (0 ≤ c + rd * 128) := (by omega : 0 ≤ c + rd * 128)
  have hlast : Hid (c + rd * 128 + layF 2 im = encW 2 c 0 0 rd 0 0 im) := by
    have e : fixW 2 c 0 0 = c + 0 * 4096 + 0 * 33554432 := rfl
    show c + rd * 128 + layF 2 im = fixW 2 c 0 0 + rd * 128 + 0 * 32768 + 0 * 1048576 + layF 2 im
    rw [e]
    omega
  go_wp2
  go_loop [4, 5] (fun x t => ∃ k : Nat, ∃ o : Int, 1 ≤ k ∧ k ≤ 21 ∧ t = .int .i64 k ∧ x = .int .i64 o ∧ Hid (o = c + rd * 128 + layF 2 (im % 2 ^ k))) (fun _ t => 21 - (intOf t).toNat)
  case atStart => exact ⟨1, _, by omega, by omega, rfl, rfl, by
    show _ = _
    rw [zeroJ]
    omega⟩
  case round =>
    obtain ⟨k, o, hk0, hk1, rfl, rfl, ho⟩ := hrel
    by_cases hlt : k ≤ 20
    · obtain ⟨p0, p1, p2, p3⟩ := HST.out k hk0 hlt
      have hn := HN.out
      rw [← ho.out] at p1 p2
      have o0 : 0 ≤ o := by rw [ho.out]; omega
      have HR : Hid (o + bitT im k % 2 ^ 1 * 2 ^ atJ k = c + rd * 128 + layF 2 (im % 2 ^ (k + 1))) := by
        show _ = _
        rw [p3, ho.out]
        omega
      have hz : Hid (o / 2 ^ atJ k % 2 ^ 1 = 0) := p2
      clear HST HN hlast ho p0 p2 p3 hn
      by_cases c1 : k ≤ 10
      · have hat : atJ k = 20 + k := by unfold atJ; rw [if_neg (by omega), if_neg (by omega), if_neg (by omega)]
        go_wp2_with fail
        refine (bit_any im k _ (by omega)).mono ?_
        rintro e w2 ⟨rfl, rfl⟩
        go_wp2_with fail
        refine (putN o (bitT im k) (o + bitT im k % 2 ^ 1 * 2 ^ atJ k) _ 1 (atJ k) 1 _ _ _ (by rw [hat] <;> first | rfl | (push_cast; omega) | omega) rfl rfl rfl o0 p1 (by rw [hat]; omega) hz.out rfl).mono ?_
        rintro e w2 ⟨rfl, rfl⟩
        obtain ⟨o2, ho2⟩ : ∃ o2, o2 = o + bitT im k % 2 ^ 1 * 2 ^ atJ k := ⟨_, rfl⟩
        have HO : Hid (o2 = c + rd * 128 + layF 2 (im % 2 ^ (k + 1))) := ho2.trans HR.out
        rw [← ho2]
        clear ho2 HR hz hat
        go_wp2
        go_round
        case rel => exact ⟨k + 1, o2, by omega, by omega, by go_num, rfl, HO⟩
        case measure => simp [intOf] <;> omega
      by_cases c2 : k = 11
      · have hat : atJ k = 20 := by unfold atJ; rw [if_neg (by omega), if_neg (by omega), if_pos c2]
        subst c2
        go_wp2_with fail
        refine (bit_any im 11 _ (by omega)).mono ?_
        rintro e w2 ⟨rfl, rfl⟩
        go_wp2_with fail
        refine (putN o (bitT im 11) (o + bitT im 11 % 2 ^ 1 * 2 ^ atJ 11) _ 1 (atJ 11) 1 _ _ _ (by rw [hat] <;> first | rfl | (push_cast; omega) | omega) rfl rfl rfl o0 p1 (by rw [hat]; omega) hz.out rfl).mono ?_
        rintro e w2 ⟨rfl, rfl⟩
        obtain ⟨o2, ho2⟩ : ∃ o2, o2 = o + bitT im 11 % 2 ^ 1 * 2 ^ atJ 11 := ⟨_, rfl⟩
        have HO : Hid (o2 = c + rd * 128 + layF 2 (im % 2 ^ (11 + 1))) := ho2.trans HR.out
        rw [← ho2]
        clear ho2 HR hz hat
        go_wp2
        go_round
        case rel => exact ⟨11 + 1, o2, by omega, by omega, by go_num, rfl, HO⟩
        case measure => simp [intOf] <;> omega
      by_cases c3 : k = 20
      · have hat : atJ k = 31 := by unfold atJ; rw [if_pos c3]
        subst c3
        go_wp2_with fail
        refine (bit_any im 20 _ (by omega)).mono ?_
        rintro e w2 ⟨rfl, rfl⟩
        go_wp2_with fail
        refine (putN o (bitT im 20) (o + bitT im 20 % 2 ^ 1 * 2 ^ atJ 20) _ 1 (atJ 20) 1 _ _ _ (by rw [hat] <;> first | rfl | (push_cast; omega) | omega) rfl rfl rfl o0 p1 (by rw [hat]; omega) hz.out rfl).mono ?_
        rintro e w2 ⟨rfl, rfl⟩
        obtain ⟨o2, ho2⟩ : ∃ o2, o2 = o + bitT im 20 % 2 ^ 1 * 2 ^ atJ 20 := ⟨_, rfl⟩
        have HO : Hid (o2 = c + rd * 128 + layF 2 (im % 2 ^ (20 + 1))) := ho2.trans HR.out
        rw [← ho2]
        clear ho2 HR hz hat
        go_wp2
        go_round
        case rel => exact ⟨20 + 1, o2, by omega, by omega, by go_num, rfl, HO⟩
        case measure => simp [intOf] <;> omega
      · have hat : atJ k = k := by unfold atJ; rw [if_neg c3, if_pos (by omega)]
        have c4 : 11 < k := by omega
        have c5 : ((k : Int) == 20) = false := by simp; omega
        clear c1 c2 c3
        go_wp2_with fail
        refine (bit_any im k _ (by omega)).mono ?_
        rintro e w2 ⟨rfl, rfl⟩
        go_wp2_with fail
        refine (putN o (bitT im k) (o + bitT im k % 2 ^ 1 * 2 ^ atJ k) _ 1 (atJ k) 1 _ _ _ (by rw [hat] <;> first | rfl | (push_cast; omega) | omega) rfl rfl rfl o0 p1 (by rw [hat]; omega) hz.out rfl).mono ?_
        rintro e w2 ⟨rfl, rfl⟩
        obtain ⟨o2, ho2⟩ : ∃ o2, o2 = o + bitT im k % 2 ^ 1 * 2 ^ atJ k := ⟨_, rfl⟩
        have HO : Hid (o2 = c + rd * 128 + layF 2 (im % 2 ^ (k + 1))) := ho2.trans HR.out
        rw [← ho2]
        clear ho2 HR hz hat
        go_wp2
        go_round
        case rel => exact ⟨k + 1, o2, by omega, by omega, by go_num, rfl, HO⟩
        case measure => simp [intOf] <;> omega
    · obtain rfl : k = 21 := by omega
      have HO : o = encW 2 c 0 0 rd 0 0 im := by rw [ho.out, fullJ]; exact hlast.out
      clear ho HST HN hlast
      go_wp2
      go_ret
      exact ⟨rfl, HB1.out.alloc (by omega) _⟩
end Go.Proofs.YtodikjjajncimaaDoor

namespace Go.Proofs.YtodikjjajncimaaDoor
open Go.RowKit
set_option linter.unusedVariables false

set_option maxRecDepth 100000 in
set_option maxHeartbeats 8000000 in
theorem ens3 (op rd r1 im c g h : Int) (hs : Hid (shT op = (3, c, g, h))) (k0 : 0 ≤ c) (k1 : c < 128) (g0 : 0 ≤ g) (g1 : g < 8) (h0 : 0 ≤ h) (h1 : h < 64) (rd0 : 0 ≤ rd) (rd1 : rd ≤ 31) (r10 : 0 ≤ r1) (r11 : r1 ≤ 31) (sh : h = 0) (w : World) :
    Calls Tryd.prog 43 #[.agg #[.int .i64 op, .int .i64 rd, .int .i64 r1, .int .i64 0, .int .i64 im]] w fun e w' => e = .returned (.int .i64 (encW 3 c g h rd r1 0 im)) ∧ Below w.heap.size w w' := by
  subst sh
  go_enter Tryd.func43, Tryd.ntmps43
  go_wp2_with fail
  refine (specShs op 3 c g 0 _ hs.out).mono ?_
  rintro e w1 ⟨rfl, hb1⟩
  obtain ⟨hc1, hf1⟩ := bcell hb1
  have hz1 : w.heap.size < w1.heap.size := by have := hb1.size; simp at this; omega
  have HB1 : Hid (Below w.heap.size w w1) := ((Below.refl _ _).alloc (Nat.le_refl _) _).trans (hb1.mono (by simp))
  clear hs hb1
  go_wp2_with fail
  refine (putN (c) rd (c + rd * 128) 7 5 7 5 128 32 _ rfl rfl (by decide) (by decide) (by omega) (by omega) (by decide) (by omega) (by omega)).mono ?_
  rintro e w2 ⟨rfl, rfl⟩
  go_wp2_with fail
  refine (putN (c + rd * 128) g (c + rd * 128 + g * 4096) 12 3 12 3 4096 8 _ rfl rfl (by decide) (by decide) (by omega) (by omega) (by decide) (by omega) (by omega)).mono ?_
  rintro e w2 ⟨rfl, rfl⟩
  go_wp2_with fail
  refine (putN (c + rd * 128 + g * 4096) r1 (c + rd * 128 + g * 4096 + r1 * 32768) 15 5 15 5 32768 32 _ rfl rfl (by decide) (by decide) (by omega) (by omega) (by decide) (by omega) (by omega)).mono ?_
  rintro e w2 ⟨rfl, rfl⟩
  go_wp2_with fail
  refine (putN (c + rd * 128 + g * 4096 + r1 * 32768) im (c + rd * 128 + g * 4096 + r1 * 32768 + im % 4096 * 1048576) 20 12 20 12 1048576 4096 _ rfl rfl (by decide) (by decide) (by omega) (by omega) (by decide) (by omega) (by omega)).mono ?_
  rintro e w2 ⟨rfl, rfl⟩
  go_wp2
  go_ret
  refine ⟨congrArg (fun x => Ending.returned (.int .i64 x)) ?_, HB1.out.alloc (by omega) _⟩
  show c + rd * 128 + g * 4096 + r1 * 32768 + im % 4096 * 1048576 = fixW 3 c g 0 + rd * 128 + r1 * 32768 + 0 * 1048576 + layF 3 im
  have l : layF 3 im = im % 4096 * 1048576 := rfl
  have e : fixW 3 c g 0 = c + g * 4096 + 0 * 33554432 := rfl
  rw [l, e]
  omega
end Go.Proofs.YtodikjjajncimaaDoor
