/- An instruction's word, by the model: form 5. An instruction's word, by the model: form 6. An instruction's word, by the model: form 7. An instruction's word, by the model: form 8. An instruction's word, by the model: form 9. Encode of the model: the contract. Which word is an instruction of which shape: plain (3). -/
import Derived.Test.YtelogjpjglohoaaGreatDoorGXTabBase27
import Derived.Test.YtelogjpjglohoaaGreatDoorGXTabBase21
import Derived.Test.YtelogjpjglohoaaGreatDoorGXTabBase22
namespace Go.Proofs.YtelogjpjglohoaaGreatDoor
open Go.RowKit
set_option linter.unusedVariables false

set_option maxRecDepth 100000 in
set_option maxHeartbeats 8000000 in
theorem ens5 (op r1 r2 im c g h : Int) (hs : Hid (shT op = (5, c, g, h))) (k0 : 0 ≤ c) (k1 : c < 128) (g0 : 0 ≤ g) (g1 : g < 8) (h0 : 0 ≤ h) (h1 : h < 64) (r10 : 0 ≤ r1) (r11 : r1 ≤ 31) (r20 : 0 ≤ r2) (r21 : r2 ≤ 31) (sh : h = 0) (w : World) :
    Calls Tryz.prog 72 #[.agg #[.int .i64 op, .int .i64 0, .int .i64 r1, .int .i64 r2, .int .i64 im]] w fun e w' => e = .returned (.int .i64 (encW 5 c g h 0 r1 r2 im)) ∧ Below w.heap.size w w' := by
  subst sh
  go_enter Tryz.func72, Tryz.ntmps72
  go_wp2_with fail
  refine (specShs op 5 c g 0 _ hs.out).mono ?_
  rintro e w1 ⟨rfl, hb1⟩
  obtain ⟨hc1, hf1⟩ := bcell hb1
  have hz1 : w.heap.size < w1.heap.size := by have := hb1.size; simp at this; omega
  have HB1 : Hid (Below w.heap.size w w1) := ((Below.refl _ _).alloc (Nat.le_refl _) _).trans (hb1.mono (by simp))
  clear hs hb1
  go_wp2_with fail
  refine (putN (c) im (c + im % 32 * 128) 7 5 7 5 128 32 _ rfl rfl (by decide) (by decide) (by omega) (by omega) (by decide) (by omega) (by omega)).mono ?_
  rintro e w2 ⟨rfl, rfl⟩
  go_wp2_with fail
  refine (putN (c + im % 32 * 128) g (c + im % 32 * 128 + g * 4096) 12 3 12 3 4096 8 _ rfl rfl (by decide) (by decide) (by omega) (by omega) (by decide) (by omega) (by omega)).mono ?_
  rintro e w2 ⟨rfl, rfl⟩
  go_wp2_with fail
  refine (putN (c + im % 32 * 128 + g * 4096) r1 (c + im % 32 * 128 + g * 4096 + r1 * 32768) 15 5 15 5 32768 32 _ rfl rfl (by decide) (by decide) (by omega) (by omega) (by decide) (by omega) (by omega)).mono ?_
  rintro e w2 ⟨rfl, rfl⟩
  go_wp2_with fail
  refine (putN (c + im % 32 * 128 + g * 4096 + r1 * 32768) r2 (c + im % 32 * 128 + g * 4096 + r1 * 32768 + r2 * 1048576) 20 5 20 5 1048576 32 _ rfl rfl (by decide) (by decide) (by omega) (by omega) (by decide) (by omega) (by omega)).mono ?_
  rintro e w2 ⟨rfl, rfl⟩
  have hst := fun (k : Nat) (h0 : 5 ≤ k) (h1 : k ≤ 11) => stepS im (c + g * 4096 + r1 * 32768 + r2 * 1048576) k (by omega) (by omega) (by omega) h0 h1
  have HST : Hid (∀ k : Nat, 5 ≤ k → k ≤ 11 → 0 ≤ layF 5 (im % 2 ^ k) ∧ c + g * 4096 + r1 * 32768 + r2 * 1048576 + layF 5 (im % 2 ^ k) < 4294967296 ∧ (c + g * 4096 + r1 * 32768 + r2 * 1048576 + layF 5 (im % 2 ^ k)) / 2 ^ atS k % 2 ^ 1 = 0 ∧
    layF 5 (im % 2 ^ (k + 1)) = layF 5 (im % 2 ^ k) + bitT im k % 2 ^ 1 * 2 ^ atS k) := hst
  clear hst
  have HN : Hid (0 ≤ c + g * 4096 + r1 * 32768 + r2 * 1048576) := (by omega : 0 ≤ c + g * 4096 + r1 * 32768 + r2 * 1048576)
  have hlast : Hid (c + g * 4096 + r1 * 32768 + r2 * 1048576 + layF 5 im = encW 5 c g 0 0 r1 r2 im) := by
    have e : fixW 5 c g 0 = c + g * 4096 + 0 * 33554432 := rfl
    show c + g * 4096 + r1 * 32768 + r2 * 1048576 + layF 5 im = fixW 5 c g 0 + 0 * 128 + r1 * 32768 + r2 * 1048576 + layF 5 im
    rw [e]
    omega
  go_wp2
  go_loop [4, 9] (fun x t => ∃ k : Nat, ∃ o : Int, 5 ≤ k ∧ k ≤ 12 ∧ t = .int .i64 k ∧ x = .int .i64 o ∧ Hid (o = c + g * 4096 + r1 * 32768 + r2 * 1048576 + layF 5 (im % 2 ^ k))) (fun _ t => 12 - (intOf t).toNat)
  case atStart => exact ⟨5, _, by omega, by omega, rfl, rfl, by
    show _ = _
    rw [zeroS]
    omega⟩
  case round =>
    obtain ⟨k, o, hk0, hk1, rfl, rfl, ho⟩ := hrel
    by_cases hlt : k ≤ 11
    · obtain ⟨p0, p1, p2, p3⟩ := HST.out k hk0 hlt
      have hn := HN.out
      rw [← ho.out] at p1 p2
      have o0 : 0 ≤ o := by rw [ho.out]; omega
      have HR : Hid (o + bitT im k % 2 ^ 1 * 2 ^ atS k = c + g * 4096 + r1 * 32768 + r2 * 1048576 + layF 5 (im % 2 ^ (k + 1))) := by
        show _ = _
        rw [p3, ho.out]
        omega
      have hz : Hid (o / 2 ^ atS k % 2 ^ 1 = 0) := p2
      clear HST HN hlast ho p0 p2 p3 hn
      have hat : atS k = 20 + k := rfl
      go_wp2_with fail
      refine (bit_any im k _ (by omega)).mono ?_
      rintro e w2 ⟨rfl, rfl⟩
      go_wp2_with fail
      refine (putN o (bitT im k) (o + bitT im k % 2 ^ 1 * 2 ^ atS k) _ 1 (atS k) 1 _ _ _ (by rw [hat] <;> first | rfl | (push_cast; omega) | omega) rfl rfl rfl o0 p1 (by rw [hat]; omega) hz.out rfl).mono ?_
      rintro e w2 ⟨rfl, rfl⟩
      obtain ⟨o2, ho2⟩ : ∃ o2, o2 = o + bitT im k % 2 ^ 1 * 2 ^ atS k := ⟨_, rfl⟩
      have HO : Hid (o2 = c + g * 4096 + r1 * 32768 + r2 * 1048576 + layF 5 (im % 2 ^ (k + 1))) := ho2.trans HR.out
      rw [← ho2]
      clear ho2 HR hz hat
      go_wp2
      go_round
      case rel => exact ⟨k + 1, o2, by omega, by omega, by go_num, rfl, HO⟩
      case measure => simp [intOf] <;> omega
    · obtain rfl : k = 12 := by omega
      have HO : o = encW 5 c g 0 0 r1 r2 im := by rw [ho.out, fullS]; exact hlast.out
      clear ho HST HN hlast
      go_wp2
      go_ret
      exact ⟨rfl, HB1.out.alloc (by omega) _⟩
end Go.Proofs.YtelogjpjglohoaaGreatDoor

namespace Go.Proofs.YtelogjpjglohoaaGreatDoor
open Go.RowKit
set_option linter.unusedVariables false

set_option maxRecDepth 100000 in
set_option maxHeartbeats 8000000 in
theorem ens6 (op rd r1 im c g h : Int) (hs : Hid (shT op = (6, c, g, h))) (k0 : 0 ≤ c) (k1 : c < 128) (g0 : 0 ≤ g) (g1 : g < 8) (h0 : 0 ≤ h) (h1 : h < 64) (rd0 : 0 ≤ rd) (rd1 : rd ≤ 31) (r10 : 0 ≤ r1) (r11 : r1 ≤ 31) (sh : h % 2 = 0) (w : World) :
    Calls Tryz.prog 72 #[.agg #[.int .i64 op, .int .i64 rd, .int .i64 r1, .int .i64 0, .int .i64 im]] w fun e w' => e = .returned (.int .i64 (encW 6 c g h rd r1 0 im)) ∧ Below w.heap.size w w' := by
  go_enter Tryz.func72, Tryz.ntmps72
  go_wp2_with fail
  refine (specShs op 6 c g h _ hs.out).mono ?_
  rintro e w1 ⟨rfl, hb1⟩
  obtain ⟨hc1, hf1⟩ := bcell hb1
  have hz1 : w.heap.size < w1.heap.size := by have := hb1.size; simp at this; omega
  have HB1 : Hid (Below w.heap.size w w1) := ((Below.refl _ _).alloc (Nat.le_refl _) _).trans (hb1.mono (by simp))
  clear hs hb1
  go_wp2_with fail
  refine (putN (c) rd (c + rd * 128) 7 5 7 5 128 32 _ rfl rfl (by decide) (by decide) (by omega) (by omega) (by decide) (by omega) (by omega)).mono ?_
  rintro e w2 ⟨rfl, rfl⟩
  go_wp2_with fail
  refine (putN (c + rd * 128) g (c + rd * 128 + g * 4096) 12 3 12 3 4096 8 _ rfl rfl (by decide) (by decide) (by omega) (by omega) (by decide) (by omega) (by omega)).mono ?_
  rintro e w2 ⟨rfl, rfl⟩
  go_wp2_with fail
  refine (putN (c + rd * 128 + g * 4096) r1 (c + rd * 128 + g * 4096 + r1 * 32768) 15 5 15 5 32768 32 _ rfl rfl (by decide) (by decide) (by omega) (by omega) (by decide) (by omega) (by omega)).mono ?_
  rintro e w2 ⟨rfl, rfl⟩
  go_wp2_with fail
  refine (putN (c + rd * 128 + g * 4096 + r1 * 32768) h (c + rd * 128 + g * 4096 + r1 * 32768 + h * 33554432) 25 7 25 7 33554432 128 _ rfl rfl (by decide) (by decide) (by omega) (by omega) (by decide) (by omega) (by omega)).mono ?_
  rintro e w2 ⟨rfl, rfl⟩
  go_wp2_with fail
  refine (putN (c + rd * 128 + g * 4096 + r1 * 32768 + h * 33554432) im (c + rd * 128 + g * 4096 + r1 * 32768 + h * 33554432 + im % 64 * 1048576) 20 6 20 6 1048576 64 _ rfl rfl (by decide) (by decide) (by omega) (by omega) (by decide) (by omega) (by omega)).mono ?_
  rintro e w2 ⟨rfl, rfl⟩
  go_wp2
  go_ret
  refine ⟨congrArg (fun x => Ending.returned (.int .i64 x)) ?_, HB1.out.alloc (by omega) _⟩
  show c + rd * 128 + g * 4096 + r1 * 32768 + h * 33554432 + im % 64 * 1048576 = fixW 6 c g h + rd * 128 + r1 * 32768 + 0 * 1048576 + layF 6 im
  have l : layF 6 im = im % 64 * 1048576 := rfl
  have e : fixW 6 c g h = c + g * 4096 + h / 2 * 67108864 := rfl
  rw [l, e]
  omega
end Go.Proofs.YtelogjpjglohoaaGreatDoor

namespace Go.Proofs.YtelogjpjglohoaaGreatDoor
open Go.RowKit
set_option linter.unusedVariables false

set_option maxRecDepth 100000 in
set_option maxHeartbeats 8000000 in
theorem ens7 (op rd r1 im c g h : Int) (hs : Hid (shT op = (7, c, g, h))) (k0 : 0 ≤ c) (k1 : c < 128) (g0 : 0 ≤ g) (g1 : g < 8) (h0 : 0 ≤ h) (h1 : h < 64) (rd0 : 0 ≤ rd) (rd1 : rd ≤ 31) (r10 : 0 ≤ r1) (r11 : r1 ≤ 31)  (w : World) :
    Calls Tryz.prog 72 #[.agg #[.int .i64 op, .int .i64 rd, .int .i64 r1, .int .i64 0, .int .i64 im]] w fun e w' => e = .returned (.int .i64 (encW 7 c g h rd r1 0 im)) ∧ Below w.heap.size w w' := by
  go_enter Tryz.func72, Tryz.ntmps72
  go_wp2_with fail
  refine (specShs op 7 c g h _ hs.out).mono ?_
  rintro e w1 ⟨rfl, hb1⟩
  obtain ⟨hc1, hf1⟩ := bcell hb1
  have hz1 : w.heap.size < w1.heap.size := by have := hb1.size; simp at this; omega
  have HB1 : Hid (Below w.heap.size w w1) := ((Below.refl _ _).alloc (Nat.le_refl _) _).trans (hb1.mono (by simp))
  clear hs hb1
  go_wp2_with fail
  refine (putN (c) rd (c + rd * 128) 7 5 7 5 128 32 _ rfl rfl (by decide) (by decide) (by omega) (by omega) (by decide) (by omega) (by omega)).mono ?_
  rintro e w2 ⟨rfl, rfl⟩
  go_wp2_with fail
  refine (putN (c + rd * 128) g (c + rd * 128 + g * 4096) 12 3 12 3 4096 8 _ rfl rfl (by decide) (by decide) (by omega) (by omega) (by decide) (by omega) (by omega)).mono ?_
  rintro e w2 ⟨rfl, rfl⟩
  go_wp2_with fail
  refine (putN (c + rd * 128 + g * 4096) r1 (c + rd * 128 + g * 4096 + r1 * 32768) 15 5 15 5 32768 32 _ rfl rfl (by decide) (by decide) (by omega) (by omega) (by decide) (by omega) (by omega)).mono ?_
  rintro e w2 ⟨rfl, rfl⟩
  go_wp2_with fail
  refine (putN (c + rd * 128 + g * 4096 + r1 * 32768) h (c + rd * 128 + g * 4096 + r1 * 32768 + h * 33554432) 25 7 25 7 33554432 128 _ rfl rfl (by decide) (by decide) (by omega) (by omega) (by decide) (by omega) (by omega)).mono ?_
  rintro e w2 ⟨rfl, rfl⟩
  go_wp2_with fail
  refine (putN (c + rd * 128 + g * 4096 + r1 * 32768 + h * 33554432) im (c + rd * 128 + g * 4096 + r1 * 32768 + h * 33554432 + im % 32 * 1048576) 20 5 20 5 1048576 32 _ rfl rfl (by decide) (by decide) (by omega) (by omega) (by decide) (by omega) (by omega)).mono ?_
  rintro e w2 ⟨rfl, rfl⟩
  go_wp2
  go_ret
  refine ⟨congrArg (fun x => Ending.returned (.int .i64 x)) ?_, HB1.out.alloc (by omega) _⟩
  show c + rd * 128 + g * 4096 + r1 * 32768 + h * 33554432 + im % 32 * 1048576 = fixW 7 c g h + rd * 128 + r1 * 32768 + 0 * 1048576 + layF 7 im
  have l : layF 7 im = im % 32 * 1048576 := rfl
  have e : fixW 7 c g h = c + g * 4096 + h * 33554432 := rfl
  rw [l, e]
  omega
end Go.Proofs.YtelogjpjglohoaaGreatDoor

namespace Go.Proofs.YtelogjpjglohoaaGreatDoor
open Go.RowKit
set_option linter.unusedVariables false

set_option maxRecDepth 100000 in
set_option maxHeartbeats 8000000 in
theorem ens8 (op rd r1 r2 im c g h : Int) (hs : Hid (shT op = (8, c, g, h))) (k0 : 0 ≤ c) (k1 : c < 128) (g0 : 0 ≤ g) (g1 : g < 8) (h0 : 0 ≤ h) (h1 : h < 64) (rd0 : 0 ≤ rd) (rd1 : rd ≤ 31) (r10 : 0 ≤ r1) (r11 : r1 ≤ 31) (r20 : 0 ≤ r2) (r21 : r2 ≤ 31)  (w : World) :
    Calls Tryz.prog 72 #[.agg #[.int .i64 op, .int .i64 rd, .int .i64 r1, .int .i64 r2, .int .i64 im]] w fun e w' => e = .returned (.int .i64 (encW 8 c g h rd r1 r2 im)) ∧ Below w.heap.size w w' := by
  go_enter Tryz.func72, Tryz.ntmps72
  go_wp2_with fail
  refine (specShs op 8 c g h _ hs.out).mono ?_
  rintro e w1 ⟨rfl, hb1⟩
  obtain ⟨hc1, hf1⟩ := bcell hb1
  have hz1 : w.heap.size < w1.heap.size := by have := hb1.size; simp at this; omega
  have HB1 : Hid (Below w.heap.size w w1) := ((Below.refl _ _).alloc (Nat.le_refl _) _).trans (hb1.mono (by simp))
  clear hs hb1
  go_wp2_with fail
  refine (putN (c) rd (c + rd * 128) 7 5 7 5 128 32 _ rfl rfl (by decide) (by decide) (by omega) (by omega) (by decide) (by omega) (by omega)).mono ?_
  rintro e w2 ⟨rfl, rfl⟩
  go_wp2_with fail
  refine (putN (c + rd * 128) g (c + rd * 128 + g * 4096) 12 3 12 3 4096 8 _ rfl rfl (by decide) (by decide) (by omega) (by omega) (by decide) (by omega) (by omega)).mono ?_
  rintro e w2 ⟨rfl, rfl⟩
  go_wp2_with fail
  refine (putN (c + rd * 128 + g * 4096) r1 (c + rd * 128 + g * 4096 + r1 * 32768) 15 5 15 5 32768 32 _ rfl rfl (by decide) (by decide) (by omega) (by omega) (by decide) (by omega) (by omega)).mono ?_
  rintro e w2 ⟨rfl, rfl⟩
  go_wp2_with fail
  refine (putN (c + rd * 128 + g * 4096 + r1 * 32768) h (c + rd * 128 + g * 4096 + r1 * 32768 + h * 33554432) 25 7 25 7 33554432 128 _ rfl rfl (by decide) (by decide) (by omega) (by omega) (by decide) (by omega) (by omega)).mono ?_
  rintro e w2 ⟨rfl, rfl⟩
  go_wp2_with fail
  refine (putN (c + rd * 128 + g * 4096 + r1 * 32768 + h * 33554432) r2 (c + rd * 128 + g * 4096 + r1 * 32768 + h * 33554432 + r2 * 1048576) 20 5 20 5 1048576 32 _ rfl rfl (by decide) (by decide) (by omega) (by omega) (by decide) (by omega) (by omega)).mono ?_
  rintro e w2 ⟨rfl, rfl⟩
  go_wp2
  go_ret
  refine ⟨congrArg (fun x => Ending.returned (.int .i64 x)) ?_, HB1.out.alloc (by omega) _⟩
  show c + rd * 128 + g * 4096 + r1 * 32768 + h * 33554432 + r2 * 1048576 = fixW 8 c g h + rd * 128 + r1 * 32768 + r2 * 1048576 + layF 8 im
  have l : layF 8 im = 0 := rfl
  have e : fixW 8 c g h = c + g * 4096 + h * 33554432 := rfl
  rw [l, e]
  omega
end Go.Proofs.YtelogjpjglohoaaGreatDoor

namespace Go.Proofs.YtelogjpjglohoaaGreatDoor
open Go.RowKit
set_option linter.unusedVariables false

set_option maxRecDepth 100000 in
set_option maxHeartbeats 8000000 in
theorem ens9 (op  im c g h : Int) (hs : Hid (shT op = (9, c, g, h))) (k0 : 0 ≤ c) (k1 : c < 128) (g0 : 0 ≤ g) (g1 : g < 8) (h0 : 0 ≤ h) (h1 : h < 64)  (sg : g = 0) (w : World) :
    Calls Tryz.prog 72 #[.agg #[.int .i64 op, .int .i64 0, .int .i64 0, .int .i64 0, .int .i64 im]] w fun e w' => e = .returned (.int .i64 (encW 9 c g h 0 0 0 im)) ∧ Below w.heap.size w w' := by
  subst sg
  go_enter Tryz.func72, Tryz.ntmps72
  go_wp2_with fail
  refine (specShs op 9 c 0 h _ hs.out).mono ?_
  rintro e w1 ⟨rfl, hb1⟩
  obtain ⟨hc1, hf1⟩ := bcell hb1
  have hz1 : w.heap.size < w1.heap.size := by have := hb1.size; simp at this; omega
  have HB1 : Hid (Below w.heap.size w w1) := ((Below.refl _ _).alloc (Nat.le_refl _) _).trans (hb1.mono (by simp))
  clear hs hb1
  go_wp2_with fail
  refine (putN (c) h (c + h * 1048576) 20 12 20 12 1048576 4096 _ rfl rfl (by decide) (by decide) (by omega) (by omega) (by decide) (by omega) (by omega)).mono ?_
  rintro e w2 ⟨rfl, rfl⟩
  go_wp2
  go_ret
  refine ⟨congrArg (fun x => Ending.returned (.int .i64 x)) ?_, HB1.out.alloc (by omega) _⟩
  show c + h * 1048576 = fixW 9 c 0 h + 0 * 128 + 0 * 32768 + 0 * 1048576 + layF 9 im
  have l : layF 9 im = 0 := rfl
  have e : fixW 9 c 0 h = c + 0 * 4096 + h * 1048576 := rfl
  rw [l, e]
  omega
end Go.Proofs.YtelogjpjglohoaaGreatDoor

namespace Go.Proofs.YtelogjpjglohoaaGreatDoor
open Go.RowKit
set_option linter.unusedVariables false

theorem sh_more {f c g h : Int} (hs : shOK f c g h = true) : (f = 1 → g = 0 ∧ h = 0) ∧ (f = 2 → g = 0 ∧ h = 0) ∧ (f = 3 → h = 0) ∧ (f = 4 → h = 0) ∧ (f = 5 → h = 0) ∧ (f = 9 → g = 0) := by
  simp only [shOK, Bool.and_eq_true, Bool.or_eq_true, decide_eq_true_eq] at hs
  obtain ⟨⟨⟨⟨⟨⟨⟨⟨⟨⟨⟨⟨⟨f0, f1⟩, k0⟩, k1⟩, g0⟩, g1⟩, h0⟩, h1⟩, s1⟩, s2⟩, s3⟩, s4⟩, s5⟩, s9⟩ := hs
  exact ⟨by omega, by omega, by omega, by omega, by omega, by omega⟩

theorem specEncYes (op rd r1 r2 im f c g h : Int) (w : World) (hr : rightB op rd r1 r2 im = true) (hs : shT op = (f, c, g, h)) :
    Calls Tryz.prog 72 #[.agg #[.int .i64 op, .int .i64 rd, .int .i64 r1, .int .i64 r2, .int .i64 im]] w fun e w' => e = .returned (.int .i64 (encW f c g h rd r1 r2 im)) ∧ Below w.heap.size w w' := by
  have hop : 1 ≤ op ∧ op ≤ 64 := by
    unfold rightB at hr
    exact of_decide_eq_true (Bool.and_eq_true_iff.1 hr).1
  have hf : rightF f rd r1 r2 im = true := by
    unfold rightB at hr
    have := (Bool.and_eq_true_iff.1 hr).2
    rw [hs] at this
    exact this
  have hok : shOK f c g h = true := by
    have := shT_ok op hop.1 hop.2
    rw [hs] at this
    exact this
  have h6 : f = 6 → h % 2 = 0 := by
    have := sh6 op hop.1 hop.2
    rw [hs] at this
    exact this
  obtain ⟨f0, f1, k0, k1, g0, g1, h0, h1⟩ := sh_bounds hok
  obtain ⟨m1, m2, m3, m4, m5, m9⟩ := sh_more hok
  obtain ⟨⟨b1, b2, b3⟩, z1, z2, z3⟩ := right_parts f0 f1 hf
  obtain ⟨rd0, rd1⟩ := regB_bd b1
  obtain ⟨r10, r11⟩ := regB_bd b2
  obtain ⟨r20, r21⟩ := regB_bd b3
  rcases (show f = 1 ∨ f = 2 ∨ f = 3 ∨ f = 4 ∨ f = 5 ∨ f = 6 ∨ f = 7 ∨ f = 8 ∨ f = 9 by omega) with rfl | rfl | rfl | rfl | rfl | rfl | rfl | rfl | rfl
  · obtain rfl := z2 (by omega)
    obtain rfl := z3 (by omega)
    have hk : okB 1 im = true := by
      have : (regB rd && (0 : Int) == 0 && (0 : Int) == 0 && okB 1 im) = true := hf
      simpa using (Bool.and_eq_true_iff.1 this).2
    have ho : -2147483648 ≤ im ∧ im ≤ 2147479552 ∧ im % 4096 = 0 := (okB_iff 1 im (by decide) (by decide)).1 hk
    exact ens1 op rd im c g h hs k0 k1 g0 g1 h0 h1 rd0 rd1 ho.1 (by omega) ho.2.2 (m1 rfl).1 (m1 rfl).2 w
  · obtain rfl := z2 (by omega)
    obtain rfl := z3 (by omega)
    exact ens2 op rd im c g h hs k0 k1 g0 g1 h0 h1 rd0 rd1 (m2 rfl).1 (m2 rfl).2 w
  · obtain rfl := z3 (by omega)
    exact ens3 op rd r1 im c g h hs k0 k1 g0 g1 h0 h1 rd0 rd1 r10 r11 (m3 rfl) w
  · obtain rfl := z1 (by omega)
    exact ens4 op r1 r2 im c g h hs k0 k1 g0 g1 h0 h1 r10 r11 r20 r21 (m4 rfl) w
  · obtain rfl := z1 (by omega)
    exact ens5 op r1 r2 im c g h hs k0 k1 g0 g1 h0 h1 r10 r11 r20 r21 (m5 rfl) w
  · obtain rfl := z3 (by omega)
    exact ens6 op rd r1 im c g h hs k0 k1 g0 g1 h0 h1 rd0 rd1 r10 r11 (h6 rfl) w
  · obtain rfl := z3 (by omega)
    exact ens7 op rd r1 im c g h hs k0 k1 g0 g1 h0 h1 rd0 rd1 r10 r11 w
  · exact ens8 op rd r1 r2 im c g h hs k0 k1 g0 g1 h0 h1 rd0 rd1 r10 r11 r20 r21 w
  · obtain rfl := z1 (by omega)
    obtain rfl := z2 (by omega)
    obtain rfl := z3 (by omega)
    exact ens9 op im c g h hs k0 k1 g0 g1 h0 h1 (m9 rfl) w

/-- The word of an instruction, 0 of what is none; the code. -/
def encT (op rd r1 r2 im : Int) : Int := if rightB op rd r1 r2 im = true then encW (shT op).1 (shT op).2.1 (shT op).2.2.1 (shT op).2.2.2 rd r1 r2 im else 0
def encE (op rd r1 r2 im : Int) : Int := if rightB op rd r1 r2 im = true then 0 else 1

end Go.Proofs.YtelogjpjglohoaaGreatDoor

namespace Go.Proofs.YtelogjpjglohoaaGreatDoor
set_option linter.unusedVariables false

set_option maxHeartbeats 1000000 in
theorem fix_hit (f c g h w : Int) (hs : shOK f c g h = true) (w0 : 0 ≤ w) (w1 : w < 4294967296) : bits .and .i64 w (fixB f) = fixW f c g h ↔ hitI f c g h w := by
  obtain ⟨f0, f1, k0, k1, g0, g1, h0, h1⟩ := sh_bounds hs
  obtain ⟨m1, m2, m3, m4, m5, m9⟩ := sh_more hs
  obtain ⟨n, rfl⟩ := Int.eq_ofNat_of_zero_le w0
  have hn : n < 4294967296 := by omega
  rcases (show f = 1 ∨ f = 2 ∨ f = 3 ∨ f = 4 ∨ f = 5 ∨ f = 6 ∨ f = 7 ∨ f = 8 ∨ f = 9 by omega) with rfl | rfl | rfl | rfl | rfl | rfl | rfl | rfl | rfl
  · obtain ⟨rfl, rfl⟩ := m1 rfl
    show bits .and .i64 (n : Int) 127 = c + 0 * 4096 + 0 * 33554432 ↔ (n : Int) % 128 = c
    rw [and_127 n hn]
    omega
  · obtain ⟨rfl, rfl⟩ := m2 rfl
    show bits .and .i64 (n : Int) 127 = c + 0 * 4096 + 0 * 33554432 ↔ (n : Int) % 128 = c
    rw [and_127 n hn]
    omega
  · obtain rfl := m3 rfl
    show bits .and .i64 (n : Int) 28799 = c + g * 4096 + 0 * 33554432 ↔ (n : Int) % 128 = c ∧ (n : Int) / 4096 % 8 = g
    rw [and_28799 n hn]
    omega
  · obtain rfl := m4 rfl
    show bits .and .i64 (n : Int) 28799 = c + g * 4096 + 0 * 33554432 ↔ (n : Int) % 128 = c ∧ (n : Int) / 4096 % 8 = g
    rw [and_28799 n hn]
    omega
  · obtain rfl := m5 rfl
    show bits .and .i64 (n : Int) 28799 = c + g * 4096 + 0 * 33554432 ↔ (n : Int) % 128 = c ∧ (n : Int) / 4096 % 8 = g
    rw [and_28799 n hn]
    omega
  · show bits .and .i64 (n : Int) 4227887231 = c + g * 4096 + h / 2 * 67108864 ↔ (n : Int) % 128 = c ∧ (n : Int) / 4096 % 8 = g ∧ (n : Int) / 67108864 = h / 2
    rw [and_4227887231 n hn]
    have e : ((n % 128 + n / 4096 % 8 * 4096 + n / 67108864 * 67108864 : Nat) : Int) = (n : Int) % 128 + (n : Int) / 4096 % 8 * 4096 + (n : Int) / 67108864 * 67108864 := by omega
    rw [e]
    have p : 0 ≤ (n : Int) % 128 ∧ (n : Int) % 128 < 128 := by omega
    have q : 0 ≤ (n : Int) / 4096 % 8 ∧ (n : Int) / 4096 % 8 < 8 := by omega
    have r : 0 ≤ h / 2 := by omega
    generalize (n : Int) % 128 = x at *
    generalize (n : Int) / 4096 % 8 = y at *
    generalize (n : Int) / 67108864 = z at *
    generalize h / 2 = u at *
    omega
  · show bits .and .i64 (n : Int) 4261441663 = c + g * 4096 + h * 33554432 ↔ (n : Int) % 128 = c ∧ (n : Int) / 4096 % 8 = g ∧ (n : Int) / 33554432 = h
    rw [and_4261441663 n hn]
    have e : ((n % 128 + n / 4096 % 8 * 4096 + n / 33554432 * 33554432 : Nat) : Int) = (n : Int) % 128 + (n : Int) / 4096 % 8 * 4096 + (n : Int) / 33554432 * 33554432 := by omega
    rw [e]
    have p : 0 ≤ (n : Int) % 128 ∧ (n : Int) % 128 < 128 := by omega
    have q : 0 ≤ (n : Int) / 4096 % 8 ∧ (n : Int) / 4096 % 8 < 8 := by omega
    generalize (n : Int) % 128 = x at *
    generalize (n : Int) / 4096 % 8 = y at *
    generalize (n : Int) / 33554432 = z at *
    omega
  · show bits .and .i64 (n : Int) 4261441663 = c + g * 4096 + h * 33554432 ↔ (n : Int) % 128 = c ∧ (n : Int) / 4096 % 8 = g ∧ (n : Int) / 33554432 = h
    rw [and_4261441663 n hn]
    have e : ((n % 128 + n / 4096 % 8 * 4096 + n / 33554432 * 33554432 : Nat) : Int) = (n : Int) % 128 + (n : Int) / 4096 % 8 * 4096 + (n : Int) / 33554432 * 33554432 := by omega
    rw [e]
    have p : 0 ≤ (n : Int) % 128 ∧ (n : Int) % 128 < 128 := by omega
    have q : 0 ≤ (n : Int) / 4096 % 8 ∧ (n : Int) / 4096 % 8 < 8 := by omega
    generalize (n : Int) % 128 = x at *
    generalize (n : Int) / 4096 % 8 = y at *
    generalize (n : Int) / 33554432 = z at *
    omega
  · show bits .and .i64 (n : Int) 4294967295 = c + g * 4096 + h * 1048576 ↔ (n : Int) = c + g * 4096 + h * 1048576
    rw [and_all n hn]

theorem lay_take2 (a b c d : Int) (ha : 0 ≤ a ∧ a < 256) (hb : 0 ≤ b ∧ b < 2) (hc : 0 ≤ c ∧ c < 1024) (hd : 0 ≤ d ∧ d < 2) :
    layF 2 (sgn (a * 4096 + b * 2048 + c * 2 + d * 1048576) 21) = a * 4096 + b * 1048576 + c * 2097152 + d * 2147483648 := by
  rw [sgn_num _ 21 1048576 2097152 (by decide) (by decide)]
  have e : (a * 4096 + b * 2048 + c * 2 + d * 1048576 + 1048576) % 2097152 - 1048576 = a * 4096 + b * 2048 + c * 2 - d * 1048576 := by
    rcases (show d = 0 ∨ d = 1 by omega) with rfl | rfl <;> omega
  rw [e]
  generalize hv : a * 4096 + b * 2048 + c * 2 - d * 1048576 = v
  show v / 4096 % 256 * 4096 + v / 2048 % 2 * 1048576 + v / 2 % 1024 * 2097152 + v / 1048576 % 2 * 2147483648 = _
  have e1 : v / 4096 = a - 256 * d := by omega
  have e2 : v / 2048 = a * 2 + b - 512 * d := by omega
  have e3 : v / 2 = a * 2048 + b * 1024 + c - 524288 * d := by omega
  have e4 : v / 1048576 = -d := by omega
  rw [e1, e2, e3, e4]
  have p1 : (a - 256 * d) % 256 = a := by omega
  have p2 : (a * 2 + b - 512 * d) % 2 = b := by omega
  have p3 : (a * 2048 + b * 1024 + c - 524288 * d) % 1024 = c := by omega
  have p4 : (-d) % 2 = d := by omega
  rw [p1, p2, p3, p4]
theorem lay_take4 (a b c d : Int) (ha : 0 ≤ a ∧ a < 2) (hb : 0 ≤ b ∧ b < 16) (hc : 0 ≤ c ∧ c < 64) (hd : 0 ≤ d ∧ d < 2) :
    layF 4 (sgn (a * 2048 + b * 2 + c * 32 + d * 4096) 13) = a * 128 + b * 256 + c * 33554432 + d * 2147483648 := by
  rw [sgn_num _ 13 4096 8192 (by decide) (by decide)]
  have e : (a * 2048 + b * 2 + c * 32 + d * 4096 + 4096) % 8192 - 4096 = a * 2048 + b * 2 + c * 32 - d * 4096 := by
    rcases (show d = 0 ∨ d = 1 by omega) with rfl | rfl <;> omega
  rw [e]
  generalize hv : a * 2048 + b * 2 + c * 32 - d * 4096 = v
  show v / 2048 % 2 * 128 + v / 2 % 16 * 256 + v / 32 % 64 * 33554432 + v / 4096 % 2 * 2147483648 = _
  have e1 : v / 2048 = a - 2 * d := by omega
  have e2 : v / 2 = a * 1024 + b + c * 16 - 2048 * d := by omega
  have e3 : v / 32 = a * 64 + c - 128 * d := by omega
  have e4 : v / 4096 = -d := by omega
  rw [e1, e2, e3, e4]
  have p1 : (a - 2 * d) % 2 = a := by omega
  have p2 : (a * 1024 + b + c * 16 - 2048 * d) % 16 = b := by omega
  have p3 : (a * 64 + c - 128 * d) % 64 = c := by omega
  have p4 : (-d) % 2 = d := by omega
  rw [p1, p2, p3, p4]
theorem lay_take5 (a c : Int) (ha : 0 ≤ a ∧ a < 32) (hc : 0 ≤ c ∧ c < 128) : layF 5 (sgn (a + c * 32) 12) = a * 128 + c * 33554432 := by
  rw [sgn_num _ 12 2048 4096 (by decide) (by decide)]
  generalize hv : (a + c * 32 + 2048) % 4096 - 2048 = v
  show v % 32 * 128 + v / 32 % 128 * 33554432 = _
  have p1 : v % 32 = a := by omega
  have p2 : v / 32 % 128 = c := by omega
  rw [p1, p2]
end Go.Proofs.YtelogjpjglohoaaGreatDoor
