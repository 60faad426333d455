/- An instruction's word, by the model: form 5. An instruction's word, by the model: form 6. An instruction's word, by the model: form 7. An instruction's word, by the model: form 8. An instruction's word, by the model: form 9. Encode of the model: the contract. -/
import Derived.Test.YtepanogpojolfaaDoorGXDecode31
namespace Go.Proofs.YtepanogpojolfaaDoor
open Go.RowKit
set_option linter.unusedVariables false

set_option maxRecDepth 100000 in
set_option maxHeartbeats 8000000 in
theorem ens5 (op r1 r2 im c g h : Int) (hs : Hid (shT op = (5, c, g, h))) (k0 : 0 ≤ c) (k1 : c < 128) (g0 : 0 ≤ g) (g1 : g < 8) (h0 : 0 ≤ h) (h1 : h < 64) (r10 : 0 ≤ r1) (r11 : r1 ≤ 31) (r20 : 0 ≤ r2) (r21 : r2 ≤ 31) (sh : h = 0) (w : World) :
    Calls Tryd.prog 40 #[.agg #[.int .i64 op, .int .i64 0, .int .i64 r1, .int .i64 r2, .int .i64 im]] w fun e w' => e = .returned (.int .i64 (encW 5 c g h 0 r1 r2 im)) ∧ Below w.heap.size w w' := by
  subst sh
  go_enter Tryd.func40, Tryd.ntmps40
  go_wp2_with fail
  refine (specShs op 5 c g 0 _ hs.out).mono ?_
  rintro e w1 ⟨rfl, hb1⟩
  obtain ⟨hc1, hf1⟩ := bcell hb1
  have hz1 : w.heap.size < w1.heap.size := by have := hb1.size; simp at this; omega
  have HB1 : Hid (Below w.heap.size w w1) := ((Below.refl _ _).alloc (Nat.le_refl _) _).trans (hb1.mono (by simp))
  clear hs hb1
  go_wp2_with fail
  refine (putN (c) im (c + im % 32 * 128) 7 5 7 5 128 32 _ rfl rfl (by decide) (by decide) (by omega) (by omega) (by decide) (by omega) (by omega)).mono ?_
  rintro e w2 ⟨rfl, rfl⟩
  go_wp2_with fail
  refine (putN (c + im % 32 * 128) g (c + im % 32 * 128 + g * 4096) 12 3 12 3 4096 8 _ rfl rfl (by decide) (by decide) (by omega) (by omega) (by decide) (by omega) (by omega)).mono ?_
  rintro e w2 ⟨rfl, rfl⟩
  go_wp2_with fail
  refine (putN (c + im % 32 * 128 + g * 4096) r1 (c + im % 32 * 128 + g * 4096 + r1 * 32768) 15 5 15 5 32768 32 _ rfl rfl (by decide) (by decide) (by omega) (by omega) (by decide) (by omega) (by omega)).mono ?_
  rintro e w2 ⟨rfl, rfl⟩
  go_wp2_with fail
  refine (putN (c + im % 32 * 128 + g * 4096 + r1 * 32768) r2 (c + im % 32 * 128 + g * 4096 + r1 * 32768 + r2 * 1048576) 20 5 20 5 1048576 32 _ rfl rfl (by decide) (by decide) (by omega) (by omega) (by decide) (by omega) (by omega)).mono ?_
  rintro e w2 ⟨rfl, rfl⟩
  have hst := fun (k : Nat) (h0 : 5 ≤ k) (h1 : k ≤ 11) => stepS im (c + g * 4096 + r1 * 32768 + r2 * 1048576) k (by omega) (by omega) (by omega) h0 h1
  have HST : Hid (∀ k : Nat, 5 ≤ k → k ≤ 11 → 0 ≤ layF 5 (im % 2 ^ k) ∧ c + g * 4096 + r1 * 32768 + r2 * 1048576 + layF 5 (im % 2 ^ k) < 4294967296 ∧ (c + g * 4096 + r1 * 32768 + r2 * 1048576 + layF 5 (im % 2 ^ k)) / 2 ^ atS k % 2 ^ 1 = 0 ∧
    layF 5 (im % 2 ^ (k + 1)) = layF 5 (im % 2 ^ k) + bitT im k % 2 ^ 1 * 2 ^ atS k) := hst
  clear hst
  have HN : Hid (0 ≤ c + g * 4096 + r1 * 32768 + r2 * 1048576) := (by omega : 0 ≤ c + g * 4096 + r1 * 32768 + r2 * 1048576)
  have hlast : Hid (c + g * 4096 + r1 * 32768 + r2 * 1048576 + layF 5 im = encW 5 c g 0 0 r1 r2 im) := by
    have e : fixW 5 c g 0 = c + g * 4096 + 0 * 33554432 := rfl
    show c + g * 4096 + r1 * 32768 + r2 * 1048576 + layF 5 im = fixW 5 c g 0 + 0 * 128 + r1 * 32768 + r2 * 1048576 + layF 5 im
    rw [e]
    omega
  go_wp2
  go_loop [4, 9] (fun x t => ∃ k : Nat, ∃ o : Int, 5 ≤ k ∧ k ≤ 12 ∧ t = .int .i64 k ∧ x = .int .i64 o ∧ Hid (o = c + g * 4096 + r1 * 32768 + r2 * 1048576 + layF 5 (im % 2 ^ k))) (fun _ t => 12 - (intOf t).toNat)
  case atStart => exact ⟨5, _, by omega, by omega, rfl, rfl, by
    show _ = _
    rw [zeroS]
    omega⟩
  case round =>
    obtain ⟨k, o, hk0, hk1, rfl, rfl, ho⟩ := hrel
    by_cases hlt : k ≤ 11
    · obtain ⟨p0, p1, p2, p3⟩ := HST.out k hk0 hlt
      have hn := HN.out
      rw [← ho.out] at p1 p2
      have o0 : 0 ≤ o := by rw [ho.out]; omega
      have HR : Hid (o + bitT im k % 2 ^ 1 * 2 ^ atS k = c + g * 4096 + r1 * 32768 + r2 * 1048576 + layF 5 (im % 2 ^ (k + 1))) := by
        show _ = _
        rw [p3, ho.out]
        omega
      have hz : Hid (o / 2 ^ atS k % 2 ^ 1 = 0) := p2
      clear HST HN hlast ho p0 p2 p3 hn
      have hat : atS k = 20 + k := rfl
      go_wp2_with fail
      refine (bit_any im k _ (by omega)).mono ?_
      rintro e w2 ⟨rfl, rfl⟩
      go_wp2_with fail
      refine (putN o (bitT im k) (o + bitT im k % 2 ^ 1 * 2 ^ atS k) _ 1 (atS k) 1 _ _ _ (by rw [hat] <;> first | rfl | (push_cast; omega) | omega) rfl rfl rfl o0 p1 (by rw [hat]; omega) hz.out rfl).mono ?_
      rintro e w2 ⟨rfl, rfl⟩
      obtain ⟨o2, ho2⟩ : ∃ o2, o2 = o + bitT im k % 2 ^ 1 * 2 ^ atS k := ⟨_, rfl⟩
      have HO : Hid (o2 = c + g * 4096 + r1 * 32768 + r2 * 1048576 + layF 5 (im % 2 ^ (k + 1))) := ho2.trans HR.out
      rw [← ho2]
      clear ho2 HR hz hat
      go_wp2
      go_round
      case rel => exact ⟨k + 1, o2, by omega, by omega, by go_num, rfl, HO⟩
      case measure => simp [intOf] <;> omega
    · obtain rfl : k = 12 := by omega
      have HO : o = encW 5 c g 0 0 r1 r2 im := by rw [ho.out, fullS]; exact hlast.out
      clear ho HST HN hlast
      go_wp2
      go_ret
      exact ⟨rfl, HB1.out.alloc (by omega) _⟩
end Go.Proofs.YtepanogpojolfaaDoor

namespace Go.Proofs.YtepanogpojolfaaDoor
open Go.RowKit
set_option linter.unusedVariables false

set_option maxRecDepth 100000 in
set_option maxHeartbeats 8000000 in
theorem ens6 (op rd r1 im c g h : Int) (hs : Hid (shT op = (6, c, g, h))) (k0 : 0 ≤ c) (k1 : c < 128) (g0 : 0 ≤ g) (g1 : g < 8) (h0 : 0 ≤ h) (h1 : h < 64) (rd0 : 0 ≤ rd) (rd1 : rd ≤ 31) (r10 : 0 ≤ r1) (r11 : r1 ≤ 31) (sh : h % 2 = 0) (w : World) :
    Calls Tryd.prog 40 #[.agg #[.int .i64 op, .int .i64 rd, .int .i64 r1, .int .i64 0, .int .i64 im]] w fun e w' => e = .returned (.int .i64 (encW 6 c g h rd r1 0 im)) ∧ Below w.heap.size w w' := by
  go_enter Tryd.func40, Tryd.ntmps40
  go_wp2_with fail
  refine (specShs op 6 c g h _ hs.out).mono ?_
  rintro e w1 ⟨rfl, hb1⟩
  obtain ⟨hc1, hf1⟩ := bcell hb1
  have hz1 : w.heap.size < w1.heap.size := by have := hb1.size; simp at this; omega
  have HB1 : Hid (Below w.heap.size w w1) := ((Below.refl _ _).alloc (Nat.le_refl _) _).trans (hb1.mono (by simp))
  clear hs hb1
  go_wp2_with fail
  refine (putN (c) rd (c + rd * 128) 7 5 7 5 128 32 _ rfl rfl (by decide) (by decide) (by omega) (by omega) (by decide) (by omega) (by omega)).mono ?_
  rintro e w2 ⟨rfl, rfl⟩
  go_wp2_with fail
  refine (putN (c + rd * 128) g (c + rd * 128 + g * 4096) 12 3 12 3 4096 8 _ rfl rfl (by decide) (by decide) (by omega) (by omega) (by decide) (by omega) (by omega)).mono ?_
  rintro e w2 ⟨rfl, rfl⟩
  go_wp2_with fail
  refine (putN (c + rd * 128 + g * 4096) r1 (c + rd * 128 + g * 4096 + r1 * 32768) 15 5 15 5 32768 32 _ rfl rfl (by decide) (by decide) (by omega) (by omega) (by decide) (by omega) (by omega)).mono ?_
  rintro e w2 ⟨rfl, rfl⟩
  go_wp2_with fail
  refine (putN (c + rd * 128 + g * 4096 + r1 * 32768) h (c + rd * 128 + g * 4096 + r1 * 32768 + h * 33554432) 25 7 25 7 33554432 128 _ rfl rfl (by decide) (by decide) (by omega) (by omega) (by decide) (by omega) (by omega)).mono ?_
  rintro e w2 ⟨rfl, rfl⟩
  go_wp2_with fail
  refine (putN (c + rd * 128 + g * 4096 + r1 * 32768 + h * 33554432) im (c + rd * 128 + g * 4096 + r1 * 32768 + h * 33554432 + im % 64 * 1048576) 20 6 20 6 1048576 64 _ rfl rfl (by decide) (by decide) (by omega) (by omega) (by decide) (by omega) (by omega)).mono ?_
  rintro e w2 ⟨rfl, rfl⟩
  go_wp2
  go_ret
  refine ⟨congrArg (fun x => Ending.returned (.int .i64 x)) ?_, HB1.out.alloc (by omega) _⟩
  show c + rd * 128 + g * 4096 + r1 * 32768 + h * 33554432 + im % 64 * 1048576 = fixW 6 c g h + rd * 128 + r1 * 32768 + 0 * 1048576 + layF 6 im
  have l : layF 6 im = im % 64 * 1048576 := rfl
  have e : fixW 6 c g h = c + g * 4096 + h / 2 * 67108864 := rfl
  rw [l, e]
  omega
end Go.Proofs.YtepanogpojolfaaDoor

namespace Go.Proofs.YtepanogpojolfaaDoor
open Go.RowKit
set_option linter.unusedVariables false

set_option maxRecDepth 100000 in
set_option maxHeartbeats 8000000 in
theorem ens7 (op rd r1 im c g h : Int) (hs : Hid (shT op = (7, c, g, h))) (k0 : 0 ≤ c) (k1 : c < 128) (g0 : 0 ≤ g) (g1 : g < 8) (h0 : 0 ≤ h) (h1 : h < 64) (rd0 : 0 ≤ rd) (rd1 : rd ≤ 31) (r10 : 0 ≤ r1) (r11 : r1 ≤ 31)  (w : World) :
    Calls Tryd.prog 40 #[.agg #[.int .i64 op, .int .i64 rd, .int .i64 r1, .int .i64 0, .int .i64 im]] w fun e w' => e = .returned (.int .i64 (encW 7 c g h rd r1 0 im)) ∧ Below w.heap.size w w' := by
  go_enter Tryd.func40, Tryd.ntmps40
  go_wp2_with fail
  refine (specShs op 7 c g h _ hs.out).mono ?_
  rintro e w1 ⟨rfl, hb1⟩
  obtain ⟨hc1, hf1⟩ := bcell hb1
  have hz1 : w.heap.size < w1.heap.size := by have := hb1.size; simp at this; omega
  have HB1 : Hid (Below w.heap.size w w1) := ((Below.refl _ _).alloc (Nat.le_refl _) _).trans (hb1.mono (by simp))
  clear hs hb1
  go_wp2_with fail
  refine (putN (c) rd (c + rd * 128) 7 5 7 5 128 32 _ rfl rfl (by decide) (by decide) (by omega) (by omega) (by decide) (by omega) (by omega)).mono ?_
  rintro e w2 ⟨rfl, rfl⟩
  go_wp2_with fail
  refine (putN (c + rd * 128) g (c + rd * 128 + g * 4096) 12 3 12 3 4096 8 _ rfl rfl (by decide) (by decide) (by omega) (by omega) (by decide) (by omega) (by omega)).mono ?_
  rintro e w2 ⟨rfl, rfl⟩
  go_wp2_with fail
  refine (putN (c + rd * 128 + g * 4096) r1 (c + rd * 128 + g * 4096 + r1 * 32768) 15 5 15 5 32768 32 _ rfl rfl (by decide) (by decide) (by omega) (by omega) (by decide) (by omega) (by omega)).mono ?_
  rintro e w2 ⟨rfl, rfl⟩
  go_wp2_with fail
  refine (putN (c + rd * 128 + g * 4096 + r1 * 32768) h (c + rd * 128 + g * 4096 + r1 * 32768 + h * 33554432) 25 7 25 7 33554432 128 _ rfl rfl (by decide) (by decide) (by omega) (by omega) (by decide) (by omega) (by omega)).mono ?_
  rintro e w2 ⟨rfl, rfl⟩
  go_wp2_with fail
  refine (putN (c + rd * 128 + g * 4096 + r1 * 32768 + h * 33554432) im (c + rd * 128 + g * 4096 + r1 * 32768 + h * 33554432 + im % 32 * 1048576) 20 5 20 5 1048576 32 _ rfl rfl (by decide) (by decide) (by omega) (by omega) (by decide) (by omega) (by omega)).mono ?_
  rintro e w2 ⟨rfl, rfl⟩
  go_wp2
  go_ret
  refine ⟨congrArg (fun x => Ending.returned (.int .i64 x)) ?_, HB1.out.alloc (by omega) _⟩
  show c + rd * 128 + g * 4096 + r1 * 32768 + h * 33554432 + im % 32 * 1048576 = fixW 7 c g h + rd * 128 + r1 * 32768 + 0 * 1048576 + layF 7 im
  have l : layF 7 im = im % 32 * 1048576 := rfl
  have e : fixW 7 c g h = c + g * 4096 + h * 33554432 := rfl
  rw [l, e]
  omega
end Go.Proofs.YtepanogpojolfaaDoor

namespace Go.Proofs.YtepanogpojolfaaDoor
open Go.RowKit
set_option linter.unusedVariables false

set_option maxRecDepth 100000 in
set_option maxHeartbeats 8000000 in
theorem ens8 (op rd r1 r2 im c g h : Int) (hs : Hid (shT op = (8, c, g, h))) (k0 : 0 ≤ c) (k1 : c < 128) (g0 : 0 ≤ g) (g1 : g < 8) (h0 : 0 ≤ h) (h1 : h < 64) (rd0 : 0 ≤ rd) (rd1 : rd ≤ 31) (r10 : 0 ≤ r1) (r11 : r1 ≤ 31) (r20 : 0 ≤ r2) (r21 : r2 ≤ 31)  (w : World) :
    Calls Tryd.prog 40 #[.agg #[.int .i64 op, .int .i64 rd, .int .i64 r1, .int .i64 r2, .int .i64 im]] w fun e w' => e = .returned (.int .i64 (encW 8 c g h rd r1 r2 im)) ∧ Below w.heap.size w w' := by
  go_enter Tryd.func40, Tryd.ntmps40
  go_wp2_with fail
  refine (specShs op 8 c g h _ hs.out).mono ?_
  rintro e w1 ⟨rfl, hb1⟩
  obtain ⟨hc1, hf1⟩ := bcell hb1
  have hz1 : w.heap.size < w1.heap.size := by have := hb1.size; simp at this; omega
  have HB1 : Hid (Below w.heap.size w w1) := ((Below.refl _ _).alloc (Nat.le_refl _) _).trans (hb1.mono (by simp))
  clear hs hb1
  go_wp2_with fail
  refine (putN (c) rd (c + rd * 128) 7 5 7 5 128 32 _ rfl rfl (by decide) (by decide) (by omega) (by omega) (by decide) (by omega) (by omega)).mono ?_
  rintro e w2 ⟨rfl, rfl⟩
  go_wp2_with fail
  refine (putN (c + rd * 128) g (c + rd * 128 + g * 4096) 12 3 12 3 4096 8 _ rfl rfl (by decide) (by decide) (by omega) (by omega) (by decide) (by omega) (by omega)).mono ?_
  rintro e w2 ⟨rfl, rfl⟩
  go_wp2_with fail
  refine (putN (c + rd * 128 + g * 4096) r1 (c + rd * 128 + g * 4096 + r1 * 32768) 15 5 15 5 32768 32 _ rfl rfl (by decide) (by decide) (by omega) (by omega) (by decide) (by omega) (by omega)).mono ?_
  rintro e w2 ⟨rfl, rfl⟩
  go_wp2_with fail
  refine (putN (c + rd * 128 + g * 4096 + r1 * 32768) h (c + rd * 128 + g * 4096 + r1 * 32768 + h * 33554432) 25 7 25 7 33554432 128 _ rfl rfl (by decide) (by decide) (by omega) (by omega) (by decide) (by omega) (by omega)).mono ?_
  rintro e w2 ⟨rfl, rfl⟩
  go_wp2_with fail
  refine (putN (c + rd * 128 + g * 4096 + r1 * 32768 + h * 33554432) r2 (c + rd * 128 + g * 4096 + r1 * 32768 + h * 33554432 + r2 * 1048576) 20 5 20 5 1048576 32 _ rfl rfl (by decide) (by decide) (by omega) (by omega) (by decide) (by omega) (by omega)).mono ?_
  rintro e w2 ⟨rfl, rfl⟩
  go_wp2
  go_ret
  refine ⟨congrArg (fun x => Ending.returned (.int .i64 x)) ?_, HB1.out.alloc (by omega) _⟩
  show c + rd * 128 + g * 4096 + r1 * 32768 + h * 33554432 + r2 * 1048576 = fixW 8 c g h + rd * 128 + r1 * 32768 + r2 * 1048576 + layF 8 im
  have l : layF 8 im = 0 := rfl
  have e : fixW 8 c g h = c + g * 4096 + h * 33554432 := rfl
  rw [l, e]
  omega
end Go.Proofs.YtepanogpojolfaaDoor

namespace Go.Proofs.YtepanogpojolfaaDoor
open Go.RowKit
set_option linter.unusedVariables false

set_option maxRecDepth 100000 in
set_option maxHeartbeats 8000000 in
theorem ens9 (op  im c g h : Int) (hs : Hid (shT op = (9, c, g, h))) (k0 : 0 ≤ c) (k1 : c < 128) (g0 : 0 ≤ g) (g1 : g < 8) (h0 : 0 ≤ h) (h1 : h < 64)  (sg : g = 0) (w : World) :
    Calls Tryd.prog 40 #[.agg #[.int .i64 op, .int .i64 0, .int .i64 0, .int .i64 0, .int .i64 im]] w fun e w' => e = .returned (.int .i64 (encW 9 c g h 0 0 0 im)) ∧ Below w.heap.size w w' := by
  subst sg
  go_enter Tryd.func40, Tryd.ntmps40
  go_wp2_with fail
  refine (specShs op 9 c 0 h _ hs.out).mono ?_
  rintro e w1 ⟨rfl, hb1⟩
  obtain ⟨hc1, hf1⟩ := bcell hb1
  have hz1 : w.heap.size < w1.heap.size := by have := hb1.size; simp at this; omega
  have HB1 : Hid (Below w.heap.size w w1) := ((Below.refl _ _).alloc (Nat.le_refl _) _).trans (hb1.mono (by simp))
  clear hs hb1
  go_wp2_with fail
  refine (putN (c) h (c + h * 1048576) 20 12 20 12 1048576 4096 _ rfl rfl (by decide) (by decide) (by omega) (by omega) (by decide) (by omega) (by omega)).mono ?_
  rintro e w2 ⟨rfl, rfl⟩
  go_wp2
  go_ret
  refine ⟨congrArg (fun x => Ending.returned (.int .i64 x)) ?_, HB1.out.alloc (by omega) _⟩
  show c + h * 1048576 = fixW 9 c 0 h + 0 * 128 + 0 * 32768 + 0 * 1048576 + layF 9 im
  have l : layF 9 im = 0 := rfl
  have e : fixW 9 c 0 h = c + 0 * 4096 + h * 1048576 := rfl
  rw [l, e]
  omega
end Go.Proofs.YtepanogpojolfaaDoor

namespace Go.Proofs.YtepanogpojolfaaDoor
open Go.RowKit
set_option linter.unusedVariables false

theorem sh_more {f c g h : Int} (hs : shOK f c g h = true) : (f = 1 → g = 0 ∧ h = 0) ∧ (f = 2 → g = 0 ∧ h = 0) ∧ (f = 3 → h = 0) ∧ (f = 4 → h = 0) ∧ (f = 5 → h = 0) ∧ (f = 9 → g = 0) := by
  simp only [shOK, Bool.and_eq_true, Bool.or_eq_true, decide_eq_true_eq] at hs
  obtain ⟨⟨⟨⟨⟨⟨⟨⟨⟨⟨⟨⟨⟨f0, f1⟩, k0⟩, k1⟩, g0⟩, g1⟩, h0⟩, h1⟩, s1⟩, s2⟩, s3⟩, s4⟩, s5⟩, s9⟩ := hs
  exact ⟨by omega, by omega, by omega, by omega, by omega, by omega⟩

theorem specEncYes (op rd r1 r2 im f c g h : Int) (w : World) (hr : rightB op rd r1 r2 im = true) (hs : shT op = (f, c, g, h)) :
    Calls Tryd.prog 40 #[.agg #[.int .i64 op, .int .i64 rd, .int .i64 r1, .int .i64 r2, .int .i64 im]] w fun e w' => e = .returned (.int .i64 (encW f c g h rd r1 r2 im)) ∧ Below w.heap.size w w' := by
  have hop : 1 ≤ op ∧ op ≤ 64 := by
    unfold rightB at hr
    exact of_decide_eq_true (Bool.and_eq_true_iff.1 hr).1
  have hf : rightF f rd r1 r2 im = true := by
    unfold rightB at hr
    have := (Bool.and_eq_true_iff.1 hr).2
    rw [hs] at this
    exact this
  have hok : shOK f c g h = true := by
    have := shT_ok op hop.1 hop.2
    rw [hs] at this
    exact this
  have h6 : f = 6 → h % 2 = 0 := by
    have := sh6 op hop.1 hop.2
    rw [hs] at this
    exact this
  obtain ⟨f0, f1, k0, k1, g0, g1, h0, h1⟩ := sh_bounds hok
  obtain ⟨m1, m2, m3, m4, m5, m9⟩ := sh_more hok
  obtain ⟨⟨b1, b2, b3⟩, z1, z2, z3⟩ := right_parts f0 f1 hf
  obtain ⟨rd0, rd1⟩ := regB_bd b1
  obtain ⟨r10, r11⟩ := regB_bd b2
  obtain ⟨r20, r21⟩ := regB_bd b3
  rcases (show f = 1 ∨ f = 2 ∨ f = 3 ∨ f = 4 ∨ f = 5 ∨ f = 6 ∨ f = 7 ∨ f = 8 ∨ f = 9 by omega) with rfl | rfl | rfl | rfl | rfl | rfl | rfl | rfl | rfl
  · obtain rfl := z2 (by omega)
    obtain rfl := z3 (by omega)
    have hk : okB 1 im = true := by
      have : (regB rd && (0 : Int) == 0 && (0 : Int) == 0 && okB 1 im) = true := hf
      simpa using (Bool.and_eq_true_iff.1 this).2
    have ho : -2147483648 ≤ im ∧ im ≤ 2147479552 ∧ im % 4096 = 0 := (okB_iff 1 im (by decide) (by decide)).1 hk
    exact ens1 op rd im c g h hs k0 k1 g0 g1 h0 h1 rd0 rd1 ho.1 (by omega) ho.2.2 (m1 rfl).1 (m1 rfl).2 w
  · obtain rfl := z2 (by omega)
    obtain rfl := z3 (by omega)
    exact ens2 op rd im c g h hs k0 k1 g0 g1 h0 h1 rd0 rd1 (m2 rfl).1 (m2 rfl).2 w
  · obtain rfl := z3 (by omega)
    exact ens3 op rd r1 im c g h hs k0 k1 g0 g1 h0 h1 rd0 rd1 r10 r11 (m3 rfl) w
  · obtain rfl := z1 (by omega)
    exact ens4 op r1 r2 im c g h hs k0 k1 g0 g1 h0 h1 r10 r11 r20 r21 (m4 rfl) w
  · obtain rfl := z1 (by omega)
    exact ens5 op r1 r2 im c g h hs k0 k1 g0 g1 h0 h1 r10 r11 r20 r21 (m5 rfl) w
  · obtain rfl := z3 (by omega)
    exact ens6 op rd r1 im c g h hs k0 k1 g0 g1 h0 h1 rd0 rd1 r10 r11 (h6 rfl) w
  · obtain rfl := z3 (by omega)
    exact ens7 op rd r1 im c g h hs k0 k1 g0 g1 h0 h1 rd0 rd1 r10 r11 w
  · exact ens8 op rd r1 r2 im c g h hs k0 k1 g0 g1 h0 h1 rd0 rd1 r10 r11 r20 r21 w
  · obtain rfl := z1 (by omega)
    obtain rfl := z2 (by omega)
    obtain rfl := z3 (by omega)
    exact ens9 op im c g h hs k0 k1 g0 g1 h0 h1 (m9 rfl) w

/-- The word of an instruction, 0 of what is none; the code. -/
def encT (op rd r1 r2 im : Int) : Int := if rightB op rd r1 r2 im = true then encW (shT op).1 (shT op).2.1 (shT op).2.2.1 (shT op).2.2.2 rd r1 r2 im else 0
def encE (op rd r1 r2 im : Int) : Int := if rightB op rd r1 r2 im = true then 0 else 1

theorem implEnc (op rd r1 r2 im : Int) (w : World) (hl : Laid w) :
    Calls Tryd.prog 10 #[.agg #[.int .i64 op, .int .i64 rd, .int .i64 r1, .int .i64 r2, .int .i64 im]] w fun e w' => e = .returned (.tuple #[.int .i64 (encT op rd r1 r2 im), .int .i64 (encE op rd r1 r2 im)]) ∧ Below w.heap.size w w' := by
  unfold encT encE
  cases hr : rightB op rd r1 r2 im with
  | true =>
    rw [if_pos rfl, if_pos rfl]
    exact encYes op rd r1 r2 im _ _ _ _ w hl hr rfl
  | false =>
    rw [if_neg (by decide), if_neg (by decide)]
    exact encNo op rd r1 r2 im w hl hr

set_option maxHeartbeats 1000000 in
theorem specEnc (op rd r1 r2 im : Int) (w : World) :
    Calls Tryd.prog 11 #[.agg #[.int .i64 op, .int .i64 rd, .int .i64 r1, .int .i64 r2, .int .i64 im]] w fun e w' => e = .returned (.tuple #[.int .i64 (encT op rd r1 r2 im), .int .i64 (encE op rd r1 r2 im)]) ∧ Below w.heap.size w w' := by
  unfold encT encE
  cases hr : rightB op rd r1 r2 im with
  | true =>
    rw [if_pos rfl, if_pos rfl]
    have HE : Hid (∀ w, Calls Tryd.prog 40 #[.agg #[.int .i64 op, .int .i64 rd, .int .i64 r1, .int .i64 r2, .int .i64 im]] w fun e w' => e = .returned (.int .i64 (encW (shT op).1 (shT op).2.1 (shT op).2.2.1 (shT op).2.2.2 rd r1 r2 im)) ∧ Below w.heap.size w w') := fun w => specEncYes op rd r1 r2 im _ _ _ _ w hr rfl
    generalize encW (shT op).1 (shT op).2.1 (shT op).2.2.1 (shT op).2.2.2 rd r1 r2 im = E at *
    go_enter Tryd.func11, Tryd.ntmps11
    go_wp2_with fail
    refine (rightC op rd r1 r2 im _).mono ?_
    rintro e w1 ⟨rfl, hb1⟩
    obtain ⟨hc1, hf1⟩ := bcell hb1
    have hz1 : w.heap.size < w1.heap.size := by have := hb1.size; simp at this; omega
    have HB1 : Below w.heap.size w w1 := ((Below.refl _ _).alloc (Nat.le_refl _) _).trans (hb1.mono (by simp))
    clear hb1
    go_wp2_with fail
    refine (HE.out _).mono ?_
    rintro e w2 ⟨rfl, hb2⟩
    have HB2 : Hid (Below w.heap.size w w2) := HB1.trans (hb2.mono HB1.size)
    clear hb2 HE HB1 hc1 hf1
    go_wp2
    go_ret2
    exact ⟨rfl, HB2.out⟩
  | false =>
    rw [if_neg (by decide), if_neg (by decide)]
    go_enter Tryd.func11, Tryd.ntmps11
    go_wp2_with fail
    refine (rightC op rd r1 r2 im _).mono ?_
    rintro e w1 ⟨rfl, hb1⟩
    have HB1 : Hid (Below w.heap.size w w1) := ((Below.refl _ _).alloc (Nat.le_refl _) _).trans (hb1.mono (by simp))
    clear hb1
    go_wp2
    go_ret2
    exact ⟨rfl, HB1.out⟩
end Go.Proofs.YtepanogpojolfaaDoor
