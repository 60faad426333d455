/- An instruction's word, by the model: form 7. An instruction's word, by the model: form 8. -/
import Derived.Test.YtodikjjajncimaaDoorGXWordsOf31
namespace Go.Proofs.YtodikjjajncimaaDoor
open Go.RowKit
set_option linter.unusedVariables false

set_option maxRecDepth 100000 in
set_option maxHeartbeats 8000000 in
theorem ens7 (op rd r1 im c g h : Int) (hs : Hid (shT op = (7, c, g, h))) (k0 : 0 ≤ c) (k1 : c < 128) (g0 : 0 ≤ g) (g1 : g < 8) (h0 : 0 ≤ h) (h1 : h < 64) (rd0 : 0 ≤ rd) (rd1 : rd ≤ 31) (r10 : 0 ≤ r1) (r11 : r1 ≤ 31)  (w : World) :
    Calls Tryd.prog 43 #[.agg #[.int .i64 op, .int .i64 rd, .int .i64 r1, .int .i64 0, .int .i64 im]] w fun e w' => e = .returned (.int .i64 (encW 7 c g h rd r1 0 im)) ∧ Below w.heap.size w w' := by
  go_enter Tryd.func43, Tryd.ntmps43
  go_wp2_with fail
  refine (specShs op 7 c g h _ hs.out).mono ?_
  rintro e w1 ⟨rfl, hb1⟩
  obtain ⟨hc1, hf1⟩ := bcell hb1
  have hz1 : w.heap.size < w1.heap.size := by have := hb1.size; simp at this; omega
  have HB1 : Hid (Below w.heap.size w w1) := ((Below.refl _ _).alloc (Nat.le_refl _) _).trans (hb1.mono (by simp))
  clear hs hb1
  go_wp2_with fail
  refine (putN (c) rd (c + rd * 128) 7 5 7 5 128 32 _ rfl rfl (by decide) (by decide) (by omega) (by omega) (by decide) (by omega) (by omega)).mono ?_
  rintro e w2 ⟨rfl, rfl⟩
  go_wp2_with fail
  refine (putN (c + rd * 128) g (c + rd * 128 + g * 4096) 12 3 12 3 4096 8 _ rfl rfl (by decide) (by decide) (by omega) (by omega) (by decide) (by omega) (by omega)).mono ?_
  rintro e w2 ⟨rfl, rfl⟩
  go_wp2_with fail
  refine (putN (c + rd * 128 + g * 4096) r1 (c + rd * 128 + g * 4096 + r1 * 32768) 15 5 15 5 32768 32 _ rfl rfl (by decide) (by decide) (by omega) (by omega) (by decide) (by omega) (by omega)).mono ?_
  rintro e w2 ⟨rfl, rfl⟩
  go_wp2_with fail
  refine (putN (c + rd * 128 + g * 4096 + r1 * 32768) h (c + rd * 128 + g * 4096 + r1 * 32768 + h * 33554432) 25 7 25 7 33554432 128 _ rfl rfl (by decide) (by decide) (by omega) (by omega) (by decide) (by omega) (by omega)).mono ?_
  rintro e w2 ⟨rfl, rfl⟩
  go_wp2_with fail
  refine (putN (c + rd * 128 + g * 4096 + r1 * 32768 + h * 33554432) im (c + rd * 128 + g * 4096 + r1 * 32768 + h * 33554432 + im % 32 * 1048576) 20 5 20 5 1048576 32 _ rfl rfl (by decide) (by decide) (by omega) (by omega) (by decide) (by omega) (by omega)).mono ?_
  rintro e w2 ⟨rfl, rfl⟩
  go_wp2
  go_ret
  refine ⟨congrArg (fun x => Ending.returned (.int .i64 x)) ?_, HB1.out.alloc (by omega) _⟩
  show c + rd * 128 + g * 4096 + r1 * 32768 + h * 33554432 + im % 32 * 1048576 = fixW 7 c g h + rd * 128 + r1 * 32768 + 0 * 1048576 + layF 7 im
  have l : layF 7 im = im % 32 * 1048576 := rfl
  have e : fixW 7 c g h = c + g * 4096 + h * 33554432 := rfl
  rw [l, e]
  omega
end Go.Proofs.YtodikjjajncimaaDoor

namespace Go.Proofs.YtodikjjajncimaaDoor
open Go.RowKit
set_option linter.unusedVariables false

set_option maxRecDepth 100000 in
set_option maxHeartbeats 8000000 in
theorem ens8 (op rd r1 r2 im c g h : Int) (hs : Hid (shT op = (8, c, g, h))) (k0 : 0 ≤ c) (k1 : c < 128) (g0 : 0 ≤ g) (g1 : g < 8) (h0 : 0 ≤ h) (h1 : h < 64) (rd0 : 0 ≤ rd) (rd1 : rd ≤ 31) (r10 : 0 ≤ r1) (r11 : r1 ≤ 31) (r20 : 0 ≤ r2) (r21 : r2 ≤ 31)  (w : World) :
    Calls Tryd.prog 43 #[.agg #[.int .i64 op, .int .i64 rd, .int .i64 r1, .int .i64 r2, .int .i64 im]] w fun e w' => e = .returned (.int .i64 (encW 8 c g h rd r1 r2 im)) ∧ Below w.heap.size w w' := by
  go_enter Tryd.func43, Tryd.ntmps43
  go_wp2_with fail
  refine (specShs op 8 c g h _ hs.out).mono ?_
  rintro e w1 ⟨rfl, hb1⟩
  obtain ⟨hc1, hf1⟩ := bcell hb1
  have hz1 : w.heap.size < w1.heap.size := by have := hb1.size; simp at this; omega
  have HB1 : Hid (Below w.heap.size w w1) := ((Below.refl _ _).alloc (Nat.le_refl _) _).trans (hb1.mono (by simp))
  clear hs hb1
  go_wp2_with fail
  refine (putN (c) rd (c + rd * 128) 7 5 7 5 128 32 _ rfl rfl (by decide) (by decide) (by omega) (by omega) (by decide) (by omega) (by omega)).mono ?_
  rintro e w2 ⟨rfl, rfl⟩
  go_wp2_with fail
  refine (putN (c + rd * 128) g (c + rd * 128 + g * 4096) 12 3 12 3 4096 8 _ rfl rfl (by decide) (by decide) (by omega) (by omega) (by decide) (by omega) (by omega)).mono ?_
  rintro e w2 ⟨rfl, rfl⟩
  go_wp2_with fail
  refine (putN (c + rd * 128 + g * 4096) r1 (c + rd * 128 + g * 4096 + r1 * 32768) 15 5 15 5 32768 32 _ rfl rfl (by decide) (by decide) (by omega) (by omega) (by decide) (by omega) (by omega)).mono ?_
  rintro e w2 ⟨rfl, rfl⟩
  go_wp2_with fail
  refine (putN (c + rd * 128 + g * 4096 + r1 * 32768) h (c + rd * 128 + g * 4096 + r1 * 32768 + h * 33554432) 25 7 25 7 33554432 128 _ rfl rfl (by decide) (by decide) (by omega) (by omega) (by decide) (by omega) (by omega)).mono ?_
  rintro e w2 ⟨rfl, rfl⟩
  go_wp2_with fail
  refine (putN (c + rd * 128 + g * 4096 + r1 * 32768 + h * 33554432) r2 (c + rd * 128 + g * 4096 + r1 * 32768 + h * 33554432 + r2 * 1048576) 20 5 20 5 1048576 32 _ rfl rfl (by decide) (by decide) (by omega) (by omega) (by decide) (by omega) (by omega)).mono ?_
  rintro e w2 ⟨rfl, rfl⟩
  go_wp2
  go_ret
  refine ⟨congrArg (fun x => Ending.returned (.int .i64 x)) ?_, HB1.out.alloc (by omega) _⟩
  show c + rd * 128 + g * 4096 + r1 * 32768 + h * 33554432 + r2 * 1048576 = fixW 8 c g h + rd * 128 + r1 * 32768 + r2 * 1048576 + layF 8 im
  have l : layF 8 im = 0 := rfl
  have e : fixW 8 c g h = c + g * 4096 + h * 33554432 := rfl
  rw [l, e]
  omega
end Go.Proofs.YtodikjjajncimaaDoor
