/- An instruction's word, by the model: form 3. -/
import Derived.Test.YtjpdjalhhokghaaDoorGXEncode6
namespace Go.Proofs.YtjpdjalhhokghaaDoor
open Go.RowKit
set_option linter.unusedVariables false

set_option maxRecDepth 100000 in
set_option maxHeartbeats 8000000 in
theorem ens3 (op rd r1 im c g h : Int) (hs : Hid (shT op = (3, c, g, h))) (k0 : 0 ≤ c) (k1 : c < 128) (g0 : 0 ≤ g) (g1 : g < 8) (h0 : 0 ≤ h) (h1 : h < 64) (rd0 : 0 ≤ rd) (rd1 : rd ≤ 31) (r10 : 0 ≤ r1) (r11 : r1 ≤ 31) (sh : h = 0) (w : World) :
    Calls Tryd.prog 69 #[.agg #[.int .i64 op, .int .i64 rd, .int .i64 r1, .int .i64 0, .int .i64 im]] w fun e w' => e = .returned (.int .i64 (encW 3 c g h rd r1 0 im)) ∧ Below w.heap.size w w' := by
  subst sh
  go_enter Tryd.func69, Tryd.ntmps69
  go_wp2_with fail
  refine (specShs op 3 c g 0 _ hs.out).mono ?_
  rintro e w1 ⟨rfl, hb1⟩
  obtain ⟨hc1, hf1⟩ := bcell hb1
  have hz1 : w.heap.size < w1.heap.size := by have := hb1.size; simp at this; omega
  have HB1 : Hid (Below w.heap.size w w1) := ((Below.refl _ _).alloc (Nat.le_refl _) _).trans (hb1.mono (by simp))
  clear hs hb1
  go_wp2_with fail
  refine (putN (c) rd (c + rd * 128) 7 5 7 5 128 32 _ rfl rfl (by decide) (by decide) (by omega) (by omega) (by decide) (by omega) (by omega)).mono ?_
  rintro e w2 ⟨rfl, rfl⟩
  go_wp2_with fail
  refine (putN (c + rd * 128) g (c + rd * 128 + g * 4096) 12 3 12 3 4096 8 _ rfl rfl (by decide) (by decide) (by omega) (by omega) (by decide) (by omega) (by omega)).mono ?_
  rintro e w2 ⟨rfl, rfl⟩
  go_wp2_with fail
  refine (putN (c + rd * 128 + g * 4096) r1 (c + rd * 128 + g * 4096 + r1 * 32768) 15 5 15 5 32768 32 _ rfl rfl (by decide) (by decide) (by omega) (by omega) (by decide) (by omega) (by omega)).mono ?_
  rintro e w2 ⟨rfl, rfl⟩
  go_wp2_with fail
  refine (putN (c + rd * 128 + g * 4096 + r1 * 32768) im (c + rd * 128 + g * 4096 + r1 * 32768 + im % 4096 * 1048576) 20 12 20 12 1048576 4096 _ rfl rfl (by decide) (by decide) (by omega) (by omega) (by decide) (by omega) (by omega)).mono ?_
  rintro e w2 ⟨rfl, rfl⟩
  go_wp2
  go_ret
  refine ⟨congrArg (fun x => Ending.returned (.int .i64 x)) ?_, HB1.out.alloc (by omega) _⟩
  show c + rd * 128 + g * 4096 + r1 * 32768 + im % 4096 * 1048576 = fixW 3 c g 0 + rd * 128 + r1 * 32768 + 0 * 1048576 + layF 3 im
  have l : layF 3 im = im % 4096 * 1048576 := rfl
  have e : fixW 3 c g 0 = c + g * 4096 + 0 * 33554432 := rfl
  rw [l, e]
  omega
end Go.Proofs.YtjpdjalhhokghaaDoor
