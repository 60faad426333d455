/- An instruction's word, by the model: form 1. -/
import Derived.Test.YtigdhbhjknpojaaDoorEnsC
namespace Go.Proofs.YtigdhbhjknpojaaDoor
open Go.RowKit
set_option linter.unusedVariables false

set_option maxRecDepth 100000 in
set_option maxHeartbeats 8000000 in
theorem ens1 (op rd im c g h : Int) (hs : Hid (shT op = (1, c, g, h))) (k0 : 0 ≤ c) (k1 : c < 128) (g0 : 0 ≤ g) (g1 : g < 8) (h0 : 0 ≤ h) (h1 : h < 64) (rd0 : 0 ≤ rd) (rd1 : rd ≤ 31) (m0 : -2147483648 ≤ im) (m1 : im ≤ 2147483647) (hm : im % 4096 = 0) (sg : g = 0) (sh : h = 0) (w : World) :
    Calls Tryd.prog 35 #[.agg #[.int .i64 op, .int .i64 rd, .int .i64 0, .int .i64 0, .int .i64 im]] w fun e w' => e = .returned (.int .i64 (encW 1 c g h rd 0 0 im)) ∧ Below w.heap.size w w' := by
  obtain ⟨y, hy⟩ : ∃ y, y = im / 4096 := ⟨_, rfl⟩
  have HY : Hid (y = im / 4096) := hy
  have ht : im.tdiv 4096 = y := by
    have := (tm0 im 4096).2 hm
    have h2 := Int.mul_tdiv_add_tmod im 4096
    omega
  have hwy : wrap64 y = y := wrap_in y (by omega) (by omega)
  clear hy m0 m1
  subst sh
  subst sg
  clear hm
  go_enter Tryd.func35, Tryd.ntmps35
  go_wp2_with fail
  refine (specShs op 1 c 0 0 _ hs.out).mono ?_
  rintro e w1 ⟨rfl, hb1⟩
  obtain ⟨hc1, hf1⟩ := bcell hb1
  have hz1 : w.heap.size < w1.heap.size := by have := hb1.size; simp at this; omega
  have HB1 : Hid (Below w.heap.size w w1) := ((Below.refl _ _).alloc (Nat.le_refl _) _).trans (hb1.mono (by simp))
  clear hs hb1
  go_wp2_with fail
  refine (putN (c) rd (c + rd * 128) 7 5 7 5 128 32 _ rfl rfl (by decide) (by decide) (by omega) (by omega) (by decide) (by omega) (by omega)).mono ?_
  rintro e w2 ⟨rfl, rfl⟩
  go_wp2_with fail
  refine (putN (c + rd * 128) y (c + rd * 128 + y % 1048576 * 4096) 12 20 12 20 4096 1048576 _ rfl rfl (by decide) (by decide) (by omega) (by omega) (by decide) (by omega) (by omega)).mono ?_
  rintro e w2 ⟨rfl, rfl⟩
  go_wp2
  go_ret
  refine ⟨congrArg (fun x => Ending.returned (.int .i64 x)) ?_, HB1.out.alloc (by omega) _⟩
  show c + rd * 128 + y % 1048576 * 4096 = fixW 1 c 0 0 + rd * 128 + 0 * 32768 + 0 * 1048576 + layF 1 im
  have l : layF 1 im = im / 4096 % 1048576 * 4096 := rfl
  have e : fixW 1 c 0 0 = c + 0 * 4096 + 0 * 33554432 := rfl
  rw [l, e, HY.out]
  omega
end Go.Proofs.YtigdhbhjknpojaaDoor
