/- An instruction's word, by the model: form 9. -/
import Derived.Test.YtigdhbhjknpojaaDoorEnsC
namespace Go.Proofs.YtigdhbhjknpojaaDoor
open Go.RowKit
set_option linter.unusedVariables false

set_option maxRecDepth 100000 in
set_option maxHeartbeats 8000000 in
theorem ens9 (op  im c g h : Int) (hs : Hid (shT op = (9, c, g, h))) (k0 : 0 ≤ c) (k1 : c < 128) (g0 : 0 ≤ g) (g1 : g < 8) (h0 : 0 ≤ h) (h1 : h < 64)  (sg : g = 0) (w : World) :
    Calls Tryd.prog 35 #[.agg #[.int .i64 op, .int .i64 0, .int .i64 0, .int .i64 0, .int .i64 im]] w fun e w' => e = .returned (.int .i64 (encW 9 c g h 0 0 0 im)) ∧ Below w.heap.size w w' := by
  subst sg
  go_enter Tryd.func35, Tryd.ntmps35
  go_wp2_with fail
  refine (specShs op 9 c 0 h _ hs.out).mono ?_
  rintro e w1 ⟨rfl, hb1⟩
  obtain ⟨hc1, hf1⟩ := bcell hb1
  have hz1 : w.heap.size < w1.heap.size := by have := hb1.size; simp at this; omega
  have HB1 : Hid (Below w.heap.size w w1) := ((Below.refl _ _).alloc (Nat.le_refl _) _).trans (hb1.mono (by simp))
  clear hs hb1
  go_wp2_with fail
  refine (putN (c) h (c + h * 1048576) 20 12 20 12 1048576 4096 _ rfl rfl (by decide) (by decide) (by omega) (by omega) (by decide) (by omega) (by omega)).mono ?_
  rintro e w2 ⟨rfl, rfl⟩
  go_wp2
  go_ret
  refine ⟨congrArg (fun x => Ending.returned (.int .i64 x)) ?_, HB1.out.alloc (by omega) _⟩
  show c + h * 1048576 = fixW 9 c 0 h + 0 * 128 + 0 * 32768 + 0 * 1048576 + layF 9 im
  have l : layF 9 im = 0 := rfl
  have e : fixW 9 c 0 h = c + 0 * 4096 + h * 1048576 := rfl
  rw [l, e]
  omega
end Go.Proofs.YtigdhbhjknpojaaDoor
