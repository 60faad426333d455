/- An instruction's word, by the model: form 9. Encode of the model: the contract. -/
import Derived.Test.YtjpdjalhhokghaaDoorGXEncode6
import Derived.Test.YtjpdjalhhokghaaDoorGXEncode7
import Derived.Test.YtjpdjalhhokghaaDoorGXEncode8
import Derived.Test.YtjpdjalhhokghaaDoorGXEncode9
import Derived.Test.YtjpdjalhhokghaaDoorGXEncode10
import Derived.Test.YtjpdjalhhokghaaDoorGXEncode11
namespace Go.Proofs.YtjpdjalhhokghaaDoor
open Go.RowKit
set_option linter.unusedVariables false

set_option maxRecDepth 100000 in
set_option maxHeartbeats 8000000 in
theorem ens9 (op  im c g h : Int) (hs : Hid (shT op = (9, c, g, h))) (k0 : 0 ≤ c) (k1 : c < 128) (g0 : 0 ≤ g) (g1 : g < 8) (h0 : 0 ≤ h) (h1 : h < 64)  (sg : g = 0) (w : World) :
    Calls Tryd.prog 69 #[.agg #[.int .i64 op, .int .i64 0, .int .i64 0, .int .i64 0, .int .i64 im]] w fun e w' => e = .returned (.int .i64 (encW 9 c g h 0 0 0 im)) ∧ Below w.heap.size w w' := by
  subst sg
  go_enter Tryd.func69, Tryd.ntmps69
  go_wp2_with fail
  refine (specShs op 9 c 0 h _ hs.out).mono ?_
  rintro e w1 ⟨rfl, hb1⟩
  obtain ⟨hc1, hf1⟩ := bcell hb1
  have hz1 : w.heap.size < w1.heap.size := by have := hb1.size; simp at this; omega
  have HB1 : Hid (Below w.heap.size w w1) := ((Below.refl _ _).alloc (Nat.le_refl _) _).trans (hb1.mono (by simp))
  clear hs hb1
  go_wp2_with fail
  refine (putN (c) h (c + h * 1048576) 20 12 20 12 1048576 4096 _ rfl rfl (by decide) (by decide) (by omega) (by omega) (by decide) (by omega) (by omega)).mono ?_
  rintro e w2 ⟨rfl, rfl⟩
  go_wp2
  go_ret
  refine ⟨congrArg (fun x => Ending.returned (.int .i64 x)) ?_, HB1.out.alloc (by omega) _⟩
  show c + h * 1048576 = fixW 9 c 0 h + 0 * 128 + 0 * 32768 + 0 * 1048576 + layF 9 im
  have l : layF 9 im = 0 := rfl
  have e : fixW 9 c 0 h = c + 0 * 4096 + h * 1048576 := rfl
  rw [l, e]
  omega
end Go.Proofs.YtjpdjalhhokghaaDoor

namespace Go.Proofs.YtjpdjalhhokghaaDoor
open Go.RowKit
set_option linter.unusedVariables false

theorem sh_more {f c g h : Int} (hs : shOK f c g h = true) : (f = 1 → g = 0 ∧ h = 0) ∧ (f = 2 → g = 0 ∧ h = 0) ∧ (f = 3 → h = 0) ∧ (f = 4 → h = 0) ∧ (f = 5 → h = 0) ∧ (f = 9 → g = 0) := by
  simp only [shOK, Bool.and_eq_true, Bool.or_eq_true, decide_eq_true_eq] at hs
  obtain ⟨⟨⟨⟨⟨⟨⟨⟨⟨⟨⟨⟨⟨f0, f1⟩, k0⟩, k1⟩, g0⟩, g1⟩, h0⟩, h1⟩, s1⟩, s2⟩, s3⟩, s4⟩, s5⟩, s9⟩ := hs
  exact ⟨by omega, by omega, by omega, by omega, by omega, by omega⟩

theorem specEncYes (op rd r1 r2 im f c g h : Int) (w : World) (hr : rightB op rd r1 r2 im = true) (hs : shT op = (f, c, g, h)) :
    Calls Tryd.prog 69 #[.agg #[.int .i64 op, .int .i64 rd, .int .i64 r1, .int .i64 r2, .int .i64 im]] w fun e w' => e = .returned (.int .i64 (encW f c g h rd r1 r2 im)) ∧ Below w.heap.size w w' := by
  have hop : 1 ≤ op ∧ op ≤ 64 := by
    unfold rightB at hr
    exact of_decide_eq_true (Bool.and_eq_true_iff.1 hr).1
  have hf : rightF f rd r1 r2 im = true := by
    unfold rightB at hr
    have := (Bool.and_eq_true_iff.1 hr).2
    rw [hs] at this
    exact this
  have hok : shOK f c g h = true := by
    have := shT_ok op hop.1 hop.2
    rw [hs] at this
    exact this
  have h6 : f = 6 → h % 2 = 0 := by
    have := sh6 op hop.1 hop.2
    rw [hs] at this
    exact this
  obtain ⟨f0, f1, k0, k1, g0, g1, h0, h1⟩ := sh_bounds hok
  obtain ⟨m1, m2, m3, m4, m5, m9⟩ := sh_more hok
  obtain ⟨⟨b1, b2, b3⟩, z1, z2, z3⟩ := right_parts f0 f1 hf
  obtain ⟨rd0, rd1⟩ := regB_bd b1
  obtain ⟨r10, r11⟩ := regB_bd b2
  obtain ⟨r20, r21⟩ := regB_bd b3
  rcases (show f = 1 ∨ f = 2 ∨ f = 3 ∨ f = 4 ∨ f = 5 ∨ f = 6 ∨ f = 7 ∨ f = 8 ∨ f = 9 by omega) with rfl | rfl | rfl | rfl | rfl | rfl | rfl | rfl | rfl
  · obtain rfl := z2 (by omega)
    obtain rfl := z3 (by omega)
    have hk : okB 1 im = true := by
      have : (regB rd && (0 : Int) == 0 && (0 : Int) == 0 && okB 1 im) = true := hf
      simpa using (Bool.and_eq_true_iff.1 this).2
    have ho : -2147483648 ≤ im ∧ im ≤ 2147479552 ∧ im % 4096 = 0 := (okB_iff 1 im (by decide) (by decide)).1 hk
    exact ens1 op rd im c g h hs k0 k1 g0 g1 h0 h1 rd0 rd1 ho.1 (by omega) ho.2.2 (m1 rfl).1 (m1 rfl).2 w
  · obtain rfl := z2 (by omega)
    obtain rfl := z3 (by omega)
    exact ens2 op rd im c g h hs k0 k1 g0 g1 h0 h1 rd0 rd1 (m2 rfl).1 (m2 rfl).2 w
  · obtain rfl := z3 (by omega)
    exact ens3 op rd r1 im c g h hs k0 k1 g0 g1 h0 h1 rd0 rd1 r10 r11 (m3 rfl) w
  · obtain rfl := z1 (by omega)
    exact ens4 op r1 r2 im c g h hs k0 k1 g0 g1 h0 h1 r10 r11 r20 r21 (m4 rfl) w
  · obtain rfl := z1 (by omega)
    exact ens5 op r1 r2 im c g h hs k0 k1 g0 g1 h0 h1 r10 r11 r20 r21 (m5 rfl) w
  · obtain rfl := z3 (by omega)
    exact ens6 op rd r1 im c g h hs k0 k1 g0 g1 h0 h1 rd0 rd1 r10 r11 (h6 rfl) w
  · obtain rfl := z3 (by omega)
    exact ens7 op rd r1 im c g h hs k0 k1 g0 g1 h0 h1 rd0 rd1 r10 r11 w
  · exact ens8 op rd r1 r2 im c g h hs k0 k1 g0 g1 h0 h1 rd0 rd1 r10 r11 r20 r21 w
  · obtain rfl := z1 (by omega)
    obtain rfl := z2 (by omega)
    obtain rfl := z3 (by omega)
    exact ens9 op im c g h hs k0 k1 g0 g1 h0 h1 (m9 rfl) w

/-- The word of an instruction, 0 of what is none; the code. -/
def encT (op rd r1 r2 im : Int) : Int := if rightB op rd r1 r2 im = true then encW (shT op).1 (shT op).2.1 (shT op).2.2.1 (shT op).2.2.2 rd r1 r2 im else 0
def encE (op rd r1 r2 im : Int) : Int := if rightB op rd r1 r2 im = true then 0 else 1

theorem implEnc (op rd r1 r2 im : Int) (w : World) (hl : Laid w) :
    Calls Tryd.prog 30 #[.agg #[.int .i64 op, .int .i64 rd, .int .i64 r1, .int .i64 r2, .int .i64 im]] w fun e w' => e = .returned (.tuple #[.int .i64 (encT op rd r1 r2 im), .int .i64 (encE op rd r1 r2 im)]) ∧ Below w.heap.size w w' := by
  unfold encT encE
  cases hr : rightB op rd r1 r2 im with
  | true =>
    rw [if_pos rfl, if_pos rfl]
    exact encYes op rd r1 r2 im _ _ _ _ w hl hr rfl
  | false =>
    rw [if_neg (by decide), if_neg (by decide)]
    exact encNo op rd r1 r2 im w hl hr

set_option maxHeartbeats 1000000 in
theorem specEnc (op rd r1 r2 im : Int) (w : World) :
    Calls Tryd.prog 29 #[.agg #[.int .i64 op, .int .i64 rd, .int .i64 r1, .int .i64 r2, .int .i64 im]] w fun e w' => e = .returned (.tuple #[.int .i64 (encT op rd r1 r2 im), .int .i64 (encE op rd r1 r2 im)]) ∧ Below w.heap.size w w' := by
  unfold encT encE
  cases hr : rightB op rd r1 r2 im with
  | true =>
    rw [if_pos rfl, if_pos rfl]
    have HE : Hid (∀ w, Calls Tryd.prog 69 #[.agg #[.int .i64 op, .int .i64 rd, .int .i64 r1, .int .i64 r2, .int .i64 im]] w fun e w' => e = .returned (.int .i64 (encW (shT op).1 (shT op).2.1 (shT op).2.2.1 (shT op).2.2.2 rd r1 r2 im)) ∧ Below w.heap.size w w') := fun w => specEncYes op rd r1 r2 im _ _ _ _ w hr rfl
    generalize encW (shT op).1 (shT op).2.1 (shT op).2.2.1 (shT op).2.2.2 rd r1 r2 im = E at *
    go_enter Tryd.func29, Tryd.ntmps29
    go_wp2_with fail
    refine (rightC op rd r1 r2 im _).mono ?_
    rintro e w1 ⟨rfl, hb1⟩
    obtain ⟨hc1, hf1⟩ := bcell hb1
    have hz1 : w.heap.size < w1.heap.size := by have := hb1.size; simp at this; omega
    have HB1 : Below w.heap.size w w1 := ((Below.refl _ _).alloc (Nat.le_refl _) _).trans (hb1.mono (by simp))
    clear hb1
    go_wp2_with fail
    refine (HE.out _).mono ?_
    rintro e w2 ⟨rfl, hb2⟩
    have HB2 : Hid (Below w.heap.size w w2) := HB1.trans (hb2.mono HB1.size)
    clear hb2 HE HB1 hc1 hf1
    go_wp2
    go_ret2
    exact ⟨rfl, HB2.out⟩
  | false =>
    rw [if_neg (by decide), if_neg (by decide)]
    go_enter Tryd.func29, Tryd.ntmps29
    go_wp2_with fail
    refine (rightC op rd r1 r2 im _).mono ?_
    rintro e w1 ⟨rfl, hb1⟩
    have HB1 : Hid (Below w.heap.size w w1) := ((Below.refl _ _).alloc (Nat.le_refl _) _).trans (hb1.mono (by simp))
    clear hb1
    go_wp2
    go_ret2
    exact ⟨rfl, HB1.out⟩
end Go.Proofs.YtjpdjalhhokghaaDoor
