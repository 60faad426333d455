/- Encode of the program: the contract. An instruction's word, by the model: the steps. An instruction's word, by the model: form 1. -/
import Derived.Test.YtodikjjajncimaaDoorGXWordsOf27
import Derived.Test.YtodikjjajncimaaDoorGXWordsOf30
import Derived.Deep.RegionHeld3
import Derived.Test.YtodikjjajncimaaDoorGXWordsOf5
import Derived.Test.YtodikjjajncimaaDoorGXWordsOf9
import Derived.Test.YtodikjjajncimaaDoorGXWordsOf26
namespace Go.Proofs.YtodikjjajncimaaDoor
open Go.RowKit
set_option linter.unusedVariables false

theorem right_parts {f rd r1 r2 im : Int} (h0 : 1 ≤ f) (h1 : f ≤ 9) (h : rightF f rd r1 r2 im = true) :
    (regB rd = true ∧ regB r1 = true ∧ regB r2 = true) ∧ (f = 4 ∨ f = 5 ∨ f = 9 → rd = 0) ∧ (f = 1 ∨ f = 2 ∨ f = 9 → r1 = 0) ∧ (¬ (f = 4 ∨ f = 5 ∨ f = 8) → r2 = 0) := by
  have hz : ∀ r : Int, (r == 0) = true → regB r = true ∧ r = 0 := fun r e => by
    have := eq_of_beq e
    subst this
    exact ⟨rfl, rfl⟩
  rcases (show f = 1 ∨ f = 2 ∨ f = 3 ∨ f = 4 ∨ f = 5 ∨ f = 6 ∨ f = 7 ∨ f = 8 ∨ f = 9 by omega) with rfl | rfl | rfl | rfl | rfl | rfl | rfl | rfl | rfl
  all_goals
    simp [rightF] at h
    simp
    try omega
  all_goals simp_all [regB]

/-- The rule of a form, and what it lays. -/
theorem rule_lay (f im : Int) (h0 : 1 ≤ f) (h1 : f ≤ 9) : ∃ R : Value, (∀ w, Calls Tryd.prog 40 #[.int .i64 f] w fun e w' => e = .returned R ∧ Below w.heap.size w w') ∧
    (∀ w, Calls Tryd.prog 41 #[R, .int .i64 im] w fun e w' => e = .returned (.int .i64 (layF f im)) ∧ Below w.heap.size w w') := by
  rcases (show f = 1 ∨ f = 2 ∨ f = 3 ∨ f = 4 ∨ f = 5 ∨ f = 6 ∨ f = 7 ∨ f = 8 ∨ f = 9 by omega) with rfl | rfl | rfl | rfl | rfl | rfl | rfl | rfl | rfl
  · exact ⟨rule1, fun w => rule_1 w, fun w => lay1 im w⟩
  · exact ⟨rule2, fun w => rule_2 w, fun w => lay2 im w⟩
  · exact ⟨rule3, fun w => rule_3 w, fun w => lay3 im w⟩
  · exact ⟨rule4, fun w => rule_4 w, fun w => lay4 im w⟩
  · exact ⟨rule5, fun w => rule_5 w, fun w => lay5 im w⟩
  · exact ⟨rule6, fun w => rule_6 w, fun w => lay6 im w⟩
  · exact ⟨rule7, fun w => rule_7 w, fun w => lay7 im w⟩
  · exact ⟨rule8, fun w => rule_none 8 (.inl rfl) w, fun w => lay8 im w⟩
  · exact ⟨rule8, fun w => rule_none 9 (.inr (.inl rfl)) w, fun w => lay8 im w⟩

theorem shapeCs (op f c g h : Int) (w : World) (hs : shT op = (f, c, g, h)) :
    Calls Tryd.prog 38 #[.int .i64 op] w fun e w' => e = .returned (.agg #[.int .i64 f, .int .i64 c, .int .i64 g, .int .i64 h]) ∧ Below w.heap.size w w' := by
  have := shapeC op w
  rw [hs] at this
  exact this

theorem encNo (op rd r1 r2 im : Int) (w : World) (hl : Laid w) (hr : rightB op rd r1 r2 im = false) :
    Calls Tryd.prog 10 #[.agg #[.int .i64 op, .int .i64 rd, .int .i64 r1, .int .i64 r2, .int .i64 im]] w fun e w' => e = .returned (.tuple #[.int .i64 0, .int .i64 1]) ∧ Below w.heap.size w w' := by
  go_enter Tryd.func10, Tryd.ntmps10
  go_wp2_with fail
  refine (insC op rd r1 r2 im _ (laid_below hl ((Below.refl _ _).alloc (Nat.le_refl _) _))).mono ?_
  rintro e w1 ⟨rfl, hb1⟩
  have HB1 : Hid (Below w.heap.size w w1) := ((Below.refl _ _).alloc (Nat.le_refl _) _).trans (hb1.mono (by simp))
  clear hb1 hl
  go_wp2
  go_ret2
  exact ⟨rfl, HB1.out⟩

set_option maxRecDepth 100000 in
set_option maxHeartbeats 8000000 in
theorem encYes (op rd r1 r2 im f c g h : Int) (w : World) (hl : Laid w) (hr : rightB op rd r1 r2 im = true) (hs : Hid (shT op = (f, c, g, h))) :
    Calls Tryd.prog 10 #[.agg #[.int .i64 op, .int .i64 rd, .int .i64 r1, .int .i64 r2, .int .i64 im]] w fun e w' => e = .returned (.tuple #[.int .i64 (encW f c g h rd r1 r2 im), .int .i64 0]) ∧ Below w.heap.size w w' := by
  have hop : 1 ≤ op ∧ op ≤ 64 := by
    unfold rightB at hr
    exact of_decide_eq_true (Bool.and_eq_true_iff.1 hr).1
  have hf : rightF f rd r1 r2 im = true := by
    unfold rightB at hr
    have := (Bool.and_eq_true_iff.1 hr).2
    rw [hs.out] at this
    exact this
  have hok : shOK f c g h = true := by
    have := shT_ok op hop.1 hop.2
    rw [hs.out] at this
    exact this
  obtain ⟨f0, f1, k0, k1, g0, g1, h0, h1⟩ := sh_bounds hok
  obtain ⟨⟨b1, b2, b3⟩, z1, z2, z3⟩ := right_parts f0 f1 hf
  obtain ⟨rd0, rd1⟩ := regB_bd b1
  obtain ⟨r10, r11⟩ := regB_bd b2
  obtain ⟨r20, r21⟩ := regB_bd b3
  have HE : Hid (bits .or .i64 (bits .or .i64 (fixW f c g h) (rd * 128 + r1 * 32768 + r2 * 1048576)) (layF f im) = encW f c g h rd r1 r2 im) := lay_or f c g h rd r1 r2 im hok rd0 rd1 r10 r11 r20 r21 z1 z2 z3
  have hregs := regs_or rd r1 r2 rd0 rd1 r10 r11 r20 r21
  obtain ⟨R, hR, hLy⟩ := rule_lay f im f0 f1
  have HR : Hid (∀ w, Calls Tryd.prog 40 #[.int .i64 f] w fun e w' => e = .returned R ∧ Below w.heap.size w w') := hR
  have HLy : Hid (∀ w, Calls Tryd.prog 41 #[R, .int .i64 im] w fun e w' => e = .returned (.int .i64 (layF f im)) ∧ Below w.heap.size w w') := hLy
  have HF : Hid (∀ w, Calls Tryd.prog 39 #[.agg #[.int .i64 f, .int .i64 c, .int .i64 g, .int .i64 h]] w fun e w' => e = .returned (.int .i64 (fixW f c g h)) ∧ Below w.heap.size w w') := fun w => fixC f c g h w f0 f1 k0 k1 g0 g1 h0 h1
  clear hR hLy hf hok b1 b2 b3 z1 z2 z3 hop
  go_enter Tryd.func10, Tryd.ntmps10
  go_wp2_with fail
  refine (insC op rd r1 r2 im _ (laid_below hl ((Below.refl _ _).alloc (Nat.le_refl _) _))).mono ?_
  rintro e w1 ⟨rfl, hb1⟩
  obtain ⟨hc1, hf1⟩ := bcell hb1
  have hz1 : w.heap.size < w1.heap.size := by have := hb1.size; simp at this; omega
  have HB1 : Below w.heap.size w w1 := ((Below.refl _ _).alloc (Nat.le_refl _) _).trans (hb1.mono (by simp))
  clear hb1 hl
  go_wp2_with fail
  refine (shapeCs op f c g h _ hs.out).mono ?_
  rintro e w2 ⟨rfl, hb2⟩
  obtain ⟨hc2, hf2⟩ := bcell hb2
  have hz2 := hb2.size
  have HB2 : Below w.heap.size w w2 := HB1.trans (hb2.mono HB1.size)
  have hx4 : w2.cell? ⟨w.heap.size, 4, none⟩ = some (.int .i64 im) := by
    rw [hc2 _ _ hz1, hc1 _ _ (by simp)]
    simp
  have hlt : w.heap.size < w2.heap.size := by omega
  clear hb2 HB1 hs hr
  go_wp2_with fail
  generalize hW : w2.alloc (.cells #[.int .i64 f, .int .i64 c, .int .i64 g, .int .i64 h] 61) = W0
  have y4 : W0.cell? ⟨w.heap.size, 4, none⟩ = some (.int .i64 im) := by rw [← hW]; exact (((Below.refl w2.heap.size w2).alloc (Nat.le_refl _) _).cell (p := ⟨w.heap.size, 4, none⟩) hlt).trans hx4
  have y0 : W0.cell? ⟨w2.heap.size, 0, none⟩ = some (.int .i64 f) := by rw [← hW]; simp
  have y1 : W0.cell? ⟨w2.heap.size, 1, none⟩ = some (.int .i64 c) := by rw [← hW]; simp
  have y2 : W0.cell? ⟨w2.heap.size, 2, none⟩ = some (.int .i64 g) := by rw [← hW]; simp
  have y3 : W0.cell? ⟨w2.heap.size, 3, none⟩ = some (.int .i64 h) := by rw [← hW]; simp
  have HBW : Below w.heap.size w W0 := by rw [← hW]; exact HB2.alloc HB2.size _
  have hzW : W0.heap.size = w2.heap.size + 1 := by rw [← hW]; simp
  have hbW : Below W0.heap.size W0 W0 := Below.refl _ _
  clear hW hc1 hc2 hf1 hf2 hz1 hz2 hx4 HB2
  go_region_held3? (fun w' => w'.cell? ⟨w2.heap.size, 0, none⟩ = some (.int .i64 f) ∧ w'.cell? ⟨w2.heap.size, 1, none⟩ = some (.int .i64 c) ∧ w'.cell? ⟨w2.heap.size, 2, none⟩ = some (.int .i64 g) ∧ w'.cell? ⟨w2.heap.size, 3, none⟩ = some (.int .i64 h) ∧ w'.cell? ⟨w.heap.size, 4, none⟩ = some (.int .i64 im)) (go_keep) (first | (go_at_call 39; refine (HF.out _).mono ?_; rintro e w3 ⟨rfl, hb3⟩; have hz3 : W0.heap.size ≤ w3.heap.size := (by have := hb3.size; (try simp at this); omega); have q34 := (hb3.cell (p := ⟨w.heap.size, 4, none⟩) (by first | omega | (simp; omega))).trans (by first | assumption | (simp; assumption)); have q30 := (hb3.cell (p := ⟨w2.heap.size, 0, none⟩) (by first | omega | (simp; omega))).trans (by first | assumption | (simp; assumption)); have q31 := (hb3.cell (p := ⟨w2.heap.size, 1, none⟩) (by first | omega | (simp; omega))).trans (by first | assumption | (simp; assumption)); have q32 := (hb3.cell (p := ⟨w2.heap.size, 2, none⟩) (by first | omega | (simp; omega))).trans (by first | assumption | (simp; assumption)); have q33 := (hb3.cell (p := ⟨w2.heap.size, 3, none⟩) (by first | omega | (simp; omega))).trans (by first | assumption | (simp; assumption))) | (go_at_call 40; refine (HR.out _).mono ?_; rintro e w4 ⟨rfl, hb4⟩; have hz4 : W0.heap.size ≤ w4.heap.size := (by have := hb4.size; (try simp at this); omega); have q44 := (hb4.cell (p := ⟨w.heap.size, 4, none⟩) (by first | omega | (simp; omega))).trans (by first | assumption | (simp; assumption)); have q40 := (hb4.cell (p := ⟨w2.heap.size, 0, none⟩) (by first | omega | (simp; omega))).trans (by first | assumption | (simp; assumption)); have q41 := (hb4.cell (p := ⟨w2.heap.size, 1, none⟩) (by first | omega | (simp; omega))).trans (by first | assumption | (simp; assumption)); have q42 := (hb4.cell (p := ⟨w2.heap.size, 2, none⟩) (by first | omega | (simp; omega))).trans (by first | assumption | (simp; assumption)); have q43 := (hb4.cell (p := ⟨w2.heap.size, 3, none⟩) (by first | omega | (simp; omega))).trans (by first | assumption | (simp; assumption))) | (go_at_call 41; refine (HLy.out _).mono ?_; rintro e w5 ⟨rfl, hb5⟩; have hz5 : W0.heap.size ≤ w5.heap.size := (by have := hb5.size; (try simp at this); omega); have q54 := (hb5.cell (p := ⟨w.heap.size, 4, none⟩) (by first | omega | (simp; omega))).trans (by first | assumption | (simp; assumption)); have q50 := (hb5.cell (p := ⟨w2.heap.size, 0, none⟩) (by first | omega | (simp; omega))).trans (by first | assumption | (simp; assumption)); have q51 := (hb5.cell (p := ⟨w2.heap.size, 1, none⟩) (by first | omega | (simp; omega))).trans (by first | assumption | (simp; assumption)); have q52 := (hb5.cell (p := ⟨w2.heap.size, 2, none⟩) (by first | omega | (simp; omega))).trans (by first | assumption | (simp; assumption)); have q53 := (hb5.cell (p := ⟨w2.heap.size, 3, none⟩) (by first | omega | (simp; omega))).trans (by first | assumption | (simp; assumption))))
  have hsW := HBW.size
  have HB3 : Below w.heap.size w w3 := by
    refine Below.trans ?_ (hb3.mono (by first | omega | (simp; omega)))
    repeat (first | exact HBW | refine Below.drew ?_ | refine bdN ?_ _)
  have HB4 : Below w.heap.size w w4 := by
    refine Below.trans ?_ (hb4.mono (by first | omega | (simp; omega)))
    repeat (first | exact HB3 | refine Below.drew ?_ | refine bdN ?_ _)
  have HB5 : Hid (Below w.heap.size w w5) := by
    refine Below.trans ?_ (hb5.mono (by first | omega | (simp; omega)))
    repeat (first | exact HB4 | refine Below.drew ?_ | refine bdN ?_ _)
  clear hb3 hb4 hb5 HB3 HB4 HBW
  go_wp2
  go_ret2
  exact ⟨ret_ints HE.out rfl, HB5.out⟩
end Go.Proofs.YtodikjjajncimaaDoor

namespace Go.Proofs.YtodikjjajncimaaDoor
open Go.RowKit
set_option linter.unusedVariables false

/-- A number laid at a free place, all in numbers. -/
theorem putN (word v R low count : Int) (l c : Nat) (A B : Int) (w : World) (hl : (l : Int) = low) (hc : (c : Int) = count) (hA : A = 2 ^ l) (hB : B = 2 ^ c) (w0 : 0 ≤ word) (w1 : word < 4294967296) (h : l + c ≤ 32)
    (hz : word / A % B = 0) (hR : R = word + v % B * A) :
    Calls Tryd.prog 87 #[.int .i64 word, .int .i64 low, .int .i64 count, .int .i64 v] w fun e w' => e = .returned (.int .i64 R) ∧ w' = w := by
  subst hl hc hA hB hR
  exact putC word v l c w w0 w1 h hz

theorem sh6 (op : Int) (h0 : 1 ≤ op) (h1 : op ≤ 64) : (shT op).1 = 6 → (shT op).2.2.2 % 2 = 0 := by
  obtain ⟨k, rfl⟩ := Int.eq_ofNat_of_zero_le (show 0 ≤ op by omega)
  have hk : k < 65 := by omega
  have hk0 : 1 ≤ k := by omega
  have key : ∀ j : Nat, j < 65 → 1 ≤ j → (shT (j : Int)).1 = 6 → (shT (j : Int)).2.2.2 % 2 = 0 := by decide +kernel
  exact key k hk hk0
end Go.Proofs.YtodikjjajncimaaDoor

namespace Go.Proofs.YtodikjjajncimaaDoor
open Go.RowKit
set_option linter.unusedVariables false

set_option maxRecDepth 100000 in
set_option maxHeartbeats 8000000 in
theorem ens1 (op rd im c g h : Int) (hs : Hid (shT op = (1, c, g, h))) (k0 : 0 ≤ c) (k1 : c < 128) (g0 : 0 ≤ g) (g1 : g < 8) (h0 : 0 ≤ h) (h1 : h < 64) (rd0 : 0 ≤ rd) (rd1 : rd ≤ 31) (m0 : -2147483648 ≤ im) (m1 : im ≤ 2147483647) (hm : im % 4096 = 0) (sg : g = 0) (sh : h = 0) (w : World) :
    Calls Tryd.prog 43 #[.agg #[.int .i64 op, .int .i64 rd, .int .i64 0, .int .i64 0, .int .i64 im]] w fun e w' => e = .returned (.int .i64 (encW 1 c g h rd 0 0 im)) ∧ Below w.heap.size w w' := by
  obtain ⟨y, hy⟩ : ∃ y, y = im / 4096 := ⟨_, rfl⟩
  have HY : Hid (y = im / 4096) := hy
  have ht : im.tdiv 4096 = y := by
    have := (tm0 im 4096).2 hm
    have h2 := Int.mul_tdiv_add_tmod im 4096
    omega
  have hwy : wrap64 y = y := wrap_in y (by omega) (by omega)
  clear hy m0 m1
  subst sh
  subst sg
  clear hm
  go_enter Tryd.func43, Tryd.ntmps43
  go_wp2_with fail
  refine (specShs op 1 c 0 0 _ hs.out).mono ?_
  rintro e w1 ⟨rfl, hb1⟩
  obtain ⟨hc1, hf1⟩ := bcell hb1
  have hz1 : w.heap.size < w1.heap.size := by have := hb1.size; simp at this; omega
  have HB1 : Hid (Below w.heap.size w w1) := ((Below.refl _ _).alloc (Nat.le_refl _) _).trans (hb1.mono (by simp))
  clear hs hb1
  go_wp2_with fail
  refine (putN (c) rd (c + rd * 128) 7 5 7 5 128 32 _ rfl rfl (by decide) (by decide) (by omega) (by omega) (by decide) (by omega) (by omega)).mono ?_
  rintro e w2 ⟨rfl, rfl⟩
  go_wp2_with fail
  refine (putN (c + rd * 128) y (c + rd * 128 + y % 1048576 * 4096) 12 20 12 20 4096 1048576 _ rfl rfl (by decide) (by decide) (by omega) (by omega) (by decide) (by omega) (by omega)).mono ?_
  rintro e w2 ⟨rfl, rfl⟩
  go_wp2
  go_ret
  refine ⟨congrArg (fun x => Ending.returned (.int .i64 x)) ?_, HB1.out.alloc (by omega) _⟩
  show c + rd * 128 + y % 1048576 * 4096 = fixW 1 c 0 0 + rd * 128 + 0 * 32768 + 0 * 1048576 + layF 1 im
  have l : layF 1 im = im / 4096 % 1048576 * 4096 := rfl
  have e : fixW 1 c 0 0 = c + 0 * 4096 + 0 * 33554432 := rfl
  rw [l, e, HY.out]
  omega
end Go.Proofs.YtodikjjajncimaaDoor
