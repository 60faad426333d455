/- SameShadows answers at every two lists as its model does: whether both are right and alike; the lists are left as they were. -/
import Derived.Test.YtmbkkcdcccopiaaSamS
import Derived.Test.YtmbkkcdcccopiaaShwL
import Derived.WalkKit
import Derived.ProofKit
import Derived.OpenShut
import Derived.ShutString
namespace Go.Proofs.Ytmbkkcdcccopiaa.fnExactSameShadows
open Go.RowKit Go.ChangeShapes Go.WideShapes Go.ChangeAt Go.RowKit
open Go.ChangeMaps (open_string shut_string)
set_option linter.unusedVariables false

theorem laidOut : laidOutB Try.prog = true := by kernel_rfl
theorem own : ownKnob Try.prog.godebug = none := by kernel_rfl

set_option maxRecDepth 100000 in
set_option maxHeartbeats 8000000 in
theorem walk (p0 : Option Addr) (n0 c0 : Nat) (S0 : Nat → ShwD) (p1 : Option Addr) (n1 c1 : Nat) (S1 : Nat → ShwD) (w : World) (w0 : IsShws w p0 n0 c0 S0) (w1 : IsShws w p1 n1 c1 S1) :
    Calls Try.prog 10 #[.slice p0 n0 c0, .slice p1 n1 c1] w fun e w' => e = .returned (.bool true) ∧ Below w.heap.size w w' := by
  obtain ⟨hp, hwf, hnc, hcm⟩ := w0
  obtain ⟨hp', hwf', hnc', hcm'⟩ := w1
  have hnm : n0 ≤ maxLen := Nat.le_trans hnc hcm
  have hnm' : n1 ≤ maxLen := Nat.le_trans hnc' hcm'
  have sz := szShws p0 n0 c0 1048576 w (by omega) (by omega) hnm
  have HP : Hid (∀ W : World, Below w.heap.size w W → ShwsAt W p0 n0 S0) := fun W h => hp.below h
  have HQ : Hid (∀ W : World, Below w.heap.size w W → ShwsAt W p1 n1 S1) := fun W h => hp'.below h
  clear hp hwf hnc hcm hnm hp' hwf' hnc' hcm'
  go_enter Try.func10, Try.ntmps10
  go_wp2_with fail
  refine sz.mono ?_
  rintro e v1 ⟨⟨r, rfl, hr⟩, B1⟩
  clear sz
  rcases hr with rfl | ⟨r0, r1, hn⟩
  · go_wp2_with fail
    go_ret
    exact ⟨rfl, B1⟩
  have hn' : n0 ≤ 1048576 := by omega
  have sz2 := szShws p1 n1 c1 r v1 r0 r1 hnm'
  go_wp2_with fail
  refine sz2.mono ?_
  rintro e v2 ⟨⟨s, rfl, hs⟩, hb⟩
  have B2 := B1.trans (hb.mono B1.size)
  clear sz2 hb B1
  rcases hs with rfl | ⟨s0, s1, hm⟩
  · go_wp2_with fail
    go_ret
    exact ⟨rfl, B2⟩
  have hm' : n1 ≤ 1048576 := by omega
  obtain ⟨q, hq⟩ := same_ex n0 n1 S0 S1
  go_wp2_with fail
  refine (toShws p0 n0 c0 S0 v2 hn' (HP.out v2 B2)).mono ?_
  rintro e v3 ⟨g3, rfl, hb, _, hl3, hf3⟩
  have B3 := B2.trans (hb.mono B2.size)
  have H3 : Hid (ShwsAt v3 (some ⟨g3, 0, none⟩) n0 S0) := .inr ⟨g3, 0, rfl, hl3, hf3.1⟩
  clear hb hl3 hf3 B2
  go_wp2_with fail
  refine (toShws p1 n1 c1 S1 v3 hm' (HQ.out v3 B3)).mono ?_
  rintro e v4 ⟨g4, rfl, hb, _, hl4, hf4⟩
  have B4 := B3.trans (hb.mono B3.size)
  have H3' : Hid (ShwsAt v4 (some ⟨g3, 0, none⟩) n0 S0) := H3.out.below hb
  have H4 : Hid (ShwsAt v4 (some ⟨g4, 0, none⟩) n1 S1) := .inr ⟨g4, 0, rfl, hl4, hf4.1⟩
  clear hb hl4 hf4 B3 H3
  have SP := samS _ _ n0 n1 n0 n1 S0 S1 v4 hn' hm' H3'.out H4.out q hq
  go_wp2_with fail
  refine SP.mono ?_
  rintro e v5 ⟨rfl, hb⟩
  have B5 := B4.trans (hb.mono B4.size)
  clear hb B4 SP H3' H4
  go_wp2_with fail
  refine (toShws p0 n0 c0 S0 v5 hn' (HP.out v5 B5)).mono ?_
  rintro e v6 ⟨g6, rfl, hb, _, hl6, hf6⟩
  have B6 := B5.trans (hb.mono B5.size)
  have H6 : Hid (ShwsAt v6 (some ⟨g6, 0, none⟩) n0 S0) := .inr ⟨g6, 0, rfl, hl6, hf6.1⟩
  clear hb hl6 hf6 B5
  go_wp2_with fail
  refine (toShws p1 n1 c1 S1 v6 hm' (HQ.out v6 B6)).mono ?_
  rintro e v7 ⟨g7, rfl, hb, _, hl7, hf7⟩
  have B7 := B6.trans (hb.mono B6.size)
  have H6' : Hid (ShwsAt v7 (some ⟨g6, 0, none⟩) n0 S0) := H6.out.below hb
  have H7 : Hid (ShwsAt v7 (some ⟨g7, 0, none⟩) n1 S1) := .inr ⟨g7, 0, rfl, hl7, hf7.1⟩
  clear hb hl7 hf7 B6 H6
  have IM := samI _ _ n0 n1 n0 n1 S0 S1 v7 hn' hm' H6'.out H7.out q hq
  go_wp2_with fail
  refine IM.mono ?_
  rintro e v8 ⟨rfl, hb⟩
  have B8 := B7.trans (hb.mono B7.size)
  have H6 : Hid (ShwsAt v8 (some ⟨g6, 0, none⟩) n0 S0) := H6'.out.below hb
  have H8 : Hid (ShwsAt v8 (some ⟨g7, 0, none⟩) n1 S1) := H7.out.below hb
  clear hb B7 IM H6' H7
  have hqq : (q != q) = false := by simp
  go_wp2_with fail
  refine (toShws p0 n0 c0 S0 v8 hn' (HP.out v8 B8)).mono ?_
  rintro e v9 ⟨g9, rfl, hb, _, hl9, hf9⟩
  have B9 := B8.trans (hb.mono B8.size)
  have e9 : ShwsAt v9 (some ⟨g9, 0, none⟩) n0 S0 := .inr ⟨g9, 0, rfl, hl9, hf9.1⟩
  have EQ := eqShws _ _ n0 n0 n0 S0 v9 (by omega) (H6.out.below hb) e9
  have H9 : Hid (ShwsAt v9 (some ⟨g7, 0, none⟩) n1 S1) := H8.out.below hb
  clear hb hl9 hf9 B8 e9 H6 H8
  go_wp2_with fail
  refine EQ.mono ?_
  rintro e v10 ⟨rfl, hb⟩
  have B10 := B9.trans (hb.mono B9.size)
  have H10 : Hid (ShwsAt v10 (some ⟨g7, 0, none⟩) n1 S1) := H9.out.below hb
  clear hb EQ B9 H9
  go_wp2_with fail
  refine (toShws p1 n1 c1 S1 v10 hm' (HQ.out v10 B10)).mono ?_
  rintro e v11 ⟨g11, rfl, hb, _, hl11, hf11⟩
  have B11 := B10.trans (hb.mono B10.size)
  have e11 : ShwsAt v11 (some ⟨g11, 0, none⟩) n1 S1 := .inr ⟨g11, 0, rfl, hl11, hf11.1⟩
  have EQ := eqShws _ _ n1 n1 n1 S1 v11 (by omega) (H10.out.below hb) e11
  clear hb hl11 hf11 B10 e11 H10
  go_wp2_with fail
  refine EQ.mono ?_
  rintro e v12 ⟨rfl, hb⟩
  have B12 := B11.trans (hb.mono B11.size)
  clear hb EQ
  go_wp2_with fail
  go_ret
  exact ⟨rfl, B12⟩

set_option maxRecDepth 100000 in
theorem lifted (os : Os) (started : os.Started) (H : Type) (enc : TypeId × Value → H) :
    ReturnsInHanded {} Try.checked os 10 .any (Rows.fnExactSameShadowsSpec.pre6 enc Try.prog Try.f10 Rows.fnExactSameShadowsRow.domain false) (Rows.fnExactSameShadowsSpec.post enc Try.prog Try.f10 false true false false) := by
  refine returnsInHanded_of_change (C := Try.checked) own started (by kernel_rfl) Try.func10
    (ChangeSpec.witness6 (enc := enc) (C := Try.checked) false ⟨#[], #[.slice none 0 0, .slice none 0 0], []⟩ 8 (by kernel_rfl) (by kernel_rfl) (by kernel_rfl) (by kernel_rfl)) ?_
  intro W base args ds gs before hval0 hW hcnd _
  have hval : ∀ (j : Nat) t v, Try.f10.params[j]? = some t → args[j]? = some v → Value.okWide Try.prog W .any base t v := hval0
  have hW' := hW
  obtain ⟨p, q, hA0, hV, rfl, hfz, hnd⟩ := hW
  have hA : DataW.TrodAll enc Try.prog W 0 (fun _ => true) true Try.f10.params.toList args.toList ds p := hA0
  rw [Try.params10] at hA hval
  obtain ⟨v0, vs0, d0, ds0, p0, q0, hargs, rfl, rfl, h0, r0⟩ := trodAll_cons hA
  obtain ⟨v1, vs1, d1, ds1, p1, q1, rfl, rfl, rfl, h1, r1⟩ := trodAll_cons r0
  obtain ⟨rfl, rfl, rfl⟩ := trodAll_nil r1
  obtain rfl : args = #[v0, v1] := by cases args; simp_all
  obtain ⟨rfl, rfl⟩ := trodVars_none hV
  have k0 := h0
  have lt0 : ∀ x ∈ p0, x.block < W.heap.size := by obtain ⟨m, hm⟩ := k0; exact DataW.trod_lt m _ _ _ hm
  obtain ⟨q0, n0, c0, rfl⟩ := okWide_slice Try.underlying22 (hval 0 22 v0 rfl rfl)
  obtain ⟨S0, w0⟩ : ∃ S, IsShws W q0 n0 c0 S := by
    obtain ⟨fuel, hf⟩ := h0
    exact open_shws Try.underlying22 Try.underlying48 (by kernel_rfl) (by kernel_rfl) Try.underlying3 Try.underlying3 Try.underlying3 (by simpa [Value.cells] using hf)
  have k1 := h1
  have lt1 : ∀ x ∈ p1, x.block < W.heap.size := by obtain ⟨m, hm⟩ := k1; exact DataW.trod_lt m _ _ _ hm
  obtain ⟨q1, n1, c1, rfl⟩ := okWide_slice Try.underlying22 (hval 1 22 v1 rfl rfl)
  obtain ⟨S1, w1⟩ : ∃ S, IsShws W q1 n1 c1 S := by
    obtain ⟨fuel, hf⟩ := h1
    exact open_shws Try.underlying22 Try.underlying48 (by kernel_rfl) (by kernel_rfl) Try.underlying3 Try.underlying3 Try.underlying3 (by simpa [Value.cells] using hf)
  clear hA0 hval0
  refine (walk q0 n0 c0 S0 q1 n1 c1 S1 W w0 w1).mono fun e W' ⟨he, bel⟩ => ?_
  subst he
  exact ⟨_, rfl, _, _, _, [], _, [], hW', trodAll_mk1 (shut_bool Try.underlying4 _), (trodAll_cons_mk (Below.trod laidOut (by kernel_rfl) (of_decide_eq_true (by kernel_rfl)) k0 bel lt0) (trodAll_cons_mk (Below.trod laidOut (by kernel_rfl) (of_decide_eq_true (by kernel_rfl)) k1 bel lt1) trodAll_mk0)), rfl, bel.frame _, fun h => by cases h⟩

theorem over : Rows.fnExactSameShadowsRow.holds Try.pinned (OpenSpec.ofChange Rows.fnExactSameShadowsSpec) :=
  OpenClaim.holds_of_wide 10 Try.f10 rfl rfl rfl rfl rfl rfl rfl ⟨rfl, rfl, rfl, rfl, rfl⟩ rfl rfl rfl rfl rfl (by kernel_rfl) Try.func10 (by kernel_rfl)
    (of_decide_eq_true (by kernel_rfl)) (by unfold Func.isWrapper; first | (rw [if_pos (by decide +kernel)]; kernel_rfl) | (rw [if_neg (by decide +kernel)]; exact ⟨rfl, rfl⟩))
    (fun os started H enc _ => lifted os started H enc)

theorem proved : Rows.FnExactSameShadowsSaid :=
  over
end Go.Proofs.Ytmbkkcdcccopiaa.fnExactSameShadows
theorem Go.Proofs.Ytmbkkcdcccopiaa.sameShadows_holds : Go.Proofs.Ytmbkkcdcccopiaa.Rows.FnExactSameShadowsSaid := Go.Proofs.Ytmbkkcdcccopiaa.fnExactSameShadows.proved
