/- GetShadow answers at every list, object and number as its model does: the value, or a code; the list is left as it was. -/
import Derived.Test.YtmbkkcdcccopiaaSpcE
import Derived.Test.YtmbkkcdcccopiaaShwL
import Derived.WalkKit
import Derived.ProofKit
import Derived.OpenShut
import Derived.ShutString
namespace Go.Proofs.Ytmbkkcdcccopiaa.fnExactGetShadow
open Go.RowKit Go.ChangeShapes Go.WideShapes Go.ChangeAt Go.RowKit
open Go.ChangeMaps (open_string shut_string)
set_option linter.unusedVariables false

theorem laidOut : laidOutB Try.prog = true := by kernel_rfl
theorem own : ownKnob Try.prog.godebug = none := by kernel_rfl

set_option maxRecDepth 100000 in
set_option maxHeartbeats 8000000 in
theorem walk (p0 : Option Addr) (n0 c0 : Nat) (S0 : Nat → ShwD) (a1 : Int) (a2 : Int) (w : World) (w0 : IsShws w p0 n0 c0 S0) (w1 : (Lit.int .i64 a1).wf = true) (w2 : (Lit.int .i64 a2).wf = true) :
    Calls Try.prog 4 #[.slice p0 n0 c0, .int .i64 a1, .int .i64 a2] w fun e w' => e = .returned (.bool true) ∧ Below w.heap.size w w' := by
  obtain ⟨hp, hwf, hnc, hcm⟩ := w0
  have hnm : n0 ≤ maxLen := Nat.le_trans hnc hcm
  have sz := szShws p0 n0 c0 1048576 w (by omega) (by omega) hnm
  have HWF : Hid (∀ i, i < n0 → (S0 i).wf) := hwf
  have HP : Hid (∀ W : World, Below w.heap.size w W → ShwsAt W p0 n0 S0) := fun W h => hp.below h
  clear hp hwf hnc hcm hnm
  go_enter Try.func4, Try.ntmps4
  go_wp2_with fail
  refine sz.mono ?_
  rintro e v1 ⟨⟨r, rfl, hr⟩, B1⟩
  clear sz
  rcases hr with rfl | ⟨r0, r1, hn⟩
  · go_wp2_with fail
    go_ret
    exact ⟨rfl, B1⟩
  have hn' : n0 ≤ 1048576 := by omega
  obtain ⟨x, y, hxy⟩ := getP_ex n0 S0 a1 a2
  go_wp2_with fail
  refine (toShws p0 n0 c0 S0 v1 hn' (HP.out v1 B1)).mono ?_
  rintro e v2 ⟨g2, rfl, hb, _, hl2, hf2⟩
  have B2 := B1.trans (hb.mono B1.size)
  have e2 : ShwsAt v2 (some ⟨g2, 0, none⟩) n0 S0 := .inr ⟨g2, 0, rfl, hl2, hf2.1⟩
  clear hb hl2 hf2 B1
  have SP := getSpec _ n0 n0 S0 a1 a2 x y v2 hn' e2 hxy
  clear e2
  go_wp2_with fail
  refine SP.mono ?_
  rintro e v3 ⟨rfl, hb⟩
  have B3 := B2.trans (hb.mono B2.size)
  clear hb B2 SP
  go_wp2_with fail
  refine (toShws p0 n0 c0 S0 v3 hn' (HP.out v3 B3)).mono ?_
  rintro e v4 ⟨g4, rfl, hb, _, hl4, hf4⟩
  have B4 := B3.trans (hb.mono B3.size)
  have e4 : ShwsAt v4 (some ⟨g4, 0, none⟩) n0 S0 := .inr ⟨g4, 0, rfl, hl4, hf4.1⟩
  clear hb hl4 hf4 B3
  have IM := getImpl _ n0 n0 S0 a1 a2 x y v4 hn' HWF.out w1 e4 hxy
  have H4 : Hid (ShwsAt v4 (some ⟨g4, 0, none⟩) n0 S0) := e4
  clear e4
  go_wp2_with fail
  refine IM.mono ?_
  rintro e v5 ⟨rfl, hb⟩
  have B5 := B4.trans (hb.mono B4.size)
  have H5 : Hid (ShwsAt v5 (some ⟨g4, 0, none⟩) n0 S0) := H4.out.below hb
  clear hb B4 IM H4
  have hxx : (x != x) = false := by simp
  have hyy : (y != y) = false := by simp
  go_wp2_with fail
  refine (toShws p0 n0 c0 S0 v5 hn' (HP.out v5 B5)).mono ?_
  rintro e v6 ⟨g6, rfl, hb, _, hl6, hf6⟩
  have B6 := B5.trans (hb.mono B5.size)
  have e6 : ShwsAt v6 (some ⟨g6, 0, none⟩) n0 S0 := .inr ⟨g6, 0, rfl, hl6, hf6.1⟩
  have EQ := eqShws _ _ n0 n0 n0 S0 v6 (by omega) (H5.out.below hb) e6
  clear hb hl6 hf6 B5 e6
  go_wp2_with fail
  refine EQ.mono ?_
  rintro e v7 ⟨rfl, hb⟩
  have B7 := B6.trans (hb.mono B6.size)
  clear hb EQ
  go_wp2_with fail
  go_ret
  exact ⟨rfl, B7⟩

set_option maxRecDepth 100000 in
theorem lifted (os : Os) (started : os.Started) (H : Type) (enc : TypeId × Value → H) :
    ReturnsInHanded {} Try.checked os 4 .any (Rows.fnExactGetShadowSpec.pre6 enc Try.prog Try.f4 Rows.fnExactGetShadowRow.domain false) (Rows.fnExactGetShadowSpec.post enc Try.prog Try.f4 false true false false) := by
  refine returnsInHanded_of_change (C := Try.checked) own started (by kernel_rfl) Try.func4
    (ChangeSpec.witness6 (enc := enc) (C := Try.checked) false ⟨#[], #[.slice none 0 0, .int .i64 0, .int .i64 0], []⟩ 8 (by kernel_rfl) (by kernel_rfl) (by kernel_rfl) (by kernel_rfl)) ?_
  intro W base args ds gs before hval0 hW hcnd _
  have hval : ∀ (j : Nat) t v, Try.f4.params[j]? = some t → args[j]? = some v → Value.okWide Try.prog W .any base t v := hval0
  have hW' := hW
  obtain ⟨p, q, hA0, hV, rfl, hfz, hnd⟩ := hW
  have hA : DataW.TrodAll enc Try.prog W 0 (fun _ => true) true Try.f4.params.toList args.toList ds p := hA0
  rw [Try.params4] at hA hval
  obtain ⟨v0, vs0, d0, ds0, p0, q0, hargs, rfl, rfl, h0, r0⟩ := trodAll_cons hA
  obtain ⟨v1, vs1, d1, ds1, p1, q1, rfl, rfl, rfl, h1, r1⟩ := trodAll_cons r0
  obtain ⟨v2, vs2, d2, ds2, p2, q2, rfl, rfl, rfl, h2, r2⟩ := trodAll_cons r1
  obtain ⟨rfl, rfl, rfl⟩ := trodAll_nil r2
  obtain rfl : args = #[v0, v1, v2] := by cases args; simp_all
  obtain ⟨rfl, rfl⟩ := trodVars_none hV
  have k0 := h0
  have lt0 : ∀ x ∈ p0, x.block < W.heap.size := by obtain ⟨m, hm⟩ := k0; exact DataW.trod_lt m _ _ _ hm
  obtain ⟨q0, n0, c0, rfl⟩ := okWide_slice Try.underlying22 (hval 0 22 v0 rfl rfl)
  obtain ⟨S0, w0⟩ : ∃ S, IsShws W q0 n0 c0 S := by
    obtain ⟨fuel, hf⟩ := h0
    exact open_shws Try.underlying22 Try.underlying48 (by kernel_rfl) (by kernel_rfl) Try.underlying3 Try.underlying3 Try.underlying3 (by simpa [Value.cells] using hf)
  obtain ⟨a1, rfl, rfl, rfl, w1⟩ := open_int Try.underlying3 (hval 1 3 v1 rfl rfl) h1
  obtain ⟨a2, rfl, rfl, rfl, w2⟩ := open_int Try.underlying3 (hval 2 3 v2 rfl rfl) h2
  clear hA0 hval0
  refine (walk q0 n0 c0 S0 a1 a2 W w0 w1 w2).mono fun e W' ⟨he, bel⟩ => ?_
  subst he
  exact ⟨_, rfl, _, _, _, [], _, [], hW', trodAll_mk1 (shut_bool Try.underlying4 _), (trodAll_cons_mk (Below.trod laidOut (by kernel_rfl) (of_decide_eq_true (by kernel_rfl)) k0 bel lt0) (trodAll_cons_mk (shut_int Try.underlying3 w1) (trodAll_cons_mk (shut_int Try.underlying3 w2) trodAll_mk0))), rfl, bel.frame _, fun h => by cases h⟩

theorem over : Rows.fnExactGetShadowRow.holds Try.pinned (OpenSpec.ofChange Rows.fnExactGetShadowSpec) :=
  OpenClaim.holds_of_wide 4 Try.f4 rfl rfl rfl rfl rfl rfl rfl ⟨rfl, rfl, rfl, rfl, rfl⟩ rfl rfl rfl rfl rfl (by kernel_rfl) Try.func4 (by kernel_rfl)
    (of_decide_eq_true (by kernel_rfl)) (by unfold Func.isWrapper; first | (rw [if_pos (by decide +kernel)]; kernel_rfl) | (rw [if_neg (by decide +kernel)]; exact ⟨rfl, rfl⟩))
    (fun os started H enc _ => lifted os started H enc)

theorem proved : Rows.FnExactGetShadowSaid :=
  over
end Go.Proofs.Ytmbkkcdcccopiaa.fnExactGetShadow
theorem Go.Proofs.Ytmbkkcdcccopiaa.getShadow_holds : Go.Proofs.Ytmbkkcdcccopiaa.Rows.FnExactGetShadowSaid := Go.Proofs.Ytmbkkcdcccopiaa.fnExactGetShadow.proved
