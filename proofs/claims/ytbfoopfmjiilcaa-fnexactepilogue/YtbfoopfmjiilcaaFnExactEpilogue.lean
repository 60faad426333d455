/- Epilogue answers at every number as its model does: its instructions, or a code; its list is its own. -/
import Derived.Test.YtbfoopfmjiilcaaFrmC
import Derived.WalkKit
import Derived.ProofKit
import Derived.OpenShut
import Derived.ShutString
import Derived.ChangeOld
import Derived.Below
namespace Go.Proofs.Ytbfoopfmjiilcaa.fnExactEpilogue
open Go.RowKit Go.ChangeShapes Go.WideShapes Go.ChangeAt Go.RowKit
open Go.ChangeMaps (open_string shut_string)
set_option linter.unusedVariables false      -- a walk need not use every 'w<i>' (that an integer argument fits its kind)

theorem own : ownKnob Try.prog.godebug = none := by kernel_rfl

theorem walk (a0 : Int) (w0 : (Lit.int .i64 a0).wf = true) (w : World) :
    Calls Try.prog 5 #[.int .i64 a0] w fun e w' => e = .returned (.bool true) ∧ Below w.heap.size w w' := by
  cases h : frB a0
  · go_enter Try.func5, Try.ntmps5
    go_wp2_with fail
    refine (epiSpecNo a0 _ w0 h).mono ?_
    rintro e w1 ⟨p, rfl, hb1⟩
    go_wp2_with (go_at_call 14; refine (epiNo a0 _ w0 h).mono ?_; rintro e w' ⟨rfl, rfl⟩)
    refine (eqList none p 0 0 0 (fun _ => 0) _ (by omega) (.inl rfl) (.inl rfl)).mono ?_
    rintro e w2 ⟨rfl, hb2⟩
    go_wp2_with (first | (go_at_call 11; refine (markNil _ _ _ _).mono ?_; rintro e w' ⟨rfl, rfl⟩) | (go_at_call 12; refine (heldNil _ _ _ _).mono ?_; rintro e w' ⟨rfl, rfl⟩) | (go_at_call 14; refine (epiNo a0 _ w0 h).mono ?_; rintro e w' ⟨rfl, rfl⟩) | (go_at_call 10; refine (eqList none p 0 0 0 (fun _ => 0) _ (by omega) (.inl rfl) (.inl rfl)).mono ?_; rintro e w3 ⟨rfl, hb3⟩))
    go_ret
    have B2 := hb1.trans (hb2.mono hb1.size)
    exact ⟨rfl, B2.trans (hb3.mono B2.size)⟩
  · go_enter Try.func5, Try.ntmps5
    go_wp2_with fail
    refine (epiSpec a0 _ h).mono ?_
    rintro e w1 ⟨g1, rfl, hb1, hg1, hl1, f1⟩
    go_wp2_with fail
    refine (epiImpl a0 _ h).mono ?_
    rintro e w2 ⟨g2, rfl, hb2, hg2, hl2, r2⟩
    have f2 := f1.below hb2 hl1
    have B2 := hb1.trans (hb2.mono hb1.size)
    have s1 := hb1.size
    have s2 := hb2.size
    clear f1 hb1 hb2
    go_wp2_with fail
    refine (eqList (some ⟨g2, 0, none⟩) (some ⟨g1, 0, none⟩) 3 3 3 (epiR a0) _ (by omega) (.inr ⟨g2, 0, rfl, hl2, r2⟩) (.inr ⟨g1, 0, rfl, by omega, f2⟩)).mono ?_
    rintro e w3 ⟨rfl, hb3⟩
    have f3 := f2.below hb3 (by omega)
    have r3 := r2.below hb3 hl2
    have B3 := B2.trans (hb3.mono B2.size)
    have s3 := hb3.size
    clear f2 r2 hb3 B2
    go_wp2_with fail
    refine (markList g2 0 3 3 1 (epiR a0) _ (by omega) (by omega) (by omega) r3).mono ?_
    rintro e w4 ⟨rfl, hb4, z4, r4⟩
    have f4 := f3.below hb4 (by omega)
    have B4 := B3.trans (hb4.mono (by omega))
    clear f3 r3 hb4 B3
    go_wp2_with fail
    refine (heldList g2 0 3 3 1 _ (by omega) (by omega) r4).mono ?_
    rintro e w5 ⟨rfl, rfl⟩
    go_wp2_with fail
    refine (epiImpl a0 _ h).mono ?_
    rintro e w6 ⟨g6, rfl, hb6, hg6, hl6, r6⟩
    have f6 := f4.below hb6 (by omega)
    have k6 := r4.below hb6 (by omega)
    have B6 := B4.trans (hb6.mono B4.size)
    have s6 := hb6.size
    clear f4 r4 hb6 B4
    go_wp2_with fail
    refine (eqList (some ⟨g6, 0, none⟩) (some ⟨g1, 0, none⟩) 3 3 3 (epiR a0) _ (by omega) (.inr ⟨g6, 0, rfl, hl6, r6⟩) (.inr ⟨g1, 0, rfl, by omega, f6⟩)).mono ?_
    rintro e w7 ⟨rfl, hb7⟩
    have k7 := k6.below hb7 (by omega)
    have B7 := B6.trans (hb7.mono B6.size)
    clear f6 k6 hb7 B6 r6
    go_wp2_with (go_at_call 12; refine (heldList g2 0 3 3 1 _ (by omega) (by omega) k7).mono ?_; rintro e w8 ⟨rfl, rfl⟩)
    go_ret
    exact ⟨rfl, B7⟩

set_option maxRecDepth 100000 in
theorem lifted (os : Os) (started : os.Started) (H : Type) (enc : TypeId × Value → H) :
    ReturnsInHanded {} Try.checked os 5 .any (Rows.fnExactEpilogueSpec.pre6 enc Try.prog Try.f5 Rows.fnExactEpilogueRow.domain false) (Rows.fnExactEpilogueSpec.post enc Try.prog Try.f5 false true false false) := by
  refine returnsInHanded_of_change (C := Try.checked) own started (by kernel_rfl) Try.func5
    (ChangeSpec.witness6 (enc := enc) (C := Try.checked) false ⟨#[], #[.int .i64 0], []⟩ 8 (by kernel_rfl) (by kernel_rfl) (by kernel_rfl) (by kernel_rfl)) ?_
  intro W base args ds gs before hval0 hW hcnd _
  have hval : ∀ (j : Nat) t v, Try.f5.params[j]? = some t → args[j]? = some v → Value.okWide Try.prog W .any base t v := hval0
  have hW' := hW
  obtain ⟨p, q, hA0, hV, rfl, hfz, hnd⟩ := hW
  have hA : DataW.TrodAll enc Try.prog W 0 (fun _ => true) true Try.f5.params.toList args.toList ds p := hA0
  rw [Try.params5] at hA hval
  obtain ⟨v0, vs0, d0, ds0, p0, q0, hargs, rfl, rfl, h0, r0⟩ := trodAll_cons hA
  obtain ⟨rfl, rfl, rfl⟩ := trodAll_nil r0
  obtain rfl : args = #[v0] := by cases args; simp_all
  obtain ⟨rfl, rfl⟩ := trodVars_none hV
  obtain ⟨a0, rfl, rfl, rfl, w0⟩ := open_int Try.underlying3 (hval 0 3 v0 rfl rfl) h0
  clear hA0 hval0
  simp only [List.append_nil] at hW'
  refine (walk a0 w0 W).mono fun e W' ⟨he, hg⟩ => ?_
  subst he
  exact ⟨_, rfl, _, _, _, [], _, [], hW', trodAll_mk1 (shut_bool Try.underlying4 _), (trodAll_cons_mk (shut_int Try.underlying3 w0) trodAll_mk0), rfl, hg.frame _, fun h => by cases h⟩

theorem over : Rows.fnExactEpilogueRow.holds Try.pinned (OpenSpec.ofChange Rows.fnExactEpilogueSpec) :=
  OpenClaim.holds_of_wide 5 Try.f5 rfl rfl rfl rfl rfl rfl rfl ⟨rfl, rfl, rfl, rfl, rfl⟩ rfl rfl rfl rfl rfl (by kernel_rfl) Try.func5 (by kernel_rfl)
    (of_decide_eq_true (by kernel_rfl)) (by unfold Func.isWrapper; first | (rw [if_pos (by decide +kernel)]; kernel_rfl) | (rw [if_neg (by decide +kernel)]; exact ⟨rfl, rfl⟩))
    (fun os started H enc _ => lifted os started H enc)

theorem proved : Rows.FnExactEpilogueSaid :=
  over
end Go.Proofs.Ytbfoopfmjiilcaa.fnExactEpilogue
theorem Go.Proofs.Ytbfoopfmjiilcaa.epilogue_holds : Go.Proofs.Ytbfoopfmjiilcaa.Rows.FnExactEpilogueSaid := Go.Proofs.Ytbfoopfmjiilcaa.fnExactEpilogue.proved
