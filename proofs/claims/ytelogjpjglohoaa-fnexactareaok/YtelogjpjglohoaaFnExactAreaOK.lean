/- AreaOK answers at every three numbers as its model does: whether they are an area. -/
import Derived.Test.YtelogjpjglohoaaAreL
import Derived.WalkKit
import Derived.ProofKit
import Derived.OpenShut
import Derived.ShutString
namespace Go.Proofs.Ytelogjpjglohoaa.fnExactAreaOK
open Go.RowKit Go.ChangeShapes Go.WideShapes Go.ChangeAt Go.RowKit
open Go.ChangeMaps (open_string shut_string)
set_option linter.unusedVariables false

theorem laidOut : laidOutB Try.prog = true := by kernel_rfl
theorem own : ownKnob Try.prog.godebug = none := by kernel_rfl

set_option maxRecDepth 100000 in
set_option maxHeartbeats 4000000 in
theorem walk (a0_0 a0_1 a0_2 : Int) (w : World) (w0_0 : (Lit.int .i64 a0_0).wf = true) (w0_1 : (Lit.int .i64 a0_1).wf = true) (w0_2 : (Lit.int .i64 a0_2).wf = true) :
    Calls Try.prog 3 #[.agg #[.int .i64 a0_0, .int .i64 a0_1, .int .i64 a0_2]] w fun e w' => e = .returned (.bool true) ∧ Below w.heap.size w w' := by
  have bA := grown1' w (.cells #[.int .i64 a0_0, .int .i64 a0_1, .int .i64 a0_2] 23)
  have lA := Lies.new w #[.int .i64 a0_0, .int .i64 a0_1, .int .i64 a0_2] 23
  obtain ⟨q, hq⟩ : ∃ q, areaB a0_0 a0_1 a0_2 = q := ⟨_, rfl⟩
  have hqq : (q != q) = false := by simp
  have SP := fun v => areaSpec a0_0 a0_1 a0_2 v w0_2
  have IM := fun v => areaImpl a0_0 a0_1 a0_2 v w0_2
  rw [hq] at SP IM
  have HS : Hid (∀ v : World, _) := SP
  have HI : Hid (∀ v : World, _) := IM
  clear hq SP IM
  go_enter Try.func3, Try.ntmps3
  go_wp2_with fail
  obtain ⟨W, hW⟩ : ∃ W, w.alloc (.cells #[.int .i64 a0_0, .int .i64 a0_1, .int .i64 a0_2] 23) = W := ⟨_, rfl⟩
  rw [hW] at bA lA ⊢
  clear hW
  refine (toAreaC _ _ _ W).mono ?_
  rintro e v1 ⟨rfl, hb⟩
  have B1 := bA.trans (hb.mono bA.size)
  have l1 := lA.below hb lA.lt
  clear hb bA lA
  go_wp2_with fail
  refine (HS.out v1).mono ?_
  rintro e v2 ⟨rfl, hb⟩
  have B2 := B1.trans (hb.mono B1.size)
  have l2 := l1.below hb l1.lt
  clear hb B1 l1
  have c0 := l2.cell (j := 0) rfl
  have c1 := l2.cell (j := 1) rfl
  have c2 := l2.cell (j := 2) rfl
  clear l2
  go_wp2_with fail
  refine (toAreaC _ _ _ v2).mono ?_
  rintro e v3 ⟨rfl, hb⟩
  have B3 := B2.trans (hb.mono B2.size)
  clear hb B2 c0 c1 c2
  go_wp2_with fail
  refine (HI.out v3).mono ?_
  rintro e v4 ⟨rfl, hb⟩
  have B4 := B3.trans (hb.mono B3.size)
  clear hb B3
  go_wp2_with fail
  go_ret
  exact ⟨rfl, B4⟩

set_option maxRecDepth 100000 in
theorem lifted (os : Os) (started : os.Started) (H : Type) (enc : TypeId × Value → H) :
    ReturnsInHanded {} Try.checked os 3 .any (Rows.fnExactAreaOKSpec.pre6 enc Try.prog Try.f3 Rows.fnExactAreaOKRow.domain false) (Rows.fnExactAreaOKSpec.post enc Try.prog Try.f3 false true false false) := by
  refine returnsInHanded_of_change (C := Try.checked) own started (by kernel_rfl) Try.func3
    (ChangeSpec.witness6 (enc := enc) (C := Try.checked) false ⟨#[], #[.agg #[.int .i64 0, .int .i64 0, .int .i64 0]], []⟩ 8 (by kernel_rfl) (by kernel_rfl) (by kernel_rfl) (by kernel_rfl)) ?_
  intro W base args ds gs before hval0 hW hcnd _
  have hval : ∀ (j : Nat) t v, Try.f3.params[j]? = some t → args[j]? = some v → Value.okWide Try.prog W .any base t v := hval0
  have hW' := hW
  obtain ⟨p, q, hA0, hV, rfl, hfz, hnd⟩ := hW
  have hA : DataW.TrodAll enc Try.prog W 0 (fun _ => true) true Try.f3.params.toList args.toList ds p := hA0
  rw [Try.params3] at hA hval
  obtain ⟨v0, vs0, d0, ds0, p0, q0, hargs, rfl, rfl, h0, r0⟩ := trodAll_cons hA
  obtain ⟨rfl, rfl, rfl⟩ := trodAll_nil r0
  obtain rfl : args = #[v0] := by cases args; simp_all
  obtain ⟨rfl, rfl⟩ := trodVars_none hV
  have k0 := h0
  have lt0 : ∀ x ∈ p0, x.block < W.heap.size := by obtain ⟨m, hm⟩ := k0; exact DataW.trod_lt m _ _ _ hm
  obtain ⟨a0_0, a0_1, a0_2, rfl, w0_0, w0_1, w0_2⟩ := open_three Try.underlying23 (by kernel_rfl) (by kernel_rfl) Try.underlying3 Try.underlying3 Try.underlying3 (hval 0 23 v0 rfl rfl) h0
  clear hA0 hval0
  refine (walk a0_0 a0_1 a0_2 W w0_0 w0_1 w0_2).mono fun e W' ⟨he, bel⟩ => ?_
  subst he
  exact ⟨_, rfl, _, _, _, [], _, [], hW', trodAll_mk1 (shut_bool Try.underlying4 _), (trodAll_cons_mk (Below.trod laidOut (by kernel_rfl) (of_decide_eq_true (by kernel_rfl)) k0 bel lt0) trodAll_mk0), rfl, bel.frame _, fun h => by cases h⟩

theorem over : Rows.fnExactAreaOKRow.holds Try.pinned (OpenSpec.ofChange Rows.fnExactAreaOKSpec) :=
  OpenClaim.holds_of_wide 3 Try.f3 rfl rfl rfl rfl rfl rfl rfl ⟨rfl, rfl, rfl, rfl, rfl⟩ rfl rfl rfl rfl rfl (by kernel_rfl) Try.func3 (by kernel_rfl)
    (of_decide_eq_true (by kernel_rfl)) (by unfold Func.isWrapper; first | (rw [if_pos (by decide +kernel)]; kernel_rfl) | (rw [if_neg (by decide +kernel)]; exact ⟨rfl, rfl⟩))
    (fun os started H enc _ => lifted os started H enc)

theorem proved : Rows.FnExactAreaOKSaid :=
  over
end Go.Proofs.Ytelogjpjglohoaa.fnExactAreaOK
theorem Go.Proofs.Ytelogjpjglohoaa.areaOK_holds : Go.Proofs.Ytelogjpjglohoaa.Rows.FnExactAreaOKSaid := Go.Proofs.Ytelogjpjglohoaa.fnExactAreaOK.proved
