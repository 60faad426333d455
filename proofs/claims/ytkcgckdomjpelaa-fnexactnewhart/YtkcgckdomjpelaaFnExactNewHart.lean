/- NewHart answers at every pair of numbers as its model does, each of the 32 registers and Pc. -/
import Derived.Test.YtkcgckdomjpelaaHrtC
import Derived.WalkKit
import Derived.ProofKit
import Derived.OpenShut
import Derived.ShutString
import Derived.ChangeOld
import Derived.Below
namespace Go.Proofs.Ytkcgckdomjpelaa.fnExactNewHart
open Go.RowKit Go.ChangeShapes Go.WideShapes Go.ChangeAt Go.RowKit
open Go.ChangeMaps (open_string shut_string)
set_option linter.unusedVariables false      -- a walk need not use every 'w<i>' (that an integer argument fits its kind)

theorem own : ownKnob Try.prog.godebug = none := by kernel_rfl

theorem walk (a0 : Int) (a1 : Int) (w0 : (Lit.int .i64 a0).wf = true) (w1 : (Lit.int .i64 a1).wf = true) (w : World) :
    Calls Try.prog 3 #[.int .i64 a0, .int .i64 a1] w fun e w' => e = .returned (.bool true) ∧ Below w.heap.size w w' := by
  obtain ⟨hz, hi⟩ := zero_of_info Try.zeroH
  have hi2 : (Try.prog.info? 24).map (·.size) = some (hartC (sp2 a1) a0).size := by rw [hartC_size]; exact hi
  go_enter Try.func3, Try.ntmps3
  go_wp2_with fail
  refine (specNewC a0 a1 _).mono ?_
  rintro e w1 ⟨rfl, hb1⟩
  have hC1 := Lies.newAt w1 (hartC (fun _ => 0) 0) 24 (g := w1.heap.size) rfl
  have hz1 := hb1.size
  have hC2 := hC1.set (hartC (sp2 a1) a0)
  have hb2 : Hid (Below w.heap.size w ((w1.alloc (.cells (hartC (fun _ => 0) 0) 24)).setRow w1.heap.size (hartC (sp2 a1) a0))) := below_setRow (hb1.alloc hz1 _) hz1 _
  obtain ⟨W2, hW2⟩ : ∃ W2, W2 = ((w1.alloc (.cells (hartC (fun _ => 0) 0) 24)).setRow w1.heap.size (hartC (sp2 a1) a0)) := ⟨_, rfl⟩
  rw [← hW2] at hb2 hC2
  have HW2 : Hid (W2 = ((w1.alloc (.cells (hartC (fun _ => 0) 0) 24)).setRow w1.heap.size (hartC (sp2 a1) a0))) := hW2
  have hs2 : w1.heap.size < W2.heap.size := hC2.lt
  clear hW2 hb1
  go_wp2_with (first
    | (refine wpList_store_all rfl 24 (.tmp 5) (.tmp 9) rfl w1.heap.size (hartC (sp2 a1) a0) rfl rfl _ _ hC1 hi2 (by simp) (hartC_one _ _) ?_; rw [← HW2.out]; clear hC1 HW2)
    | fail)
  refine (newC a0 a1 _).mono ?_
  rintro e w3 ⟨rfl, hb3⟩
  have hz3 := hb3.size
  have hC3 := Lies.newAt w3 (hartC (fun _ => 0) 0) 24 (g := w3.heap.size) rfl
  have hA3 := ((hC2.below hb3 hs2).alloc (.cells (hartC (fun _ => 0) 0) 24)).other (show w1.heap.size ≠ w3.heap.size by omega) (hartC (sp2 a1) a0)
  have hB3 := hC3.set (hartC (sp2 a1) a0)
  have hb4 : Hid (Below w.heap.size w ((w3.alloc (.cells (hartC (fun _ => 0) 0) 24)).setRow w3.heap.size (hartC (sp2 a1) a0))) := below_setRow ((hb2.out.trans (hb3.mono hb2.out.size)).alloc (Nat.le_trans hb2.out.size hz3) _) (Nat.le_trans hb2.out.size hz3) _
  obtain ⟨W4, hW4⟩ : ∃ W4, W4 = ((w3.alloc (.cells (hartC (fun _ => 0) 0) 24)).setRow w3.heap.size (hartC (sp2 a1) a0)) := ⟨_, rfl⟩
  rw [← hW4] at hb4 hA3 hB3
  have HW4 : Hid (W4 = ((w3.alloc (.cells (hartC (fun _ => 0) 0) 24)).setRow w3.heap.size (hartC (sp2 a1) a0))) := hW4
  clear hW4 hb3 hC2 hb2
  go_wp2_with (first
    | (refine wpList_store_all rfl 24 (.tmp 6) (.tmp 12) rfl w3.heap.size (hartC (sp2 a1) a0) rfl rfl _ _ hC3 hi2 (by simp) (hartC_one _ _) ?_; rw [← HW4.out]; clear hC3 HW4)
    | (refine wpList_load_part rfl 24 (.tmp 6) rfl w3.heap.size 0 33 rfl _ _ hB3 _ Try.underlying24 rfl hi (by simp) (hartC (sp2 a1) a0) (by simp) ?_)
    | (refine wpList_load_part rfl 24 (.tmp 5) rfl w1.heap.size 0 33 rfl _ _ hA3 _ Try.underlying24 rfl hi (by simp) (hartC (sp2 a1) a0) (by simp) ?_)
    | fail)
  refine (hartEq (sp2 a1) a0 _).mono ?_
  rintro e w5 ⟨rfl, hb5⟩
  have hb6 : Hid (Below w.heap.size w w5) := hb4.out.trans (hb5.mono hb4.out.size)
  clear hb5 hb4 hA3 hB3
  go_wp2
  go_ret
  exact ⟨rfl, hb6.out⟩

set_option maxRecDepth 100000 in
theorem lifted (os : Os) (started : os.Started) (H : Type) (enc : TypeId × Value → H) :
    ReturnsInHanded {} Try.checked os 3 .any (Rows.fnExactNewHartSpec.pre6 enc Try.prog Try.f3 Rows.fnExactNewHartRow.domain false) (Rows.fnExactNewHartSpec.post enc Try.prog Try.f3 false true false false) := by
  refine returnsInHanded_of_change (C := Try.checked) own started (by kernel_rfl) Try.func3
    (ChangeSpec.witness6 (enc := enc) (C := Try.checked) false ⟨#[], #[.int .i64 0, .int .i64 0], []⟩ 8 (by kernel_rfl) (by kernel_rfl) (by kernel_rfl) (by kernel_rfl)) ?_
  intro W base args ds gs before hval0 hW hcnd _
  have hval : ∀ (j : Nat) t v, Try.f3.params[j]? = some t → args[j]? = some v → Value.okWide Try.prog W .any base t v := hval0
  have hW' := hW
  obtain ⟨p, q, hA0, hV, rfl, hfz, hnd⟩ := hW
  have hA : DataW.TrodAll enc Try.prog W 0 (fun _ => true) true Try.f3.params.toList args.toList ds p := hA0
  rw [Try.params3] at hA hval
  obtain ⟨v0, vs0, d0, ds0, p0, q0, hargs, rfl, rfl, h0, r0⟩ := trodAll_cons hA
  obtain ⟨v1, vs1, d1, ds1, p1, q1, rfl, rfl, rfl, h1, r1⟩ := trodAll_cons r0
  obtain ⟨rfl, rfl, rfl⟩ := trodAll_nil r1
  obtain rfl : args = #[v0, v1] := by cases args; simp_all
  obtain ⟨rfl, rfl⟩ := trodVars_none hV
  obtain ⟨a0, rfl, rfl, rfl, w0⟩ := open_int Try.underlying3 (hval 0 3 v0 rfl rfl) h0
  obtain ⟨a1, rfl, rfl, rfl, w1⟩ := open_int Try.underlying3 (hval 1 3 v1 rfl rfl) h1
  clear hA0 hval0
  simp only [List.append_nil] at hW'
  refine (walk a0 a1 w0 w1 W).mono fun e W' ⟨he, hg⟩ => ?_
  subst he
  exact ⟨_, rfl, _, _, _, [], _, [], hW', trodAll_mk1 (shut_bool Try.underlying4 _), (trodAll_cons_mk (shut_int Try.underlying3 w0) (trodAll_cons_mk (shut_int Try.underlying3 w1) trodAll_mk0)), rfl, hg.frame _, fun h => by cases h⟩

theorem over : Rows.fnExactNewHartRow.holds Try.pinned (OpenSpec.ofChange Rows.fnExactNewHartSpec) :=
  OpenClaim.holds_of_wide 3 Try.f3 rfl rfl rfl rfl rfl rfl rfl ⟨rfl, rfl, rfl, rfl, rfl⟩ rfl rfl rfl rfl rfl (by kernel_rfl) Try.func3 (by kernel_rfl)
    (of_decide_eq_true (by kernel_rfl)) (by unfold Func.isWrapper; first | (rw [if_pos (by decide +kernel)]; kernel_rfl) | (rw [if_neg (by decide +kernel)]; exact ⟨rfl, rfl⟩))
    (fun os started H enc _ => lifted os started H enc)

theorem proved : Rows.FnExactNewHartSaid :=
  over
end Go.Proofs.Ytkcgckdomjpelaa.fnExactNewHart
theorem Go.Proofs.Ytkcgckdomjpelaa.newHart_holds : Go.Proofs.Ytkcgckdomjpelaa.Rows.FnExactNewHartSaid := Go.Proofs.Ytkcgckdomjpelaa.fnExactNewHart.proved
