/- HartOK answers at every processor (32 numbers and Pc) as its model does: whether register 0 is 0. -/
import Derived.Test.YtkcgckdomjpelaaHrtC
import Derived.Test.YtkcgckdomjpelaaHrtO
import Derived.WalkKit
import Derived.ProofKit
import Derived.OpenShut
import Derived.ShutString
import Derived.ChangeOld
import Derived.Below
namespace Go.Proofs.Ytkcgckdomjpelaa.fnExactHartOK
open Go.RowKit Go.ChangeShapes Go.WideShapes Go.ChangeAt Go.RowKit
open Go.ChangeMaps (open_string shut_string)
set_option linter.unusedVariables false

theorem own : ownKnob Try.prog.godebug = none := by kernel_rfl

theorem walk (a0 : Nat → Int) (b0 : Int) (w0 : ∀ i, i < 32 → (Lit.int .i64 (a0 i)).wf = true) (x0 : (Lit.int .i64 b0).wf = true) (w : World) :
    Calls Try.prog 4 #[.agg (hartC a0 b0)] w fun e w' => e = .returned (.bool true) ∧ Below w.heap.size w w' := by
  obtain ⟨hz, hi⟩ := zero_of_info Try.zeroH
  have hi1 : (Try.prog.info? 28).map (·.size) = some 33 := by kernel_rfl
  have hA := Lies.new w (hartC a0 b0) 28
  have hb : Hid (Below w.heap.size w (w.alloc (.cells (hartC a0 b0) 28))) := (Below.refl _ _).alloc (Nat.le_refl _) _
  clear hz
  go_enter Try.func4, Try.ntmps4
  go_wp2_with (first
    | (refine wpList_load_part rfl 28 (.tmp 1) rfl w.heap.size 0 33 rfl _ _ hA _ Try.underlying28 rfl hi1 (by simp) (hartC a0 b0) (by simp) ?_)
    | fail)
  refine (toHartC a0 b0 _).mono ?_
  rintro e w1 ⟨rfl, hb1⟩
  have hA1 := hA.below hb1 (by simp)
  have hbel1 : Hid (Below w.heap.size w w1) := hb.out.trans (hb1.mono (by simp))
  clear hA hb1 hb
  go_wp2_with fail
  refine (specOkC a0 b0 _).mono ?_
  rintro e w2 ⟨rfl, hb2⟩
  have hA2 := hA1.below hb2 hA1.lt
  have hbel2 : Hid (Below w.heap.size w w2) := hbel1.out.trans (hb2.mono hbel1.out.size)
  clear hA1 hb2 hbel1
  go_wp2_with (first
    | (refine wpList_load_part rfl 28 (.tmp 1) rfl w.heap.size 0 33 rfl _ _ hA2 _ Try.underlying28 rfl hi1 (by simp) (hartC a0 b0) (by simp) ?_)
    | fail)
  refine (toHartC a0 b0 _).mono ?_
  rintro e w3 ⟨rfl, hb3⟩
  have hbel3 : Hid (Below w.heap.size w w3) := hbel2.out.trans (hb3.mono hbel2.out.size)
  clear hA2 hb3 hbel2
  go_wp2_with fail
  refine (okC a0 b0 _).mono ?_
  rintro e w4 ⟨rfl, hb4⟩
  have hbel4 : Hid (Below w.heap.size w w4) := hbel3.out.trans (hb4.mono hbel3.out.size)
  clear hb4 hbel3
  generalize (a0 0 == 0) = q
  go_wp2
  go_ret
  exact ⟨rfl, hbel4.out⟩

set_option maxRecDepth 100000 in
theorem lifted (os : Os) (started : os.Started) (H : Type) (enc : TypeId × Value → H) :
    ReturnsInHanded {} Try.checked os 4 .any (Rows.fnExactHartOKSpec.pre6 enc Try.prog Try.f4 Rows.fnExactHartOKRow.domain false) (Rows.fnExactHartOKSpec.post enc Try.prog Try.f4 false true false false) := by
  refine returnsInHanded_of_change (C := Try.checked) own started (by kernel_rfl) Try.func4
    (ChangeSpec.witness6 (enc := enc) (C := Try.checked) false ⟨#[], #[.agg #[.int .i64 0, .int .i64 0, .int .i64 0, .int .i64 0, .int .i64 0, .int .i64 0, .int .i64 0, .int .i64 0, .int .i64 0, .int .i64 0, .int .i64 0, .int .i64 0, .int .i64 0, .int .i64 0, .int .i64 0, .int .i64 0, .int .i64 0, .int .i64 0, .int .i64 0, .int .i64 0, .int .i64 0, .int .i64 0, .int .i64 0, .int .i64 0, .int .i64 0, .int .i64 0, .int .i64 0, .int .i64 0, .int .i64 0, .int .i64 0, .int .i64 0, .int .i64 0, .int .i64 0]], []⟩ 8 (by kernel_rfl) (by kernel_rfl) (by kernel_rfl) (by kernel_rfl)) ?_
  intro W base args ds gs before hval0 hW hcnd _
  have hval : ∀ (j : Nat) t v, Try.f4.params[j]? = some t → args[j]? = some v → Value.okWide Try.prog W .any base t v := hval0
  have hW' := hW
  obtain ⟨p, q, hA0, hV, rfl, hfz, hnd⟩ := hW
  have hA : DataW.TrodAll enc Try.prog W 0 (fun _ => true) true Try.f4.params.toList args.toList ds p := hA0
  rw [Try.params4] at hA hval
  obtain ⟨v0, vs0, d0, ds0, p0, q0, hargs, rfl, rfl, h0, r0⟩ := trodAll_cons hA
  obtain ⟨rfl, rfl, rfl⟩ := trodAll_nil r0
  obtain rfl : args = #[v0] := by cases args; simp_all
  obtain ⟨rfl, rfl⟩ := trodVars_none hV
  obtain ⟨a0, b0, rfl, rfl, rfl, w0, x0⟩ := open_hart Try.underlying28 rfl rfl (by kernel_rfl) Try.underlying22 (by kernel_rfl) Try.underlying3 (by kernel_rfl) Try.underlying3 (by kernel_rfl) (hval 0 28 v0 rfl rfl) h0
  clear hA0 hval0
  simp only [List.append_nil] at hW'
  refine (walk a0 b0 w0 x0 W).mono fun e W' ⟨he, hg⟩ => ?_
  subst he
  exact ⟨_, rfl, _, _, _, [], _, [], hW', trodAll_mk1 (shut_bool Try.underlying4 _), (trodAll_cons_mk (shut_hart Try.underlying28 rfl rfl (by kernel_rfl) Try.underlying22 (by kernel_rfl) Try.underlying3 (by kernel_rfl) Try.underlying3 (by kernel_rfl) w0 x0) trodAll_mk0), rfl, hg.frame _, fun h => by cases h⟩

theorem over : Rows.fnExactHartOKRow.holds Try.pinned (OpenSpec.ofChange Rows.fnExactHartOKSpec) :=
  OpenClaim.holds_of_wide 4 Try.f4 rfl rfl rfl rfl rfl rfl rfl ⟨rfl, rfl, rfl, rfl, rfl⟩ rfl rfl rfl rfl rfl (by kernel_rfl) Try.func4 (by kernel_rfl)
    (of_decide_eq_true (by kernel_rfl)) (by unfold Func.isWrapper; first | (rw [if_pos (by decide +kernel)]; kernel_rfl) | (rw [if_neg (by decide +kernel)]; exact ⟨rfl, rfl⟩))
    (fun os started H enc _ => lifted os started H enc)

theorem proved : Rows.FnExactHartOKSaid :=
  over
end Go.Proofs.Ytkcgckdomjpelaa.fnExactHartOK
theorem Go.Proofs.Ytkcgckdomjpelaa.hartOK_holds : Go.Proofs.Ytkcgckdomjpelaa.Rows.FnExactHartOKSaid := Go.Proofs.Ytkcgckdomjpelaa.fnExactHartOK.proved
