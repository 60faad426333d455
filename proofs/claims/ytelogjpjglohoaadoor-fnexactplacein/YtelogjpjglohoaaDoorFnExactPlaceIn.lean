/- PlaceIn answers at every area and number as its model does: the area with what was taken, where it begins, or a code; the errors are what the program's text lays (the tie is given). -/
import Derived.Test.YtelogjpjglohoaaDoorCards
import Derived.Test.YtelogjpjglohoaaDoorTie
import Derived.Test.YtelogjpjglohoaaDoorPlcJ
import Derived.WalkKit
import Derived.ProofKit
import Derived.OpenShut
import Derived.ShutString
import Derived.ChangeOld
import Derived.Below
import Derived.LaidMore
import Derived.Stop.Joined
import Derived.SevenTiedAt
import Derived.OpenVars
namespace Go.Proofs.YtelogjpjglohoaaDoor.fnExactPlaceIn
open Go.RowKit Go.ChangeShapes Go.WideShapes Go.ChangeAt
open Go.ChangeMaps (open_string shut_string)
set_option linter.unusedVariables false

theorem own : ownKnob Tryd.prog.godebug = none := by kernel_rfl
theorem laidOut : laidOutB Tryd.prog = true := by kernel_rfl

set_option maxRecDepth 100000 in
set_option maxHeartbeats 4000000 in
theorem walk (a0_0 a0_1 a0_2 : Int) (a1 : Int) (w : World) (w0_0 : (Lit.int .i64 a0_0).wf = true) (w0_1 : (Lit.int .i64 a0_1).wf = true) (w0_2 : (Lit.int .i64 a0_2).wf = true) (w1 : (Lit.int .i64 a1).wf = true) (hL : Laid w) :
    Calls Tryd.prog 3 #[.agg #[.int .i64 a0_0, .int .i64 a0_1, .int .i64 a0_2], .int .i64 a1] w fun e w' => e = .returned (.bool true) ∧ Below w.heap.size w w' := by
  have bA := grown1' w (.cells #[.int .i64 a0_0, .int .i64 a0_1, .int .i64 a0_2] 23)
  have lA := Lies.new w #[.int .i64 a0_0, .int .i64 a0_1, .int .i64 a0_2] 23
  obtain ⟨⟨⟨x, y, z⟩, p, c⟩, hS, hI⟩ := plcBoth a0_0 a0_1 a0_2 a1 w0_2
  have hpp : (p != p) = false := by simp
  have hcc : (c != c) = false := by simp
  have HS : Hid (∀ v : World, _) := hS
  have HI : Hid (∀ v : World, Laid v → _) := hI
  have HL : Hid (Laid w) := hL
  clear hS hI hL
  go_enter Tryd.func3, Tryd.ntmps3
  go_wp2_with fail
  obtain ⟨W, hW⟩ : ∃ W, w.alloc (.cells #[.int .i64 a0_0, .int .i64 a0_1, .int .i64 a0_2] 23) = W := ⟨_, rfl⟩
  rw [hW] at bA lA ⊢
  clear hW
  refine (toAreaC _ _ _ W).mono ?_
  rintro e v1 ⟨rfl, hb⟩
  have B1 := bA.trans (hb.mono bA.size)
  have l1 := lA.below hb lA.lt
  clear hb bA lA
  go_wp2_with fail
  refine (HS.out v1).mono ?_
  rintro e v2 ⟨rfl, hb⟩
  have B2 := B1.trans (hb.mono B1.size)
  have l2 := l1.below hb l1.lt
  clear hb B1 l1 HS
  have gX := grown1' v2 (.cells #[.int .i64 x, .int .i64 y, .int .i64 z] 24)
  have lX := Lies.new v2 #[.int .i64 x, .int .i64 y, .int .i64 z] 24
  have B3 := B2.trans (gX.mono B2.size)
  have l3 := l2.below gX l2.lt
  have c0 := l3.cell (j := 0) rfl
  have c1 := l3.cell (j := 1) rfl
  have c2 := l3.cell (j := 2) rfl
  clear B2 l2 gX
  go_wp2_with fail
  obtain ⟨V3, hV3⟩ : ∃ V, v2.alloc (.cells #[.int .i64 x, .int .i64 y, .int .i64 z] 24) = V := ⟨_, rfl⟩
  obtain ⟨X, hX⟩ : ∃ X, v2.heap.size = X := ⟨_, rfl⟩
  rw [hV3] at B3 l3 lX c0 c1 c2 ⊢
  rw [hX] at lX ⊢
  clear hV3 hX
  refine (toAreaC _ _ _ V3).mono ?_
  rintro e v4 ⟨rfl, hb⟩
  have B4 := B3.trans (hb.mono B3.size)
  have lX4 := lX.below hb lX.lt
  clear hb B3 l3 lX c0 c1 c2
  go_wp2_with fail
  refine (HI.out v4 (laid_below HL.out B4)).mono ?_
  rintro e v5 ⟨rfl, hb⟩
  have B5 := B4.trans (hb.mono B4.size)
  have lX5 := lX4.below hb lX4.lt
  clear hb B4 lX4 HI HL
  have gX := grown1' v5 (.cells #[.int .i64 x, .int .i64 y, .int .i64 z] 24)
  have B6 := B5.trans (gX.mono B5.size)
  have l6 := lX5.below gX lX5.lt
  have c0 := l6.cell (j := 0) rfl
  have c1 := l6.cell (j := 1) rfl
  have c2 := l6.cell (j := 2) rfl
  clear gX B5 lX5 l6
  go_wp2_with fail
  refine (eqAreaC x y z _).mono ?_
  rintro e v7 ⟨rfl, hb⟩
  have B7 := B6.trans (hb.mono B6.size)
  clear hb B6 c0 c1 c2
  go_wp2_with fail
  go_ret
  exact ⟨rfl, B7⟩

set_option maxRecDepth 100000 in
theorem lifted (os : Os) (started : os.Started) (H : Type) (enc : TypeId × Value → H) :
    ReturnsInHanded {} Tryd.checked os 3 .any (fun w args => (Rows.fnExactPlaceInSpec.pre enc Tryd.prog Tryd.f3 [] false w args ∧ laidMetH Tryd.prog laidList w) ∧ sizedMet enc Tryd.prog Tryd.f3 (OpenSpec.ofChange Rows.fnExactPlaceInSpec) false w args)
      (Rows.fnExactPlaceInSpec.post enc Tryd.prog Tryd.f3 false true false false) := by
  refine returnsInHanded_of_change_and (C := Tryd.checked) (X := fun w _ => laidMetH Tryd.prog laidList w) (fun _ _ _ hh h => h.of_heap hh) own started (by kernel_rfl) Tryd.func3
    (ChangeSpec.witness_shaped (enc := enc) (C := Tryd.checked) (os := os) (X := fun w _ => laidMetH Tryd.prog laidList w) false (World.doorLaid Tryd.prog 400 os) #[.agg #[.int .i64 0, .int .i64 0, .int .i64 0], .int .i64 0] 8 rfl (World.shaped_of_RefB (by kernel_rfl) (by kernel_rfl)) (by kernel_rfl) (by kernel_rfl) (by kernel_rfl) (door_met os _)) ?_
  intro W base args ds gs before hval0 hW _ _ hL0 _
  have hval : ∀ (j : Nat) t v, Tryd.f3.params[j]? = some t → args[j]? = some v → Value.okWide Tryd.prog W .any base t v := hval0
  have hW' := hW
  obtain ⟨p, q, hA0, hV, rfl, hfz, hnd⟩ := hW
  have hA : DataW.TrodAll enc Tryd.prog W 0 (fun _ => true) true Tryd.f3.params.toList args.toList ds p := hA0
  rw [Tryd.params3] at hA hval
  obtain ⟨v0, vs0, d0, ds0, p0, q0, hargs, rfl, rfl, h0, r0⟩ := trodAll_cons hA
  obtain ⟨v1, vs1, d1, ds1, p1, q1, rfl, rfl, rfl, h1, r1⟩ := trodAll_cons r0
  obtain ⟨rfl, rfl, rfl⟩ := trodAll_nil r1
  obtain rfl : args = #[v0, v1] := by cases args; simp_all
  obtain ⟨g0, g1, g2, g3, g4, rfl⟩ := vars_len5 hV
  have hL : Laid W := of_laid hL0
  clear hL0
  have k0 := h0
  have lt0 : ∀ x ∈ p0, x.block < W.heap.size := by obtain ⟨m, hm⟩ := k0; exact DataW.trod_lt m _ _ _ hm
  obtain ⟨a0_0, a0_1, a0_2, rfl, w0_0, w0_1, w0_2⟩ := open_three Tryd.underlying23 (by kernel_rfl) (by kernel_rfl) Tryd.underlying3 Tryd.underlying3 Tryd.underlying3 (hval 0 23 v0 rfl rfl) h0
  obtain ⟨a1, rfl, rfl, rfl, w1⟩ := open_int Tryd.underlying3 (hval 1 3 v1 rfl rfl) h1
  clear hA0 hval0
  refine (walk a0_0 a0_1 a0_2 a1 W w0_0 w0_1 w0_2 w1 hL).mono fun e W' ⟨he, bel⟩ => ?_
  subst he
  exact ⟨_, rfl, _, _, _, [], _, q, hW', trodAll_mk1 (shut_bool Tryd.underlying4 _), (trodAll_cons_mk (Below.trod laidOut (by kernel_rfl) (of_decide_eq_true (by kernel_rfl)) k0 bel lt0) (trodAll_cons_mk (shut_int Tryd.underlying3 w1) trodAll_mk0)), Below.trodVars laidOut bel (by kernel_rfl) hV, bel.frame _, fun h => by cases h⟩

theorem over : Rows.FnExactPlaceInSaid :=
  OpenClaim.holds_of_wide 3 Tryd.f3 rfl rfl rfl rfl rfl rfl rfl ⟨rfl, rfl, rfl, rfl, rfl⟩ rfl rfl rfl rfl rfl (by kernel_rfl) Tryd.func3 (by kernel_rfl)
    (of_decide_eq_true (by kernel_rfl)) (by unfold Func.isWrapper; first | (rw [if_pos (by decide +kernel)]; kernel_rfl) | (rw [if_neg (by decide +kernel)]; exact ⟨rfl, rfl⟩))
    (fun os started H enc _ => lifted os started H enc)

theorem plain (f : FuncId) (fn : Func) (hf : Tryd.pinned.checked.prog.funcNamed "loop.example/g00654/laws.FnExactPlaceIn" = some f) (hfn : Tryd.pinned.checked.prog.funcs[f]? = some fn) :
    true = Tryd.pinned.checked.prog.looks [] ∧ ∀ (j : Nat) t, fn.params[j]? = some t → Tryd.pinned.checked.prog.wantsStandIn t = false := by
  obtain rfl : f = 3 := Option.some.inj ((show Tryd.prog.funcNamed "loop.example/g00654/laws.FnExactPlaceIn" = some 3 by kernel_rfl).symm.trans hf) |>.symm
  obtain rfl : fn = Tryd.f3 := (Option.some.inj (Tryd.func3.symm.trans hfn)).symm
  refine ⟨by kernel_rfl, fun j t ht => ?_⟩
  rw [Tryd.params3] at ht
  have hm : t ∈ [3, 23] := by
    have := Array.mem_of_getElem? ht
    simp at this ⊢
    first | omega | exact this | exact this.symm | (rcases this with h | h <;> simp [h]) | (rcases this with h | h | h <;> simp [h]) | (rcases this with h | h | h | h <;> simp [h])
  have hall : ([3, 23].all fun u => !Tryd.prog.wantsStandIn u) = true := by kernel_rfl
  exact (show Tryd.prog.wantsStandIn t = false by simpa using List.all_eq_true.1 hall t hm)

theorem card : Rows.FnExactPlaceInCardSaid :=
  Claim7.holds_tied_plain_at .later [] _ _ _ _ over (fun _ h => by cases h) (by kernel_rfl) (fun _ h => by cases h) fnExactPlaceIn_row_tie rfl ⟨rfl, rfl⟩ (by kernel_rfl) rfl plain (by kernel_rfl)
end Go.Proofs.YtelogjpjglohoaaDoor.fnExactPlaceIn
theorem Go.Proofs.YtelogjpjglohoaaDoor.placeIn_holds : Go.Proofs.YtelogjpjglohoaaDoor.Rows.FnExactPlaceInCardSaid := Go.Proofs.YtelogjpjglohoaaDoor.fnExactPlaceIn.card
