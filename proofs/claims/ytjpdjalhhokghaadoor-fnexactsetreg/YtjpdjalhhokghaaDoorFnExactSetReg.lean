/- SetReg answers at every processor, register and number as its model does: each register, Pc and the code; the two errors are what the program's text lays (the tie is given). -/
import Derived.Test.YtjpdjalhhokghaaDoorCards
import Derived.Test.YtjpdjalhhokghaaDoorTie
import Derived.Test.YtjpdjalhhokghaaDoorHrtJ
import Derived.Test.YtjpdjalhhokghaaDoorHrtO
import Derived.WalkKit
import Derived.ProofKit
import Derived.OpenShut
import Derived.ShutString
import Derived.ChangeOld
import Derived.Below
import Derived.LaidMore
import Derived.Stop.Joined
import Derived.SevenTiedAt
import Derived.OpenVars
namespace Go.Proofs.YtjpdjalhhokghaaDoor.fnExactSetReg
open Go.RowKit Go.ChangeShapes Go.WideShapes Go.ChangeAt
open Go.ChangeMaps (open_string shut_string)
set_option linter.unusedVariables false

theorem own : ownKnob Tryd.prog.godebug = none := by kernel_rfl
theorem laidOut : laidOutB Tryd.prog = true := by kernel_rfl

theorem walk (a0 : Nat → Int) (b0 : Int) (a1 : Int) (a2 : Int) (w0 : ∀ i, i < 32 → (Lit.int .i64 (a0 i)).wf = true) (x0 : (Lit.int .i64 b0).wf = true) (w1 : (Lit.int .i64 a1).wf = true) (w2 : (Lit.int .i64 a2).wf = true) (w : World) (hL : Laid w) :
    Calls Tryd.prog 13 #[.agg (hartC a0 b0), .int .i64 a1, .int .i64 a2] w fun e w' => e = .returned (.bool true) ∧ Below w.heap.size w w' := by
  obtain ⟨S, q, c, hS, hI⟩ := setBoth a0 b0 a1 a2
  obtain ⟨hz, hi⟩ := zero_of_info Tryd.zeroH
  have hi1 : (Tryd.prog.info? 56).map (·.size) = some 33 := by kernel_rfl
  have hi2 : (Tryd.prog.info? 57).map (·.size) = some (hartC S q).size := by rw [hartC_size]; exact hi
  have hA := Lies.new w (hartC a0 b0) 56
  have hb : Hid (Below w.heap.size w (w.alloc (.cells (hartC a0 b0) 56))) := (Below.refl _ _).alloc (Nat.le_refl _) _
  have HL : Hid (Laid w) := hL
  have HS : Hid (∀ w : World, Calls Tryd.prog 38 #[.agg (hartC a0 b0), .int .i64 a1, .int .i64 a2] w fun e w' => e = .returned (.tuple #[.agg (hartC S q), .int .i64 c]) ∧ Below w.heap.size w w') := hS
  have HI : Hid (∀ w : World, Laid w → Calls Tryd.prog 40 #[.agg (hartC a0 b0), .int .i64 a1, .int .i64 a2] w fun e w' => e = .returned (.tuple #[.agg (hartC S q), .int .i64 c]) ∧ Below w.heap.size w w') := hI
  clear hL hS hI
  go_enter Tryd.func13, Tryd.ntmps13
  go_wp2_with (first
    | (refine wpList_load_part rfl 56 (.tmp 3) rfl w.heap.size 0 33 rfl _ _ hA _ Tryd.underlying56 rfl hi1 (by simp) (hartC a0 b0) (by simp) ?_)
    | fail)
  refine (toHartC a0 b0 _).mono ?_
  rintro e w1 ⟨rfl, hb1⟩
  have hA1 := hA.below hb1 (by simp)
  have hbel1 : Hid (Below w.heap.size w w1) := hb.out.trans (hb1.mono (by simp))
  clear hA hb1 hb
  go_wp2_with fail
  refine (HS.out _).mono ?_
  rintro e w2 ⟨rfl, hb2⟩
  have hz2 := hb2.size
  have hlt1 := hA1.lt
  have hA2 := (((hA1.below hb2 hlt1).alloc (.cells (hartC (fun _ => 0) 0) 57))).other (show w.heap.size ≠ w2.heap.size by omega) (hartC S q)
  have hC2 := Lies.newAt w2 (hartC (fun _ => 0) 0) 57 (g := w2.heap.size) rfl
  have hC3 := hC2.set (hartC S q)
  have hbel2 : Hid (Below w.heap.size w ((w2.alloc (.cells (hartC (fun _ => 0) 0) 57)).setRow w2.heap.size (hartC S q))) := below_setRow ((hbel1.out.trans (hb2.mono hbel1.out.size)).alloc (by omega) _) (by omega) _
  obtain ⟨W2, hW2⟩ : ∃ W2, W2 = ((w2.alloc (.cells (hartC (fun _ => 0) 0) 57)).setRow w2.heap.size (hartC S q)) := ⟨_, rfl⟩
  rw [← hW2] at hA2 hC3 hbel2
  have HW2 : Hid (W2 = ((w2.alloc (.cells (hartC (fun _ => 0) 0) 57)).setRow w2.heap.size (hartC S q))) := hW2
  have hlt2 : w2.heap.size < W2.heap.size := hC3.lt
  have hlt3 : w.heap.size < W2.heap.size := hA2.lt
  clear hW2 hb2 hA1 hbel1
  go_wp2_with (first
    | (refine wpList_store_all rfl 57 (.tmp 7) (.tmp 17) rfl w2.heap.size (hartC S q) rfl rfl _ _ hC2 hi2 (by simp) (hartC_one _ _) ?_; rw [← HW2.out]; clear hC2 HW2)
    | (refine wpList_load_part rfl 56 (.tmp 3) rfl w.heap.size 0 33 rfl _ _ hA2 _ Tryd.underlying56 rfl hi1 (by simp) (hartC a0 b0) (by simp) ?_)
    | fail)
  refine (toHartC a0 b0 _).mono ?_
  rintro e w3 ⟨rfl, hb3⟩
  have hC4 := hC3.below hb3 hlt2
  have hbel3 : Hid (Below w.heap.size w w3) := hbel2.out.trans (hb3.mono hbel2.out.size)
  clear hA2 hC3 hb3 hbel2
  have HL3 : Hid (Laid w3) := laid_below HL.out hbel3.out
  go_wp2_with fail
  refine (HI.out _ HL3.out).mono ?_
  rintro e w4 ⟨rfl, hb4⟩
  have hz4 := hb4.size
  have hlt4 := hC4.lt
  have hC5 := (((hC4.below hb4 hlt4).alloc (.cells (hartC (fun _ => 0) 0) 57))).other (show w2.heap.size ≠ w4.heap.size by omega) (hartC S q)
  have hD4 := Lies.newAt w4 (hartC (fun _ => 0) 0) 57 (g := w4.heap.size) rfl
  have hD5 := hD4.set (hartC S q)
  have hbel5 : Hid (Below w.heap.size w ((w4.alloc (.cells (hartC (fun _ => 0) 0) 57)).setRow w4.heap.size (hartC S q))) := below_setRow ((hbel3.out.trans (hb4.mono hbel3.out.size)).alloc (Nat.le_trans hbel3.out.size hz4) _) (Nat.le_trans hbel3.out.size hz4) _
  obtain ⟨W4, hW4⟩ : ∃ W4, W4 = ((w4.alloc (.cells (hartC (fun _ => 0) 0) 57)).setRow w4.heap.size (hartC S q)) := ⟨_, rfl⟩
  rw [← hW4] at hC5 hD5 hbel5
  have HW4 : Hid (W4 = ((w4.alloc (.cells (hartC (fun _ => 0) 0) 57)).setRow w4.heap.size (hartC S q))) := hW4
  clear hW4 hb4 hC4 hbel3 HL3 HI HS HL
  go_wp2_with (first
    | (refine wpList_store_all rfl 57 (.tmp 9) (.tmp 25) rfl w4.heap.size (hartC S q) rfl rfl _ _ hD4 hi2 (by simp) (hartC_one _ _) ?_; rw [← HW4.out]; clear hD4 HW4)
    | (refine wpList_load_part rfl 57 (.tmp 9) rfl w4.heap.size 0 33 rfl _ _ hD5 _ Tryd.underlying57 rfl hi (by simp) (hartC S q) (by simp) ?_)
    | (refine wpList_load_part rfl 57 (.tmp 7) rfl w2.heap.size 0 33 rfl _ _ hC5 _ Tryd.underlying57 rfl hi (by simp) (hartC S q) (by simp) ?_)
    | fail)
  refine (hartEq S q _).mono ?_
  rintro e w5 ⟨rfl, hb5⟩
  have hbel6 : Hid (Below w.heap.size w w5) := hbel5.out.trans (hb5.mono hbel5.out.size)
  clear hb5 hC5 hD5 hbel5
  go_wp2
  go_ret
  exact ⟨rfl, hbel6.out⟩

set_option maxRecDepth 100000 in
theorem lifted (os : Os) (started : os.Started) (H : Type) (enc : TypeId × Value → H) :
    ReturnsInHanded {} Tryd.checked os 13 .any (fun w args => (Rows.fnExactSetRegSpec.pre enc Tryd.prog Tryd.f13 [] false w args ∧ laidMetH Tryd.prog laidList w) ∧ sizedMet enc Tryd.prog Tryd.f13 (OpenSpec.ofChange Rows.fnExactSetRegSpec) false w args)
      (Rows.fnExactSetRegSpec.post enc Tryd.prog Tryd.f13 false true false false) := by
  refine returnsInHanded_of_change_and (C := Tryd.checked) (X := fun w _ => laidMetH Tryd.prog laidList w) (fun _ _ _ hh h => h.of_heap hh) own started (by kernel_rfl) Tryd.func13
    (ChangeSpec.witness_shaped (enc := enc) (C := Tryd.checked) (os := os) (X := fun w _ => laidMetH Tryd.prog laidList w) false (World.doorLaid Tryd.prog 400 os) #[.agg #[.int .i64 0, .int .i64 0, .int .i64 0, .int .i64 0, .int .i64 0, .int .i64 0, .int .i64 0, .int .i64 0, .int .i64 0, .int .i64 0, .int .i64 0, .int .i64 0, .int .i64 0, .int .i64 0, .int .i64 0, .int .i64 0, .int .i64 0, .int .i64 0, .int .i64 0, .int .i64 0, .int .i64 0, .int .i64 0, .int .i64 0, .int .i64 0, .int .i64 0, .int .i64 0, .int .i64 0, .int .i64 0, .int .i64 0, .int .i64 0, .int .i64 0, .int .i64 0, .int .i64 0], .int .i64 0, .int .i64 0] 8 rfl (World.shaped_of_RefB (by kernel_rfl) (by kernel_rfl)) (by kernel_rfl) (by kernel_rfl) (by kernel_rfl) (door_met os _)) ?_
  intro W base args ds gs before hval0 hW _ _ hL0 _
  have hval : ∀ (j : Nat) t v, Tryd.f13.params[j]? = some t → args[j]? = some v → Value.okWide Tryd.prog W .any base t v := hval0
  have hW' := hW
  obtain ⟨p, q, hA0, hV, rfl, hfz, hnd⟩ := hW
  have hA : DataW.TrodAll enc Tryd.prog W 0 (fun _ => true) true Tryd.f13.params.toList args.toList ds p := hA0
  rw [Tryd.params13] at hA hval
  obtain ⟨v0, vs0, d0, ds0, p0, q0, hargs, rfl, rfl, h0, r0⟩ := trodAll_cons hA
  obtain ⟨v1, vs1, d1, ds1, p1, q1, rfl, rfl, rfl, h1, r1⟩ := trodAll_cons r0
  obtain ⟨v2, vs2, d2, ds2, p2, q2, rfl, rfl, rfl, h2, r2⟩ := trodAll_cons r1
  obtain ⟨rfl, rfl, rfl⟩ := trodAll_nil r2
  obtain rfl : args = #[v0, v1, v2] := by cases args; simp_all
  obtain ⟨g0, g1, g2, g3, g4, rfl⟩ := vars_len5 hV
  have hL : Laid W := of_laid hL0
  clear hL0
  obtain ⟨a0, b0, rfl, rfl, rfl, w0, x0⟩ := open_hart Tryd.underlying56 rfl rfl (by kernel_rfl) Tryd.underlying54 (by kernel_rfl) Tryd.underlying3 (by kernel_rfl) Tryd.underlying3 (by kernel_rfl) (hval 0 56 v0 rfl rfl) h0
  obtain ⟨a1, rfl, rfl, rfl, w1⟩ := open_int Tryd.underlying3 (hval 1 3 v1 rfl rfl) h1
  obtain ⟨a2, rfl, rfl, rfl, w2⟩ := open_int Tryd.underlying3 (hval 2 3 v2 rfl rfl) h2
  clear hA0 hval0
  refine (walk a0 b0 a1 a2 w0 x0 w1 w2 W hL).mono fun e W' ⟨he, hg⟩ => ?_
  subst he
  exact ⟨_, rfl, _, _, _, [], _, q, hW', trodAll_mk1 (shut_bool Tryd.underlying4 _), (trodAll_cons_mk (shut_hart Tryd.underlying56 rfl rfl (by kernel_rfl) Tryd.underlying54 (by kernel_rfl) Tryd.underlying3 (by kernel_rfl) Tryd.underlying3 (by kernel_rfl) w0 x0) (trodAll_cons_mk (shut_int Tryd.underlying3 w1) (trodAll_cons_mk (shut_int Tryd.underlying3 w2) trodAll_mk0))), Below.trodVars laidOut hg (by kernel_rfl) hV, hg.frame _, fun h => by cases h⟩

theorem over : Rows.FnExactSetRegSaid :=
  OpenClaim.holds_of_wide 13 Tryd.f13 rfl rfl rfl rfl rfl rfl rfl ⟨rfl, rfl, rfl, rfl, rfl⟩ rfl rfl rfl rfl rfl (by kernel_rfl) Tryd.func13 (by kernel_rfl)
    (of_decide_eq_true (by kernel_rfl)) (by unfold Func.isWrapper; first | (rw [if_pos (by decide +kernel)]; kernel_rfl) | (rw [if_neg (by decide +kernel)]; exact ⟨rfl, rfl⟩))
    (fun os started H enc _ => lifted os started H enc)

theorem plain (f : FuncId) (fn : Func) (hf : Tryd.pinned.checked.prog.funcNamed "loop.example/g00654/laws.FnExactSetReg" = some f) (hfn : Tryd.pinned.checked.prog.funcs[f]? = some fn) :
    true = Tryd.pinned.checked.prog.looks [] ∧ ∀ (j : Nat) t, fn.params[j]? = some t → Tryd.pinned.checked.prog.wantsStandIn t = false := by
  obtain rfl : f = 13 := Option.some.inj ((show Tryd.prog.funcNamed "loop.example/g00654/laws.FnExactSetReg" = some 13 by kernel_rfl).symm.trans hf) |>.symm
  obtain rfl : fn = Tryd.f13 := (Option.some.inj (Tryd.func13.symm.trans hfn)).symm
  refine ⟨by kernel_rfl, fun j t ht => ?_⟩
  rw [Tryd.params13] at ht
  have hm : t ∈ [3, 56] := by
    have := Array.mem_of_getElem? ht
    simp at this ⊢
    first | omega | exact this | exact this.symm | (rcases this with h | h <;> simp [h]) | (rcases this with h | h | h <;> simp [h]) | (rcases this with h | h | h | h <;> simp [h])
  have hall : ([3, 56].all fun u => !Tryd.prog.wantsStandIn u) = true := by kernel_rfl
  exact (show Tryd.prog.wantsStandIn t = false by simpa using List.all_eq_true.1 hall t hm)

theorem card : Rows.FnExactSetRegCardSaid :=
  Claim7.holds_tied_plain_at .later [] _ _ _ _ over (fun _ h => by cases h) (by kernel_rfl) (fun _ h => by cases h) fnExactSetReg_row_tie rfl ⟨rfl, rfl⟩ (by kernel_rfl) rfl plain (by kernel_rfl)
end Go.Proofs.YtjpdjalhhokghaaDoor.fnExactSetReg
theorem Go.Proofs.YtjpdjalhhokghaaDoor.setReg_holds : Go.Proofs.YtjpdjalhhokghaaDoor.Rows.FnExactSetRegCardSaid := Go.Proofs.YtjpdjalhhokghaaDoor.fnExactSetReg.card
