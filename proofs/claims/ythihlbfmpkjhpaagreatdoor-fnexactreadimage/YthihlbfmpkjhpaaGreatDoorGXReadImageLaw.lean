/- ReadImage answers at every text of at most 1048576 bytes as its model does: the image, or what is wrong; what one call answered, another call does not touch (the tie is given). -/
import Derived.Test.YthihlbfmpkjhpaaGreatDoorCards
import Derived.Test.YthihlbfmpkjhpaaGreatDoorTie
import Derived.Test.YthihlbfmpkjhpaaGreatDoorGXReadImage3
import Derived.WalkKit
import Derived.ProofKit
import Derived.OpenShut
import Derived.ShutString
import Derived.ChangeOld
import Derived.Below
import Derived.LaidMore
import Derived.Stop.Joined
import Derived.SevenTiedAt
import Derived.OpenVars
namespace Go.Proofs.YthihlbfmpkjhpaaGreatDoor.fnExactReadImage
open Go.RowKit Go.ChangeShapes Go.WideShapes Go.ChangeAt
open Go.ChangeMaps (open_string shut_string)
set_option linter.unusedVariables false

theorem own : ownKnob Tryz.prog.godebug = none := by kernel_rfl
theorem laidOut : laidOutB Tryz.prog = true := by kernel_rfl

set_option maxRecDepth 100000 in
set_option maxHeartbeats 4000000 in
theorem walk (a0 : ByteArray) (w0 : a0.size ≤ maxLen) (w : World) (hL : Laid w) :
    Calls Tryz.prog 6 #[.string a0] w fun e w' => e = .returned (.bool true) ∧ Below w.heap.size w w' := by
  have hsz := w0
  unfold maxLen at w0
  by_cases h : 1048576 < a0.size
  · clear hL
    go_enter Tryz.func6, Tryz.ntmps6
    go_wp2
    go_ret
    exact ⟨rfl, Below.refl _ _⟩
  obtain ⟨C, D, n, S, x, hn, hs, hi⟩ := readBoth a0 (by omega)
  obtain ⟨r, hr⟩ : ∃ r, 1 + 5 * n = r := ⟨_, rfl⟩
  have HR : Hid (1 + 5 * n = r) := hr
  have hr0 : ¬ ((r : Int) < 0) := by omega
  have HS : Hid (∀ w, Calls Tryz.prog 19 #[.string a0] w fun e w' => RdOne w.heap.size C D n S x w e w') := hs
  have HI : Hid (∀ w, Laid w → Calls Tryz.prog 20 #[.string a0] w fun e w' => RdOne w.heap.size C D n S x w e w') := hi
  have HL : Hid (Laid w) := hL
  clear hs hi hr hL
  go_enter Tryz.func6, Tryz.ntmps6
  go_wp2_with fail
  refine (HS.out _).mono ?_
  rintro e w1 ⟨hb1, q, cap, rfl, ow1⟩
  have B1 : Below w.heap.size w (w1.alloc (.cells #[.string C, .string D, .slice q n cap] 30)) := hb1.trans ((grown1' w1 _).mono hb1.size)
  have hL1 := laid_below HL.out B1
  have HB1 : Hid (Below w.heap.size w w1) := hb1
  have HL1 : Hid (Laid (w1.alloc (.cells #[.string C, .string D, .slice q n cap] 30))) := hL1
  have OW1 : Hid (OwnS w1 w.heap.size q n S) := ow1
  clear hb1 B1 hL1 ow1
  go_wp2_with fail
  refine (HI.out _ HL1.out).mono ?_
  rintro e w2 ⟨hb2, q2, cap2, rfl, ow2⟩
  have st := RdSt.start (cap2 := cap2) HB1.out OW1.out hb2 ow2
  have ST : Hid (RdSt w w1.heap.size w2.heap.size w1.heap.size (w1.heap.size + 1) C D q q2 n cap cap2 S S (w2.alloc (.cells #[.string C, .string D, .slice q2 n cap2] 30))) := st
  have x0 := st.x0
  have x1 := st.x1
  have x2 := st.x2
  have sq := st.sy.syms st.lu
  have so := st.ow.syms
  clear st hb2 ow2
  go_wp2_with fail
  refine (eqImg C D q2 q n cap2 cap S _ (by omega) so sq).mono ?_
  rintro e w3 ⟨rfl, hb3⟩
  have st := ST.out.next hb3
  have ST3 : Hid (RdSt w w1.heap.size w2.heap.size w1.heap.size (w1.heap.size + 1) C D q q2 n cap cap2 S S w3) := st
  have y0 := st.y0
  have y1 := st.y1
  have y2 := st.y2
  clear st hb3 ST so sq x0 x1 x2
  go_wp2_with fail
  refine (markOne (w1.heap.size + 1) C D q2 n cap2 r HR.out S _ hn ST3.out.lv ST3.out.ow).mono ?_
  rintro e w4 ⟨rfl, hb4, ow4⟩
  have st := ST3.out.mark hb4 ow4
  have ST4 : Hid (RdSt w w1.heap.size w2.heap.size w1.heap.size (w1.heap.size + 1) C D q q2 n cap cap2 S (mkS 1) w4) := st
  clear y0 y1 y2
  have y0 := st.y0
  have y1 := st.y1
  have y2 := st.y2
  clear st hb4 ow4 ST3
  go_wp2_with fail
  refine (heldOne (w1.heap.size + 1) C D q2 n cap2 r HR.out _ hn ST4.out.ow).mono ?_
  rintro e w5 ⟨rfl, hb5⟩
  have st := ST4.out.next hb5
  have hL5 := laid_below HL.out st.b
  have ST5 : Hid (RdSt w w1.heap.size w2.heap.size w1.heap.size (w1.heap.size + 1) C D q q2 n cap cap2 S (mkS 1) w5) := st
  have HL5 : Hid (Laid w5) := hL5
  clear st hb5 ST4 y0 y1 y2 hL5
  go_wp2_with fail
  refine (HI.out _ HL5.out).mono ?_
  rintro e w6 ⟨hb6, q3, cap3, rfl, ow6⟩
  have bZ := grown1' w6 (.cells #[.string C, .string D, .slice q3 n cap3] 30)
  have st := (ST5.out.next hb6).next bZ
  have ST6 : Hid (RdSt w w1.heap.size w2.heap.size w1.heap.size (w1.heap.size + 1) C D q q2 n cap cap2 S (mkS 1) (w6.alloc (.cells #[.string C, .string D, .slice q3 n cap3] 30))) := st
  have x0 := st.x0
  have x1 := st.x1
  have x2 := st.x2
  have sq := st.sy.syms st.lu
  have so := (ow6.below bZ).syms
  clear st hb6 bZ ow6 ST5
  go_wp2_with fail
  refine (eqImg C D q3 q n cap3 cap S _ (by omega) so sq).mono ?_
  rintro e w7 ⟨rfl, hb7⟩
  have st := ST6.out.next hb7
  have ST7 : Hid (RdSt w w1.heap.size w2.heap.size w1.heap.size (w1.heap.size + 1) C D q q2 n cap cap2 S (mkS 1) w7) := st
  have y0 := st.y0
  have y1 := st.y1
  have y2 := st.y2
  clear st hb7 ST6 so sq x0 x1 x2
  go_wp2_with fail
  refine (heldOne (w1.heap.size + 1) C D q2 n cap2 r HR.out _ hn ST7.out.ow).mono ?_
  rintro e w8 ⟨rfl, hb8⟩
  have B8 : Below w.heap.size w w8 := (ST7.out.next hb8).b
  clear hb8 ST7 y0 y1 y2
  go_wp2_with fail
  go_ret
  exact ⟨rfl, B8⟩

set_option maxRecDepth 100000 in
theorem lifted (os : Os) (started : os.Started) (H : Type) (enc : TypeId × Value → H) :
    ReturnsInHanded {} Tryz.checked os 6 .any (fun w args => (Rows.fnExactReadImageSpec.pre enc Tryz.prog Tryz.f6 [] false w args ∧ laidMetH Tryz.prog laidList w) ∧ sizedMet enc Tryz.prog Tryz.f6 (OpenSpec.ofChange Rows.fnExactReadImageSpec) false w args)
      (Rows.fnExactReadImageSpec.post enc Tryz.prog Tryz.f6 false true false false) := by
  refine returnsInHanded_of_change_and (C := Tryz.checked) (X := fun w _ => laidMetH Tryz.prog laidList w) (fun _ _ _ hh h => h.of_heap hh) own started (by kernel_rfl) Tryz.func6
    (ChangeSpec.witness_shaped (enc := enc) (C := Tryz.checked) (os := os) (X := fun w _ => laidMetH Tryz.prog laidList w) false (World.doorLaid Tryz.prog 400 os) #[.string ByteArray.empty] 8 rfl (World.shaped_of_RefB (by kernel_rfl) (by kernel_rfl)) (by kernel_rfl) (by kernel_rfl) (by kernel_rfl) (door_met os _)) ?_
  intro W base args ds gs before hval0 hW _ _ hL0 _
  have hval : ∀ (j : Nat) t v, Tryz.f6.params[j]? = some t → args[j]? = some v → Value.okWide Tryz.prog W .any base t v := hval0
  have hW' := hW
  obtain ⟨p, q, hA0, hV, rfl, hfz, hnd⟩ := hW
  have hA : DataW.TrodAll enc Tryz.prog W 0 (fun _ => true) true Tryz.f6.params.toList args.toList ds p := hA0
  rw [Tryz.params6] at hA hval
  obtain ⟨v0, vs0, d0, ds0, p0, q0, hargs, rfl, rfl, h0, r0⟩ := trodAll_cons hA
  obtain ⟨rfl, rfl, rfl⟩ := trodAll_nil r0
  obtain rfl : args = #[v0] := by cases args; simp_all
  obtain ⟨g0, g1, g2, g3, g4, rfl⟩ := vars_len5 hV
  have hL : Laid W := of_laid hL0
  clear hL0
  obtain ⟨a0, rfl, rfl, rfl, w0⟩ := open_string Tryz.underlying9 (hval 0 9 v0 rfl rfl) h0
  clear hA0 hval0
  refine (walk a0 w0 W hL).mono fun e W' ⟨he, hg⟩ => ?_
  subst he
  exact ⟨_, rfl, _, _, _, [], _, q, hW', trodAll_mk1 (shut_bool Tryz.underlying4 _), (trodAll_cons_mk (shut_string Tryz.underlying9 w0) trodAll_mk0), Below.trodVars laidOut hg (by kernel_rfl) hV, hg.frame _, fun h => by cases h⟩

theorem over : Rows.FnExactReadImageSaid :=
  OpenClaim.holds_of_wide 6 Tryz.f6 rfl rfl rfl rfl rfl rfl rfl ⟨rfl, rfl, rfl, rfl, rfl⟩ rfl rfl rfl rfl rfl (by kernel_rfl) Tryz.func6 (by kernel_rfl)
    (of_decide_eq_true (by kernel_rfl)) (by unfold Func.isWrapper; first | (rw [if_pos (by decide +kernel)]; kernel_rfl) | (rw [if_neg (by decide +kernel)]; exact ⟨rfl, rfl⟩))
    (fun os started H enc _ => lifted os started H enc)

theorem plain (f : FuncId) (fn : Func) (hf : Tryz.pinned.checked.prog.funcNamed "loop.example/g00654/laws.FnExactReadImage" = some f) (hfn : Tryz.pinned.checked.prog.funcs[f]? = some fn) :
    true = Tryz.pinned.checked.prog.looks [] ∧ ∀ (j : Nat) t, fn.params[j]? = some t → Tryz.pinned.checked.prog.wantsStandIn t = false := by
  obtain rfl : f = 6 := Option.some.inj ((show Tryz.prog.funcNamed "loop.example/g00654/laws.FnExactReadImage" = some 6 by kernel_rfl).symm.trans hf) |>.symm
  obtain rfl : fn = Tryz.f6 := (Option.some.inj (Tryz.func6.symm.trans hfn)).symm
  refine ⟨by kernel_rfl, fun j t ht => ?_⟩
  rw [Tryz.params6] at ht
  have hm : t ∈ [9] := by
    have := Array.mem_of_getElem? ht
    simp at this ⊢
    first | omega | exact this | exact this.symm | (rcases this with h | h <;> simp [h]) | (rcases this with h | h | h <;> simp [h]) | (rcases this with h | h | h | h <;> simp [h])
  have hall : ([9].all fun u => !Tryz.prog.wantsStandIn u) = true := by kernel_rfl
  exact (show Tryz.prog.wantsStandIn t = false by simpa using List.all_eq_true.1 hall t hm)

theorem card : Rows.FnExactReadImageCardSaid :=
  Claim7.holds_tied_plain_at .later [] _ _ _ _ over (fun _ h => by cases h) (by kernel_rfl) (fun _ h => by cases h) fnExactReadImage_row_tie rfl ⟨rfl, rfl⟩ (by kernel_rfl) rfl plain (by kernel_rfl)
end Go.Proofs.YthihlbfmpkjhpaaGreatDoor.fnExactReadImage
theorem Go.Proofs.YthihlbfmpkjhpaaGreatDoor.readImage_holds : Go.Proofs.YthihlbfmpkjhpaaGreatDoor.Rows.FnExactReadImageCardSaid := Go.Proofs.YthihlbfmpkjhpaaGreatDoor.fnExactReadImage.card
