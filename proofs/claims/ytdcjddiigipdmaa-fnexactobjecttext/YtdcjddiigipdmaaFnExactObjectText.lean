/- ObjectText answers at every object as its model does: its text, or that it is not right; the object is left as it was. -/
import Derived.Test.YtdcjddiigipdmaaObjTB
import Derived.WalkKit
import Derived.ProofKit
import Derived.OpenShut
import Derived.ShutString
namespace Go.Proofs.Ytdcjddiigipdmaa.fnExactObjectText
open Go.RowKit Go.ChangeShapes Go.WideShapes Go.ChangeAt Go.RowKit
open Go.ChangeMaps (open_string shut_string)
set_option linter.unusedVariables false

theorem laidOut : laidOutB Try.prog = true := by kernel_rfl
theorem own : ownKnob Try.prog.godebug = none := by kernel_rfl

set_option maxRecDepth 100000 in
set_option maxHeartbeats 4000000 in
theorem walk (q0 : ObjPt) (o0 : ObjD) (w : World) (w0 : IsObject w q0 o0) :
    Calls Try.prog 5 #[.agg (objC o0 q0)] w fun e w' => e = .returned (.bool true) ∧ Below w.heap.size w w' := by
  obtain ⟨hwf, hp⟩ := w0
  have bA := grown1' w (.cells (objC o0 q0) 27)
  have lA := Lies.new w (objC o0 q0) 27
  have sz := szObj q0 o0 1048576 _ (by omega) (by omega) hwf (hp.below bA)
  have HP : Hid (∀ W : World, Below w.heap.size w W → ObjAt W q0 o0) := fun W h => hp.below h
  have HA : Hid (Below w.heap.size w _) := bA
  have HL : Hid (Lies _ w.heap.size 27 (objC o0 q0)) := lA
  have hlt0 := lA.lt
  have HWF : Hid o0.wf := hwf
  clear bA lA hp hwf
  go_enter Try.func5, Try.ntmps5
  go_wp2_with fail
  refine sz.mono ?_
  rintro e w1 ⟨⟨r, rfl, hr⟩, hb1⟩
  have B1 := HA.out.trans (hb1.mono HA.out.size)
  have L1 := HL.out.below hb1 hlt0
  clear sz hb1 HA HL hlt0
  have HA : Hid (Below w.heap.size w w1) := B1
  have HL : Hid (Lies w1 w.heap.size 27 (objC o0 q0)) := L1
  have hlt1 := L1.lt
  have i0 := obj0 L1
  have i1 := obj1 L1
  have i2 := obj2 L1
  have i3 := obj3 L1
  have i4 := obj4 L1
  have i5 := obj5 L1
  clear B1 L1
  rcases hr with rfl | ⟨r0, r1, hnm, hf, hd, hr, hs, hF, hD, hR⟩
  · go_wp2_with fail
    go_ret
    exact ⟨rfl, HA.out⟩
  have hz : o0.fits := ⟨by omega, by omega, by omega, by omega⟩
  have HSZ : Hid (o0.nm.size ≤ 1048576 ∧ (∀ i, i < o0.nf → ((o0.F i).nm.size : Int) ≤ 1048576 ∧ ((o0.F i).cd.size : Int) ≤ 1048576) ∧ (∀ i, i < o0.nd → ((o0.D i).nm.size : Int) ≤ 1048576 ∧ ((o0.D i).bs.size : Int) ≤ 1048576) ∧ ∀ i, i < o0.nr → ((o0.R i).sy.size : Int) ≤ 1048576) := ⟨by omega, hF, hD, hR⟩
  have hwf := HWF.out
  have zf := hz.nf
  have zd := hz.nd
  have zr := hz.nr
  have zs := hz.ns
  obtain ⟨x, y, hS, hI⟩ := textBothO o0 hz hwf
  have HS : Hid (∀ q W, ObjAt W q o0 → _) := hS
  have HI : Hid (∀ q W, ObjAt W q o0 → _) := hI
  clear hS hI hwf hF hD hR hnm hf hd hr hs hz
  go_wp2_with fail
  refine (toObj q0 o0 w1 zf zd zr zs (HP.out w1 HA.out)).mono ?_
  rintro e w2 ⟨p1, _, _, _, _, rfl, hb, ho⟩
  have B := HA.out.trans (hb.mono HA.out.size)
  have L := HL.out.below hb hlt1
  have hO := ho.at
  clear HA HL hb ho i0 i1 i2 i3 i4 i5
  have HA : Hid (Below w.heap.size w w2) := B
  have HL : Hid (Lies w2 w.heap.size 27 (objC o0 q0)) := L
  have HO : Hid (ObjAt w2 p1 o0) := hO
  have hlt2 := L.lt
  have i0 := obj0 L
  have i1 := obj1 L
  have i2 := obj2 L
  have i3 := obj3 L
  have i4 := obj4 L
  have i5 := obj5 L
  clear B L hO
  go_wp2_with fail
  refine (HS.out p1 w2 HO.out).mono ?_
  rintro e w3 ⟨rfl, hb⟩
  have B := HA.out.trans (hb.mono HA.out.size)
  have L := HL.out.below hb hlt2
  clear HA HL hb HO i0 i1 i2 i3 i4 i5
  have HA : Hid (Below w.heap.size w w3) := B
  have HL : Hid (Lies w3 w.heap.size 27 (objC o0 q0)) := L
  have hlt3 := L.lt
  have i0 := obj0 L
  have i1 := obj1 L
  have i2 := obj2 L
  have i3 := obj3 L
  have i4 := obj4 L
  have i5 := obj5 L
  clear B L
  go_wp2_with fail
  refine (toObj q0 o0 w3 zf zd zr zs (HP.out w3 HA.out)).mono ?_
  rintro e w4 ⟨p2, _, _, _, _, rfl, hb, ho⟩
  have bX := grown1' w4 (.cells (objC o0 p2) 36)
  have lX := Lies.new w4 (objC o0 p2) 36
  have B := HA.out.trans ((hb.mono HA.out.size).trans (bX.mono (Nat.le_trans HA.out.size hb.size)))
  have L := (HL.out.below hb hlt3).alloc (.cells (objC o0 p2) 36)
  have hO := ho.at.below bX
  clear HA HL hb ho i0 i1 i2 i3 i4 i5 bX
  go_wp2_with fail
  obtain ⟨W5, hW5⟩ : ∃ W, w4.alloc (.cells #[.string o0.nm, .int .i64 o0.dp, .slice p2.pf o0.nf p2.kf, .slice p2.pd o0.nd p2.kd, .slice p2.pr o0.nr p2.kr, .slice p2.ps o0.ns p2.ks] 36) = W := ⟨_, rfl⟩
  obtain ⟨X, hX⟩ : ∃ X, w4.heap.size = X := ⟨_, rfl⟩
  rw [hX] at lX ⊢
  rw [hW5] at B L lX hO ⊢
  have HA : Hid (Below w.heap.size w W5) := B
  have HL : Hid (Lies W5 w.heap.size 27 (objC o0 q0)) := L
  have HX : Hid (Lies W5 X 36 (objC o0 p2)) := lX
  have HO : Hid (ObjAt W5 p2 o0) := hO
  have hlt5 := L.lt
  have hxt5 := lX.lt
  clear B L lX hO hW5 hX
  refine (HI.out p2 W5 HO.out).mono ?_
  rintro e w7 ⟨rfl, hb⟩
  have B := HA.out.trans (hb.mono HA.out.size)
  have L := HL.out.below hb hlt5
  have lX := HX.out.below hb hxt5
  have hO := HO.out.below hb
  clear HA HL HX HO hb
  have HA : Hid (Below w.heap.size w w7) := B
  have HL : Hid (Lies w7 w.heap.size 27 (objC o0 q0)) := L
  have HX : Hid (Lies w7 X 36 (objC o0 p2)) := lX
  have HO : Hid (ObjAt w7 p2 o0) := hO
  have hlt7 := L.lt
  have hxt7 := lX.lt
  have i0 := obj0 L
  have i1 := obj1 L
  have i2 := obj2 L
  have i3 := obj3 L
  have i4 := obj4 L
  have i5 := obj5 L
  have j0 := obj0 lX
  have j1 := obj1 lX
  have j2 := obj2 lX
  have j3 := obj3 lX
  have j4 := obj4 lX
  have j5 := obj5 lX
  clear B L lX hO HS HI
  go_wp2_with fail
  go_region_held3 (fun w' => w'.cell? ⟨w.heap.size, 0, none⟩ = some (.string o0.nm) ∧ w'.cell? ⟨w.heap.size, 1, none⟩ = some (.int .i64 o0.dp) ∧ w'.cell? ⟨w.heap.size, 2, none⟩ = some (.slice q0.pf o0.nf q0.kf) ∧ w'.cell? ⟨w.heap.size, 3, none⟩ = some (.slice q0.pd o0.nd q0.kd) ∧ w'.cell? ⟨w.heap.size, 4, none⟩ = some (.slice q0.pr o0.nr q0.kr) ∧ w'.cell? ⟨w.heap.size, 5, none⟩ = some (.slice q0.ps o0.ns q0.ks) ∧ w'.cell? ⟨X, 0, none⟩ = some (.string o0.nm) ∧ w'.cell? ⟨X, 1, none⟩ = some (.int .i64 o0.dp) ∧ w'.cell? ⟨X, 2, none⟩ = some (.slice p2.pf o0.nf p2.kf) ∧ w'.cell? ⟨X, 3, none⟩ = some (.slice p2.pd o0.nd p2.kd) ∧ w'.cell? ⟨X, 4, none⟩ = some (.slice p2.pr o0.nr p2.kr) ∧ w'.cell? ⟨X, 5, none⟩ = some (.slice p2.ps o0.ns p2.ks)) (go_keep) (first | (go_at_call 12; refine (toObj q0 o0 _ zf zd zr zs (HP.out _ (by first | exact HA.out.drew | exact HA.out))).mono ?_; rintro e w8 ⟨p3, _, _, _, _, rfl, hb8, ho⟩; have b8 : Below w7.heap.size w7 w8 := (by first | exact (Below.refl w7.heap.size w7).drew.trans hb8 | exact hb8); have hO8 := ho.at; have la := HL.out.below b8 hlt7; have lb := HX.out.below b8 hxt7; have m0 := obj0 la; have m1 := obj1 la; have m2 := obj2 la; have m3 := obj3 la; have m4 := obj4 la; have m5 := obj5 la; have n0 := obj0 lb; have n1 := obj1 lb; have n2 := obj2 lb; have n3 := obj3 lb; have n4 := obj4 lb; have n5 := obj5 lb) | (go_at_call 14; refine (eqObj p2 p3 o0 _ (by omega) (by omega) (by omega) (by omega) (HO.out.below b8) hO8).mono ?_; rintro e w9 ⟨rfl, hb9⟩; have b8 : Below w7.heap.size w7 w9 := b8.trans (hb9.mono b8.size); have la := HL.out.below b8 hlt7; have lb := HX.out.below b8 hxt7; have m0 := obj0 la; have m1 := obj1 la; have m2 := obj2 la; have m3 := obj3 la; have m4 := obj4 la; have m5 := obj5 la; have n0 := obj0 lb; have n1 := obj1 lb; have n2 := obj2 lb; have n3 := obj3 lb; have n4 := obj4 lb; have n5 := obj5 lb))
  all_goals
    have B9 : Below w.heap.size w w9 := HA.out.trans (b8.mono HA.out.size)
    go_wp2_with fail
    go_ret
    exact ⟨rfl, B9⟩

set_option maxRecDepth 100000 in
theorem lifted (os : Os) (started : os.Started) (H : Type) (enc : TypeId × Value → H) :
    ReturnsInHanded {} Try.checked os 5 .any (Rows.fnExactObjectTextSpec.pre6 enc Try.prog Try.f5 Rows.fnExactObjectTextRow.domain false) (Rows.fnExactObjectTextSpec.post enc Try.prog Try.f5 false true false false) := by
  refine returnsInHanded_of_change (C := Try.checked) own started (by kernel_rfl) Try.func5
    (ChangeSpec.witness6 (enc := enc) (C := Try.checked) false ⟨#[], #[.agg #[.string ByteArray.empty, .int .i64 0, .slice none 0 0, .slice none 0 0, .slice none 0 0, .slice none 0 0]], []⟩ 8 (by kernel_rfl) (by kernel_rfl) (by kernel_rfl) (by kernel_rfl)) ?_
  intro W base args ds gs before hval0 hW hcnd _
  have hval : ∀ (j : Nat) t v, Try.f5.params[j]? = some t → args[j]? = some v → Value.okWide Try.prog W .any base t v := hval0
  have hW' := hW
  obtain ⟨p, q, hA0, hV, rfl, hfz, hnd⟩ := hW
  have hA : DataW.TrodAll enc Try.prog W 0 (fun _ => true) true Try.f5.params.toList args.toList ds p := hA0
  rw [Try.params5] at hA hval
  obtain ⟨v0, vs0, d0, ds0, p0, q0, hargs, rfl, rfl, h0, r0⟩ := trodAll_cons hA
  obtain ⟨rfl, rfl, rfl⟩ := trodAll_nil r0
  obtain rfl : args = #[v0] := by cases args; simp_all
  obtain ⟨rfl, rfl⟩ := trodVars_none hV
  have k0 := h0
  have lt0 : ∀ x ∈ p0, x.block < W.heap.size := by obtain ⟨m, hm⟩ := k0; exact DataW.trod_lt m _ _ _ hm
  obtain ⟨q0, o0, rfl, w0⟩ := open_object Try.underlying27 (by kernel_rfl) (by kernel_rfl) Try.underlying9 Try.underlying3 Try.underlying22 Try.underlying23 Try.underlying24 Try.underlying25 Try.underlying100 (by kernel_rfl) (by kernel_rfl) Try.underlying9 Try.underlying4 Try.underlying3 Try.underlying9 Try.underlying102 (by kernel_rfl) (by kernel_rfl) Try.underlying9 Try.underlying9 Try.underlying104 (by kernel_rfl) (by kernel_rfl) Try.underlying3 Try.underlying3 Try.underlying3 Try.underlying9 Try.underlying3 Try.underlying111 (by kernel_rfl) (by kernel_rfl) Try.underlying3 Try.underlying4 (hval 0 27 v0 rfl rfl) h0
  clear hA0 hval0
  refine (walk q0 o0 W w0).mono fun e W' ⟨he, bel⟩ => ?_
  subst he
  exact ⟨_, rfl, _, _, _, [], _, [], hW', trodAll_mk1 (shut_bool Try.underlying4 _), (trodAll_cons_mk (Below.trod laidOut (by kernel_rfl) (of_decide_eq_true (by kernel_rfl)) k0 bel lt0) trodAll_mk0), rfl, bel.frame _, fun h => by cases h⟩

theorem over : Rows.fnExactObjectTextRow.holds Try.pinned (OpenSpec.ofChange Rows.fnExactObjectTextSpec) :=
  OpenClaim.holds_of_wide 5 Try.f5 rfl rfl rfl rfl rfl rfl rfl ⟨rfl, rfl, rfl, rfl, rfl⟩ rfl rfl rfl rfl rfl (by kernel_rfl) Try.func5 (by kernel_rfl)
    (of_decide_eq_true (by kernel_rfl)) (by unfold Func.isWrapper; first | (rw [if_pos (by decide +kernel)]; kernel_rfl) | (rw [if_neg (by decide +kernel)]; exact ⟨rfl, rfl⟩))
    (fun os started H enc _ => lifted os started H enc)

theorem proved : Rows.FnExactObjectTextSaid :=
  over
end Go.Proofs.Ytdcjddiigipdmaa.fnExactObjectText
theorem Go.Proofs.Ytdcjddiigipdmaa.objectText_holds : Go.Proofs.Ytdcjddiigipdmaa.Rows.FnExactObjectTextSaid := Go.Proofs.Ytdcjddiigipdmaa.fnExactObjectText.proved
