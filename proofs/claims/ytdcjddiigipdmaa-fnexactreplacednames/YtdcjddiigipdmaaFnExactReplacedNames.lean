/- ReplacedNames answers at every object as its model does: the names that it replaces, in new memory; the object is left as it was. -/
import Derived.Test.YtdcjddiigipdmaaObjN
import Derived.WalkKit
import Derived.ProofKit
import Derived.OpenShut
import Derived.ShutString
namespace Go.Proofs.Ytdcjddiigipdmaa.fnExactReplacedNames
open Go.RowKit Go.ChangeShapes Go.WideShapes Go.ChangeAt Go.RowKit
open Go.ChangeMaps (open_string shut_string)
set_option linter.unusedVariables false

theorem laidOut : laidOutB Try.prog = true := by kernel_rfl
theorem own : ownKnob Try.prog.godebug = none := by kernel_rfl

set_option maxRecDepth 100000 in
set_option maxHeartbeats 8000000 in
theorem walk (q0 : ObjPt) (o0 : ObjD) (w : World) (w0 : IsObject w q0 o0) :
    Calls Try.prog 8 #[.agg (objC o0 q0)] w fun e w' => e = .returned (.bool true) ∧ Below w.heap.size w w' := by
  obtain ⟨hwf, hp⟩ := w0
  have bA := grown1' w (.cells (objC o0 q0) 27)
  have lA := Lies.new w (objC o0 q0) 27
  have sz := szObj q0 o0 1048576 _ (by omega) (by omega) hwf (hp.below bA)
  have HP : Hid (∀ W : World, Below w.heap.size w W → ObjAt W q0 o0) := fun W h => hp.below h
  have HA : Hid (Below w.heap.size w _) := bA
  have HL : Hid (Lies _ w.heap.size 27 (objC o0 q0)) := lA
  have hlt0 := lA.lt
  have HWF : Hid o0.wf := hwf
  clear bA lA hp hwf
  go_enter Try.func8, Try.ntmps8
  go_wp2_with fail
  refine sz.mono ?_
  rintro e w1 ⟨⟨r, rfl, hr⟩, hb1⟩
  have B1 := HA.out.trans (hb1.mono HA.out.size)
  have L1 := HL.out.below hb1 hlt0
  clear sz hb1 HA HL hlt0
  have HA : Hid (Below w.heap.size w w1) := B1
  have HL : Hid (Lies w1 w.heap.size 27 (objC o0 q0)) := L1
  have lHL := L1.lt
  clear B1 L1
  have i0 := obj0 HL.out
  have i1 := obj1 HL.out
  have i2 := obj2 HL.out
  have i3 := obj3 HL.out
  have i4 := obj4 HL.out
  have i5 := obj5 HL.out
  rcases hr with rfl | ⟨r0, r1, hnm, hf, hd, hr, hs, hF, hD, hR⟩
  · go_wp2_with fail
    go_ret
    exact ⟨rfl, HA.out⟩
  have hz' : o0.fits := ⟨by omega, by omega, by omega, by omega⟩
  have hwf := HWF.out
  have zf := hz'.nf
  have zd := hz'.nd
  have zr := hz'.nr
  have zs := hz'.ns
  obtain ⟨L, y, hLn, hS, hI⟩ := replacedBoth o0 hz' hwf
  have HS : Hid (∀ q W, ObjAt W q o0 → _) := hS
  have HI : Hid (∀ q W, ObjAt W q o0 → _) := hI
  clear hS hI hwf hF hD hR hnm hf hd hr hs hz'
  have hz : 0 ≤ w1.heap.size := Nat.zero_le _
  go_wp2_with fail
  refine (toObj q0 o0 w1 zf zd zr zs (HP.out w1 HA.out)).mono ?_
  rintro e w2 ⟨p1, _, _, _, _, rfl, hb, ho⟩
  have HO : Hid (ObjAt w2 p1 o0) := ho.at
  clear ho
  clear i0 i1 i2 i3 i4 i5
  have hz' := hb.size
  have nHA := HA.out.trans (hb.mono HA.out.size)
  have nHL := HL.out.below hb lHL
  have nz : 0 ≤ w2.heap.size := by omega
  clear HA HL hb hz hz'
  have HA : Hid (Below w.heap.size w w2) := nHA
  have HL : Hid (Lies w2 w.heap.size 27 (objC o0 q0)) := nHL
  clear lHL
  have lHL := nHL.lt
  have hz := nz
  clear nz nHA nHL
  have i0 := obj0 HL.out
  have i1 := obj1 HL.out
  have i2 := obj2 HL.out
  have i3 := obj3 HL.out
  have i4 := obj4 HL.out
  have i5 := obj5 HL.out
  obtain ⟨M2, hM2⟩ : ∃ M, w2.heap.size = M := ⟨_, rfl⟩
  go_wp2_with fail
  refine (HS.out p1 w2 HO.out).mono ?_
  rintro e w3 ⟨pw, cw, rfl, how, hb⟩
  obtain ⟨M3, hM3⟩ : ∃ M, w3.heap.size = M := ⟨_, rfl⟩
  have HW : Hid (OwnIn w3 M2 M3 pw L.length 1 (strV (lst L))) := by
    rcases how with h | ⟨g, h1, h2, h3, h4⟩
    · exact .inl h
    · exact .inr ⟨g, h1, by omega, by omega, by omega, h4⟩
  have hM0 : w.heap.size < M2 := by omega
  have hM23 : M2 ≤ M3 := by have := hb.size; omega
  clear how HO
  clear i0 i1 i2 i3 i4 i5
  have hz' := hb.size
  have nHA := HA.out.trans (hb.mono HA.out.size)
  have nHL := HL.out.below hb lHL
  have nz : 0 ≤ w3.heap.size := by omega
  clear HA HL hb hz hz'
  have HA : Hid (Below w.heap.size w w3) := nHA
  have HL : Hid (Lies w3 w.heap.size 27 (objC o0 q0)) := nHL
  clear lHL
  have lHL := nHL.lt
  have hz := nz
  clear nz nHA nHL
  have hz : M3 ≤ w3.heap.size := by omega
  have i0 := obj0 HL.out
  have i1 := obj1 HL.out
  have i2 := obj2 HL.out
  have i3 := obj3 HL.out
  have i4 := obj4 HL.out
  have i5 := obj5 HL.out
  go_wp2_with fail
  refine (toObj q0 o0 w3 zf zd zr zs (HP.out w3 HA.out)).mono ?_
  rintro e w4 ⟨p2, b1, b2, b3, b4, rfl, hb, ho⟩
  rw [hM3] at ho
  have HB : Hid (ObjOwn w4 M3 b1 b2 b3 b4 p2 o0) := ho
  have hb4 : b4 ≤ w4.heap.size := ho.top
  have hb3 : M3 ≤ b4 := by have h0 := ho.h0; have h1 := ho.h1; have h2 := ho.h2; have h3 := ho.h3; omega
  clear ho
  clear i0 i1 i2 i3 i4 i5
  have hz' := hb.size
  have nHA := HA.out.trans (hb.mono HA.out.size)
  have nHL := HL.out.below hb lHL
  have nHW := HW.out.below (hb.mono (show M3 ≤ w3.heap.size by omega))
  have nz : M3 ≤ w4.heap.size := by omega
  clear HA HL HW hb hz hz'
  have HA : Hid (Below w.heap.size w w4) := nHA
  have HL : Hid (Lies w4 w.heap.size 27 (objC o0 q0)) := nHL
  clear lHL
  have lHL := nHL.lt
  have HW : Hid (OwnIn w4 M2 M3 pw L.length 1 (strV (lst L))) := nHW
  have hz := nz
  clear nz nHA nHL nHW
  have hz : b4 ≤ w4.heap.size := hb4
  have bX := grown1' w4 (.cells (objC o0 p2) 36)
  have lX := Lies.new w4 (objC o0 p2) 36
  go_wp2_with fail
  obtain ⟨W5, hW5⟩ : ∃ W, w4.alloc (.cells #[.string o0.nm, .int .i64 o0.dp, .slice p2.pf o0.nf p2.kf, .slice p2.pd o0.nd p2.kd, .slice p2.pr o0.nr p2.kr, .slice p2.ps o0.ns p2.ks] 36) = W := ⟨_, rfl⟩
  obtain ⟨X, hX⟩ : ∃ X, w4.heap.size = X := ⟨_, rfl⟩
  rw [hW5] at bX lX ⊢
  rw [hX] at lX ⊢
  have HX : Hid (Lies W5 X 36 (objC o0 p2)) := lX
  have lHX := lX.lt
  have hb4X : b4 ≤ X := by omega
  clear lX hW5
  have hz' := bX.size
  have nHA := HA.out.trans (bX.mono HA.out.size)
  have nHL := HL.out.below bX lHL
  have nHW := HW.out.below (bX.mono (show M3 ≤ w4.heap.size by omega))
  have nHB := HB.out.below (bX.mono (show b4 ≤ w4.heap.size by omega))
  have nz : b4 ≤ W5.heap.size := by omega
  clear HA HL HW HB bX hz hz'
  have HA : Hid (Below w.heap.size w W5) := nHA
  have HL : Hid (Lies W5 w.heap.size 27 (objC o0 q0)) := nHL
  clear lHL
  have lHL := nHL.lt
  have HW : Hid (OwnIn W5 M2 M3 pw L.length 1 (strV (lst L))) := nHW
  have HB : Hid (ObjOwn W5 M3 b1 b2 b3 b4 p2 o0) := nHB
  have hz := nz
  clear nz nHA nHL nHW nHB
  obtain ⟨M5, hM5⟩ : ∃ M, W5.heap.size = M := ⟨_, rfl⟩
  refine (HI.out p2 W5 HB.out.at).mono ?_
  rintro e w7 ⟨pg, cg, rfl, hog, hb⟩
  obtain ⟨M7, hM7⟩ : ∃ M, w7.heap.size = M := ⟨_, rfl⟩
  have HG : Hid (OwnIn w7 M5 M7 pg L.length 1 (strV (lst L))) := by
    rcases hog with h | ⟨g, h1, h2, h3, h4⟩
    · exact .inl h
    · exact .inr ⟨g, h1, by omega, by omega, by omega, h4⟩
  have hXM : X < M5 := by omega
  have hM57 : M5 ≤ M7 := by have := hb.size; omega
  clear hog
  have hz' := hb.size
  have nHA := HA.out.trans (hb.mono HA.out.size)
  have nHL := HL.out.below hb lHL
  have nHW := HW.out.below (hb.mono (show M3 ≤ W5.heap.size by omega))
  have nHB := HB.out.below (hb.mono (show b4 ≤ W5.heap.size by omega))
  have nHX := HX.out.below hb lHX
  have nz : b4 ≤ w7.heap.size := by omega
  clear HA HL HW HB HX hb hz hz'
  have HA : Hid (Below w.heap.size w w7) := nHA
  have HL : Hid (Lies w7 w.heap.size 27 (objC o0 q0)) := nHL
  clear lHL
  have lHL := nHL.lt
  have HW : Hid (OwnIn w7 M2 M3 pw L.length 1 (strV (lst L))) := nHW
  have HB : Hid (ObjOwn w7 M3 b1 b2 b3 b4 p2 o0) := nHB
  have HX : Hid (Lies w7 X 36 (objC o0 p2)) := nHX
  clear lHX
  have lHX := nHX.lt
  have hz := nz
  clear nz nHA nHL nHW nHB nHX
  have hz : M7 ≤ w7.heap.size := by omega
  have hyy : (y != y) = false := by simp
  go_wp2_with fail
  refine (eqStrs pg pw L.length cg cw (lst L) w7 (by omega) HG.out.rows HW.out.rows).mono ?_
  rintro e w8 ⟨rfl, hb⟩
  have hz' := hb.size
  have nHA := HA.out.trans (hb.mono HA.out.size)
  have nHL := HL.out.below hb lHL
  have nHW := HW.out.below (hb.mono (show M3 ≤ w7.heap.size by omega))
  have nHB := HB.out.below (hb.mono (show b4 ≤ w7.heap.size by omega))
  have nHX := HX.out.below hb lHX
  have nHG := HG.out.below (hb.mono (show M7 ≤ w7.heap.size by omega))
  have nz : M7 ≤ w8.heap.size := by omega
  clear HA HL HW HB HX HG hb hz hz'
  have HA : Hid (Below w.heap.size w w8) := nHA
  have HL : Hid (Lies w8 w.heap.size 27 (objC o0 q0)) := nHL
  clear lHL
  have lHL := nHL.lt
  have HW : Hid (OwnIn w8 M2 M3 pw L.length 1 (strV (lst L))) := nHW
  have HB : Hid (ObjOwn w8 M3 b1 b2 b3 b4 p2 o0) := nHB
  have HX : Hid (Lies w8 X 36 (objC o0 p2)) := nHX
  clear lHX
  have lHX := nHX.lt
  have HG : Hid (OwnIn w8 M5 M7 pg L.length 1 (strV (lst L))) := nHG
  have hz := nz
  clear nz nHA nHL nHW nHB nHX nHG
  have i0 := obj0 HL.out
  have i1 := obj1 HL.out
  have i2 := obj2 HL.out
  have i3 := obj3 HL.out
  have i4 := obj4 HL.out
  have i5 := obj5 HL.out
  have j0 := obj0 HX.out
  have j1 := obj1 HX.out
  have j2 := obj2 HX.out
  have j3 := obj3 HX.out
  have j4 := obj4 HX.out
  have j5 := obj5 HX.out
  go_wp2_with fail
  have HOx : Hid (ObjAt w8 p2 o0) := HB.out.at
  go_region_held3 (fun w' => w'.cell? ⟨w.heap.size, 0, none⟩ = some (.string o0.nm) ∧ w'.cell? ⟨w.heap.size, 1, none⟩ = some (.int .i64 o0.dp) ∧ w'.cell? ⟨w.heap.size, 2, none⟩ = some (.slice q0.pf o0.nf q0.kf) ∧ w'.cell? ⟨w.heap.size, 3, none⟩ = some (.slice q0.pd o0.nd q0.kd) ∧ w'.cell? ⟨w.heap.size, 4, none⟩ = some (.slice q0.pr o0.nr q0.kr) ∧ w'.cell? ⟨w.heap.size, 5, none⟩ = some (.slice q0.ps o0.ns q0.ks) ∧ w'.cell? ⟨X, 0, none⟩ = some (.string o0.nm) ∧ w'.cell? ⟨X, 1, none⟩ = some (.int .i64 o0.dp) ∧ w'.cell? ⟨X, 2, none⟩ = some (.slice p2.pf o0.nf p2.kf) ∧ w'.cell? ⟨X, 3, none⟩ = some (.slice p2.pd o0.nd p2.kd) ∧ w'.cell? ⟨X, 4, none⟩ = some (.slice p2.pr o0.nr p2.kr) ∧ w'.cell? ⟨X, 5, none⟩ = some (.slice p2.ps o0.ns p2.ks)) (go_keep) (first | (go_at_call 12; refine (toObj q0 o0 _ zf zd zr zs (HP.out _ (by first | exact HA.out.drew | exact HA.out))).mono ?_; rintro e w9 ⟨p3, _, _, _, _, rfl, hb8, ho⟩; have b8 : Below w8.heap.size w8 w9 := (by first | exact (Below.refl w8.heap.size w8).drew.trans hb8 | exact hb8); have hO8 := ho.at; have la := HL.out.below b8 lHL; have lb := HX.out.below b8 lHX; have m0 := obj0 la; have m1 := obj1 la; have m2 := obj2 la; have m3 := obj3 la; have m4 := obj4 la; have m5 := obj5 la; have n0 := obj0 lb; have n1 := obj1 lb; have n2 := obj2 lb; have n3 := obj3 lb; have n4 := obj4 lb; have n5 := obj5 lb) | (go_at_call 14; refine (eqObj p2 p3 o0 _ (by omega) (by omega) (by omega) (by omega) (HOx.out.below b8) hO8).mono ?_; rintro e w10 ⟨rfl, hb9⟩; have b8 : Below w8.heap.size w8 w10 := b8.trans (hb9.mono b8.size); have la := HL.out.below b8 lHL; have lb := HX.out.below b8 lHX; have m0 := obj0 la; have m1 := obj1 la; have m2 := obj2 la; have m3 := obj3 la; have m4 := obj4 la; have m5 := obj5 la; have n0 := obj0 lb; have n1 := obj1 lb; have n2 := obj2 lb; have n3 := obj3 lb; have n4 := obj4 lb; have n5 := obj5 lb))
  clear m0 m1 m2 m3 m4 m5 n0 n1 n2 n3 n4 n5 hO8 hb8 hb9 la lb ho HOx
  clear i0 i1 i2 i3 i4 i5
  clear j0 j1 j2 j3 j4 j5
  have hz' := b8.size
  have nHA := HA.out.trans (b8.mono HA.out.size)
  have nHL := HL.out.below b8 lHL
  have nHW := HW.out.below (b8.mono (show M3 ≤ w8.heap.size by omega))
  have nHB := HB.out.below (b8.mono (show b4 ≤ w8.heap.size by omega))
  have nHX := HX.out.below b8 lHX
  have nHG := HG.out.below (b8.mono (show M7 ≤ w8.heap.size by omega))
  have nz : M7 ≤ w10.heap.size := by omega
  clear HA HL HW HB HX HG b8 hz hz'
  have HA : Hid (Below w.heap.size w w10) := nHA
  have HL : Hid (Lies w10 w.heap.size 27 (objC o0 q0)) := nHL
  clear lHL
  have lHL := nHL.lt
  have HW : Hid (OwnIn w10 M2 M3 pw L.length 1 (strV (lst L))) := nHW
  have HB : Hid (ObjOwn w10 M3 b1 b2 b3 b4 p2 o0) := nHB
  have HX : Hid (Lies w10 X 36 (objC o0 p2)) := nHX
  clear lHX
  have lHX := nHX.lt
  have HG : Hid (OwnIn w10 M5 M7 pg L.length 1 (strV (lst L))) := nHG
  have hz := nz
  clear nz nHA nHL nHW nHB nHX nHG
  have j0 := obj0 HX.out
  have j1 := obj1 HX.out
  have j2 := obj2 HX.out
  have j3 := obj3 HX.out
  have j4 := obj4 HX.out
  have j5 := obj5 HX.out
  go_wp2_with fail
  refine (markObj M3 b1 b2 b3 b4 p2 o0 1 w10 zf zd zr zs (by omega) (by omega) HB.out).mono ?_
  rintro e w11 ⟨⟨r, rfl, hr⟩, hR⟩
  have hrn : ¬ ((r : Int) < 0) := by omega
  clear HB
  clear j0 j1 j2 j3 j4 j5
  have hz' := hR.size
  have nHA : Below w.heap.size w w11 := HA.out.trans (hR.below (by omega) HA.out.size)
  have nHL : Lies w11 w.heap.size 27 (objC o0 q0) := (hR.block _ lHL (by omega)).trans HL.out
  have nHW := HW.out.butR hR (by omega)
  have nHG := HG.out.butR hR (by omega)
  have nz : M7 ≤ w11.heap.size := by omega
  clear HA HL HW HG hR hz hz'
  have HA : Hid (Below w.heap.size w w11) := nHA
  have HL : Hid (Lies w11 w.heap.size 27 (objC o0 q0)) := nHL
  clear lHL
  have lHL := nHL.lt
  have HW : Hid (OwnIn w11 M2 M3 pw L.length 1 (strV (lst L))) := nHW
  have HG : Hid (OwnIn w11 M5 M7 pg L.length 1 (strV (lst L))) := nHG
  have hz := nz
  clear nz nHA nHL nHW nHG
  clear HX lHX
  go_wp2_with fail
  refine (eqStrs pg pw L.length cg cw (lst L) w11 (by omega) HG.out.rows HW.out.rows).mono ?_
  rintro e w12 ⟨rfl, hb⟩
  have hz' := hb.size
  have nHA := HA.out.trans (hb.mono HA.out.size)
  have nHL := HL.out.below hb lHL
  have nHW := HW.out.below (hb.mono (show M3 ≤ w11.heap.size by omega))
  have nHG := HG.out.below (hb.mono (show M7 ≤ w11.heap.size by omega))
  have nz : M7 ≤ w12.heap.size := by omega
  clear HA HL HW HG hb hz hz'
  have HA : Hid (Below w.heap.size w w12) := nHA
  have HL : Hid (Lies w12 w.heap.size 27 (objC o0 q0)) := nHL
  clear lHL
  have lHL := nHL.lt
  have HW : Hid (OwnIn w12 M2 M3 pw L.length 1 (strV (lst L))) := nHW
  have HG : Hid (OwnIn w12 M5 M7 pg L.length 1 (strV (lst L))) := nHG
  have hz := nz
  clear nz nHA nHL nHW nHG
  go_wp2_with fail
  refine (markStrs M5 pg L.length cg 1 (lst L) w12 (by omega) (by omega) (by omega) HG.out.own).mono ?_
  rintro e w13 ⟨rfl, hbO, hOM⟩
  have hR := butR_of hbO HG.out
  have HM : Hid (OwnIn w13 M5 M7 pg L.length 1 (strV (mkT 1))) := by
    rcases HG.out with h' | ⟨g', h1', _, h3', _⟩
    · exact .inl h'
    rcases hOM with h | ⟨g, h1, h2, h3, h4⟩
    · exact .inl h
    · have e1 : g' = g := by
        rw [h1'] at h1
        simpa using h1
      subst e1
      exact .inr ⟨g', h1, h2, h3', by have := hR.size; omega, h4⟩
  clear hbO hOM
  have hz7 : M7 ≤ w13.heap.size := by have := hR.size; omega
  have hz' := hR.size
  have nHA : Below w.heap.size w w13 := HA.out.trans (hR.below (by omega) HA.out.size)
  have nHL : Lies w13 w.heap.size 27 (objC o0 q0) := (hR.block _ lHL (by omega)).trans HL.out
  have nHW := HW.out.butR hR (by omega)
  have nz : M3 ≤ w13.heap.size := by omega
  clear HA HL HW hR hz hz'
  have HA : Hid (Below w.heap.size w w13) := nHA
  have HL : Hid (Lies w13 w.heap.size 27 (objC o0 q0)) := nHL
  clear lHL
  have lHL := nHL.lt
  have HW : Hid (OwnIn w13 M2 M3 pw L.length 1 (strV (lst L))) := nHW
  have hz := nz
  clear nz nHA nHL nHW
  clear HG hz
  have hz := hz7
  clear hz7
  obtain ⟨t, ht⟩ : ∃ t, 1 + L.length = t := ⟨_, rfl⟩
  rw [ht]
  have htt : ¬ ((t : Int) < 0) := by omega
  have hte : ((t : Int) != (t : Int)) = false := by simp
  go_wp2_with fail
  refine (heldStrs pg L.length cg 1 w13 (by omega) (by omega) (by omega) HM.out.rows).mono ?_
  rintro e w14 ⟨rfl, hb⟩
  rw [ht]
  have hz' := hb.size
  have nHA := HA.out.trans (hb.mono HA.out.size)
  have nHL := HL.out.below hb lHL
  have nHW := HW.out.below (hb.mono (show M3 ≤ w13.heap.size by omega))
  have nHM := HM.out.below (hb.mono (show M7 ≤ w13.heap.size by omega))
  have nz : M7 ≤ w14.heap.size := by omega
  clear HA HL HW HM hb hz hz'
  have HA : Hid (Below w.heap.size w w14) := nHA
  have HL : Hid (Lies w14 w.heap.size 27 (objC o0 q0)) := nHL
  clear lHL
  have lHL := nHL.lt
  have HW : Hid (OwnIn w14 M2 M3 pw L.length 1 (strV (lst L))) := nHW
  have HM : Hid (OwnIn w14 M5 M7 pg L.length 1 (strV (mkT 1))) := nHM
  have hz := nz
  clear nz nHA nHL nHW nHM
  have i0 := obj0 HL.out
  have i1 := obj1 HL.out
  have i2 := obj2 HL.out
  have i3 := obj3 HL.out
  have i4 := obj4 HL.out
  have i5 := obj5 HL.out
  go_wp2_with fail
  refine (toObj q0 o0 w14 zf zd zr zs (HP.out w14 HA.out)).mono ?_
  rintro e w15 ⟨p5, _, _, _, _, rfl, hb, ho⟩
  have HO : Hid (ObjAt w15 p5 o0) := ho.at
  clear ho
  clear i0 i1 i2 i3 i4 i5
  have hz' := hb.size
  have nHA := HA.out.trans (hb.mono HA.out.size)
  have nHL := HL.out.below hb lHL
  have nHW := HW.out.below (hb.mono (show M3 ≤ w14.heap.size by omega))
  have nHM := HM.out.below (hb.mono (show M7 ≤ w14.heap.size by omega))
  have nz : M7 ≤ w15.heap.size := by omega
  clear HA HL HW HM hb hz hz'
  have HA : Hid (Below w.heap.size w w15) := nHA
  have HL : Hid (Lies w15 w.heap.size 27 (objC o0 q0)) := nHL
  clear lHL
  have lHL := nHL.lt
  have HW : Hid (OwnIn w15 M2 M3 pw L.length 1 (strV (lst L))) := nHW
  have HM : Hid (OwnIn w15 M5 M7 pg L.length 1 (strV (mkT 1))) := nHM
  have hz := nz
  clear nz nHA nHL nHW nHM
  go_wp2_with fail
  refine (HI.out p5 w15 HO.out).mono ?_
  rintro e w16 ⟨ph, ch, rfl, hoh, hb⟩
  have HH : Hid (StrsAt w16 ph L.length (lst L)) := hoh.rows
  clear hoh HO
  have hz' := hb.size
  have nHA := HA.out.trans (hb.mono HA.out.size)
  have nHL := HL.out.below hb lHL
  have nHW := HW.out.below (hb.mono (show M3 ≤ w15.heap.size by omega))
  have nHM := HM.out.below (hb.mono (show M7 ≤ w15.heap.size by omega))
  have nz : M7 ≤ w16.heap.size := by omega
  clear HA HL HW HM hb hz hz'
  have HA : Hid (Below w.heap.size w w16) := nHA
  have HL : Hid (Lies w16 w.heap.size 27 (objC o0 q0)) := nHL
  clear lHL
  have lHL := nHL.lt
  have HW : Hid (OwnIn w16 M2 M3 pw L.length 1 (strV (lst L))) := nHW
  have HM : Hid (OwnIn w16 M5 M7 pg L.length 1 (strV (mkT 1))) := nHM
  have hz := nz
  clear nz nHA nHL nHW nHM
  go_wp2_with fail
  refine (eqStrs ph pw L.length ch cw (lst L) w16 (by omega) HH.out HW.out.rows).mono ?_
  rintro e w17 ⟨rfl, hb⟩
  clear HH
  have hz' := hb.size
  have nHA := HA.out.trans (hb.mono HA.out.size)
  have nHL := HL.out.below hb lHL
  have nHM := HM.out.below (hb.mono (show M7 ≤ w16.heap.size by omega))
  have nz : M7 ≤ w17.heap.size := by omega
  clear HA HL HM hb hz hz'
  have HA : Hid (Below w.heap.size w w17) := nHA
  have HL : Hid (Lies w17 w.heap.size 27 (objC o0 q0)) := nHL
  clear lHL
  have lHL := nHL.lt
  have HM : Hid (OwnIn w17 M5 M7 pg L.length 1 (strV (mkT 1))) := nHM
  have hz := nz
  clear nz nHA nHL nHM
  go_wp2_with fail
  refine (heldStrs pg L.length cg 1 w17 (by omega) (by omega) (by omega) HM.out.rows).mono ?_
  rintro e w18 ⟨rfl, hb⟩
  rw [ht]
  have B := HA.out.trans (hb.mono HA.out.size)
  clear hb
  go_wp2_with fail
  go_ret
  exact ⟨rfl, B⟩

set_option maxRecDepth 100000 in
theorem lifted (os : Os) (started : os.Started) (H : Type) (enc : TypeId × Value → H) :
    ReturnsInHanded {} Try.checked os 8 .any (Rows.fnExactReplacedNamesSpec.pre6 enc Try.prog Try.f8 Rows.fnExactReplacedNamesRow.domain false) (Rows.fnExactReplacedNamesSpec.post enc Try.prog Try.f8 false true false false) := by
  refine returnsInHanded_of_change (C := Try.checked) own started (by kernel_rfl) Try.func8
    (ChangeSpec.witness6 (enc := enc) (C := Try.checked) false ⟨#[], #[.agg #[.string ByteArray.empty, .int .i64 0, .slice none 0 0, .slice none 0 0, .slice none 0 0, .slice none 0 0]], []⟩ 8 (by kernel_rfl) (by kernel_rfl) (by kernel_rfl) (by kernel_rfl)) ?_
  intro W base args ds gs before hval0 hW hcnd _
  have hval : ∀ (j : Nat) t v, Try.f8.params[j]? = some t → args[j]? = some v → Value.okWide Try.prog W .any base t v := hval0
  have hW' := hW
  obtain ⟨p, q, hA0, hV, rfl, hfz, hnd⟩ := hW
  have hA : DataW.TrodAll enc Try.prog W 0 (fun _ => true) true Try.f8.params.toList args.toList ds p := hA0
  rw [Try.params8] at hA hval
  obtain ⟨v0, vs0, d0, ds0, p0, q0, hargs, rfl, rfl, h0, r0⟩ := trodAll_cons hA
  obtain ⟨rfl, rfl, rfl⟩ := trodAll_nil r0
  obtain rfl : args = #[v0] := by cases args; simp_all
  obtain ⟨rfl, rfl⟩ := trodVars_none hV
  have k0 := h0
  have lt0 : ∀ x ∈ p0, x.block < W.heap.size := by obtain ⟨m, hm⟩ := k0; exact DataW.trod_lt m _ _ _ hm
  obtain ⟨q0, o0, rfl, w0⟩ := open_object Try.underlying27 (by kernel_rfl) (by kernel_rfl) Try.underlying9 Try.underlying3 Try.underlying22 Try.underlying23 Try.underlying24 Try.underlying25 Try.underlying100 (by kernel_rfl) (by kernel_rfl) Try.underlying9 Try.underlying4 Try.underlying3 Try.underlying9 Try.underlying102 (by kernel_rfl) (by kernel_rfl) Try.underlying9 Try.underlying9 Try.underlying104 (by kernel_rfl) (by kernel_rfl) Try.underlying3 Try.underlying3 Try.underlying3 Try.underlying9 Try.underlying3 Try.underlying111 (by kernel_rfl) (by kernel_rfl) Try.underlying3 Try.underlying4 (hval 0 27 v0 rfl rfl) h0
  clear hA0 hval0
  refine (walk q0 o0 W w0).mono fun e W' ⟨he, bel⟩ => ?_
  subst he
  exact ⟨_, rfl, _, _, _, [], _, [], hW', trodAll_mk1 (shut_bool Try.underlying4 _), (trodAll_cons_mk (Below.trod laidOut (by kernel_rfl) (of_decide_eq_true (by kernel_rfl)) k0 bel lt0) trodAll_mk0), rfl, bel.frame _, fun h => by cases h⟩

theorem over : Rows.fnExactReplacedNamesRow.holds Try.pinned (OpenSpec.ofChange Rows.fnExactReplacedNamesSpec) :=
  OpenClaim.holds_of_wide 8 Try.f8 rfl rfl rfl rfl rfl rfl rfl ⟨rfl, rfl, rfl, rfl, rfl⟩ rfl rfl rfl rfl rfl (by kernel_rfl) Try.func8 (by kernel_rfl)
    (of_decide_eq_true (by kernel_rfl)) (by unfold Func.isWrapper; first | (rw [if_pos (by decide +kernel)]; kernel_rfl) | (rw [if_neg (by decide +kernel)]; exact ⟨rfl, rfl⟩))
    (fun os started H enc _ => lifted os started H enc)

theorem proved : Rows.FnExactReplacedNamesSaid :=
  over
end Go.Proofs.Ytdcjddiigipdmaa.fnExactReplacedNames
theorem Go.Proofs.Ytdcjddiigipdmaa.replacedNames_holds : Go.Proofs.Ytdcjddiigipdmaa.Rows.FnExactReplacedNamesSaid := Go.Proofs.Ytdcjddiigipdmaa.fnExactReplacedNames.proved
