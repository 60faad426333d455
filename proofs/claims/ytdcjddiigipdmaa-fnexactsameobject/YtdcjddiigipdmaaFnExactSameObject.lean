/- SameObject answers at every two objects as its model does: whether both are right and alike; the objects are left as they were. -/
import Derived.Test.YtdcjddiigipdmaaObjX2
import Derived.WalkKit
import Derived.ProofKit
import Derived.OpenShut
import Derived.ShutString
namespace Go.Proofs.Ytdcjddiigipdmaa.fnExactSameObject
open Go.RowKit Go.ChangeShapes Go.WideShapes Go.ChangeAt Go.RowKit
open Go.ChangeMaps (open_string shut_string)
set_option linter.unusedVariables false

theorem laidOut : laidOutB Try.prog = true := by kernel_rfl
theorem own : ownKnob Try.prog.godebug = none := by kernel_rfl

set_option maxRecDepth 100000 in
set_option maxHeartbeats 8000000 in
theorem walk (q0 : ObjPt) (o0 : ObjD) (q1 : ObjPt) (o1 : ObjD) (w : World) (w0 : IsObject w q0 o0) (w1 : IsObject w q1 o1) :
    Calls Try.prog 9 #[.agg (objC o0 q0), .agg (objC o1 q1)] w fun e w' => e = .returned (.bool true) ∧ Below w.heap.size w w' := by
  obtain ⟨hwf0, hp0⟩ := w0
  obtain ⟨hwf1, hp1⟩ := w1
  have bA : Below w.heap.size w ((w.alloc (.cells (objC o0 q0) 27)).alloc (.cells (objC o1 q1) 27)) := ((Below.refl _ _).alloc (Nat.le_refl _) _).alloc (by simp) _
  have lA := (Lies.new w (objC o0 q0) 27).alloc (.cells (objC o1 q1) 27)
  have lB := Lies.newAt (w.alloc (.cells (objC o0 q0) 27)) (objC o1 q1) 27 (g := w.heap.size + 1) (by simp)
  have HP0 : Hid (∀ W : World, Below w.heap.size w W → ObjAt W q0 o0) := fun W h => hp0.below h
  have HP1 : Hid (∀ W : World, Below w.heap.size w W → ObjAt W q1 o1) := fun W h => hp1.below h
  have HA : Hid (Below w.heap.size w _) := bA
  have HLA : Hid (Lies _ w.heap.size 27 (objC o0 q0)) := lA
  have HLB : Hid (Lies _ (w.heap.size + 1) 27 (objC o1 q1)) := lB
  have HWF0 : Hid o0.wf := hwf0
  have HWF1 : Hid o1.wf := hwf1
  clear bA lA lB hp0 hp1 hwf0 hwf1
  go_enter Try.func9, Try.ntmps9
  go_wp2_with fail
  obtain ⟨V0, hV0⟩ : ∃ V, ((w.alloc (.cells #[.string o0.nm, .int .i64 o0.dp, .slice q0.pf o0.nf q0.kf, .slice q0.pd o0.nd q0.kd, .slice q0.pr o0.nr q0.kr, .slice q0.ps o0.ns q0.ks] 27)).alloc (.cells #[.string o1.nm, .int .i64 o1.dp, .slice q1.pf o1.nf q1.kf, .slice q1.pd o1.nd q1.kd, .slice q1.pr o1.nr q1.kr, .slice q1.ps o1.ns q1.ks] 27)) = V := ⟨_, rfl⟩
  rw [hV0] at HA HLA HLB ⊢
  have hA := HLA.out.lt
  have hB := HLB.out.lt
  clear hV0
  refine (szObj q0 o0 1048576 V0 (by omega) (by omega) HWF0.out (HP0.out V0 HA.out)).mono ?_
  rintro e w1 ⟨⟨r, rfl, hr⟩, hb⟩
  have nA := HA.out.trans (hb.mono HA.out.size)
  have nLA := HLA.out.below hb hA
  have nLB := HLB.out.below hb hB
  clear HA HLA HLB  hb
  have HA : Hid (Below w.heap.size w w1) := nA
  have HLA : Hid (Lies w1 w.heap.size 27 (objC o0 q0)) := nLA
  clear hA
  have hA := nLA.lt
  have HLB : Hid (Lies w1 (w.heap.size + 1) 27 (objC o1 q1)) := nLB
  clear hB
  have hB := nLB.lt
  clear nA nLA nLB 
  have i0 : w1.cell? ⟨w.heap.size, 0, none⟩ = some (.string o0.nm) := obj0 HLA.out
  have i1 : w1.cell? ⟨w.heap.size, 1, none⟩ = some (.int .i64 o0.dp) := obj1 HLA.out
  have i2 : w1.cell? ⟨w.heap.size, 2, none⟩ = some (.slice q0.pf o0.nf q0.kf) := obj2 HLA.out
  have i3 : w1.cell? ⟨w.heap.size, 3, none⟩ = some (.slice q0.pd o0.nd q0.kd) := obj3 HLA.out
  have i4 : w1.cell? ⟨w.heap.size, 4, none⟩ = some (.slice q0.pr o0.nr q0.kr) := obj4 HLA.out
  have i5 : w1.cell? ⟨w.heap.size, 5, none⟩ = some (.slice q0.ps o0.ns q0.ks) := obj5 HLA.out
  have j0 : w1.cell? ⟨(w.heap.size + 1), 0, none⟩ = some (.string o1.nm) := obj0 HLB.out
  have j1 : w1.cell? ⟨(w.heap.size + 1), 1, none⟩ = some (.int .i64 o1.dp) := obj1 HLB.out
  have j2 : w1.cell? ⟨(w.heap.size + 1), 2, none⟩ = some (.slice q1.pf o1.nf q1.kf) := obj2 HLB.out
  have j3 : w1.cell? ⟨(w.heap.size + 1), 3, none⟩ = some (.slice q1.pd o1.nd q1.kd) := obj3 HLB.out
  have j4 : w1.cell? ⟨(w.heap.size + 1), 4, none⟩ = some (.slice q1.pr o1.nr q1.kr) := obj4 HLB.out
  have j5 : w1.cell? ⟨(w.heap.size + 1), 5, none⟩ = some (.slice q1.ps o1.ns q1.ks) := obj5 HLB.out
  rcases hr with rfl | ⟨r0, r1, hnm, hf, hd, hr, hs, hF, hD, hR⟩
  · go_wp2_with fail
    go_ret
    exact ⟨rfl, HA.out⟩
  have hz0 : o0.fits := ⟨by omega, by omega, by omega, by omega⟩
  clear hnm hf hd hr hs hF hD hR
  go_wp2_with fail
  refine (szObj q1 o1 r w1 r0 r1 HWF1.out (HP1.out w1 HA.out)).mono ?_
  rintro e w2 ⟨⟨r', rfl, hr⟩, hb⟩
  clear i0 i1 i2 i3 i4 i5 j0 j1 j2 j3 j4 j5
  have nA := HA.out.trans (hb.mono HA.out.size)
  have nLA := HLA.out.below hb hA
  have nLB := HLB.out.below hb hB
  clear HA HLA HLB  hb
  have HA : Hid (Below w.heap.size w w2) := nA
  have HLA : Hid (Lies w2 w.heap.size 27 (objC o0 q0)) := nLA
  clear hA
  have hA := nLA.lt
  have HLB : Hid (Lies w2 (w.heap.size + 1) 27 (objC o1 q1)) := nLB
  clear hB
  have hB := nLB.lt
  clear nA nLA nLB 
  have i0 : w2.cell? ⟨w.heap.size, 0, none⟩ = some (.string o0.nm) := obj0 HLA.out
  have i1 : w2.cell? ⟨w.heap.size, 1, none⟩ = some (.int .i64 o0.dp) := obj1 HLA.out
  have i2 : w2.cell? ⟨w.heap.size, 2, none⟩ = some (.slice q0.pf o0.nf q0.kf) := obj2 HLA.out
  have i3 : w2.cell? ⟨w.heap.size, 3, none⟩ = some (.slice q0.pd o0.nd q0.kd) := obj3 HLA.out
  have i4 : w2.cell? ⟨w.heap.size, 4, none⟩ = some (.slice q0.pr o0.nr q0.kr) := obj4 HLA.out
  have i5 : w2.cell? ⟨w.heap.size, 5, none⟩ = some (.slice q0.ps o0.ns q0.ks) := obj5 HLA.out
  have j0 : w2.cell? ⟨(w.heap.size + 1), 0, none⟩ = some (.string o1.nm) := obj0 HLB.out
  have j1 : w2.cell? ⟨(w.heap.size + 1), 1, none⟩ = some (.int .i64 o1.dp) := obj1 HLB.out
  have j2 : w2.cell? ⟨(w.heap.size + 1), 2, none⟩ = some (.slice q1.pf o1.nf q1.kf) := obj2 HLB.out
  have j3 : w2.cell? ⟨(w.heap.size + 1), 3, none⟩ = some (.slice q1.pd o1.nd q1.kd) := obj3 HLB.out
  have j4 : w2.cell? ⟨(w.heap.size + 1), 4, none⟩ = some (.slice q1.pr o1.nr q1.kr) := obj4 HLB.out
  have j5 : w2.cell? ⟨(w.heap.size + 1), 5, none⟩ = some (.slice q1.ps o1.ns q1.ks) := obj5 HLB.out
  rcases hr with rfl | ⟨s0, s1, hnm, hf, hd, hr, hs, hF, hD, hR⟩
  · go_wp2_with fail
    go_ret
    exact ⟨rfl, HA.out⟩
  have hz1 : o1.fits := ⟨by omega, by omega, by omega, by omega⟩
  clear hnm hf hd hr hs hF hD hR
  have zf := hz0.nf
  have zd := hz0.nd
  have zr := hz0.nr
  have zs := hz0.ns
  have yf := hz1.nf
  have yd := hz1.nd
  have yr := hz1.nr
  have ys := hz1.ns
  obtain ⟨x, hS, hI⟩ := sameBoth o0 o1 hz0 hz1 HWF0.out HWF1.out
  have HS : Hid (∀ p q W, ObjAt W p o0 → ObjAt W q o1 → _) := hS
  have HI : Hid (∀ p q W, ObjAt W p o0 → ObjAt W q o1 → _) := hI
  clear hS hI HWF0 HWF1 hz0 hz1
  go_wp2_with fail
  have T0 : Hid (∀ W : World, Below w.heap.size w W → Calls Try.prog 12 #[.agg #[.string o0.nm, .int .i64 o0.dp, .slice q0.pf o0.nf q0.kf, .slice q0.pd o0.nd q0.kd, .slice q0.pr o0.nr q0.kr, .slice q0.ps o0.ns q0.ks]] W _) := fun W h => toObj q0 o0 W zf zd zr zs (HP0.out W h)
  have T1 : Hid (∀ W : World, Below w.heap.size w W → Calls Try.prog 12 #[.agg #[.string o1.nm, .int .i64 o1.dp, .slice q1.pf o1.nf q1.kf, .slice q1.pd o1.nd q1.kd, .slice q1.pr o1.nr q1.kr, .slice q1.ps o1.ns q1.ks]] W _) := fun W h => toObj q1 o1 W yf yd yr ys (HP1.out W h)
  have bnow : ∀ W : World, Below w2.heap.size w2 W → Below w.heap.size w W := fun W h => HA.out.trans (h.mono HA.out.size)
  have HN : Hid (∀ W : World, Below w2.heap.size w2 W → Below w.heap.size w W) := bnow
  clear bnow
  go_region_held3 (fun w' => w'.cell? ⟨w.heap.size, 0, none⟩ = some (.string o0.nm) ∧ w'.cell? ⟨w.heap.size, 1, none⟩ = some (.int .i64 o0.dp) ∧ w'.cell? ⟨w.heap.size, 2, none⟩ = some (.slice q0.pf o0.nf q0.kf) ∧ w'.cell? ⟨w.heap.size, 3, none⟩ = some (.slice q0.pd o0.nd q0.kd) ∧ w'.cell? ⟨w.heap.size, 4, none⟩ = some (.slice q0.pr o0.nr q0.kr) ∧ w'.cell? ⟨w.heap.size, 5, none⟩ = some (.slice q0.ps o0.ns q0.ks) ∧ w'.cell? ⟨(w.heap.size + 1), 0, none⟩ = some (.string o1.nm) ∧ w'.cell? ⟨(w.heap.size + 1), 1, none⟩ = some (.int .i64 o1.dp) ∧ w'.cell? ⟨(w.heap.size + 1), 2, none⟩ = some (.slice q1.pf o1.nf q1.kf) ∧ w'.cell? ⟨(w.heap.size + 1), 3, none⟩ = some (.slice q1.pd o1.nd q1.kd) ∧ w'.cell? ⟨(w.heap.size + 1), 4, none⟩ = some (.slice q1.pr o1.nr q1.kr) ∧ w'.cell? ⟨(w.heap.size + 1), 5, none⟩ = some (.slice q1.ps o1.ns q1.ks)) (go_keep) (first | (go_at_call 12; (with_reducible refine (T0.out _ (by first | exact HN.out _ bc | exact HA.out.drew | exact HA.out)).mono ?_); rintro e uA ⟨pA, _, _, _, _, rfl, hb1, cA⟩; have bc : Below w2.heap.size w2 uA := (by first | exact bc.trans (hb1.mono bc.size) | exact (Below.refl w2.heap.size w2).drew.trans hb1 | exact hb1); have aA := cA.at; have la := HLA.out.below bc hA; have lb := HLB.out.below bc hB; have m0 := obj0 la; have m1 := obj1 la; have m2 := obj2 la; have m3 := obj3 la; have m4 := obj4 la; have m5 := obj5 la; have n0 := obj0 lb; have n1 := obj1 lb; have n2 := obj2 lb; have n3 := obj3 lb; have n4 := obj4 lb; have n5 := obj5 lb; clear T0) | (go_at_call 12; (with_reducible refine (T1.out _ (by first | exact HN.out _ bc | exact HA.out.drew | exact HA.out)).mono ?_); rintro e uB ⟨pB, _, _, _, _, rfl, hb2, cB⟩; have bc : Below w2.heap.size w2 uB := (by first | exact bc.trans (hb2.mono bc.size) | exact (Below.refl w2.heap.size w2).drew.trans hb2 | exact hb2); have aB := cB.at; have la := HLA.out.below bc hA; have lb := HLB.out.below bc hB; have m0 := obj0 la; have m1 := obj1 la; have m2 := obj2 la; have m3 := obj3 la; have m4 := obj4 la; have m5 := obj5 la; have n0 := obj0 lb; have n1 := obj1 lb; have n2 := obj2 lb; have n3 := obj3 lb; have n4 := obj4 lb; have n5 := obj5 lb; clear T1) | (go_at_call 29; refine (HS.out pA pB _ (by first | exact aA | exact aA.below hb2) (by first | exact aB | exact aB.below hb1)).mono ?_; rintro e w3 ⟨rfl, hb3⟩; have bc : Below w2.heap.size w2 w3 := (by first | exact bc.trans (hb3.mono bc.size) | exact (Below.refl w2.heap.size w2).drew.trans hb3 | exact hb3); have la := HLA.out.below bc hA; have lb := HLB.out.below bc hB; have m0 := obj0 la; have m1 := obj1 la; have m2 := obj2 la; have m3 := obj3 la; have m4 := obj4 la; have m5 := obj5 la; have n0 := obj0 lb; have n1 := obj1 lb; have n2 := obj2 lb; have n3 := obj3 lb; have n4 := obj4 lb; have n5 := obj5 lb))
  all_goals
    clear m0 m1 m2 m3 m4 m5 n0 n1 n2 n3 n4 n5 la lb aA aB cA cB hb1 hb2 hb3 HN HS
    clear i0 i1 i2 i3 i4 i5 j0 j1 j2 j3 j4 j5
    have nA := HA.out.trans (bc.mono HA.out.size)
    have nLA := HLA.out.below bc hA
    have nLB := HLB.out.below bc hB
    clear HA HLA HLB  bc
    have HA : Hid (Below w.heap.size w w3) := nA
    have HLA : Hid (Lies w3 w.heap.size 27 (objC o0 q0)) := nLA
    clear hA
    have hA := nLA.lt
    have HLB : Hid (Lies w3 (w.heap.size + 1) 27 (objC o1 q1)) := nLB
    clear hB
    have hB := nLB.lt
    clear nA nLA nLB 
    have i0 : w3.cell? ⟨w.heap.size, 0, none⟩ = some (.string o0.nm) := obj0 HLA.out
    have i1 : w3.cell? ⟨w.heap.size, 1, none⟩ = some (.int .i64 o0.dp) := obj1 HLA.out
    have i2 : w3.cell? ⟨w.heap.size, 2, none⟩ = some (.slice q0.pf o0.nf q0.kf) := obj2 HLA.out
    have i3 : w3.cell? ⟨w.heap.size, 3, none⟩ = some (.slice q0.pd o0.nd q0.kd) := obj3 HLA.out
    have i4 : w3.cell? ⟨w.heap.size, 4, none⟩ = some (.slice q0.pr o0.nr q0.kr) := obj4 HLA.out
    have i5 : w3.cell? ⟨w.heap.size, 5, none⟩ = some (.slice q0.ps o0.ns q0.ks) := obj5 HLA.out
    have j0 : w3.cell? ⟨(w.heap.size + 1), 0, none⟩ = some (.string o1.nm) := obj0 HLB.out
    have j1 : w3.cell? ⟨(w.heap.size + 1), 1, none⟩ = some (.int .i64 o1.dp) := obj1 HLB.out
    have j2 : w3.cell? ⟨(w.heap.size + 1), 2, none⟩ = some (.slice q1.pf o1.nf q1.kf) := obj2 HLB.out
    have j3 : w3.cell? ⟨(w.heap.size + 1), 3, none⟩ = some (.slice q1.pd o1.nd q1.kd) := obj3 HLB.out
    have j4 : w3.cell? ⟨(w.heap.size + 1), 4, none⟩ = some (.slice q1.pr o1.nr q1.kr) := obj4 HLB.out
    have j5 : w3.cell? ⟨(w.heap.size + 1), 5, none⟩ = some (.slice q1.ps o1.ns q1.ks) := obj5 HLB.out
    go_wp2_with fail
    refine (toObj q0 o0 w3 zf zd zr zs (HP0.out w3 HA.out)).mono ?_
    rintro e w4 ⟨p2, _, _, _, _, rfl, hb, ho⟩
    have H2 : Hid (ObjAt w4 p2 o0) := ho.at
    clear ho
    clear i0 i1 i2 i3 i4 i5 j0 j1 j2 j3 j4 j5
    have nA := HA.out.trans (hb.mono HA.out.size)
    have nLA := HLA.out.below hb hA
    have nLB := HLB.out.below hb hB
    clear HA HLA HLB  hb
    have HA : Hid (Below w.heap.size w w4) := nA
    have HLA : Hid (Lies w4 w.heap.size 27 (objC o0 q0)) := nLA
    clear hA
    have hA := nLA.lt
    have HLB : Hid (Lies w4 (w.heap.size + 1) 27 (objC o1 q1)) := nLB
    clear hB
    have hB := nLB.lt
    clear nA nLA nLB 
    have i0 : w4.cell? ⟨w.heap.size, 0, none⟩ = some (.string o0.nm) := obj0 HLA.out
    have i1 : w4.cell? ⟨w.heap.size, 1, none⟩ = some (.int .i64 o0.dp) := obj1 HLA.out
    have i2 : w4.cell? ⟨w.heap.size, 2, none⟩ = some (.slice q0.pf o0.nf q0.kf) := obj2 HLA.out
    have i3 : w4.cell? ⟨w.heap.size, 3, none⟩ = some (.slice q0.pd o0.nd q0.kd) := obj3 HLA.out
    have i4 : w4.cell? ⟨w.heap.size, 4, none⟩ = some (.slice q0.pr o0.nr q0.kr) := obj4 HLA.out
    have i5 : w4.cell? ⟨w.heap.size, 5, none⟩ = some (.slice q0.ps o0.ns q0.ks) := obj5 HLA.out
    have j0 : w4.cell? ⟨(w.heap.size + 1), 0, none⟩ = some (.string o1.nm) := obj0 HLB.out
    have j1 : w4.cell? ⟨(w.heap.size + 1), 1, none⟩ = some (.int .i64 o1.dp) := obj1 HLB.out
    have j2 : w4.cell? ⟨(w.heap.size + 1), 2, none⟩ = some (.slice q1.pf o1.nf q1.kf) := obj2 HLB.out
    have j3 : w4.cell? ⟨(w.heap.size + 1), 3, none⟩ = some (.slice q1.pd o1.nd q1.kd) := obj3 HLB.out
    have j4 : w4.cell? ⟨(w.heap.size + 1), 4, none⟩ = some (.slice q1.pr o1.nr q1.kr) := obj4 HLB.out
    have j5 : w4.cell? ⟨(w.heap.size + 1), 5, none⟩ = some (.slice q1.ps o1.ns q1.ks) := obj5 HLB.out
    have lX := Lies.new w4 (objC o0 p2) 36
    have bX := grown1' w4 (.cells (objC o0 p2) 36)
    have hB5 : (w4.alloc (.cells #[.string o0.nm, .int .i64 o0.dp, .slice p2.pf o0.nf p2.kf, .slice p2.pd o0.nd p2.kd, .slice p2.pr o0.nr p2.kr, .slice p2.ps o0.ns p2.ks] 36)).cell? ⟨(w.heap.size + 1), 0, none⟩ = some (.string o1.nm) := obj0 (HLB.out.below bX hB)
    have hB51 : (w4.alloc (.cells #[.string o0.nm, .int .i64 o0.dp, .slice p2.pf o0.nf p2.kf, .slice p2.pd o0.nd p2.kd, .slice p2.pr o0.nr p2.kr, .slice p2.ps o0.ns p2.ks] 36)).cell? ⟨(w.heap.size + 1), 1, none⟩ = some (.int .i64 o1.dp) := obj1 (HLB.out.below bX hB)
    have hB52 : (w4.alloc (.cells #[.string o0.nm, .int .i64 o0.dp, .slice p2.pf o0.nf p2.kf, .slice p2.pd o0.nd p2.kd, .slice p2.pr o0.nr p2.kr, .slice p2.ps o0.ns p2.ks] 36)).cell? ⟨(w.heap.size + 1), 2, none⟩ = some (.slice q1.pf o1.nf q1.kf) := obj2 (HLB.out.below bX hB)
    have hB53 : (w4.alloc (.cells #[.string o0.nm, .int .i64 o0.dp, .slice p2.pf o0.nf p2.kf, .slice p2.pd o0.nd p2.kd, .slice p2.pr o0.nr p2.kr, .slice p2.ps o0.ns p2.ks] 36)).cell? ⟨(w.heap.size + 1), 3, none⟩ = some (.slice q1.pd o1.nd q1.kd) := obj3 (HLB.out.below bX hB)
    have hB54 : (w4.alloc (.cells #[.string o0.nm, .int .i64 o0.dp, .slice p2.pf o0.nf p2.kf, .slice p2.pd o0.nd p2.kd, .slice p2.pr o0.nr p2.kr, .slice p2.ps o0.ns p2.ks] 36)).cell? ⟨(w.heap.size + 1), 4, none⟩ = some (.slice q1.pr o1.nr q1.kr) := obj4 (HLB.out.below bX hB)
    have hB55 : (w4.alloc (.cells #[.string o0.nm, .int .i64 o0.dp, .slice p2.pf o0.nf p2.kf, .slice p2.pd o0.nd p2.kd, .slice p2.pr o0.nr p2.kr, .slice p2.ps o0.ns p2.ks] 36)).cell? ⟨(w.heap.size + 1), 5, none⟩ = some (.slice q1.ps o1.ns q1.ks) := obj5 (HLB.out.below bX hB)
    go_wp2_with fail
    clear hB5 hB51 hB52 hB53 hB54 hB55
    obtain ⟨W5, hW5⟩ : ∃ W, w4.alloc (.cells #[.string o0.nm, .int .i64 o0.dp, .slice p2.pf o0.nf p2.kf, .slice p2.pd o0.nd p2.kd, .slice p2.pr o0.nr p2.kr, .slice p2.ps o0.ns p2.ks] 36) = W := ⟨_, rfl⟩
    obtain ⟨X, hX⟩ : ∃ X, w4.heap.size = X := ⟨_, rfl⟩
    have bX : Below w4.heap.size w4 W5 := by rw [← hW5]; exact bX
    have lX : Lies W5 X 36 (objC o0 p2) := by rw [← hW5, ← hX]; exact lX
    rw [hW5] at ⊢
    try rw [hX] at ⊢
    clear hW5
    clear i0 i1 i2 i3 i4 i5 j0 j1 j2 j3 j4 j5
    have nA := HA.out.trans (bX.mono HA.out.size)
    have nLA := HLA.out.below bX hA
    have nLB := HLB.out.below bX hB
    have nH2 := H2.out.below bX
    clear HA HLA HLB H2 bX
    have HA : Hid (Below w.heap.size w W5) := nA
    have HLA : Hid (Lies W5 w.heap.size 27 (objC o0 q0)) := nLA
    clear hA
    have hA := nLA.lt
    have HLB : Hid (Lies W5 (w.heap.size + 1) 27 (objC o1 q1)) := nLB
    clear hB
    have hB := nLB.lt
    have H2 : Hid (ObjAt W5 p2 o0) := nH2
    clear nA nLA nLB nH2
    have HLX : Hid (Lies W5 X 36 (objC o0 p2)) := lX
    have hX := lX.lt
    clear lX
    refine (toObj q1 o1 W5 yf yd yr ys (HP1.out W5 HA.out)).mono ?_
    rintro e w6 ⟨p4, _, _, _, _, rfl, hb, ho⟩
    have H4 : Hid (ObjAt w6 p4 o1) := ho.at
    clear ho
    have nA := HA.out.trans (hb.mono HA.out.size)
    have nLA := HLA.out.below hb hA
    have nLB := HLB.out.below hb hB
    have nLX := HLX.out.below hb hX
    have nH2 := H2.out.below hb
    clear HA HLA HLB HLX H2 hb
    have HA : Hid (Below w.heap.size w w6) := nA
    have HLA : Hid (Lies w6 w.heap.size 27 (objC o0 q0)) := nLA
    clear hA
    have hA := nLA.lt
    have HLB : Hid (Lies w6 (w.heap.size + 1) 27 (objC o1 q1)) := nLB
    clear hB
    have hB := nLB.lt
    have HLX : Hid (Lies w6 X 36 (objC o0 p2)) := nLX
    clear hX
    have hX := nLX.lt
    have H2 : Hid (ObjAt w6 p2 o0) := nH2
    clear nA nLA nLB nLX nH2
    have k0 : w6.cell? ⟨X, 0, none⟩ = some (.string o0.nm) := obj0 HLX.out
    have k1 : w6.cell? ⟨X, 1, none⟩ = some (.int .i64 o0.dp) := obj1 HLX.out
    have k2 : w6.cell? ⟨X, 2, none⟩ = some (.slice p2.pf o0.nf p2.kf) := obj2 HLX.out
    have k3 : w6.cell? ⟨X, 3, none⟩ = some (.slice p2.pd o0.nd p2.kd) := obj3 HLX.out
    have k4 : w6.cell? ⟨X, 4, none⟩ = some (.slice p2.pr o0.nr p2.kr) := obj4 HLX.out
    have k5 : w6.cell? ⟨X, 5, none⟩ = some (.slice p2.ps o0.ns p2.ks) := obj5 HLX.out
    have lY := Lies.new w6 (objC o1 p4) 36
    have bY := grown1' w6 (.cells (objC o1 p4) 36)
    have hX60 : (w6.alloc (.cells #[.string o1.nm, .int .i64 o1.dp, .slice p4.pf o1.nf p4.kf, .slice p4.pd o1.nd p4.kd, .slice p4.pr o1.nr p4.kr, .slice p4.ps o1.ns p4.ks] 36)).cell? ⟨X, 0, none⟩ = some (.string o0.nm) := obj0 (HLX.out.below bY hX)
    have hX61 : (w6.alloc (.cells #[.string o1.nm, .int .i64 o1.dp, .slice p4.pf o1.nf p4.kf, .slice p4.pd o1.nd p4.kd, .slice p4.pr o1.nr p4.kr, .slice p4.ps o1.ns p4.ks] 36)).cell? ⟨X, 1, none⟩ = some (.int .i64 o0.dp) := obj1 (HLX.out.below bY hX)
    have hX62 : (w6.alloc (.cells #[.string o1.nm, .int .i64 o1.dp, .slice p4.pf o1.nf p4.kf, .slice p4.pd o1.nd p4.kd, .slice p4.pr o1.nr p4.kr, .slice p4.ps o1.ns p4.ks] 36)).cell? ⟨X, 2, none⟩ = some (.slice p2.pf o0.nf p2.kf) := obj2 (HLX.out.below bY hX)
    have hX63 : (w6.alloc (.cells #[.string o1.nm, .int .i64 o1.dp, .slice p4.pf o1.nf p4.kf, .slice p4.pd o1.nd p4.kd, .slice p4.pr o1.nr p4.kr, .slice p4.ps o1.ns p4.ks] 36)).cell? ⟨X, 3, none⟩ = some (.slice p2.pd o0.nd p2.kd) := obj3 (HLX.out.below bY hX)
    have hX64 : (w6.alloc (.cells #[.string o1.nm, .int .i64 o1.dp, .slice p4.pf o1.nf p4.kf, .slice p4.pd o1.nd p4.kd, .slice p4.pr o1.nr p4.kr, .slice p4.ps o1.ns p4.ks] 36)).cell? ⟨X, 4, none⟩ = some (.slice p2.pr o0.nr p2.kr) := obj4 (HLX.out.below bY hX)
    have hX65 : (w6.alloc (.cells #[.string o1.nm, .int .i64 o1.dp, .slice p4.pf o1.nf p4.kf, .slice p4.pd o1.nd p4.kd, .slice p4.pr o1.nr p4.kr, .slice p4.ps o1.ns p4.ks] 36)).cell? ⟨X, 5, none⟩ = some (.slice p2.ps o0.ns p2.ks) := obj5 (HLX.out.below bY hX)
    go_wp2_with fail
    clear hX60 hX61 hX62 hX63 hX64 hX65
    obtain ⟨W7, hW7⟩ : ∃ W, w6.alloc (.cells #[.string o1.nm, .int .i64 o1.dp, .slice p4.pf o1.nf p4.kf, .slice p4.pd o1.nd p4.kd, .slice p4.pr o1.nr p4.kr, .slice p4.ps o1.ns p4.ks] 36) = W := ⟨_, rfl⟩
    obtain ⟨Y, hY⟩ : ∃ Y, w6.heap.size = Y := ⟨_, rfl⟩
    have bY : Below w6.heap.size w6 W7 := by rw [← hW7]; exact bY
    have lY : Lies W7 Y 36 (objC o1 p4) := by rw [← hW7, ← hY]; exact lY
    rw [hW7] at ⊢
    try rw [hY] at ⊢
    clear hW7
    clear k0 k1 k2 k3 k4 k5
    have nA := HA.out.trans (bY.mono HA.out.size)
    have nLA := HLA.out.below bY hA
    have nLB := HLB.out.below bY hB
    have nLX := HLX.out.below bY hX
    have nH2 := H2.out.below bY
    have nH4 := H4.out.below bY
    clear HA HLA HLB HLX H2 H4 bY
    have HA : Hid (Below w.heap.size w W7) := nA
    have HLA : Hid (Lies W7 w.heap.size 27 (objC o0 q0)) := nLA
    clear hA
    have hA := nLA.lt
    have HLB : Hid (Lies W7 (w.heap.size + 1) 27 (objC o1 q1)) := nLB
    clear hB
    have hB := nLB.lt
    have HLX : Hid (Lies W7 X 36 (objC o0 p2)) := nLX
    clear hX
    have hX := nLX.lt
    have H2 : Hid (ObjAt W7 p2 o0) := nH2
    have H4 : Hid (ObjAt W7 p4 o1) := nH4
    clear nA nLA nLB nLX nH2 nH4
    have HLY : Hid (Lies W7 Y 36 (objC o1 p4)) := lY
    have hY := lY.lt
    clear lY
    refine (HI.out p2 p4 W7 H2.out H4.out).mono ?_
    rintro e w8 ⟨rfl, hb⟩
    clear HI
    have hxx : (x != x) = false := by simp
    have nA := HA.out.trans (hb.mono HA.out.size)
    have nLA := HLA.out.below hb hA
    have nLB := HLB.out.below hb hB
    have nLX := HLX.out.below hb hX
    have nLY := HLY.out.below hb hY
    have nH2 := H2.out.below hb
    have nH4 := H4.out.below hb
    clear HA HLA HLB HLX HLY H2 H4 hb
    have HA : Hid (Below w.heap.size w w8) := nA
    have HLA : Hid (Lies w8 w.heap.size 27 (objC o0 q0)) := nLA
    clear hA
    have hA := nLA.lt
    have HLB : Hid (Lies w8 (w.heap.size + 1) 27 (objC o1 q1)) := nLB
    clear hB
    have hB := nLB.lt
    have HLX : Hid (Lies w8 X 36 (objC o0 p2)) := nLX
    clear hX
    have hX := nLX.lt
    have HLY : Hid (Lies w8 Y 36 (objC o1 p4)) := nLY
    clear hY
    have hY := nLY.lt
    have H2 : Hid (ObjAt w8 p2 o0) := nH2
    have H4 : Hid (ObjAt w8 p4 o1) := nH4
    clear nA nLA nLB nLX nLY nH2 nH4
    have i0 : w8.cell? ⟨w.heap.size, 0, none⟩ = some (.string o0.nm) := obj0 HLA.out
    have i1 : w8.cell? ⟨w.heap.size, 1, none⟩ = some (.int .i64 o0.dp) := obj1 HLA.out
    have i2 : w8.cell? ⟨w.heap.size, 2, none⟩ = some (.slice q0.pf o0.nf q0.kf) := obj2 HLA.out
    have i3 : w8.cell? ⟨w.heap.size, 3, none⟩ = some (.slice q0.pd o0.nd q0.kd) := obj3 HLA.out
    have i4 : w8.cell? ⟨w.heap.size, 4, none⟩ = some (.slice q0.pr o0.nr q0.kr) := obj4 HLA.out
    have i5 : w8.cell? ⟨w.heap.size, 5, none⟩ = some (.slice q0.ps o0.ns q0.ks) := obj5 HLA.out
    have k0 : w8.cell? ⟨X, 0, none⟩ = some (.string o0.nm) := obj0 HLX.out
    have k1 : w8.cell? ⟨X, 1, none⟩ = some (.int .i64 o0.dp) := obj1 HLX.out
    have k2 : w8.cell? ⟨X, 2, none⟩ = some (.slice p2.pf o0.nf p2.kf) := obj2 HLX.out
    have k3 : w8.cell? ⟨X, 3, none⟩ = some (.slice p2.pd o0.nd p2.kd) := obj3 HLX.out
    have k4 : w8.cell? ⟨X, 4, none⟩ = some (.slice p2.pr o0.nr p2.kr) := obj4 HLX.out
    have k5 : w8.cell? ⟨X, 5, none⟩ = some (.slice p2.ps o0.ns p2.ks) := obj5 HLX.out
    go_wp2_with fail
    go_region_held3 (fun w' => w'.cell? ⟨w.heap.size, 0, none⟩ = some (.string o0.nm) ∧ w'.cell? ⟨w.heap.size, 1, none⟩ = some (.int .i64 o0.dp) ∧ w'.cell? ⟨w.heap.size, 2, none⟩ = some (.slice q0.pf o0.nf q0.kf) ∧ w'.cell? ⟨w.heap.size, 3, none⟩ = some (.slice q0.pd o0.nd q0.kd) ∧ w'.cell? ⟨w.heap.size, 4, none⟩ = some (.slice q0.pr o0.nr q0.kr) ∧ w'.cell? ⟨w.heap.size, 5, none⟩ = some (.slice q0.ps o0.ns q0.ks) ∧ w'.cell? ⟨X, 0, none⟩ = some (.string o0.nm) ∧ w'.cell? ⟨X, 1, none⟩ = some (.int .i64 o0.dp) ∧ w'.cell? ⟨X, 2, none⟩ = some (.slice p2.pf o0.nf p2.kf) ∧ w'.cell? ⟨X, 3, none⟩ = some (.slice p2.pd o0.nd p2.kd) ∧ w'.cell? ⟨X, 4, none⟩ = some (.slice p2.pr o0.nr p2.kr) ∧ w'.cell? ⟨X, 5, none⟩ = some (.slice p2.ps o0.ns p2.ks)) (go_keep) (first | (go_at_call 12; refine (toObj q0 o0 _ zf zd zr zs (HP0.out _ (by first | exact HA.out.drew | exact HA.out))).mono ?_; rintro e w9 ⟨p3, _, _, _, _, rfl, hb8, ho⟩; have b8 : Below w8.heap.size w8 w9 := (by first | exact (Below.refl w8.heap.size w8).drew.trans hb8 | exact hb8); have hO8 := ho.at; have la := HLA.out.below b8 hA; have lb := HLX.out.below b8 hX; have m0 := obj0 la; have m1 := obj1 la; have m2 := obj2 la; have m3 := obj3 la; have m4 := obj4 la; have m5 := obj5 la; have n0 := obj0 lb; have n1 := obj1 lb; have n2 := obj2 lb; have n3 := obj3 lb; have n4 := obj4 lb; have n5 := obj5 lb) | (go_at_call 14; refine (eqObj p2 p3 o0 _ (by omega) (by omega) (by omega) (by omega) (H2.out.below b8) hO8).mono ?_; rintro e w10 ⟨rfl, hb9⟩; have b8 : Below w8.heap.size w8 w10 := b8.trans (hb9.mono b8.size); have la := HLA.out.below b8 hA; have lb := HLX.out.below b8 hX; have m0 := obj0 la; have m1 := obj1 la; have m2 := obj2 la; have m3 := obj3 la; have m4 := obj4 la; have m5 := obj5 la; have n0 := obj0 lb; have n1 := obj1 lb; have n2 := obj2 lb; have n3 := obj3 lb; have n4 := obj4 lb; have n5 := obj5 lb))
    all_goals
      clear m0 m1 m2 m3 m4 m5 n0 n1 n2 n3 n4 n5 hO8 hb8 hb9 la lb ho
      clear i0 i1 i2 i3 i4 i5 k0 k1 k2 k3 k4 k5
      have nA := HA.out.trans (b8.mono HA.out.size)
      have nLB := HLB.out.below b8 hB
      have nLY := HLY.out.below b8 hY
      have nH4 := H4.out.below b8
      clear HA HLB HLY H4 b8
      have HA : Hid (Below w.heap.size w w10) := nA
      have HLB : Hid (Lies w10 (w.heap.size + 1) 27 (objC o1 q1)) := nLB
      clear hB
      have hB := nLB.lt
      have HLY : Hid (Lies w10 Y 36 (objC o1 p4)) := nLY
      clear hY
      have hY := nLY.lt
      have H4 : Hid (ObjAt w10 p4 o1) := nH4
      clear nA nLB nLY nH4
      have j0 : w10.cell? ⟨(w.heap.size + 1), 0, none⟩ = some (.string o1.nm) := obj0 HLB.out
      have j1 : w10.cell? ⟨(w.heap.size + 1), 1, none⟩ = some (.int .i64 o1.dp) := obj1 HLB.out
      have j2 : w10.cell? ⟨(w.heap.size + 1), 2, none⟩ = some (.slice q1.pf o1.nf q1.kf) := obj2 HLB.out
      have j3 : w10.cell? ⟨(w.heap.size + 1), 3, none⟩ = some (.slice q1.pd o1.nd q1.kd) := obj3 HLB.out
      have j4 : w10.cell? ⟨(w.heap.size + 1), 4, none⟩ = some (.slice q1.pr o1.nr q1.kr) := obj4 HLB.out
      have j5 : w10.cell? ⟨(w.heap.size + 1), 5, none⟩ = some (.slice q1.ps o1.ns q1.ks) := obj5 HLB.out
      have l0 : w10.cell? ⟨Y, 0, none⟩ = some (.string o1.nm) := obj0 HLY.out
      have l1 : w10.cell? ⟨Y, 1, none⟩ = some (.int .i64 o1.dp) := obj1 HLY.out
      have l2 : w10.cell? ⟨Y, 2, none⟩ = some (.slice p4.pf o1.nf p4.kf) := obj2 HLY.out
      have l3 : w10.cell? ⟨Y, 3, none⟩ = some (.slice p4.pd o1.nd p4.kd) := obj3 HLY.out
      have l4 : w10.cell? ⟨Y, 4, none⟩ = some (.slice p4.pr o1.nr p4.kr) := obj4 HLY.out
      have l5 : w10.cell? ⟨Y, 5, none⟩ = some (.slice p4.ps o1.ns p4.ks) := obj5 HLY.out
      go_wp2_with fail
      go_region_held3 (fun w' => w'.cell? ⟨(w.heap.size + 1), 0, none⟩ = some (.string o1.nm) ∧ w'.cell? ⟨(w.heap.size + 1), 1, none⟩ = some (.int .i64 o1.dp) ∧ w'.cell? ⟨(w.heap.size + 1), 2, none⟩ = some (.slice q1.pf o1.nf q1.kf) ∧ w'.cell? ⟨(w.heap.size + 1), 3, none⟩ = some (.slice q1.pd o1.nd q1.kd) ∧ w'.cell? ⟨(w.heap.size + 1), 4, none⟩ = some (.slice q1.pr o1.nr q1.kr) ∧ w'.cell? ⟨(w.heap.size + 1), 5, none⟩ = some (.slice q1.ps o1.ns q1.ks) ∧ w'.cell? ⟨Y, 0, none⟩ = some (.string o1.nm) ∧ w'.cell? ⟨Y, 1, none⟩ = some (.int .i64 o1.dp) ∧ w'.cell? ⟨Y, 2, none⟩ = some (.slice p4.pf o1.nf p4.kf) ∧ w'.cell? ⟨Y, 3, none⟩ = some (.slice p4.pd o1.nd p4.kd) ∧ w'.cell? ⟨Y, 4, none⟩ = some (.slice p4.pr o1.nr p4.kr) ∧ w'.cell? ⟨Y, 5, none⟩ = some (.slice p4.ps o1.ns p4.ks)) (go_keep) (first | (go_at_call 12; refine (toObj q1 o1 _ yf yd yr ys (HP1.out _ (by first | exact HA.out.drew | exact HA.out))).mono ?_; rintro e w11 ⟨p3, _, _, _, _, rfl, hb8, ho⟩; have b8 : Below w10.heap.size w10 w11 := (by first | exact (Below.refl w10.heap.size w10).drew.trans hb8 | exact hb8); have hO8 := ho.at; have la := HLB.out.below b8 hB; have lb := HLY.out.below b8 hY; have m0 := obj0 la; have m1 := obj1 la; have m2 := obj2 la; have m3 := obj3 la; have m4 := obj4 la; have m5 := obj5 la; have n0 := obj0 lb; have n1 := obj1 lb; have n2 := obj2 lb; have n3 := obj3 lb; have n4 := obj4 lb; have n5 := obj5 lb) | (go_at_call 14; refine (eqObj p4 p3 o1 _ (by omega) (by omega) (by omega) (by omega) (H4.out.below b8) hO8).mono ?_; rintro e w12 ⟨rfl, hb9⟩; have b8 : Below w10.heap.size w10 w12 := b8.trans (hb9.mono b8.size); have la := HLB.out.below b8 hB; have lb := HLY.out.below b8 hY; have m0 := obj0 la; have m1 := obj1 la; have m2 := obj2 la; have m3 := obj3 la; have m4 := obj4 la; have m5 := obj5 la; have n0 := obj0 lb; have n1 := obj1 lb; have n2 := obj2 lb; have n3 := obj3 lb; have n4 := obj4 lb; have n5 := obj5 lb))
      all_goals
        have B9 : Below w.heap.size w w12 := HA.out.trans (b8.mono HA.out.size)
        go_wp2_with fail
        go_ret
        exact ⟨rfl, B9⟩

set_option maxRecDepth 100000 in
theorem lifted (os : Os) (started : os.Started) (H : Type) (enc : TypeId × Value → H) :
    ReturnsInHanded {} Try.checked os 9 .any (Rows.fnExactSameObjectSpec.pre6 enc Try.prog Try.f9 Rows.fnExactSameObjectRow.domain false) (Rows.fnExactSameObjectSpec.post enc Try.prog Try.f9 false true false false) := by
  refine returnsInHanded_of_change (C := Try.checked) own started (by kernel_rfl) Try.func9
    (ChangeSpec.witness6 (enc := enc) (C := Try.checked) false ⟨#[], #[.agg #[.string ByteArray.empty, .int .i64 0, .slice none 0 0, .slice none 0 0, .slice none 0 0, .slice none 0 0], .agg #[.string ByteArray.empty, .int .i64 0, .slice none 0 0, .slice none 0 0, .slice none 0 0, .slice none 0 0]], []⟩ 8 (by kernel_rfl) (by kernel_rfl) (by kernel_rfl) (by kernel_rfl)) ?_
  intro W base args ds gs before hval0 hW hcnd _
  have hval : ∀ (j : Nat) t v, Try.f9.params[j]? = some t → args[j]? = some v → Value.okWide Try.prog W .any base t v := hval0
  have hW' := hW
  obtain ⟨p, q, hA0, hV, rfl, hfz, hnd⟩ := hW
  have hA : DataW.TrodAll enc Try.prog W 0 (fun _ => true) true Try.f9.params.toList args.toList ds p := hA0
  rw [Try.params9] at hA hval
  obtain ⟨v0, vs0, d0, ds0, p0, q0, hargs, rfl, rfl, h0, r0⟩ := trodAll_cons hA
  obtain ⟨v1, vs1, d1, ds1, p1, q1, rfl, rfl, rfl, h1, r1⟩ := trodAll_cons r0
  obtain ⟨rfl, rfl, rfl⟩ := trodAll_nil r1
  obtain rfl : args = #[v0, v1] := by cases args; simp_all
  obtain ⟨rfl, rfl⟩ := trodVars_none hV
  have k0 := h0
  have lt0 : ∀ x ∈ p0, x.block < W.heap.size := by obtain ⟨m, hm⟩ := k0; exact DataW.trod_lt m _ _ _ hm
  obtain ⟨q0, o0, rfl, w0⟩ := open_object Try.underlying27 (by kernel_rfl) (by kernel_rfl) Try.underlying9 Try.underlying3 Try.underlying22 Try.underlying23 Try.underlying24 Try.underlying25 Try.underlying100 (by kernel_rfl) (by kernel_rfl) Try.underlying9 Try.underlying4 Try.underlying3 Try.underlying9 Try.underlying102 (by kernel_rfl) (by kernel_rfl) Try.underlying9 Try.underlying9 Try.underlying104 (by kernel_rfl) (by kernel_rfl) Try.underlying3 Try.underlying3 Try.underlying3 Try.underlying9 Try.underlying3 Try.underlying111 (by kernel_rfl) (by kernel_rfl) Try.underlying3 Try.underlying4 (hval 0 27 v0 rfl rfl) h0
  have k1 := h1
  have lt1 : ∀ x ∈ p1, x.block < W.heap.size := by obtain ⟨m, hm⟩ := k1; exact DataW.trod_lt m _ _ _ hm
  obtain ⟨q1, o1, rfl, w1⟩ := open_object Try.underlying27 (by kernel_rfl) (by kernel_rfl) Try.underlying9 Try.underlying3 Try.underlying22 Try.underlying23 Try.underlying24 Try.underlying25 Try.underlying100 (by kernel_rfl) (by kernel_rfl) Try.underlying9 Try.underlying4 Try.underlying3 Try.underlying9 Try.underlying102 (by kernel_rfl) (by kernel_rfl) Try.underlying9 Try.underlying9 Try.underlying104 (by kernel_rfl) (by kernel_rfl) Try.underlying3 Try.underlying3 Try.underlying3 Try.underlying9 Try.underlying3 Try.underlying111 (by kernel_rfl) (by kernel_rfl) Try.underlying3 Try.underlying4 (hval 1 27 v1 rfl rfl) h1
  clear hA0 hval0
  refine (walk q0 o0 q1 o1 W w0 w1).mono fun e W' ⟨he, bel⟩ => ?_
  subst he
  exact ⟨_, rfl, _, _, _, [], _, [], hW', trodAll_mk1 (shut_bool Try.underlying4 _), (trodAll_cons_mk (Below.trod laidOut (by kernel_rfl) (of_decide_eq_true (by kernel_rfl)) k0 bel lt0) (trodAll_cons_mk (Below.trod laidOut (by kernel_rfl) (of_decide_eq_true (by kernel_rfl)) k1 bel lt1) trodAll_mk0)), rfl, bel.frame _, fun h => by cases h⟩

theorem over : Rows.fnExactSameObjectRow.holds Try.pinned (OpenSpec.ofChange Rows.fnExactSameObjectSpec) :=
  OpenClaim.holds_of_wide 9 Try.f9 rfl rfl rfl rfl rfl rfl rfl ⟨rfl, rfl, rfl, rfl, rfl⟩ rfl rfl rfl rfl rfl (by kernel_rfl) Try.func9 (by kernel_rfl)
    (of_decide_eq_true (by kernel_rfl)) (by unfold Func.isWrapper; first | (rw [if_pos (by decide +kernel)]; kernel_rfl) | (rw [if_neg (by decide +kernel)]; exact ⟨rfl, rfl⟩))
    (fun os started H enc _ => lifted os started H enc)

theorem proved : Rows.FnExactSameObjectSaid :=
  over
end Go.Proofs.Ytdcjddiigipdmaa.fnExactSameObject
theorem Go.Proofs.Ytdcjddiigipdmaa.sameObject_holds : Go.Proofs.Ytdcjddiigipdmaa.Rows.FnExactSameObjectSaid := Go.Proofs.Ytdcjddiigipdmaa.fnExactSameObject.proved
