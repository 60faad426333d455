/- SameLinked answers at every two linked things as its model does: whether all four lists are alike; both are left as they were. -/
import Derived.Test.YtelogjpjglohoaaSamL
import Derived.WalkKit
import Derived.ProofKit
import Derived.OpenShut
import Derived.ShutString
namespace Go.Proofs.Ytelogjpjglohoaa.fnExactSameLinked
open Go.RowKit Go.ChangeShapes Go.WideShapes Go.ChangeAt Go.RowKit
open Go.ChangeMaps (open_string shut_string)
set_option linter.unusedVariables false

theorem laidOut : laidOutB Try.prog = true := by kernel_rfl
theorem own : ownKnob Try.prog.godebug = none := by kernel_rfl

set_option maxRecDepth 100000 in
set_option maxHeartbeats 8000000 in
theorem walk (q0 : LnkPt) (o0 : LnkD) (q1 : LnkPt) (o1 : LnkD) (w : World) (w0 : IsLinked w q0 o0) (w1 : IsLinked w q1 o1) :
    Calls Try.prog 7 #[.agg (lnkC o0 q0), .agg (lnkC o1 q1)] w fun e w' => e = .returned (.bool true) ∧ Below w.heap.size w w' := by
  obtain ⟨hwf0, hp0⟩ := w0
  obtain ⟨hwf1, hp1⟩ := w1
  have bA : Below w.heap.size w ((w.alloc (.cells (lnkC o0 q0) 43)).alloc (.cells (lnkC o1 q1) 43)) := ((Below.refl _ _).alloc (Nat.le_refl _) _).alloc (by simp) _
  have lA := (Lies.new w (lnkC o0 q0) 43).alloc (.cells (lnkC o1 q1) 43)
  have lB := Lies.newAt (w.alloc (.cells (lnkC o0 q0) 43)) (lnkC o1 q1) 43 (g := w.heap.size + 1) (by simp)
  have HP0 : Hid (∀ W : World, Below w.heap.size w W → LnkAt W q0 o0) := fun W h => hp0.below h
  have HP1 : Hid (∀ W : World, Below w.heap.size w W → LnkAt W q1 o1) := fun W h => hp1.below h
  have HA : Hid (Below w.heap.size w _) := bA
  have HLA : Hid (Lies _ w.heap.size 43 (lnkC o0 q0)) := lA
  have HLB : Hid (Lies _ (w.heap.size + 1) 43 (lnkC o1 q1)) := lB
  have HWF0 : Hid o0.wf := hwf0
  have HWF1 : Hid o1.wf := hwf1
  clear bA lA lB hp0 hp1 hwf0 hwf1
  go_enter Try.func7, Try.ntmps7
  go_wp2_with fail
  obtain ⟨V0, hV0⟩ : ∃ V, ((w.alloc (.cells #[.slice q0.pa o0.na q0.ka, .slice q0.pc o0.nc q0.kc, .slice q0.px o0.nx q0.kx, .slice q0.pd o0.nd q0.kd] 43)).alloc (.cells #[.slice q1.pa o1.na q1.ka, .slice q1.pc o1.nc q1.kc, .slice q1.px o1.nx q1.kx, .slice q1.pd o1.nd q1.kd] 43)) = V := ⟨_, rfl⟩
  rw [hV0] at HA HLA HLB ⊢
  have hA := HLA.out.lt
  have hB := HLB.out.lt
  clear hV0
  refine (szLnk q0 o0 1048576 V0 (by omega) (by omega) HWF0.out (HP0.out V0 HA.out)).mono ?_
  rintro e w1 ⟨⟨r, rfl, hr⟩, hb⟩
  have nA := HA.out.trans (hb.mono HA.out.size)
  have nLA := HLA.out.below hb hA
  have nLB := HLB.out.below hb hB
  clear HA HLA HLB  hb
  have HA : Hid (Below w.heap.size w w1) := nA
  have HLA : Hid (Lies w1 w.heap.size 43 (lnkC o0 q0)) := nLA
  clear hA
  have hA := nLA.lt
  have HLB : Hid (Lies w1 (w.heap.size + 1) 43 (lnkC o1 q1)) := nLB
  clear hB
  have hB := nLB.lt
  clear nA nLA nLB 
  have i0 : w1.cell? ⟨w.heap.size, 0, none⟩ = some (.slice q0.pa o0.na q0.ka) := lnk0 HLA.out
  have i1 : w1.cell? ⟨w.heap.size, 1, none⟩ = some (.slice q0.pc o0.nc q0.kc) := lnk1 HLA.out
  have i2 : w1.cell? ⟨w.heap.size, 2, none⟩ = some (.slice q0.px o0.nx q0.kx) := lnk2 HLA.out
  have i3 : w1.cell? ⟨w.heap.size, 3, none⟩ = some (.slice q0.pd o0.nd q0.kd) := lnk3 HLA.out
  have j0 : w1.cell? ⟨(w.heap.size + 1), 0, none⟩ = some (.slice q1.pa o1.na q1.ka) := lnk0 HLB.out
  have j1 : w1.cell? ⟨(w.heap.size + 1), 1, none⟩ = some (.slice q1.pc o1.nc q1.kc) := lnk1 HLB.out
  have j2 : w1.cell? ⟨(w.heap.size + 1), 2, none⟩ = some (.slice q1.px o1.nx q1.kx) := lnk2 HLB.out
  have j3 : w1.cell? ⟨(w.heap.size + 1), 3, none⟩ = some (.slice q1.pd o1.nd q1.kd) := lnk3 HLB.out
  rcases hr with rfl | ⟨r0, r1, hz0⟩
  · go_wp2_with fail
    go_ret
    exact ⟨rfl, HA.out⟩
  go_wp2_with fail
  refine (szLnk q1 o1 r w1 r0 r1 HWF1.out (HP1.out w1 HA.out)).mono ?_
  rintro e w2 ⟨⟨r', rfl, hr⟩, hb⟩
  clear i0 i1 i2 i3 j0 j1 j2 j3
  have nA := HA.out.trans (hb.mono HA.out.size)
  have nLA := HLA.out.below hb hA
  have nLB := HLB.out.below hb hB
  clear HA HLA HLB  hb
  have HA : Hid (Below w.heap.size w w2) := nA
  have HLA : Hid (Lies w2 w.heap.size 43 (lnkC o0 q0)) := nLA
  clear hA
  have hA := nLA.lt
  have HLB : Hid (Lies w2 (w.heap.size + 1) 43 (lnkC o1 q1)) := nLB
  clear hB
  have hB := nLB.lt
  clear nA nLA nLB 
  have i0 : w2.cell? ⟨w.heap.size, 0, none⟩ = some (.slice q0.pa o0.na q0.ka) := lnk0 HLA.out
  have i1 : w2.cell? ⟨w.heap.size, 1, none⟩ = some (.slice q0.pc o0.nc q0.kc) := lnk1 HLA.out
  have i2 : w2.cell? ⟨w.heap.size, 2, none⟩ = some (.slice q0.px o0.nx q0.kx) := lnk2 HLA.out
  have i3 : w2.cell? ⟨w.heap.size, 3, none⟩ = some (.slice q0.pd o0.nd q0.kd) := lnk3 HLA.out
  have j0 : w2.cell? ⟨(w.heap.size + 1), 0, none⟩ = some (.slice q1.pa o1.na q1.ka) := lnk0 HLB.out
  have j1 : w2.cell? ⟨(w.heap.size + 1), 1, none⟩ = some (.slice q1.pc o1.nc q1.kc) := lnk1 HLB.out
  have j2 : w2.cell? ⟨(w.heap.size + 1), 2, none⟩ = some (.slice q1.px o1.nx q1.kx) := lnk2 HLB.out
  have j3 : w2.cell? ⟨(w.heap.size + 1), 3, none⟩ = some (.slice q1.pd o1.nd q1.kd) := lnk3 HLB.out
  rcases hr with rfl | ⟨s0, s1, hz1⟩
  · go_wp2_with fail
    go_ret
    exact ⟨rfl, HA.out⟩
  have zf := hz0.na
  have zd := hz0.nc
  have zr := hz0.nx
  have zs := hz0.nd
  have yf := hz1.na
  have yd := hz1.nc
  have yr := hz1.nx
  have ys := hz1.nd
  obtain ⟨x, hx⟩ : ∃ x, sameLB o0 o1 = x := ⟨_, rfl⟩
  have hS := fun p q W hp hq => specSameL p q o0 o1 W hz0 hz1 hp hq x hx
  have hI := fun p q W hp hq => progSameL p q o0 o1 W hz0 hz1 hp hq x hx
  have HS : Hid (∀ p q W, LnkAt W p o0 → LnkAt W q o1 → _) := hS
  have HI : Hid (∀ p q W, LnkAt W p o0 → LnkAt W q o1 → _) := hI
  clear hS hI HWF0 HWF1 hz0 hz1 hx
  go_wp2_with fail
  have T0 : Hid (∀ W : World, Below w.heap.size w W → Calls Try.prog 22 #[.agg #[.slice q0.pa o0.na q0.ka, .slice q0.pc o0.nc q0.kc, .slice q0.px o0.nx q0.kx, .slice q0.pd o0.nd q0.kd]] W _) := fun W h => toLnk q0 o0 W zf zd zr zs (HP0.out W h)
  have T1 : Hid (∀ W : World, Below w.heap.size w W → Calls Try.prog 22 #[.agg #[.slice q1.pa o1.na q1.ka, .slice q1.pc o1.nc q1.kc, .slice q1.px o1.nx q1.kx, .slice q1.pd o1.nd q1.kd]] W _) := fun W h => toLnk q1 o1 W yf yd yr ys (HP1.out W h)
  have bnow : ∀ W : World, Below w2.heap.size w2 W → Below w.heap.size w W := fun W h => HA.out.trans (h.mono HA.out.size)
  have HN : Hid (∀ W : World, Below w2.heap.size w2 W → Below w.heap.size w W) := bnow
  clear bnow
  go_region_held3 (fun w' => w'.cell? ⟨w.heap.size, 0, none⟩ = some (.slice q0.pa o0.na q0.ka) ∧ w'.cell? ⟨w.heap.size, 1, none⟩ = some (.slice q0.pc o0.nc q0.kc) ∧ w'.cell? ⟨w.heap.size, 2, none⟩ = some (.slice q0.px o0.nx q0.kx) ∧ w'.cell? ⟨w.heap.size, 3, none⟩ = some (.slice q0.pd o0.nd q0.kd) ∧ w'.cell? ⟨(w.heap.size + 1), 0, none⟩ = some (.slice q1.pa o1.na q1.ka) ∧ w'.cell? ⟨(w.heap.size + 1), 1, none⟩ = some (.slice q1.pc o1.nc q1.kc) ∧ w'.cell? ⟨(w.heap.size + 1), 2, none⟩ = some (.slice q1.px o1.nx q1.kx) ∧ w'.cell? ⟨(w.heap.size + 1), 3, none⟩ = some (.slice q1.pd o1.nd q1.kd)) (go_keep) (first | (go_at_call 22; (with_reducible refine (T0.out _ (by first | exact HN.out _ bc | exact HA.out.drew | exact HA.out)).mono ?_); rintro e uA ⟨pA, _, _, _, _, rfl, hb1, cA⟩; have bc : Below w2.heap.size w2 uA := (by first | exact bc.trans (hb1.mono bc.size) | exact (Below.refl w2.heap.size w2).drew.trans hb1 | exact hb1); have aA := cA.at; have la := HLA.out.below bc hA; have lb := HLB.out.below bc hB; have m0 := lnk0 la; have m1 := lnk1 la; have m2 := lnk2 la; have m3 := lnk3 la; have n0 := lnk0 lb; have n1 := lnk1 lb; have n2 := lnk2 lb; have n3 := lnk3 lb; clear T0) | (go_at_call 22; (with_reducible refine (T1.out _ (by first | exact HN.out _ bc | exact HA.out.drew | exact HA.out)).mono ?_); rintro e uB ⟨pB, _, _, _, _, rfl, hb2, cB⟩; have bc : Below w2.heap.size w2 uB := (by first | exact bc.trans (hb2.mono bc.size) | exact (Below.refl w2.heap.size w2).drew.trans hb2 | exact hb2); have aB := cB.at; have la := HLA.out.below bc hA; have lb := HLB.out.below bc hB; have m0 := lnk0 la; have m1 := lnk1 la; have m2 := lnk2 la; have m3 := lnk3 la; have n0 := lnk0 lb; have n1 := lnk1 lb; have n2 := lnk2 lb; have n3 := lnk3 lb; clear T1) | (go_at_call 21; refine (HS.out pA pB _ (by first | exact aA | exact aA.below hb2) (by first | exact aB | exact aB.below hb1)).mono ?_; rintro e w3 ⟨rfl, hb3⟩; have bc : Below w2.heap.size w2 w3 := (by first | exact bc.trans (hb3.mono bc.size) | exact (Below.refl w2.heap.size w2).drew.trans hb3 | exact hb3); have la := HLA.out.below bc hA; have lb := HLB.out.below bc hB; have m0 := lnk0 la; have m1 := lnk1 la; have m2 := lnk2 la; have m3 := lnk3 la; have n0 := lnk0 lb; have n1 := lnk1 lb; have n2 := lnk2 lb; have n3 := lnk3 lb))
  all_goals
    clear m0 m1 m2 m3 n0 n1 n2 n3 la lb aA aB cA cB hb1 hb2 hb3 HN HS
    clear i0 i1 i2 i3 j0 j1 j2 j3
    have nA := HA.out.trans (bc.mono HA.out.size)
    have nLA := HLA.out.below bc hA
    have nLB := HLB.out.below bc hB
    clear HA HLA HLB  bc
    have HA : Hid (Below w.heap.size w w3) := nA
    have HLA : Hid (Lies w3 w.heap.size 43 (lnkC o0 q0)) := nLA
    clear hA
    have hA := nLA.lt
    have HLB : Hid (Lies w3 (w.heap.size + 1) 43 (lnkC o1 q1)) := nLB
    clear hB
    have hB := nLB.lt
    clear nA nLA nLB 
    have i0 : w3.cell? ⟨w.heap.size, 0, none⟩ = some (.slice q0.pa o0.na q0.ka) := lnk0 HLA.out
    have i1 : w3.cell? ⟨w.heap.size, 1, none⟩ = some (.slice q0.pc o0.nc q0.kc) := lnk1 HLA.out
    have i2 : w3.cell? ⟨w.heap.size, 2, none⟩ = some (.slice q0.px o0.nx q0.kx) := lnk2 HLA.out
    have i3 : w3.cell? ⟨w.heap.size, 3, none⟩ = some (.slice q0.pd o0.nd q0.kd) := lnk3 HLA.out
    have j0 : w3.cell? ⟨(w.heap.size + 1), 0, none⟩ = some (.slice q1.pa o1.na q1.ka) := lnk0 HLB.out
    have j1 : w3.cell? ⟨(w.heap.size + 1), 1, none⟩ = some (.slice q1.pc o1.nc q1.kc) := lnk1 HLB.out
    have j2 : w3.cell? ⟨(w.heap.size + 1), 2, none⟩ = some (.slice q1.px o1.nx q1.kx) := lnk2 HLB.out
    have j3 : w3.cell? ⟨(w.heap.size + 1), 3, none⟩ = some (.slice q1.pd o1.nd q1.kd) := lnk3 HLB.out
    go_wp2_with fail
    refine (toLnk q0 o0 w3 zf zd zr zs (HP0.out w3 HA.out)).mono ?_
    rintro e w4 ⟨p2, _, _, _, _, rfl, hb, ho⟩
    have H2 : Hid (LnkAt w4 p2 o0) := ho.at
    clear ho
    clear i0 i1 i2 i3 j0 j1 j2 j3
    have nA := HA.out.trans (hb.mono HA.out.size)
    have nLA := HLA.out.below hb hA
    have nLB := HLB.out.below hb hB
    clear HA HLA HLB  hb
    have HA : Hid (Below w.heap.size w w4) := nA
    have HLA : Hid (Lies w4 w.heap.size 43 (lnkC o0 q0)) := nLA
    clear hA
    have hA := nLA.lt
    have HLB : Hid (Lies w4 (w.heap.size + 1) 43 (lnkC o1 q1)) := nLB
    clear hB
    have hB := nLB.lt
    clear nA nLA nLB 
    have i0 : w4.cell? ⟨w.heap.size, 0, none⟩ = some (.slice q0.pa o0.na q0.ka) := lnk0 HLA.out
    have i1 : w4.cell? ⟨w.heap.size, 1, none⟩ = some (.slice q0.pc o0.nc q0.kc) := lnk1 HLA.out
    have i2 : w4.cell? ⟨w.heap.size, 2, none⟩ = some (.slice q0.px o0.nx q0.kx) := lnk2 HLA.out
    have i3 : w4.cell? ⟨w.heap.size, 3, none⟩ = some (.slice q0.pd o0.nd q0.kd) := lnk3 HLA.out
    have j0 : w4.cell? ⟨(w.heap.size + 1), 0, none⟩ = some (.slice q1.pa o1.na q1.ka) := lnk0 HLB.out
    have j1 : w4.cell? ⟨(w.heap.size + 1), 1, none⟩ = some (.slice q1.pc o1.nc q1.kc) := lnk1 HLB.out
    have j2 : w4.cell? ⟨(w.heap.size + 1), 2, none⟩ = some (.slice q1.px o1.nx q1.kx) := lnk2 HLB.out
    have j3 : w4.cell? ⟨(w.heap.size + 1), 3, none⟩ = some (.slice q1.pd o1.nd q1.kd) := lnk3 HLB.out
    have lX := Lies.new w4 (lnkC o0 p2) 46
    have bX := grown1' w4 (.cells (lnkC o0 p2) 46)
    have hB5 : (w4.alloc (.cells #[.slice p2.pa o0.na p2.ka, .slice p2.pc o0.nc p2.kc, .slice p2.px o0.nx p2.kx, .slice p2.pd o0.nd p2.kd] 46)).cell? ⟨(w.heap.size + 1), 0, none⟩ = some (.slice q1.pa o1.na q1.ka) := lnk0 (HLB.out.below bX hB)
    have hB51 : (w4.alloc (.cells #[.slice p2.pa o0.na p2.ka, .slice p2.pc o0.nc p2.kc, .slice p2.px o0.nx p2.kx, .slice p2.pd o0.nd p2.kd] 46)).cell? ⟨(w.heap.size + 1), 1, none⟩ = some (.slice q1.pc o1.nc q1.kc) := lnk1 (HLB.out.below bX hB)
    have hB52 : (w4.alloc (.cells #[.slice p2.pa o0.na p2.ka, .slice p2.pc o0.nc p2.kc, .slice p2.px o0.nx p2.kx, .slice p2.pd o0.nd p2.kd] 46)).cell? ⟨(w.heap.size + 1), 2, none⟩ = some (.slice q1.px o1.nx q1.kx) := lnk2 (HLB.out.below bX hB)
    have hB53 : (w4.alloc (.cells #[.slice p2.pa o0.na p2.ka, .slice p2.pc o0.nc p2.kc, .slice p2.px o0.nx p2.kx, .slice p2.pd o0.nd p2.kd] 46)).cell? ⟨(w.heap.size + 1), 3, none⟩ = some (.slice q1.pd o1.nd q1.kd) := lnk3 (HLB.out.below bX hB)
    go_wp2_with fail
    clear hB5 hB51 hB52 hB53
    obtain ⟨W5, hW5⟩ : ∃ W, w4.alloc (.cells #[.slice p2.pa o0.na p2.ka, .slice p2.pc o0.nc p2.kc, .slice p2.px o0.nx p2.kx, .slice p2.pd o0.nd p2.kd] 46) = W := ⟨_, rfl⟩
    obtain ⟨X, hX⟩ : ∃ X, w4.heap.size = X := ⟨_, rfl⟩
    have bX : Below w4.heap.size w4 W5 := by rw [← hW5]; exact bX
    have lX : Lies W5 X 46 (lnkC o0 p2) := by rw [← hW5, ← hX]; exact lX
    rw [hW5] at ⊢
    try rw [hX] at ⊢
    clear hW5
    clear i0 i1 i2 i3 j0 j1 j2 j3
    have nA := HA.out.trans (bX.mono HA.out.size)
    have nLA := HLA.out.below bX hA
    have nLB := HLB.out.below bX hB
    have nH2 := H2.out.below bX
    clear HA HLA HLB H2 bX
    have HA : Hid (Below w.heap.size w W5) := nA
    have HLA : Hid (Lies W5 w.heap.size 43 (lnkC o0 q0)) := nLA
    clear hA
    have hA := nLA.lt
    have HLB : Hid (Lies W5 (w.heap.size + 1) 43 (lnkC o1 q1)) := nLB
    clear hB
    have hB := nLB.lt
    have H2 : Hid (LnkAt W5 p2 o0) := nH2
    clear nA nLA nLB nH2
    have HLX : Hid (Lies W5 X 46 (lnkC o0 p2)) := lX
    have hX := lX.lt
    clear lX
    refine (toLnk q1 o1 W5 yf yd yr ys (HP1.out W5 HA.out)).mono ?_
    rintro e w6 ⟨p4, _, _, _, _, rfl, hb, ho⟩
    have H4 : Hid (LnkAt w6 p4 o1) := ho.at
    clear ho
    have nA := HA.out.trans (hb.mono HA.out.size)
    have nLA := HLA.out.below hb hA
    have nLB := HLB.out.below hb hB
    have nLX := HLX.out.below hb hX
    have nH2 := H2.out.below hb
    clear HA HLA HLB HLX H2 hb
    have HA : Hid (Below w.heap.size w w6) := nA
    have HLA : Hid (Lies w6 w.heap.size 43 (lnkC o0 q0)) := nLA
    clear hA
    have hA := nLA.lt
    have HLB : Hid (Lies w6 (w.heap.size + 1) 43 (lnkC o1 q1)) := nLB
    clear hB
    have hB := nLB.lt
    have HLX : Hid (Lies w6 X 46 (lnkC o0 p2)) := nLX
    clear hX
    have hX := nLX.lt
    have H2 : Hid (LnkAt w6 p2 o0) := nH2
    clear nA nLA nLB nLX nH2
    have k0 : w6.cell? ⟨X, 0, none⟩ = some (.slice p2.pa o0.na p2.ka) := lnk0 HLX.out
    have k1 : w6.cell? ⟨X, 1, none⟩ = some (.slice p2.pc o0.nc p2.kc) := lnk1 HLX.out
    have k2 : w6.cell? ⟨X, 2, none⟩ = some (.slice p2.px o0.nx p2.kx) := lnk2 HLX.out
    have k3 : w6.cell? ⟨X, 3, none⟩ = some (.slice p2.pd o0.nd p2.kd) := lnk3 HLX.out
    have lY := Lies.new w6 (lnkC o1 p4) 46
    have bY := grown1' w6 (.cells (lnkC o1 p4) 46)
    have hX60 : (w6.alloc (.cells #[.slice p4.pa o1.na p4.ka, .slice p4.pc o1.nc p4.kc, .slice p4.px o1.nx p4.kx, .slice p4.pd o1.nd p4.kd] 46)).cell? ⟨X, 0, none⟩ = some (.slice p2.pa o0.na p2.ka) := lnk0 (HLX.out.below bY hX)
    have hX61 : (w6.alloc (.cells #[.slice p4.pa o1.na p4.ka, .slice p4.pc o1.nc p4.kc, .slice p4.px o1.nx p4.kx, .slice p4.pd o1.nd p4.kd] 46)).cell? ⟨X, 1, none⟩ = some (.slice p2.pc o0.nc p2.kc) := lnk1 (HLX.out.below bY hX)
    have hX62 : (w6.alloc (.cells #[.slice p4.pa o1.na p4.ka, .slice p4.pc o1.nc p4.kc, .slice p4.px o1.nx p4.kx, .slice p4.pd o1.nd p4.kd] 46)).cell? ⟨X, 2, none⟩ = some (.slice p2.px o0.nx p2.kx) := lnk2 (HLX.out.below bY hX)
    have hX63 : (w6.alloc (.cells #[.slice p4.pa o1.na p4.ka, .slice p4.pc o1.nc p4.kc, .slice p4.px o1.nx p4.kx, .slice p4.pd o1.nd p4.kd] 46)).cell? ⟨X, 3, none⟩ = some (.slice p2.pd o0.nd p2.kd) := lnk3 (HLX.out.below bY hX)
    go_wp2_with fail
    clear hX60 hX61 hX62 hX63
    obtain ⟨W7, hW7⟩ : ∃ W, w6.alloc (.cells #[.slice p4.pa o1.na p4.ka, .slice p4.pc o1.nc p4.kc, .slice p4.px o1.nx p4.kx, .slice p4.pd o1.nd p4.kd] 46) = W := ⟨_, rfl⟩
    obtain ⟨Y, hY⟩ : ∃ Y, w6.heap.size = Y := ⟨_, rfl⟩
    have bY : Below w6.heap.size w6 W7 := by rw [← hW7]; exact bY
    have lY : Lies W7 Y 46 (lnkC o1 p4) := by rw [← hW7, ← hY]; exact lY
    rw [hW7] at ⊢
    try rw [hY] at ⊢
    clear hW7
    clear k0 k1 k2 k3
    have nA := HA.out.trans (bY.mono HA.out.size)
    have nLA := HLA.out.below bY hA
    have nLB := HLB.out.below bY hB
    have nLX := HLX.out.below bY hX
    have nH2 := H2.out.below bY
    have nH4 := H4.out.below bY
    clear HA HLA HLB HLX H2 H4 bY
    have HA : Hid (Below w.heap.size w W7) := nA
    have HLA : Hid (Lies W7 w.heap.size 43 (lnkC o0 q0)) := nLA
    clear hA
    have hA := nLA.lt
    have HLB : Hid (Lies W7 (w.heap.size + 1) 43 (lnkC o1 q1)) := nLB
    clear hB
    have hB := nLB.lt
    have HLX : Hid (Lies W7 X 46 (lnkC o0 p2)) := nLX
    clear hX
    have hX := nLX.lt
    have H2 : Hid (LnkAt W7 p2 o0) := nH2
    have H4 : Hid (LnkAt W7 p4 o1) := nH4
    clear nA nLA nLB nLX nH2 nH4
    have HLY : Hid (Lies W7 Y 46 (lnkC o1 p4)) := lY
    have hY := lY.lt
    clear lY
    refine (HI.out p2 p4 W7 H2.out H4.out).mono ?_
    rintro e w8 ⟨rfl, hb⟩
    clear HI
    have hxx : (x != x) = false := by simp
    have nA := HA.out.trans (hb.mono HA.out.size)
    have nLA := HLA.out.below hb hA
    have nLB := HLB.out.below hb hB
    have nLX := HLX.out.below hb hX
    have nLY := HLY.out.below hb hY
    have nH2 := H2.out.below hb
    have nH4 := H4.out.below hb
    clear HA HLA HLB HLX HLY H2 H4 hb
    have HA : Hid (Below w.heap.size w w8) := nA
    have HLA : Hid (Lies w8 w.heap.size 43 (lnkC o0 q0)) := nLA
    clear hA
    have hA := nLA.lt
    have HLB : Hid (Lies w8 (w.heap.size + 1) 43 (lnkC o1 q1)) := nLB
    clear hB
    have hB := nLB.lt
    have HLX : Hid (Lies w8 X 46 (lnkC o0 p2)) := nLX
    clear hX
    have hX := nLX.lt
    have HLY : Hid (Lies w8 Y 46 (lnkC o1 p4)) := nLY
    clear hY
    have hY := nLY.lt
    have H2 : Hid (LnkAt w8 p2 o0) := nH2
    have H4 : Hid (LnkAt w8 p4 o1) := nH4
    clear nA nLA nLB nLX nLY nH2 nH4
    have i0 : w8.cell? ⟨w.heap.size, 0, none⟩ = some (.slice q0.pa o0.na q0.ka) := lnk0 HLA.out
    have i1 : w8.cell? ⟨w.heap.size, 1, none⟩ = some (.slice q0.pc o0.nc q0.kc) := lnk1 HLA.out
    have i2 : w8.cell? ⟨w.heap.size, 2, none⟩ = some (.slice q0.px o0.nx q0.kx) := lnk2 HLA.out
    have i3 : w8.cell? ⟨w.heap.size, 3, none⟩ = some (.slice q0.pd o0.nd q0.kd) := lnk3 HLA.out
    have k0 : w8.cell? ⟨X, 0, none⟩ = some (.slice p2.pa o0.na p2.ka) := lnk0 HLX.out
    have k1 : w8.cell? ⟨X, 1, none⟩ = some (.slice p2.pc o0.nc p2.kc) := lnk1 HLX.out
    have k2 : w8.cell? ⟨X, 2, none⟩ = some (.slice p2.px o0.nx p2.kx) := lnk2 HLX.out
    have k3 : w8.cell? ⟨X, 3, none⟩ = some (.slice p2.pd o0.nd p2.kd) := lnk3 HLX.out
    go_wp2_with fail
    go_region_held3 (fun w' => w'.cell? ⟨w.heap.size, 0, none⟩ = some (.slice q0.pa o0.na q0.ka) ∧ w'.cell? ⟨w.heap.size, 1, none⟩ = some (.slice q0.pc o0.nc q0.kc) ∧ w'.cell? ⟨w.heap.size, 2, none⟩ = some (.slice q0.px o0.nx q0.kx) ∧ w'.cell? ⟨w.heap.size, 3, none⟩ = some (.slice q0.pd o0.nd q0.kd) ∧ w'.cell? ⟨X, 0, none⟩ = some (.slice p2.pa o0.na p2.ka) ∧ w'.cell? ⟨X, 1, none⟩ = some (.slice p2.pc o0.nc p2.kc) ∧ w'.cell? ⟨X, 2, none⟩ = some (.slice p2.px o0.nx p2.kx) ∧ w'.cell? ⟨X, 3, none⟩ = some (.slice p2.pd o0.nd p2.kd)) (go_keep) (first | (go_at_call 22; refine (toLnk q0 o0 _ zf zd zr zs (HP0.out _ (by first | exact HA.out.drew | exact HA.out))).mono ?_; rintro e w9 ⟨p3, _, _, _, _, rfl, hb8, ho⟩; have b8 : Below w8.heap.size w8 w9 := (by first | exact (Below.refl w8.heap.size w8).drew.trans hb8 | exact hb8); have hO8 := ho.at; have la := HLA.out.below b8 hA; have lb := HLX.out.below b8 hX; have m0 := lnk0 la; have m1 := lnk1 la; have m2 := lnk2 la; have m3 := lnk3 la; have n0 := lnk0 lb; have n1 := lnk1 lb; have n2 := lnk2 lb; have n3 := lnk3 lb) | (go_at_call 24; refine (eqLnk p2 p3 o0 _ (by omega) (by omega) (by omega) (by omega) (H2.out.below b8) hO8).mono ?_; rintro e w10 ⟨rfl, hb9⟩; have b8 : Below w8.heap.size w8 w10 := b8.trans (hb9.mono b8.size); have la := HLA.out.below b8 hA; have lb := HLX.out.below b8 hX; have m0 := lnk0 la; have m1 := lnk1 la; have m2 := lnk2 la; have m3 := lnk3 la; have n0 := lnk0 lb; have n1 := lnk1 lb; have n2 := lnk2 lb; have n3 := lnk3 lb))
    all_goals
      clear m0 m1 m2 m3 n0 n1 n2 n3 hO8 hb8 hb9 la lb ho
      clear i0 i1 i2 i3 k0 k1 k2 k3
      have nA := HA.out.trans (b8.mono HA.out.size)
      have nLB := HLB.out.below b8 hB
      have nLY := HLY.out.below b8 hY
      have nH4 := H4.out.below b8
      clear HA HLB HLY H4 b8
      have HA : Hid (Below w.heap.size w w10) := nA
      have HLB : Hid (Lies w10 (w.heap.size + 1) 43 (lnkC o1 q1)) := nLB
      clear hB
      have hB := nLB.lt
      have HLY : Hid (Lies w10 Y 46 (lnkC o1 p4)) := nLY
      clear hY
      have hY := nLY.lt
      have H4 : Hid (LnkAt w10 p4 o1) := nH4
      clear nA nLB nLY nH4
      have j0 : w10.cell? ⟨(w.heap.size + 1), 0, none⟩ = some (.slice q1.pa o1.na q1.ka) := lnk0 HLB.out
      have j1 : w10.cell? ⟨(w.heap.size + 1), 1, none⟩ = some (.slice q1.pc o1.nc q1.kc) := lnk1 HLB.out
      have j2 : w10.cell? ⟨(w.heap.size + 1), 2, none⟩ = some (.slice q1.px o1.nx q1.kx) := lnk2 HLB.out
      have j3 : w10.cell? ⟨(w.heap.size + 1), 3, none⟩ = some (.slice q1.pd o1.nd q1.kd) := lnk3 HLB.out
      have l0 : w10.cell? ⟨Y, 0, none⟩ = some (.slice p4.pa o1.na p4.ka) := lnk0 HLY.out
      have l1 : w10.cell? ⟨Y, 1, none⟩ = some (.slice p4.pc o1.nc p4.kc) := lnk1 HLY.out
      have l2 : w10.cell? ⟨Y, 2, none⟩ = some (.slice p4.px o1.nx p4.kx) := lnk2 HLY.out
      have l3 : w10.cell? ⟨Y, 3, none⟩ = some (.slice p4.pd o1.nd p4.kd) := lnk3 HLY.out
      go_wp2_with fail
      go_region_held3 (fun w' => w'.cell? ⟨(w.heap.size + 1), 0, none⟩ = some (.slice q1.pa o1.na q1.ka) ∧ w'.cell? ⟨(w.heap.size + 1), 1, none⟩ = some (.slice q1.pc o1.nc q1.kc) ∧ w'.cell? ⟨(w.heap.size + 1), 2, none⟩ = some (.slice q1.px o1.nx q1.kx) ∧ w'.cell? ⟨(w.heap.size + 1), 3, none⟩ = some (.slice q1.pd o1.nd q1.kd) ∧ w'.cell? ⟨Y, 0, none⟩ = some (.slice p4.pa o1.na p4.ka) ∧ w'.cell? ⟨Y, 1, none⟩ = some (.slice p4.pc o1.nc p4.kc) ∧ w'.cell? ⟨Y, 2, none⟩ = some (.slice p4.px o1.nx p4.kx) ∧ w'.cell? ⟨Y, 3, none⟩ = some (.slice p4.pd o1.nd p4.kd)) (go_keep) (first | (go_at_call 22; refine (toLnk q1 o1 _ yf yd yr ys (HP1.out _ (by first | exact HA.out.drew | exact HA.out))).mono ?_; rintro e w11 ⟨p3, _, _, _, _, rfl, hb8, ho⟩; have b8 : Below w10.heap.size w10 w11 := (by first | exact (Below.refl w10.heap.size w10).drew.trans hb8 | exact hb8); have hO8 := ho.at; have la := HLB.out.below b8 hB; have lb := HLY.out.below b8 hY; have m0 := lnk0 la; have m1 := lnk1 la; have m2 := lnk2 la; have m3 := lnk3 la; have n0 := lnk0 lb; have n1 := lnk1 lb; have n2 := lnk2 lb; have n3 := lnk3 lb) | (go_at_call 24; refine (eqLnk p4 p3 o1 _ (by omega) (by omega) (by omega) (by omega) (H4.out.below b8) hO8).mono ?_; rintro e w12 ⟨rfl, hb9⟩; have b8 : Below w10.heap.size w10 w12 := b8.trans (hb9.mono b8.size); have la := HLB.out.below b8 hB; have lb := HLY.out.below b8 hY; have m0 := lnk0 la; have m1 := lnk1 la; have m2 := lnk2 la; have m3 := lnk3 la; have n0 := lnk0 lb; have n1 := lnk1 lb; have n2 := lnk2 lb; have n3 := lnk3 lb))
      all_goals
        have B9 : Below w.heap.size w w12 := HA.out.trans (b8.mono HA.out.size)
        go_wp2_with fail
        go_ret
        exact ⟨rfl, B9⟩

set_option maxRecDepth 100000 in
theorem lifted (os : Os) (started : os.Started) (H : Type) (enc : TypeId × Value → H) :
    ReturnsInHanded {} Try.checked os 7 .any (Rows.fnExactSameLinkedSpec.pre6 enc Try.prog Try.f7 Rows.fnExactSameLinkedRow.domain false) (Rows.fnExactSameLinkedSpec.post enc Try.prog Try.f7 false true false false) := by
  refine returnsInHanded_of_change (C := Try.checked) own started (by kernel_rfl) Try.func7
    (ChangeSpec.witness6 (enc := enc) (C := Try.checked) false ⟨#[], #[.agg #[.slice none 0 0, .slice none 0 0, .slice none 0 0, .slice none 0 0], .agg #[.slice none 0 0, .slice none 0 0, .slice none 0 0, .slice none 0 0]], []⟩ 8 (by kernel_rfl) (by kernel_rfl) (by kernel_rfl) (by kernel_rfl)) ?_
  intro W base args ds gs before hval0 hW hcnd _
  have hval : ∀ (j : Nat) t v, Try.f7.params[j]? = some t → args[j]? = some v → Value.okWide Try.prog W .any base t v := hval0
  have hW' := hW
  obtain ⟨p, q, hA0, hV, rfl, hfz, hnd⟩ := hW
  have hA : DataW.TrodAll enc Try.prog W 0 (fun _ => true) true Try.f7.params.toList args.toList ds p := hA0
  rw [Try.params7] at hA hval
  obtain ⟨v0, vs0, d0, ds0, p0, q0, hargs, rfl, rfl, h0, r0⟩ := trodAll_cons hA
  obtain ⟨v1, vs1, d1, ds1, p1, q1, rfl, rfl, rfl, h1, r1⟩ := trodAll_cons r0
  obtain ⟨rfl, rfl, rfl⟩ := trodAll_nil r1
  obtain rfl : args = #[v0, v1] := by cases args; simp_all
  obtain ⟨rfl, rfl⟩ := trodVars_none hV
  have k0 := h0
  have lt0 : ∀ x ∈ p0, x.block < W.heap.size := by obtain ⟨m, hm⟩ := k0; exact DataW.trod_lt m _ _ _ hm
  obtain ⟨q0, o0, rfl, w0⟩ := open_linked Try.underlying43 (by kernel_rfl) (by kernel_rfl) Try.underlying40 Try.underlying41 Try.underlying40 Try.underlying41 Try.underlying3 (by kernel_rfl) Try.underlying9 (by kernel_rfl) (hval 0 43 v0 rfl rfl) h0
  have k1 := h1
  have lt1 : ∀ x ∈ p1, x.block < W.heap.size := by obtain ⟨m, hm⟩ := k1; exact DataW.trod_lt m _ _ _ hm
  obtain ⟨q1, o1, rfl, w1⟩ := open_linked Try.underlying43 (by kernel_rfl) (by kernel_rfl) Try.underlying40 Try.underlying41 Try.underlying40 Try.underlying41 Try.underlying3 (by kernel_rfl) Try.underlying9 (by kernel_rfl) (hval 1 43 v1 rfl rfl) h1
  clear hA0 hval0
  refine (walk q0 o0 q1 o1 W w0 w1).mono fun e W' ⟨he, bel⟩ => ?_
  subst he
  exact ⟨_, rfl, _, _, _, [], _, [], hW', trodAll_mk1 (shut_bool Try.underlying4 _), (trodAll_cons_mk (Below.trod laidOut (by kernel_rfl) (of_decide_eq_true (by kernel_rfl)) k0 bel lt0) (trodAll_cons_mk (Below.trod laidOut (by kernel_rfl) (of_decide_eq_true (by kernel_rfl)) k1 bel lt1) trodAll_mk0)), rfl, bel.frame _, fun h => by cases h⟩

theorem over : Rows.fnExactSameLinkedRow.holds Try.pinned (OpenSpec.ofChange Rows.fnExactSameLinkedSpec) :=
  OpenClaim.holds_of_wide 7 Try.f7 rfl rfl rfl rfl rfl rfl rfl ⟨rfl, rfl, rfl, rfl, rfl⟩ rfl rfl rfl rfl rfl (by kernel_rfl) Try.func7 (by kernel_rfl)
    (of_decide_eq_true (by kernel_rfl)) (by unfold Func.isWrapper; first | (rw [if_pos (by decide +kernel)]; kernel_rfl) | (rw [if_neg (by decide +kernel)]; exact ⟨rfl, rfl⟩))
    (fun os started H enc _ => lifted os started H enc)

theorem proved : Rows.FnExactSameLinkedSaid :=
  over
end Go.Proofs.Ytelogjpjglohoaa.fnExactSameLinked
theorem Go.Proofs.Ytelogjpjglohoaa.sameLinked_holds : Go.Proofs.Ytelogjpjglohoaa.Rows.FnExactSameLinkedSaid := Go.Proofs.Ytelogjpjglohoaa.fnExactSameLinked.proved
