/- SameObject of both: it tells whether both are right and alike. -/
import Derived.Test.YtdcjddiigipdmaaObjX1
import Derived.Test.YtdcjddiigipdmaaObjE
import Derived.Test.YtdcjddiigipdmaaObjTS
namespace Go.Proofs.Ytdcjddiigipdmaa
open Go Go.RowKit
set_option linter.unusedVariables false

noncomputable def sameB (a b : ObjD) : Bool := @decide ((lintO a).2 = 0 ∧ (lintO b).2 = 0 ∧ Alike a b) (Classical.propDecidable _)
theorem sameB_no {a b : ObjD} (h : ¬ ((lintO a).2 = 0 ∧ (lintO b).2 = 0 ∧ Alike a b)) : sameB a b = false := @decide_eq_false _ (Classical.propDecidable _) h
theorem sameB_yes {a b : ObjD} (h : (lintO a).2 = 0 ∧ (lintO b).2 = 0 ∧ Alike a b) : sameB a b = true := @decide_eq_true _ (Classical.propDecidable _) h
theorem has_bool (P : Prop) : ∃ b : Bool, b = true ↔ P := by
  by_cases h : P
  · exact ⟨true, by simp [h]⟩
  · exact ⟨false, by simp [h]⟩

set_option maxRecDepth 100000 in
set_option maxHeartbeats 8000000 in
theorem progSame (p q : ObjPt) (a b : ObjD) (w : World) (ha : a.fits) (hb : b.fits) (wa : a.wf) (wb : b.wf) (hp : ObjAt w p a) (hq : ObjAt w q b) (r : Bool) (hr : sameB a b = r) :
    Calls Try.prog 30 #[.agg (objC a p), .agg (objC b q)] w fun e w' => e = .returned (.bool r) ∧ Below w.heap.size w w' := by
  have bA : Below w.heap.size w ((w.alloc (.cells (objC a p) 36)).alloc (.cells (objC b q) 36)) := ((Below.refl _ _).alloc (Nat.le_refl _) _).alloc (by simp) _
  have l1 := (Lies.new w (objC a p) 36).alloc (.cells (objC b q) 36)
  have l2 := Lies.newAt (w.alloc (.cells (objC a p) 36)) (objC b q) 36 (g := w.heap.size + 1) (by simp)
  have HPa : Hid (∀ W : World, Below w.heap.size w W → ObjAt W p a) := fun W h => hp.below h
  have HPb : Hid (∀ W : World, Below w.heap.size w W → ObjAt W q b) := fun W h => hq.below h
  have HR : Hid (sameB a b = r) := hr
  have za := ha.nf
  have zb := ha.nd
  have zc := ha.nr
  have zd := ha.ns
  have ya := hb.nf
  have yb := hb.nd
  have yc := hb.nr
  have yd := hb.ns
  have HFa : Hid (a.fits ∧ a.wf) := ⟨ha, wa⟩
  have HFb : Hid (b.fits ∧ b.wf) := ⟨hb, wb⟩
  clear hp hq hr ha hb wa wb
  go_enter Try.func30, Try.ntmps30
  go_wp2_with fail
  obtain ⟨W0, hW0⟩ : ∃ V, ((w.alloc (.cells #[.string a.nm, .int .i64 a.dp, .slice p.pf a.nf p.kf, .slice p.pd a.nd p.kd, .slice p.pr a.nr p.kr, .slice p.ps a.ns p.ks] 36)).alloc (.cells #[.string b.nm, .int .i64 b.dp, .slice q.pf b.nf q.kf, .slice q.pd b.nd q.kd, .slice q.pr b.nr q.kr, .slice q.ps b.ns q.ks] 36)) = V := ⟨_, rfl⟩
  rw [hW0] at bA l1 l2 ⊢
  obtain ⟨oa, hoa⟩ : ∃ x, ((lintO a).2 == 0) = x := ⟨_, rfl⟩
  obtain ⟨ob, hob⟩ : ∃ x, ((lintO b).2 == 0) = x := ⟨_, rfl⟩
  have HOA : Hid (((lintO a).2 == 0) = oa) := hoa
  have HOB : Hid (((lintO b).2 == 0) = ob) := hob
  have HA : Hid (Below w.heap.size w W0) := bA
  have HL : Hid (Lies W0 w.heap.size 36 (objC a p)) := l1
  have HM : Hid (Lies W0 (w.heap.size + 1) 36 (objC b q)) := l2
  have lL := l1.lt
  have lM := l2.lt
  have P := progObjectOK p a W0 HFa.out.1 HFa.out.2 (HPa.out W0 bA)
  rw [hoa] at P
  clear hW0 bA l1 l2 hoa hob
  refine P.mono ?_
  rintro e W1 ⟨rfl, hb⟩
  have nA := HA.out.trans (hb.mono HA.out.size)
  have nL := HL.out.below hb lL
  have nM := HM.out.below hb lM
  clear P hb HA HL HM lL lM
  have HA : Hid (Below w.heap.size w W1) := nA
  have HL : Hid (Lies W1 w.heap.size 36 (objC a p)) := nL
  have HM : Hid (Lies W1 (w.heap.size + 1) 36 (objC b q)) := nM
  have lL := nL.lt
  have lM := nM.lt
  have m0 := obj0 nM
  have m1 := obj1 nM
  have m2 := obj2 nM
  have m3 := obj3 nM
  have m4 := obj4 nM
  have m5 := obj5 nM
  clear nA nL nM
  cases oa with
  | false =>
    obtain rfl : false = r := by rw [← HR.out]; exact (sameB_no (fun h => by have := HOA.out; simp [h.1] at this)).symm
    go_wp2_with fail
    go_ret
    exact ⟨rfl, HA.out⟩
  | true =>
  go_wp2_with fail
  have P := progObjectOK q b W1 HFb.out.1 HFb.out.2 (HPb.out W1 HA.out)
  rw [HOB.out] at P
  refine P.mono ?_
  rintro e W2 ⟨rfl, hb⟩
  have nA := HA.out.trans (hb.mono HA.out.size)
  have nL := HL.out.below hb lL
  have nM := HM.out.below hb lM
  clear P hb HA HL HM lL lM m0 m1 m2 m3 m4 m5
  have HA : Hid (Below w.heap.size w W2) := nA
  have HL : Hid (Lies W2 w.heap.size 36 (objC a p)) := nL
  have HM : Hid (Lies W2 (w.heap.size + 1) 36 (objC b q)) := nM
  have lL := nL.lt
  have lM := nM.lt
  have m0 := obj0 nM
  have m1 := obj1 nM
  have m2 := obj2 nM
  have m3 := obj3 nM
  have m4 := obj4 nM
  have m5 := obj5 nM
  have n0 := obj0 nL
  have n1 := obj1 nL
  have n2 := obj2 nL
  have n3 := obj3 nL
  have n4 := obj4 nL
  have n5 := obj5 nL
  clear nA nL nM
  cases ob with
  | false =>
    obtain rfl : false = r := by rw [← HR.out]; exact (sameB_no (fun h => by have := HOB.out; simp [h.2.1] at this)).symm
    go_wp2_with fail
    go_ret
    exact ⟨rfl, HA.out⟩
  | true =>
  have hla : (lintO a).2 = 0 := by have := HOA.out; simpa using this
  have hlb : (lintO b).2 = 0 := by have := HOB.out; simpa using this
  have HLL : Hid ((lintO a).2 = 0 ∧ (lintO b).2 = 0) := ⟨hla, hlb⟩
  clear hla hlb HOA HOB
  by_cases hnm : ¬ a.nm = b.nm
  · obtain rfl : false = r := by rw [← HR.out]; exact (sameB_no (fun h => hnm h.2.2.nm)).symm
    have z : ¬ a.nm.toList = b.nm.toList := fun h => hnm (toL_inj h)
    have z2 : (a.nm.toList == b.nm.toList) = false := by simpa using z
    go_wp2_with fail
    go_ret
    exact ⟨rfl, HA.out⟩
  have hnm : a.nm = b.nm := Classical.byContradiction hnm
  have z2 : (a.nm.toList == b.nm.toList) = true := by rw [hnm]; simp
  have HNM : Hid (a.nm = b.nm) := hnm
  clear hnm
  by_cases hdp : ¬ a.dp = b.dp
  · obtain rfl : false = r := by rw [← HR.out]; exact (sameB_no (fun h => hdp h.2.2.dp)).symm
    have z3 : (a.dp == b.dp) = false := by simpa using hdp
    go_wp2_with fail
    go_ret
    exact ⟨rfl, HA.out⟩
  have hdp : a.dp = b.dp := Classical.byContradiction hdp
  have z3 : (a.dp == b.dp) = true := by simpa using hdp
  have HDP : Hid (a.dp = b.dp) := hdp
  clear hdp
  go_wp2_with fail
  obtain ⟨bf, hbf⟩ := has_bool (a.nf = b.nf ∧ ∀ i, i < a.nf → a.F i = b.F i)
  have HBf0 : Hid (bf = true ↔ a.nf = b.nf ∧ ∀ i, i < a.nf → a.F i = b.F i) := hbf
  refine (eqlF p.pf q.pf a.nf b.nf p.kf q.kf a.F b.F W2 (by omega) (by omega) (HPa.out W2 HA.out).f (HPb.out W2 HA.out).f bf HBf0.out).mono ?_
  rintro e W3 ⟨rfl, hb⟩
  have nA := HA.out.trans (hb.mono HA.out.size)
  have nL := HL.out.below hb lL
  have nM := HM.out.below hb lM
  clear hb hbf HA HL HM lL lM m0 m1 m2 m3 m4 m5 n0 n1 n2 n3 n4 n5
  have HA : Hid (Below w.heap.size w W3) := nA
  have HL : Hid (Lies W3 w.heap.size 36 (objC a p)) := nL
  have HM : Hid (Lies W3 (w.heap.size + 1) 36 (objC b q)) := nM
  have lL := nL.lt
  have lM := nM.lt
  have m0 := obj0 nM
  have m1 := obj1 nM
  have m2 := obj2 nM
  have m3 := obj3 nM
  have m4 := obj4 nM
  have m5 := obj5 nM
  have n0 := obj0 nL
  have n1 := obj1 nL
  have n2 := obj2 nL
  have n3 := obj3 nL
  have n4 := obj4 nL
  have n5 := obj5 nL
  clear nA nL nM
  cases bf with
  | false =>
    obtain rfl : false = r := by rw [← HR.out]; exact (sameB_no (fun h => by have := HBf0.out.2 ⟨h.2.2.nf, h.2.2.f⟩; simp at this)).symm
    go_wp2_with fail
    go_ret
    exact ⟨rfl, HA.out⟩
  | true =>
  have HBf : Hid (a.nf = b.nf ∧ ∀ i, i < a.nf → a.F i = b.F i) := HBf0.out.1 rfl
  clear HBf0
  go_wp2_with fail
  obtain ⟨bd, hbd⟩ := has_bool (a.nd = b.nd ∧ ∀ i, i < a.nd → a.D i = b.D i)
  have HBd0 : Hid (bd = true ↔ a.nd = b.nd ∧ ∀ i, i < a.nd → a.D i = b.D i) := hbd
  refine (eqlD p.pd q.pd a.nd b.nd p.kd q.kd a.D b.D W3 (by omega) (by omega) (HPa.out W3 HA.out).d (HPb.out W3 HA.out).d bd HBd0.out).mono ?_
  rintro e W4 ⟨rfl, hb⟩
  have nA := HA.out.trans (hb.mono HA.out.size)
  have nL := HL.out.below hb lL
  have nM := HM.out.below hb lM
  clear hb hbd HA HL HM lL lM m0 m1 m2 m3 m4 m5 n0 n1 n2 n3 n4 n5
  have HA : Hid (Below w.heap.size w W4) := nA
  have HL : Hid (Lies W4 w.heap.size 36 (objC a p)) := nL
  have HM : Hid (Lies W4 (w.heap.size + 1) 36 (objC b q)) := nM
  have lL := nL.lt
  have lM := nM.lt
  have m0 := obj0 nM
  have m1 := obj1 nM
  have m2 := obj2 nM
  have m3 := obj3 nM
  have m4 := obj4 nM
  have m5 := obj5 nM
  have n0 := obj0 nL
  have n1 := obj1 nL
  have n2 := obj2 nL
  have n3 := obj3 nL
  have n4 := obj4 nL
  have n5 := obj5 nL
  clear nA nL nM
  cases bd with
  | false =>
    obtain rfl : false = r := by rw [← HR.out]; exact (sameB_no (fun h => by have := HBd0.out.2 ⟨h.2.2.nd, h.2.2.d⟩; simp at this)).symm
    go_wp2_with fail
    go_ret
    exact ⟨rfl, HA.out⟩
  | true =>
  have HBd : Hid (a.nd = b.nd ∧ ∀ i, i < a.nd → a.D i = b.D i) := HBd0.out.1 rfl
  clear HBd0
  go_wp2_with fail
  obtain ⟨br, hbr⟩ := has_bool (a.nr = b.nr ∧ ∀ i, i < a.nr → a.R i = b.R i)
  have HBr0 : Hid (br = true ↔ a.nr = b.nr ∧ ∀ i, i < a.nr → a.R i = b.R i) := hbr
  refine (eqlR p.pr q.pr a.nr b.nr p.kr q.kr a.R b.R W4 (by omega) (by omega) (HPa.out W4 HA.out).r (HPb.out W4 HA.out).r br HBr0.out).mono ?_
  rintro e W5 ⟨rfl, hb⟩
  have nA := HA.out.trans (hb.mono HA.out.size)
  have nL := HL.out.below hb lL
  have nM := HM.out.below hb lM
  clear hb hbr HA HL HM lL lM m0 m1 m2 m3 m4 m5 n0 n1 n2 n3 n4 n5
  have HA : Hid (Below w.heap.size w W5) := nA
  have HL : Hid (Lies W5 w.heap.size 36 (objC a p)) := nL
  have HM : Hid (Lies W5 (w.heap.size + 1) 36 (objC b q)) := nM
  have lL := nL.lt
  have lM := nM.lt
  have m0 := obj0 nM
  have m1 := obj1 nM
  have m2 := obj2 nM
  have m3 := obj3 nM
  have m4 := obj4 nM
  have m5 := obj5 nM
  have n0 := obj0 nL
  have n1 := obj1 nL
  have n2 := obj2 nL
  have n3 := obj3 nL
  have n4 := obj4 nL
  have n5 := obj5 nL
  clear nA nL nM
  cases br with
  | false =>
    obtain rfl : false = r := by rw [← HR.out]; exact (sameB_no (fun h => by have := HBr0.out.2 ⟨h.2.2.nr, h.2.2.r⟩; simp at this)).symm
    go_wp2_with fail
    go_ret
    exact ⟨rfl, HA.out⟩
  | true =>
  have HBr : Hid (a.nr = b.nr ∧ ∀ i, i < a.nr → a.R i = b.R i) := HBr0.out.1 rfl
  clear HBr0
  go_wp2_with fail
  obtain ⟨bs, hbs⟩ := has_bool (a.ns = b.ns ∧ ∀ i, i < a.ns → a.S i = b.S i)
  have HBs0 : Hid (bs = true ↔ a.ns = b.ns ∧ ∀ i, i < a.ns → a.S i = b.S i) := hbs
  refine (eqlS p.ps q.ps a.ns b.ns p.ks q.ks a.S b.S W5 (by omega) (by omega) (HPa.out W5 HA.out).s (HPb.out W5 HA.out).s bs HBs0.out).mono ?_
  rintro e W6 ⟨rfl, hb⟩
  have nA := HA.out.trans (hb.mono HA.out.size)
  have nL := HL.out.below hb lL
  have nM := HM.out.below hb lM
  clear hb hbs HA HL HM lL lM m0 m1 m2 m3 m4 m5 n0 n1 n2 n3 n4 n5
  have HA : Hid (Below w.heap.size w W6) := nA
  have HL : Hid (Lies W6 w.heap.size 36 (objC a p)) := nL
  have HM : Hid (Lies W6 (w.heap.size + 1) 36 (objC b q)) := nM
  have lL := nL.lt
  have lM := nM.lt
  have m0 := obj0 nM
  have m1 := obj1 nM
  have m2 := obj2 nM
  have m3 := obj3 nM
  have m4 := obj4 nM
  have m5 := obj5 nM
  have n0 := obj0 nL
  have n1 := obj1 nL
  have n2 := obj2 nL
  have n3 := obj3 nL
  have n4 := obj4 nL
  have n5 := obj5 nL
  clear nA nL nM
  cases bs with
  | false =>
    obtain rfl : false = r := by rw [← HR.out]; exact (sameB_no (fun h => by have := HBs0.out.2 ⟨h.2.2.ns, h.2.2.s⟩; simp at this)).symm
    go_wp2_with fail
    go_ret
    exact ⟨rfl, HA.out⟩
  | true =>
  have HBs : Hid (a.ns = b.ns ∧ ∀ i, i < a.ns → a.S i = b.S i) := HBs0.out.1 rfl
  clear HBs0
  obtain rfl : true = r := by
    rw [← HR.out]
    exact (sameB_yes ⟨HLL.out.1, HLL.out.2, ⟨HNM.out, HDP.out, HBf.out.1, HBd.out.1, HBr.out.1, HBs.out.1, HBf.out.2, HBd.out.2, HBr.out.2, HBs.out.2⟩⟩).symm
  go_wp2_with fail
  go_ret
  exact ⟨rfl, HA.out⟩

set_option maxRecDepth 100000 in
set_option maxHeartbeats 8000000 in
theorem specSame (p q : ObjPt) (a b : ObjD) (w : World) (ha : a.fits) (hb : b.fits) (wa : a.wf) (wb : b.wf) (hp : ObjAt w p a) (hq : ObjAt w q b) (r : Bool) (hr : sameB a b = r) :
    Calls Try.prog 29 #[.agg (objC a p), .agg (objC b q)] w fun e w' => e = .returned (.bool r) ∧ Below w.heap.size w w' := by
  have bA : Below w.heap.size w ((w.alloc (.cells (objC a p) 36)).alloc (.cells (objC b q) 36)) := ((Below.refl _ _).alloc (Nat.le_refl _) _).alloc (by simp) _
  have l1 := (Lies.new w (objC a p) 36).alloc (.cells (objC b q) 36)
  have l2 := Lies.newAt (w.alloc (.cells (objC a p) 36)) (objC b q) 36 (g := w.heap.size + 1) (by simp)
  have HPa : Hid (∀ W : World, Below w.heap.size w W → ObjAt W p a) := fun W h => hp.below h
  have HPb : Hid (∀ W : World, Below w.heap.size w W → ObjAt W q b) := fun W h => hq.below h
  have HR : Hid (sameB a b = r) := hr
  have HFa : Hid (a.fits ∧ a.wf) := ⟨ha, wa⟩
  have HFb : Hid (b.fits ∧ b.wf) := ⟨hb, wb⟩
  clear hp hq hr ha hb wa wb
  go_enter Try.func29, Try.ntmps29
  go_wp2_with fail
  obtain ⟨W0, hW0⟩ : ∃ V, ((w.alloc (.cells #[.string a.nm, .int .i64 a.dp, .slice p.pf a.nf p.kf, .slice p.pd a.nd p.kd, .slice p.pr a.nr p.kr, .slice p.ps a.ns p.ks] 36)).alloc (.cells #[.string b.nm, .int .i64 b.dp, .slice q.pf b.nf q.kf, .slice q.pd b.nd q.kd, .slice q.pr b.nr q.kr, .slice q.ps b.ns q.ks] 36)) = V := ⟨_, rfl⟩
  rw [hW0] at bA l1 l2 ⊢
  obtain ⟨X, hX⟩ : ∃ X, w.heap.size = X := ⟨_, rfl⟩
  obtain ⟨Y, hY⟩ : ∃ Y, w.heap.size + 1 = Y := ⟨_, rfl⟩
  rw [hX] at l1 ⊢
  rw [hY] at l2
  rw [show X + 1 = Y from by omega]
  have HA : Hid (Below w.heap.size w W0) := bA
  have HL : Hid (Lies W0 X 36 (objC a p)) := l1
  have HM : Hid (Lies W0 Y 36 (objC b q)) := l2
  have lL := l1.lt
  have lM := l2.lt
  have HXX : Hid (w.heap.size = X) := hX
  obtain ⟨oa, hoa⟩ : ∃ x, ((lintO a).2 == 0) = x := ⟨_, rfl⟩
  obtain ⟨ob, hob⟩ : ∃ x, ((lintO b).2 == 0) = x := ⟨_, rfl⟩
  have HOA : Hid (((lintO a).2 == 0) = oa) := hoa
  have HOB : Hid (((lintO b).2 == 0) = ob) := hob
  have c1 : ∀ W, Below W0.heap.size W0 W → Calls Try.prog 15 #[.agg (objC a p)] W fun e w' => e = .returned (.bool oa) ∧ Below W.heap.size W w' := fun W h => by rw [← hoa]; exact specObjectOK p a W HFa.out.1 HFa.out.2 (HPa.out W (HA.out.trans (h.mono HA.out.size)))
  have c2 : ∀ W, Below W0.heap.size W0 W → Calls Try.prog 15 #[.agg (objC b q)] W fun e w' => e = .returned (.bool ob) ∧ Below W.heap.size W w' := fun W h => by rw [← hob]; exact specObjectOK q b W HFb.out.1 HFb.out.2 (HPb.out W (HA.out.trans (h.mono HA.out.size)))
  have C1 : Hid (∀ W, Below W0.heap.size W0 W → _) := c1
  have C2 : Hid (∀ W, Below W0.heap.size W0 W → _) := c2
  have m0 := obj0 l2
  have m1 := obj1 l2
  have m2 := obj2 l2
  have m3 := obj3 l2
  have m4 := obj4 l2
  have m5 := obj5 l2
  have n0 := obj0 l1
  have n1 := obj1 l1
  have n2 := obj2 l1
  have n3 := obj3 l1
  have n4 := obj4 l1
  have n5 := obj5 l1
  clear hW0 bA l1 l2 hoa hob hX hY c1 c2
  cases oa with
  | false =>
    obtain rfl : false = r := by rw [← HR.out]; exact (sameB_no (fun h => by have := HOA.out; simp [h.1] at this)).symm
    go_region_with (first | (go_at_call 15; (with_reducible refine (C1.out _ (by first | exact bc | exact (Below.refl _ _).drew)).mono ?_); rintro e uA ⟨rfl, hbn⟩; have bc : Below W0.heap.size W0 uA := (by first | exact bc.trans (hbn.mono bc.size) | exact (Below.refl W0.heap.size W0).drew.trans hbn); have la := HL.out.below bc lL; have lb := HM.out.below bc lM; have g0 := obj0 la; have g1 := obj1 la; have g2 := obj2 la; have g3 := obj3 la; have g4 := obj4 la; have g5 := obj5 la; have h0 := obj0 lb; have h1 := obj1 lb; have h2 := obj2 lb; have h3 := obj3 lb; have h4 := obj4 lb; have h5 := obj5 lb; clear hbn C1))
    all_goals
      have HB : Hid (Below w.heap.size w uA) := HA.out.trans (bc.mono HA.out.size)
      clear bc
      go_wp2_with fail
      go_ret
      exact ⟨rfl, HB.out⟩
  | true =>
  cases ob with
  | false =>
    obtain rfl : false = r := by rw [← HR.out]; exact (sameB_no (fun h => by have := HOB.out; simp [h.2.1] at this)).symm
    go_region_with (first | (go_at_call 15; (with_reducible refine (C1.out _ (by first | exact bc | exact (Below.refl _ _).drew)).mono ?_); rintro e uA ⟨rfl, hbn⟩; have bc : Below W0.heap.size W0 uA := (by first | exact bc.trans (hbn.mono bc.size) | exact (Below.refl W0.heap.size W0).drew.trans hbn); have la := HL.out.below bc lL; have lb := HM.out.below bc lM; have g0 := obj0 la; have g1 := obj1 la; have g2 := obj2 la; have g3 := obj3 la; have g4 := obj4 la; have g5 := obj5 la; have h0 := obj0 lb; have h1 := obj1 lb; have h2 := obj2 lb; have h3 := obj3 lb; have h4 := obj4 lb; have h5 := obj5 lb; clear hbn C1) | (go_at_call 15; (with_reducible refine (C2.out _ (by first | exact bc | exact (Below.refl _ _).drew)).mono ?_); rintro e uB ⟨rfl, hbn⟩; have bc : Below W0.heap.size W0 uB := (by first | exact bc.trans (hbn.mono bc.size) | exact (Below.refl W0.heap.size W0).drew.trans hbn); have la := HL.out.below bc lL; have lb := HM.out.below bc lM; have g0 := obj0 la; have g1 := obj1 la; have g2 := obj2 la; have g3 := obj3 la; have g4 := obj4 la; have g5 := obj5 la; have h0 := obj0 lb; have h1 := obj1 lb; have h2 := obj2 lb; have h3 := obj3 lb; have h4 := obj4 lb; have h5 := obj5 lb; clear hbn C2))
    all_goals
      have HB : Hid (Below w.heap.size w uB) := HA.out.trans (bc.mono HA.out.size)
      clear bc
      go_wp2_with fail
      go_ret
      exact ⟨rfl, HB.out⟩
  | true =>
    have hla : (lintO a).2 = 0 := by have := HOA.out; simpa using this
    have hlb : (lintO b).2 = 0 := by have := HOB.out; simpa using this
    have c3 := fun W (h : Below W0.heap.size W0 W) => textO p a W (small_ok hla) (HPa.out W (HA.out.trans (h.mono HA.out.size)))
    have c4 := fun W (h : Below W0.heap.size W0 W) => textO q b W (small_ok hlb) (HPb.out W (HA.out.trans (h.mono HA.out.size)))
    have hsame : r = true ↔ (⟨(sealL (objL a)).toArray⟩ : ByteArray) = ⟨(sealL (objL b)).toArray⟩ := by
      rw [← HR.out]
      constructor
      · intro h
        have : (lintO a).2 = 0 ∧ (lintO b).2 = 0 ∧ Alike a b := by
          by_cases hc : (lintO a).2 = 0 ∧ (lintO b).2 = 0 ∧ Alike a b
          · exact hc
          · rw [sameB_no hc] at h; cases h
        rw [this.2.2.text]
      · intro h
        have e1 : sealL (objL a) = sealL (objL b) := by
          have := congrArg (fun x : ByteArray => x.data.toList) h
          simpa using this
        exact sameB_yes ⟨hla, hlb, text_alike hla hlb (seal_inj e1)⟩
    obtain ⟨ta, hta⟩ : ∃ x : ByteArray, (⟨(sealL (objL a)).toArray⟩ : ByteArray) = x := ⟨_, rfl⟩
    obtain ⟨tb, htb⟩ : ∃ x : ByteArray, (⟨(sealL (objL b)).toArray⟩ : ByteArray) = x := ⟨_, rfl⟩
    rw [hta] at c3 hsame
    rw [htb] at c4 hsame
    have C3 : Hid (∀ W, Below W0.heap.size W0 W → _) := c3
    have C4 : Hid (∀ W, Below W0.heap.size W0 W → _) := c4
    have HS : Hid (r = true ↔ ta = tb) := hsame
    clear c3 c4 hsame hta htb hla hlb
    by_cases ht : ta = tb
    · obtain rfl : r = true := HS.out.2 ht
      subst ht
      go_region_with (first | (go_at_call 15; (with_reducible refine (C1.out _ (by first | exact bc | exact (Below.refl _ _).drew)).mono ?_); rintro e uA ⟨rfl, hbn⟩; have bc : Below W0.heap.size W0 uA := (by first | exact bc.trans (hbn.mono bc.size) | exact (Below.refl W0.heap.size W0).drew.trans hbn); have la := HL.out.below bc lL; have lb := HM.out.below bc lM; have g0 := obj0 la; have g1 := obj1 la; have g2 := obj2 la; have g3 := obj3 la; have g4 := obj4 la; have g5 := obj5 la; have h0 := obj0 lb; have h1 := obj1 lb; have h2 := obj2 lb; have h3 := obj3 lb; have h4 := obj4 lb; have h5 := obj5 lb; clear hbn C1) | (go_at_call 15; (with_reducible refine (C2.out _ (by first | exact bc | exact (Below.refl _ _).drew)).mono ?_); rintro e uB ⟨rfl, hbn⟩; have bc : Below W0.heap.size W0 uB := (by first | exact bc.trans (hbn.mono bc.size) | exact (Below.refl W0.heap.size W0).drew.trans hbn); have la := HL.out.below bc lL; have lb := HM.out.below bc lM; have g0 := obj0 la; have g1 := obj1 la; have g2 := obj2 la; have g3 := obj3 la; have g4 := obj4 la; have g5 := obj5 la; have h0 := obj0 lb; have h1 := obj1 lb; have h2 := obj2 lb; have h3 := obj3 lb; have h4 := obj4 lb; have h5 := obj5 lb; clear hbn C2) | (go_at_call 50; (with_reducible refine (C3.out _ (by first | exact bc | exact (Below.refl _ _).drew)).mono ?_); rintro e uC ⟨rfl, hbn⟩; have bc : Below W0.heap.size W0 uC := (by first | exact bc.trans (hbn.mono bc.size) | exact (Below.refl W0.heap.size W0).drew.trans hbn); have la := HL.out.below bc lL; have lb := HM.out.below bc lM; have g0 := obj0 la; have g1 := obj1 la; have g2 := obj2 la; have g3 := obj3 la; have g4 := obj4 la; have g5 := obj5 la; have h0 := obj0 lb; have h1 := obj1 lb; have h2 := obj2 lb; have h3 := obj3 lb; have h4 := obj4 lb; have h5 := obj5 lb; clear hbn C3) | (go_at_call 50; (with_reducible refine (C4.out _ (by first | exact bc | exact (Below.refl _ _).drew)).mono ?_); rintro e uD ⟨rfl, hbn⟩; have bc : Below W0.heap.size W0 uD := (by first | exact bc.trans (hbn.mono bc.size) | exact (Below.refl W0.heap.size W0).drew.trans hbn); have la := HL.out.below bc lL; have lb := HM.out.below bc lM; have g0 := obj0 la; have g1 := obj1 la; have g2 := obj2 la; have g3 := obj3 la; have g4 := obj4 la; have g5 := obj5 la; have h0 := obj0 lb; have h1 := obj1 lb; have h2 := obj2 lb; have h3 := obj3 lb; have h4 := obj4 lb; have h5 := obj5 lb; clear hbn C4))
      all_goals
        have HB : Hid (Below w.heap.size w uD) := HA.out.trans (bc.mono HA.out.size)
        clear bc
        go_wp2_with fail
        go_ret
        exact ⟨rfl, HB.out⟩
    · obtain rfl : r = false := by
        cases r with
        | false => rfl
        | true => exact absurd (HS.out.1 rfl) ht
      have z : ¬ ta.toList = tb.toList := fun h => ht (toL_inj h)
      have z2 : (ta.toList == tb.toList) = false := by simpa using z
      go_region_with (first | (go_at_call 15; (with_reducible refine (C1.out _ (by first | exact bc | exact (Below.refl _ _).drew)).mono ?_); rintro e uA ⟨rfl, hbn⟩; have bc : Below W0.heap.size W0 uA := (by first | exact bc.trans (hbn.mono bc.size) | exact (Below.refl W0.heap.size W0).drew.trans hbn); have la := HL.out.below bc lL; have lb := HM.out.below bc lM; have g0 := obj0 la; have g1 := obj1 la; have g2 := obj2 la; have g3 := obj3 la; have g4 := obj4 la; have g5 := obj5 la; have h0 := obj0 lb; have h1 := obj1 lb; have h2 := obj2 lb; have h3 := obj3 lb; have h4 := obj4 lb; have h5 := obj5 lb; clear hbn C1) | (go_at_call 15; (with_reducible refine (C2.out _ (by first | exact bc | exact (Below.refl _ _).drew)).mono ?_); rintro e uB ⟨rfl, hbn⟩; have bc : Below W0.heap.size W0 uB := (by first | exact bc.trans (hbn.mono bc.size) | exact (Below.refl W0.heap.size W0).drew.trans hbn); have la := HL.out.below bc lL; have lb := HM.out.below bc lM; have g0 := obj0 la; have g1 := obj1 la; have g2 := obj2 la; have g3 := obj3 la; have g4 := obj4 la; have g5 := obj5 la; have h0 := obj0 lb; have h1 := obj1 lb; have h2 := obj2 lb; have h3 := obj3 lb; have h4 := obj4 lb; have h5 := obj5 lb; clear hbn C2) | (go_at_call 50; (with_reducible refine (C3.out _ (by first | exact bc | exact (Below.refl _ _).drew)).mono ?_); rintro e uC ⟨rfl, hbn⟩; have bc : Below W0.heap.size W0 uC := (by first | exact bc.trans (hbn.mono bc.size) | exact (Below.refl W0.heap.size W0).drew.trans hbn); have la := HL.out.below bc lL; have lb := HM.out.below bc lM; have g0 := obj0 la; have g1 := obj1 la; have g2 := obj2 la; have g3 := obj3 la; have g4 := obj4 la; have g5 := obj5 la; have h0 := obj0 lb; have h1 := obj1 lb; have h2 := obj2 lb; have h3 := obj3 lb; have h4 := obj4 lb; have h5 := obj5 lb; clear hbn C3) | (go_at_call 50; (with_reducible refine (C4.out _ (by first | exact bc | exact (Below.refl _ _).drew)).mono ?_); rintro e uD ⟨rfl, hbn⟩; have bc : Below W0.heap.size W0 uD := (by first | exact bc.trans (hbn.mono bc.size) | exact (Below.refl W0.heap.size W0).drew.trans hbn); have la := HL.out.below bc lL; have lb := HM.out.below bc lM; have g0 := obj0 la; have g1 := obj1 la; have g2 := obj2 la; have g3 := obj3 la; have g4 := obj4 la; have g5 := obj5 la; have h0 := obj0 lb; have h1 := obj1 lb; have h2 := obj2 lb; have h3 := obj3 lb; have h4 := obj4 lb; have h5 := obj5 lb; clear hbn C4))
      all_goals
        have HB : Hid (Below w.heap.size w uD) := HA.out.trans (bc.mono HA.out.size)
        clear bc
        go_wp2_with fail
        go_ret
        exact ⟨rfl, HB.out⟩
theorem sameBoth (a b : ObjD) (ha : a.fits) (hb : b.fits) (wa : a.wf) (wb : b.wf) : ∃ x : Bool,
    (∀ p q w, ObjAt w p a → ObjAt w q b → Calls Try.prog 29 #[.agg (objC a p), .agg (objC b q)] w fun e w' => e = .returned (.bool x) ∧ Below w.heap.size w w') ∧
    (∀ p q w, ObjAt w p a → ObjAt w q b → Calls Try.prog 30 #[.agg (objC a p), .agg (objC b q)] w fun e w' => e = .returned (.bool x) ∧ Below w.heap.size w w') :=
  ⟨_, fun p q w hp hq => specSame p q a b w ha hb wa wb hp hq _ rfl, fun p q w hp hq => progSame p q a b w ha hb wa wb hp hq _ rfl⟩
end Go.Proofs.Ytdcjddiigipdmaa
