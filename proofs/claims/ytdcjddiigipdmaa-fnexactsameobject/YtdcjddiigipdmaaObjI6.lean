/- The program's look at an object, whole. -/
import Derived.Test.YtdcjddiigipdmaaObjI3
import Derived.Test.YtdcjddiigipdmaaObjI4
import Derived.Test.YtdcjddiigipdmaaObjI5
import Derived.Test.YtdcjddiigipdmaaObjS6
namespace Go.Proofs.Ytdcjddiigipdmaa
open Go Go.RowKit
set_option linter.unusedVariables false

set_option maxRecDepth 100000 in
set_option maxHeartbeats 4000000 in
theorem wholeI (q : ObjPt) (o : ObjD) (w : World) (hz : o.fits) (hw : o.wf) :
    Calls Try.prog 40 #[.agg (objC o q)] w fun e w' => e = .returned (.int .i64 (wholeO o)) ∧ Below w.heap.size w w' := by
  have z0 := hz.nf
  have z1 := hz.nd
  have z2 := hz.nr
  have z3 := hz.ns
  have hnm := hw.nm
  have bA := grown1' w (.cells (objC o q) 36)
  have HA : Hid (Below w.heap.size w _) := bA
  clear bA hw hz
  have hwo : wholeO o = (if nameB o.nm = false then 3 else if o.dp < 0 ∨ 6 ≤ o.dp then 27 else if o.nf = 0 then 5 else if 4 < o.nf ∨ 4 < o.nd ∨ 32 < o.nr ∨ 4 < o.ns then 6 else 0) := rfl
  have HWO : Hid (wholeO o = _) := hwo
  clear hwo
  go_enter Try.func40, Try.ntmps40
  go_wp2_with fail
  refine (implName_any o.nm _ hnm).mono ?_
  rintro e w2 ⟨rfl, rfl⟩
  by_cases h1 : nameB o.nm = false
  · have hf := HWO.out
    rw [if_pos h1] at hf
    clear HWO
    rw [h1]
    go_wp2_with fail
    go_ret
    exact ⟨by first | rfl | (rw [hf]; try rfl), HA.out⟩
  have h1' : nameB o.nm = true := by cases e : nameB o.nm <;> simp_all
  rw [h1']
  have hf1 := HWO.out
  rw [if_neg h1] at hf1
  by_cases h2 : o.dp < 0 ∨ 6 ≤ o.dp
  · rw [if_pos h2] at hf1
    have HF : Hid (wholeO o = 27) := hf1
    have key : o.dp < 0 ∨ (¬ o.dp < 0 ∧ 6 ≤ o.dp) := by omega
    clear h2 hf1 HWO
    rcases key with k | ⟨k, l⟩
    all_goals
      go_wp2_with fail
      go_ret
      exact ⟨by first | rfl | (rw [HF.out]; try rfl), HA.out⟩
  rw [if_neg h2] at hf1
  have g1 : ¬ o.dp < 0 := by omega
  have g2 : ¬ 6 ≤ o.dp := by omega
  by_cases h3 : o.nf = 0
  · rw [if_pos h3] at hf1
    have HF : Hid (wholeO o = 5) := hf1
    clear h2 hf1 HWO
    go_wp2_with fail
    go_ret
    exact ⟨by first | rfl | (rw [HF.out]; try rfl), HA.out⟩
  rw [if_neg h3] at hf1
  have h3b : ((o.nf : Int) == 0) = false := by simpa using h3
  by_cases h4 : 4 < o.nf ∨ 4 < o.nd ∨ 32 < o.nr ∨ 4 < o.ns
  · rw [if_pos h4] at hf1
    have HF : Hid (wholeO o = 6) := hf1
    have key : 4 < o.nf ∨ (o.nf ≤ 4 ∧ 4 < o.nd) ∨ (o.nf ≤ 4 ∧ o.nd ≤ 4 ∧ 32 < o.nr) ∨ (o.nf ≤ 4 ∧ o.nd ≤ 4 ∧ o.nr ≤ 32 ∧ 4 < o.ns) := by omega
    clear h4 h2 hf1 HWO
    rcases key with k | ⟨k, l⟩ | ⟨k, l, m⟩ | ⟨k, l, m, n⟩
    all_goals
      go_wp2_with fail
      go_ret
      exact ⟨by first | rfl | (rw [HF.out]; try rfl), HA.out⟩
  rw [if_neg h4] at hf1
  have HF : Hid (wholeO o = 0) := hf1
  have k1 : o.nf ≤ 4 := by omega
  have k2 : o.nd ≤ 4 := by omega
  have k3 : o.nr ≤ 32 := by omega
  have k4 : o.ns ≤ 4 := by omega
  clear h4 h2 hf1 HWO
  go_wp2_with fail
  go_ret
  exact ⟨by first | rfl | (rw [HF.out]; try rfl), HA.out⟩

set_option maxRecDepth 100000 in
set_option maxHeartbeats 8000000 in
theorem progLintO (q : ObjPt) (o : ObjD) (w : World) (hz : o.fits) (hw : o.wf) (hp : ObjAt w q o) (rx ry : Int) (hl : lintO o = (rx, ry)) :
    Calls Try.prog 13 #[.agg (objC o q)] w fun e w' => TwoI w.heap.size rx ry w e w' := by
  have HRL : Hid (lintO o = (rx, ry)) := hl
  have z0 := hz.nf
  have z1 := hz.nd
  have z2 := hz.nr
  have z3 := hz.ns
  have bA := grown1' w (.cells (objC o q) 36)
  have lA := Lies.new w (objC o q) 36
  have HP : Hid (∀ W : World, Below w.heap.size w W → ObjAt W q o) := fun W h => hp.below h
  have HW : Hid o.wf := hw
  have HZ : Hid o.fits := hz
  have HA : Hid (Below w.heap.size w _) := bA
  have HL : Hid (Lies _ w.heap.size 36 (objC o q)) := lA
  clear bA lA hp hw hl hz
  go_enter Try.func13, Try.ntmps13
  go_wp2_with fail
  obtain ⟨W0, hW0⟩ : ∃ V, w.alloc (.cells #[.string o.nm, .int .i64 o.dp, .slice q.pf o.nf q.kf, .slice q.pd o.nd q.kd, .slice q.pr o.nr q.kr, .slice q.ps o.ns q.ks] 36) = V := ⟨_, rfl⟩
  rw [hW0] at HA HL ⊢
  have hlt0 := HL.out.lt
  clear hW0
  obtain ⟨wo, hwo⟩ : ∃ v, wholeO o = v := ⟨_, rfl⟩
  have HWO : Hid (wholeO o = wo) := hwo
  have WH := wholeI q o W0 HZ.out HW.out
  rw [hwo] at WH
  clear hwo
  refine WH.mono ?_
  rintro e W1 ⟨rfl, hb⟩
  have B := HA.out.trans (hb.mono HA.out.size)
  have Lq := HL.out.below hb hlt0
  clear HA HL hb WH
  have HA : Hid (Below w.heap.size w W1) := B
  have HL : Hid (Lies W1 w.heap.size 36 (objC o q)) := Lq
  have hlt1 := Lq.lt
  have i0 := obj0 Lq
  have i1 := obj1 Lq
  have i2 := obj2 Lq
  have i3 := obj3 Lq
  have i4 := obj4 Lq
  have i5 := obj5 Lq
  clear B Lq
  by_cases hy : wo ≠ 0
  · have hr : lintO o = (0, wo) := by unfold lintO; rw [HWO.out, if_pos hy]
    have hr2 := HRL.out
    rw [hr] at hr2
    obtain ⟨rfl, rfl⟩ : 0 = rx ∧ wo = ry := by simpa using hr2
    clear hr hr2 HRL
    have hyb : (wo == 0) = false := by simpa using hy
    go_wp2_with fail
    go_ret2
    exact ⟨rfl, HA.out⟩
  have hy : wo = 0 := Classical.byContradiction hy
  subst hy
  go_wp2_with fail
  clear i0 i1 i2 i3 i4 i5
  obtain ⟨x, hx⟩ : ∃ x, (fstF o.nf (fltF o)).1 = x := ⟨_, rfl⟩
  obtain ⟨y, hy⟩ : ∃ y, (fstF o.nf (fltF o)).2 = y := ⟨_, rfl⟩
  have hxy : FstIs o.nf (fltF o) x y := by rw [← hx, ← hy]; exact pair_of
  have HX : Hid (FstIs o.nf (fltF o) x y) := hxy
  clear hx hy hxy
  refine (firstF (.agg (objC o q)) o.nf (fltF o) W1 (by omega) x y HX.out (fun i W hi h => fnI q o i W (by omega) (by omega) HW.out hi (HP.out W (HA.out.trans (h.mono HA.out.size))))).mono ?_
  rintro e W2 ⟨rfl, hb⟩
  have B := HA.out.trans (hb.mono HA.out.size)
  have Lq := HL.out.below hb hlt1
  clear HA HL hb
  have HA : Hid (Below w.heap.size w W2) := B
  have HL : Hid (Lies W2 w.heap.size 36 (objC o q)) := Lq
  have hlt2 := Lq.lt
  have i0 := obj0 Lq
  have i1 := obj1 Lq
  have i2 := obj2 Lq
  have i3 := obj3 Lq
  have i4 := obj4 Lq
  have i5 := obj5 Lq
  clear B Lq
  by_cases hy : y ≠ 0
  · have hr : lintO o = (x, y) := by
      have e := HX.out
      unfold FstIs at e
      unfold lintO
      rw [if_neg (by rw [HWO.out]; simp), e, if_pos hy]
    have hr2 := HRL.out
    rw [hr] at hr2
    obtain ⟨rfl, rfl⟩ : x = rx ∧ y = ry := by simpa using hr2
    clear hr hr2 HRL
    have hyb : (y == 0) = false := by simpa using hy
    go_wp2_with fail
    go_ret2
    exact ⟨rfl, HA.out⟩
  have hy : y = 0 := Classical.byContradiction hy
  subst hy
  have H2 : Hid ((fstF o.nf (fltF o)).2 = 0) := by
    have e := HX.out
    unfold FstIs at e
    show (fstF o.nf (fltF o)).2 = 0
    rw [e]
  clear HX
  go_wp2_with fail
  clear i0 i1 i2 i3 i4 i5
  obtain ⟨x, hx⟩ : ∃ x, (fstF o.nd (fltD o)).1 = x := ⟨_, rfl⟩
  obtain ⟨y, hy⟩ : ∃ y, (fstF o.nd (fltD o)).2 = y := ⟨_, rfl⟩
  have hxy : FstIs o.nd (fltD o) x y := by rw [← hx, ← hy]; exact pair_of
  have HX : Hid (FstIs o.nd (fltD o) x y) := hxy
  clear hx hy hxy
  refine (firstD (.agg (objC o q)) o.nd (fltD o) W2 (by omega) x y HX.out (fun i W hi h => dtI q o i W (by omega) (by omega) HW.out hi (HP.out W (HA.out.trans (h.mono HA.out.size))))).mono ?_
  rintro e W3 ⟨rfl, hb⟩
  have B := HA.out.trans (hb.mono HA.out.size)
  have Lq := HL.out.below hb hlt2
  clear HA HL hb
  have HA : Hid (Below w.heap.size w W3) := B
  have HL : Hid (Lies W3 w.heap.size 36 (objC o q)) := Lq
  have hlt3 := Lq.lt
  have i0 := obj0 Lq
  have i1 := obj1 Lq
  have i2 := obj2 Lq
  have i3 := obj3 Lq
  have i4 := obj4 Lq
  have i5 := obj5 Lq
  clear B Lq
  by_cases hy : y ≠ 0
  · have hr : lintO o = (x, y) := by
      have e := HX.out
      unfold FstIs at e
      unfold lintO
      rw [if_neg (by rw [HWO.out]; simp), if_neg (by rw [H2.out]; simp), e, if_pos hy]
    have hr2 := HRL.out
    rw [hr] at hr2
    obtain ⟨rfl, rfl⟩ : x = rx ∧ y = ry := by simpa using hr2
    clear hr hr2 HRL
    have hyb : (y == 0) = false := by simpa using hy
    go_wp2_with fail
    go_ret2
    exact ⟨rfl, HA.out⟩
  have hy : y = 0 := Classical.byContradiction hy
  subst hy
  have H3 : Hid ((fstF o.nd (fltD o)).2 = 0) := by
    have e := HX.out
    unfold FstIs at e
    show (fstF o.nd (fltD o)).2 = 0
    rw [e]
  clear HX
  go_wp2_with fail
  clear i0 i1 i2 i3 i4 i5
  obtain ⟨x, hx⟩ : ∃ x, (fstF o.nr (fltR o)).1 = x := ⟨_, rfl⟩
  obtain ⟨y, hy⟩ : ∃ y, (fstF o.nr (fltR o)).2 = y := ⟨_, rfl⟩
  have hxy : FstIs o.nr (fltR o) x y := by rw [← hx, ← hy]; exact pair_of
  have HX : Hid (FstIs o.nr (fltR o) x y) := hxy
  clear hx hy hxy
  refine (firstR (.agg (objC o q)) o.nr (fltR o) W3 (by omega) x y HX.out (fun i W hi h => rlI q o i W (by omega) (by omega) (by omega) HW.out hi (HP.out W (HA.out.trans (h.mono HA.out.size))))).mono ?_
  rintro e W4 ⟨rfl, hb⟩
  have B := HA.out.trans (hb.mono HA.out.size)
  have Lq := HL.out.below hb hlt3
  clear HA HL hb
  have HA : Hid (Below w.heap.size w W4) := B
  have HL : Hid (Lies W4 w.heap.size 36 (objC o q)) := Lq
  have hlt4 := Lq.lt
  have i0 := obj0 Lq
  have i1 := obj1 Lq
  have i2 := obj2 Lq
  have i3 := obj3 Lq
  have i4 := obj4 Lq
  have i5 := obj5 Lq
  clear B Lq
  by_cases hy : y ≠ 0
  · have hr : lintO o = (x, y) := by
      have e := HX.out
      unfold FstIs at e
      unfold lintO
      rw [if_neg (by rw [HWO.out]; simp), if_neg (by rw [H2.out]; simp), if_neg (by rw [H3.out]; simp), e, if_pos hy]
    have hr2 := HRL.out
    rw [hr] at hr2
    obtain ⟨rfl, rfl⟩ : x = rx ∧ y = ry := by simpa using hr2
    clear hr hr2 HRL
    have hyb : (y == 0) = false := by simpa using hy
    go_wp2_with fail
    go_ret2
    exact ⟨rfl, HA.out⟩
  have hy : y = 0 := Classical.byContradiction hy
  subst hy
  have H4 : Hid ((fstF o.nr (fltR o)).2 = 0) := by
    have e := HX.out
    unfold FstIs at e
    show (fstF o.nr (fltR o)).2 = 0
    rw [e]
  clear HX
  go_wp2_with fail
  clear i0 i1 i2 i3 i4 i5
  have hr : lintO o = fstF o.ns (fltS o) := by
    unfold lintO
    rw [if_neg (by rw [HWO.out]; simp), if_neg (by rw [H2.out]; simp), if_neg (by rw [H3.out]; simp), if_neg (by rw [H4.out]; simp)]
  have hr2 := HRL.out
  rw [hr] at hr2
  clear hr
  refine (firstS (.agg (objC o q)) o.ns (fltS o) W4 (by omega) rx ry hr2 (fun i W hi h => shI q o i W (by omega) hi (HP.out W (HA.out.trans (h.mono HA.out.size))))).mono ?_
  rintro e W5 ⟨rfl, hb⟩
  have B := HA.out.trans (hb.mono HA.out.size)
  clear hb
  go_wp2_with fail
  go_ret2
  exact ⟨rfl, B⟩

theorem progObjectOK (q : ObjPt) (o : ObjD) (w : World) (hz : o.fits) (hw : o.wf) (hp : ObjAt w q o) :
    Calls Try.prog 16 #[.agg (objC o q)] w fun e w' => e = .returned (.bool ((lintO o).2 == 0)) ∧ Below w.heap.size w w' := by
  obtain ⟨x, hx⟩ : ∃ x, (lintO o).1 = x := ⟨_, rfl⟩
  obtain ⟨y, hy⟩ : ∃ y, (lintO o).2 = y := ⟨_, rfl⟩
  have bA := grown1' w (.cells (objC o q) 36)
  have HA : Hid (Below w.heap.size w _) := bA
  have H := progLintO q o _ hz hw (hp.below bA) x y (by rw [← hx, ← hy])
  rw [hy]
  clear bA
  go_enter Try.func16, Try.ntmps16
  go_wp2_with fail
  refine H.mono ?_
  rintro e w2 ⟨rfl, hb⟩
  have B := HA.out.trans (hb.mono HA.out.size)
  clear hb
  go_wp2_with fail
  go_ret
  exact ⟨rfl, B⟩
end Go.Proofs.Ytdcjddiigipdmaa
