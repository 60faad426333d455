/- The model's look at an object, whole. -/
import Derived.Test.YtdcjddiigipdmaaObjS3
import Derived.Test.YtdcjddiigipdmaaObjS4
import Derived.Test.YtdcjddiigipdmaaObjS5
namespace Go.Proofs.Ytdcjddiigipdmaa
open Go Go.RowKit
set_option linter.unusedVariables false

/-- Two numbers, no old block touched. -/
def TwoI (B : Nat) (x y : Int) (w : World) (e : Ending) (w' : World) : Prop := e = .returned (.tuple #[.int .i64 x, .int .i64 y]) ∧ Below B w w'
theorem pair_of {n : Nat} {f : Nat → Int} : FstIs n f (fstF n f).1 (fstF n f).2 := rfl
/-- An object whose sizes a program can hold. -/
structure ObjD.fits (o : ObjD) : Prop where
  nf : o.nf ≤ 1048576
  nd : o.nd ≤ 1048576
  nr : o.nr ≤ 1048576
  ns : o.ns ≤ 1048576

set_option maxRecDepth 100000 in
set_option maxHeartbeats 8000000 in
theorem specLintO (q : ObjPt) (o : ObjD) (w : World) (hz : o.fits) (hw : o.wf) (hp : ObjAt w q o) (rx ry : Int) (hl : lintO o = (rx, ry)) :
    Calls Try.prog 35 #[.agg (objC o q)] w fun e w' => TwoI w.heap.size rx ry w e w' := by
  have HRL : Hid (lintO o = (rx, ry)) := hl
  clear hl
  have z0 := hz.nf
  have z1 := hz.nd
  have z2 := hz.nr
  have z3 := hz.ns
  have bA := grown1' w (.cells (objC o q) 36)
  have lA := Lies.new w (objC o q) 36
  have hnm := hw.nm
  have HP : Hid (∀ W : World, Below w.heap.size w W → ObjAt W q o) := fun W h => hp.below h
  have HW : Hid o.wf := hw
  have HA : Hid (Below w.heap.size w _) := bA
  have HL : Hid (Lies _ w.heap.size 36 (objC o q)) := lA
  clear bA lA hp hw
  go_enter Try.func35, Try.ntmps35
  go_wp2_with fail
  refine (specWord_any o.nm _ hnm).mono ?_
  rintro e w2 ⟨rfl, rfl⟩
  by_cases h1 : nameB o.nm = false
  · have hr : lintO o = (0, 3) := by unfold lintO wholeO; rw [if_pos h1]; simp
    have hr2 := HRL.out
    rw [hr] at hr2
    obtain ⟨rfl, rfl⟩ : 0 = rx ∧ 3 = ry := by simpa using hr2
    clear hr hr2 HRL
    rw [h1]
    go_wp2_with fail
    go_ret2
    exact ⟨rfl, HA.out⟩
  have h1' : nameB o.nm = true := by cases e : nameB o.nm <;> simp_all
  rw [h1']
  by_cases h2 : o.dp < 0 ∨ 6 ≤ o.dp
  · have hr : lintO o = (0, 27) := by unfold lintO wholeO; rw [if_neg h1, if_pos h2]; simp
    have hr2 := HRL.out
    rw [hr] at hr2
    obtain ⟨rfl, rfl⟩ : 0 = rx ∧ 27 = ry := by simpa using hr2
    clear hr hr2 HRL
    go_wp2_with fail
    refine (spIn o.dp 0 5 _ false (.inr ⟨rfl, by omega⟩)).mono ?_
    rintro e w3 ⟨rfl, rfl⟩
    go_wp2_with fail
    go_ret2
    exact ⟨rfl, HA.out⟩
  have h2' : 0 ≤ o.dp ∧ o.dp ≤ 5 := by omega
  go_wp2_with fail
  refine (spIn o.dp 0 5 _ true (.inl ⟨rfl, h2'.1, h2'.2⟩)).mono ?_
  rintro e w3 ⟨rfl, rfl⟩
  by_cases h3 : o.nf = 0
  · have hr : lintO o = (0, 5) := by unfold lintO wholeO; rw [if_neg h1, if_neg h2, if_pos h3]; simp
    have hr2 := HRL.out
    rw [hr] at hr2
    obtain ⟨rfl, rfl⟩ : 0 = rx ∧ 5 = ry := by simpa using hr2
    clear hr hr2 HRL
    go_wp2_with fail
    go_ret2
    exact ⟨rfl, HA.out⟩
  have h3b : ((o.nf : Int) == 0) = false := by simpa using h3
  by_cases h4 : 4 < o.nf ∨ 4 < o.nd ∨ 32 < o.nr ∨ 4 < o.ns
  · have hr : lintO o = (0, 6) := by unfold lintO wholeO; rw [if_neg h1, if_neg h2, if_neg h3, if_pos h4]; simp
    have hr2 := HRL.out
    rw [hr] at hr2
    obtain ⟨rfl, rfl⟩ : 0 = rx ∧ 6 = ry := by simpa using hr2
    clear hr hr2 HRL
    have key : 4 < o.nf ∨ (o.nf ≤ 4 ∧ 4 < o.nd) ∨ (o.nf ≤ 4 ∧ o.nd ≤ 4 ∧ 32 < o.nr) ∨ (o.nf ≤ 4 ∧ o.nd ≤ 4 ∧ o.nr ≤ 32 ∧ 4 < o.ns) := by omega
    clear h4 h2 h2'
    rcases key with k | ⟨k, l⟩ | ⟨k, l, m⟩ | ⟨k, l, m, n⟩
    all_goals
      go_wp2_with fail
      go_ret2
      exact ⟨rfl, HA.out⟩
  have hwo : wholeO o = 0 := by unfold wholeO; rw [if_neg h1, if_neg h2, if_neg h3, if_neg h4]
  have HWO : Hid (wholeO o = 0) := hwo
  have k1 : o.nf ≤ 4 := by omega
  have k2 : o.nd ≤ 4 := by omega
  have k3 : o.nr ≤ 32 := by omega
  have k4 : o.ns ≤ 4 := by omega
  clear h1 h1' h2 h2' h3 h4 hwo
  go_wp2_with fail
  obtain ⟨W0, hW0⟩ : ∃ V, w.alloc (.cells #[.string o.nm, .int .i64 o.dp, .slice q.pf o.nf q.kf, .slice q.pd o.nd q.kd, .slice q.pr o.nr q.kr, .slice q.ps o.ns q.ks] 36) = V := ⟨_, rfl⟩
  rw [hW0] at HA HL ⊢
  have hlt0 := HL.out.lt
  clear hW0
  obtain ⟨x, hx⟩ : ∃ x, (fstF o.nf (fltF o)).1 = x := ⟨_, rfl⟩
  obtain ⟨y, hy⟩ : ∃ y, (fstF o.nf (fltF o)).2 = y := ⟨_, rfl⟩
  have hxy : FstIs o.nf (fltF o) x y := by rw [← hx, ← hy]; exact pair_of
  have HX : Hid (FstIs o.nf (fltF o) x y) := hxy
  clear hx hy hxy
  refine (specFuncs q o W0 (by omega) HW.out (HP.out W0 HA.out) x y HX.out).mono ?_
  rintro e W1 ⟨rfl, hb⟩
  have B := HA.out.trans (hb.mono HA.out.size)
  have Lq := HL.out.below hb hlt0
  clear HA HL hb
  have HA : Hid (Below w.heap.size w W1) := B
  have HL : Hid (Lies W1 w.heap.size 36 (objC o q)) := Lq
  have hlt1 := Lq.lt
  have i0 := obj0 Lq
  have i1 := obj1 Lq
  have i2 := obj2 Lq
  have i3 := obj3 Lq
  have i4 := obj4 Lq
  have i5 := obj5 Lq
  clear B Lq
  by_cases hy : y ≠ 0
  · have hr : lintO o = (x, y) := by
      have e := HX.out
      unfold FstIs at e
      unfold lintO
      rw [if_neg (by rw [HWO.out]; simp), e, if_pos hy]
    have hr2 := HRL.out
    rw [hr] at hr2
    obtain ⟨rfl, rfl⟩ : x = rx ∧ y = ry := by simpa using hr2
    clear hr hr2 HRL
    have hyb : (y == 0) = false := by simpa using hy
    go_wp2_with fail
    go_ret2
    exact ⟨rfl, HA.out⟩
  have hy : y = 0 := Classical.byContradiction hy
  subst hy
  have H1 : Hid ((fstF o.nf (fltF o)).2 = 0) := by
    have e := HX.out
    unfold FstIs at e
    show (fstF o.nf (fltF o)).2 = 0
    rw [e]
  clear HX
  go_wp2_with fail
  clear i0 i1 i2 i3 i4 i5
  obtain ⟨x, hx⟩ : ∃ x, (fstF o.nd (fltD o)).1 = x := ⟨_, rfl⟩
  obtain ⟨y, hy⟩ : ∃ y, (fstF o.nd (fltD o)).2 = y := ⟨_, rfl⟩
  have hxy : FstIs o.nd (fltD o) x y := by rw [← hx, ← hy]; exact pair_of
  have HX : Hid (FstIs o.nd (fltD o) x y) := hxy
  clear hx hy hxy
  refine (specDatas q o W1 (by omega) (by omega) HW.out (HP.out W1 HA.out) x y HX.out).mono ?_
  rintro e W2 ⟨rfl, hb⟩
  have B := HA.out.trans (hb.mono HA.out.size)
  have Lq := HL.out.below hb hlt1
  clear HA HL hb
  have HA : Hid (Below w.heap.size w W2) := B
  have HL : Hid (Lies W2 w.heap.size 36 (objC o q)) := Lq
  have hlt2 := Lq.lt
  have i0 := obj0 Lq
  have i1 := obj1 Lq
  have i2 := obj2 Lq
  have i3 := obj3 Lq
  have i4 := obj4 Lq
  have i5 := obj5 Lq
  clear B Lq
  by_cases hy : y ≠ 0
  · have hr : lintO o = (x, y) := by
      have e := HX.out
      unfold FstIs at e
      unfold lintO
      rw [if_neg (by rw [HWO.out]; simp), if_neg (by rw [H1.out]; simp), e, if_pos hy]
    have hr2 := HRL.out
    rw [hr] at hr2
    obtain ⟨rfl, rfl⟩ : x = rx ∧ y = ry := by simpa using hr2
    clear hr hr2 HRL
    have hyb : (y == 0) = false := by simpa using hy
    go_wp2_with fail
    go_ret2
    exact ⟨rfl, HA.out⟩
  have hy : y = 0 := Classical.byContradiction hy
  subst hy
  have H2 : Hid ((fstF o.nd (fltD o)).2 = 0) := by
    have e := HX.out
    unfold FstIs at e
    show (fstF o.nd (fltD o)).2 = 0
    rw [e]
  clear HX
  go_wp2_with fail
  clear i0 i1 i2 i3 i4 i5
  obtain ⟨x, hx⟩ : ∃ x, (fstF o.nr (fltR o)).1 = x := ⟨_, rfl⟩
  obtain ⟨y, hy⟩ : ∃ y, (fstF o.nr (fltR o)).2 = y := ⟨_, rfl⟩
  have hxy : FstIs o.nr (fltR o) x y := by rw [← hx, ← hy]; exact pair_of
  have HX : Hid (FstIs o.nr (fltR o) x y) := hxy
  clear hx hy hxy
  refine (specRelocs q o W2 (by omega) (by omega) (by omega) HW.out (HP.out W2 HA.out) x y HX.out).mono ?_
  rintro e W3 ⟨rfl, hb⟩
  have B := HA.out.trans (hb.mono HA.out.size)
  have Lq := HL.out.below hb hlt2
  clear HA HL hb
  have HA : Hid (Below w.heap.size w W3) := B
  have HL : Hid (Lies W3 w.heap.size 36 (objC o q)) := Lq
  have i0 := obj0 Lq
  have i1 := obj1 Lq
  have i2 := obj2 Lq
  have i3 := obj3 Lq
  have i4 := obj4 Lq
  have i5 := obj5 Lq
  clear B Lq
  by_cases hy : y ≠ 0
  · have hr : lintO o = (x, y) := by
      have e := HX.out
      unfold FstIs at e
      unfold lintO
      rw [if_neg (by rw [HWO.out]; simp), if_neg (by rw [H1.out]; simp), if_neg (by rw [H2.out]; simp), e, if_pos hy]
    have hr2 := HRL.out
    rw [hr] at hr2
    obtain ⟨rfl, rfl⟩ : x = rx ∧ y = ry := by simpa using hr2
    clear hr hr2 HRL
    have hyb : (y == 0) = false := by simpa using hy
    go_wp2_with fail
    go_ret2
    exact ⟨rfl, HA.out⟩
  have hy : y = 0 := Classical.byContradiction hy
  subst hy
  have H3 : Hid ((fstF o.nr (fltR o)).2 = 0) := by
    have e := HX.out
    unfold FstIs at e
    show (fstF o.nr (fltR o)).2 = 0
    rw [e]
  clear HX
  go_wp2_with fail
  clear i0 i1 i2 i3 i4 i5
  have hr : lintO o = fstF o.ns (fltS o) := by
    unfold lintO
    rw [if_neg (by rw [HWO.out]; simp), if_neg (by rw [H1.out]; simp), if_neg (by rw [H2.out]; simp), if_neg (by rw [H3.out]; simp)]
  have hr2 := HRL.out
  rw [hr] at hr2
  clear hr
  refine (specDecls q o W3 (by omega) HW.out (HP.out W3 HA.out) rx ry hr2).mono ?_
  rintro e W4 ⟨rfl, hb⟩
  have B := HA.out.trans (hb.mono HA.out.size)
  clear hb
  go_wp2_with fail
  go_ret2
  exact ⟨rfl, B⟩

theorem specLintObject (q : ObjPt) (o : ObjD) (w : World) (hz : o.fits) (hw : o.wf) (hp : ObjAt w q o) :
    Calls Try.prog 11 #[.agg (objC o q)] w fun e w' => TwoI w.heap.size (lintO o).1 (lintO o).2 w e w' := by
  have bA := grown1' w (.cells (objC o q) 36)
  have HA : Hid (Below w.heap.size w _) := bA
  have hpA := hp.below bA
  clear bA
  go_enter Try.func11, Try.ntmps11
  go_wp2_with fail
  refine (specLintO q o _ hz hw hpA (lintO o).1 (lintO o).2 rfl).mono ?_
  rintro e w2 ⟨rfl, hb⟩
  have B := HA.out.trans (hb.mono HA.out.size)
  clear hb
  go_wp2_with fail
  go_ret2
  exact ⟨rfl, B⟩
theorem specObjectOK (q : ObjPt) (o : ObjD) (w : World) (hz : o.fits) (hw : o.wf) (hp : ObjAt w q o) :
    Calls Try.prog 15 #[.agg (objC o q)] w fun e w' => e = .returned (.bool ((lintO o).2 == 0)) ∧ Below w.heap.size w w' := by
  obtain ⟨x, hx⟩ : ∃ x, (lintO o).1 = x := ⟨_, rfl⟩
  obtain ⟨y, hy⟩ : ∃ y, (lintO o).2 = y := ⟨_, rfl⟩
  have bA := grown1' w (.cells (objC o q) 36)
  have HA : Hid (Below w.heap.size w _) := bA
  have H := specLintO q o _ hz hw (hp.below bA) x y (by rw [← hx, ← hy])
  clear bA
  rw [hy]
  go_enter Try.func15, Try.ntmps15
  go_wp2_with fail
  refine H.mono ?_
  rintro e w2 ⟨rfl, hb⟩
  have B := HA.out.trans (hb.mono HA.out.size)
  clear hb
  go_wp2_with fail
  go_ret
  exact ⟨rfl, B⟩
end Go.Proofs.Ytdcjddiigipdmaa
