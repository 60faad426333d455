/- Objects: model and program answer the same. -/
import Derived.Test.YtdcjddiigipdmaaObjI6
namespace Go.Proofs.Ytdcjddiigipdmaa
open Go Go.RowKit
set_option linter.unusedVariables false

theorem lintBothO (o : ObjD) (hz : o.fits) (hw : o.wf) : ∃ x y : Int,
    (∀ q w, ObjAt w q o → Calls Try.prog 11 #[.agg (objC o q)] w fun e w' => TwoI w.heap.size x y w e w') ∧
    (∀ q w, ObjAt w q o → Calls Try.prog 13 #[.agg (objC o q)] w fun e w' => TwoI w.heap.size x y w e w') :=
  ⟨(lintO o).1, (lintO o).2, fun q w hp => specLintObject q o w hz hw hp, fun q w hp => progLintO q o w hz hw hp _ _ rfl⟩
theorem okBothO (o : ObjD) (hz : o.fits) (hw : o.wf) : ∃ x : Bool,
    (∀ q w, ObjAt w q o → Calls Try.prog 15 #[.agg (objC o q)] w fun e w' => e = .returned (.bool x) ∧ Below w.heap.size w w') ∧
    (∀ q w, ObjAt w q o → Calls Try.prog 16 #[.agg (objC o q)] w fun e w' => e = .returned (.bool x) ∧ Below w.heap.size w w') :=
  ⟨_, fun q w hp => specObjectOK q o w hz hw hp, fun q w hp => progObjectOK q o w hz hw hp⟩

/-- An object that is right. -/
theorem lintO_ok {o : ObjD} (h : (lintO o).2 = 0) : wholeO o = 0 ∧ (∀ i, i < o.nf → fltF o i = 0) ∧ (∀ i, i < o.nd → fltD o i = 0) ∧ (∀ i, i < o.nr → fltR o i = 0) ∧ (∀ i, i < o.ns → fltS o i = 0) := by
  unfold lintO at h
  split at h
  · rename_i h1; exact absurd h h1
  rename_i h1
  split at h
  · rename_i h2; exact absurd h h2
  rename_i h2
  split at h
  · rename_i h3; exact absurd h h3
  rename_i h3
  split at h
  · rename_i h4; exact absurd h h4
  rename_i h4
  have e (a : Int) (h : ¬ a ≠ 0) : a = 0 := Classical.byContradiction h
  exact ⟨e _ h1, fstF_zero (e _ h2), fstF_zero (e _ h3), fstF_zero (e _ h4), fstF_zero h⟩
theorem fltF_ok {o : ObjD} {i : Nat} (h : fltF o i = 0) : nameB (o.F i).nm = true ∧ takenB o i = false ∧ frB (o.F i).fr = true ∧ codeB (o.F i).cd.size = true := by
  unfold fltF at h
  split at h
  · omega
  rename_i h1
  split at h
  · omega
  rename_i h2
  split at h
  · omega
  rename_i h3
  split at h
  · omega
  rename_i h4
  refine ⟨by cases e : nameB (o.F i).nm <;> simp_all, by cases e : takenB o i <;> simp_all, by cases e : frB (o.F i).fr <;> simp_all, by cases e : codeB (o.F i).cd.size <;> simp_all⟩
theorem fltD_ok {o : ObjD} {i : Nat} (h : fltD o i = 0) : nameB (o.D i).nm = true ∧ takenB o (o.nf + i) = false ∧ datumB (o.D i).bs.size = true := by
  unfold fltD at h
  split at h
  · omega
  rename_i h1
  split at h
  · omega
  rename_i h2
  split at h
  · omega
  rename_i h4
  refine ⟨by cases e : nameB (o.D i).nm <;> simp_all, by cases e : takenB o (o.nf + i) <;> simp_all, by cases e : datumB (o.D i).bs.size <;> simp_all⟩
theorem codeB_iff {n : Nat} : codeB n = true ↔ n % 4 = 0 ∧ 20 ≤ n ∧ n ≤ 256 := by unfold codeB; rw [decide_eq_true_iff]
theorem datumB_iff {n : Nat} : datumB n = true ↔ n % 8 = 0 ∧ 8 ≤ n ∧ n ≤ 64 := by unfold datumB; rw [decide_eq_true_iff]
/-- Each unit of an object that is right has places. -/
theorem unit_pos {o : ObjD} {u : Int} (h : (lintO o).2 = 0) (hu : ¬ (u < 0 ∨ (o.nf + o.nd : Nat) ≤ u)) : 0 < unitN o u := by
  obtain ⟨_, hF, hD, _, _⟩ := lintO_ok h
  unfold unitN
  rw [if_neg hu]
  split
  · have := (fltF_ok (hF u.toNat (by omega))).2.2.2
    rw [codeB_iff] at this
    omega
  · have := (fltD_ok (hD (u.toNat - o.nf) (by omega))).2.2
    rw [datumB_iff] at this
    omega
/-- What UnitSize answers. -/
def usO (o : ObjD) (u : Int) : Int × Int := if (lintO o).2 ≠ 0 then (0, 1) else if u < 0 ∨ (o.nf + o.nd : Nat) ≤ u then (0, 4) else (unitN o u, 0)

theorem specUnitSize (q : ObjPt) (o : ObjD) (u : Int) (w : World) (hz : o.fits) (hw : o.wf) (hu : (Lit.int .i64 u).wf = true) (hp : ObjAt w q o) (x y : Int) (hl : usO o u = (x, y)) :
    Calls Try.prog 19 #[.agg (objC o q), .int .i64 u] w fun e w' => TwoI w.heap.size x y w e w' := by
  have z0 := hz.nf
  have z1 := hz.nd
  have bA := grown1' w (.cells (objC o q) 36)
  have lA := Lies.new w (objC o q) 36
  have hpA := hp.below bA
  have HA : Hid (Below w.heap.size w _) := bA
  have HL : Hid (Lies _ w.heap.size 36 (objC o q)) := lA
  have OK := specObjectOK q o _ hz hw hpA
  have HU : Hid ((Lit.int .i64 u).wf = true) := hu
  have HW : Hid o.wf := hw
  have HPA : Hid (ObjAt _ q o) := hpA
  obtain ⟨ok, hok⟩ : ∃ b, ((lintO o).2 == 0) = b := ⟨_, rfl⟩
  rw [hok] at OK
  have HOK : Hid (_ = ok) := hok
  have HUS : Hid (usO o u = (x, y)) := hl
  have hlt := lA.lt
  clear bA lA hp hpA hu hw hok hl
  go_enter Try.func19, Try.ntmps19
  go_wp2_with fail
  refine OK.mono ?_
  rintro e w1 ⟨rfl, hb⟩
  have B := HA.out.trans (hb.mono HA.out.size)
  have L := HL.out.below hb hlt
  have hO := HPA.out.below hb
  clear OK hb HA HL HPA
  have HA : Hid (Below w.heap.size w w1) := B
  have HO : Hid (ObjAt w1 q o) := hO
  have i0 := obj0 L
  have i1 := obj1 L
  have i2 := obj2 L
  have i3 := obj3 L
  have i4 := obj4 L
  have i5 := obj5 L
  clear B L hO
  have e := HUS.out
  unfold usO at e
  cases ok with
  | false =>
    rw [if_pos (by have := HOK.out; simpa using this)] at e
    obtain ⟨rfl, rfl⟩ : 0 = x ∧ 1 = y := by simpa using e
    clear e HUS
    go_wp2_with fail
    go_ret2
    exact ⟨rfl, HA.out⟩
  | true =>
    rw [if_neg (by have := HOK.out; simpa using this)] at e
    obtain ⟨us, hus⟩ : ∃ s, unitS o u = s := ⟨_, rfl⟩
    have US := unitSpec q o u w1 HU.out (by omega) (by omega) HW.out HO.out
    rw [hus] at US
    by_cases hno : u < 0 ∨ (o.nf + o.nd : Nat) ≤ u
    · rw [if_pos hno] at e
      obtain ⟨rfl, rfl⟩ : 0 = x ∧ 4 = y := by simpa using e
      have : us = -1 := by rw [← hus]; exact unitS_no hno
      subst this
      clear e HUS hno hus
      go_wp2_with fail
      refine US.mono ?_
      rintro e w2 ⟨rfl, hb⟩
      have B := HA.out.trans (hb.mono HA.out.size)
      clear US hb
      go_wp2_with fail
      go_ret2
      exact ⟨rfl, B⟩
    · rw [if_neg hno] at e
      have hp := unit_pos (u := u) (by have := HOK.out; simpa using this) hno
      have hun : us = unitN o u := by rw [← hus]; unfold unitS; rw [if_neg hno]
      rw [← hun] at e hp
      obtain ⟨rfl, rfl⟩ : us = x ∧ 0 = y := by simpa using e
      have hneg : ¬ us < 0 := by omega
      clear e HUS hno hus hun
      go_wp2_with fail
      refine US.mono ?_
      rintro e w2 ⟨rfl, hb⟩
      have B := HA.out.trans (hb.mono HA.out.size)
      clear US hb
      go_wp2_with fail
      go_ret2
      exact ⟨rfl, B⟩

theorem progUnitSize (q : ObjPt) (o : ObjD) (u : Int) (w : World) (hz : o.fits) (hw : o.wf) (hu : (Lit.int .i64 u).wf = true) (hp : ObjAt w q o) (x y : Int) (hl : usO o u = (x, y)) :
    Calls Try.prog 20 #[.agg (objC o q), .int .i64 u] w fun e w' => TwoI w.heap.size x y w e w' := by
  have z0 := hz.nf
  have z1 := hz.nd
  have bA := grown1' w (.cells (objC o q) 36)
  have lA := Lies.new w (objC o q) 36
  have hpA := hp.below bA
  have HA : Hid (Below w.heap.size w _) := bA
  have HL : Hid (Lies _ w.heap.size 36 (objC o q)) := lA
  have OK := progObjectOK q o _ hz hw hpA
  have HU : Hid ((Lit.int .i64 u).wf = true) := hu
  have HW : Hid o.wf := hw
  have HPA : Hid (ObjAt _ q o) := hpA
  obtain ⟨ok, hok⟩ : ∃ b, ((lintO o).2 == 0) = b := ⟨_, rfl⟩
  rw [hok] at OK
  have HOK : Hid (_ = ok) := hok
  have HUS : Hid (usO o u = (x, y)) := hl
  have hlt := lA.lt
  clear bA lA hp hpA hu hw hok hl
  go_enter Try.func20, Try.ntmps20
  go_wp2_with fail
  refine OK.mono ?_
  rintro e w1 ⟨rfl, hb⟩
  have B := HA.out.trans (hb.mono HA.out.size)
  have L := HL.out.below hb hlt
  have hO := HPA.out.below hb
  clear OK hb HA HL HPA
  have HA : Hid (Below w.heap.size w w1) := B
  have HO : Hid (ObjAt w1 q o) := hO
  have i0 := obj0 L
  have i1 := obj1 L
  have i2 := obj2 L
  have i3 := obj3 L
  have i4 := obj4 L
  have i5 := obj5 L
  clear B L hO
  have e := HUS.out
  unfold usO at e
  cases ok with
  | false =>
    rw [if_pos (by have := HOK.out; simpa using this)] at e
    obtain ⟨rfl, rfl⟩ : 0 = x ∧ 1 = y := by simpa using e
    clear e HUS
    go_wp2_with fail
    go_ret2
    exact ⟨rfl, HA.out⟩
  | true =>
    rw [if_neg (by have := HOK.out; simpa using this)] at e
    obtain ⟨us, hus⟩ : ∃ s, unitN o u = s := ⟨_, rfl⟩
    have US := placesI q o u w1 HU.out (by omega) (by omega) HW.out HO.out
    rw [hus] at US
    by_cases hno : u < 0 ∨ (o.nf + o.nd : Nat) ≤ u
    · rw [if_pos hno] at e
      obtain ⟨rfl, rfl⟩ : 0 = x ∧ 4 = y := by simpa using e
      have : us = 0 := by rw [← hus]; exact unitN_no hno
      subst this
      clear e HUS hno hus
      go_wp2_with fail
      refine US.mono ?_
      rintro e w2 ⟨rfl, hb⟩
      have B := HA.out.trans (hb.mono HA.out.size)
      clear US hb
      go_wp2_with (go_at_call 56; refine (unlessI _ 4 _).mono ?_; rintro e w' ⟨rfl, rfl⟩)
      go_ret2
      exact ⟨rfl, B⟩
    · rw [if_neg hno] at e
      have hp := unit_pos (u := u) (by have := HOK.out; simpa using this) hno
      rw [hus] at e hp
      obtain ⟨rfl, rfl⟩ : us = x ∧ 0 = y := by simpa using e
      have hpb : decide (us > 0) = true := by simpa using hp
      clear e HUS hno hus
      go_wp2_with fail
      refine US.mono ?_
      rintro e w2 ⟨rfl, hb⟩
      have B := HA.out.trans (hb.mono HA.out.size)
      clear US hb
      go_wp2_with (go_at_call 56; refine (unlessI _ 4 _).mono ?_; rintro e w' ⟨rfl, rfl⟩)
      go_ret2
      exact ⟨rfl, B⟩
theorem unitBothO (o : ObjD) (u : Int) (hz : o.fits) (hw : o.wf) (hu : (Lit.int .i64 u).wf = true) : ∃ x y : Int,
    (∀ q w, ObjAt w q o → Calls Try.prog 19 #[.agg (objC o q), .int .i64 u] w fun e w' => TwoI w.heap.size x y w e w') ∧
    (∀ q w, ObjAt w q o → Calls Try.prog 20 #[.agg (objC o q), .int .i64 u] w fun e w' => TwoI w.heap.size x y w e w') :=
  ⟨(usO o u).1, (usO o u).2, fun q w hp => specUnitSize q o u w hz hw hu hp _ _ rfl, fun q w hp => progUnitSize q o u w hz hw hu hp _ _ rfl⟩
end Go.Proofs.Ytdcjddiigipdmaa
