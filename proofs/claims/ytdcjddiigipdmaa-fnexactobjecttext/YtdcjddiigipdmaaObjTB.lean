/- An object's text: both answer the same. -/
import Derived.Test.YtdcjddiigipdmaaObjTW
import Derived.Test.YtdcjddiigipdmaaObjTS
namespace Go.Proofs.Ytdcjddiigipdmaa
open Go Go.RowKit
set_option linter.unusedVariables false

set_option maxRecDepth 100000 in
set_option maxHeartbeats 2000000 in
theorem specTextO (q : ObjPt) (o : ObjD) (w : World) (hz : o.fits) (hw : o.wf) (hp : ObjAt w q o) (x : ByteArray) (y : Int) (hl : otO o = (x, y)) :
    Calls Try.prog 17 #[.agg (objC o q)] w fun e w' => TxtO w.heap.size x y w e w' := by
  have bA := grown1' w (.cells (objC o q) 36)
  have lA := Lies.new w (objC o q) 36
  have hpA := hp.below bA
  have HA : Hid (Below w.heap.size w _) := bA
  have HL : Hid (Lies _ w.heap.size 36 (objC o q)) := lA
  have OK := specObjectOK q o _ hz hw hpA
  have HPA : Hid (ObjAt _ q o) := hpA
  obtain ⟨ok, hok⟩ : ∃ b, ((lintO o).2 == 0) = b := ⟨_, rfl⟩
  rw [hok] at OK
  have HOK : Hid (_ = ok) := hok
  have HUS : Hid (otO o = (x, y)) := hl
  have hlt := lA.lt
  clear bA lA hp hpA hok hl
  go_enter Try.func17, Try.ntmps17
  go_wp2_with fail
  refine OK.mono ?_
  rintro e w1 ⟨rfl, hb⟩
  have B := HA.out.trans (hb.mono HA.out.size)
  have Lq := HL.out.below hb hlt
  have hO := HPA.out.below hb
  clear OK hb HA HL HPA
  have HA : Hid (Below w.heap.size w w1) := B
  have HO : Hid (ObjAt w1 q o) := hO
  have i0 := obj0 Lq
  have i1 := obj1 Lq
  have i2 := obj2 Lq
  have i3 := obj3 Lq
  have i4 := obj4 Lq
  have i5 := obj5 Lq
  clear B Lq hO
  have e := HUS.out
  unfold otO at e
  cases ok with
  | false =>
    rw [if_pos (by have := HOK.out; simpa using this)] at e
    obtain ⟨rfl, rfl⟩ : (⟨#[]⟩ : ByteArray) = x ∧ 1 = y := by simpa using e
    clear e HUS
    go_wp2_with fail
    go_ret2
    exact ⟨rfl, HA.out⟩
  | true =>
    have hok2 : (lintO o).2 = 0 := by have := HOK.out; simpa using this
    rw [if_neg (by simpa using hok2)] at e
    obtain ⟨hX, rfl⟩ : (⟨(sealL (objL o)).toArray⟩ : ByteArray) = x ∧ 0 = y := by simpa using e
    have T := textO q o w1 (small_ok hok2) HO.out
    rw [hX] at T
    have HT : Hid (Calls _ _ _ _ _) := T
    clear e HUS hok2 hX T
    go_wp2_with fail
    refine HT.out.mono ?_
    rintro e w2 ⟨rfl, hb⟩
    have B := HA.out.trans (hb.mono HA.out.size)
    clear hb HT
    go_wp2_with fail
    go_ret2
    exact ⟨rfl, B⟩
theorem textBothO (o : ObjD) (hz : o.fits) (hw : o.wf) : ∃ (x : ByteArray) (y : Int),
    (∀ q w, ObjAt w q o → Calls Try.prog 17 #[.agg (objC o q)] w fun e w' => TxtO w.heap.size x y w e w') ∧
    (∀ q w, ObjAt w q o → Calls Try.prog 18 #[.agg (objC o q)] w fun e w' => TxtO w.heap.size x y w e w') :=
  ⟨_, _, fun q w hp => specTextO q o w hz hw hp _ _ rfl, fun q w hp => progTextO q o w hz hw hp _ _ rfl⟩
end Go.Proofs.Ytdcjddiigipdmaa
