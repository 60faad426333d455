/- The program's look at objects: functions, data. -/
import Derived.Test.YtdcjddiigipdmaaObjI2
import Derived.Test.YtdcjddiigipdmaaObjS2
import Derived.Test.YtdcjddiigipdmaaObjS3
namespace Go.Proofs.Ytdcjddiigipdmaa
open Go Go.RowKit
set_option linter.unusedVariables false

set_option maxRecDepth 100000 in
set_option maxHeartbeats 4000000 in
theorem fnI (q : ObjPt) (o : ObjD) (n : Nat) (w : World) (hf : o.nf ≤ 2000000) (hd : o.nd ≤ 2000000) (hw : o.wf) (hn : n < o.nf) (hp : ObjAt w q o) :
    Calls Try.prog 42 #[.agg (objC o q), .int .i64 n] w fun e w' => e = .returned (.int .i64 (fltF o n)) ∧ Below w.heap.size w w' := by
  obtain ⟨pf, cf, pd, cd, pr, cr, ps, cs⟩ := q
  have HP : Hid (∀ W : World, Below w.heap.size w W → ObjAt W ⟨pf, cf, pd, cd, pr, cr, ps, cs⟩ o) := fun W h => hp.below h
  have bA := grown1' w (.cells (objC o ⟨pf, cf, pd, cd, pr, cr, ps, cs⟩) 36)
  have lA := Lies.new w (objC o ⟨pf, cf, pd, cd, pr, cr, ps, cs⟩) 36
  have hpA := hp.below bA
  obtain ⟨w0, w2, w3⟩ := hw.f n hn
  rcases hpA.f with h | ⟨b, oo, hpf, hb, hv⟩
  · omega
  have hpf' : pf = some (⟨b, oo, none⟩ : Addr) := hpf
  clear hpf
  subst hpf'
  obtain ⟨x0, x1, x2, x3⟩ := hv.fun hn
  obtain ⟨nm, e0⟩ : ∃ s, (o.F n).nm = s := ⟨_, rfl⟩
  obtain ⟨rp, e1⟩ : ∃ s, (o.F n).rp = s := ⟨_, rfl⟩
  obtain ⟨fr, e2⟩ : ∃ s, (o.F n).fr = s := ⟨_, rfl⟩
  obtain ⟨cod, e3⟩ : ∃ s, (o.F n).cd = s := ⟨_, rfl⟩
  rw [e0] at x0 w0
  rw [e1] at x1
  rw [e2] at x2 w2
  rw [e3] at x3 w3
  have E0 : Hid (_ = nm) := e0
  have E2 : Hid (_ = fr) := e2
  have E3 : Hid (_ = cod) := e3
  have HB0 : Hid (Below w.heap.size w ((w.alloc (.cells (objC o ⟨some ⟨b, oo, none⟩, cf, pd, cd, pr, cr, ps, cs⟩) 36)).alloc (.cells #[.string nm, .bool rp, .int .i64 fr, .string cod] 85))) := bA.alloc (by simp) _
  have HL0 : Hid (Lies _ w.heap.size 36 (objC o ⟨some ⟨b, oo, none⟩, cf, pd, cd, pr, cr, ps, cs⟩)) := lA.alloc (.cells #[.string nm, .bool rp, .int .i64 fr, .string cod] 85)
  have HX0 : Hid (Lies _ (w.heap.size + 1) 85 #[.string nm, .bool rp, .int .i64 fr, .string cod]) := Lies.newAt (w.alloc (.cells (objC o ⟨some ⟨b, oo, none⟩, cf, pd, cd, pr, cr, ps, cs⟩) 36)) #[.string nm, .bool rp, .int .i64 fr, .string cod] 85 (g := w.heap.size + 1) (by simp)
  clear e0 e1 e2 e3 hpA hv hp bA lA hw
  go_enter Try.func42, Try.ntmps42
  go_wp2_with fail
  refine (implName_any nm _ w0).mono ?_
  rintro e w2' ⟨rfl, rfl⟩
  by_cases hname : nameB nm = false
  · have hr := fltF_nm (o := o) (i := n) (by rw [E0.out]; exact hname)
    rw [hname]
    go_wp2_with fail
    go_ret
    exact ⟨by rw [hr]; try rfl, HB0.out⟩
  have hname' : nameB nm = true := by cases e : nameB nm <;> simp_all
  rw [hname']
  clear hname
  go_wp2_with fail
  clear x0 x1 x2 x3
  obtain ⟨W1, hW1⟩ : ∃ W, ((w.alloc (.cells #[.string o.nm, .int .i64 o.dp, .slice (some ⟨b, oo, none⟩) o.nf cf, .slice pd o.nd cd, .slice pr o.nr cr, .slice ps o.ns cs] 36)).alloc (.cells #[.string nm, .bool rp, .int .i64 fr, .string cod] 85)) = W := ⟨_, rfl⟩
  rw [hW1] at HB0 HL0 HX0 ⊢
  have hl0 := HL0.out.lt
  have hx0 := HX0.out.lt
  clear hW1 hb
  refine (takenI ⟨some ⟨b, oo, none⟩, cf, pd, cd, pr, cr, ps, cs⟩ o n W1 hf (by omega) hd (HP.out W1 HB0.out)).mono ?_
  rintro e W2 ⟨rfl, hb2⟩
  have HB : Hid (Below w.heap.size w W2) := HB0.out.trans (hb2.mono HB0.out.size)
  have lX := HX0.out.below hb2 hx0
  have y2 := lX.cell (j := 2) rfl
  have y3 := lX.cell (j := 3) rfl
  clear hb2 lX HB0 HL0 HX0 HP
  by_cases hcl : takenB o n = true
  · have hr := fltF_cl (o := o) (i := n) (by rw [E0.out]; exact hname') hcl
    rw [hcl]
    go_wp2_with fail
    go_ret
    exact ⟨by rw [hr]; try rfl, HB.out⟩
  have hcl' : takenB o n = false := by cases e : takenB o n <;> simp_all
  rw [hcl']
  clear hcl
  go_wp2_with fail
  refine (frImpl fr _ w2).mono ?_
  rintro e w2' ⟨rfl, rfl⟩
  by_cases hfr : frB fr = false
  · have hr := fltF_fr (o := o) (i := n) (by rw [E0.out]; exact hname') hcl' (by rw [E2.out]; exact hfr)
    rw [hfr]
    go_wp2_with fail
    go_ret
    exact ⟨by rw [hr]; try rfl, HB.out⟩
  have hfr' : frB fr = true := by cases e : frB fr <;> simp_all
  rw [hfr']
  clear hfr
  have hr := fltF_cd (o := o) (i := n) (by rw [E0.out]; exact hname') hcl' (by rw [E2.out]; exact hfr')
  rw [E3.out] at hr
  have HR : Hid (fltF o n = _) := hr
  clear hr
  have hlen := fun W => lenI cod.size W w3
  have HLN : Hid (∀ W : World, _) := hlen
  clear hlen
  obtain ⟨cb, hcb⟩ : ∃ cb, codeB cod.size = cb := ⟨_, rfl⟩
  rw [hcb] at HLN HR
  cases cb with
  | true =>
    go_wp2_with fail
    refine (HLN.out _).mono ?_
    rintro e w2' ⟨rfl, rfl⟩
    go_wp2_with fail
    refine (unlessI true 8 _).mono ?_
    rintro e w2' ⟨rfl, rfl⟩
    go_wp2_with fail
    go_ret
    exact ⟨by rw [HR.out]; rfl, HB.out⟩
  | false =>
    go_wp2_with fail
    refine (HLN.out _).mono ?_
    rintro e w2' ⟨rfl, rfl⟩
    go_wp2_with fail
    refine (unlessI false 8 _).mono ?_
    rintro e w2' ⟨rfl, rfl⟩
    go_wp2_with fail
    go_ret
    exact ⟨by rw [HR.out]; rfl, HB.out⟩

set_option maxRecDepth 100000 in
set_option maxHeartbeats 4000000 in
theorem dtI (q : ObjPt) (o : ObjD) (n : Nat) (w : World) (hf : o.nf ≤ 2000000) (hd : o.nd ≤ 2000000) (hw : o.wf) (hn : n < o.nd) (hp : ObjAt w q o) :
    Calls Try.prog 43 #[.agg (objC o q), .int .i64 n] w fun e w' => e = .returned (.int .i64 (fltD o n)) ∧ Below w.heap.size w w' := by
  obtain ⟨pf, cf, pd, cd, pr, cr, ps, cs⟩ := q
  have HP : Hid (∀ W : World, Below w.heap.size w W → ObjAt W ⟨pf, cf, pd, cd, pr, cr, ps, cs⟩ o) := fun W h => hp.below h
  have bA := grown1' w (.cells (objC o ⟨pf, cf, pd, cd, pr, cr, ps, cs⟩) 36)
  have lA := Lies.new w (objC o ⟨pf, cf, pd, cd, pr, cr, ps, cs⟩) 36
  have hpA := hp.below bA
  obtain ⟨w0, w3⟩ := hw.d n hn
  rcases hpA.d with h | ⟨b, oo, hpf, hb, hv⟩
  · omega
  have hpf' : pd = some (⟨b, oo, none⟩ : Addr) := hpf
  clear hpf
  subst hpf'
  obtain ⟨x0, x1⟩ := hv.dat hn
  obtain ⟨nm, e0⟩ : ∃ s, (o.D n).nm = s := ⟨_, rfl⟩
  obtain ⟨bs, e1⟩ : ∃ s, (o.D n).bs = s := ⟨_, rfl⟩
  rw [e0] at x0 w0
  rw [e1] at x1 w3
  have E0 : Hid (_ = nm) := e0
  have E1 : Hid (_ = bs) := e1
  have HB0 : Hid (Below w.heap.size w ((w.alloc (.cells (objC o ⟨pf, cf, some ⟨b, oo, none⟩, cd, pr, cr, ps, cs⟩) 36)).alloc (.cells #[.string nm, .string bs] 87))) := bA.alloc (by simp) _
  have HL0 : Hid (Lies _ w.heap.size 36 (objC o ⟨pf, cf, some ⟨b, oo, none⟩, cd, pr, cr, ps, cs⟩)) := lA.alloc (.cells #[.string nm, .string bs] 87)
  have HX0 : Hid (Lies _ (w.heap.size + 1) 87 #[.string nm, .string bs]) := Lies.newAt (w.alloc (.cells (objC o ⟨pf, cf, some ⟨b, oo, none⟩, cd, pr, cr, ps, cs⟩) 36)) #[.string nm, .string bs] 87 (g := w.heap.size + 1) (by simp)
  have hsum : IntKind.i64.wrap ((o.nf : Int) + n) = (o.nf : Int) + n := by rw [IntKind.wrap_i64]; omega
  clear e0 e1 hpA hv hp bA lA hw
  go_enter Try.func43, Try.ntmps43
  go_wp2_with fail
  refine (implName_any nm _ w0).mono ?_
  rintro e w2' ⟨rfl, rfl⟩
  by_cases hname : nameB nm = false
  · have hr := fltD_nm (o := o) (i := n) (by rw [E0.out]; exact hname)
    rw [hname]
    go_wp2_with fail
    go_ret
    exact ⟨by rw [hr]; try rfl, HB0.out⟩
  have hname' : nameB nm = true := by cases e : nameB nm <;> simp_all
  rw [hname']
  clear hname
  go_wp2_with fail
  clear x0 x1
  obtain ⟨W1, hW1⟩ : ∃ W, ((w.alloc (.cells #[.string o.nm, .int .i64 o.dp, .slice pf o.nf cf, .slice (some ⟨b, oo, none⟩) o.nd cd, .slice pr o.nr cr, .slice ps o.ns cs] 36)).alloc (.cells #[.string nm, .string bs] 87)) = W := ⟨_, rfl⟩
  rw [hW1] at HB0 HL0 HX0 ⊢
  have hl0 := HL0.out.lt
  have hx0 := HX0.out.lt
  clear hW1 hb
  have TK := takenI ⟨pf, cf, some ⟨b, oo, none⟩, cd, pr, cr, ps, cs⟩ o (o.nf + n) W1 hf (by omega) hd (HP.out W1 HB0.out)
  rw [show (((o.nf + n : Nat) : Int)) = (o.nf : Int) + n from by omega] at TK
  refine TK.mono ?_
  rintro e W2 ⟨rfl, hb2⟩
  have HB : Hid (Below w.heap.size w W2) := HB0.out.trans (hb2.mono HB0.out.size)
  have lX := HX0.out.below hb2 hx0
  have y1 := lX.cell (j := 1) rfl
  clear hb2 lX HB0 HL0 HX0 HP TK
  by_cases hcl : takenB o (o.nf + n) = true
  · have hr := fltD_cl (o := o) (i := n) (by rw [E0.out]; exact hname') hcl
    rw [hcl]
    go_wp2_with fail
    go_ret
    exact ⟨by rw [hr]; try rfl, HB.out⟩
  have hcl' : takenB o (o.nf + n) = false := by cases e : takenB o (o.nf + n) <;> simp_all
  rw [hcl']
  clear hcl
  have hr := fltD_sz (o := o) (i := n) (by rw [E0.out]; exact hname') hcl'
  rw [E1.out] at hr
  unfold maxLen at w3
  have ht : ((bs.size : Int)).tmod 8 = (bs.size : Int) % 8 := Int.tmod_eq_emod_of_nonneg (by omega)
  by_cases hcd : datumB bs.size = false
  · rw [if_pos hcd] at hr
    have key : bs.size < 8 ∨ (8 ≤ bs.size ∧ 64 < bs.size) ∨ (8 ≤ bs.size ∧ bs.size ≤ 64 ∧ ¬ bs.size % 8 = 0) := by
      simp only [datumB, decide_eq_false_iff_not] at hcd
      omega
    have HR : Hid (fltD o n = 8) := hr
    clear hr hcd
    rcases key with k1 | ⟨k1, k2⟩ | ⟨k1, k2, k3⟩
    · go_wp2_with fail
      go_ret
      exact ⟨by rw [HR.out]; try rfl, HB.out⟩
    · go_wp2_with fail
      go_ret
      exact ⟨by rw [HR.out]; try rfl, HB.out⟩
    · have k4 : ¬ ((bs.size : Int) % 8 = 0) := by omega
      have k5 : ((bs.size : Int) % 8 != 0) = true := by simpa using k4
      go_wp2_with fail
      go_ret
      exact ⟨by rw [HR.out]; try rfl, HB.out⟩
  · rw [if_neg hcd] at hr
    have k1 : bs.size % 8 = 0 ∧ 8 ≤ bs.size ∧ bs.size ≤ 64 := by
      simp only [datumB, decide_eq_false_iff_not, Classical.not_not] at hcd
      exact hcd
    obtain ⟨k1, k2, k3⟩ := k1
    have k4 : (bs.size : Int) % 8 = 0 := by omega
    have HR : Hid (fltD o n = 0) := hr
    clear hr hcd
    go_wp2_with fail
    go_ret
    exact ⟨by rw [HR.out]; try rfl, HB.out⟩
end Go.Proofs.Ytdcjddiigipdmaa
