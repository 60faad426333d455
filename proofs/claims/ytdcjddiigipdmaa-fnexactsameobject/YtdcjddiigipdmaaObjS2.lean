/- The model's look at an object's functions. -/
import Derived.Test.YtdcjddiigipdmaaObjS1
namespace Go.Proofs.Ytdcjddiigipdmaa
open Go Go.RowKit
set_option linter.unusedVariables false

theorem fltF_nm {o : ObjD} {i : Nat} (h : nameB (o.F i).nm = false) : fltF o i = 3 := by unfold fltF; rw [if_pos h]
theorem fltF_cl {o : ObjD} {i : Nat} (h1 : nameB (o.F i).nm = true) (h2 : takenB o i = true) : fltF o i = 24 := by unfold fltF; rw [h1, if_neg (by simp), if_pos h2]
theorem fltF_fr {o : ObjD} {i : Nat} (h1 : nameB (o.F i).nm = true) (h2 : takenB o i = false) (h3 : frB (o.F i).fr = false) : fltF o i = 17 := by unfold fltF; rw [h1, h2, if_neg (by simp), if_neg (by simp), if_pos h3]
theorem fltF_cd {o : ObjD} {i : Nat} (h1 : nameB (o.F i).nm = true) (h2 : takenB o i = false) (h3 : frB (o.F i).fr = true) : fltF o i = if codeB (o.F i).cd.size = false then 8 else 0 := by unfold fltF; rw [h1, h2, h3, if_neg (by simp), if_neg (by simp), if_neg (by simp)]
/-- What the search tells, as far as it has come. -/
def FstIs (n : Nat) (f : Nat → Int) (x y : Int) : Prop := fstF n f = (x, y)
theorem FstIs.at {n : Nat} {f : Nat → Int} {x y : Int} (h : FstIs n f x y) {k : Nat} (hk : k < n) (h0 : ∀ j, j < k → f j = 0) (hn : f k ≠ 0) : x = ((k : Nat) : Int) ∧ y = f k := by
  have e := fstF_at hk h0 hn
  rw [h] at e
  simpa using e
theorem FstIs.end {n : Nat} {f : Nat → Int} {x y : Int} (h : FstIs n f x y) (h0 : ∀ j, j < n → f j = 0) : x = 0 ∧ y = 0 := by
  have e := fstF_none h0
  rw [h] at e
  simpa using e
theorem FstIs.more {f : Nat → Int} {m : Nat} (h0 : ∀ j, j < m → f j = 0) (h : f m = 0) : ∀ j, j < m + 1 → f j = 0 := fun j hj => by
  rcases Nat.lt_succ_iff_lt_or_eq.1 hj with h' | rfl
  · exact h0 j h'
  · exact h

set_option maxRecDepth 100000 in
set_option maxHeartbeats 8000000 in
theorem specFuncs (q : ObjPt) (o : ObjD) (w : World) (hn : o.nf ≤ 2000000) (hw : o.wf) (hp : ObjAt w q o) (x y : Int) (hl : FstIs o.nf (fltF o) x y) :
    Calls Try.prog 73 #[.agg (objC o q)] w fun e w' => e = .returned (.tuple #[.int .i64 x, .int .i64 y]) ∧ Below w.heap.size w w' := by
  have bA := grown1' w (.cells (objC o q) 36)
  have lA := Lies.new w (objC o q) 36
  have hp1 := (hp.below bA).f
  go_enter Try.func73, Try.ntmps73
  go_wp2_with fail
  obtain ⟨W0, hW0⟩ : ∃ W0, w.alloc (.cells #[.string o.nm, .int .i64 o.dp, .slice q.pf o.nf q.kf, .slice q.pd o.nd q.kd, .slice q.pr o.nr q.kr, .slice q.ps o.ns q.ks] 36) = W0 := ⟨_, rfl⟩
  rw [hW0] at bA lA hp1 ⊢
  obtain ⟨X0, hX0⟩ : ∃ X, w.heap.size = X := ⟨_, rfl⟩
  rw [hX0] at bA lA ⊢
  have HX0 : Hid (w.heap.size = X0) := hX0
  have HA : Hid (Below X0 w W0) := bA
  have HL0 : Hid (Lies W0 X0 36 (objC o q)) := lA
  have hlt0 := lA.lt
  clear hW0 hX0 hp bA lA
  go_loopw [4] (fun i wr => ∃ m : Nat, m ≤ o.nf ∧ i = .int .i64 m ∧ (∀ j, j < m → fltF o j = 0) ∧ Below W0.heap.size W0 wr) (fun i _ => o.nf - (intOf i).toNat)
  case atStart => exact ⟨0, Nat.zero_le _, rfl, fun j hj => absurd hj (Nat.not_lt_zero _), Below.refl _ _⟩
  case round =>
    obtain ⟨m, hm, rfl, hok, hB⟩ := hrel
    have j2 := obj2 (HL0.out.below hB hlt0)
    by_cases hlt : m < o.nf
    · rcases hp1 with hp1 | ⟨b, oo, hpf, hb, hp1⟩
      · omega
      have hrow := hp1.below hB hb
      obtain ⟨x0, x1, x2, x3⟩ := hrow.fun hlt
      obtain ⟨w0, w2, w3⟩ := hw.f m hlt
      have HAT : Hid (fltF o m ≠ 0 → x = ((m : Nat) : Int) ∧ y = fltF o m) := fun hne => hl.at hlt hok hne
      have HOK : Hid (∀ j, j < m → fltF o j = 0) := hok
      obtain ⟨nm, e0⟩ : ∃ s, (o.F m).nm = s := ⟨_, rfl⟩
      obtain ⟨rp, e1⟩ : ∃ s, (o.F m).rp = s := ⟨_, rfl⟩
      obtain ⟨fr, e2⟩ : ∃ s, (o.F m).fr = s := ⟨_, rfl⟩
      obtain ⟨cd, e3⟩ : ∃ s, (o.F m).cd = s := ⟨_, rfl⟩
      rw [e0] at x0 w0
      rw [e1] at x1
      rw [e2] at x2 w2
      rw [e3] at x3 w3
      have E0 : Hid (_ = nm) := e0
      have E2 : Hid (_ = fr) := e2
      have E3 : Hid (_ = cd) := e3
      have hsz := hB.size
      have bX := grown1' wr (.cells #[.string nm, .bool rp, .int .i64 fr, .string cd] 85)
      have lX := Lies.new wr #[.string nm, .bool rp, .int .i64 fr, .string cd] 85
      have HB1 : Hid (Below W0.heap.size W0 _) := hB.trans (bX.mono hsz)
      have HR1 : Hid (VRow _ b oo (o.nf * 4) (funV o.F)) := hrow.below bX (Nat.lt_of_lt_of_le hb hsz)
      rw [hpf] at j2
      clear e0 e1 e2 e3 hok hrow hp1 hw bX
      go_wp2_with fail
      refine (specWord_any nm _ w0).mono ?_
      rintro e w2' ⟨rfl, rfl⟩
      obtain ⟨W1, hW1⟩ : ∃ W1, (wr.alloc (.cells #[.string nm, .bool rp, .int .i64 fr, .string cd] 85)) = W1 := ⟨_, rfl⟩
      obtain ⟨X, hX⟩ : ∃ X, wr.heap.size = X := ⟨_, rfl⟩
      rw [hW1] at HB1 HR1 lX ⊢
      rw [hX] at lX ⊢
      have hX1 := lX.lt
      have HLX : Hid (Lies W1 X 85 _) := lX
      have hl1 := HB1.out.size
      have HF : Hid (Below w.heap.size w W1) := by rw [HX0.out]; exact HA.out.trans (HB1.out.mono (Nat.le_of_lt hlt0))
      clear hW1 hX hB lX j2 x0 x1 x2 x3 hsz
      by_cases hname : nameB nm = false
      · have hf := fltF_nm (o := o) (i := m) (by rw [E0.out]; exact hname)
        obtain ⟨rfl, hy⟩ := HAT.out (by rw [hf]; decide)
        rw [hf] at hy
        subst hy
        rw [hname]
        clear hf
        go_wp2_with fail
        go_ret2
        exact ⟨rfl, HF.out⟩
      have hname' : nameB nm = true := by cases e : nameB nm <;> simp_all
      rw [hname']
      clear hname
      go_wp2_with fail
      go_loopw [6] (fun i wq => ∃ k : Nat, k ≤ m ∧ i = .int .i64 k ∧ (∀ j, j < k → ((unitNm o j).toList == nm.toList) = false) ∧ Below W1.heap.size W1 wq) (fun i _ => m - (intOf i).toNat)
      case atStart => exact ⟨0, Nat.zero_le _, rfl, fun j hj => absurd hj (Nat.not_lt_zero _), Below.refl _ _⟩
      case round =>
        obtain ⟨k, hk, rfl, hdif, hB2⟩ := hrel
        obtain ⟨W2, rfl⟩ : ∃ W2, W2 = wr := ⟨_, rfl⟩
        have lX2 := HLX.out.below hB2 hX1
        have m0 := lX2.cell (j := 0) rfl
        have m2 := lX2.cell (j := 2) rfl
        have m3 := lX2.cell (j := 3) rfl
        have n2 := obj2 (HL0.out.below (HB1.out.trans (hB2.mono hl1)) hlt0)
        rw [hpf] at n2
        have HB2 : Hid (Below W0.heap.size W0 W2) := HB1.out.trans (hB2.mono hl1)
        have HF2 : Hid (Below w.heap.size w W2) := HF.out.trans (hB2.mono HF.out.size)
        by_cases hkm : k < m
        · have hbl1 := Nat.lt_of_lt_of_le hb hl1
          have v0 := ((HR1.out.below hB2 hbl1).fun (k := k) (by omega)).1
          have hu : unitNm o k = (o.F k).nm := unitNm_f (by omega)
          obtain ⟨nq, eq⟩ : ∃ s, (o.F k).nm = s := ⟨_, rfl⟩
          rw [eq] at v0 hu
          have hkn : k < o.nf := by omega
          by_cases he : (nq.toList == nm.toList) = true
          · have hf := fltF_cl (o := o) (i := m) (by rw [E0.out]; exact hname') (takenB_iff.2 ⟨k, hkm, by rw [hu, unitNm_f hlt, E0.out]; exact he⟩)
            obtain ⟨rfl, hy⟩ := HAT.out (by rw [hf]; decide)
            rw [hf] at hy
            subst hy
            have bd := HF2.out.drew
            clear hf eq hu hB2 lX2
            go_wp2_with fail
            go_region
            all_goals
              go_wp2_with fail
              go_ret2
              exact ⟨rfl, bd⟩
          · have he' : (nq.toList == nm.toList) = false := by cases e : (nq.toList == nm.toList) <;> simp_all
            have EQ : Hid (_ = nq) := hu
            have hB3 := hB2.drew
            clear he eq hu hB2 lX2
            go_wp2_with fail
            go_region
            all_goals
              go_wp2_with fail
              go_roundw
              case rel => exact ⟨k + 1, by omega, by go_num, fun j hj => by
                rcases Nat.lt_succ_iff_lt_or_eq.1 hj with h' | rfl
                · exact hdif j h'
                · rw [EQ.out]; exact he', hB3⟩
              case measure => simp [intOf]; omega
        · obtain rfl : k = m := by omega
          have hcl : takenB o k = false := takenB_no (fun j hj => by rw [unitNm_f hlt, E0.out]; exact hdif j hj)
          clear hdif hB2 lX2
          have f1 := fltF_fr (o := o) (i := k) (by rw [E0.out]; exact hname') hcl
          have f2 := fltF_cd (o := o) (i := k) (by rw [E0.out]; exact hname') hcl
          rw [E2.out] at f1 f2
          rw [E3.out] at f2
          have HF1 : Hid (frB fr = false → fltF o k = 17) := f1
          have HF3 : Hid (frB fr = true → fltF o k = if codeB cd.size = false then 8 else 0) := f2
          clear f1 f2 hcl
          go_wp2_with fail
          refine (frSpec fr _ w2).mono ?_
          rintro e w3' ⟨rfl, rfl⟩
          by_cases hfr : frB fr = false
          · obtain ⟨rfl, hy⟩ := HAT.out (by rw [HF1.out hfr]; decide)
            rw [HF1.out hfr] at hy
            subst hy
            rw [hfr]
            go_wp2_with fail
            go_ret2
            exact ⟨rfl, HF2.out⟩
          have hfr' : frB fr = true := by cases e : frB fr <;> simp_all
          rw [hfr']
          have f3 := HF3.out hfr'
          clear hfr HF1 HF3
          go_wp2_with fail
          refine (codeSpec cd _ w3).mono ?_
          rintro e w3' ⟨rfl, rfl⟩
          by_cases hcd : codeB cd.size = false
          · rw [if_pos hcd] at f3
            obtain ⟨rfl, hy⟩ := HAT.out (by rw [f3]; decide)
            rw [f3] at hy
            subst hy
            rw [hcd]
            clear f3
            go_wp2_with fail
            go_ret2
            exact ⟨rfl, HF2.out⟩
          · rw [if_neg hcd] at f3
            have hcd' : codeB cd.size = true := by cases e : codeB cd.size <;> simp_all
            rw [hcd']
            have HALL : Hid (∀ j, j < k + 1 → fltF o j = 0) := FstIs.more HOK.out f3
            clear f3 hcd
            go_wp2_with fail
            go_roundw
            case rel => exact ⟨k + 1, by omega, by go_num, HALL.out, HB2.out⟩
            case measure => simp [intOf]; omega
    · obtain rfl : m = o.nf := by omega
      obtain ⟨rfl, rfl⟩ := hl.end hok
      have HF : Hid (Below w.heap.size w wr) := by rw [HX0.out]; exact HA.out.trans (hB.mono (Nat.le_of_lt hlt0))
      clear hp1 hw hl hok
      go_wp2_with fail
      go_ret2
      exact ⟨rfl, HF.out⟩
end Go.Proofs.Ytdcjddiigipdmaa
