/- The model's look at an object's data. -/
import Derived.Test.YtdcjddiigipdmaaObjS2
namespace Go.Proofs.Ytdcjddiigipdmaa
open Go Go.RowKit
set_option linter.unusedVariables false

theorem fltD_nm {o : ObjD} {i : Nat} (h : nameB (o.D i).nm = false) : fltD o i = 3 := by unfold fltD; rw [if_pos h]
theorem fltD_cl {o : ObjD} {i : Nat} (h1 : nameB (o.D i).nm = true) (h2 : takenB o (o.nf + i) = true) : fltD o i = 24 := by unfold fltD; rw [h1, if_neg (by simp), if_pos h2]
theorem fltD_sz {o : ObjD} {i : Nat} (h1 : nameB (o.D i).nm = true) (h2 : takenB o (o.nf + i) = false) : fltD o i = if datumB (o.D i).bs.size = false then 8 else 0 := by unfold fltD; rw [h1, h2, if_neg (by simp), if_neg (by simp)]

set_option maxRecDepth 100000 in
set_option maxHeartbeats 8000000 in
theorem specDatas (q : ObjPt) (o : ObjD) (w : World) (hn : o.nd ≤ 2000000) (hnf : o.nf ≤ 2000000) (hw : o.wf) (hp : ObjAt w q o) (x y : Int) (hl : FstIs o.nd (fltD o) x y) :
    Calls Try.prog 74 #[.agg (objC o q)] w fun e w' => e = .returned (.tuple #[.int .i64 x, .int .i64 y]) ∧ Below w.heap.size w w' := by
  have bA := grown1' w (.cells (objC o q) 36)
  have lA := Lies.new w (objC o q) 36
  have hp1 := (hp.below bA).d
  have hpf1 := (hp.below bA).f
  go_enter Try.func74, Try.ntmps74
  go_wp2_with fail
  obtain ⟨W0, hW0⟩ : ∃ W0, w.alloc (.cells #[.string o.nm, .int .i64 o.dp, .slice q.pf o.nf q.kf, .slice q.pd o.nd q.kd, .slice q.pr o.nr q.kr, .slice q.ps o.ns q.ks] 36) = W0 := ⟨_, rfl⟩
  rw [hW0] at bA lA hp1 hpf1 ⊢
  obtain ⟨X0, hX0⟩ : ∃ X, w.heap.size = X := ⟨_, rfl⟩
  rw [hX0] at bA lA ⊢
  have HX0 : Hid (w.heap.size = X0) := hX0
  have HA : Hid (Below X0 w W0) := bA
  have HL0 : Hid (Lies W0 X0 36 (objC o q)) := lA
  have hlt0 := lA.lt
  clear hW0 hX0 hp bA lA
  go_loopw [4] (fun i wr => ∃ m : Nat, m ≤ o.nd ∧ i = .int .i64 m ∧ (∀ j, j < m → fltD o j = 0) ∧ Below W0.heap.size W0 wr) (fun i _ => o.nd - (intOf i).toNat)
  case atStart => exact ⟨0, Nat.zero_le _, rfl, fun j hj => absurd hj (Nat.not_lt_zero _), Below.refl _ _⟩
  case round =>
    obtain ⟨m, hm, rfl, hok, hB⟩ := hrel
    have j2 := obj3 (HL0.out.below hB hlt0)
    by_cases hlt : m < o.nd
    · rcases hp1 with hp1 | ⟨b, oo, hpf, hb, hp1⟩
      · omega
      have hrow := hp1.below hB hb
      obtain ⟨x0, x1⟩ := hrow.dat hlt
      obtain ⟨w0, w3⟩ := hw.d m hlt
      have HAT : Hid (fltD o m ≠ 0 → x = ((m : Nat) : Int) ∧ y = fltD o m) := fun hne => hl.at hlt hok hne
      have HOK : Hid (∀ j, j < m → fltD o j = 0) := hok
      obtain ⟨nm, e0⟩ : ∃ s, (o.D m).nm = s := ⟨_, rfl⟩
      obtain ⟨bs, e1⟩ : ∃ s, (o.D m).bs = s := ⟨_, rfl⟩
      rw [e0] at x0 w0
      rw [e1] at x1 w3
      have E0 : Hid (_ = nm) := e0
      have E1 : Hid (_ = bs) := e1
      have hum : unitNm o (o.nf + m) = nm := unitNm_d.trans e0
      have HUM : Hid (unitNm o (o.nf + m) = nm) := hum
      have hsz := hB.size
      have bX := grown1' wr (.cells #[.string nm, .string bs] 87)
      have lX := Lies.new wr #[.string nm, .string bs] 87
      have HB1 : Hid (Below W0.heap.size W0 _) := hB.trans (bX.mono hsz)
      have HR1 : Hid (VRow _ b oo (o.nd * 2) (datV o.D)) := hrow.below bX (Nat.lt_of_lt_of_le hb hsz)
      rw [hpf] at j2
      clear e0 e1 hum hok hrow hp1 hw bX
      go_wp2_with fail
      refine (specWord_any nm _ w0).mono ?_
      rintro e w2' ⟨rfl, rfl⟩
      obtain ⟨W1, hW1⟩ : ∃ W1, (wr.alloc (.cells #[.string nm, .string bs] 87)) = W1 := ⟨_, rfl⟩
      obtain ⟨X, hX⟩ : ∃ X, wr.heap.size = X := ⟨_, rfl⟩
      rw [hW1] at HB1 HR1 lX ⊢
      rw [hX] at lX ⊢
      have hX1 := lX.lt
      have HLX : Hid (Lies W1 X 87 _) := lX
      have hl1 := HB1.out.size
      have HF : Hid (Below w.heap.size w W1) := by rw [HX0.out]; exact HA.out.trans (HB1.out.mono (Nat.le_of_lt hlt0))
      have hpf2 := hpf1.below HB1.out
      have HPF : Hid (FunsAt W1 q.pf o.nf o.F) := hpf2
      clear hW1 hX hB lX j2 x0 x1 hsz hpf1 hpf2
      by_cases hname : nameB nm = false
      · have hf := fltD_nm (o := o) (i := m) (by rw [E0.out]; exact hname)
        obtain ⟨rfl, hy⟩ := HAT.out (by rw [hf]; decide)
        rw [hf] at hy
        subst hy
        rw [hname]
        clear hf
        go_wp2_with fail
        go_ret2
        exact ⟨rfl, HF.out⟩
      have hname' : nameB nm = true := by cases e : nameB nm <;> simp_all
      rw [hname']
      clear hname
      go_wp2_with fail
      go_loopw [6] (fun i wq => ∃ k : Nat, k ≤ o.nf ∧ i = .int .i64 k ∧ (∀ j, j < k → ((unitNm o j).toList == nm.toList) = false) ∧ Below W1.heap.size W1 wq) (fun i _ => o.nf - (intOf i).toNat)
      case atStart => exact ⟨0, Nat.zero_le _, rfl, fun j hj => absurd hj (Nat.not_lt_zero _), Below.refl _ _⟩
      case round =>
        obtain ⟨k, hk, rfl, hdif, hB2⟩ := hrel
        obtain ⟨W2, rfl⟩ : ∃ W2, W2 = wr := ⟨_, rfl⟩
        have lX2 := HLX.out.below hB2 hX1
        have m0 := lX2.cell (j := 0) rfl
        have n2 := obj2 (HL0.out.below (HB1.out.trans (hB2.mono hl1)) hlt0)
        have HF2 : Hid (Below w.heap.size w W2) := HF.out.trans (hB2.mono HF.out.size)
        by_cases hkm : k < o.nf
        · rcases HPF.out with hPF | ⟨b', oo', hpf', hb', hPF⟩
          · omega
          have v0 := ((hPF.below hB2 hb').fun hkm).1
          rw [hpf'] at n2
          have hu : unitNm o k = (o.F k).nm := unitNm_f hkm
          obtain ⟨nq, eq⟩ : ∃ s, (o.F k).nm = s := ⟨_, rfl⟩
          rw [eq] at v0 hu
          by_cases he : (nq.toList == nm.toList) = true
          · have hf := fltD_cl (o := o) (i := m) (by rw [E0.out]; exact hname') (takenB_iff.2 ⟨k, by omega, by rw [hu, HUM.out]; exact he⟩)
            obtain ⟨rfl, hy⟩ := HAT.out (by rw [hf]; decide)
            rw [hf] at hy
            subst hy
            have bd := HF2.out.drew
            clear hf eq hu hB2 lX2 hPF
            go_wp2_with fail
            go_region
            all_goals
              go_wp2_with fail
              go_ret2
              exact ⟨rfl, bd⟩
          · have he' : (nq.toList == nm.toList) = false := by cases e : (nq.toList == nm.toList) <;> simp_all
            have EQ : Hid (_ = nq) := hu
            have hB3 := hB2.drew
            clear he eq hu hB2 lX2 hPF
            go_wp2_with fail
            go_region
            all_goals
              go_wp2_with fail
              go_roundw
              case rel => exact ⟨k + 1, by omega, by go_num, fun j hj => by
                rcases Nat.lt_succ_iff_lt_or_eq.1 hj with h' | rfl
                · exact hdif j h'
                · rw [EQ.out]; exact he', hB3⟩
              case measure => simp [intOf]; omega
        · obtain rfl : k = o.nf := by omega
          have lX3 : Hid (Lies W2 X 87 _) := lX2
          have HB3 : Hid (Below W0.heap.size W0 W2) := HB1.out.trans (hB2.mono hl1)
          have hl2 : W0.heap.size ≤ W2.heap.size := HB3.out.size
          have hX2 : X < W2.heap.size := Nat.lt_of_lt_of_le hX1 hB2.size
          have HR2 : Hid (VRow W2 b oo (o.nd * 2) (datV o.D)) := HR1.out.below hB2 (Nat.lt_of_lt_of_le hb hl1)
          have HDIF : Hid (∀ j, j < o.nf → ((unitNm o j).toList == nm.toList) = false) := hdif
          clear hdif hB2 lX2 m0
          go_wp2_with fail
          go_loopw [7] (fun i wq => ∃ k : Nat, k ≤ m ∧ i = .int .i64 k ∧ (∀ j, j < k → ((unitNm o (o.nf + j)).toList == nm.toList) = false) ∧ Below W2.heap.size W2 wq) (fun i _ => m - (intOf i).toNat)
          case atStart => exact ⟨0, Nat.zero_le _, rfl, fun j hj => absurd hj (Nat.not_lt_zero _), Below.refl _ _⟩
          case round =>
            obtain ⟨k, hk, rfl, hdif, hB2⟩ := hrel
            obtain ⟨W3, rfl⟩ : ∃ W3, W3 = wr := ⟨_, rfl⟩
            have lX2 := lX3.out.below hB2 hX2
            have m0 := lX2.cell (j := 0) rfl
            have m1 := lX2.cell (j := 1) rfl
            have n3 := obj3 (HL0.out.below (HB3.out.trans (hB2.mono hl2)) hlt0)
            rw [hpf] at n3
            have HB4 : Hid (Below W0.heap.size W0 W3) := HB3.out.trans (hB2.mono hl2)
            have HF3 : Hid (Below w.heap.size w W3) := HF2.out.trans (hB2.mono HF2.out.size)
            by_cases hkm : k < m
            · have hbl1 := Nat.lt_of_lt_of_le hb hl2
              have v0 := ((HR2.out.below hB2 hbl1).dat (k := k) (by omega)).1
              have hu : unitNm o (o.nf + k) = (o.D k).nm := unitNm_d
              obtain ⟨nq, eq⟩ : ∃ s, (o.D k).nm = s := ⟨_, rfl⟩
              rw [eq] at v0 hu
              have hkn : k < o.nd := by omega
              by_cases he : (nq.toList == nm.toList) = true
              · have hf := fltD_cl (o := o) (i := m) (by rw [E0.out]; exact hname') (takenB_iff.2 ⟨o.nf + k, by omega, by rw [hu, HUM.out]; exact he⟩)
                obtain ⟨rfl, hy⟩ := HAT.out (by rw [hf]; decide)
                rw [hf] at hy
                subst hy
                have bd := HF3.out.drew
                clear hf eq hu hB2 lX2
                go_wp2_with fail
                go_region
                all_goals
                  go_wp2_with fail
                  go_ret2
                  exact ⟨rfl, bd⟩
              · have he' : (nq.toList == nm.toList) = false := by cases e : (nq.toList == nm.toList) <;> simp_all
                have EQ : Hid (_ = nq) := hu
                have hB3 := hB2.drew
                clear he eq hu hB2 lX2
                go_wp2_with fail
                go_region
                all_goals
                  go_wp2_with fail
                  go_roundw
                  case rel => exact ⟨k + 1, by omega, by go_num, fun j hj => by
                    rcases Nat.lt_succ_iff_lt_or_eq.1 hj with h' | rfl
                    · exact hdif j h'
                    · rw [EQ.out]; exact he', hB3⟩
                  case measure => simp [intOf]; omega
            · obtain rfl : k = m := by omega
              have hcl : takenB o (o.nf + k) = false := takenB_no (fun j hj => by
                rw [HUM.out]
                by_cases hj' : j < o.nf
                · exact HDIF.out j hj'
                · have := hdif (j - o.nf) (by omega)
                  rwa [Nat.add_sub_cancel' (by omega)] at this)
              have f2 := fltD_sz (o := o) (i := k) (by rw [E0.out]; exact hname') hcl
              rw [E1.out] at f2
              clear hdif hB2 lX2 hcl
              unfold maxLen at w3
              have ht : ((bs.size : Int)).tmod 8 = (bs.size : Int) % 8 := Int.tmod_eq_emod_of_nonneg (by omega)
              by_cases hcd : datumB bs.size = false
              · rw [if_pos hcd] at f2
                obtain ⟨rfl, hy⟩ := HAT.out (by rw [f2]; decide)
                rw [f2] at hy
                subst hy
                have key : (¬ bs.size % 8 = 0) ∨ (bs.size % 8 = 0 ∧ bs.size < 8) ∨ (bs.size % 8 = 0 ∧ 8 ≤ bs.size ∧ 64 < bs.size) := by
                  simp only [datumB, decide_eq_false_iff_not] at hcd
                  omega
                clear f2 hcd
                rcases key with k1 | ⟨k1, k2⟩ | ⟨k1, k2, k3⟩
                · have k4 : ¬ ((bs.size : Int) % 8 = 0) := by omega
                  have k5 : ((bs.size : Int) % 8 != 0) = true := by simpa using k4
                  go_wp2_with fail
                  go_ret2
                  exact ⟨rfl, HF3.out⟩
                · have k4 : (bs.size : Int) % 8 = 0 := by omega
                  go_wp2_with fail
                  go_ret2
                  exact ⟨rfl, HF3.out⟩
                · have k4 : (bs.size : Int) % 8 = 0 := by omega
                  go_wp2_with fail
                  go_ret2
                  exact ⟨rfl, HF3.out⟩
              · rw [if_neg hcd] at f2
                have HALL : Hid (∀ j, j < k + 1 → fltD o j = 0) := FstIs.more HOK.out f2
                have k1 : bs.size % 8 = 0 ∧ 8 ≤ bs.size ∧ bs.size ≤ 64 := by
                  simp only [datumB, decide_eq_false_iff_not, Classical.not_not] at hcd
                  exact hcd
                obtain ⟨k1, k2, k3⟩ := k1
                have k4 : (bs.size : Int) % 8 = 0 := by omega
                clear f2 hcd
                go_wp2_with fail
                go_roundw
                case rel => exact ⟨k + 1, by omega, by go_num, HALL.out, HB4.out⟩
                case measure => simp [intOf]; omega
    · obtain rfl : m = o.nd := by omega
      obtain ⟨rfl, rfl⟩ := hl.end hok
      have HF : Hid (Below w.heap.size w wr) := by rw [HX0.out]; exact HA.out.trans (hB.mono (Nat.le_of_lt hlt0))
      clear hp1 hpf1 hw hl hok
      go_wp2_with fail
      go_ret2
      exact ⟨rfl, HF.out⟩
end Go.Proofs.Ytdcjddiigipdmaa
