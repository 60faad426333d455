/- The model's look at an image's symbols. -/
import Derived.Test.YtelogjpjglohoaaGreatDoorGXTabBase0
import Derived.Test.YtelogjpjglohoaaGreatDoorGXTabBase1
import Derived.Deep.RegionHeld3
namespace Go.Proofs.YtelogjpjglohoaaGreatDoor
open Go Go.RowKit
set_option linter.unusedVariables false

theorem flt_k1 {C D : Int} {S : Nat → SymD} {i : Nat} (h1 : nameB (S i).nm = true) (h2 : clashB S i = false) (h3 : (S i).kd = 1) : fltI C D S i = if (S i).pl = cdU S i ∧ 1 ≤ (S i).sz ∧ (S i).sz ≤ C - cdU S i then 0 else 4 := by
  unfold fltI; rw [h1, h2, if_neg (by simp), if_neg (by simp), if_pos h3]
theorem flt_k2 {C D : Int} {S : Nat → SymD} {i : Nat} (h1 : nameB (S i).nm = true) (h2 : clashB S i = false) (h3 : (S i).kd = 2) : fltI C D S i = if dtU S i ≤ (S i).pl ∧ (S i).pl ≤ D ∧ 1 ≤ (S i).sz ∧ (S i).sz ≤ D - (S i).pl ∧ (S i).pl % 8 = 0 ∧ (S i).sz % 8 = 0 then (if (S i).fr = 0 then 0 else 17) else 4 := by
  unfold fltI; rw [h1, h2, if_neg (by simp), if_neg (by simp), if_neg (by omega), if_pos h3]
theorem flt_k0 {C D : Int} {S : Nat → SymD} {i : Nat} (h1 : nameB (S i).nm = true) (h2 : clashB S i = false) (h3 : (S i).kd ≠ 1) (h4 : (S i).kd ≠ 2) : fltI C D S i = 26 := by
  unfold fltI; rw [h1, h2, if_neg (by simp), if_neg (by simp), if_neg h3, if_neg h4]
theorem flt_nm {C D : Int} {S : Nat → SymD} {i : Nat} (h1 : nameB (S i).nm = false) : fltI C D S i = 3 := by unfold fltI; rw [if_pos h1]
theorem flt_cl {C D : Int} {S : Nat → SymD} {i : Nat} (h1 : nameB (S i).nm = true) (h2 : clashB S i = true) : fltI C D S i = 24 := by unfold fltI; rw [h1, if_neg (by simp), if_pos h2]

theorem SymsIs.at {n : Nat} {C D : Int} {S : Nat → SymD} {x y : Int} (h : SymsIs n C D S x y) {k : Nat} (hk : k < n) (h0 : ∀ j, j < k → fltI C D S j = 0) (hn : fltI C D S k ≠ 0) : x = ((k : Nat) : Int) ∧ y = fltI C D S k := by
  cases h with
  | flt j hj a b =>
    by_cases h1 : j < k
    · exact absurd (h0 j h1) b
    · by_cases h2 : k < j
      · exact absurd (a k h2) hn
      · obtain rfl : j = k := by omega
        exact ⟨rfl, rfl⟩
  | nosym a => exact absurd (a k hk) hn
  | short a => exact absurd (a k hk) hn
  | ok a => exact absurd (a k hk) hn

set_option maxRecDepth 100000 in
set_option maxHeartbeats 16000000 in
theorem specSyms (c s : ByteArray) (p : Option Addr) (n kk : Nat) (S : Nat → SymD) (w : World) (hn : n ≤ 16) (hc : c.size ≤ 1024) (hs : s.size ≤ 256) (hw : ∀ i, i < n → (S i).wf) (hp : SymsAt w p n S) (x y : Int) (hl : SymsIs n c.size s.size S x y) :
    Calls Tryz.prog 60 #[.agg #[.string c, .string s, .slice p n kk]] w fun e w' => e = .returned (.tuple #[.int .i64 x, .int .i64 y]) ∧ Below w.heap.size w w' := by
  have bA := grown1' w (.cells #[.string c, .string s, .slice p n kk] 31)
  have i0 : (w.alloc (.cells #[.string c, .string s, .slice p n kk] 31)).cell? ⟨w.heap.size, 0, none⟩ = some (.string c) := by simp
  have i1 : (w.alloc (.cells #[.string c, .string s, .slice p n kk] 31)).cell? ⟨w.heap.size, 1, none⟩ = some (.string s) := by simp
  have i2 : (w.alloc (.cells #[.string c, .string s, .slice p n kk] 31)).cell? ⟨w.heap.size, 2, none⟩ = some (.slice p n kk) := by simp
  have hlt0 : w.heap.size < (w.alloc (.cells #[.string c, .string s, .slice p n kk] 31)).heap.size := by simp
  have hp1 := hp.below bA
  go_enter Tryz.func60, Tryz.ntmps60
  go_wp2_with fail
  obtain ⟨W0, hW0⟩ : ∃ W0, w.alloc (.cells #[.string c, .string s, .slice p n kk] 31) = W0 := ⟨_, rfl⟩
  rw [hW0] at bA i0 i1 i2 hlt0 hp1 ⊢
  have HA : Hid (Below w.heap.size w W0) := bA
  clear hW0 hp bA
  go_loopw [4, 5, 6] (fun cd dt i wr => ∃ m : Nat, m ≤ n ∧ i = .int .i64 m ∧ cd = .int .i64 (cdU S m) ∧ dt = .int .i64 (dtU S m) ∧ (∀ j, j < m → fltI c.size s.size S j = 0) ∧ Below W0.heap.size W0 wr) (fun _ _ i _ => n - (intOf i).toNat)
  case atStart => exact ⟨0, Nat.zero_le _, rfl, rfl, rfl, fun j hj => absurd hj (Nat.not_lt_zero _), Below.refl _ _⟩
  case round =>
    obtain ⟨m, hm, rfl, rfl, rfl, hok, hB⟩ := hrel
    have j0 := (hB.cell (p := ⟨w.heap.size, 0, none⟩) hlt0).trans i0
    have j1 := (hB.cell (p := ⟨w.heap.size, 1, none⟩) hlt0).trans i1
    have j2 := (hB.cell (p := ⟨w.heap.size, 2, none⟩) hlt0).trans i2
    obtain ⟨hcd, hdt⟩ := cdU_bd (C := c.size) (D := s.size) m (by omega) (by omega) hok
    by_cases hlt : m < n
    · rcases hp1 with hp1 | ⟨b, o, rfl, hb, hp1⟩
      · omega
      have hrow := hp1.below hB hb
      obtain ⟨x0, x1, x2, x3, x4⟩ := hrow.sym hlt
      obtain ⟨hnw, _, _, w3, _⟩ := hw m hlt
      have hat := fun hne => hl.at hlt hok hne
      have HAT : Hid (fltI c.size s.size S m ≠ 0 → x = ((m : Nat) : Int) ∧ y = fltI c.size s.size S m) := hat
      have HOK : Hid (∀ j, j < m → fltI c.size s.size S j = 0) := hok
      have HL : Hid (SymsIs n c.size s.size S x y) := hl
      have HR : Hid (VRow wr b o (n * 5) (symV S)) := hrow
      obtain ⟨nm, e0⟩ : ∃ s, (S m).nm = s := ⟨_, rfl⟩
      obtain ⟨kd, e1⟩ : ∃ s, (S m).kd = s := ⟨_, rfl⟩
      obtain ⟨pl, e2⟩ : ∃ s, (S m).pl = s := ⟨_, rfl⟩
      obtain ⟨sz, e3⟩ : ∃ s, (S m).sz = s := ⟨_, rfl⟩
      obtain ⟨fr, e4⟩ : ∃ s, (S m).fr = s := ⟨_, rfl⟩
      obtain ⟨cd, e5⟩ : ∃ s, cdU S m = s := ⟨_, rfl⟩
      obtain ⟨dt, e6⟩ : ∃ s, dtU S m = s := ⟨_, rfl⟩
      rw [e0] at x0 hnw
      rw [e1] at x1
      rw [e2] at x2
      rw [e3] at x3 w3
      rw [e4] at x4
      rw [e5, e6]
      rw [e5] at hcd
      rw [e6] at hdt
      have E0 : Hid (_ = nm) := e0
      have E1 : Hid (_ = kd) := e1
      have E2 : Hid (_ = pl) := e2
      have E3 : Hid (_ = sz) := e3
      have E4 : Hid (_ = fr) := e4
      have E5 : Hid (_ = cd) := e5
      have E6 : Hid (_ = dt) := e6
      have hsz := hB.size
      have bX := grown1' wr (.cells #[.string nm, .int .i64 kd, .int .i64 pl, .int .i64 sz, .int .i64 fr] 49)
      have hB1 := hB.trans (bX.mono hsz)
      have z0 : (wr.alloc (.cells #[.string nm, .int .i64 kd, .int .i64 pl, .int .i64 sz, .int .i64 fr] 49)).cell? ⟨wr.heap.size, 0, none⟩ = some (.string nm) := by simp
      have z1 : (wr.alloc (.cells #[.string nm, .int .i64 kd, .int .i64 pl, .int .i64 sz, .int .i64 fr] 49)).cell? ⟨wr.heap.size, 1, none⟩ = some (.int .i64 kd) := by simp
      have z2 : (wr.alloc (.cells #[.string nm, .int .i64 kd, .int .i64 pl, .int .i64 sz, .int .i64 fr] 49)).cell? ⟨wr.heap.size, 2, none⟩ = some (.int .i64 pl) := by simp
      have z3 : (wr.alloc (.cells #[.string nm, .int .i64 kd, .int .i64 pl, .int .i64 sz, .int .i64 fr] 49)).cell? ⟨wr.heap.size, 3, none⟩ = some (.int .i64 sz) := by simp
      have z4 : (wr.alloc (.cells #[.string nm, .int .i64 kd, .int .i64 pl, .int .i64 sz, .int .i64 fr] 49)).cell? ⟨wr.heap.size, 4, none⟩ = some (.int .i64 fr) := by simp
      have zl : wr.heap.size < (wr.alloc (.cells #[.string nm, .int .i64 kd, .int .i64 pl, .int .i64 sz, .int .i64 fr] 49)).heap.size := by simp
      have hrow1 := hrow.below bX (Nat.lt_of_lt_of_le hb hsz)
      have k0 := (hB1.cell (p := ⟨w.heap.size, 0, none⟩) hlt0).trans i0
      have k1 := (hB1.cell (p := ⟨w.heap.size, 1, none⟩) hlt0).trans i1
      have k2 := (hB1.cell (p := ⟨w.heap.size, 2, none⟩) hlt0).trans i2
      clear e0 e1 e2 e3 e4 e5 e6 hat hok hl hrow hp1 hw bX
      by_cases hname : nameB nm = false
      · have hf := flt_nm (C := c.size) (D := s.size) (S := S) (i := m) (by rw [E0.out]; exact hname)
        obtain ⟨rfl, hy⟩ := HAT.out (by rw [hf]; decide)
        rw [hf] at hy
        subst hy
        clear hf
        go_wp2_with fail
        refine (specWord_any nm _ hnw).mono ?_
        rintro e w2 ⟨rfl, rfl⟩
        rw [hname]
        go_wp2_with fail
        go_ret2
        exact ⟨rfl, HA.out.trans (hB1.mono HA.out.size)⟩
      have hname' : nameB nm = true := by cases e : nameB nm <;> simp_all
      clear hname
      have HB1 : Hid (Below W0.heap.size W0 (wr.alloc (.cells #[.string nm, .int .i64 kd, .int .i64 pl, .int .i64 sz, .int .i64 fr] 49))) := hB1
      go_wp2_with fail
      refine (specWord_any nm _ hnw).mono ?_
      rintro e w2 ⟨rfl, rfl⟩
      rw [hname']
      obtain ⟨W1, hW1⟩ : ∃ W1, (wr.alloc (.cells #[.string nm, .int .i64 kd, .int .i64 pl, .int .i64 sz, .int .i64 fr] 49)) = W1 := ⟨_, rfl⟩
      obtain ⟨X, hX⟩ : ∃ X, wr.heap.size = X := ⟨_, rfl⟩
      rw [hW1] at HB1 z0 z1 z2 z3 z4 zl hrow1 k0 k1 k2 ⊢
      rw [hX] at z0 z1 z2 z3 z4 zl ⊢
      have hl1 := HB1.out.size
      clear hB1 hW1 hX hB HR j0 j1 j2 x0 x1 x2 x3 x4 i0 i1 i2 hsz
      go_wp2_with fail
      go_loopw [8] (fun i wq => ∃ q : Nat, q ≤ m ∧ i = .int .i64 q ∧ (∀ j, j < q → ((S j).nm.toList == nm.toList) = false) ∧ Below W1.heap.size W1 wq) (fun i _ => m - (intOf i).toNat)
      case atStart => exact ⟨0, Nat.zero_le _, rfl, fun j hj => absurd hj (Nat.not_lt_zero _), Below.refl _ _⟩
      case round =>
        obtain ⟨q, hq, rfl, hdif, hB2⟩ := hrel
        obtain ⟨W2, rfl⟩ : ∃ W2, W2 = wr := ⟨_, rfl⟩
        have m0 := (hB2.cell (p := ⟨X, 0, none⟩) zl).trans z0
        have m1 := (hB2.cell (p := ⟨X, 1, none⟩) zl).trans z1
        have m2 := (hB2.cell (p := ⟨X, 2, none⟩) zl).trans z2
        have m3 := (hB2.cell (p := ⟨X, 3, none⟩) zl).trans z3
        have m4 := (hB2.cell (p := ⟨X, 4, none⟩) zl).trans z4
        have n0 := (hB2.cell (p := ⟨w.heap.size, 0, none⟩) (Nat.lt_of_lt_of_le hlt0 hl1)).trans k0
        have n1 := (hB2.cell (p := ⟨w.heap.size, 1, none⟩) (Nat.lt_of_lt_of_le hlt0 hl1)).trans k1
        have n2 := (hB2.cell (p := ⟨w.heap.size, 2, none⟩) (Nat.lt_of_lt_of_le hlt0 hl1)).trans k2
        have bel : Hid (Below w.heap.size w W2) := HA.out.trans ((HB1.out.trans (hB2.mono hl1)).mono HA.out.size)
        by_cases hqm : q < m
        · have v0 := ((hrow1.below hB2 (Nat.lt_of_lt_of_le hb hl1)).sym (k := q) (by omega)).1
          obtain ⟨nq, eq⟩ : ∃ s, (S q).nm = s := ⟨_, rfl⟩
          rw [eq] at v0
          by_cases he : (nq.toList == nm.toList) = true
          · have hf := flt_cl (C := c.size) (D := s.size) (S := S) (i := m) (by rw [E0.out]; exact hname') (clashB_iff.2 ⟨q, hqm, by rw [eq, E0.out]; exact he⟩)
            obtain ⟨rfl, hy⟩ := HAT.out (by rw [hf]; decide)
            rw [hf] at hy
            subst hy
            have bd := bel.out.drew
            have hqn : q < n := by omega
            clear hf eq
            go_wp2_with fail
            go_region
            all_goals
              go_wp2_with fail
              go_ret2
              exact ⟨rfl, bd⟩
          · have he' : (nq.toList == nm.toList) = false := by cases e : (nq.toList == nm.toList) <;> simp_all
            have EQ : Hid (_ = nq) := eq
            have hB3 := hB2.drew
            have hqn : q < n := by omega
            clear he eq
            go_wp2_with fail
            go_region
            all_goals
              go_wp2_with fail
              go_roundw
              case rel => exact ⟨q + 1, by omega, by go_num, fun j hj => by
                rcases Nat.lt_succ_iff_lt_or_eq.1 hj with h' | rfl
                · exact hdif j h'
                · rw [EQ.out]; exact he', hB3⟩
              case measure => simp [intOf]; omega
        · obtain rfl : q = m := by omega
          have hcl : clashB S q = false := clashB_no (fun j hj => by rw [E0.out]; exact hdif j hj)
          have HB2 : Hid (Below W0.heap.size W0 W2) := HB1.out.trans (hB2.mono hl1)
          clear hdif hrow1
          by_cases h1 : kd = 1
          · have hf := flt_k1 (C := c.size) (D := s.size) (S := S) (i := q) (by rw [E0.out]; exact hname') hcl (by rw [E1.out]; exact h1)
            rw [E2.out, E3.out, E5.out] at hf
            subst h1
            by_cases hg : pl = cd ∧ 1 ≤ sz ∧ sz ≤ c.size - cd
            · rw [if_pos hg] at hf
              obtain ⟨rfl, g1, g2⟩ := hg
              have hcu : cdU S (q + 1) = pl + sz := by
                show (if (S q).kd = 1 then cdU S q + (S q).sz else cdU S q) = _
                rw [E1.out, if_pos rfl, E5.out, E3.out]
              have hdu : dtU S (q + 1) = dt := by
                show (if (S q).kd = 2 then (S q).pl + (S q).sz else dtU S q) = _
                rw [E1.out, if_neg (by decide), E6.out]
              have hall : ∀ j, j < q + 1 → fltI c.size s.size S j = 0 := fun j hj => by
                rcases Nat.lt_succ_iff_lt_or_eq.1 hj with h' | rfl
                · exact HOK.out j h'
                · exact hf
              have HALL : Hid (∀ j, j < q + 1 → fltI c.size s.size S j = 0) := hall
              clear hall hf hcl
              go_wp2_with fail
              go_roundw
              case rel => exact ⟨q + 1, by omega, by go_num, by rw [hcu], by rw [hdu], HALL.out, HB2.out⟩
              case measure => simp [intOf]; omega
            · rw [if_neg hg] at hf
              obtain ⟨rfl, hy⟩ := HAT.out (by rw [hf]; decide)
              rw [hf] at hy
              subst hy
              have key : ¬ pl = cd ∨ (pl = cd ∧ sz < 1) ∨ (pl = cd ∧ 1 ≤ sz ∧ c.size - cd < sz) := by omega
              clear hf hg hcl
              rcases key with k | ⟨rfl, k⟩ | ⟨rfl, k, l⟩
              all_goals
                go_wp2_with fail
                go_ret2
                exact ⟨rfl, bel.out⟩
          by_cases h2 : kd = 2
          · have hf := flt_k2 (C := c.size) (D := s.size) (S := S) (i := q) (by rw [E0.out]; exact hname') hcl (by rw [E1.out]; exact h2)
            rw [E2.out, E3.out, E4.out, E6.out] at hf
            subst h2
            by_cases hg : dt ≤ pl ∧ pl ≤ s.size ∧ 1 ≤ sz ∧ sz ≤ s.size - pl ∧ pl % 8 = 0 ∧ sz % 8 = 0
            · rw [if_pos hg] at hf
              obtain ⟨g1, g2, g3, g4, g5, g6⟩ := hg
              have t1 : pl.tmod 8 = 0 := by rw [Int.tmod_eq_emod_of_nonneg (by omega)]; exact g5
              have t2 : sz.tmod 8 = 0 := by rw [Int.tmod_eq_emod_of_nonneg (by omega)]; exact g6
              by_cases hfr : fr = 0
              · rw [if_pos hfr] at hf
                subst hfr
                have hcu : cdU S (q + 1) = cd := by
                  show (if (S q).kd = 1 then cdU S q + (S q).sz else cdU S q) = _
                  rw [E1.out, if_neg (by decide), E5.out]
                have hdu : dtU S (q + 1) = pl + sz := by
                  show (if (S q).kd = 2 then (S q).pl + (S q).sz else dtU S q) = _
                  rw [E1.out, if_pos rfl, E2.out, E3.out]
                have hall : ∀ j, j < q + 1 → fltI c.size s.size S j = 0 := fun j hj => by
                  rcases Nat.lt_succ_iff_lt_or_eq.1 hj with h' | rfl
                  · exact HOK.out j h'
                  · exact hf
                have HALL : Hid (∀ j, j < q + 1 → fltI c.size s.size S j = 0) := hall
                clear hall hf hcl
                go_wp2_with fail
                go_roundw
                case rel => exact ⟨q + 1, by omega, by go_num, by rw [hcu], by rw [hdu], HALL.out, HB2.out⟩
                case measure => simp [intOf]; omega
              · rw [if_neg hfr] at hf
                obtain ⟨rfl, hy⟩ := HAT.out (by rw [hf]; decide)
                rw [hf] at hy
                subst hy
                have hfb : (fr == 0) = false := by simpa using hfr
                clear hf hcl
                go_wp2_with fail
                go_ret2
                exact ⟨rfl, bel.out⟩
            · rw [if_neg hg] at hf
              obtain ⟨rfl, hy⟩ := HAT.out (by rw [hf]; decide)
              rw [hf] at hy
              subst hy
              have key : pl < dt ∨ (dt ≤ pl ∧ s.size < pl) ∨ (dt ≤ pl ∧ pl ≤ s.size ∧ sz < 1) ∨ (dt ≤ pl ∧ pl ≤ s.size ∧ 1 ≤ sz ∧ s.size - pl < sz) ∨ (dt ≤ pl ∧ pl ≤ s.size ∧ 1 ≤ sz ∧ sz ≤ s.size - pl ∧ ¬ pl % 8 = 0) ∨ (dt ≤ pl ∧ pl ≤ s.size ∧ 1 ≤ sz ∧ sz ≤ s.size - pl ∧ pl % 8 = 0 ∧ ¬ sz % 8 = 0) := by omega
              clear hf hg hcl
              rcases key with k | ⟨k, l⟩ | ⟨k, l, m5⟩ | ⟨k, l, m5, m6⟩ | ⟨k, l, m5, m6, m7⟩ | ⟨k, l, m5, m6, m7, m8⟩
              · go_wp2_with fail
                go_ret2
                exact ⟨rfl, bel.out⟩
              · go_wp2_with fail
                go_ret2
                exact ⟨rfl, bel.out⟩
              · go_wp2_with fail
                go_ret2
                exact ⟨rfl, bel.out⟩
              · go_wp2_with fail
                go_ret2
                exact ⟨rfl, bel.out⟩
              · have t1 : ¬ pl.tmod 8 = 0 := by rw [Int.tmod_eq_emod_of_nonneg (by omega)]; exact m7
                go_wp2_with fail
                go_ret2
                exact ⟨rfl, bel.out⟩
              · have t1 : pl.tmod 8 = 0 := by rw [Int.tmod_eq_emod_of_nonneg (by omega)]; exact m7
                have t2 : ¬ sz.tmod 8 = 0 := by rw [Int.tmod_eq_emod_of_nonneg (by omega)]; exact m8
                have t3 : (sz % 8 != 0) = true := by simpa using m8
                go_wp2_with fail
                go_ret2
                exact ⟨rfl, bel.out⟩
          · have hf := flt_k0 (C := c.size) (D := s.size) (S := S) (i := q) (by rw [E0.out]; exact hname') hcl (by rw [E1.out]; exact h1) (by rw [E1.out]; exact h2)
            obtain ⟨rfl, hy⟩ := HAT.out (by rw [hf]; decide)
            rw [hf] at hy
            subst hy
            have hb1 : (kd == 1) = false := by simpa using h1
            have hb2 : (kd == 2) = false := by simpa using h2
            clear hf hcl
            go_wp2_with fail
            go_ret2
            exact ⟨rfl, bel.out⟩
    · obtain rfl : m = n := by omega
      have HB2 : Hid (Below w.heap.size w wr) := HA.out.trans (hB.mono HA.out.size)
      have HP : Hid (SymsAt wr p m S) := hp1.below hB
      clear hp1 hw
      by_cases h0 : m = 0
      · obtain ⟨rfl, rfl⟩ : x = 0 ∧ y = 23 := by
          cases hl with
          | flt k hk => omega
          | nosym => exact ⟨rfl, rfl⟩
          | short a b => omega
          | ok a b => omega
        subst h0
        clear hl hok
        go_wp2_with fail
        go_ret2
        exact ⟨rfl, HB2.out⟩
      rcases HP.out with hP | ⟨b, o, rfl, hb, hP⟩
      · exact absurd hP h0
      have x1 := (hP.sym (k := 0) (by omega)).2.1
      simp only [Nat.zero_mul, Nat.add_zero] at x1
      obtain ⟨kd, e1⟩ : ∃ s, (S 0).kd = s := ⟨_, rfl⟩
      obtain ⟨cd, e5⟩ : ∃ s, cdU S m = s := ⟨_, rfl⟩
      obtain ⟨dt, e6⟩ : ∃ s, dtU S m = s := ⟨_, rfl⟩
      rw [e1] at x1
      rw [e5, e6]
      rw [e5] at hcd
      have hm0 : 0 < m := by omega
      by_cases h1 : kd = 1
      · by_cases h2 : cd = c.size
        · obtain ⟨rfl, rfl⟩ : x = 0 ∧ y = 0 := by
            cases hl with
            | flt k hk a b => exact absurd (hok k hk) b
            | nosym a b => rcases b with b | b <;> omega
            | short a b c' d => omega
            | ok => exact ⟨rfl, rfl⟩
          subst h1 h2
          clear hl hok e1 e5 e6 hP HP
          go_wp2_with fail
          go_ret2
          exact ⟨rfl, HB2.out⟩
        · obtain ⟨rfl, rfl⟩ : x = 0 ∧ y = 22 := by
            cases hl with
            | flt k hk a b => exact absurd (hok k hk) b
            | nosym a b => rcases b with b | b <;> omega
            | short => exact ⟨rfl, rfl⟩
            | ok a b c' d => omega
          subst h1
          have hcb : (cd == (c.size : Int)) = false := by simpa using h2
          clear hl hok e1 e5 e6 hP HP
          go_wp2_with fail
          go_ret2
          exact ⟨rfl, HB2.out⟩
      · obtain ⟨rfl, rfl⟩ : x = 0 ∧ y = 23 := by
          cases hl with
          | flt k hk a b => exact absurd (hok k hk) b
          | nosym => exact ⟨rfl, rfl⟩
          | short a b c' d => omega
          | ok a b c' d => omega
        have hkb : (kd == 1) = false := by simpa using h1
        have hkc : (kd != 1) = true := by simpa using h1
        clear hl hok e1 e5 e6 hP HP
        go_wp2_with fail
        go_ret2
        exact ⟨rfl, HB2.out⟩
end Go.Proofs.YtelogjpjglohoaaGreatDoor
