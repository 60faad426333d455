/- The model's look at an object's relocations. -/
import Derived.Test.YtdcjddiigipdmaaObjS2
namespace Go.Proofs.Ytdcjddiigipdmaa
open Go Go.RowKit
set_option linter.unusedVariables false

/-- The model's way to say that a unit may have a kind. -/
theorem may_eq {o : ObjD} {u k : Int} : mayB o u k = false ↔ (k < 1 ∨ 9 < k) ∨ (decide (k = 9) != decide ((o.nf : Int) ≤ u)) = true := by
  unfold mayB
  by_cases h : u < o.nf
  · rw [if_pos h, show decide ((o.nf : Int) ≤ u) = false from by simp; omega]
    by_cases h9 : k = 9
    · subst h9; simp
    · simp [h9]; omega
  · rw [if_neg h, show decide ((o.nf : Int) ≤ u) = true from by simp; omega]
    by_cases h9 : k = 9
    · subst h9; simp
    · simp [h9]
theorem unit_le {o : ObjD} {u pl : Int} (h : 0 ≤ pl) : unitS o u ≤ pl ↔ unitN o u ≤ pl := by
  unfold unitS
  split
  · rename_i h1
    unfold unitN
    rw [if_pos h1]
    omega
  · exact Iff.rfl

set_option maxRecDepth 100000 in
set_option maxHeartbeats 16000000 in
theorem specRelocs (q : ObjPt) (o : ObjD) (w : World) (hn : o.nr ≤ 2000000) (hnf : o.nf ≤ 2000000) (hnd : o.nd ≤ 2000000) (hw : o.wf) (hp : ObjAt w q o) (x y : Int) (hl : FstIs o.nr (fltR o) x y) :
    Calls Try.prog 75 #[.agg (objC o q)] w fun e w' => e = .returned (.tuple #[.int .i64 x, .int .i64 y]) ∧ Below w.heap.size w w' := by
  obtain ⟨pf, cf, pd, cd, pr, cr, ps, cs⟩ := q
  have bA := grown1' w (.cells (objC o ⟨pf, cf, pd, cd, pr, cr, ps, cs⟩) 36)
  have lA := Lies.new w (objC o ⟨pf, cf, pd, cd, pr, cr, ps, cs⟩) 36
  have hpo := hp.below bA
  have hp1 := hpo.r
  go_enter Try.func75, Try.ntmps75
  go_wp2_with fail
  obtain ⟨W0, hW0⟩ : ∃ W0, w.alloc (.cells #[.string o.nm, .int .i64 o.dp, .slice pf o.nf cf, .slice pd o.nd cd, .slice pr o.nr cr, .slice ps o.ns cs] 36) = W0 := ⟨_, rfl⟩
  rw [hW0] at bA lA hp1 hpo ⊢
  obtain ⟨X0, hX0⟩ : ∃ X, w.heap.size = X := ⟨_, rfl⟩
  rw [hX0] at bA lA ⊢
  have HX0 : Hid (w.heap.size = X0) := hX0
  have HA : Hid (Below X0 w W0) := bA
  have HL0 : Hid (Lies W0 X0 36 (objC o ⟨pf, cf, pd, cd, pr, cr, ps, cs⟩)) := lA
  have HPO : Hid (ObjAt W0 ⟨pf, cf, pd, cd, pr, cr, ps, cs⟩ o) := hpo
  have HW : Hid (o.wf) := hw
  have hlt0 := lA.lt
  clear hW0 hX0 hp bA lA hpo
  go_loopw [4] (fun i wr => ∃ m : Nat, m ≤ o.nr ∧ i = .int .i64 m ∧ (∀ j, j < m → fltR o j = 0) ∧ Below W0.heap.size W0 wr) (fun i _ => o.nr - (intOf i).toNat)
  case atStart => exact ⟨0, Nat.zero_le _, rfl, fun j hj => absurd hj (Nat.not_lt_zero _), Below.refl _ _⟩
  case round =>
    obtain ⟨m, hm, rfl, hok, hB⟩ := hrel
    have lO := HL0.out.below hB hlt0
    have j4 := obj4 lO
    by_cases hlt : m < o.nr
    · rcases hp1 with hp1 | ⟨b, oo, hpf, hb, hp1⟩
      · omega
      have hpf' : pr = some (⟨b, oo, none⟩ : Addr) := hpf
      clear hpf
      subst hpf'
      have hrow := hp1.below hB hb
      obtain ⟨x0, x1, x2, x3, x4⟩ := hrow.rel hlt
      obtain ⟨w0, w1, w2, w3, w4⟩ := hw.r m hlt
      have HAT : Hid (fltR o m ≠ 0 → x = ((m : Nat) : Int) ∧ y = fltR o m) := fun hne => hl.at hlt hok hne
      have HOK : Hid (∀ j, j < m → fltR o j = 0) := hok
      have hfl : fltR o m = (if (o.R m).pl < 0 ∨ unitN o (o.R m).un ≤ (o.R m).pl then 4 else if mayB o (o.R m).un (o.R m).kd = false then 26 else if nameB (o.R m).sy = false then 3
        else if (o.R m).ad < -2147483648 ∨ 2147483647 < (o.R m).ad then 4 else if 0 < m ∧ behB (o.R m) (o.R (m - 1)) = false then 24 else 0) := rfl
      have hbeh : ∀ p, behB (o.R m) (o.R p) = decide ((o.R p).un < (o.R m).un ∨ ((o.R m).un = (o.R p).un ∧ (o.R p).pl < (o.R m).pl)) := fun p => rfl
      obtain ⟨un, e0⟩ : ∃ s, (o.R m).un = s := ⟨_, rfl⟩
      obtain ⟨pl, e1⟩ : ∃ s, (o.R m).pl = s := ⟨_, rfl⟩
      obtain ⟨kd, e2⟩ : ∃ s, (o.R m).kd = s := ⟨_, rfl⟩
      obtain ⟨sy, e3⟩ : ∃ s, (o.R m).sy = s := ⟨_, rfl⟩
      obtain ⟨ad, e4⟩ : ∃ s, (o.R m).ad = s := ⟨_, rfl⟩
      rw [e0] at x0 w0
      rw [e1] at x1
      rw [e2] at x2
      rw [e3] at x3 w3
      rw [e4] at x4
      rw [e0, e1, e2, e3, e4] at hfl
      rw [e0, e1] at hbeh
      have HFL : Hid (fltR o m = _) := hfl
      have HBE : Hid (∀ p, _) := hbeh
      have HU : Hid ((Lit.int .i64 un).wf = true) := w0
      have w3' := w3
      have hsz := hB.size
      have bX := grown1' wr (.cells #[.int .i64 un, .int .i64 pl, .int .i64 kd, .string sy, .int .i64 ad] 96)
      have lX := Lies.new wr #[.int .i64 un, .int .i64 pl, .int .i64 kd, .string sy, .int .i64 ad] 96
      have HB1 : Hid (Below W0.heap.size W0 _) := hB.trans (bX.mono hsz)
      have HR1 : Hid (VRow _ b oo (o.nr * 5) (relV o.R)) := hrow.below bX (Nat.lt_of_lt_of_le hb hsz)
      clear e0 e1 e2 e3 e4 hok hrow hp1 hw bX hfl hbeh w0 w1 w2 w3 w4 lO
      go_wp2_with fail
      obtain ⟨W1, hW1⟩ : ∃ W1, (wr.alloc (.cells #[.int .i64 un, .int .i64 pl, .int .i64 kd, .string sy, .int .i64 ad] 96)) = W1 := ⟨_, rfl⟩
      obtain ⟨X, hX⟩ : ∃ X, wr.heap.size = X := ⟨_, rfl⟩
      rw [hW1] at HB1 HR1 lX ⊢
      rw [hX] at lX ⊢
      have hX1 := lX.lt
      have HLX : Hid (Lies W1 X 96 _) := lX
      have hl1 := HB1.out.size
      have HF : Hid (Below w.heap.size w W1) := by rw [HX0.out]; exact HA.out.trans (HB1.out.mono (Nat.le_of_lt hlt0))
      have lO := HL0.out.below HB1.out hlt0
      have HO1 : Hid (Lies W1 X0 36 (objC o ⟨pf, cf, pd, cd, some ⟨b, oo, none⟩, cr, ps, cs⟩)) := lO
      have m0 := lX.cell (j := 0) rfl
      have m1 := lX.cell (j := 1) rfl
      have o0 := obj0 lO
      have o1 := obj1 lO
      have o2 := obj2 lO
      have o3 := obj3 lO
      have o4 := obj4 lO
      have o5 := obj5 lO
      clear hW1 hX hB lX lO j4 x0 x1 x2 x3 x4 hsz
      have US := fun W h => unitSpec ⟨pf, cf, pd, cd, some ⟨b, oo, none⟩, cr, ps, cs⟩ o un W HU.out hnf hnd HW.out (HPO.out.below h)
      have HUS : Hid (∀ W : World, Below W0.heap.size W0 W → _) := US
      clear US
      by_cases hneg : pl < 0
      · have hf := HFL.out
        rw [if_pos (.inl hneg)] at hf
        obtain ⟨rfl, hy⟩ := HAT.out (by rw [hf]; decide)
        rw [hf] at hy
        subst hy
        have d0 : decide (pl < 0) = true := by simpa using hneg
        have bd := HF.out.drew
        clear hf
        go_region
        all_goals
          go_wp2_with fail
          go_ret2
          exact ⟨rfl, bd⟩
      have d0 : decide (pl < 0) = false := by simpa using hneg
      obtain ⟨us, hus⟩ : ∃ us, unitS o un = us := ⟨_, rfl⟩
      have hul : us ≤ pl ↔ unitN o un ≤ pl := by rw [← hus]; exact unit_le (by omega)
      rw [hus] at HUS
      have HUL : Hid (us ≤ pl ↔ unitN o un ≤ pl) := hul
      clear hus hul
      go_region_held3 (fun w' => w'.cell? ⟨X, 0, none⟩ = some (.int .i64 un) ∧ w'.cell? ⟨X, 1, none⟩ = some (.int .i64 pl) ∧ w'.cell? ⟨X0, 0, none⟩ = some (.string o.nm) ∧ w'.cell? ⟨X0, 1, none⟩ = some (.int .i64 o.dp) ∧ w'.cell? ⟨X0, 2, none⟩ = some (.slice pf o.nf cf) ∧ w'.cell? ⟨X0, 3, none⟩ = some (.slice pd o.nd cd) ∧ w'.cell? ⟨X0, 4, none⟩ = some (.slice (some ⟨b, oo, none⟩) o.nr cr) ∧ w'.cell? ⟨X0, 5, none⟩ = some (.slice ps o.ns cs)) (go_keep) ((go_at_call 54; refine (HUS.out _ (by first | exact HB1.out | exact HB1.out.drew)).mono ?_; rintro e w3 ⟨rfl, hb3⟩; have B3 : Below W1.heap.size W1 w3 := (by first | exact hb3 | exact (Below.refl W1.heap.size W1).drew.trans hb3); have l3 := HLX.out.below B3 hX1; have a0 := l3.cell (j := 0) rfl; have a1 := l3.cell (j := 1) rfl; have lO3 := HO1.out.below B3 (Nat.lt_of_lt_of_le hlt0 hl1); have b0 := obj0 lO3; have b1 := obj1 lO3; have b2 := obj2 lO3; have b3 := obj3 lO3; have b4 := obj4 lO3; have b5 := obj5 lO3))
      have HB3 : Hid (Below W0.heap.size W0 w3) := HB1.out.trans (B3.mono hl1)
      have HF3 : Hid (Below w.heap.size w w3) := HF.out.trans (B3.mono HF.out.size)
      have HL3 : Hid (Lies w3 X 96 _) := l3
      have a2 := l3.cell (j := 2) rfl
      have a3 := l3.cell (j := 3) rfl
      have a4 := l3.cell (j := 4) rfl
      have HR3 : Hid (VRow w3 b oo (o.nr * 5) (relV o.R)) := HR1.out.below B3 (Nat.lt_of_lt_of_le hb hl1)
      have HO3 : Hid (Lies w3 X0 36 (objC o ⟨pf, cf, pd, cd, some ⟨b, oo, none⟩, cr, ps, cs⟩)) := lO3
      have hX3 : X < w3.heap.size := l3.lt
      clear m0 m1 o0 o1 o2 o3 o4 o5 hb3 B3 l3 lO3 HUS
      by_cases hun : us ≤ pl
      · have hf := HFL.out
        rw [if_pos (.inr (HUL.out.1 hun))] at hf
        obtain ⟨rfl, hy⟩ := HAT.out (by rw [hf]; decide)
        rw [hf] at hy
        subst hy
        clear hf
        go_wp2_with fail
        go_ret2
        exact ⟨rfl, HF3.out⟩
      have hf1 := HFL.out
      rw [if_neg (by have := HUL.out; omega)] at hf1
      have HFL1 : Hid (fltR o m = _) := hf1
      clear hf1 HFL
      by_cases hmy : mayB o un kd = false
      · have hf := HFL1.out
        rw [if_pos hmy] at hf
        obtain ⟨rfl, hy⟩ := HAT.out (by rw [hf]; decide)
        rw [hf] at hy
        subst hy
        have hk := may_eq.1 hmy
        clear hf hmy
        rcases Classical.em (1 ≤ kd ∧ kd ≤ 9) with hk1 | hk1
        · have hk2 : (decide (kd = 9) != decide ((o.nf : Int) ≤ un)) = true := by
            rcases hk with hk | hk
            · omega
            · exact hk
          by_cases h9 : kd = 9
          · subst h9
            have hu : ¬ (o.nf : Int) ≤ un := by simpa using hk2
            have hub : decide ((o.nf : Int) ≤ un) = false := by simpa using hu
            clear hk hk2
            go_wp2_with fail
            refine (spIn 9 1 9 _ true (.inl ⟨rfl, by omega, by omega⟩)).mono ?_
            rintro e w5 ⟨rfl, rfl⟩
            go_wp2_with fail
            go_ret2
            exact ⟨rfl, HF3.out⟩
          · have h9b : (kd == 9) = false := by simpa using h9
            have hu : (o.nf : Int) ≤ un := by simpa [h9] using hk2
            have hub : decide ((o.nf : Int) ≤ un) = true := by simpa using hu
            clear hk hk2
            go_wp2_with fail
            refine (spIn kd 1 9 _ true (.inl ⟨rfl, by omega, by omega⟩)).mono ?_
            rintro e w5 ⟨rfl, rfl⟩
            go_wp2_with fail
            go_ret2
            exact ⟨rfl, HF3.out⟩
        · clear hk
          go_wp2_with fail
          refine (spIn kd 1 9 _ false (.inr ⟨rfl, by omega⟩)).mono ?_
          rintro e w5 ⟨rfl, rfl⟩
          go_wp2_with fail
          go_ret2
          exact ⟨rfl, HF3.out⟩
      have hf1 := HFL1.out
      rw [if_neg hmy] at hf1
      have HFL : Hid (fltR o m = _) := hf1
      clear hf1 HFL1
      have hk1 : 1 ≤ kd ∧ kd ≤ 9 := by
        refine Classical.byContradiction fun h => hmy (may_eq.2 (.inl (by omega)))
      have hk2 : (decide (kd = 9) != decide ((o.nf : Int) ≤ un)) = false := by
        cases e : (decide (kd = 9) != decide ((o.nf : Int) ≤ un)) with
        | false => rfl
        | true => exact absurd (may_eq.2 (.inr e)) hmy
      have hk3 : (kd = 9 ∧ (o.nf : Int) ≤ un) ∨ (¬ kd = 9 ∧ ¬ (o.nf : Int) ≤ un) := by
        by_cases h9 : kd = 9
        · left; refine ⟨h9, ?_⟩; simpa [h9] using hk2
        · right; refine ⟨h9, ?_⟩; simpa [h9] using hk2
      clear hk2 hmy
      obtain ⟨kb, hkb⟩ : ∃ c : Bool, (kd == 9) = c := ⟨_, rfl⟩
      have hkb2 : decide ((o.nf : Int) ≤ un) = kb := by
        rcases hk3 with ⟨h9, hu⟩ | ⟨h9, hu⟩
        · rw [← hkb, h9]; simpa using hu
        · have e1 : (kd == 9) = false := by simpa using h9
          rw [← hkb, e1]; simpa using hu
      have hkb3 : (kb != kb) = false := by cases kb <;> rfl
      clear hk3
      go_wp2_with fail
      refine (spIn kd 1 9 _ true (.inl ⟨rfl, hk1.1, hk1.2⟩)).mono ?_
      rintro e w5 ⟨rfl, rfl⟩
      go_wp2_with fail
      refine (specWord_any sy _ w3').mono ?_
      rintro e w5 ⟨rfl, rfl⟩
      by_cases hname : nameB sy = false
      · have hf := HFL.out
        rw [if_pos hname] at hf
        obtain ⟨rfl, hy⟩ := HAT.out (by rw [hf]; decide)
        rw [hf] at hy
        subst hy
        rw [hname]
        clear hf
        go_wp2_with fail
        go_ret2
        exact ⟨rfl, HF3.out⟩
      have hname' : nameB sy = true := by cases e : nameB sy <;> simp_all
      have hf1 := HFL.out
      rw [if_neg hname] at hf1
      have HFL2 : Hid (fltR o m = _) := hf1
      rw [hname']
      clear hf1 HFL hname
      by_cases had : ad < -2147483648 ∨ 2147483647 < ad
      · have hf := HFL2.out
        rw [if_pos had] at hf
        obtain ⟨rfl, hy⟩ := HAT.out (by rw [hf]; decide)
        rw [hf] at hy
        subst hy
        clear hf
        go_wp2_with fail
        refine (spIn ad (-2147483648) 2147483647 _ false (.inr ⟨rfl, had⟩)).mono ?_
        rintro e w5 ⟨rfl, rfl⟩
        go_wp2_with fail
        go_ret2
        exact ⟨rfl, HF3.out⟩
      have hf1 := HFL2.out
      rw [if_neg had] at hf1
      have HFL : Hid (fltR o m = _) := hf1
      clear hf1 HFL2
      have had' : -2147483648 ≤ ad ∧ ad ≤ 2147483647 := by omega
      clear had
      have HAD : Hid (-2147483648 ≤ ad ∧ ad ≤ 2147483647) := had'
      clear had'
      go_wp2_with fail
      refine (spIn ad (-2147483648) 2147483647 _ true (.inl ⟨rfl, HAD.out.1, HAD.out.2⟩)).mono ?_
      rintro e w5 ⟨rfl, rfl⟩
      obtain ⟨W5, rfl⟩ : ∃ W, W = w5 := ⟨_, rfl⟩
      by_cases h0 : m = 0
      · have hf := HFL.out
        rw [if_neg (by omega)] at hf
        have HALL : Hid (∀ j, j < m + 1 → fltR o j = 0) := FstIs.more HOK.out hf
        have HB : Hid (Below W0.heap.size W0 W5 ∧ Below W0.heap.size W0 W5.drew) := ⟨HB3.out, HB3.out.drew⟩
        clear hf
        go_wp2_with fail
        go_region
        all_goals
          go_wp2_with fail
          go_roundw
          case rel => exact ⟨m + 1, by omega, by go_num, HALL.out, by first | exact HB.out.2 | exact HB.out.1⟩
          case measure => simp [intOf]; omega
      obtain ⟨p, rfl⟩ : ∃ p, m = p + 1 := ⟨m - 1, by omega⟩
      obtain ⟨y0, y1, _, _, _⟩ := HR3.out.rel (k := p) (by omega)
      have hbe := HBE.out p
      obtain ⟨pu, e0⟩ : ∃ s, (o.R p).un = s := ⟨_, rfl⟩
      obtain ⟨pp, e1⟩ : ∃ s, (o.R p).pl = s := ⟨_, rfl⟩
      rw [e0] at y0 hbe
      rw [e1] at y1 hbe
      have hpl : p < o.nr := by omega
      have hsub : IntKind.i64.wrap (((p + 1 : Nat) : Int) - 1) = (p : Int) := by rw [IntKind.wrap_i64]; omega
      have HBH : Hid (_ = decide (pu < un ∨ (un = pu ∧ pp < pl))) := hbe
      clear e0 e1 hbe
      have hgt : decide (((p + 1 : Nat) : Int) > 0) = true := by simp <;> omega
      have hs1 : IntKind.i64.wrap ((p : Int) + 1 - 1) = (p : Int) := by rw [IntKind.wrap_i64]; omega
      have hs2 : IntKind.i64.wrap (p : Int) = (p : Int) := by rw [IntKind.wrap_i64]; omega
      have hs3 : (0 : Int) ≤ (p : Int) := by omega
      have hs4 : (p : Int) < (o.nr : Int) := by omega
      go_wp2_with fail
      have hbl3 : b < W5.heap.size := by have h1 := HB3.out.size; omega
      have hX03 : X0 < W5.heap.size := HO3.out.lt
      have BW : Below W5.heap.size W5 (((W5.alloc (.cells #[.int .i64 pu, .int .i64 pp] 3)).alloc (.cells #[.int .i64 un, .int .i64 pl] 3)).drew) := (((Below.refl _ _).alloc (Nat.le_refl _) _).alloc (by simp) _).drew
      have BW2 : Below W5.heap.size W5 (((W5.alloc (.cells #[.int .i64 un, .int .i64 pl] 3)).alloc (.cells #[.int .i64 pu, .int .i64 pp] 3)).drew) := (((Below.refl _ _).alloc (Nat.le_refl _) _).alloc (by simp) _).drew
      have LS := lessSpec W5.heap.size (W5.heap.size + 1) pu pp un pl (((W5.alloc (.cells #[.int .i64 pu, .int .i64 pp] 3)).alloc (.cells #[.int .i64 un, .int .i64 pl] 3)).drew) (by simp) (by simp) (by simp) (by simp)
      have LS2 := lessSpec (W5.heap.size + 1) W5.heap.size pu pp un pl (((W5.alloc (.cells #[.int .i64 un, .int .i64 pl] 3)).alloc (.cells #[.int .i64 pu, .int .i64 pp] 3)).drew) (by simp) (by simp) (by simp) (by simp)
      have hfin := HFL.out
      rw [Nat.add_sub_cancel, HBH.out] at hfin
      by_cases hlast : pu < un ∨ (pu = un ∧ pp < pl)
      · have hd : decide (pu < un ∨ (pu = un ∧ pp < pl)) = true := decide_eq_true hlast
        have hd2 : decide (pu < un ∨ (un = pu ∧ pp < pl)) = true := decide_eq_true (by rcases hlast with h | h; exact .inl h; exact .inr ⟨h.1.symm, h.2⟩)
        rw [hd2, if_neg (by simp)] at hfin
        have HALL : Hid (∀ j, j < p + 1 + 1 → fltR o j = 0) := FstIs.more HOK.out hfin
        rw [hd] at LS LS2
        have HLS : Hid (Calls _ _ _ _ _) := LS.mono (R' := fun e w' => e = .returned (.bool true) ∧ Below W5.heap.size W5 w') (fun e w' h => ⟨h.1, BW.trans (h.2.mono BW.size)⟩)
        have HLS2 : Hid (Calls _ _ _ _ _) := LS2.mono (R' := fun e w' => e = .returned (.bool true) ∧ Below W5.heap.size W5 w') (fun e w' h => ⟨h.1, BW2.trans (h.2.mono BW2.size)⟩)
        clear BW LS BW2 LS2 hfin hd2 hd
        go_region_held3 (fun w' => w'.cell? ⟨X0, 4, none⟩ = some (.slice (some ⟨b, oo, none⟩) o.nr cr) ∧ w'.cell? ⟨X, 0, none⟩ = some (.int .i64 un) ∧ w'.cell? ⟨X, 1, none⟩ = some (.int .i64 pl) ∧ w'.cell? ⟨b, oo + p * 5, none⟩ = some (.int .i64 pu) ∧ w'.cell? ⟨b, oo + p * 5 + 1, none⟩ = some (.int .i64 pp)) (go_keep) ((go_at_call 116; (first | (with_reducible refine HLS.out.mono ?_) | (with_reducible refine HLS2.out.mono ?_)); rintro e w6 ⟨rfl, hb6⟩; have c4 := (hb6.cell (p := ⟨X0, 4, none⟩) hX03).trans b4; have c0 := (hb6.cell (p := ⟨X, 0, none⟩) hX3).trans a0; have c1 := (hb6.cell (p := ⟨X, 1, none⟩) hX3).trans a1; have c2 := (hb6.cell (p := ⟨b, oo + p * 5, none⟩) hbl3).trans y0; have c3 := (hb6.cell (p := ⟨b, oo + p * 5 + 1, none⟩) hbl3).trans y1))
        all_goals
          have HB6 : Hid (Below W0.heap.size W0 w6) := HB3.out.trans (hb6.mono HB3.out.size)
          have HF6 : Hid (Below w.heap.size w w6) := HF3.out.trans (hb6.mono HF3.out.size)
          clear hb6 c0 c1 c2 c3 c4 HLS HLS2
          go_wp2_with fail
          go_roundw
          case rel => exact ⟨p + 1 + 1, by omega, by go_num, HALL.out, HB6.out⟩
          case measure => simp [intOf]; omega
      · have hd : decide (pu < un ∨ (pu = un ∧ pp < pl)) = false := decide_eq_false hlast
        have hd2 : decide (pu < un ∨ (un = pu ∧ pp < pl)) = false := decide_eq_false (fun h => hlast (by rcases h with h | h; exact .inl h; exact .inr ⟨h.1.symm, h.2⟩))
        rw [hd2, if_pos ⟨by omega, rfl⟩] at hfin
        obtain ⟨rfl, hy⟩ := HAT.out (by rw [hfin]; decide)
        rw [hfin] at hy
        subst hy
        rw [hd] at LS LS2
        have HLS : Hid (Calls _ _ _ _ _) := LS.mono (R' := fun e w' => e = .returned (.bool false) ∧ Below W5.heap.size W5 w') (fun e w' h => ⟨h.1, BW.trans (h.2.mono BW.size)⟩)
        have HLS2 : Hid (Calls _ _ _ _ _) := LS2.mono (R' := fun e w' => e = .returned (.bool false) ∧ Below W5.heap.size W5 w') (fun e w' h => ⟨h.1, BW2.trans (h.2.mono BW2.size)⟩)
        clear BW LS BW2 LS2 hfin hd2 hd
        go_region_held3 (fun w' => w'.cell? ⟨X0, 4, none⟩ = some (.slice (some ⟨b, oo, none⟩) o.nr cr) ∧ w'.cell? ⟨X, 0, none⟩ = some (.int .i64 un) ∧ w'.cell? ⟨X, 1, none⟩ = some (.int .i64 pl) ∧ w'.cell? ⟨b, oo + p * 5, none⟩ = some (.int .i64 pu) ∧ w'.cell? ⟨b, oo + p * 5 + 1, none⟩ = some (.int .i64 pp)) (go_keep) ((go_at_call 116; (first | (with_reducible refine HLS.out.mono ?_) | (with_reducible refine HLS2.out.mono ?_)); rintro e w6 ⟨rfl, hb6⟩; have c4 := (hb6.cell (p := ⟨X0, 4, none⟩) hX03).trans b4; have c0 := (hb6.cell (p := ⟨X, 0, none⟩) hX3).trans a0; have c1 := (hb6.cell (p := ⟨X, 1, none⟩) hX3).trans a1; have c2 := (hb6.cell (p := ⟨b, oo + p * 5, none⟩) hbl3).trans y0; have c3 := (hb6.cell (p := ⟨b, oo + p * 5 + 1, none⟩) hbl3).trans y1))
        all_goals
          have HB6 : Hid (Below W0.heap.size W0 w6) := HB3.out.trans (hb6.mono HB3.out.size)
          have HF6 : Hid (Below w.heap.size w w6) := HF3.out.trans (hb6.mono HF3.out.size)
          clear hb6 c0 c1 c2 c3 c4 HLS HLS2
          go_wp2_with fail
          go_ret2
          exact ⟨rfl, HF6.out⟩
    · obtain rfl : m = o.nr := by omega
      obtain ⟨rfl, rfl⟩ := hl.end hok
      have HF : Hid (Below w.heap.size w wr) := by rw [HX0.out]; exact HA.out.trans (hB.mono (Nat.le_of_lt hlt0))
      clear hp1 hw hl hok lO
      go_wp2_with fail
      go_ret2
      exact ⟨rfl, HF.out⟩
end Go.Proofs.Ytdcjddiigipdmaa
