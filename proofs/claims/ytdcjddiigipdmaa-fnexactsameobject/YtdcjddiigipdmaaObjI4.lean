/- The program's look at objects: relocations, declarations. -/
import Derived.Test.YtdcjddiigipdmaaObjI2
import Derived.Test.YtdcjddiigipdmaaObjS2
namespace Go.Proofs.Ytdcjddiigipdmaa
open Go Go.RowKit
set_option linter.unusedVariables false

theorem beh_cmp (a b : RelD) : decide (0 < (if cmpV a.un b.un = 0 then cmpV a.pl b.pl else cmpV a.un b.un)) = behB a b := by
  unfold behB cmpV
  rw [decide_eq_decide]
  by_cases h1 : a.un < b.un
  · simp [h1]; omega
  · by_cases h2 : b.un < a.un
    · simp [h1, h2]
    · have e : a.un = b.un := by omega
      simp only [e, Int.lt_irrefl, if_false, if_true, true_and, false_or]
      by_cases h3 : a.pl < b.pl
      · simp [h3]; omega
      · by_cases h4 : b.pl < a.pl
        · simp [h3, h4]
        · simp [h3, h4]

abbrev relC (a : RelD) : Array Value := #[.int .i64 a.un, .int .i64 a.pl, .int .i64 a.kd, .string a.sy, .int .i64 a.ad]
set_option maxRecDepth 100000 in
set_option maxHeartbeats 4000000 in
theorem behI (a b : RelD) (w : World) :
    Calls Try.prog 86 #[.agg (relC a), .agg (relC b)] w fun e w' => e = .returned (.bool (behB a b)) ∧ Below w.heap.size w w' := by
  have bA := (grown1' w (.cells (relC a) 96)).alloc (by simp) (.cells (relC b) 96)
  have l1 := (Lies.new w (relC a) 96).alloc (.cells (relC b) 96)
  have l2 := Lies.newAt (w.alloc (.cells (relC a) 96)) (relC b) 96 (g := w.heap.size + 1) (by simp)
  have hbc := beh_cmp a b
  obtain ⟨x, hx⟩ : ∃ x, cmpV a.un b.un = x := ⟨_, rfl⟩
  obtain ⟨y, hy⟩ : ∃ y, cmpV a.pl b.pl = y := ⟨_, rfl⟩
  rw [hx, hy] at hbc
  obtain ⟨z, hzz⟩ : ∃ z, (if x = 0 then y else x) = z := ⟨_, rfl⟩
  rw [hzz] at hbc
  have c1 := fun W => cmpI a.un b.un W
  have c2 := fun W => cmpI a.pl b.pl W
  rw [hx] at c1
  rw [hy] at c2
  have HBC : Hid (_ = behB a b) := hbc
  have C1 : Hid (∀ W : World, _) := c1
  have C2 : Hid (∀ W : World, _) := c2
  go_enter Try.func86, Try.ntmps86
  go_wp2_with fail
  obtain ⟨W0, hW0⟩ : ∃ W, ((w.alloc (.cells #[.int .i64 a.un, .int .i64 a.pl, .int .i64 a.kd, .string a.sy, .int .i64 a.ad] 96)).alloc (.cells #[.int .i64 b.un, .int .i64 b.pl, .int .i64 b.kd, .string b.sy, .int .i64 b.ad] 96)) = W := ⟨_, rfl⟩
  rw [hW0] at bA l1 l2 ⊢
  have HB : Hid (Below w.heap.size w W0) := bA
  have a0 := l1.cell (j := 0) rfl
  have a1 := l1.cell (j := 1) rfl
  have b0 := l2.cell (j := 0) rfl
  have b1 := l2.cell (j := 1) rfl
  have hz := l2.lt
  have BW : Below W0.heap.size W0 (W0.alloc (.cells #[.int .i64 x, .int .i64 y] 3)).drew := ((Below.refl _ _).alloc (Nat.le_refl _) _).drew
  have ORC := orI W0.heap.size x y (W0.alloc (.cells #[.int .i64 x, .int .i64 y] 3)).drew (by simp) (by simp)
  rw [hzz] at ORC
  have OR : Hid (Calls _ _ _ _ _) := ORC
  have HBW : Hid (Below W0.heap.size W0 (W0.alloc (.cells #[.int .i64 x, .int .i64 y] 3)).drew) := BW
  clear hW0 bA l1 l2 hbc hx hy hzz c1 c2 BW ORC
  go_region_held3 (fun w' => w'.cell? ⟨w.heap.size, 0, none⟩ = some (.int .i64 a.un) ∧ w'.cell? ⟨w.heap.size, 1, none⟩ = some (.int .i64 a.pl) ∧ w'.cell? ⟨w.heap.size + 1, 0, none⟩ = some (.int .i64 b.un) ∧ w'.cell? ⟨w.heap.size + 1, 1, none⟩ = some (.int .i64 b.pl)) (go_keep) (first
    | (go_at_call 121; (first | (with_reducible refine (C1.out _).mono ?_) | (with_reducible refine (C2.out _).mono ?_)); rintro e w3 ⟨rfl, rfl⟩)
    | (go_at_call 120; (with_reducible refine OR.out.mono ?_); rintro e w3 ⟨rfl, rfl⟩))
  all_goals
    go_wp2_with fail
    go_ret
    refine ⟨?_, HB.out.trans (HBW.out.mono HB.out.size)⟩
    rw [← HBC.out]
    first | rfl | simp

set_option maxRecDepth 100000 in
set_option maxHeartbeats 8000000 in
theorem rlI (q : ObjPt) (o : ObjD) (n : Nat) (w : World) (hf : o.nf ≤ 2000000) (hd : o.nd ≤ 2000000) (hnr : o.nr ≤ 2000000) (hw : o.wf) (hn : n < o.nr) (hp : ObjAt w q o) :
    Calls Try.prog 44 #[.agg (objC o q), .int .i64 n] w fun e w' => e = .returned (.int .i64 (fltR o n)) ∧ Below w.heap.size w w' := by
  obtain ⟨pf, cf, pd, cd, pr, cr, ps, cs⟩ := q
  have HP : Hid (∀ W : World, Below w.heap.size w W → ObjAt W ⟨pf, cf, pd, cd, pr, cr, ps, cs⟩ o) := fun W h => hp.below h
  have bA := grown1' w (.cells (objC o ⟨pf, cf, pd, cd, pr, cr, ps, cs⟩) 36)
  have lA := Lies.new w (objC o ⟨pf, cf, pd, cd, pr, cr, ps, cs⟩) 36
  have hpA := hp.below bA
  obtain ⟨w0, w1, w2, w3, w4⟩ := hw.r n hn
  rcases hpA.r with h | ⟨b, oo, hpf, hb, hv⟩
  · omega
  have hpf' : pr = some (⟨b, oo, none⟩ : Addr) := hpf
  clear hpf
  subst hpf'
  obtain ⟨x0, x1, x2, x3, x4⟩ := hv.rel hn
  have hfl : fltR o n = (if (o.R n).pl < 0 ∨ unitN o (o.R n).un ≤ (o.R n).pl then 4 else if mayB o (o.R n).un (o.R n).kd = false then 26 else if nameB (o.R n).sy = false then 3
    else if (o.R n).ad < -2147483648 ∨ 2147483647 < (o.R n).ad then 4 else if 0 < n ∧ behB (o.R n) (o.R (n - 1)) = false then 24 else 0) := rfl
  obtain ⟨r, hr⟩ : ∃ r, o.R n = r := ⟨_, rfl⟩
  rw [hr] at x0 x1 x2 x3 x4 w0 w3 hfl
  have HFL : Hid (fltR o n = _) := hfl
  have HW : Hid o.wf := hw
  have hrow0 := hv
  have HB0 : Hid (Below w.heap.size w ((w.alloc (.cells (objC o ⟨pf, cf, pd, cd, some ⟨b, oo, none⟩, cr, ps, cs⟩) 36)).alloc (.cells (relC r) 96))) := bA.alloc (by simp) _
  have HL0 : Hid (Lies _ w.heap.size 36 (objC o ⟨pf, cf, pd, cd, some ⟨b, oo, none⟩, cr, ps, cs⟩)) := lA.alloc (.cells (relC r) 96)
  have HX0 : Hid (Lies _ (w.heap.size + 1) 96 (relC r)) := Lies.newAt (w.alloc (.cells (objC o ⟨pf, cf, pd, cd, some ⟨b, oo, none⟩, cr, ps, cs⟩) 36)) (relC r) 96 (g := w.heap.size + 1) (by simp)
  have HV0 : Hid (VRow _ b oo (o.nr * 5) (relV o.R)) := hv.below (grown1' _ (.cells (relC r) 96)) hb
  have hb2 : b < (w.heap.size + 1) := by simpa using hb
  clear hpA hv hp bA lA hw hr hfl hb w1 w2 w4
  go_enter Try.func44, Try.ntmps44
  go_wp2_with fail
  obtain ⟨W1, hW1⟩ : ∃ W, ((w.alloc (.cells #[.string o.nm, .int .i64 o.dp, .slice pf o.nf cf, .slice pd o.nd cd, .slice (some ⟨b, oo, none⟩) o.nr cr, .slice ps o.ns cs] 36)).alloc (.cells #[.int .i64 r.un, .int .i64 r.pl, .int .i64 r.kd, .string r.sy, .int .i64 r.ad] 96)) = W := ⟨_, rfl⟩
  rw [hW1] at HB0 HL0 HX0 HV0 ⊢
  obtain ⟨X, hX⟩ : ∃ X, w.heap.size = X := ⟨_, rfl⟩
  have HXX : Hid (w.heap.size = X) := hX
  rw [hX] at HL0 HX0 hb2 ⊢
  have hl0 := HL0.out.lt
  have hx0 := HX0.out.lt
  have hb1 : b < W1.heap.size := by omega
  clear hW1 hX x0 x1 x2 x3 x4 hrow0
  have i0 := obj0 HL0.out
  have i1 := obj1 HL0.out
  have i2 := obj2 HL0.out
  have i3 := obj3 HL0.out
  have i4 := obj4 HL0.out
  have i5 := obj5 HL0.out
  have a0 : W1.cell? ⟨X + 1, 0, none⟩ = some (.int .i64 r.un) := HX0.out.cell (j := 0) rfl
  have a1 : W1.cell? ⟨X + 1, 1, none⟩ = some (.int .i64 r.pl) := HX0.out.cell (j := 1) rfl
  by_cases hneg : r.pl < 0
  · have hf2 := HFL.out
    rw [if_pos (.inl hneg)] at hf2
    have d0 : decide (r.pl < 0) = true := by simpa using hneg
    have bd := HB0.out.drew
    clear HFL
    go_region
    all_goals
      go_wp2_with fail
      go_ret
      exact ⟨by first | rfl | (rw [hf2]; try rfl), bd⟩
  have d0 : decide (r.pl < 0) = false := by simpa using hneg
  have PL := fun W (h : Below W1.heap.size W1 W) => (placesI ⟨pf, cf, pd, cd, some ⟨b, oo, none⟩, cr, ps, cs⟩ o r.un W w0 hf hd HW.out (HP.out W (HB0.out.trans (h.mono HB0.out.size))))
  obtain ⟨us, hus⟩ : ∃ us, unitN o r.un = us := ⟨_, rfl⟩
  rw [hus] at PL HFL
  have HPL : Hid (∀ W : World, Below W1.heap.size W1 W → _) := PL
  clear PL hus
  go_region_held3 (fun w' => w'.cell? ⟨X + 1, 0, none⟩ = some (.int .i64 r.un) ∧ w'.cell? ⟨X + 1, 1, none⟩ = some (.int .i64 r.pl) ∧ w'.cell? ⟨X, 0, none⟩ = some (.string o.nm) ∧ w'.cell? ⟨X, 1, none⟩ = some (.int .i64 o.dp) ∧ w'.cell? ⟨X, 2, none⟩ = some (.slice pf o.nf cf) ∧ w'.cell? ⟨X, 3, none⟩ = some (.slice pd o.nd cd) ∧ w'.cell? ⟨X, 4, none⟩ = some (.slice (some ⟨b, oo, none⟩) o.nr cr) ∧ w'.cell? ⟨X, 5, none⟩ = some (.slice ps o.ns cs)) (go_keep) ((go_at_call 55; refine (HPL.out _ (by first | exact (Below.refl _ _).drew | exact Below.refl _ _)).mono ?_; rintro e w3' ⟨rfl, hb3⟩; have B3 : Below W1.heap.size W1 w3' := (by first | exact (Below.refl W1.heap.size W1).drew.trans hb3 | exact hb3); have l3 := HX0.out.below B3 hx0; have c0 : w3'.cell? ⟨X + 1, 0, none⟩ = some (.int .i64 r.un) := l3.cell (j := 0) rfl; have c1 : w3'.cell? ⟨X + 1, 1, none⟩ = some (.int .i64 r.pl) := l3.cell (j := 1) rfl; have lO3 := HL0.out.below B3 hl0; have b0 := obj0 lO3; have b1 := obj1 lO3; have b2 := obj2 lO3; have b3 := obj3 lO3; have b4 := obj4 lO3; have b5 := obj5 lO3))
  have HB3 : Hid (Below w.heap.size w w3') := HB0.out.trans (B3.mono HB0.out.size)
  have HL3 : Hid (Lies w3' X 36 (objC o ⟨pf, cf, pd, cd, some ⟨b, oo, none⟩, cr, ps, cs⟩)) := lO3
  have HX3 : Hid (Lies w3' (X + 1) 96 (relC r)) := l3
  have HV3 : Hid (VRow w3' b oo (o.nr * 5) (relV o.R)) := HV0.out.below B3 hb1
  have hl3 := lO3.lt
  have hx3 := l3.lt
  have hb3' : b < w3'.heap.size := by omega
  have c2 : w3'.cell? ⟨X + 1, 2, none⟩ = some (.int .i64 r.kd) := l3.cell (j := 2) rfl
  clear hb3 B3 l3 lO3 i0 i1 i2 i3 i4 i5 a0 a1 HPL HX0 HL0 HV0 HP
  by_cases hun : us ≤ r.pl
  · have hf2 := HFL.out
    rw [if_pos (.inr hun)] at hf2
    clear HFL
    go_wp2_with fail
    go_ret
    exact ⟨by first | rfl | (rw [hf2]; try rfl), HB3.out⟩
  have hf1 := HFL.out
  rw [if_neg (by omega)] at hf1
  have HFL1 : Hid (fltR o n = _) := hf1
  clear hf1 HFL
  go_wp2_with fail
  refine (mayI ⟨pf, cf, pd, cd, some ⟨b, oo, none⟩, cr, ps, cs⟩ o r.un r.kd w3').mono ?_
  rintro e w4 ⟨rfl, hb4⟩
  have HB4 : Hid (Below w.heap.size w w4) := HB3.out.trans (hb4.mono HB3.out.size)
  have lO4 := HL3.out.below hb4 hl3
  have l4 := HX3.out.below hb4 hx3
  have HV4 : Hid (VRow w4 b oo (o.nr * 5) (relV o.R)) := HV3.out.below hb4 hb3'
  clear b0 b1 b2 b3 b4 b5 c0 c1 c2 hb4 HL3 HX3 HV3 HB3
  have b4 := obj4 lO4
  have c0 : w4.cell? ⟨X + 1, 0, none⟩ = some (.int .i64 r.un) := l4.cell (j := 0) rfl
  have c1 : w4.cell? ⟨X + 1, 1, none⟩ = some (.int .i64 r.pl) := l4.cell (j := 1) rfl
  have c2 : w4.cell? ⟨X + 1, 2, none⟩ = some (.int .i64 r.kd) := l4.cell (j := 2) rfl
  have c3 : w4.cell? ⟨X + 1, 3, none⟩ = some (.string r.sy) := l4.cell (j := 3) rfl
  have c4 : w4.cell? ⟨X + 1, 4, none⟩ = some (.int .i64 r.ad) := l4.cell (j := 4) rfl
  clear lO4 l4
  by_cases hmy : mayB o r.un r.kd = false
  · have hf2 := HFL1.out
    rw [if_pos hmy] at hf2
    rw [hmy]
    clear HFL1
    go_wp2_with fail
    go_ret
    exact ⟨by first | rfl | (rw [hf2]; try rfl), HB4.out⟩
  have hmy' : mayB o r.un r.kd = true := by cases e : mayB o r.un r.kd <;> simp_all
  have hf1 := HFL1.out
  rw [if_neg hmy] at hf1
  have HFL : Hid (fltR o n = _) := hf1
  rw [hmy']
  clear hf1 HFL1 hmy hmy'
  go_wp2_with fail
  refine (implName_any r.sy _ w3).mono ?_
  rintro e w5 ⟨rfl, rfl⟩
  obtain ⟨W5, rfl⟩ : ∃ W, W = w5 := ⟨_, rfl⟩
  by_cases hname : nameB r.sy = false
  · have hf2 := HFL.out
    rw [if_pos hname] at hf2
    rw [hname]
    clear HFL
    go_wp2_with fail
    go_ret
    exact ⟨by first | rfl | (rw [hf2]; try rfl), HB4.out⟩
  have hname' : nameB r.sy = true := by cases e : nameB r.sy <;> simp_all
  have hf1 := HFL.out
  rw [if_neg hname] at hf1
  have HFL2 : Hid (fltR o n = _) := hf1
  rw [hname']
  clear hf1 HFL hname
  by_cases had : r.ad < -2147483648 ∨ 2147483647 < r.ad
  · have hf2 := HFL2.out
    rw [if_pos had] at hf2
    have key : r.ad < -2147483648 ∨ (¬ r.ad < -2147483648 ∧ 2147483647 < r.ad) := by omega
    clear had HFL2
    rcases key with k | ⟨k, l⟩
    all_goals
      go_wp2_with fail
      go_ret
      exact ⟨by first | rfl | (rw [hf2]; try rfl), HB4.out⟩
  have hf1 := HFL2.out
  rw [if_neg had] at hf1
  have HFL : Hid (fltR o n = _) := hf1
  have ha1 : ¬ r.ad < -2147483648 := by omega
  have ha2 : ¬ 2147483647 < r.ad := by omega
  clear hf1 HFL2 had
  go_wp2_with fail
  by_cases h0 : n = 0
  · have hf2 := HFL.out
    rw [if_neg (by omega)] at hf2
    have bd := HB4.out.drew
    subst h0
    clear HFL
    go_region
    all_goals
      go_wp2_with fail
      go_ret
      exact ⟨by first | rfl | (rw [hf2]; try rfl), bd⟩
  obtain ⟨p, rfl⟩ : ∃ p, n = p + 1 := ⟨n - 1, by omega⟩
  obtain ⟨y0, y1, y2, y3, y4⟩ := HV4.out.rel (k := p) (by omega)
  have hs1 : IntKind.i64.wrap ((p : Int) + 1 - 1) = (p : Int) := by rw [IntKind.wrap_i64]; omega
  have hs2 : IntKind.i64.wrap (p : Int) = (p : Int) := by rw [IntKind.wrap_i64]; omega
  have hs3 : (0 : Int) ≤ (p : Int) := by omega
  have hs4 : (p : Int) < (o.nr : Int) := by omega
  have hs5 : (0 : Int) < (p : Int) + 1 := by omega
  have hpl : p < o.nr := by omega
  obtain ⟨r', hr'⟩ : ∃ r', o.R p = r' := ⟨_, rfl⟩
  rw [hr'] at y0 y1 y2 y3 y4
  have hf3 := HFL.out
  rw [Nat.add_sub_cancel, hr'] at hf3
  have HF3 : Hid (fltR o (p + 1) = _) := hf3
  have hz5 : W5.heap.size ≤ W5.heap.size := Nat.le_refl _
  have BH := fun W (h : Below W5.heap.size W5 W) => (behI r r' W).mono (R' := fun e w' => e = .returned (.bool (behB r r')) ∧ Below W5.heap.size W5 w') (fun e w' k => ⟨k.1, h.trans (k.2.mono h.size)⟩)
  obtain ⟨bb, hbb⟩ : ∃ bb, behB r r' = bb := ⟨_, rfl⟩
  rw [hbb] at BH HF3
  have HBH : Hid (∀ W : World, Below W5.heap.size W5 W → _) := BH
  have hx5 : X + 1 < W5.heap.size := World.block_lt_of_cell? _ _ c0
  have hx6 : X < W5.heap.size := by omega
  have hb5 : b < W5.heap.size := World.block_lt_of_cell? _ _ y0
  clear BH hf3 HFL hbb hr'
  cases bb with
  | true =>
    have hf2 := HF3.out
    rw [if_neg (by simp)] at hf2
    go_region_held3 (fun w' => w'.cell? ⟨X, 4, none⟩ = some (.slice (some ⟨b, oo, none⟩) o.nr cr) ∧ w'.cell? ⟨X + 1, 0, none⟩ = some (.int .i64 r.un) ∧ w'.cell? ⟨X + 1, 1, none⟩ = some (.int .i64 r.pl) ∧ w'.cell? ⟨X + 1, 2, none⟩ = some (.int .i64 r.kd) ∧ w'.cell? ⟨X + 1, 3, none⟩ = some (.string r.sy) ∧ w'.cell? ⟨X + 1, 4, none⟩ = some (.int .i64 r.ad) ∧ w'.cell? ⟨b, oo + p * 5, none⟩ = some (.int .i64 r'.un) ∧ w'.cell? ⟨b, oo + p * 5 + 1, none⟩ = some (.int .i64 r'.pl) ∧ w'.cell? ⟨b, oo + p * 5 + 2, none⟩ = some (.int .i64 r'.kd) ∧ w'.cell? ⟨b, oo + p * 5 + 3, none⟩ = some (.string r'.sy) ∧ w'.cell? ⟨b, oo + p * 5 + 4, none⟩ = some (.int .i64 r'.ad)) (go_keep) ((go_at_call 86; refine (HBH.out _ (by first | exact (Below.refl _ _).drew | exact Below.refl _ _)).mono ?_; rintro e w6 ⟨rfl, hb6⟩; have d4 := (hb6.cell (p := ⟨X, 4, none⟩) hx6).trans b4; have d0 := (hb6.cell (p := ⟨X + 1, 0, none⟩) hx5).trans c0; have d1 := (hb6.cell (p := ⟨X + 1, 1, none⟩) hx5).trans c1; have d2 := (hb6.cell (p := ⟨X + 1, 2, none⟩) hx5).trans c2; have d3 := (hb6.cell (p := ⟨X + 1, 3, none⟩) hx5).trans c3; have d5 := (hb6.cell (p := ⟨X + 1, 4, none⟩) hx5).trans c4; have e0 := (hb6.cell (p := ⟨b, oo + p * 5, none⟩) hb5).trans y0; have e1 := (hb6.cell (p := ⟨b, oo + p * 5 + 1, none⟩) hb5).trans y1; have e2 := (hb6.cell (p := ⟨b, oo + p * 5 + 2, none⟩) hb5).trans y2; have e3 := (hb6.cell (p := ⟨b, oo + p * 5 + 3, none⟩) hb5).trans y3; have e4 := (hb6.cell (p := ⟨b, oo + p * 5 + 4, none⟩) hb5).trans y4))
    all_goals
      have HB6 : Hid (Below w.heap.size w w6) := HB4.out.trans (hb6.mono HB4.out.size)
      clear hb6 d0 d1 d2 d3 d4 d5 e0 e1 e2 e3 e4 HBH
      go_wp2_with fail
      go_ret
      exact ⟨by first | rfl | (rw [hf2]; try rfl), HB6.out⟩
  | false =>
    have hf2 := HF3.out
    rw [if_pos ⟨by omega, rfl⟩] at hf2
    go_region_held3 (fun w' => w'.cell? ⟨X, 4, none⟩ = some (.slice (some ⟨b, oo, none⟩) o.nr cr) ∧ w'.cell? ⟨X + 1, 0, none⟩ = some (.int .i64 r.un) ∧ w'.cell? ⟨X + 1, 1, none⟩ = some (.int .i64 r.pl) ∧ w'.cell? ⟨X + 1, 2, none⟩ = some (.int .i64 r.kd) ∧ w'.cell? ⟨X + 1, 3, none⟩ = some (.string r.sy) ∧ w'.cell? ⟨X + 1, 4, none⟩ = some (.int .i64 r.ad) ∧ w'.cell? ⟨b, oo + p * 5, none⟩ = some (.int .i64 r'.un) ∧ w'.cell? ⟨b, oo + p * 5 + 1, none⟩ = some (.int .i64 r'.pl) ∧ w'.cell? ⟨b, oo + p * 5 + 2, none⟩ = some (.int .i64 r'.kd) ∧ w'.cell? ⟨b, oo + p * 5 + 3, none⟩ = some (.string r'.sy) ∧ w'.cell? ⟨b, oo + p * 5 + 4, none⟩ = some (.int .i64 r'.ad)) (go_keep) ((go_at_call 86; refine (HBH.out _ (by first | exact (Below.refl _ _).drew | exact Below.refl _ _)).mono ?_; rintro e w6 ⟨rfl, hb6⟩; have d4 := (hb6.cell (p := ⟨X, 4, none⟩) hx6).trans b4; have d0 := (hb6.cell (p := ⟨X + 1, 0, none⟩) hx5).trans c0; have d1 := (hb6.cell (p := ⟨X + 1, 1, none⟩) hx5).trans c1; have d2 := (hb6.cell (p := ⟨X + 1, 2, none⟩) hx5).trans c2; have d3 := (hb6.cell (p := ⟨X + 1, 3, none⟩) hx5).trans c3; have d5 := (hb6.cell (p := ⟨X + 1, 4, none⟩) hx5).trans c4; have e0 := (hb6.cell (p := ⟨b, oo + p * 5, none⟩) hb5).trans y0; have e1 := (hb6.cell (p := ⟨b, oo + p * 5 + 1, none⟩) hb5).trans y1; have e2 := (hb6.cell (p := ⟨b, oo + p * 5 + 2, none⟩) hb5).trans y2; have e3 := (hb6.cell (p := ⟨b, oo + p * 5 + 3, none⟩) hb5).trans y3; have e4 := (hb6.cell (p := ⟨b, oo + p * 5 + 4, none⟩) hb5).trans y4))
    all_goals
      have HB6 : Hid (Below w.heap.size w w6) := HB4.out.trans (hb6.mono HB4.out.size)
      clear hb6 d0 d1 d2 d3 d4 d5 e0 e1 e2 e3 e4 HBH
      go_wp2_with fail
      go_ret
      exact ⟨by first | rfl | (rw [hf2]; try rfl), HB6.out⟩

theorem idO (x : Int) (w : World) (b : Bool) (hb : b = true ↔ (0 ≤ x ∧ x ≤ 255)) :
    Calls Try.prog 87 #[.int .i64 x] w fun e w' => e = .returned (.bool b) ∧ w' = w := by
  have hx : b = decide (0 ≤ x ∧ x ≤ 255) := by
    cases b with
    | true => exact (decide_eq_true (hb.1 rfl)).symm
    | false => exact (decide_eq_false (fun h => by have := hb.2 h; cases this)).symm
  subst hx
  clear hb
  by_cases h0 : 0 ≤ x
  · by_cases h1 : x ≤ 255
    · rw [decide_eq_true (show 0 ≤ x ∧ x ≤ 255 from ⟨h0, h1⟩)]
      go_enter Try.func87, Try.ntmps87
      go_wp2
      go_ret
      exact ⟨by first | rfl | simp [h0, h1], rfl⟩
    · rw [decide_eq_false (show ¬ (0 ≤ x ∧ x ≤ 255) from fun h => h1 h.2)]
      go_enter Try.func87, Try.ntmps87
      go_wp2
      go_ret
      exact ⟨by first | rfl | simp [h0, h1], rfl⟩
  · rw [decide_eq_false (show ¬ (0 ≤ x ∧ x ≤ 255) from fun h => h0 h.1)]
    go_enter Try.func87, Try.ntmps87
    go_wp2
    go_ret
    exact ⟨by first | rfl | simp [h0], rfl⟩

set_option maxRecDepth 100000 in
set_option maxHeartbeats 4000000 in
theorem shI (q : ObjPt) (o : ObjD) (n : Nat) (w : World) (hns : o.ns ≤ 2000000) (hn : n < o.ns) (hp : ObjAt w q o) :
    Calls Try.prog 45 #[.agg (objC o q), .int .i64 n] w fun e w' => e = .returned (.int .i64 (fltS o n)) ∧ Below w.heap.size w w' := by
  obtain ⟨pf, cf, pd, cd, pr, cr, ps, cs⟩ := q
  have bA := grown1' w (.cells (objC o ⟨pf, cf, pd, cd, pr, cr, ps, cs⟩) 36)
  have hpA := hp.below bA
  rcases hpA.s with h | ⟨b, oo, hpf, hb, hv⟩
  · omega
  have hpf' : ps = some (⟨b, oo, none⟩ : Addr) := hpf
  clear hpf
  subst hpf'
  obtain ⟨x0, _⟩ := hv.sha hn
  have hfl : fltS o n = if (o.S n).id < 0 ∨ 255 < (o.S n).id then 4 else if 0 < n ∧ (o.S n).id ≤ (o.S (n - 1)).id then 24 else 0 := rfl
  obtain ⟨id, e0⟩ : ∃ s, (o.S n).id = s := ⟨_, rfl⟩
  rw [e0] at x0 hfl
  have HB : Hid (Below w.heap.size w (w.alloc _) ∧ Below w.heap.size w (w.alloc _).drew) := ⟨bA, bA.drew⟩
  by_cases h1 : id < 0 ∨ 255 < id
  · rw [if_pos h1] at hfl
    have HFL : Hid (fltS o n = 4) := hfl
    have HID : Hid (∀ W, Calls Try.prog 87 #[.int .i64 id] W fun e w' => e = .returned (.bool false) ∧ w' = W) := fun W => idO id W false ⟨fun h => (by cases h), fun h => by omega⟩
    clear hfl h1 hpA hv hp bA e0
    go_enter Try.func45, Try.ntmps45
    go_wp2_with fail
    refine (HID.out _).mono ?_
    rintro e w2 ⟨rfl, hw2⟩
    subst hw2
    go_wp2_with fail
    go_ret
    exact ⟨by rw [HFL.out]; try rfl, by first | exact HB.out.1 | exact HB.out.2⟩
  rw [if_neg h1] at hfl
  have HID : Hid (∀ W, Calls Try.prog 87 #[.int .i64 id] W fun e w' => e = .returned (.bool true) ∧ w' = W) := fun W => idO id W true ⟨fun _ => (by omega), fun _ => rfl⟩
  by_cases h0 : n = 0
  · rw [if_neg (by omega)] at hfl
    subst h0
    simp only [Nat.zero_mul, Nat.add_zero] at x0
    have HFL : Hid (fltS o 0 = 0) := hfl
    clear hfl h1 hpA hv hp bA e0
    go_enter Try.func45, Try.ntmps45
    go_wp2_with fail
    refine (HID.out _).mono ?_
    rintro e w2 ⟨rfl, hw2⟩
    subst hw2
    go_wp2_with fail
    try go_region
    all_goals
      go_wp2_with fail
      go_ret
      exact ⟨by rw [HFL.out]; try rfl, by first | exact HB.out.1 | exact HB.out.2⟩
  obtain ⟨p, rfl⟩ : ∃ p, n = p + 1 := ⟨n - 1, by omega⟩
  have y0 := (hv.sha (k := p) (by omega)).1
  obtain ⟨ip, e1⟩ : ∃ s, (o.S p).id = s := ⟨_, rfl⟩
  rw [e1] at y0
  rw [Nat.add_sub_cancel, e1] at hfl
  have hpl : p < o.ns := by omega
  have hs1 : IntKind.i64.wrap ((p : Int) + 1 - 1) = (p : Int) := by rw [IntKind.wrap_i64]; omega
  have hs2 : IntKind.i64.wrap (p : Int) = (p : Int) := by rw [IntKind.wrap_i64]; omega
  have hs3 : (0 : Int) ≤ (p : Int) := by omega
  have hs4 : (p : Int) < (o.ns : Int) := by omega
  have hs5 : (0 : Int) < (p : Int) + 1 := by omega
  by_cases h2 : id ≤ ip
  · rw [if_pos ⟨by omega, h2⟩] at hfl
    have HFL : Hid (fltS o (p + 1) = 24) := hfl
    clear hfl h1 hpA hv hp bA e0 e1
    go_enter Try.func45, Try.ntmps45
    go_wp2_with fail
    refine (HID.out _).mono ?_
    rintro e w2 ⟨rfl, hw2⟩
    subst hw2
    go_wp2_with fail
    try go_region
    all_goals
      go_wp2_with fail
      go_ret
      exact ⟨by rw [HFL.out]; try rfl, by first | exact HB.out.1 | exact HB.out.2⟩
  · rw [if_neg (by omega)] at hfl
    have HFL : Hid (fltS o (p + 1) = 0) := hfl
    clear hfl h1 hpA hv hp bA e0 e1
    go_enter Try.func45, Try.ntmps45
    go_wp2_with fail
    refine (HID.out _).mono ?_
    rintro e w2 ⟨rfl, hw2⟩
    subst hw2
    go_wp2_with fail
    try go_region
    all_goals
      go_wp2_with fail
      go_ret
      exact ⟨by rw [HFL.out]; try rfl, by first | exact HB.out.1 | exact HB.out.2⟩
end Go.Proofs.Ytdcjddiigipdmaa
