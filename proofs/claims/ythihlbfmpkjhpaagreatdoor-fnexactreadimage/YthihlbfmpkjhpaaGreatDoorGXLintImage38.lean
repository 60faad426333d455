/- The program's look at an image's data by themselves. The program's look at an image's symbols: a symbol among the others. The program's look at an image's symbols, all of them. The model's look at an image, whole. Runs: what their words are; both readings of them. -/
import Derived.Test.YthihlbfmpkjhpaaGreatDoorGXLintImage37
import Derived.Test.YthihlbfmpkjhpaaGreatDoorGXLintImage1
namespace Go.Proofs.YthihlbfmpkjhpaaGreatDoor
open Go Go.RowKit
set_option linter.unusedVariables false

set_option maxRecDepth 100000 in
set_option maxHeartbeats 8000000 in
theorem addDatNo (g : Nat) (c s nm : ByteArray) (p : Option Addr) (n kk : Nat) (fe de pl sz fr : Int) (w : World) (hl : Lies w g 52 (layC c s p n kk fe de)) (hs : s.size ≤ 1048576) (h0 : 0 ≤ de) (hpw : pl ≤ 9223372036854775807)
    (h : ¬ (de ≤ pl ∧ pl % 8 = 0 ∧ 1 ≤ sz ∧ sz % 8 = 0 ∧ sz ≤ s.size - pl)) :
    Calls Tryz.prog 92 #[.pointer (some ⟨g, 0, none⟩), .agg #[.string nm, .int .i64 2, .int .i64 pl, .int .i64 sz, .int .i64 fr]] w fun e w' => LayAns g c s p n kk 4 fe de w e w' := by
  have hlt := hl.lt
  have bA := grown1' w (.cells #[.string nm, .int .i64 2, .int .i64 pl, .int .i64 sz, .int .i64 fr] 76)
  have l1 := hl.alloc (.cells #[.string nm, .int .i64 2, .int .i64 pl, .int .i64 sz, .int .i64 fr] 76)
  obtain ⟨W, hW⟩ : ∃ W, (w.alloc (.cells #[.string nm, .int .i64 2, .int .i64 pl, .int .i64 sz, .int .i64 fr] 76)) = W := ⟨_, rfl⟩
  obtain ⟨X, hX⟩ : ∃ X, w.heap.size = X := ⟨_, rfl⟩
  have z2 : W.cell? ⟨X, 2, none⟩ = some (.int .i64 pl) := by rw [← hW, ← hX]; simp
  have z3 : W.cell? ⟨X, 3, none⟩ = some (.int .i64 sz) := by rw [← hW, ← hX]; simp
  have z4 : W.cell? ⟨X, 4, none⟩ = some (.int .i64 fr) := by rw [← hW, ← hX]; simp
  have hgx : g < X := by rw [← hX]; exact hlt
  have hne : g ≠ X := by omega
  rw [hW, hX] at bA
  rw [hW] at l1
  have HB : Hid (Below g w W) := bA.mono (show g ≤ X by omega)
  have m0 := l1.cell (j := 0) rfl
  have m1 := l1.cell (j := 1) rfl
  have m3 := l1.cell (j := 3) rfl
  have m4 := l1.cell (j := 4) rfl
  have f4 := l1.fro 4
  have HL : Hid (Lies W g 52 (layC c s p n kk fe de)) := l1
  have key : pl < de ∨ (de ≤ pl ∧ ¬ pl % 8 = 0) ∨ (de ≤ pl ∧ pl % 8 = 0 ∧ sz < 1) ∨ (de ≤ pl ∧ pl % 8 = 0 ∧ 1 ≤ sz ∧ ¬ sz % 8 = 0) ∨ (de ≤ pl ∧ pl % 8 = 0 ∧ 1 ≤ sz ∧ sz % 8 = 0 ∧ s.size - pl < sz) := by omega
  clear h hl l1 bA
  rcases key with k | ⟨k, l⟩ | ⟨k, l, m⟩ | ⟨k, l, m, o⟩ | ⟨k, l, m, o, q⟩
  · have d0 : decide (pl < de) = true := by simpa using k
    go_enter Tryz.func92, Tryz.ntmps92
    go_wp2_with fail
    try rw [hW, hX]
    clear hW hX
    go_region
    all_goals
      go_wp2_with fail
      go_ret
      exact ⟨rfl, HB.out.drew, HL.out.drew⟩
  · have t1 : ¬ pl.tmod 8 = 0 := by rw [Int.tmod_eq_emod_of_nonneg (by omega)]; exact l
    have t3 : (pl.tmod 8 != 0) = true := by simpa using t1
    have t4 : (pl % 8 != 0) = true := by simpa using l
    have d0 : decide (pl < de) = false := by simpa using k
    go_enter Tryz.func92, Tryz.ntmps92
    go_wp2_with fail
    try rw [hW, hX]
    clear hW hX
    go_region_held3 (fun w' => w'.cell? ⟨X, 2, none⟩ = some (.int .i64 pl) ∧ w'.cell? ⟨X, 3, none⟩ = some (.int .i64 sz) ∧ w'.cell? ⟨X, 4, none⟩ = some (.int .i64 fr) ∧ w'.cell? ⟨g, 0, none⟩ = some (.string c) ∧ w'.cell? ⟨g, 1, none⟩ = some (.string s) ∧ w'.cell? ⟨g, 3, none⟩ = some (.int .i64 fe) ∧ w'.cell? ⟨g, 4, none⟩ = some (.int .i64 de)) (go_keep) (fail)
    all_goals
      go_wp2_with fail
      go_ret
      exact ⟨rfl, HB.out.drew, HL.out.drew⟩
  · have t1 : pl.tmod 8 = 0 := by rw [Int.tmod_eq_emod_of_nonneg (by omega)]; exact l
    have d0 : decide (pl < de) = false := by simpa using k
    have d1 : decide (sz < 1) = true := by simpa using m
    go_enter Tryz.func92, Tryz.ntmps92
    go_wp2_with fail
    try rw [hW, hX]
    clear hW hX
    go_region_held3 (fun w' => w'.cell? ⟨X, 2, none⟩ = some (.int .i64 pl) ∧ w'.cell? ⟨X, 3, none⟩ = some (.int .i64 sz) ∧ w'.cell? ⟨X, 4, none⟩ = some (.int .i64 fr) ∧ w'.cell? ⟨g, 0, none⟩ = some (.string c) ∧ w'.cell? ⟨g, 1, none⟩ = some (.string s) ∧ w'.cell? ⟨g, 3, none⟩ = some (.int .i64 fe) ∧ w'.cell? ⟨g, 4, none⟩ = some (.int .i64 de)) (go_keep) (fail)
    go_wp2_with fail
    go_region
    all_goals
      go_wp2_with fail
      go_ret
      exact ⟨rfl, HB.out.drew.drew, HL.out.drew.drew⟩
  · have t1 : pl.tmod 8 = 0 := by rw [Int.tmod_eq_emod_of_nonneg (by omega)]; exact l
    have d0 : decide (pl < de) = false := by simpa using k
    have d1 : decide (sz < 1) = false := by simpa using m
    have t2 : ¬ sz.tmod 8 = 0 := by rw [Int.tmod_eq_emod_of_nonneg (by omega)]; exact o
    have t3 : (sz.tmod 8 != 0) = true := by simpa using t2
    have t4 : (sz % 8 != 0) = true := by simpa using o
    go_enter Tryz.func92, Tryz.ntmps92
    go_wp2_with fail
    try rw [hW, hX]
    clear hW hX
    go_region_held3 (fun w' => w'.cell? ⟨X, 2, none⟩ = some (.int .i64 pl) ∧ w'.cell? ⟨X, 3, none⟩ = some (.int .i64 sz) ∧ w'.cell? ⟨X, 4, none⟩ = some (.int .i64 fr) ∧ w'.cell? ⟨g, 0, none⟩ = some (.string c) ∧ w'.cell? ⟨g, 1, none⟩ = some (.string s) ∧ w'.cell? ⟨g, 3, none⟩ = some (.int .i64 fe) ∧ w'.cell? ⟨g, 4, none⟩ = some (.int .i64 de)) (go_keep) (fail)
    go_wp2_with fail
    go_region
    all_goals
      go_wp2_with fail
      go_ret
      exact ⟨rfl, HB.out.drew.drew, HL.out.drew.drew⟩
  · have t1 : pl.tmod 8 = 0 := by rw [Int.tmod_eq_emod_of_nonneg (by omega)]; exact l
    have d0 : decide (pl < de) = false := by simpa using k
    have d1 : decide (sz < 1) = false := by simpa using m
    have t2 : sz.tmod 8 = 0 := by rw [Int.tmod_eq_emod_of_nonneg (by omega)]; exact o
    have q4 : IntKind.i64.wrap ((s.size : Int) - pl) = s.size - pl := by rw [IntKind.wrap_i64]; omega
    have d2 : decide ((s.size : Int) - pl < sz) = true := by simpa using q
    go_enter Tryz.func92, Tryz.ntmps92
    go_wp2_with fail
    try rw [hW, hX]
    clear hW hX
    go_region_held3 (fun w' => w'.cell? ⟨X, 2, none⟩ = some (.int .i64 pl) ∧ w'.cell? ⟨X, 3, none⟩ = some (.int .i64 sz) ∧ w'.cell? ⟨X, 4, none⟩ = some (.int .i64 fr) ∧ w'.cell? ⟨g, 0, none⟩ = some (.string c) ∧ w'.cell? ⟨g, 1, none⟩ = some (.string s) ∧ w'.cell? ⟨g, 3, none⟩ = some (.int .i64 fe) ∧ w'.cell? ⟨g, 4, none⟩ = some (.int .i64 de)) (go_keep) (fail)
    go_wp2_with fail
    go_region_held3 (fun w' => w'.cell? ⟨X, 2, none⟩ = some (.int .i64 pl) ∧ w'.cell? ⟨X, 3, none⟩ = some (.int .i64 sz) ∧ w'.cell? ⟨X, 4, none⟩ = some (.int .i64 fr) ∧ w'.cell? ⟨g, 0, none⟩ = some (.string c) ∧ w'.cell? ⟨g, 1, none⟩ = some (.string s) ∧ w'.cell? ⟨g, 3, none⟩ = some (.int .i64 fe) ∧ w'.cell? ⟨g, 4, none⟩ = some (.int .i64 de)) (go_keep) (fail)
    all_goals
      go_wp2_with fail
      go_ret
      exact ⟨rfl, HB.out.drew.drew, HL.out.drew.drew⟩
end Go.Proofs.YthihlbfmpkjhpaaGreatDoor

namespace Go.Proofs.YthihlbfmpkjhpaaGreatDoor
open Go Go.RowKit
set_option linter.unusedVariables false

/-- A symbol's fault; where it is right, the ends behind it. -/
def AddAns (g : Nat) (c s : ByteArray) (p : Option Addr) (n kk : Nat) (S : Nat → SymD) (k : Nat) (w : World) (e : Ending) (w' : World) : Prop :=
  e = .returned (.int .i64 (fltI c.size s.size S k)) ∧ Below g w w' ∧ ∃ fe de, Lies w' g 52 (layC c s p n kk fe de) ∧ (fltI c.size s.size S k = 0 → fe = cdU S (k + 1) ∧ de = dtU S (k + 1))
theorem AddAns.of {g : Nat} {c s : ByteArray} {p : Option Addr} {n kk : Nat} {S : Nat → SymD} {k : Nat} {w : World} {e : Ending} {w1 w' : World} {x fe de : Int} (hb : Below g w w1) (h : LayAns g c s p n kk x fe de w1 e w') (hx : fltI c.size s.size S k = x) (hy : x = 0 → fe = cdU S (k + 1) ∧ de = dtU S (k + 1)) : AddAns g c s p n kk S k w e w' := by
  obtain ⟨h1, h2, h3⟩ := h
  exact ⟨by rw [hx]; exact h1, hb.trans h2, fe, de, h3, fun h0 => hy (hx.symm.trans h0)⟩

set_option maxRecDepth 100000 in
set_option maxHeartbeats 8000000 in
theorem addC (g b o : Nat) (c s : ByteArray) (n kk : Nat) (S : Nat → SymD) (k : Nat) (w : World) (hk : k < n) (hn : n ≤ 16) (hkk : n ≤ kk) (hc : c.size ≤ 1024) (hs : s.size ≤ 256) (hw : (S k).wf) (hp : VRow w b o (n * 5) (symV S)) (hb : b < g)
    (hok : ∀ j, j < k → fltI c.size s.size S j = 0) (hl : Lies w g 52 (layC c s (some ⟨b, o, none⟩) n kk (cdU S k) (dtU S k))) :
    Calls Tryz.prog 59 #[.pointer (some ⟨g, 0, none⟩), .int .i64 k] w fun e w' => AddAns g c s (some ⟨b, o, none⟩) n kk S k w e w' := by
  obtain ⟨hcd, hdt⟩ := cdU_bd (C := c.size) (D := s.size) k (by omega) (by omega) hok
  obtain ⟨x0, x1, x2, x3, x4⟩ := hp.sym hk
  obtain ⟨hnw, _, w2, w3, w4⟩ := hw
  have hlt := hl.lt
  have m2 := hl.cell (j := 2) rfl
  obtain ⟨r, hr⟩ := fstNm_ex k S (S k).nm
  have hcl := hr.clash
  have hcu : cdU S (k + 1) = if (S k).kd = 1 then cdU S k + (S k).sz else cdU S k := rfl
  have hdu : dtU S (k + 1) = if (S k).kd = 2 then (S k).pl + (S k).sz else dtU S k := rfl
  have F0 := flt_nm (C := c.size) (D := s.size) (S := S) (i := k)
  have F1 := flt_cl (C := c.size) (D := s.size) (S := S) (i := k)
  have F2 := flt_k1 (C := c.size) (D := s.size) (S := S) (i := k)
  have F3 := flt_k2 (C := c.size) (D := s.size) (S := S) (i := k)
  have F4 := flt_k0 (C := c.size) (D := s.size) (S := S) (i := k)
  obtain ⟨cl, ecl⟩ : ∃ y, clashB S k = y := ⟨_, rfl⟩
  obtain ⟨cu, ecu⟩ : ∃ y, cdU S (k + 1) = y := ⟨_, rfl⟩
  obtain ⟨du, edu⟩ : ∃ y, dtU S (k + 1) = y := ⟨_, rfl⟩
  obtain ⟨fl, efl⟩ : ∃ y, fltI c.size s.size S k = y := ⟨_, rfl⟩
  have HF : Hid (fltI c.size s.size S k = fl) := efl
  have HCU : Hid (cdU S (k + 1) = cu) := ecu
  have HDU : Hid (dtU S (k + 1) = du) := edu
  have HP : Hid (VRow w b o (n * 5) (symV S)) := hp
  have HR : Hid (∀ w' : World, VRow w' b o (n * 5) (symV S) → b < w'.heap.size → Calls Tryz.prog 53 #[.slice (some ⟨b, o, none⟩) k kk, .string (S k).nm] w' fun e w'' => e = .returned (.int .i64 r) ∧ Below w'.heap.size w' w'') :=
    fun w' h h' => named _ k kk S _ w' (by omega) (.inr ⟨b, o, rfl, h', fun i hi => h i (by omega)⟩) r hr
  rw [ecu] at hcu
  rw [edu] at hdu
  rw [ecl] at hcl F1 F2 F3 F4
  rw [efl] at F0 F1 F2 F3 F4
  clear ecu edu efl ecl hp hok hr
  obtain ⟨cd, e5⟩ : ∃ y, cdU S k = y := ⟨_, rfl⟩
  obtain ⟨dt, e6⟩ : ∃ y, dtU S k = y := ⟨_, rfl⟩
  rw [e5] at hcd hcu hl F2
  rw [e6] at hdt hdu hl F3
  obtain ⟨nm, e0⟩ : ∃ y, (S k).nm = y := ⟨_, rfl⟩
  obtain ⟨kd, e1⟩ : ∃ y, (S k).kd = y := ⟨_, rfl⟩
  obtain ⟨pl, e2⟩ : ∃ y, (S k).pl = y := ⟨_, rfl⟩
  obtain ⟨sz, e3⟩ : ∃ y, (S k).sz = y := ⟨_, rfl⟩
  obtain ⟨fr, e4⟩ : ∃ y, (S k).fr = y := ⟨_, rfl⟩
  rw [e0] at x0 hnw HR F0 F1 F2 F3 F4
  rw [e1] at x1 hcu hdu F2 F3 F4
  rw [e2] at x2 w2 hdu F2 F3
  rw [e3] at x3 w3 hcu hdu F2 F3
  rw [e4] at x4 w4 F3
  clear e0 e1 e2 e3 e4 e5 e6
  have hpw : pl ≤ 9223372036854775807 := by rw [Lit.wf_int_iff, IntKind.min_i64, IntKind.max_i64] at w2; exact w2.2
  have bY := grown1' w (.cells #[.string nm, .int .i64 kd, .int .i64 pl, .int .i64 sz, .int .i64 fr] 76)
  have l1 := hl.alloc (.cells #[.string nm, .int .i64 kd, .int .i64 pl, .int .i64 sz, .int .i64 fr] 76)
  have hp1 := HP.out.below bY (Nat.lt_trans hb hlt)
  obtain ⟨W, hW⟩ : ∃ W, (w.alloc (.cells #[.string nm, .int .i64 kd, .int .i64 pl, .int .i64 sz, .int .i64 fr] 76)) = W := ⟨_, rfl⟩
  obtain ⟨Y, hY⟩ : ∃ Y, w.heap.size = Y := ⟨_, rfl⟩
  have z0 : W.cell? ⟨Y, 0, none⟩ = some (.string nm) := by rw [← hW, ← hY]; simp
  have z1 : W.cell? ⟨Y, 1, none⟩ = some (.int .i64 kd) := by rw [← hW, ← hY]; simp
  have z2 : W.cell? ⟨Y, 2, none⟩ = some (.int .i64 pl) := by rw [← hW, ← hY]; simp
  have z3 : W.cell? ⟨Y, 3, none⟩ = some (.int .i64 sz) := by rw [← hW, ← hY]; simp
  have z4 : W.cell? ⟨Y, 4, none⟩ = some (.int .i64 fr) := by rw [← hW, ← hY]; simp
  have zl : Y < W.heap.size := by rw [← hW, ← hY]; simp
  have hgY : g < Y := by rw [← hY]; exact hlt
  rw [hW] at bY l1 hp1
  rw [hY] at bY
  have HB : Hid (Below g w W) := bY.mono (Nat.le_of_lt hgY)
  have HL : Hid (Lies W g 52 (layC c s (some ⟨b, o, none⟩) n kk cd dt)) := l1
  have n2 := l1.cell (j := 2) rfl
  have HPW : Hid (VRow W b o (n * 5) (symV S)) := hp1
  have HC : Hid ((cl = true ∧ 0 ≤ r) ∨ (cl = false ∧ r = -1)) := hcl
  have G0 : Hid _ := F0
  have G1 : Hid _ := F1
  have G2 : Hid _ := F2
  have G3 : Hid _ := F3
  have G4 : Hid _ := F4
  have HCU' : Hid (cu = if kd = 1 then cd + sz else cd) := hcu
  have HDU' : Hid (du = if kd = 2 then pl + sz else dt) := hdu
  have hbW : b < W.heap.size := by omega
  have hkz : (0 : Int) ≤ (k : Int) := by omega
  have hkn : (k : Int) ≤ (kk : Int) := by omega
  go_enter Tryz.func59, Tryz.ntmps59
  go_wp2_with fail
  try rw [hW]
  try rw [hY]
  clear hW hY bY hl l1 hp1 F0 F1 F2 F3 F4 hcu hdu hcl m2 x0 x1 x2 x3 x4 HP
  refine (implName_any nm _ hnw).mono ?_
  rintro e w5 ⟨rfl, rfl⟩
  by_cases hname : nameB nm = false
  · have hfl := G0.out hname
    rw [hname]
    go_wp2_with fail
    go_ret
    exact AddAns.of HB.out ⟨rfl, Below.refl _ _, HL.out⟩ (HF.out.trans hfl) (fun h => by cases h)
  have hname' : nameB nm = true := by cases e : nameB nm <;> simp_all
  rw [hname']
  clear hname
  go_wp2_with fail
  go_region_held3 (fun w' => w'.cell? ⟨g, 2, none⟩ = some (.slice (some ⟨b, o, none⟩) n kk) ∧ w'.cell? ⟨Y, 0, none⟩ = some (.string nm)) (go_keep) (first | (go_at_call 53; refine (HR.out _ (by first | exact HPW.out | exact HPW.out.drew) (by exact hbW)).mono ?_; rintro e w6 ⟨rfl, hb6⟩; have b6 : Below w5.heap.size w5 w6 := (by first | exact hb6 | exact (Below.refl w5.heap.size w5).drew.trans hb6); have k2 := (b6.cell (p := ⟨g, 2, none⟩) (Nat.lt_trans hgY zl)).trans n2; have k0 := (b6.cell (p := ⟨Y, 0, none⟩) zl).trans z0))
  have l6 := HL.out.below b6 (Nat.lt_trans hgY zl)
  have q1 := (b6.cell (p := ⟨Y, 1, none⟩) zl).trans z1
  have q2 := (b6.cell (p := ⟨Y, 2, none⟩) zl).trans z2
  have q3 := (b6.cell (p := ⟨Y, 3, none⟩) zl).trans z3
  have q4 := (b6.cell (p := ⟨Y, 4, none⟩) zl).trans z4
  have H6 : Hid (Below g w w6) := HB.out.trans (b6.mono (by omega))
  have HL6 : Hid (Lies w6 g 52 (layC c s (some ⟨b, o, none⟩) n kk cd dt)) := l6
  clear hb6 b6 l6 z0 z1 z2 z3 z4 n2 HR HPW HL HB
  rcases HC.out with ⟨rfl, hr0⟩ | ⟨rfl, rfl⟩
  · have hfl := G1.out hname' rfl
    clear HC
    go_wp2_with fail
    go_ret
    exact AddAns.of H6.out ⟨rfl, Below.refl _ _, HL6.out⟩ (HF.out.trans hfl) (fun h => by cases h)
  clear HC G0 G1
  by_cases h1 : kd = 1
  · have hfl := G2.out hname' rfl h1
    subst h1
    have ecu : cu = cd + sz := by have := HCU'.out; rwa [if_pos rfl] at this
    have edu : du = dt := by have := HDU'.out; rwa [if_neg (by decide)] at this
    have ECU : Hid (cdU S (k + 1) = cd + sz) := HCU.out.trans ecu
    have EDU : Hid (dtU S (k + 1) = dt) := HDU.out.trans edu
    clear ecu edu HCU HDU HCU' HDU' G2 G3 G4
    by_cases hg : pl = cd ∧ 1 ≤ sz ∧ sz ≤ c.size - cd
    · rw [if_pos hg] at hfl
      obtain ⟨rfl, g1, g2⟩ := hg
      have HFL : Hid (fltI c.size s.size S k = 0) := HF.out.trans hfl
      clear hfl HF
      go_wp2_with fail
      refine (addFnYes g c s nm _ n kk pl dt sz fr w6 HL6.out (by omega) (by omega) g1 g2).mono ?_
      rintro e w7 ⟨rfl, hb7, hl7⟩
      have HA : Hid (AddAns g c s (some ⟨b, o, none⟩) n kk S k w (.returned (.int .i64 0)) w7) := AddAns.of H6.out ⟨rfl, hb7, hl7⟩ HFL.out (fun _ => ⟨ECU.out.symm, EDU.out.symm⟩)
      clear hb7 hl7 k2 k0 q1 q2 q3 q4
      go_wp2_with fail
      go_ret
      exact HA.out
    · rw [if_neg hg] at hfl
      have HFL : Hid (fltI c.size s.size S k = 4) := HF.out.trans hfl
      have HG : Hid (¬ (pl = cd ∧ 1 ≤ sz ∧ sz ≤ c.size - cd)) := hg
      clear hfl HF hg
      go_wp2_with fail
      refine (addFnNo g c s nm _ n kk cd dt pl sz fr w6 HL6.out (by omega) (by omega) (by omega) HG.out).mono ?_
      rintro e w7 ⟨rfl, hb7, hl7⟩
      have HA : Hid (AddAns g c s (some ⟨b, o, none⟩) n kk S k w (.returned (.int .i64 4)) w7) := AddAns.of H6.out ⟨rfl, hb7, hl7⟩ HFL.out (fun h => by cases h)
      clear hb7 hl7 k2 k0 q1 q2 q3 q4
      go_wp2_with fail
      go_ret
      exact HA.out
  have hb1 : (kd == 1) = false := by simpa using h1
  by_cases h2 : kd = 2
  · have hfl := G3.out hname' rfl h2
    subst h2
    have ecu : cu = cd := by have := HCU'.out; rwa [if_neg (by decide)] at this
    have edu : du = pl + sz := by have := HDU'.out; rwa [if_pos rfl] at this
    have ECU : Hid (cdU S (k + 1) = cd) := HCU.out.trans ecu
    have EDU : Hid (dtU S (k + 1) = pl + sz) := HDU.out.trans edu
    clear ecu edu HCU HDU HCU' HDU' G2 G3 G4
    by_cases hg : dt ≤ pl ∧ pl ≤ s.size ∧ 1 ≤ sz ∧ sz ≤ s.size - pl ∧ pl % 8 = 0 ∧ sz % 8 = 0
    · rw [if_pos hg] at hfl
      obtain ⟨g1, g2, g3, g4, g5, g6⟩ := hg
      have hx : (fr = 0 ∧ fl = 0) ∨ (fr ≠ 0 ∧ fl = 17) := by
        by_cases e : fr = 0
        · rw [if_pos e] at hfl; exact .inl ⟨e, hfl⟩
        · rw [if_neg e] at hfl; exact .inr ⟨e, hfl⟩
      have HX : Hid _ := hx
      clear hfl hx
      go_wp2_with fail
      refine (addDatYes g c s nm _ n kk cd dt pl sz fr fl w6 HL6.out (by omega) (by omega) g1 g5 g3 g6 g4 HX.out).mono ?_
      rintro e w7 ⟨rfl, hb7, hl7⟩
      have HA : Hid (AddAns g c s (some ⟨b, o, none⟩) n kk S k w (.returned (.int .i64 fl)) w7) := AddAns.of H6.out ⟨rfl, hb7, hl7⟩ HF.out (fun h => ⟨ECU.out.symm, by rw [if_pos h]; exact EDU.out.symm⟩)
      clear hb7 hl7 k2 k0 q1 q2 q3 q4
      go_wp2_with fail
      go_ret
      exact HA.out
    · rw [if_neg hg] at hfl
      have HFL : Hid (fltI c.size s.size S k = 4) := HF.out.trans hfl
      have HG : Hid (¬ (dt ≤ pl ∧ pl % 8 = 0 ∧ 1 ≤ sz ∧ sz % 8 = 0 ∧ sz ≤ s.size - pl)) := by show ¬ _; omega
      clear hfl HF hg
      go_wp2_with fail
      refine (addDatNo g c s nm _ n kk cd dt pl sz fr w6 HL6.out (by omega) (by omega) hpw HG.out).mono ?_
      rintro e w7 ⟨rfl, hb7, hl7⟩
      have HA : Hid (AddAns g c s (some ⟨b, o, none⟩) n kk S k w (.returned (.int .i64 4)) w7) := AddAns.of H6.out ⟨rfl, hb7, hl7⟩ HFL.out (fun h => by cases h)
      clear hb7 hl7 k2 k0 q1 q2 q3 q4
      go_wp2_with fail
      go_ret
      exact HA.out
  have hfl := G4.out hname' rfl h1 h2
  have hb2 : (kd == 2) = false := by simpa using h2
  clear G2 G3 G4
  go_wp2_with fail
  go_ret
  exact AddAns.of H6.out ⟨rfl, Below.refl _ _, HL6.out⟩ (HF.out.trans hfl) (fun h => by cases h)
end Go.Proofs.YthihlbfmpkjhpaaGreatDoor

namespace Go.Proofs.YthihlbfmpkjhpaaGreatDoor
open Go Go.RowKit
set_option linter.unusedVariables false

/-- A list of symbols below block g. -/
def SymsLow (w : World) (g : Nat) (p : Option Addr) (n : Nat) (S : Nat → SymD) : Prop := n = 0 ∨ ∃ b o, p = some ⟨b, o, none⟩ ∧ b < g ∧ VRow w b o (n * 5) (symV S)
theorem SymsLow.below {w w' : World} {g : Nat} {p : Option Addr} {n : Nat} {S : Nat → SymD} (h : SymsLow w g p n S) (hb : Below g w w') : SymsLow w' g p n S := by
  rcases h with h | ⟨b, o, e, hlt, hf⟩
  · exact .inl h
  · exact .inr ⟨b, o, e, hlt, hf.below hb hlt⟩

/-- The first symbol that is wrong, or none. -/
def SymAns (g : Nat) (c s : ByteArray) (p : Option Addr) (n kk : Nat) (S : Nat → SymD) (w : World) (e : Ending) (w' : World) : Prop :=
  Below g w w' ∧ ((∃ k, k < n ∧ (∀ j, j < k → fltI c.size s.size S j = 0) ∧ fltI c.size s.size S k ≠ 0 ∧ e = .returned (.tuple #[.int .i64 k, .int .i64 (fltI c.size s.size S k)])) ∨
    ((∀ j, j < n → fltI c.size s.size S j = 0) ∧ e = .returned (.tuple #[.int .i64 0, .int .i64 0]) ∧ Lies w' g 52 (layC c s p n kk (cdU S n) (dtU S n))))

set_option maxRecDepth 100000 in
set_option maxHeartbeats 4000000 in
theorem symFltC (g : Nat) (c s : ByteArray) (p : Option Addr) (n kk : Nat) (S : Nat → SymD) (w : World) (hn : n ≤ 16) (hkk : n ≤ kk) (hc : c.size ≤ 1024) (hs : s.size ≤ 256) (hw : ∀ i, i < n → (S i).wf) (hp : SymsLow w g p n S)
    (hl : Lies w g 52 (layC c s p n kk 0 0)) :
    Calls Tryz.prog 33 #[.pointer (some ⟨g, 0, none⟩)] w fun e w' => SymAns g c s p n kk S w e w' := by
  have m2 := hl.cell (j := 2) rfl
  have HL : Hid (Lies w g 52 (layC c s p n kk 0 0)) := hl
  clear hl
  go_enter Tryz.func33, Tryz.ntmps33
  go_wp2_with fail
  go_loopw [12] (fun i wr => ∃ m : Nat, m ≤ n ∧ i = .int .i64 m ∧ (∀ j, j < m → fltI c.size s.size S j = 0) ∧ Below g w wr ∧ Lies wr g 52 (layC c s p n kk (cdU S m) (dtU S m))) (fun i _ => n - (intOf i).toNat)
  case atStart => exact ⟨0, Nat.zero_le _, rfl, fun j hj => absurd hj (Nat.not_lt_zero _), Below.refl _ _, HL.out⟩
  case round =>
    obtain ⟨m, hm, rfl, hok, hB, hl⟩ := hrel
    by_cases hlt : m < n
    · rcases hp with hp | ⟨b, o, rfl, hb, hp⟩
      · omega
      have add := addC g b o c s n kk S m wr hlt hn hkk hc hs (hw m hlt) (hp.below hB hb) hb hok hl
      have HOK : Hid (∀ j, j < m → fltI c.size s.size S j = 0) := hok
      have HB : Hid (Below g w wr) := hB
      obtain ⟨x, hx⟩ : ∃ x, fltI c.size s.size S m = x := ⟨_, rfl⟩
      have HX : Hid (fltI c.size s.size S m = x) := hx
      clear hok hB hl hp hw hx
      go_wp2_with fail
      refine add.mono ?_
      rintro e w2 ⟨rfl, hb2, fe, de, hl2, hz⟩
      have HB2 : Hid (Below g w w2) := HB.out.trans hb2
      have HL2 : Hid (Lies w2 g 52 (layC c s (some ⟨b, o, none⟩) n kk fe de)) := hl2
      have HZ : Hid (fltI c.size s.size S m = 0 → fe = cdU S (m + 1) ∧ de = dtU S (m + 1)) := hz
      rw [HX.out]
      clear add hb2 hl2 hz HB
      by_cases h0 : x = 0
      · subst h0
        obtain ⟨rfl, rfl⟩ := HZ.out HX.out
        go_wp2_with fail
        go_roundw
        case rel => exact ⟨m + 1, by omega, by go_num, fun j hj => by
          rcases Nat.lt_succ_iff_lt_or_eq.1 hj with h' | rfl
          · exact HOK.out j h'
          · exact HX.out, HB2.out, HL2.out⟩
        case measure => simp [intOf]; omega
      · have h0b : (x == 0) = false := by simpa using h0
        have HA : Hid (SymAns g c s (some ⟨b, o, none⟩) n kk S w (.returned (.tuple #[.int .i64 m, .int .i64 x])) w2) :=
          ⟨HB2.out, .inl ⟨m, hlt, HOK.out, by rw [HX.out]; exact h0, by rw [HX.out]⟩⟩
        clear HZ HOK HX
        go_wp2_with fail
        go_ret2
        exact HA.out
    · obtain rfl : m = n := by omega
      have HA : Hid (SymAns g c s p m kk S w (.returned (.tuple #[.int .i64 0, .int .i64 0])) wr) := ⟨hB, .inr ⟨hok, rfl, hl⟩⟩
      clear hok hB hl hp hw
      go_wp2_with fail
      go_ret2
      exact HA.out

/-- The fault of all symbols together. -/
def whF (n : Nat) (C : Int) (S : Nat → SymD) : Int := if n = 0 ∨ (S 0).kd ≠ 1 then 23 else if cdU S n ≠ C then 22 else 0
set_option maxRecDepth 100000 in
set_option maxHeartbeats 4000000 in
theorem wholeFltC (g : Nat) (c s : ByteArray) (p : Option Addr) (n kk : Nat) (S : Nat → SymD) (fe de : Int) (w : World) (hc : c.size ≤ 1024) (hn : n ≤ 16) (hp : SymsLow w g p n S) (hl : Lies w g 52 (layC c s p n kk fe de)) (hfe : fe = cdU S n) :
    Calls Tryz.prog 34 #[.pointer (some ⟨g, 0, none⟩)] w fun e w' => e = .returned (.int .i64 (whF n c.size S)) ∧ Below w.heap.size w w' := by
  have m0 := hl.cell (j := 0) rfl
  have m2 := hl.cell (j := 2) rfl
  have m3 := hl.cell (j := 3) rfl
  unfold whF
  by_cases h0 : n = 0
  · subst h0
    rw [if_pos (.inl rfl)]
    clear hp hl m0 m3
    go_enter Tryz.func34, Tryz.ntmps34
    go_wp2_with fail
    go_ret
    exact ⟨rfl, Below.refl _ _⟩
  rcases hp with hp | ⟨b, o, rfl, hb, hp⟩
  · omega
  obtain ⟨x0, x1, x2, x3, x4⟩ := hp.sym (k := 0) (by omega)
  rw [Nat.zero_mul, Nat.add_zero] at x1
  obtain ⟨kd, e1⟩ : ∃ y, (S 0).kd = y := ⟨_, rfl⟩
  rw [e1] at x1 ⊢
  have h0z : (0 : Int) < (n : Int) := by omega
  have hnz : ((n : Int) == 0) = false := by simp; omega
  clear hp hl e1 x0 x2 x3 x4
  by_cases h1 : kd = 1
  · subst h1
    rw [if_neg (by omega)]
    by_cases hf : cdU S n = c.size
    · rw [if_neg (by omega)]
      have e : fe = c.size := hfe.trans hf
      subst e
      clear hfe hf
      go_enter Tryz.func34, Tryz.ntmps34
      go_wp2_with fail
      go_region
      all_goals
        go_wp2_with fail
        go_ret
        exact ⟨rfl, (Below.refl _ _).drew⟩
    · rw [if_pos hf]
      have e : ¬ fe = c.size := by rw [hfe]; exact hf
      have e' : (fe == (c.size : Int)) = false := by simpa using e
      clear hfe hf
      go_enter Tryz.func34, Tryz.ntmps34
      go_wp2_with fail
      go_region
      all_goals
        go_wp2_with fail
        go_ret
        exact ⟨rfl, (Below.refl _ _).drew⟩
  · have h1b : (kd == 1) = false := by simpa using h1
    rw [if_pos (.inr h1)]
    go_enter Tryz.func34, Tryz.ntmps34
    go_wp2_with fail
    go_ret
    exact ⟨rfl, Below.refl _ _⟩
end Go.Proofs.YthihlbfmpkjhpaaGreatDoor

namespace Go.Proofs.YthihlbfmpkjhpaaGreatDoor
open Go Go.RowKit
set_option linter.unusedVariables false

theorem placeSpec (nm : ByteArray) (kd pl sz fr : Int) (w : World) (h0 : 0 ≤ pl) (h1 : pl ≤ 1048576) :
    Calls Tryz.prog 51 #[.agg #[.string nm, .int .i64 kd, .int .i64 pl, .int .i64 sz, .int .i64 fr]] w fun e w' => e = .returned (.int .i64 (if kd = 1 then 4096 + pl else 16384 + pl)) ∧ Below w.heap.size w w' := by
  by_cases h : kd = 1
  · rw [if_pos h]
    subst h
    go_enter Tryz.func51, Tryz.ntmps51
    go_wp2
    go_ret
    exact ⟨rfl, grown1' _ _⟩
  · rw [if_neg h]
    have hb : (kd == 1) = false := by simpa using h
    go_enter Tryz.func51, Tryz.ntmps51
    go_wp2
    go_ret
    exact ⟨rfl, grown1' _ _⟩

set_option maxRecDepth 100000 in
set_option maxHeartbeats 4000000 in
theorem specEnt (p : Option Addr) (n kk : Nat) (S : Nat → SymD) (w : World) (hn : n ≤ 16) (hb : ∀ i, i < n → 0 ≤ (S i).pl ∧ (S i).pl ≤ 1048576) (hp : SymsAt w p n S) :
    Calls Tryz.prog 56 #[.slice p n kk] w fun e w' => (∃ q d, e = .returned (.slice q (entU S n).length d) ∧ OwnI w' w.heap.size q (entU S n).length (fun i => (entU S n).getD i 0)) ∧ Below w.heap.size w w' := by
  obtain ⟨i0, hi0, hz0, hz1, hz2⟩ := info_parts Tryz.info_int5
  go_enter Tryz.func56, Tryz.ntmps56
  go_wp2_with fail
  go_loopw [3, 4] (fun v i wr => ∃ k : Nat, k ≤ n ∧ i = .int .i64 k ∧ wr.ownsRow w.heap.size 3 1 v (entU S k).length ((entU S k).map (Value.int .i64)) ∧ Below w.heap.size w wr) (fun _ i _ => n - (intOf i).toNat)
  case atStart => exact ⟨0, Nat.zero_le _, rfl, World.ownsRow_made w #[] 0 (Nat.le_refl _) (Nat.zero_le _) rfl, (Below.refl _ _).alloc (Nat.le_refl _) _⟩
  case round =>
    obtain ⟨k, hk, rfl, hown, hB⟩ := hrel
    by_cases hlt : k < n
    · rcases hp with hp | ⟨b, o, rfl, hbb, hp⟩
      · omega
      obtain ⟨x0, x1, x2, x3, x4⟩ := (hp.below hB hbb).sym hlt
      obtain ⟨p0, p1⟩ := hb k hlt
      obtain ⟨nm, e0⟩ : ∃ s, (S k).nm = s := ⟨_, rfl⟩
      obtain ⟨kd, e1⟩ : ∃ s, (S k).kd = s := ⟨_, rfl⟩
      obtain ⟨pl, e2⟩ : ∃ s, (S k).pl = s := ⟨_, rfl⟩
      obtain ⟨sz, e3⟩ : ∃ s, (S k).sz = s := ⟨_, rfl⟩
      obtain ⟨fr, e4⟩ : ∃ s, (S k).fr = s := ⟨_, rfl⟩
      rw [e0] at x0
      rw [e1] at x1
      rw [e2] at x2 p0 p1
      rw [e3] at x3
      rw [e4] at x4
      have hsz := hB.size
      have hlen := entU_len S k
      have eU := entU_succ S k
      rw [e1] at eU
      clear hp hb
      by_cases h1 : kd = 1
      · have eP : plI' S k = 4096 + pl := by unfold plI'; rw [e1, e2, if_pos h1]
        rw [if_pos h1, eP] at eU
        subst h1
        have hpl := fun w' => placeSpec nm 1 pl sz fr w' p0 p1
        simp only [if_true] at hpl
        have HP : Hid (∀ w' : World, _) := hpl
        have EU : Hid (entU S (k + 1) = _) := eU
        clear e0 e1 e2 e3 e4 eP eU hpl
        go_wp2_with fail
        refine (HP.out _).mono ?_
        rintro e w2 ⟨rfl, hb2⟩
        have hown2 := row_below hown hb2
        have hB2 := hB.trans (hb2.mono hsz)
        have s2 := hB2.size
        clear hown hB hb2 x0 x1 x2 x3 x4 HP
        go_wp2_with (at_builtin; refine wpList_append_own_at _ rfl _ _ 91 rfl w.heap.size 3 i0 _ 1 8 Tryz.underlying91 hi0 hz0 hz1 hz2 rfl (by decide) _ _ _ rfl (hown2.alloc _) ⟨w2.heap.size, 0, none⟩ 1 1 [.int .i64 (4096 + pl)] rfl rfl (World.news_of_block (cs := #[.int .i64 (4096 + pl)]) (t := 3) (fr := (0, 0)) (heap_alloc_new w2 _)) (by simp [Value.oneCell']) (by unfold maxLen; omega) (by omega) (by simp; omega) ?_; intro v' w4 hown4 hg4 hn4 hat4)
        go_roundw
        case rel =>
          refine ⟨k + 1, by omega, by go_num, ?_, (hB2.alloc s2 _).grown hg4 (by simp; omega) (fun i e => (hown2.lt i e).1)⟩
          rw [EU.out, List.length_append, List.map_append]
          exact hown4
        case measure => simp [intOf]; omega
      · rw [if_neg h1, List.append_nil] at eU
        have hb1 : (kd == 1) = false := by simpa using h1
        have EU : Hid (entU S (k + 1) = _) := eU
        clear e0 e1 e2 e3 e4 eU
        go_wp2_with fail
        go_roundw
        case rel => exact ⟨k + 1, by omega, by go_num, by rw [EU.out]; exact hown, hB⟩
        case measure => simp [intOf]; omega
    · obtain rfl : k = n := by omega
      obtain ⟨p9, c9, rfl, hc9, ho⟩ := ownI_of_row hown
      clear hown
      go_wp2_with fail
      go_ret
      exact ⟨⟨p9, c9, rfl, ho⟩, hB⟩

/-- What the check of an image tells: of its symbols, or of its functions (L: what the check tells of function i). -/
inductive ImgIs (n C D : Nat) (S : Nat → SymD) (L : Nat → Int × Int) : Int → Int → Int → Prop
  | many (h : 16 < n) : ImgIs n C D S L 0 0 6
  | size (h : n ≤ 16) (h1 : 1024 < C ∨ 256 < D) : ImgIs n C D S L 0 0 8
  | syms (x y : Int) (h : n ≤ 16) (h1 : C ≤ 1024) (h2 : D ≤ 256) (hs : SymsIs n C D S x y) (hy : y ≠ 0) : ImgIs n C D S L x 0 y
  | fn (k : Nat) (h : n ≤ 16) (h1 : C ≤ 1024) (h2 : D ≤ 256) (hs : SymsIs n C D S 0 0) (hk : k < n) (hf : (S k).kd = 1) (hb : ∀ j, j < k → (S j).kd = 1 → (L j).2 = 0) (hn : (L k).2 ≠ 0) : ImgIs n C D S L k (L k).1 (L k).2
  | ok (h : n ≤ 16) (h1 : C ≤ 1024) (h2 : D ≤ 256) (hs : SymsIs n C D S 0 0) (hb : ∀ j, j < n → (S j).kd = 1 → (L j).2 = 0) : ImgIs n C D S L 0 0 0
theorem SymsIs.all {n : Nat} {C D : Int} {S : Nat → SymD} {x : Int} (h : SymsIs n C D S x 0) : ∀ j, j < n → fltI C D S j = 0 := by
  generalize hy : (0 : Int) = y at h
  cases h with
  | flt k hk a b => exact absurd hy.symm b
  | nosym => cases hy
  | short => cases hy
  | ok a => exact a
theorem SymsIs.zero {n : Nat} {C D : Int} {S : Nat → SymD} {x : Int} (h : SymsIs n C D S x 0) : x = 0 := by
  generalize hy : (0 : Int) = y at h
  cases h with
  | flt k hk a b => exact absurd hy.symm b
  | nosym => cases hy
  | short => cases hy
  | ok => rfl
theorem SymsIs.uniq {n : Nat} {C D : Int} {S : Nat → SymD} {x y x' y' : Int} (h : SymsIs n C D S x y) (h' : SymsIs n C D S x' y') : x = x' ∧ y = y' := by
  cases h with
  | flt k hk a b => obtain ⟨e1, e2⟩ := h'.at hk a b; exact ⟨e1.symm, e2.symm⟩
  | nosym a b =>
    cases h' with
    | flt k hk c d => exact absurd (a k hk) d
    | nosym => exact ⟨rfl, rfl⟩
    | short c d e f => rcases b with b | b <;> omega
    | ok c d e f => rcases b with b | b <;> omega
  | short a b c d =>
    cases h' with
    | flt k hk e f => exact absurd (a k hk) f
    | nosym e f => rcases f with f | f <;> omega
    | short => exact ⟨rfl, rfl⟩
    | ok e f g i => exact absurd i d
  | ok a b c d =>
    cases h' with
    | flt k hk e f => exact absurd (a k hk) f
    | nosym e f => rcases f with f | f <;> omega
    | short e f g i => exact absurd d i
    | ok => exact ⟨rfl, rfl⟩
theorem img_ex (n C D : Nat) (S : Nat → SymD) (L : Nat → Int × Int) : ∃ x y z, ImgIs n C D S L x y z := by
  by_cases h : n ≤ 16
  · by_cases h1 : C ≤ 1024
    · by_cases h2 : D ≤ 256
      · obtain ⟨x, y, hs⟩ := syms_ex n C D S
        by_cases hy : y = 0
        · subst hy
          have hx : x = 0 := hs.zero
          subst hx
          rcases first_ofP (fun j => (S j).kd = 1 → (L j).2 = 0) n with hb | ⟨k, k1, k2, k3⟩
          · exact ⟨_, _, _, .ok h h1 h2 hs hb⟩
          · have hf : (S k).kd = 1 := by
              by_cases e : (S k).kd = 1
              · exact e
              · exact absurd (fun e' => absurd e' e) k3
            exact ⟨_, _, _, .fn k h h1 h2 hs k1 hf k2 (fun e => k3 (fun _ => e))⟩
        · exact ⟨_, _, _, .syms x y h h1 h2 hs hy⟩
      · exact ⟨_, _, _, .size h (.inr (by omega))⟩
    · exact ⟨_, _, _, .size h (.inl (by omega))⟩
  · exact ⟨_, _, _, .many (by omega)⟩
/-- The text of function i. -/
def fnT (c : ByteArray) (S : Nat → SymD) (i : Nat) : ByteArray := c.extract (S i).pl.toNat ((S i).pl + (S i).sz).toNat
end Go.Proofs.YthihlbfmpkjhpaaGreatDoor

namespace Go.Proofs.YthihlbfmpkjhpaaGreatDoor
open Go Go.RowKit
set_option linter.unusedVariables false

/-- The model's word for a word. -/
def ModIs (v : Nat) (R : Nat → Int) (k : Nat) (b : Bool) : Prop := ∀ w, Calls Tryz.prog 106 #[.int .i64 v] w fun e w' => e = .returned (.tuple #[.agg #[.int .i64 (R (k * 5)), .int .i64 (R (k * 5 + 1)), .int .i64 (R (k * 5 + 2)), .int .i64 (R (k * 5 + 3)), .int .i64 (R (k * 5 + 4))], .bool b]) ∧ Below w.heap.size w w'
def cdOf (b : Bool) : Int := if b = true then 0 else 10

def DecOne (v : Nat) (q : Nat → Int) (b : Bool) : Prop :=
    (∀ w, Calls Tryz.prog 106 #[.int .i64 v] w fun e w' => e = .returned (.tuple #[.agg #[.int .i64 (q 0), .int .i64 (q 1), .int .i64 (q 2), .int .i64 (q 3), .int .i64 (q 4)], .bool b]) ∧ Below w.heap.size w w') ∧
    (∀ w, Laid w → Calls Tryz.prog 128 #[.int .i64 v] w fun e w' => e = .returned (.tuple #[.agg #[.int .i64 (q 0), .int .i64 (q 1), .int .i64 (q 2), .int .i64 (q 3), .int .i64 (q 4)], .int .i64 (cdOf b)]) ∧ Below w.heap.size w w') ∧
    (b = true → rightB (q 0) (q 1) (q 2) (q 3) (q 4) = true)
theorem decOne (v : Nat) (v1 : v < 4294967296) : ∃ (q : Nat → Int) (b : Bool), DecOne v q b := by
  have w0 : (0 : Int) ≤ (v : Int) := by omega
  have w1 : (v : Int) < 4294967296 := by omega
  rcases first_hit v with h | ⟨n, n0, n1, h, hh⟩
  · exact ⟨fun _ => 0, false, fun w => dmNone v w0 w1 h w, fun w hl => decNone v w0 w1 h w, fun h => by cases h⟩
  · refine ⟨fun i => [(n : Int), tkRd (shT n).1 v, tkR1 (shT n).1 v, tkR2 (shT n).1 v, takeF (shT n).1 v].getD i 0, true, fun w => dmYes v w0 w1 n n0 n1 h hh _ rfl w, fun w hl => decX v w0 w1 n n0 n1 h hh _ rfl w, fun _ => ?_⟩
    obtain ⟨f0, f1, _⟩ := sh_bounds (shT_ok n (by omega) (by omega))
    have hr := right_taken (shT (n : Int)).1 (v : Int) f0 f1
    show rightB (n : Int) (tkRd (shT n).1 v) (tkR1 (shT n).1 v) (tkR2 (shT n).1 v) (takeF (shT n).1 v) = true
    unfold rightB
    rw [hr]
    simp
    omega

theorem decRun (s : ByteArray) : ∃ (R : Nat → Int) (ok : Nat → Bool), ∀ k, ModIs (wrd s k) R k (ok k) ∧ DecIs (wrd s k) R k (cdOf (ok k)) ∧ (ok k = true → rightB (R (k * 5)) (R (k * 5 + 1)) (R (k * 5 + 2)) (R (k * 5 + 3)) (R (k * 5 + 4)) = true) := by
  have key : ∀ k, ∃ x : (Nat → Int) × Bool, DecOne (wrd s k) x.1 x.2 := fun k => by
    obtain ⟨q, b, h⟩ := decOne (wrd s k) (wrd_lt s k)
    exact ⟨(q, b), h⟩
  obtain ⟨f, hf⟩ : ∃ f : Nat → (Nat → Int) × Bool, ∀ k, DecOne (wrd s k) (f k).1 (f k).2 := ⟨fun k => Classical.choose (key k), fun k => Classical.choose_spec (key k)⟩
  have e0 : ∀ k, (k * 5) / 5 = k := fun k => by omega
  have e0' : ∀ k, (k * 5) % 5 = 0 := fun k => by omega
  have e1 : ∀ k, (k * 5 + 1) / 5 = k := fun k => by omega
  have e1' : ∀ k, (k * 5 + 1) % 5 = 1 := fun k => by omega
  have e2 : ∀ k, (k * 5 + 2) / 5 = k := fun k => by omega
  have e2' : ∀ k, (k * 5 + 2) % 5 = 2 := fun k => by omega
  have e3 : ∀ k, (k * 5 + 3) / 5 = k := fun k => by omega
  have e3' : ∀ k, (k * 5 + 3) % 5 = 3 := fun k => by omega
  have e4 : ∀ k, (k * 5 + 4) / 5 = k := fun k => by omega
  have e4' : ∀ k, (k * 5 + 4) % 5 = 4 := fun k => by omega
  refine ⟨fun i => (f (i / 5)).1 (i % 5), fun k => (f k).2, fun k => ?_⟩
  have h := hf k
  unfold ModIs DecIs
  simp only [e0, e0', e1, e1', e2, e2', e3, e3', e4, e4']
  exact h

/-- The first word that is none, or the run's length. -/
theorem first_no (ok : Nat → Bool) (N : Nat) : ∃ j, j ≤ N ∧ (∀ k, k < j → ok k = true) ∧ (j < N → ok j = false) := by
  induction N with
  | zero => exact ⟨0, Nat.le_refl _, fun k hk => absurd hk (Nat.not_lt_zero _), fun h => absurd h (Nat.lt_irrefl _)⟩
  | succ N ih =>
    obtain ⟨j, h1, h2, h3⟩ := ih
    by_cases e : j < N
    · exact ⟨j, by omega, h2, fun _ => h3 e⟩
    · obtain rfl : j = N := by omega
      cases hb : ok j with
      | true => exact ⟨j + 1, Nat.le_refl _, fun k hk => by
          rcases Nat.lt_succ_iff_lt_or_eq.1 hk with h | rfl
          · exact h2 k h
          · exact hb, fun h => absurd h (Nat.lt_irrefl _)⟩
      | false => exact ⟨j, by omega, h2, fun _ => hb⟩

/-- A run of N words whose first j are instructions. -/
structure Run (s : ByteArray) (N : Nat) (R : Nat → Int) (j : Nat) : Prop where
  size : s.size = 4 * N
  small : N ≤ 16384
  le : j ≤ N
  yes : ∀ k, k < j → Hid (ModIs (wrd s k) R k true)
  no : j < N → Hid (ModIs (wrd s j) R j false)
  dec : ∃ co : Nat → Int, (∀ k, k < N → Hid (DecIs (wrd s k) R k (co k))) ∧ (∀ k, k < j → co k = 0) ∧ (j < N → co j = 10)
  right : ∀ k, k < j → rightB (R (k * 5)) (R (k * 5 + 1)) (R (k * 5 + 2)) (R (k * 5 + 3)) (R (k * 5 + 4)) = true
theorem run_of (s : ByteArray) (N : Nat) (hs : s.size = 4 * N) (hN : N ≤ 16384) : ∃ R j, Run s N R j := by
  obtain ⟨R, ok, h⟩ := decRun s
  obtain ⟨j, h1, h2, h3⟩ := first_no ok N
  refine ⟨R, j, hs, hN, h1, fun k hk => ?_, fun hk => ?_, ⟨fun k => cdOf (ok k), fun k _ => (h k).2.1, fun k hk => by show cdOf (ok k) = 0; rw [h2 k hk]; rfl, fun hj => by show cdOf (ok j) = 10; rw [h3 hj]; rfl⟩, fun k hk => (h k).2.2 (h2 k hk)⟩
  · have := (h k).1
    rw [h2 k hk] at this
    exact this
  · have := (h j).1
    rw [h3 hk] at this
    exact this

/-- The program's reading of a run. -/
theorem Run.impl {s : ByteArray} {N j : Nat} {R : Nat → Int} (h : Run s N R j) (w : World) (hL : Laid w) :
    Calls Tryz.prog 94 #[.string s] w fun e w' => (∃ p n c x y, e = .returned (.tuple #[.slice p n c, .int .i64 x, .int .i64 y]) ∧ ((j = N ∧ n = N ∧ x = 0 ∧ y = 0) ∨ (j < N ∧ n = 0 ∧ x = j ∧ y = 10)) ∧ OwnL w' w.heap.size p n R) ∧ Below w.heap.size w w' := by
  obtain ⟨co, h1, h2, h3⟩ := h.dec
  exact runC s N h.size h.small R co h1 j h.le h2 h3 w hL

theorem szRun (s : ByteArray) (w : World) (hs : s.size ≤ maxLen) :
    Calls Tryz.prog 86 #[.string s] w fun e w' => e = .returned (.bool (decide (s.size % 4 = 0 ∧ s.size ≤ 256))) ∧ w' = w := by
  unfold maxLen at hs
  by_cases h : s.size % 4 = 0
  · by_cases h1 : s.size ≤ 256
    · have e : decide (s.size % 4 = 0 ∧ s.size ≤ 256) = true := by simp [h, h1]
      rw [e]
      go_enter Tryz.func86, Tryz.ntmps86
      go_wp2
      go_ret
      refine ⟨congrArg (fun x => Ending.returned (.bool x)) ?_, rfl⟩
      first | rfl | (simp; omega)
    · have e : decide (s.size % 4 = 0 ∧ s.size ≤ 256) = false := by simp [h, h1]
      rw [e]
      go_enter Tryz.func86, Tryz.ntmps86
      go_wp2
      go_ret
      refine ⟨congrArg (fun x => Ending.returned (.bool x)) ?_, rfl⟩
      first | rfl | (simp; omega)
  · have e : decide (s.size % 4 = 0 ∧ s.size ≤ 256) = false := by simp [h]
    rw [e]
    go_enter Tryz.func86, Tryz.ntmps86
    go_wp2
    go_ret
    refine ⟨congrArg (fun x => Ending.returned (.bool x)) ?_, rfl⟩
    first | rfl | (simp; omega)

set_option maxRecDepth 100000 in
set_option maxHeartbeats 2000000 in
/-- The model's reading of a run. -/
theorem Run.model {s : ByteArray} {N j : Nat} {R : Nat → Int} (h : Run s N R j) (w : World) :
    Calls Tryz.prog 87 #[.string s] w fun e w' => (∃ p n c x, e = .returned (.tuple #[.slice p n c, .int .i64 x]) ∧ ((j = N ∧ n = N ∧ x = -1) ∨ (j < N ∧ n = 0 ∧ x = j)) ∧ OwnL w' w.heap.size p n R) ∧ Below w.heap.size w w' := by
  obtain ⟨i0, hi, hz0, hz1, hz2⟩ := info_parts Tryz.info_inr
  have hs := h.size
  have hN := h.small
  have hle := h.le
  go_enter Tryz.func87, Tryz.ntmps87
  go_wp2
  go_loopw [4, 5] (fun v i wr => ∃ k : Nat, k ≤ j ∧ i = .int .i64 k ∧ wr.ownsRow w.heap.size 124 5 v k (cellsR R k) ∧ Below w.heap.size w wr) (fun _ i _ => N - (intOf i).toNat)
  case atStart => exact ⟨0, Nat.zero_le _, rfl, World.ownsRow_made w #[] 0 (Nat.le_refl _) (Nat.zero_le _) rfl, (Below.refl _ _).alloc (Nat.le_refl _) _⟩
  case round =>
    obtain ⟨k, hk, rfl, hown, hB⟩ := hrel
    have hv : takeV s (4 * k) 4 = (wrd s k : Nat) := takeV_small s (4 * k) 4 (by omega)
    by_cases hkj : k < j
    · have hkN : k < N := by omega
      have hy := h.yes k hkj
      have hlt : (4 : Int) * k < s.size := by omega
      go_wp2_with (go_at_call 73; refine (specTake0 s (4 * k) 4 _ (by omega) (by omega) (by omega)).mono ?_; rintro e w1 ⟨rfl, rfl⟩; rw [hv])
      refine (hy.out _).mono ?_
      rintro e w2 ⟨rfl, hb2⟩
      have own2 := row_below hown hb2
      have B2 := hB.trans (hb2.mono hB.size)
      have s2 := B2.size
      have hlen := cellsR_len R k
      clear hb2 hown hB hv hy
      go_wp2_with (at_builtin; refine wpList_append_lies _ rfl _ _ 120 rfl w.heap.size 124 i0 _ 5 40 Tryz.underlying120 hi hz0 hz1 hz2 rfl (by omega) _ k _ rfl ((own2.alloc _).alloc _) ⟨w2.heap.size + 1, 0, none⟩ 1 1 [.int .i64 (R (k * 5)), .int .i64 (R (k * 5 + 1)), .int .i64 (R (k * 5 + 2)), .int .i64 (R (k * 5 + 3)), .int .i64 (R (k * 5 + 4))] rfl rfl (World.news_of_block (cs := #[.int .i64 (R (k * 5)), .int .i64 (R (k * 5 + 1)), .int .i64 (R (k * 5 + 2)), .int .i64 (R (k * 5 + 3)), .int .i64 (R (k * 5 + 4))]) (t := 124) (fr := (0, 0)) (by first | exact heap_alloc_new _ _ | (rw [← World.size_alloc w2]; exact heap_alloc_new _ _))) (by simp [Value.oneCell']) (by omega) (by unfold maxLen; omega) (by omega) (by simp; omega) (w2.heap.size + 1 + 1) (by simp) ?_; intro gg cap2 w3 hown3 hg3 hat3 hlt3)
      go_roundw
      case rel => exact ⟨k + 1, by omega, by go_num, by rw [cellsR_succ]; exact hown3, ((B2.alloc s2 _).alloc (by simp; omega) _).grown hg3 (by simp; omega) (fun i e => (own2.lt i e).1)⟩
      case measure => simp [intOf]; omega
    · obtain rfl : k = j := by omega
      by_cases hkN : k < N
      · have hy := h.no hkN
        have hlt : (4 : Int) * k < s.size := by omega
        go_wp2_with (go_at_call 73; refine (specTake0 s (4 * k) 4 _ (by omega) (by omega) (by omega)).mono ?_; rintro e w1 ⟨rfl, rfl⟩; rw [hv])
        refine (hy.out _).mono ?_
        rintro e w2 ⟨rfl, hb2⟩
        have B2 := hB.trans (hb2.mono hB.size)
        have s2 := B2.size
        clear hb2 hown hB hv hy
        go_wp2
        go_ret2
        exact ⟨⟨_, _, _, _, rfl, .inr ⟨hkN, rfl, rfl⟩, .inl rfl⟩, (B2.alloc s2 _).alloc (by simp; omega) _⟩
      · obtain rfl : k = N := by omega
        obtain ⟨p, c, rfl, ho⟩ := ownL_of_row hown
        have hlt : ¬ ((4 : Int) * k < s.size) := by omega
        go_wp2
        go_ret2
        first | exact ⟨⟨_, _, _, _, rfl, .inl ⟨rfl, rfl, rfl⟩, ho⟩, hB⟩ | exact ⟨⟨_, _, _, _, rfl, ⟨rfl, rfl⟩, ho⟩, hB⟩

/-- The code of a run's length. -/
def crC (n few : Nat) : Int := if 65536 < n then 2 else if n % 4 = 0 ∧ 4 * few ≤ n ∧ n ≤ 256 then 0 else 8
theorem checkRunC (s : ByteArray) (few : Nat) (w : World) (hs : s.size ≤ maxLen) (hf : few ≤ 5) :
    Calls Tryz.prog 116 #[.string s, .int .i64 few] w fun e w' => e = .returned (.int .i64 (crC s.size few)) ∧ w' = w := by
  unfold maxLen at hs
  by_cases h0 : 65536 < s.size
  · have e : crC s.size few = 2 := by unfold crC; rw [if_pos h0]
    rw [e]
    go_enter Tryz.func116, Tryz.ntmps116
    go_wp2
    go_ret
    exact ⟨rfl, rfl⟩
  · by_cases h1 : s.size % 4 = 0
    · by_cases h2 : 4 * few ≤ s.size
      · by_cases h3 : s.size ≤ 256
        · have e : crC s.size few = 0 := by unfold crC; rw [if_neg h0, if_pos ⟨h1, h2, h3⟩]
          rw [e]
          have h2' : ¬ ((s.size : Int) < (few : Int) * 4) := by omega
          have h1' : (s.size : Int) % 4 = 0 := by omega
          go_enter Tryz.func116, Tryz.ntmps116
          go_wp2
          go_ret
          exact ⟨rfl, rfl⟩
        · have e : crC s.size few = 8 := by unfold crC; rw [if_neg h0, if_neg (fun h => h3 h.2.2)]
          rw [e]
          have h2' : ¬ ((s.size : Int) < (few : Int) * 4) := by omega
          have h1' : (s.size : Int) % 4 = 0 := by omega
          go_enter Tryz.func116, Tryz.ntmps116
          go_wp2
          go_ret
          exact ⟨rfl, rfl⟩
      · have e : crC s.size few = 8 := by unfold crC; rw [if_neg h0, if_neg (fun h => h2 h.2.1)]
        rw [e]
        have h2' : (s.size : Int) < (few : Int) * 4 := by omega
        have h1' : (s.size : Int) % 4 = 0 := by omega
        go_enter Tryz.func116, Tryz.ntmps116
        go_wp2
        go_ret
        exact ⟨rfl, rfl⟩
    · have e : crC s.size few = 8 := by unfold crC; rw [if_neg h0, if_neg (fun h => h1 h.1)]
      rw [e]
      have h1' : ¬ ((s.size : Int) % 4 = 0) := by omega
      go_enter Tryz.func116, Tryz.ntmps116
      go_wp2
      go_ret
      exact ⟨rfl, rfl⟩

/-- An answer of a list and two numbers. -/
def ListAns (B n : Nat) (x y : Int) (R : Nat → Int) (w : World) (e : Ending) (w' : World) : Prop := (∃ p c, e = .returned (.tuple #[.slice p n c, .int .i64 x, .int .i64 y]) ∧ OwnL w' B p n R) ∧ Below w.heap.size w w'

end Go.Proofs.YthihlbfmpkjhpaaGreatDoor
