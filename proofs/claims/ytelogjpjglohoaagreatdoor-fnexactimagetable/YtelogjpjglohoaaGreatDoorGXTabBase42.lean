/- The model's rule for one instruction. The model's rule for one instruction that goes nowhere: its cases, 1. -/
import Derived.Test.YtelogjpjglohoaaGreatDoorGXTabBase41
namespace Go.Proofs.YtelogjpjglohoaaGreatDoor
open Go Go.RowKit
set_option linter.unusedVariables false

/-- What the model's check reads: a list, what may be called. -/
structure MdIs (w : World) (g N : Nat) (R : Nat → Int) (pc : Option Addr) (zs : List Int) : Prop where
  l : Rdb w g 0 (N * 5) R
  lg : g < w.heap.size
  z : IntsAt w pc zs
theorem MdIs.below {w w' : World} {g N : Nat} {R : Nat → Int} {pc : Option Addr} {zs : List Int} (h : MdIs w g N R pc zs) (hb : Below w.heap.size w w') : MdIs w' g N R pc zs :=
  ⟨h.l.below hb h.lg, Nat.lt_of_lt_of_le h.lg hb.size, h.z.below hb⟩
/-- An instruction in a block of its own. -/
structure XIs (w : World) (X : Nat) (op rd r1 r2 im : Int) : Prop where
  x0 : w.cell? ⟨X, 0, none⟩ = some (.int .i64 op)
  x1 : w.cell? ⟨X, 1, none⟩ = some (.int .i64 rd)
  x2 : w.cell? ⟨X, 2, none⟩ = some (.int .i64 r1)
  x4 : w.cell? ⟨X, 4, none⟩ = some (.int .i64 im)
  lx : X < w.heap.size
theorem XIs.below {w w' : World} {X : Nat} {op rd r1 r2 im : Int} (h : XIs w X op rd r1 r2 im) (hb : Below w.heap.size w w') : XIs w' X op rd r1 r2 im :=
  ⟨(hb.cell (p := ⟨X, 0, none⟩) h.lx).trans h.x0, (hb.cell (p := ⟨X, 1, none⟩) h.lx).trans h.x1, (hb.cell (p := ⟨X, 2, none⟩) h.lx).trans h.x2, (hb.cell (p := ⟨X, 4, none⟩) h.lx).trans h.x4, Nat.lt_of_lt_of_le h.lx hb.size⟩

section
variable {g N c : Nat} {pc : Option Addr} {cc : Nat} {at' f : Int} {R : Nat → Int} {zs : List Int}
set_option maxRecDepth 100000 in
set_option maxHeartbeats 8000000 in
theorem sruJalr (i : Nat) (w : World) (h : MdIs w g N R pc zs) (hi : i < N) (h2 : 2 ≤ i) (hN : N ≤ 64) (hf : frB f = true) (a0 : 0 ≤ at') (a1 : at' ≤ 1048575) (hz : zs.length ≤ 1048576) (hs : Small5 R i) (hop : R (i * 5) = 4) :
    Calls Tryz.prog 83 #[.slice (some ⟨g, 0, none⟩) N c, .int .i64 i, .int .i64 at', .int .i64 f, .slice pc zs.length cc] w fun e w' => e = .returned (.int .i64 (ruI R N f at' zs wdN i)) ∧ Below w.heap.size w w' := by
  obtain ⟨f0, f1, _⟩ := frB_bd hf
  obtain ⟨K, hK⟩ : ∃ K, zs.length = K := ⟨_, rfl⟩
  obtain ⟨x0, x1, x2, x3, x4⟩ := h.l.five hi
  simp only [Nat.zero_add] at x0 x1 x2 x3 x4
  obtain ⟨op, ho⟩ : ∃ op, R (i * 5) = op := ⟨_, rfl⟩
  obtain ⟨rd, hr⟩ : ∃ rd, R (i * 5 + 1) = rd := ⟨_, rfl⟩
  obtain ⟨r1, hr1⟩ : ∃ r1, R (i * 5 + 2) = r1 := ⟨_, rfl⟩
  obtain ⟨r2, hr2⟩ : ∃ r2, R (i * 5 + 3) = r2 := ⟨_, rfl⟩
  obtain ⟨im, him⟩ : ∃ im, R (i * 5 + 4) = im := ⟨_, rfl⟩
  have o0 := hs.o0
  have o1 := hs.o1
  have i0 := hs.i0
  have i1 := hs.i1
  rw [ho] at x0 o0 o1
  rw [hr] at x1
  rw [hr1] at x2
  rw [hr2] at x3
  rw [him] at x4 i0 i1
  have B1 : Below w.heap.size w (w.alloc (.cells #[.int .i64 op, .int .i64 rd, .int .i64 r1, .int .i64 r2, .int .i64 im] 93)) := (Below.refl _ _).alloc (Nat.le_refl _) _
  have h1 := h.below B1
  have hx1 : XIs (w.alloc (.cells #[.int .i64 op, .int .i64 rd, .int .i64 r1, .int .i64 r2, .int .i64 im] 93)) w.heap.size op rd r1 r2 im := ⟨by simp, by simp, by simp, by simp, by simp⟩
  have HB : Hid (Below w.heap.size w (w.alloc (.cells #[.int .i64 op, .int .i64 rd, .int .i64 r1, .int .i64 r2, .int .i64 im] 93))) := B1
  have E := fun (j : Nat) w' (h1 : MdIs w' g N R pc zs) (hj : j < 1000) => specEnds g N c j f R w' h1.lg hf hN hj h1.l
  have G := fun w' (h1 : MdIs w' g N R pc zs) => specGoes g N c i im f R w' h1.lg hf hN (by omega) h1.l i0 i1
  have C := fun w' (x : Int) (h1 : MdIs w' g N R pc zs) => hasIntC pc cc zs x w' hz h1.z
  rw [hK] at C hz ⊢
  clear B1 hr2 h
  by_cases h4 : op = 4
  · subst h4
    rw [ru_jalr ho]
    have E2 := fun w' h1 => E (i - 2) w' h1 (by omega)
    obtain ⟨b, hb⟩ : ∃ b, epB R N f (i - 2) = b := ⟨_, rfl⟩
    rw [hb] at E2 ⊢
    clear hb ho hr hr1 him E G C
    go_enter Tryz.func83, Tryz.ntmps83
    go_wp2_with (go_at_call 97; refine (specWidOut 4 _ (by omega)).mono ?_; rintro e w' ⟨rfl, rfl⟩)
    rw [show ((i : Int) - 2) = ((i - 2 : Nat) : Int) from by omega]
    refine (E2 _ h1).mono ?_
    rintro e w2 ⟨rfl, hb2⟩
    have B2 := HB.out.trans (hb2.mono HB.out.size)
    clear h1 HB hb2
    cases b
    all_goals
      go_wp2_with fail
      go_ret
      exact ⟨rfl, B2⟩
  exact absurd (ho.symm.trans hop) h4

set_option maxRecDepth 100000 in
set_option maxHeartbeats 8000000 in
theorem sruJal (i : Nat) (w : World) (h : MdIs w g N R pc zs) (hi : i < N) (h2 : 2 ≤ i) (hN : N ≤ 64) (hf : frB f = true) (a0 : 0 ≤ at') (a1 : at' ≤ 1048575) (hz : zs.length ≤ 1048576) (hs : Small5 R i) (hop : R (i * 5) = 3) :
    Calls Tryz.prog 83 #[.slice (some ⟨g, 0, none⟩) N c, .int .i64 i, .int .i64 at', .int .i64 f, .slice pc zs.length cc] w fun e w' => e = .returned (.int .i64 (ruI R N f at' zs wdN i)) ∧ Below w.heap.size w w' := by
  obtain ⟨f0, f1, _⟩ := frB_bd hf
  obtain ⟨K, hK⟩ : ∃ K, zs.length = K := ⟨_, rfl⟩
  obtain ⟨x0, x1, x2, x3, x4⟩ := h.l.five hi
  simp only [Nat.zero_add] at x0 x1 x2 x3 x4
  obtain ⟨op, ho⟩ : ∃ op, R (i * 5) = op := ⟨_, rfl⟩
  obtain ⟨rd, hr⟩ : ∃ rd, R (i * 5 + 1) = rd := ⟨_, rfl⟩
  obtain ⟨r1, hr1⟩ : ∃ r1, R (i * 5 + 2) = r1 := ⟨_, rfl⟩
  obtain ⟨r2, hr2⟩ : ∃ r2, R (i * 5 + 3) = r2 := ⟨_, rfl⟩
  obtain ⟨im, him⟩ : ∃ im, R (i * 5 + 4) = im := ⟨_, rfl⟩
  have o0 := hs.o0
  have o1 := hs.o1
  have i0 := hs.i0
  have i1 := hs.i1
  rw [ho] at x0 o0 o1
  rw [hr] at x1
  rw [hr1] at x2
  rw [hr2] at x3
  rw [him] at x4 i0 i1
  have B1 : Below w.heap.size w (w.alloc (.cells #[.int .i64 op, .int .i64 rd, .int .i64 r1, .int .i64 r2, .int .i64 im] 93)) := (Below.refl _ _).alloc (Nat.le_refl _) _
  have h1 := h.below B1
  have hx1 : XIs (w.alloc (.cells #[.int .i64 op, .int .i64 rd, .int .i64 r1, .int .i64 r2, .int .i64 im] 93)) w.heap.size op rd r1 r2 im := ⟨by simp, by simp, by simp, by simp, by simp⟩
  have HB : Hid (Below w.heap.size w (w.alloc (.cells #[.int .i64 op, .int .i64 rd, .int .i64 r1, .int .i64 r2, .int .i64 im] 93))) := B1
  have E := fun (j : Nat) w' (h1 : MdIs w' g N R pc zs) (hj : j < 1000) => specEnds g N c j f R w' h1.lg hf hN hj h1.l
  have G := fun w' (h1 : MdIs w' g N R pc zs) => specGoes g N c i im f R w' h1.lg hf hN (by omega) h1.l i0 i1
  have C := fun w' (x : Int) (h1 : MdIs w' g N R pc zs) => hasIntC pc cc zs x w' hz h1.z
  rw [hK] at C hz ⊢
  clear B1 hr2 h
  have h4 : ¬ op = 4 := by omega
  have h4b : (op == 4) = false := by simpa using h4
  by_cases h3 : op = 3
  · subst h3
    by_cases hrd : rd = 1
    · subst hrd
      rw [ru_call ho hr, him]
      have C2 := fun w' h1 => C w' (at' + 4 * i + im) h1
      obtain ⟨b, hb⟩ : ∃ b, hasB zs (at' + 4 * i + im) = b := ⟨_, rfl⟩
      rw [hb] at C2 ⊢
      clear hb ho hr hr1 him E G C
      cases b
      all_goals
        go_enter Tryz.func83, Tryz.ntmps83
        go_wp2_with (first | (go_at_call 97; refine (specWidOut 3 _ (by omega)).mono ?_; rintro e w' ⟨rfl, rfl⟩) | (go_at_call 99; refine (C2 _ h1).mono ?_; rintro e w' ⟨rfl, rfl⟩))
        go_ret
        exact ⟨rfl, HB.out⟩
    · rw [ru_jal ho (by rw [hr]; exact hrd), hr, him]
      obtain ⟨b, hb⟩ : ∃ b, goB R N f i im = b := ⟨_, rfl⟩
      rw [hb] at G ⊢
      have hrdb : (rd == 1) = false := by simpa using hrd
      clear hb ho hr hr1 him E C
      by_cases h0 : rd = 0
      · subst h0
        go_enter Tryz.func83, Tryz.ntmps83
        go_wp2_with (go_at_call 97; refine (specWidOut 3 _ (by omega)).mono ?_; rintro e w' ⟨rfl, rfl⟩)
        refine (G _ h1).mono ?_
        rintro e w2 ⟨rfl, hb2⟩
        have B2 := HB.out.trans (hb2.mono HB.out.size)
        clear h1 HB hb2
        cases b
        all_goals
          go_wp2_with fail
          go_ret
          exact ⟨rfl, B2⟩
      · have h0b : (rd == 0) = false := by simpa using h0
        rw [if_neg (fun hh => h0 hh.1)]
        go_enter Tryz.func83, Tryz.ntmps83
        go_wp2_with (go_at_call 97; refine (specWidOut 3 _ (by omega)).mono ?_; rintro e w' ⟨rfl, rfl⟩)
        go_ret
        exact ⟨rfl, HB.out⟩
  exact absurd (ho.symm.trans hop) h3

set_option maxRecDepth 100000 in
set_option maxHeartbeats 8000000 in
theorem sruBr (i : Nat) (w : World) (h : MdIs w g N R pc zs) (hi : i < N) (h2 : 2 ≤ i) (hN : N ≤ 64) (hf : frB f = true) (a0 : 0 ≤ at') (a1 : at' ≤ 1048575) (hz : zs.length ≤ 1048576) (hs : Small5 R i) (hop : 5 ≤ R (i * 5) ∧ R (i * 5) ≤ 10) :
    Calls Tryz.prog 83 #[.slice (some ⟨g, 0, none⟩) N c, .int .i64 i, .int .i64 at', .int .i64 f, .slice pc zs.length cc] w fun e w' => e = .returned (.int .i64 (ruI R N f at' zs wdN i)) ∧ Below w.heap.size w w' := by
  obtain ⟨f0, f1, _⟩ := frB_bd hf
  obtain ⟨K, hK⟩ : ∃ K, zs.length = K := ⟨_, rfl⟩
  obtain ⟨x0, x1, x2, x3, x4⟩ := h.l.five hi
  simp only [Nat.zero_add] at x0 x1 x2 x3 x4
  obtain ⟨op, ho⟩ : ∃ op, R (i * 5) = op := ⟨_, rfl⟩
  obtain ⟨rd, hr⟩ : ∃ rd, R (i * 5 + 1) = rd := ⟨_, rfl⟩
  obtain ⟨r1, hr1⟩ : ∃ r1, R (i * 5 + 2) = r1 := ⟨_, rfl⟩
  obtain ⟨r2, hr2⟩ : ∃ r2, R (i * 5 + 3) = r2 := ⟨_, rfl⟩
  obtain ⟨im, him⟩ : ∃ im, R (i * 5 + 4) = im := ⟨_, rfl⟩
  have o0 := hs.o0
  have o1 := hs.o1
  have i0 := hs.i0
  have i1 := hs.i1
  rw [ho] at x0 o0 o1
  rw [hr] at x1
  rw [hr1] at x2
  rw [hr2] at x3
  rw [him] at x4 i0 i1
  have B1 : Below w.heap.size w (w.alloc (.cells #[.int .i64 op, .int .i64 rd, .int .i64 r1, .int .i64 r2, .int .i64 im] 93)) := (Below.refl _ _).alloc (Nat.le_refl _) _
  have h1 := h.below B1
  have hx1 : XIs (w.alloc (.cells #[.int .i64 op, .int .i64 rd, .int .i64 r1, .int .i64 r2, .int .i64 im] 93)) w.heap.size op rd r1 r2 im := ⟨by simp, by simp, by simp, by simp, by simp⟩
  have HB : Hid (Below w.heap.size w (w.alloc (.cells #[.int .i64 op, .int .i64 rd, .int .i64 r1, .int .i64 r2, .int .i64 im] 93))) := B1
  have E := fun (j : Nat) w' (h1 : MdIs w' g N R pc zs) (hj : j < 1000) => specEnds g N c j f R w' h1.lg hf hN hj h1.l
  have G := fun w' (h1 : MdIs w' g N R pc zs) => specGoes g N c i im f R w' h1.lg hf hN (by omega) h1.l i0 i1
  have C := fun w' (x : Int) (h1 : MdIs w' g N R pc zs) => hasIntC pc cc zs x w' hz h1.z
  rw [hK] at C hz ⊢
  clear B1 hr2 h
  have h4 : ¬ op = 4 := by omega
  have h3 : ¬ op = 3 := by omega
  have h4b : (op == 4) = false := by simpa using h4
  have h3b : (op == 3) = false := by simpa using h3
  have hfb := form_branch op o0 o1
  obtain ⟨⟨f4, fc, fg, fh⟩, hsq⟩ : ∃ s, shT op = s := ⟨_, rfl⟩
  have hsh := fun w' => specShs op f4 fc fg fh w' hsq
  simp only [hsq] at hfb
  have hbr : 5 ≤ op ∧ op ≤ 10 := by rw [← ho]; exact hop
  rw [ru_branch (by omega) (by omega), him]
  obtain rfl := hfb.2 hbr
  have wd := fun w' => specWidOut op w' (by omega)
  obtain ⟨b, hb⟩ : ∃ b, goB R N f i im = b := ⟨_, rfl⟩
  rw [hb] at G ⊢
  clear hb ho hr hr1 him E C hfb hbr
  go_enter Tryz.func83, Tryz.ntmps83
  go_wp2_with (go_at_call 97; refine (wd _).mono ?_; rintro e w' ⟨rfl, rfl⟩)
  refine (hsh _).mono ?_
  rintro e w2 ⟨rfl, hb2⟩
  have B2 := HB.out.trans (hb2.mono HB.out.size)
  have hh2 := h1.below hb2
  have xx2 := hx1.below hb2
  have y4 := xx2.x4
  have hfd := shField0 4 fc fg fh w2
  clear h1 HB hb2 hx1 hsh xx2
  go_wp2_with fail
  refine (G _ hh2).mono ?_
  rintro e w3 ⟨rfl, hb3⟩
  have B3 := B2.trans (hb3.mono B2.size)
  clear hb3 hh2 B2 y4 hfd
  cases b
  all_goals
    go_wp2_with fail
    go_ret
    exact ⟨rfl, B3⟩

end
end Go.Proofs.YtelogjpjglohoaaGreatDoor

namespace Go.Proofs.YtelogjpjglohoaaGreatDoor
open Go Go.RowKit
set_option linter.unusedVariables false

section
variable {g N c : Nat} {pc : Option Addr} {cc : Nat} {at' f : Int} {R : Nat → Int} {zs : List Int}
set_option maxRecDepth 100000 in
set_option maxHeartbeats 8000000 in
theorem bad1In (i j : Nat) (op r1 r2 im f4 fc fg fh wn : Int) (b : Bool) (w : World) (h : MdIs w g N R pc zs) (hi : i < N) (h2 : 2 ≤ i) (hN : N ≤ 64) (hj : i - 1 = j) (f0 : 16 ≤ f) (f1 : f ≤ 128)
    (ho : R (i * 5) = op) (hr : R (i * 5 + 1) = 1) (hr1 : R (i * 5 + 2) = r1) (hr2' : R (i * 5 + 3) = r2) (him : R (i * 5 + 4) = im) (h4b : (op == 4) = false) (h3b : (op == 3) = false) (hsq : shT op = ⟨f4, fc, fg, fh⟩) (hf4b : (f4 == 4) = false)
    (Ea : ∀ w', MdIs w' g N R pc zs → Calls Tryz.prog 98 #[.slice (some ⟨g, 0, none⟩) N c, .int .i64 (i : Nat), .int .i64 f] w' fun e w'' => e = .returned (.bool false) ∧ Below w'.heap.size w' w'')
    (Eb : ∀ w', MdIs w' g N R pc zs → Calls Tryz.prog 98 #[.slice (some ⟨g, 0, none⟩) N c, .int .i64 (j : Nat), .int .i64 f] w' fun e w'' => e = .returned (.bool b) ∧ Below w'.heap.size w' w'')
    (hop : 11 ≤ op ∧ op ≤ 21) (hwn : wdN op = wn) (hw0 : 0 < wn) (hw8 : wn ≤ 8) :
    Calls Tryz.prog 83 #[.slice (some ⟨g, 0, none⟩) N c, .int .i64 i, .int .i64 at', .int .i64 f, .slice pc zs.length cc] w fun e w' => e = .returned (.int .i64 21) ∧ Below w.heap.size w w' := by
  obtain ⟨K, hK⟩ : ∃ K, zs.length = K := ⟨_, rfl⟩
  rw [hK]
  clear hK
  obtain ⟨x0, x1, x2, x3, x4⟩ := h.l.five hi
  simp only [Nat.zero_add] at x0 x1 x2 x3 x4
  rw [ho] at x0
  rw [hr] at x1
  rw [hr1] at x2
  rw [hr2'] at x3
  rw [him] at x4
  have B1 : Below w.heap.size w (w.alloc (.cells #[.int .i64 op, .int .i64 1, .int .i64 r1, .int .i64 r2, .int .i64 im] 93)) := (Below.refl _ _).alloc (Nat.le_refl _) _
  have hh := h.below B1
  have xx : XIs (w.alloc (.cells #[.int .i64 op, .int .i64 1, .int .i64 r1, .int .i64 r2, .int .i64 im] 93)) w.heap.size op 1 r1 r2 im := ⟨by simp, by simp, by simp, by simp, by simp⟩
  have BB : Hid (Below w.heap.size w (w.alloc (.cells #[.int .i64 op, .int .i64 1, .int .i64 r1, .int .i64 r2, .int .i64 im] 93))) := B1
  have hsub : ((i : Int) - 1) = ((j : Nat) : Int) := by omega
  have hsh := fun w' => specShs op f4 fc fg fh w' hsq
  clear B1 h hsq hj ho hr hr1 hr2' him
  have wd := fun w' => specWidIn op w' hop.1 hop.2
  rw [hwn] at wd
  have hwz : ¬ wn = 0 := by omega
  go_enter Tryz.func83, Tryz.ntmps83
  go_wp2_with (go_at_call 97; refine (wd _).mono ?_; rintro e w' ⟨rfl, rfl⟩)
  refine (hsh _).mono ?_
  rintro e w2 ⟨rfl, hb2⟩
  have B2 : Hid (Below _ _ w2) := BB.out.trans (hb2.mono BB.out.size)
  have hh2 := hh.below hb2
  have xx2 := xx.below hb2
  have y1 := xx2.x1
  have y2 := xx2.x2
  have y4 := xx2.x4
  have hfd := shField0 f4 fc fg fh w2
  clear hb2 hh xx BB hsh x0 x1 x2 x3 x4
  go_wp2_with fail
  try rw [hsub]
  refine (Ea _ hh2).mono ?_
  rintro e w3 ⟨rfl, hb3⟩
  have B3 : Hid (Below _ _ w3) := B2.out.trans (hb3.mono B2.out.size)
  have hh3 := hh2.below hb3
  have xx3 := xx2.below hb3
  clear y1 y2 y4 hb3 hh2 xx2 B2
  have y1 := xx3.x1
  have y2 := xx3.x2
  have y4 := xx3.x4
  go_wp2_with fail
  all_goals first
    | (go_ret; exact ⟨rfl, B3.out⟩)
    | (rename_i hx; exfalso; have hy := hx.2; rw [hm3] at hy; cases hy)

set_option maxRecDepth 100000 in
set_option maxHeartbeats 8000000 in
theorem bad2In (i j : Nat) (op r1 r2 im f4 fc fg fh wn : Int) (a : Bool) (w : World) (h : MdIs w g N R pc zs) (hi : i < N) (h2 : 2 ≤ i) (hN : N ≤ 64) (hj : i - 1 = j) (f0 : 16 ≤ f) (f1 : f ≤ 128)
    (ho : R (i * 5) = op) (hr : R (i * 5 + 1) = 2) (hr1 : R (i * 5 + 2) = r1) (hr2' : R (i * 5 + 3) = r2) (him : R (i * 5 + 4) = im) (h4b : (op == 4) = false) (h3b : (op == 3) = false) (hsq : shT op = ⟨f4, fc, fg, fh⟩) (hf4b : (f4 == 4) = false)
    (Ea : ∀ w', MdIs w' g N R pc zs → Calls Tryz.prog 98 #[.slice (some ⟨g, 0, none⟩) N c, .int .i64 (i : Nat), .int .i64 f] w' fun e w'' => e = .returned (.bool a) ∧ Below w'.heap.size w' w'')
    (Eb : ∀ w', MdIs w' g N R pc zs → Calls Tryz.prog 98 #[.slice (some ⟨g, 0, none⟩) N c, .int .i64 (j : Nat), .int .i64 f] w' fun e w'' => e = .returned (.bool false) ∧ Below w'.heap.size w' w'')
    (hop : 11 ≤ op ∧ op ≤ 21) (hwn : wdN op = wn) (hw0 : 0 < wn) (hw8 : wn ≤ 8) :
    Calls Tryz.prog 83 #[.slice (some ⟨g, 0, none⟩) N c, .int .i64 i, .int .i64 at', .int .i64 f, .slice pc zs.length cc] w fun e w' => e = .returned (.int .i64 21) ∧ Below w.heap.size w w' := by
  obtain ⟨K, hK⟩ : ∃ K, zs.length = K := ⟨_, rfl⟩
  rw [hK]
  clear hK
  obtain ⟨x0, x1, x2, x3, x4⟩ := h.l.five hi
  simp only [Nat.zero_add] at x0 x1 x2 x3 x4
  rw [ho] at x0
  rw [hr] at x1
  rw [hr1] at x2
  rw [hr2'] at x3
  rw [him] at x4
  have B1 : Below w.heap.size w (w.alloc (.cells #[.int .i64 op, .int .i64 2, .int .i64 r1, .int .i64 r2, .int .i64 im] 93)) := (Below.refl _ _).alloc (Nat.le_refl _) _
  have hh := h.below B1
  have xx : XIs (w.alloc (.cells #[.int .i64 op, .int .i64 2, .int .i64 r1, .int .i64 r2, .int .i64 im] 93)) w.heap.size op 2 r1 r2 im := ⟨by simp, by simp, by simp, by simp, by simp⟩
  have BB : Hid (Below w.heap.size w (w.alloc (.cells #[.int .i64 op, .int .i64 2, .int .i64 r1, .int .i64 r2, .int .i64 im] 93))) := B1
  have hsub : ((i : Int) - 1) = ((j : Nat) : Int) := by omega
  have hsh := fun w' => specShs op f4 fc fg fh w' hsq
  clear B1 h hsq hj ho hr hr1 hr2' him
  have wd := fun w' => specWidIn op w' hop.1 hop.2
  rw [hwn] at wd
  have hwz : ¬ wn = 0 := by omega
  go_enter Tryz.func83, Tryz.ntmps83
  go_wp2_with (go_at_call 97; refine (wd _).mono ?_; rintro e w' ⟨rfl, rfl⟩)
  refine (hsh _).mono ?_
  rintro e w2 ⟨rfl, hb2⟩
  have B2 : Hid (Below _ _ w2) := BB.out.trans (hb2.mono BB.out.size)
  have hh2 := hh.below hb2
  have xx2 := xx.below hb2
  have y1 := xx2.x1
  have y2 := xx2.x2
  have y4 := xx2.x4
  have hfd := shField0 f4 fc fg fh w2
  clear hb2 hh xx BB hsh x0 x1 x2 x3 x4
  go_wp2_with fail
  try rw [hsub]
  refine (Eb _ hh2).mono ?_
  rintro e w3 ⟨rfl, hb3⟩
  have B3 : Hid (Below _ _ w3) := B2.out.trans (hb3.mono B2.out.size)
  have hh3 := hh2.below hb3
  have xx3 := xx2.below hb3
  clear y1 y2 y4 hb3 hh2 xx2 B2
  have y1 := xx3.x1
  have y2 := xx3.x2
  have y4 := xx3.x4
  go_wp2_with fail
  all_goals first
    | (go_ret; exact ⟨rfl, B3.out⟩)
    | (rename_i hx; exfalso; have hy := hx.2; rw [hm3] at hy; cases hy)

set_option maxRecDepth 100000 in
set_option maxHeartbeats 8000000 in
theorem bad1Out (i j : Nat) (op r1 r2 im f4 fc fg fh wn : Int) (b : Bool) (w : World) (h : MdIs w g N R pc zs) (hi : i < N) (h2 : 2 ≤ i) (hN : N ≤ 64) (hj : i - 1 = j) (f0 : 16 ≤ f) (f1 : f ≤ 128)
    (ho : R (i * 5) = op) (hr : R (i * 5 + 1) = 1) (hr1 : R (i * 5 + 2) = r1) (hr2' : R (i * 5 + 3) = r2) (him : R (i * 5 + 4) = im) (h4b : (op == 4) = false) (h3b : (op == 3) = false) (hsq : shT op = ⟨f4, fc, fg, fh⟩) (hf4b : (f4 == 4) = false)
    (Ea : ∀ w', MdIs w' g N R pc zs → Calls Tryz.prog 98 #[.slice (some ⟨g, 0, none⟩) N c, .int .i64 (i : Nat), .int .i64 f] w' fun e w'' => e = .returned (.bool false) ∧ Below w'.heap.size w' w'')
    (Eb : ∀ w', MdIs w' g N R pc zs → Calls Tryz.prog 98 #[.slice (some ⟨g, 0, none⟩) N c, .int .i64 (j : Nat), .int .i64 f] w' fun e w'' => e = .returned (.bool b) ∧ Below w'.heap.size w' w'')
    (o0 : 1 ≤ op) (hop : op < 11 ∨ 21 < op) :
    Calls Tryz.prog 83 #[.slice (some ⟨g, 0, none⟩) N c, .int .i64 i, .int .i64 at', .int .i64 f, .slice pc zs.length cc] w fun e w' => e = .returned (.int .i64 21) ∧ Below w.heap.size w w' := by
  obtain ⟨K, hK⟩ : ∃ K, zs.length = K := ⟨_, rfl⟩
  rw [hK]
  clear hK
  obtain ⟨x0, x1, x2, x3, x4⟩ := h.l.five hi
  simp only [Nat.zero_add] at x0 x1 x2 x3 x4
  rw [ho] at x0
  rw [hr] at x1
  rw [hr1] at x2
  rw [hr2'] at x3
  rw [him] at x4
  have B1 : Below w.heap.size w (w.alloc (.cells #[.int .i64 op, .int .i64 1, .int .i64 r1, .int .i64 r2, .int .i64 im] 93)) := (Below.refl _ _).alloc (Nat.le_refl _) _
  have hh := h.below B1
  have xx : XIs (w.alloc (.cells #[.int .i64 op, .int .i64 1, .int .i64 r1, .int .i64 r2, .int .i64 im] 93)) w.heap.size op 1 r1 r2 im := ⟨by simp, by simp, by simp, by simp, by simp⟩
  have BB : Hid (Below w.heap.size w (w.alloc (.cells #[.int .i64 op, .int .i64 1, .int .i64 r1, .int .i64 r2, .int .i64 im] 93))) := B1
  have hsub : ((i : Int) - 1) = ((j : Nat) : Int) := by omega
  have hsh := fun w' => specShs op f4 fc fg fh w' hsq
  clear B1 h hsq hj ho hr hr1 hr2' him
  have wd := fun w' => specWidOut op w' hop
  go_enter Tryz.func83, Tryz.ntmps83
  go_wp2_with (go_at_call 97; refine (wd _).mono ?_; rintro e w' ⟨rfl, rfl⟩)
  refine (hsh _).mono ?_
  rintro e w2 ⟨rfl, hb2⟩
  have B2 : Hid (Below _ _ w2) := BB.out.trans (hb2.mono BB.out.size)
  have hh2 := hh.below hb2
  have xx2 := xx.below hb2
  have y1 := xx2.x1
  have y2 := xx2.x2
  have y4 := xx2.x4
  have hfd := shField0 f4 fc fg fh w2
  clear hb2 hh xx BB hsh x0 x1 x2 x3 x4
  go_wp2_with fail
  try rw [hsub]
  refine (Ea _ hh2).mono ?_
  rintro e w3 ⟨rfl, hb3⟩
  have B3 : Hid (Below _ _ w3) := B2.out.trans (hb3.mono B2.out.size)
  have hh3 := hh2.below hb3
  have xx3 := xx2.below hb3
  clear y1 y2 y4 hb3 hh2 xx2 B2
  have y1 := xx3.x1
  have y2 := xx3.x2
  have y4 := xx3.x4
  go_wp2_with fail
  all_goals first
    | (go_ret; exact ⟨rfl, B3.out⟩)
    | (rename_i hx; exfalso; have hy := hx.2; rw [hm3] at hy; cases hy)

set_option maxRecDepth 100000 in
set_option maxHeartbeats 8000000 in
theorem bad2Out (i j : Nat) (op r1 r2 im f4 fc fg fh wn : Int) (a : Bool) (w : World) (h : MdIs w g N R pc zs) (hi : i < N) (h2 : 2 ≤ i) (hN : N ≤ 64) (hj : i - 1 = j) (f0 : 16 ≤ f) (f1 : f ≤ 128)
    (ho : R (i * 5) = op) (hr : R (i * 5 + 1) = 2) (hr1 : R (i * 5 + 2) = r1) (hr2' : R (i * 5 + 3) = r2) (him : R (i * 5 + 4) = im) (h4b : (op == 4) = false) (h3b : (op == 3) = false) (hsq : shT op = ⟨f4, fc, fg, fh⟩) (hf4b : (f4 == 4) = false)
    (Ea : ∀ w', MdIs w' g N R pc zs → Calls Tryz.prog 98 #[.slice (some ⟨g, 0, none⟩) N c, .int .i64 (i : Nat), .int .i64 f] w' fun e w'' => e = .returned (.bool a) ∧ Below w'.heap.size w' w'')
    (Eb : ∀ w', MdIs w' g N R pc zs → Calls Tryz.prog 98 #[.slice (some ⟨g, 0, none⟩) N c, .int .i64 (j : Nat), .int .i64 f] w' fun e w'' => e = .returned (.bool false) ∧ Below w'.heap.size w' w'')
    (o0 : 1 ≤ op) (hop : op < 11 ∨ 21 < op) :
    Calls Tryz.prog 83 #[.slice (some ⟨g, 0, none⟩) N c, .int .i64 i, .int .i64 at', .int .i64 f, .slice pc zs.length cc] w fun e w' => e = .returned (.int .i64 21) ∧ Below w.heap.size w w' := by
  obtain ⟨K, hK⟩ : ∃ K, zs.length = K := ⟨_, rfl⟩
  rw [hK]
  clear hK
  obtain ⟨x0, x1, x2, x3, x4⟩ := h.l.five hi
  simp only [Nat.zero_add] at x0 x1 x2 x3 x4
  rw [ho] at x0
  rw [hr] at x1
  rw [hr1] at x2
  rw [hr2'] at x3
  rw [him] at x4
  have B1 : Below w.heap.size w (w.alloc (.cells #[.int .i64 op, .int .i64 2, .int .i64 r1, .int .i64 r2, .int .i64 im] 93)) := (Below.refl _ _).alloc (Nat.le_refl _) _
  have hh := h.below B1
  have xx : XIs (w.alloc (.cells #[.int .i64 op, .int .i64 2, .int .i64 r1, .int .i64 r2, .int .i64 im] 93)) w.heap.size op 2 r1 r2 im := ⟨by simp, by simp, by simp, by simp, by simp⟩
  have BB : Hid (Below w.heap.size w (w.alloc (.cells #[.int .i64 op, .int .i64 2, .int .i64 r1, .int .i64 r2, .int .i64 im] 93))) := B1
  have hsub : ((i : Int) - 1) = ((j : Nat) : Int) := by omega
  have hsh := fun w' => specShs op f4 fc fg fh w' hsq
  clear B1 h hsq hj ho hr hr1 hr2' him
  have wd := fun w' => specWidOut op w' hop
  go_enter Tryz.func83, Tryz.ntmps83
  go_wp2_with (go_at_call 97; refine (wd _).mono ?_; rintro e w' ⟨rfl, rfl⟩)
  refine (hsh _).mono ?_
  rintro e w2 ⟨rfl, hb2⟩
  have B2 : Hid (Below _ _ w2) := BB.out.trans (hb2.mono BB.out.size)
  have hh2 := hh.below hb2
  have xx2 := xx.below hb2
  have y1 := xx2.x1
  have y2 := xx2.x2
  have y4 := xx2.x4
  have hfd := shField0 f4 fc fg fh w2
  clear hb2 hh xx BB hsh x0 x1 x2 x3 x4
  go_wp2_with fail
  try rw [hsub]
  refine (Eb _ hh2).mono ?_
  rintro e w3 ⟨rfl, hb3⟩
  have B3 : Hid (Below _ _ w3) := B2.out.trans (hb3.mono B2.out.size)
  have hh3 := hh2.below hb3
  have xx3 := xx2.below hb3
  clear y1 y2 y4 hb3 hh2 xx2 B2
  have y1 := xx3.x1
  have y2 := xx3.x2
  have y4 := xx3.x4
  go_wp2_with fail
  all_goals first
    | (go_ret; exact ⟨rfl, B3.out⟩)
    | (rename_i hx; exfalso; have hy := hx.2; rw [hm3] at hy; cases hy)

end
end Go.Proofs.YtelogjpjglohoaaGreatDoor
