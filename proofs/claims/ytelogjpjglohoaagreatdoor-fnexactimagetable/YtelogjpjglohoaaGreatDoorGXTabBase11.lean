/- The program's check of one instruction. -/
import Derived.Test.YtelogjpjglohoaaGreatDoorGXTabBase10
namespace Go.Proofs.YtelogjpjglohoaaGreatDoor
open Go Go.RowKit
set_option linter.unusedVariables false
section
variable {F g q N cl cq : Nat} {pc : Option Addr} {cc : Nat} {at' f : Int} {R P : Nat → Int} {zs : List Int}

/-- The width of a load or store. -/
theorem wd_in {op : Int} (h0 : 11 ≤ op) (h1 : op ≤ 21) : wdN op = 1 ∨ wdN op = 2 ∨ wdN op = 4 ∨ wdN op = 8 := by
  unfold wdN
  have : op = 11 ∨ op = 12 ∨ op = 13 ∨ op = 14 ∨ op = 15 ∨ op = 16 ∨ op = 17 ∨ op = 18 ∨ op = 19 ∨ op = 20 ∨ op = 21 := by omega
  rcases this with rfl | rfl | rfl | rfl | rfl | rfl | rfl | rfl | rfl | rfl | rfl <;> simp

/-- The rule for what goes nowhere. -/
def plI (R : Nat → Int) (N : Nat) (f : Int) (i : Nat) : Int :=
  if (R (i * 5 + 1) = 1 ∧ epB R N f i = false) ∨ (R (i * 5 + 1) = 2 ∧ epB R N f (i - 1) = false) then 21
  else if (11 ≤ R (i * 5) ∧ R (i * 5) ≤ 21) ∧ R (i * 5 + 2) = 2 ∧ epB R N f i = false ∧ ¬ (0 ≤ R (i * 5 + 4) ∧ R (i * 5 + 4) ≤ f - 8 - wdN (R (i * 5)) ∧ R (i * 5 + 4) % wdN (R (i * 5)) = 0) then 17
  else 0
theorem implWidIn (op : Int) (w : World) (h0 : 11 ≤ op) (h1 : op ≤ 21) : Calls Tryz.prog 140 #[.int .i64 op] w fun e w' => e = .returned (.tuple #[.int .i64 (wdN op), .bool (wdS op), .int .i64 0]) ∧ w' = w := by
  have := implWidth op w
  unfold wdR at this
  rw [if_neg (by omega), if_neg (by omega)] at this
  exact this
theorem implWidOut (op : Int) (w : World) (h0 : 1 ≤ op) (h1 : op ≤ 64) (h : op < 11 ∨ 21 < op) : Calls Tryz.prog 140 #[.int .i64 op] w fun e w' => e = .returned (.tuple #[.int .i64 0, .bool false, .int .i64 26]) ∧ w' = w := by
  have := implWidth op w
  unfold wdR at this
  rw [if_neg (by omega), if_pos h] at this
  exact this

set_option maxHeartbeats 8000000 in
theorem plainC (i : Nat) (w : World) (h : FnIs w F g q N cl cq pc cc at' f R P zs) (hi : i < N) (hN : N ≤ 64) (hP : ∀ i, i < N → P i = partI R N f i) (f0 : 16 ≤ f) (f1 : f ≤ 128) (hs : Small5 R i) :
    Calls Tryz.prog 127 #[.pointer (some ⟨F, 0, none⟩), .int .i64 i] w fun e w' => e = .returned (.int .i64 (plI R N f i)) ∧ Below w.heap.size w w' := by
  have c0 := h.c0
  have c1 := h.c1
  obtain ⟨x0, x1, x2, x3, x4⟩ := h.l.five hi
  have p0 := h.p i hi
  simp only [Nat.zero_add] at x0 x1 x2 x3 x4 p0
  rw [hP i hi] at p0
  have q1 := part_one R N f i
  have q2 := part_two R N f i
  have i0 := hs.i0
  have i1 := hs.i1
  have o0 := hs.o0
  have o1 := hs.o1
  obtain ⟨res, hres⟩ : ∃ res, plI R N f i = res := ⟨_, rfl⟩
  rw [hres]
  unfold plI at hres
  obtain ⟨v, hv⟩ : ∃ v, partI R N f i = v := ⟨_, rfl⟩
  obtain ⟨a, ha⟩ : ∃ a, epB R N f i = a := ⟨_, rfl⟩
  obtain ⟨b, hb⟩ : ∃ b, epB R N f (i - 1) = b := ⟨_, rfl⟩
  obtain ⟨op, ho⟩ : ∃ op, R (i * 5) = op := ⟨_, rfl⟩
  obtain ⟨rd, hr⟩ : ∃ rd, R (i * 5 + 1) = rd := ⟨_, rfl⟩
  obtain ⟨r1, hr1⟩ : ∃ r1, R (i * 5 + 2) = r1 := ⟨_, rfl⟩
  obtain ⟨r2, hr2⟩ : ∃ r2, R (i * 5 + 3) = r2 := ⟨_, rfl⟩
  obtain ⟨im, him⟩ : ∃ im, R (i * 5 + 4) = im := ⟨_, rfl⟩
  rw [hv, ha] at q1
  rw [hv, hb] at q2
  rw [hv] at p0
  rw [ho] at x0 o0 o1
  rw [hr] at x1
  rw [hr1] at x2
  rw [hr2] at x3
  rw [him] at x4 i0 i1
  rw [ho, hr, hr1, him, ha, hb] at hres
  clear hv ha hb ho hr hr1 hr2 him hP hs
  have far : ∀ (o : Obj) (b k : Nat) (v : Value), b < w.heap.size → w.cell? ⟨b, k, none⟩ = some v → (w.alloc o).cell? ⟨b, k, none⟩ = some v := fun o b k v hb hv => (((Below.refl w.heap.size w).alloc (Nat.le_refl _) o).cell (p := ⟨b, k, none⟩) hb).trans hv
  have d1 := far (.cells #[.int .i64 0, .int .i64 0, .int .i64 0, .int .i64 0, .int .i64 0] 93) F 1 _ h.lF c1
  have d2 := far (.cells #[.int .i64 0, .int .i64 0, .int .i64 0, .int .i64 0, .int .i64 0] 93) q i _ h.lq p0
  have d3 := far (.cells #[.int .i64 0, .int .i64 0, .int .i64 0, .int .i64 0, .int .i64 0] 93) F 0 _ h.lF c0
  have d4 := far (.cells #[.int .i64 0, .int .i64 0, .int .i64 0, .int .i64 0, .int .i64 0] 93) g (i * 5) _ h.lg x0
  have d5 := far (.cells #[.int .i64 0, .int .i64 0, .int .i64 0, .int .i64 0, .int .i64 0] 93) g (i * 5 + 1) _ h.lg x1
  have d6 := far (.cells #[.int .i64 0, .int .i64 0, .int .i64 0, .int .i64 0, .int .i64 0] 93) g (i * 5 + 2) _ h.lg x2
  have d7 := far (.cells #[.int .i64 0, .int .i64 0, .int .i64 0, .int .i64 0, .int .i64 0] 93) g (i * 5 + 3) _ h.lg x3
  have d8 := far (.cells #[.int .i64 0, .int .i64 0, .int .i64 0, .int .i64 0, .int .i64 0] 93) g (i * 5 + 4) _ h.lg x4
  have e1 := far (.cells #[.int .i64 op, .int .i64 rd, .int .i64 r1, .int .i64 r2, .int .i64 im] 93) F 1 _ h.lF c1
  have e2 := far (.cells #[.int .i64 op, .int .i64 rd, .int .i64 r1, .int .i64 r2, .int .i64 im] 93) q i _ h.lq p0
  clear far
  go_enter Tryz.func127, Tryz.ntmps127
  go_wp2
  go_region
  obtain ⟨W1, hW1⟩ : ∃ W1, (w.alloc (.cells #[.int .i64 op, .int .i64 rd, .int .i64 r1, .int .i64 r2, .int .i64 im] 93)).drew = W1 := ⟨_, rfl⟩
  have B1 : Below w.heap.size w W1 := by rw [← hW1]; exact ((Below.refl _ _).alloc (Nat.le_refl _) _).drew
  have h1 := h.below B1
  have y0 : W1.cell? ⟨w.heap.size, 0, none⟩ = some (.int .i64 op) := by rw [← hW1]; simp
  have y1 : W1.cell? ⟨w.heap.size, 1, none⟩ = some (.int .i64 rd) := by rw [← hW1]; simp
  have y2 : W1.cell? ⟨w.heap.size, 2, none⟩ = some (.int .i64 r1) := by rw [← hW1]; simp
  have y4 : W1.cell? ⟨w.heap.size, 4, none⟩ = some (.int .i64 im) := by rw [← hW1]; simp
  rw [hW1]
  clear hW1 d1 d2 d3 d4 d5 d6 d7 d8 e1 e2 c0 c1 x0 x1 x2 x3 x4 p0 h
  have hres : Hid (_ = res) := hres
  have HB : Hid (Below w.heap.size w W1) := B1
  clear B1
  -- a register that may not be written
  by_cases hbad : (rd = 1 ∧ a = false) ∨ (rd = 2 ∧ b = false)
  · have hr21 : res = 21 := by rw [← hres.out, if_pos hbad]
    subst hr21
    rcases hbad with ⟨rfl, rfl⟩ | ⟨rfl, rfl⟩
    · have hv1 : (v == 1) = false := by
        have : ¬ v = 1 := fun e => by have := q1.1 e; cases this
        simpa using this
      have hv1' : ¬ v = 1 := by simpa using hv1
      clear q1 q2 hres
      go_wp2
      go_ret
      exact ⟨rfl, HB.out⟩
    · have hv1' : ¬ v = 2 := fun e => by have := q2.1 e; cases this
      clear q1 q2 hres
      go_wp2
      go_ret
      exact ⟨rfl, HB.out⟩
  rw [if_neg hbad] at hres
  have hA : (rd = 1 ∧ v = 1) ∨ (rd = 2 ∧ v = 2) ∨ (¬ rd = 1 ∧ ¬ rd = 2) := by
    by_cases e1 : rd = 1
    · left
      refine ⟨e1, q1.2 ?_⟩
      cases a
      · exact absurd (.inl ⟨e1, rfl⟩) hbad
      · rfl
    · by_cases e2 : rd = 2
      · right; left
        refine ⟨e2, q2.2 ?_⟩
        cases b
        · exact absurd (.inr ⟨e2, rfl⟩) hbad
        · rfl
      · exact .inr (.inr ⟨e1, e2⟩)
  by_cases hop : 11 ≤ op ∧ op ≤ 21
  · obtain ⟨p0, p1⟩ := hop
    have hw := wd_in p0 p1
    by_cases hr2 : r1 = 2
    · by_cases hv1 : v = 1
      · have hz : res = 0 := by rw [← hres.out, if_neg]; intro hh; have := q1.1 hv1; rw [this] at hh; cases hh.2.2.1
        subst hz hr2 hv1
        clear q1 q2 hres hbad
        rcases hA with ⟨rfl, _⟩ | ⟨rfl, hx⟩ | ⟨g1, g2⟩
        · go_wp2_with (go_at_call 140; refine (implWidIn op _ p0 p1).mono ?_; rintro e w' ⟨rfl, rfl⟩)
          go_ret
          exact ⟨rfl, HB.out⟩
        · exact absurd hx (by omega)
        · go_wp2_with (go_at_call 140; refine (implWidIn op _ p0 p1).mono ?_; rintro e w' ⟨rfl, rfl⟩)
          go_ret
          exact ⟨rfl, HB.out⟩
      · have ha : a = false := by cases a; rfl; exact absurd (q1.2 rfl) hv1
        subst ha hr2
        have hfr := fun w' hh => inFrameC (F := F) (g := g) (q := q) (N := N) (cl := cl) (cq := cq) (pc := pc) (cc := cc) (at' := at') (f := f) (R := R) (P := P) (zs := zs) im (wdN op) w' hh f0 f1 i0 i1 hw
        cases hd : decide (0 ≤ im ∧ im ≤ f - 8 - wdN op ∧ im % wdN op = 0) with
        | true =>
          have hz : res = 0 := by rw [← hres.out, if_neg]; intro hh; exact hh.2.2.2 (of_decide_eq_true hd)
          subst hz
          rw [hd] at hfr
          clear q1 q2 hres hbad hd hw
          rcases hA with ⟨rfl, hx⟩ | ⟨rfl, hx⟩ | ⟨g1, g2⟩
          · exact absurd hx hv1
          all_goals
            go_wp2_with (first | (go_at_call 140; refine (implWidIn op _ p0 p1).mono ?_; rintro e w' ⟨rfl, rfl⟩) | (go_at_call 141; refine (hfr _ h1).mono ?_; rintro e w' ⟨rfl, rfl⟩))
            go_ret
            exact ⟨rfl, HB.out⟩
        | false =>
          have hz : res = 17 := by rw [← hres.out, if_pos]; exact ⟨⟨p0, p1⟩, rfl, rfl, of_decide_eq_false hd⟩
          subst hz
          rw [hd] at hfr
          clear q1 q2 hres hbad hd hw
          rcases hA with ⟨rfl, hx⟩ | ⟨rfl, hx⟩ | ⟨g1, g2⟩
          · exact absurd hx hv1
          all_goals
            go_wp2_with (first | (go_at_call 140; refine (implWidIn op _ p0 p1).mono ?_; rintro e w' ⟨rfl, rfl⟩) | (go_at_call 141; refine (hfr _ h1).mono ?_; rintro e w' ⟨rfl, rfl⟩))
            go_ret
            exact ⟨rfl, HB.out⟩
    · have hz : res = 0 := by rw [← hres.out, if_neg]; intro hh; exact hr2 hh.2.1
      subst hz
      have hr2b : (r1 == 2) = false := by simpa using hr2
      clear q1 q2 hres hbad hw
      rcases hA with ⟨rfl, rfl⟩ | ⟨rfl, rfl⟩ | ⟨g1, g2⟩
      all_goals
        go_wp2_with (go_at_call 140; refine (implWidIn op _ p0 p1).mono ?_; rintro e w' ⟨rfl, rfl⟩)
        go_ret
        exact ⟨rfl, HB.out⟩
  · have hz : res = 0 := by rw [← hres.out, if_neg]; intro hh; exact hop hh.1
    have hop' : op < 11 ∨ 21 < op := by omega
    subst hz
    clear q1 q2 hres hbad hop
    rcases hA with ⟨rfl, rfl⟩ | ⟨rfl, rfl⟩ | ⟨g1, g2⟩
    all_goals
      go_wp2_with (go_at_call 140; refine (implWidOut op _ o0 o1 hop').mono ?_; rintro e w' ⟨rfl, rfl⟩)
      go_ret
      exact ⟨rfl, HB.out⟩
end
end Go.Proofs.YtelogjpjglohoaaGreatDoor
