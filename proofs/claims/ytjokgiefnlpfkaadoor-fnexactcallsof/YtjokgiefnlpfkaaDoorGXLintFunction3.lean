/- The program's check of functions: a function under check in memory; its small questions. The program's check of one instruction. Bits of numbers with a sign: plain. Numbers as bytes: plain. The lowest bits of a number as a number with a sign: plain. The numbers of the forms: plain. -/
import Derived.Test.YtjokgiefnlpfkaaDoorGXLintFunction0
import Derived.Test.YtjokgiefnlpfkaaDoorGXLintFunction2
import Derived.WalkKit
import Derived.Laws.BitsAllLaws
import Derived.IntWalk
namespace Go.Proofs.YtjokgiefnlpfkaaDoor
open Go Go.RowKit
set_option linter.unusedVariables false

/-- A list of ints: its elements. -/
def IntsAt (w : World) (p : Option Addr) (zs : List Int) : Prop := zs.length = 0 ∨ ∃ b o, p = some ⟨b, o, none⟩ ∧ b < w.heap.size ∧ Rdb w b o zs.length (fun i => zs.getD i 0)
theorem IntsAt.below {w w' : World} {p : Option Addr} {zs : List Int} (h : IntsAt w p zs) (hb : Below w.heap.size w w') : IntsAt w' p zs := by
  rcases h with h | ⟨b, o, h1, h2, h3⟩
  · exact .inl h
  · exact .inr ⟨b, o, h1, Nat.lt_of_lt_of_le h2 hb.size, h3.below hb h2⟩

/-- A function under check, at block F: its list (block g), its parts (block q), its place, its frame, what it may call. -/
structure FnIs (w : World) (F g q N cl cq : Nat) (pc : Option Addr) (cc : Nat) (at' f : Int) (R P : Nat → Int) (zs : List Int) : Prop where
  c0 : w.cell? ⟨F, 0, none⟩ = some (.slice (some ⟨g, 0, none⟩) N cl)
  c1 : w.cell? ⟨F, 1, none⟩ = some (.slice (some ⟨q, 0, none⟩) N cq)
  c2 : w.cell? ⟨F, 2, none⟩ = some (.int .i64 at')
  c3 : w.cell? ⟨F, 3, none⟩ = some (.int .i64 f)
  c4 : w.cell? ⟨F, 4, none⟩ = some (.slice pc zs.length cc)
  l : Rdb w g 0 (N * 5) R
  p : Rdb w q 0 N P
  z : IntsAt w pc zs
  lF : F < w.heap.size
  lg : g < w.heap.size
  lq : q < w.heap.size
theorem FnIs.below {w w' : World} {F g q N cl cq : Nat} {pc : Option Addr} {cc : Nat} {at' f : Int} {R P : Nat → Int} {zs : List Int} (h : FnIs w F g q N cl cq pc cc at' f R P zs) (hb : Below w.heap.size w w') : FnIs w' F g q N cl cq pc cc at' f R P zs :=
  ⟨(hb.cell (p := ⟨F, 0, none⟩) h.lF).trans h.c0, (hb.cell (p := ⟨F, 1, none⟩) h.lF).trans h.c1, (hb.cell (p := ⟨F, 2, none⟩) h.lF).trans h.c2, (hb.cell (p := ⟨F, 3, none⟩) h.lF).trans h.c3, (hb.cell (p := ⟨F, 4, none⟩) h.lF).trans h.c4,
    h.l.below hb h.lg, h.p.below hb h.lq, h.z.below hb, Nat.lt_of_lt_of_le h.lF hb.size, Nat.lt_of_lt_of_le h.lg hb.size, Nat.lt_of_lt_of_le h.lq hb.size⟩
theorem FnIs.drew {w : World} {F g q N cl cq : Nat} {pc : Option Addr} {cc : Nat} {at' f : Int} {R P : Nat → Int} {zs : List Int} (h : FnIs w F g q N cl cq pc cc at' f R P zs) : FnIs w.drew F g q N cl cq pc cc at' f R P zs := ⟨h.c0, h.c1, h.c2, h.c3, h.c4, h.l, h.p, h.z, h.lF, h.lg, h.lq⟩

/-- What is known of a right instruction's numbers. -/
structure Small5 (R : Nat → Int) (i : Nat) : Prop where
  o0 : 1 ≤ R (i * 5)
  o1 : R (i * 5) ≤ 64
  i0 : -2147483648 ≤ R (i * 5 + 4)
  i1 : R (i * 5 + 4) ≤ 2147483647

theorem faultC (b : Bool) (c : Int) (w : World) :
    Calls Tryd.prog 93 #[.bool b, .int .i64 c] w fun e w' => e = .returned (.int .i64 (if b = true then 0 else c)) ∧ w' = w := by
  cases b
  · go_enter Tryd.func93, Tryd.ntmps93
    go_wp2
    go_ret
    exact ⟨rfl, rfl⟩
  · go_enter Tryd.func93, Tryd.ntmps93
    go_wp2
    go_ret
    exact ⟨rfl, rfl⟩

theorem isCallC (op rd r1 r2 im : Int) (w : World) :
    Calls Tryd.prog 44 #[.agg #[.int .i64 op, .int .i64 rd, .int .i64 r1, .int .i64 r2, .int .i64 im]] w fun e w' => e = .returned (.bool (decide (op = 3 ∧ rd = 1))) ∧ Below w.heap.size w w' := by
  by_cases h : op = 3
  · subst h
    go_enter Tryd.func44, Tryd.ntmps44
    go_wp2
    go_ret
    exact ⟨congrArg (fun x => Ending.returned (.bool x)) (by rw [Bool.eq_iff_iff]; simp), (Below.refl _ _).alloc (Nat.le_refl _) _⟩
  · have hb : (op == 3) = false := by simpa using h
    go_enter Tryd.func44, Tryd.ntmps44
    go_wp2
    go_ret
    exact ⟨congrArg (fun x => Ending.returned (.bool x)) (by simp [h]), (Below.refl _ _).alloc (Nat.le_refl _) _⟩

theorem mayEndC (op rd r1 r2 im : Int) (w : World) :
    Calls Tryd.prog 69 #[.agg #[.int .i64 op, .int .i64 rd, .int .i64 r1, .int .i64 r2, .int .i64 im]] w fun e w' => e = .returned (.bool (decide (op = 4 ∨ (op = 3 ∧ rd = 0)))) ∧ Below w.heap.size w w' := by
  by_cases h4 : op = 4
  · subst h4
    go_enter Tryd.func69, Tryd.ntmps69
    go_wp2
    go_ret
    exact ⟨congrArg (fun x => Ending.returned (.bool x)) (by simp), (Below.refl _ _).alloc (Nat.le_refl _) _⟩
  have hb4 : (op == 4) = false := by simpa using h4
  by_cases h : op = 3
  · subst h
    go_enter Tryd.func69, Tryd.ntmps69
    go_wp2
    go_ret
    exact ⟨congrArg (fun x => Ending.returned (.bool x)) (by rw [Bool.eq_iff_iff]; simp), (Below.refl _ _).alloc (Nat.le_refl _) _⟩
  · have hb : (op == 3) = false := by simpa using h
    go_enter Tryd.func69, Tryd.ntmps69
    go_wp2
    go_ret
    exact ⟨congrArg (fun x => Ending.returned (.bool x)) (by simp [h, h4]), (Below.refl _ _).alloc (Nat.le_refl _) _⟩

theorem targetC (at' : Int) (i : Nat) (op rd r1 r2 im : Int) (w : World) (h0 : 0 ≤ at') (h1 : at' ≤ 1048575) (hi : i < 20000) (h2 : -2147483648 ≤ im) (h3 : im ≤ 2147483647) :
    Calls Tryd.prog 45 #[.int .i64 at', .int .i64 i, .agg #[.int .i64 op, .int .i64 rd, .int .i64 r1, .int .i64 r2, .int .i64 im]] w fun e w' => e = .returned (.int .i64 (at' + 4 * i + im)) ∧ Below w.heap.size w w' := by
  go_enter Tryd.func45, Tryd.ntmps45
  go_wp2
  go_ret
  exact ⟨rfl, (Below.refl _ _).alloc (Nat.le_refl _) _⟩

set_option maxHeartbeats 1000000 in
/-- slices.Contains over ints. -/
theorem indexC (p : Option Addr) (c : Nat) (zs : List Int) (x : Int) (w : World) (hn : zs.length ≤ 1048576) (hp : IntsAt w p zs) :
    Calls Tryd.prog 128 #[.slice p zs.length c, .int .i64 x] w fun e w' => (∃ r : Int, e = .returned (.int .i64 r) ∧ (zs.contains x = true ↔ 0 ≤ r)) ∧ w' = w := by
  obtain ⟨n, hN⟩ : ∃ n, zs.length = n := ⟨_, rfl⟩
  rw [hN] at hn ⊢
  go_enter Tryd.func128, Tryd.ntmps128
  go_wp2
  go_loop [8] (fun i => ∃ k : Nat, k ≤ n ∧ i = .int .i64 k ∧ ∀ j, j < k → zs.getD j 0 ≠ x) (fun i => n - (intOf i).toNat)
  case atStart => exact ⟨0, Nat.zero_le _, rfl, fun j hj => absurd hj (Nat.not_lt_zero _)⟩
  case round =>
    obtain ⟨k, hk, rfl, hno⟩ := hrel
    by_cases hlt : k < n
    · rcases hp with hp | ⟨b, o, rfl, hb, hp⟩
      · omega
      have hx : w.cell? ⟨b, o + k, none⟩ = some (.int .i64 (zs.getD k 0)) := hp k (by omega)
      by_cases e : zs.getD k 0 = x
      · have hx' : w.cell? ⟨b, o + k, none⟩ = some (.int .i64 x) := by rw [← e]; exact hx
        clear hp hx
        go_wp2
        go_ret
        refine ⟨⟨_, rfl, ?_⟩, rfl⟩
        have hm : x ∈ zs := by
          rw [← e]
          have : zs.getD k 0 = zs[k]'(by omega) := by simp [List.getD, hN, hlt]
          rw [this]
          exact List.getElem_mem _
        constructor
        · intro _; omega
        · intro _; simpa using hm
      · have e' : ¬ (x = zs.getD k 0) := fun h => e h.symm
        obtain ⟨y, hy⟩ : ∃ y, zs.getD k 0 = y := ⟨_, rfl⟩
        rw [hy] at hx e e'
        have HY : Hid (zs.getD k 0 = y) := hy
        clear hp hy
        go_wp2
        go_round
        case rel => exact ⟨k + 1, by omega, by go_num, fun j hj => by
          rcases Nat.lt_succ_iff_lt_or_eq.1 hj with h | rfl
          · exact hno j h
          · rw [HY.out]; exact e⟩
        case measure => simp [intOf]; omega
    · obtain rfl : k = n := by omega
      go_wp2
      go_ret
      refine ⟨⟨-1, rfl, ?_⟩, rfl⟩
      constructor
      · intro h
        obtain ⟨j, hj, e⟩ := List.mem_iff_getElem.1 (by simpa using h : x ∈ zs)
        exact absurd (by simp [List.getD, hj, e]) (hno j (by omega))
      · intro h; omega
theorem containsC (p : Option Addr) (c : Nat) (zs : List Int) (x : Int) (w : World) (hn : zs.length ≤ 1048576) (hp : IntsAt w p zs) :
    Calls Tryd.prog 116 #[.slice p zs.length c, .int .i64 x] w fun e w' => e = .returned (.bool (hasB zs x)) ∧ w' = w := by
  unfold hasB
  go_enter Tryd.func116, Tryd.ntmps116
  go_wp2_with (go_at_call 128; refine (indexC p c zs x _ hn hp).mono ?_; rintro e w' ⟨⟨r, rfl, hr⟩, rfl⟩)
  go_ret
  exact ⟨congrArg (fun x => Ending.returned (.bool x)) (by rw [Bool.eq_iff_iff, hr]; simp), rfl⟩

section
variable {F g q N cl cq : Nat} {pc : Option Addr} {cc : Nat} {at' f : Int} {R P : Nat → Int} {zs : List Int}

theorem inFrameC (im n : Int) (w : World) (h : FnIs w F g q N cl cq pc cc at' f R P zs) (f0 : 16 ≤ f) (f1 : f ≤ 128) (h2 : -2147483648 ≤ im) (h3 : im ≤ 2147483647) (hn : n = 1 ∨ n = 2 ∨ n = 4 ∨ n = 8) :
    Calls Tryd.prog 118 #[.pointer (some ⟨F, 0, none⟩), .int .i64 im, .int .i64 n] w fun e w' => e = .returned (.bool (decide (0 ≤ im ∧ im ≤ f - 8 - n ∧ im % n = 0))) ∧ w' = w := by
  have c3 := h.c3
  clear h
  rcases hn with rfl | rfl | rfl | rfl
  all_goals
    by_cases hm : im < 0
    · go_enter Tryd.func118, Tryd.ntmps118
      go_wp2
      all_goals
        go_ret
        refine ⟨congrArg (fun x => Ending.returned (.bool x)) ?_, rfl⟩
        first
          | rfl
          | (symm; rw [decide_eq_false_iff_not]; omega)
          | (rw [Bool.eq_iff_iff]; simp; done)
          | (rw [Bool.eq_iff_iff]; simp; omega)
    · have hm' : 0 ≤ im := by omega
      go_enter Tryd.func118, Tryd.ntmps118
      go_wp2
      all_goals
        go_ret
        refine ⟨congrArg (fun x => Ending.returned (.bool x)) ?_, rfl⟩
        first
          | rfl
          | (symm; rw [decide_eq_false_iff_not]; omega)
          | (rw [Bool.eq_iff_iff]; simp; done)
          | (rw [Bool.eq_iff_iff]; simp; omega)

theorem mayJumpC (i : Nat) (w : World) (h : FnIs w F g q N cl cq pc cc at' f R P zs) (hi : i < N) (hN : N ≤ 64) (hP : ∀ i, i < N → P i = partI R N f i) (hs : Small5 R i) :
    Calls Tryd.prog 95 #[.pointer (some ⟨F, 0, none⟩), .int .i64 i] w fun e w' => e = .returned (.bool (goB R N f i (R (i * 5 + 4)))) ∧ w' = w := by
  have c0 := h.c0
  have c1 := h.c1
  have x4 := (h.l.five hi).2.2.2.2
  have hi0 := hs.i0
  have hi1 := hs.i1
  have hp := h.p
  have HG : Hid (goB R N f i (R (i * 5 + 4)) = _) := rfl
  obtain ⟨im, him⟩ : ∃ im, R (i * 5 + 4) = im := ⟨_, rfl⟩
  rw [him] at x4 hi0 hi1 ⊢
  simp only [Nat.zero_add] at x4
  clear h HG him
  by_cases hm : im % 4 = 0
  · obtain ⟨d, hd⟩ : ∃ d, im / 4 = d := ⟨_, rfl⟩
    have e1 : im = 4 * d := by omega
    subst e1
    have hm1 : (4 * d).tmod 4 = 0 := by rw [Int.mul_comm]; exact Int.mul_tmod_left d 4
    have hd1 : (4 * d).tdiv 4 = d := Int.mul_tdiv_cancel_left d (by omega)
    by_cases ht0 : (i : Int) + d < 2
    · have hg : goB R N f i (4 * d) = false := by unfold goB; simp [hd]; omega
      rw [hg]
      clear hd hm
      go_enter Tryd.func95, Tryd.ntmps95
      go_wp2
      go_ret
      exact ⟨rfl, rfl⟩
    · by_cases ht1 : (N : Int) ≤ (i : Int) + d
      · have hg : goB R N f i (4 * d) = false := by unfold goB; simp [hd]; omega
        rw [hg]
        clear hd hm
        go_enter Tryd.func95, Tryd.ntmps95
        go_wp2
        go_ret
        exact ⟨rfl, rfl⟩
      · obtain ⟨t, ht⟩ : ∃ t : Nat, (i : Int) + d = t := ⟨((i : Int) + d).toNat, by omega⟩
        have htN : t < N := by omega
        have ht2 : 2 ≤ t := by omega
        have hpt := hp t htN
        have hPt := hP t htN
        have hg : goB R N f i (4 * d) = (!epB R N f (t - 1) && !epB R N f (t - 2)) := by
          unfold goB
          rw [hd, ht]
          simp
          omega
        rw [hg]
        have hpg := part_go R N f t
        rw [← hPt] at hpg
        obtain ⟨v, hv⟩ : ∃ v, P t = v := ⟨_, rfl⟩
        rw [hv] at hpt hpg
        simp only [Nat.zero_add] at hpt
        clear hd hm hg hp hP hPt hv
        by_cases hv0 : v = 0
        · subst hv0
          obtain ⟨g1, g2⟩ := hpg.1 (.inl rfl)
          rw [g1, g2]
          clear hpg g1 g2
          go_enter Tryd.func95, Tryd.ntmps95
          go_wp2
          go_ret
          exact ⟨rfl, rfl⟩
        · have hv0b : (v == 0) = false := by simpa using hv0
          by_cases hv1 : v = 1
          · subst hv1
            obtain ⟨g1, g2⟩ := hpg.1 (.inr rfl)
            rw [g1, g2]
            clear hpg g1 g2
            go_enter Tryd.func95, Tryd.ntmps95
            go_wp2
            go_ret
            exact ⟨rfl, rfl⟩
          · have hv1b : (v == 1) = false := by simpa using hv1
            have hg : (!epB R N f (t - 1) && !epB R N f (t - 2)) = false := by
              cases h1 : epB R N f (t - 1)
              · cases h2 : epB R N f (t - 2)
                · rcases hpg.2 ⟨h1, h2⟩ with h | h
                  · exact absurd h hv0
                  · exact absurd h hv1
                · rfl
              · rfl
            rw [hg]
            clear hpg hg
            go_enter Tryd.func95, Tryd.ntmps95
            go_wp2
            go_ret
            exact ⟨congrArg (fun x => Ending.returned (.bool x)) (by first | rfl | simp [hv0b, hv1b]), rfl⟩
  · have hg : goB R N f i im = false := by unfold goB; simp [hm]
    have hm1 : ¬ (im.tmod 4 = 0) := by
      intro e
      exact hm (Int.emod_eq_zero_of_dvd (Int.dvd_of_tmod_eq_zero e))
    rw [hg]
    go_enter Tryd.func95, Tryd.ntmps95
    go_wp2
    go_ret
    exact ⟨rfl, rfl⟩

set_option maxHeartbeats 8000000 in
theorem mayCallC (i : Nat) (w : World) (h : FnIs w F g q N cl cq pc cc at' f R P zs) (hi : i < N) (hN : N ≤ 64) (hz : zs.length ≤ 1048576) (h0 : 0 ≤ at') (h1 : at' ≤ 1048575) (hs : Small5 R i) :
    Calls Tryd.prog 94 #[.pointer (some ⟨F, 0, none⟩), .int .i64 i] w fun e w' => e = .returned (.bool (hasB zs (at' + 4 * i + R (i * 5 + 4)))) ∧ Below w.heap.size w w' := by
  have c0 := h.c0
  have c2 := h.c2
  have c4 := h.c4
  obtain ⟨x0, x1, x2, x3, x4⟩ := h.l.five hi
  simp only [Nat.zero_add] at x0 x1 x2 x3 x4
  have hz0 := h.z
  have lF := h.lF
  have lg := h.lg
  have i0 := hs.i0
  have i1 := hs.i1
  clear hs h
  go_enter Tryd.func94, Tryd.ntmps94
  go_wp2
  obtain ⟨W0, hW0⟩ : ∃ W0, W0 = w := ⟨_, rfl⟩
  go_region_held3 (fun w' => w'.cell? ⟨F, 0, none⟩ = some (.slice (some ⟨g, 0, none⟩) N cl) ∧ w'.cell? ⟨F, 2, none⟩ = some (.int .i64 at') ∧ w'.cell? ⟨F, 4, none⟩ = some (.slice pc zs.length cc) ∧ w'.cell? ⟨g, i * 5, none⟩ = some (.int .i64 (R (i * 5))) ∧ w'.cell? ⟨g, i * 5 + 1, none⟩ = some (.int .i64 (R (i * 5 + 1))) ∧ w'.cell? ⟨g, i * 5 + 2, none⟩ = some (.int .i64 (R (i * 5 + 2))) ∧ w'.cell? ⟨g, i * 5 + 3, none⟩ = some (.int .i64 (R (i * 5 + 3))) ∧ w'.cell? ⟨g, i * 5 + 4, none⟩ = some (.int .i64 (R (i * 5 + 4)))) (go_keep) (first | (go_at_call 45; refine (targetC at' i _ _ _ _ _ _ h0 h1 (by omega) i0 i1).mono ?_; rintro e w1 ⟨rfl, hb1⟩; have B1 : Below w.heap.size w w1 := (by first | exact hb1 | exact (Below.refl w.heap.size w).drew.trans hb1); have d0 := (B1.cell (p := ⟨F, 0, none⟩) lF).trans c0; have d2 := (B1.cell (p := ⟨F, 2, none⟩) lF).trans c2; have d4 := (B1.cell (p := ⟨F, 4, none⟩) lF).trans c4; have y0 := (B1.cell (p := ⟨g, i * 5, none⟩) lg).trans x0; have y1 := (B1.cell (p := ⟨g, i * 5 + 1, none⟩) lg).trans x1; have y2 := (B1.cell (p := ⟨g, i * 5 + 2, none⟩) lg).trans x2; have y3 := (B1.cell (p := ⟨g, i * 5 + 3, none⟩) lg).trans x3; have y4 := (B1.cell (p := ⟨g, i * 5 + 4, none⟩) lg).trans x4; have hz1 := hz0.below B1) | (go_at_call 116; refine (containsC pc cc zs _ _ hz hz1).mono ?_; rintro e w2 ⟨rfl, rfl⟩))
  have B2 : Hid (Below w.heap.size w w2) := B1
  clear hb1 B1 hz1 d0 d2 d4 y0 y1 y2 y3 y4
  go_wp2
  go_ret
  exact ⟨rfl, B2.out⟩

end
end Go.Proofs.YtjokgiefnlpfkaaDoor

namespace Go.Proofs.YtjokgiefnlpfkaaDoor
open Go Go.RowKit
set_option linter.unusedVariables false
section
variable {F g q N cl cq : Nat} {pc : Option Addr} {cc : Nat} {at' f : Int} {R P : Nat → Int} {zs : List Int}

/-- The width of a load or store. -/
theorem wd_in {op : Int} (h0 : 11 ≤ op) (h1 : op ≤ 21) : wdN op = 1 ∨ wdN op = 2 ∨ wdN op = 4 ∨ wdN op = 8 := by
  unfold wdN
  have : op = 11 ∨ op = 12 ∨ op = 13 ∨ op = 14 ∨ op = 15 ∨ op = 16 ∨ op = 17 ∨ op = 18 ∨ op = 19 ∨ op = 20 ∨ op = 21 := by omega
  rcases this with rfl | rfl | rfl | rfl | rfl | rfl | rfl | rfl | rfl | rfl | rfl <;> simp

/-- The rule for what goes nowhere. -/
def plI (R : Nat → Int) (N : Nat) (f : Int) (i : Nat) : Int :=
  if (R (i * 5 + 1) = 1 ∧ epB R N f i = false) ∨ (R (i * 5 + 1) = 2 ∧ epB R N f (i - 1) = false) then 21
  else if (11 ≤ R (i * 5) ∧ R (i * 5) ≤ 21) ∧ R (i * 5 + 2) = 2 ∧ epB R N f i = false ∧ ¬ (0 ≤ R (i * 5 + 4) ∧ R (i * 5 + 4) ≤ f - 8 - wdN (R (i * 5)) ∧ R (i * 5 + 4) % wdN (R (i * 5)) = 0) then 17
  else 0
theorem implWidIn (op : Int) (w : World) (h0 : 11 ≤ op) (h1 : op ≤ 21) : Calls Tryd.prog 117 #[.int .i64 op] w fun e w' => e = .returned (.tuple #[.int .i64 (wdN op), .bool (wdS op), .int .i64 0]) ∧ w' = w := by
  have := implWidth op w
  unfold wdR at this
  rw [if_neg (by omega), if_neg (by omega)] at this
  exact this
theorem implWidOut (op : Int) (w : World) (h0 : 1 ≤ op) (h1 : op ≤ 64) (h : op < 11 ∨ 21 < op) : Calls Tryd.prog 117 #[.int .i64 op] w fun e w' => e = .returned (.tuple #[.int .i64 0, .bool false, .int .i64 26]) ∧ w' = w := by
  have := implWidth op w
  unfold wdR at this
  rw [if_neg (by omega), if_pos h] at this
  exact this

set_option maxHeartbeats 8000000 in
theorem plainC (i : Nat) (w : World) (h : FnIs w F g q N cl cq pc cc at' f R P zs) (hi : i < N) (hN : N ≤ 64) (hP : ∀ i, i < N → P i = partI R N f i) (f0 : 16 ≤ f) (f1 : f ≤ 128) (hs : Small5 R i) :
    Calls Tryd.prog 96 #[.pointer (some ⟨F, 0, none⟩), .int .i64 i] w fun e w' => e = .returned (.int .i64 (plI R N f i)) ∧ Below w.heap.size w w' := by
  have c0 := h.c0
  have c1 := h.c1
  obtain ⟨x0, x1, x2, x3, x4⟩ := h.l.five hi
  have p0 := h.p i hi
  simp only [Nat.zero_add] at x0 x1 x2 x3 x4 p0
  rw [hP i hi] at p0
  have q1 := part_one R N f i
  have q2 := part_two R N f i
  have i0 := hs.i0
  have i1 := hs.i1
  have o0 := hs.o0
  have o1 := hs.o1
  obtain ⟨res, hres⟩ : ∃ res, plI R N f i = res := ⟨_, rfl⟩
  rw [hres]
  unfold plI at hres
  obtain ⟨v, hv⟩ : ∃ v, partI R N f i = v := ⟨_, rfl⟩
  obtain ⟨a, ha⟩ : ∃ a, epB R N f i = a := ⟨_, rfl⟩
  obtain ⟨b, hb⟩ : ∃ b, epB R N f (i - 1) = b := ⟨_, rfl⟩
  obtain ⟨op, ho⟩ : ∃ op, R (i * 5) = op := ⟨_, rfl⟩
  obtain ⟨rd, hr⟩ : ∃ rd, R (i * 5 + 1) = rd := ⟨_, rfl⟩
  obtain ⟨r1, hr1⟩ : ∃ r1, R (i * 5 + 2) = r1 := ⟨_, rfl⟩
  obtain ⟨r2, hr2⟩ : ∃ r2, R (i * 5 + 3) = r2 := ⟨_, rfl⟩
  obtain ⟨im, him⟩ : ∃ im, R (i * 5 + 4) = im := ⟨_, rfl⟩
  rw [hv, ha] at q1
  rw [hv, hb] at q2
  rw [hv] at p0
  rw [ho] at x0 o0 o1
  rw [hr] at x1
  rw [hr1] at x2
  rw [hr2] at x3
  rw [him] at x4 i0 i1
  rw [ho, hr, hr1, him, ha, hb] at hres
  clear hv ha hb ho hr hr1 hr2 him hP hs
  have far : ∀ (o : Obj) (b k : Nat) (v : Value), b < w.heap.size → w.cell? ⟨b, k, none⟩ = some v → (w.alloc o).cell? ⟨b, k, none⟩ = some v := fun o b k v hb hv => (((Below.refl w.heap.size w).alloc (Nat.le_refl _) o).cell (p := ⟨b, k, none⟩) hb).trans hv
  have d1 := far (.cells #[.int .i64 0, .int .i64 0, .int .i64 0, .int .i64 0, .int .i64 0] 47) F 1 _ h.lF c1
  have d2 := far (.cells #[.int .i64 0, .int .i64 0, .int .i64 0, .int .i64 0, .int .i64 0] 47) q i _ h.lq p0
  have d3 := far (.cells #[.int .i64 0, .int .i64 0, .int .i64 0, .int .i64 0, .int .i64 0] 47) F 0 _ h.lF c0
  have d4 := far (.cells #[.int .i64 0, .int .i64 0, .int .i64 0, .int .i64 0, .int .i64 0] 47) g (i * 5) _ h.lg x0
  have d5 := far (.cells #[.int .i64 0, .int .i64 0, .int .i64 0, .int .i64 0, .int .i64 0] 47) g (i * 5 + 1) _ h.lg x1
  have d6 := far (.cells #[.int .i64 0, .int .i64 0, .int .i64 0, .int .i64 0, .int .i64 0] 47) g (i * 5 + 2) _ h.lg x2
  have d7 := far (.cells #[.int .i64 0, .int .i64 0, .int .i64 0, .int .i64 0, .int .i64 0] 47) g (i * 5 + 3) _ h.lg x3
  have d8 := far (.cells #[.int .i64 0, .int .i64 0, .int .i64 0, .int .i64 0, .int .i64 0] 47) g (i * 5 + 4) _ h.lg x4
  have e1 := far (.cells #[.int .i64 op, .int .i64 rd, .int .i64 r1, .int .i64 r2, .int .i64 im] 47) F 1 _ h.lF c1
  have e2 := far (.cells #[.int .i64 op, .int .i64 rd, .int .i64 r1, .int .i64 r2, .int .i64 im] 47) q i _ h.lq p0
  clear far
  go_enter Tryd.func96, Tryd.ntmps96
  go_wp2
  go_region
  obtain ⟨W1, hW1⟩ : ∃ W1, (w.alloc (.cells #[.int .i64 op, .int .i64 rd, .int .i64 r1, .int .i64 r2, .int .i64 im] 47)).drew = W1 := ⟨_, rfl⟩
  have B1 : Below w.heap.size w W1 := by rw [← hW1]; exact ((Below.refl _ _).alloc (Nat.le_refl _) _).drew
  have h1 := h.below B1
  have y0 : W1.cell? ⟨w.heap.size, 0, none⟩ = some (.int .i64 op) := by rw [← hW1]; simp
  have y1 : W1.cell? ⟨w.heap.size, 1, none⟩ = some (.int .i64 rd) := by rw [← hW1]; simp
  have y2 : W1.cell? ⟨w.heap.size, 2, none⟩ = some (.int .i64 r1) := by rw [← hW1]; simp
  have y4 : W1.cell? ⟨w.heap.size, 4, none⟩ = some (.int .i64 im) := by rw [← hW1]; simp
  rw [hW1]
  clear hW1 d1 d2 d3 d4 d5 d6 d7 d8 e1 e2 c0 c1 x0 x1 x2 x3 x4 p0 h
  have hres : Hid (_ = res) := hres
  have HB : Hid (Below w.heap.size w W1) := B1
  clear B1
  -- a register that may not be written
  by_cases hbad : (rd = 1 ∧ a = false) ∨ (rd = 2 ∧ b = false)
  · have hr21 : res = 21 := by rw [← hres.out, if_pos hbad]
    subst hr21
    rcases hbad with ⟨rfl, rfl⟩ | ⟨rfl, rfl⟩
    · have hv1 : (v == 1) = false := by
        have : ¬ v = 1 := fun e => by have := q1.1 e; cases this
        simpa using this
      have hv1' : ¬ v = 1 := by simpa using hv1
      clear q1 q2 hres
      go_wp2
      go_ret
      exact ⟨rfl, HB.out⟩
    · have hv1' : ¬ v = 2 := fun e => by have := q2.1 e; cases this
      clear q1 q2 hres
      go_wp2
      go_ret
      exact ⟨rfl, HB.out⟩
  rw [if_neg hbad] at hres
  have hA : (rd = 1 ∧ v = 1) ∨ (rd = 2 ∧ v = 2) ∨ (¬ rd = 1 ∧ ¬ rd = 2) := by
    by_cases e1 : rd = 1
    · left
      refine ⟨e1, q1.2 ?_⟩
      cases a
      · exact absurd (.inl ⟨e1, rfl⟩) hbad
      · rfl
    · by_cases e2 : rd = 2
      · right; left
        refine ⟨e2, q2.2 ?_⟩
        cases b
        · exact absurd (.inr ⟨e2, rfl⟩) hbad
        · rfl
      · exact .inr (.inr ⟨e1, e2⟩)
  by_cases hop : 11 ≤ op ∧ op ≤ 21
  · obtain ⟨p0, p1⟩ := hop
    have hw := wd_in p0 p1
    by_cases hr2 : r1 = 2
    · by_cases hv1 : v = 1
      · have hz : res = 0 := by rw [← hres.out, if_neg]; intro hh; have := q1.1 hv1; rw [this] at hh; cases hh.2.2.1
        subst hz hr2 hv1
        clear q1 q2 hres hbad
        rcases hA with ⟨rfl, _⟩ | ⟨rfl, hx⟩ | ⟨g1, g2⟩
        · go_wp2_with (go_at_call 117; refine (implWidIn op _ p0 p1).mono ?_; rintro e w' ⟨rfl, rfl⟩)
          go_ret
          exact ⟨rfl, HB.out⟩
        · exact absurd hx (by omega)
        · go_wp2_with (go_at_call 117; refine (implWidIn op _ p0 p1).mono ?_; rintro e w' ⟨rfl, rfl⟩)
          go_ret
          exact ⟨rfl, HB.out⟩
      · have ha : a = false := by cases a; rfl; exact absurd (q1.2 rfl) hv1
        subst ha hr2
        have hfr := fun w' hh => inFrameC (F := F) (g := g) (q := q) (N := N) (cl := cl) (cq := cq) (pc := pc) (cc := cc) (at' := at') (f := f) (R := R) (P := P) (zs := zs) im (wdN op) w' hh f0 f1 i0 i1 hw
        cases hd : decide (0 ≤ im ∧ im ≤ f - 8 - wdN op ∧ im % wdN op = 0) with
        | true =>
          have hz : res = 0 := by rw [← hres.out, if_neg]; intro hh; exact hh.2.2.2 (of_decide_eq_true hd)
          subst hz
          rw [hd] at hfr
          clear q1 q2 hres hbad hd hw
          rcases hA with ⟨rfl, hx⟩ | ⟨rfl, hx⟩ | ⟨g1, g2⟩
          · exact absurd hx hv1
          all_goals
            go_wp2_with (first | (go_at_call 117; refine (implWidIn op _ p0 p1).mono ?_; rintro e w' ⟨rfl, rfl⟩) | (go_at_call 118; refine (hfr _ h1).mono ?_; rintro e w' ⟨rfl, rfl⟩))
            go_ret
            exact ⟨rfl, HB.out⟩
        | false =>
          have hz : res = 17 := by rw [← hres.out, if_pos]; exact ⟨⟨p0, p1⟩, rfl, rfl, of_decide_eq_false hd⟩
          subst hz
          rw [hd] at hfr
          clear q1 q2 hres hbad hd hw
          rcases hA with ⟨rfl, hx⟩ | ⟨rfl, hx⟩ | ⟨g1, g2⟩
          · exact absurd hx hv1
          all_goals
            go_wp2_with (first | (go_at_call 117; refine (implWidIn op _ p0 p1).mono ?_; rintro e w' ⟨rfl, rfl⟩) | (go_at_call 118; refine (hfr _ h1).mono ?_; rintro e w' ⟨rfl, rfl⟩))
            go_ret
            exact ⟨rfl, HB.out⟩
    · have hz : res = 0 := by rw [← hres.out, if_neg]; intro hh; exact hr2 hh.2.1
      subst hz
      have hr2b : (r1 == 2) = false := by simpa using hr2
      clear q1 q2 hres hbad hw
      rcases hA with ⟨rfl, rfl⟩ | ⟨rfl, rfl⟩ | ⟨g1, g2⟩
      all_goals
        go_wp2_with (go_at_call 117; refine (implWidIn op _ p0 p1).mono ?_; rintro e w' ⟨rfl, rfl⟩)
        go_ret
        exact ⟨rfl, HB.out⟩
  · have hz : res = 0 := by rw [← hres.out, if_neg]; intro hh; exact hop hh.1
    have hop' : op < 11 ∨ 21 < op := by omega
    subst hz
    clear q1 q2 hres hbad hop
    rcases hA with ⟨rfl, rfl⟩ | ⟨rfl, rfl⟩ | ⟨g1, g2⟩
    all_goals
      go_wp2_with (go_at_call 117; refine (implWidOut op _ o0 o1 hop').mono ?_; rintro e w' ⟨rfl, rfl⟩)
      go_ret
      exact ⟨rfl, HB.out⟩
end
end Go.Proofs.YtjokgiefnlpfkaaDoor

namespace Go.Proofs.YtjokgiefnlpfkaaDoor

theorem i64_and_mask (a : Int) (n : Nat) (hn : n ≤ 62) : bits .and .i64 a (2 ^ n - 1) = a % 2 ^ n := by
  have hp : (2 : Nat) ^ n ≤ 2 ^ 62 := Nat.pow_le_pow_right (by decide) hn
  have hp1 : 0 < (2 : Nat) ^ n := Nat.pow_pos (by decide)
  have h62 : (2 : Nat) ^ 62 = 4611686018427387904 := by decide
  have e0 : ((2 : Int) ^ n - 1) = ((2 ^ n - 1 : Nat) : Int) := by
    rw [Int.natCast_sub hp1]
    simp
  have hm : (BitVec.ofInt 64 ((2 : Int) ^ n - 1)).toNat = 2 ^ n - 1 := by
    rw [e0, ofInt_u64 _ (by omega)]
  have key : (BitVec.ofInt 64 a &&& BitVec.ofInt 64 ((2 : Int) ^ n - 1)).toNat = (a % ((2 ^ 64 : Nat) : Int)).toNat % 2 ^ n := by
    rw [BitVec.toNat_and, BitVec.toNat_ofInt, hm, Nat.and_two_pow_sub_one_eq_mod]
  show IntKind.i64.wrap ((BitVec.ofInt 64 a &&& BitVec.ofInt 64 ((2 : Int) ^ n - 1)).toNat : Nat) = _
  have h0 : 0 ≤ a % ((2 ^ 64 : Nat) : Int) := Int.emod_nonneg _ (by decide)
  have hd : ((2 : Int) ^ n) ∣ ((2 ^ 64 : Nat) : Int) := by
    have : (2 : Nat) ^ n ∣ 2 ^ 64 := Nat.pow_dvd_pow 2 (by omega)
    have := Int.natCast_dvd_natCast.2 this
    simpa using this
  have hb := Nat.mod_lt (a % ((2 ^ 64 : Nat) : Int)).toNat hp1
  rw [key, IntWalk.i64_in _ (by omega), Int.natCast_emod, Int.toNat_of_nonneg h0]
  have e2 : ((2 ^ n : Nat) : Int) = 2 ^ n := by simp
  rw [e2, Int.emod_emod_of_dvd _ hd]

theorem or_gap (k n x y : Nat) (hx : x % 2 ^ (k + n) < 2 ^ k) (hy : y < 2 ^ (k + n)) (hz : y % 2 ^ k = 0) : x ||| y = x + y := by
  have hq := nat_join k y (x % 2 ^ (k + n)) hz hx
  have hc : y = 2 ^ k * (y / 2 ^ k) := by have := Nat.div_add_mod y (2 ^ k); omega
  have hlt : y / 2 ^ k < 2 ^ n := by
    rw [Nat.div_lt_iff_lt_mul (Nat.pow_pos (by decide)), ← Nat.pow_add, Nat.add_comm n k]
    exact hy
  have hle : 2 ^ k * (y / 2 ^ k + 1) ≤ 2 ^ k * 2 ^ n := Nat.mul_le_mul_left _ hlt
  rw [← Nat.pow_add, Nat.mul_add, ← hc, Nat.mul_one] at hle
  have hsum : y + x % 2 ^ (k + n) < 2 ^ (k + n) := by omega
  have hxx : 2 ^ (k + n) * (x / 2 ^ (k + n)) + x % 2 ^ (k + n) = x := Nat.div_add_mod _ _
  have j1 := nat_join (k + n) (2 ^ (k + n) * (x / 2 ^ (k + n))) (x % 2 ^ (k + n)) (Nat.mul_mod_right _ _) (Nat.mod_lt _ (Nat.pow_pos (by decide)))
  have j2 := nat_join (k + n) (2 ^ (k + n) * (x / 2 ^ (k + n))) (y + x % 2 ^ (k + n)) (Nat.mul_mod_right _ _) hsum
  have e : x ||| y = 2 ^ (k + n) * (x / 2 ^ (k + n)) ||| (y ||| x % 2 ^ (k + n)) := by
    rw [Nat.or_comm y, ← Nat.or_assoc, j1, hxx]
  rw [e, hq, j2]
  omega

theorem i64_or_nat (a b : Nat) (ha : a < 9223372036854775808) (hb : b < 9223372036854775808) : bits .or .i64 (a : Int) (b : Int) = ((a ||| b : Nat) : Int) := by
  have hx : a ||| b < 2 ^ 63 := Nat.or_lt_two_pow (by omega) (by omega)
  show IntKind.i64.wrap ((BitVec.ofInt 64 (a : Int) ||| BitVec.ofInt 64 (b : Int)).toNat : Int) = _
  rw [BitVec.toNat_or, ofInt_u64 a (by omega), ofInt_u64 b (by omega), IntWalk.i64_in _ (by omega)]

/-- Two numbers without a common bit: y lies in the bits k to k + n - 1, and x has none of these. -/
theorem i64_or_gap (k n : Nat) (A B : Int) (hA : A = 2 ^ k) (hB : B = 2 ^ (k + n)) (x y : Int) (x0 : 0 ≤ x) (x1 : x < 9223372036854775808) (hx : x % B < A) (y0 : 0 ≤ y) (y1 : y < B) (hz : y % A = 0) (hkn : k + n ≤ 63) : bits .or .i64 x y = x + y := by
  obtain ⟨x, rfl⟩ := Int.eq_ofNat_of_zero_le x0
  obtain ⟨y, rfl⟩ := Int.eq_ofNat_of_zero_le y0
  have eA : A = ((2 ^ k : Nat) : Int) := by rw [hA]; simp
  have eB : B = ((2 ^ (k + n) : Nat) : Int) := by rw [hB]; simp
  have hp : (2 : Nat) ^ (k + n) ≤ 2 ^ 63 := Nat.pow_le_pow_right (by decide) hkn
  have h63 : (2 : Nat) ^ 63 = 9223372036854775808 := by decide
  rw [eA, eB] at hx
  rw [eB] at y1
  rw [eA] at hz
  have hx' : x % 2 ^ (k + n) < 2 ^ k := by exact_mod_cast hx
  have hz' : y % 2 ^ k = 0 := by exact_mod_cast hz
  rw [i64_or_nat x y (by omega) (by omega), or_gap k n x y hx' (by omega) hz']
  simp
end Go.Proofs.YtjokgiefnlpfkaaDoor

namespace Go.Proofs.YtjokgiefnlpfkaaDoor

/-- The byte at a place of a number. -/
def leAt (u : Nat) (i : Nat) : UInt8 := UInt8.ofNat (u / 2 ^ (8 * i))
def leL (u n : Nat) : List UInt8 := (List.range n).map (leAt u)
theorem leL_len (u n : Nat) : (leL u n).length = n := by simp [leL]
theorem leL_succ (u n : Nat) : leL u (n + 1) = leL u n ++ [leAt u n] := by simp [leL, List.range_succ]
/-- The 64 bits of a number. -/
def u64 (v : Int) : Nat := (v % 18446744073709551616).toNat
theorem u64_lt (v : Int) : u64 v < 18446744073709551616 := by
  unfold u64
  omega

theorem leAt_nat (u i : Nat) : ((leAt u i).toNat : Int) = (u : Int) / 2 ^ (8 * i) % 256 := by
  unfold leAt
  rw [UInt8.toNat_ofNat']
  simp

theorem wrap_u64 (v : Int) : IntKind.u64.wrap v = (u64 v : Int) := by
  show v % 18446744073709551616 = _
  unfold u64
  omega
theorem wrap_u8 (v : Int) : IntKind.u8.wrap v = ((u64 v % 256 : Nat) : Int) := by
  show v % 256 = _
  unfold u64
  omega
theorem wrap_u16 (v : Int) : IntKind.u16.wrap v = ((u64 v % 65536 : Nat) : Int) := by
  show v % 65536 = _
  unfold u64
  omega
theorem wrap_u32 (v : Int) : IntKind.u32.wrap v = ((u64 v % 4294967296 : Nat) : Int) := by
  show v % 4294967296 = _
  unfold u64
  omega

theorem leAt_mod (u m i : Nat) (h : u / 2 ^ (8 * i) % 256 = m / 2 ^ (8 * i) % 256) : leAt u i = leAt m i := by
  unfold leAt
  rw [← UInt8.toNat_inj, UInt8.toNat_ofNat', UInt8.toNat_ofNat']
  exact h
theorem leL_1 (u : Nat) : leL (u % 256) 1 = leL u 1 := by
  simp only [leL, List.range_succ, List.range_zero, List.nil_append, List.map_cons, List.map_nil]
  rw [leAt_mod (u % 256) u 0 (by simp)]
theorem leL_2 (u : Nat) : leL (u % 65536) 2 = leL u 2 := by
  simp only [leL, List.range_succ, List.range_zero, List.nil_append, List.cons_append, List.map_cons, List.map_nil]
  rw [leAt_mod (u % 65536) u 0 (by simp), leAt_mod (u % 65536) u 1 (by simp; omega)]
theorem leL_4 (u : Nat) : leL (u % 4294967296) 4 = leL u 4 := by
  simp only [leL, List.range_succ, List.range_zero, List.nil_append, List.cons_append, List.map_cons, List.map_nil]
  rw [leAt_mod (u % 4294967296) u 0 (by simp), leAt_mod (u % 4294967296) u 1 (by simp; omega), leAt_mod (u % 4294967296) u 2 (by simp; omega), leAt_mod (u % 4294967296) u 3 (by simp; omega)]
end Go.Proofs.YtjokgiefnlpfkaaDoor

namespace Go.Proofs.YtjokgiefnlpfkaaDoor

theorem pow_pos (n : Nat) : (0 : Int) < 2 ^ n := Int.pow_pos (by decide)

/-- A bit of a number. -/
def bitT (v : Int) (i : Nat) : Int := (v / 2 ^ i) % 2
theorem bitT_bd (v : Int) (i : Nat) : bitT v i = 0 ∨ bitT v i = 1 := by
  unfold bitT; omega

/-- What is a multiple of a higher power leaves a bit as it is. -/
theorem bit_far (a k : Int) (n i : Nat) (h : i < n) : bitT (a + k * 2 ^ n) i = bitT a i := by
  unfold bitT
  obtain ⟨r, rfl⟩ : ∃ r, n = i + (r + 1) := ⟨n - i - 1, by omega⟩
  have e : k * 2 ^ (i + (r + 1)) = (2 * (k * 2 ^ r)) * 2 ^ i := by
    rw [Int.pow_add, Int.pow_succ]
    simp only [Int.mul_comm, Int.mul_left_comm]
  rw [e, Int.add_mul_ediv_right _ _ (Int.ne_of_gt (pow_pos i))]
  omega

theorem bit_u64 (v : Int) (i : Nat) (h : i < 64) : bitT (u64 v : Int) i = bitT v i := by
  have e : (u64 v : Int) = v + (-(v / 18446744073709551616)) * 2 ^ 64 := by
    unfold u64
    omega
  rw [e]
  exact bit_far v _ 64 i h

/-- The lowest c bits of v, with a sign. -/
def sgn (v : Int) (c : Nat) : Int := (v + 2 ^ (c - 1)) % 2 ^ c - 2 ^ (c - 1)

theorem sgn_bd (v : Int) (c : Nat) (h : 1 ≤ c) : -2 ^ (c - 1) ≤ sgn v c ∧ sgn v c < 2 ^ (c - 1) := by
  unfold sgn
  obtain ⟨d, rfl⟩ : ∃ d, c = d + 1 := ⟨c - 1, by omega⟩
  simp only [Nat.add_sub_cancel]
  have h1 := Int.emod_nonneg (v + 2 ^ d) (Int.ne_of_gt (pow_pos (d + 1)))
  have h2 := Int.emod_lt_of_pos (v + 2 ^ d) (pow_pos (d + 1))
  rw [Int.pow_succ] at h1 h2 ⊢
  omega

theorem sgn_far (v : Int) (c : Nat) : ∃ k : Int, sgn v c = v + k * 2 ^ c := by
  refine ⟨-((v + 2 ^ (c - 1)) / 2 ^ c), ?_⟩
  unfold sgn
  have := Int.emod_def (v + 2 ^ (c - 1)) (2 ^ c)
  rw [this, Int.neg_mul, Int.mul_comm (2 ^ c)]
  omega

theorem emod_up (x y : Int) (d : Nat) : (x * 2 ^ d) % (y * 2 ^ d) = (x % y) * 2 ^ d := by
  rw [Int.mul_comm x, Int.mul_comm y, Int.mul_emod_mul_of_pos _ _ (pow_pos d), Int.mul_comm]

/-- By its shifts: up, then down. -/
theorem sgn_shifts (v : Int) (c d : Nat) (h : c + d = 64) (hc : 1 ≤ c) : ((v * 2 ^ d + 9223372036854775808) % 18446744073709551616 - 9223372036854775808) / 2 ^ d = sgn v c := by
  have e1 : (9223372036854775808 : Int) = 2 ^ (c - 1) * 2 ^ d := by
    rw [← Int.pow_add, show c - 1 + d = 63 from by omega]; rfl
  have e2 : (18446744073709551616 : Int) = 2 ^ c * 2 ^ d := by
    rw [← Int.pow_add, h]; rfl
  rw [e1, e2, ← Int.add_mul, emod_up, ← Int.sub_mul, Int.mul_ediv_cancel _ (Int.ne_of_gt (pow_pos d))]
  rfl

theorem div_small (s : Int) (n : Nat) (h0 : -2 ^ n ≤ s) (h1 : s < 2 ^ n) : s / 2 ^ n = if s < 0 then -1 else 0 := by
  split
  · rename_i h
    have := Int.add_mul_ediv_right s 1 (Int.ne_of_gt (pow_pos n))
    have hz : (s + 1 * 2 ^ n) / 2 ^ n = 0 := Int.ediv_eq_zero_of_lt (by omega) (by omega)
    omega
  · exact Int.ediv_eq_zero_of_lt (by omega) h1

theorem pow_le {m n : Nat} (h : m ≤ n) : (2 : Int) ^ m ≤ 2 ^ n := by
  have := Nat.pow_le_pow_right (show 0 < 2 by decide) h
  exact_mod_cast this

theorem bit_sgn (v : Int) (c i : Nat) (hc : 1 ≤ c) : bitT (sgn v c) i = bitT v (min i (c - 1)) := by
  obtain ⟨k, hk⟩ := sgn_far v c
  by_cases hi : i < c
  · rw [hk, bit_far v k c i hi, Nat.min_eq_left (by omega)]
  · have hb := sgn_bd v c hc
    have hp := pow_le (show c - 1 ≤ i by omega)
    have h1 := div_small (sgn v c) i (by omega) (by omega)
    have h2 := div_small (sgn v c) (c - 1) hb.1 hb.2
    rw [Nat.min_eq_right (by omega), ← bit_far v k c (c - 1) (by omega), ← hk]
    unfold bitT
    rw [h1, h2]

/-- The model's sum, from the highest bit down. -/
theorem half_step (s k : Nat) : s / 2 ^ k = 2 * (s / 2 ^ (k + 1)) + (s / 2 ^ k) % 2 := by
  rw [Nat.pow_succ, ← Nat.div_div_eq_div_mul]
  omega

/-- Bits of the 64 of the signed number. -/
def sbits (v : Int) (c : Nat) : Nat := u64 (sgn v c)
theorem sbits_step (v : Int) (c k : Nat) (hc : 1 ≤ c) (hk : k < 64) : ((sbits v c / 2 ^ k : Nat) : Int) = 2 * ((sbits v c / 2 ^ (k + 1) : Nat) : Int) + bitT v (min k (c - 1)) := by
  rw [← bit_sgn v c k hc, ← bit_u64 (sgn v c) k hk]
  have := half_step (sbits v c) k
  unfold bitT
  unfold sbits at *
  rw [show ((u64 (sgn v c) : Int) / 2 ^ k) = ((u64 (sgn v c) / 2 ^ k : Nat) : Int) from by simp]
  omega
theorem sbits_top (v : Int) (c : Nat) : sbits v c / 2 ^ 64 = 0 := by
  have := u64_lt (sgn v c)
  unfold sbits
  exact Nat.div_eq_of_lt this
theorem sbits_half (v : Int) (c k : Nat) : sbits v c / 2 ^ (k + 1) ≤ 9223372036854775807 := by
  have := u64_lt (sgn v c)
  unfold sbits
  have h1 : u64 (sgn v c) / 2 ^ (k + 1) ≤ u64 (sgn v c) / 2 := by
    rw [Nat.pow_succ, Nat.mul_comm, ← Nat.div_div_eq_div_mul]
    exact Nat.div_le_self _ _
  omega
theorem sbits_back (v : Int) (c : Nat) (hc : 1 ≤ c) (hc2 : c ≤ 64) : IntKind.i64.wrap (sbits v c : Int) = sgn v c := by
  have hb := sgn_bd v c hc
  have hp := pow_le (show c - 1 ≤ 63 by omega)
  have hp' : (2 : Int) ^ 63 = 9223372036854775808 := rfl
  rw [IntKind.wrap_i64]
  unfold sbits u64
  omega
end Go.Proofs.YtjokgiefnlpfkaaDoor

namespace Go.Proofs.YtjokgiefnlpfkaaDoor

/-- The bits of a word that a form's number makes. -/
def layF (f v : Int) : Int :=
  if f = 1 then v / 4096 % 1048576 * 4096
  else if f = 2 then v / 4096 % 256 * 4096 + v / 2048 % 2 * 1048576 + v / 2 % 1024 * 2097152 + v / 1048576 % 2 * 2147483648
  else if f = 3 then v % 4096 * 1048576
  else if f = 4 then v / 2048 % 2 * 128 + v / 2 % 16 * 256 + v / 32 % 64 * 33554432 + v / 4096 % 2 * 2147483648
  else if f = 5 then v % 32 * 128 + v / 32 % 128 * 33554432
  else if f = 6 then v % 64 * 1048576
  else if f = 7 then v % 32 * 1048576
  else 0

/-- The number that lies in a word of a form. -/
def takeF (f w : Int) : Int :=
  if f = 1 then sgn (w / 4096 % 1048576 * 4096) 32
  else if f = 2 then sgn (w / 4096 % 256 * 4096 + w / 1048576 % 2 * 2048 + w / 2097152 % 1024 * 2 + w / 2147483648 % 2 * 1048576) 21
  else if f = 3 then sgn (w / 1048576 % 4096) 12
  else if f = 4 then sgn (w / 128 % 2 * 2048 + w / 256 % 16 * 2 + w / 33554432 % 64 * 32 + w / 2147483648 % 2 * 4096) 13
  else if f = 5 then sgn (w / 128 % 32 + w / 33554432 % 128 * 32) 12
  else if f = 6 then w / 1048576 % 64
  else if f = 7 then w / 1048576 % 32
  else 0

/-- May a form's number be v? -/
def okI (f v : Int) : Prop :=
  if f = 1 then -2147483648 ≤ v ∧ v ≤ 2147479552 ∧ v % 4096 = 0
  else if f = 2 then -1048576 ≤ v ∧ v ≤ 1048574 ∧ v % 2 = 0
  else if f = 3 then -2048 ≤ v ∧ v ≤ 2047
  else if f = 4 then -4096 ≤ v ∧ v ≤ 4094 ∧ v % 2 = 0
  else if f = 5 then -2048 ≤ v ∧ v ≤ 2047
  else if f = 6 then 0 ≤ v ∧ v ≤ 63
  else if f = 7 then 0 ≤ v ∧ v ≤ 31
  else v = 0

theorem sgn_num (v : Int) (c : Nat) (A B : Int) (hA : A = 2 ^ (c - 1)) (hB : B = 2 ^ c) : sgn v c = (v + A) % B - A := by
  rw [hA, hB]; rfl

theorem parts2 (a b c d : Int) (ha : 0 ≤ a ∧ a < 256) (hb : 0 ≤ b ∧ b < 2) (hc : 0 ≤ c ∧ c < 1024) (hd : 0 ≤ d ∧ d < 2) :
    (a * 4096 + b * 1048576 + c * 2097152 + d * 2147483648) / 4096 % 256 = a ∧ (a * 4096 + b * 1048576 + c * 2097152 + d * 2147483648) / 1048576 % 2 = b ∧
    (a * 4096 + b * 1048576 + c * 2097152 + d * 2147483648) / 2097152 % 1024 = c ∧ (a * 4096 + b * 1048576 + c * 2097152 + d * 2147483648) / 2147483648 % 2 = d := by
  have e1 : (a * 4096 + b * 1048576 + c * 2097152 + d * 2147483648) / 4096 = a + 256 * (b + c * 2 + d * 2048) := by omega
  have e2 : (a * 4096 + b * 1048576 + c * 2097152 + d * 2147483648) / 1048576 = b + 2 * (c + d * 1024) := by omega
  have e3 : (a * 4096 + b * 1048576 + c * 2097152 + d * 2147483648) / 2097152 = c + 1024 * d := by omega
  have e4 : (a * 4096 + b * 1048576 + c * 2097152 + d * 2147483648) / 2147483648 = d := by omega
  rw [e1, e2, e3, e4]
  clear e1 e2 e3 e4
  exact ⟨by omega, by omega, by omega, by omega⟩
theorem parts4 (a b c d : Int) (ha : 0 ≤ a ∧ a < 2) (hb : 0 ≤ b ∧ b < 16) (hc : 0 ≤ c ∧ c < 64) (hd : 0 ≤ d ∧ d < 2) :
    (a * 128 + b * 256 + c * 33554432 + d * 2147483648) / 128 % 2 = a ∧ (a * 128 + b * 256 + c * 33554432 + d * 2147483648) / 256 % 16 = b ∧
    (a * 128 + b * 256 + c * 33554432 + d * 2147483648) / 33554432 % 64 = c ∧ (a * 128 + b * 256 + c * 33554432 + d * 2147483648) / 2147483648 % 2 = d := by
  have e1 : (a * 128 + b * 256 + c * 33554432 + d * 2147483648) / 128 = a + 2 * (b + c * 131072 + d * 8388608) := by omega
  have e2 : (a * 128 + b * 256 + c * 33554432 + d * 2147483648) / 256 = b + 16 * (c * 8192 + d * 524288) := by omega
  have e3 : (a * 128 + b * 256 + c * 33554432 + d * 2147483648) / 33554432 = c + 64 * d := by omega
  have e4 : (a * 128 + b * 256 + c * 33554432 + d * 2147483648) / 2147483648 = d := by omega
  rw [e1, e2, e3, e4]
  clear e1 e2 e3 e4
  exact ⟨by omega, by omega, by omega, by omega⟩
theorem fin2 (v a b c d r q : Int) (ha : 0 ≤ a ∧ a < 256) (hb : 0 ≤ b ∧ b < 2) (hc : 0 ≤ c ∧ c < 1024) (hd : 0 ≤ d ∧ d < 2) (hr : 0 ≤ r ∧ r < 2)
    (hv : v = 2097152 * q + 1048576 * d + 4096 * a + 2048 * b + 2 * c + r) :
    (a * 4096 + b * 2048 + c * 2 + d * 1048576 + 1048576) % 2097152 - 1048576 = v ↔ (-1048576 ≤ v ∧ v ≤ 1048574 ∧ v % 2 = 0) := by
  obtain ⟨x, hx⟩ : ∃ x, x = 4096 * a + 2048 * b + 2 * c := ⟨_, rfl⟩
  have h1 : 0 ≤ x ∧ x < 1048576 := by omega
  have h2 : x % 2 = 0 := by omega
  have e : a * 4096 + b * 2048 + c * 2 + d * 1048576 + 1048576 = x + d * 1048576 + 1048576 := by omega
  have hv2 : v = 2097152 * q + 1048576 * d + x + r := by omega
  rw [e]
  clear e hv hx ha hb hc
  rcases (show d = 0 ∨ d = 1 by omega) with rfl | rfl
  · omega
  · omega
theorem fin4 (v a b c d r q : Int) (ha : 0 ≤ a ∧ a < 2) (hb : 0 ≤ b ∧ b < 16) (hc : 0 ≤ c ∧ c < 64) (hd : 0 ≤ d ∧ d < 2) (hr : 0 ≤ r ∧ r < 2)
    (hv : v = 8192 * q + 4096 * d + 2048 * a + 32 * c + 2 * b + r) :
    (a * 2048 + b * 2 + c * 32 + d * 4096 + 4096) % 8192 - 4096 = v ↔ (-4096 ≤ v ∧ v ≤ 4094 ∧ v % 2 = 0) := by
  obtain ⟨x, hx⟩ : ∃ x, x = 2048 * a + 32 * c + 2 * b := ⟨_, rfl⟩
  have h1 : 0 ≤ x ∧ x < 4096 := by omega
  have h2 : x % 2 = 0 := by omega
  have e : a * 2048 + b * 2 + c * 32 + d * 4096 + 4096 = x + d * 4096 + 4096 := by omega
  have hv2 : v = 8192 * q + 4096 * d + x + r := by omega
  rw [e]
  clear e hv hx ha hb hc
  rcases (show d = 0 ∨ d = 1 by omega) with rfl | rfl
  · omega
  · omega

set_option maxHeartbeats 1000000 in
theorem take_lay (f v : Int) (h1 : 0 ≤ f) (h9 : f ≤ 9) : takeF f (layF f v) = v ↔ okI f v := by
  have hf : f = 0 ∨ f = 1 ∨ f = 2 ∨ f = 3 ∨ f = 4 ∨ f = 5 ∨ f = 6 ∨ f = 7 ∨ f = 8 ∨ f = 9 := by omega
  rcases hf with rfl | rfl | rfl | rfl | rfl | rfl | rfl | rfl | rfl | rfl
  · show (0 : Int) = v ↔ v = 0
    omega
  · show sgn ((v / 4096 % 1048576 * 4096) / 4096 % 1048576 * 4096) 32 = v ↔ (-2147483648 ≤ v ∧ v ≤ 2147479552 ∧ v % 4096 = 0)
    rw [sgn_num _ 32 2147483648 4294967296 (by decide) (by decide)]
    omega
  · show sgn ((v / 4096 % 256 * 4096 + v / 2048 % 2 * 1048576 + v / 2 % 1024 * 2097152 + v / 1048576 % 2 * 2147483648) / 4096 % 256 * 4096 + (v / 4096 % 256 * 4096 + v / 2048 % 2 * 1048576 + v / 2 % 1024 * 2097152 + v / 1048576 % 2 * 2147483648) / 1048576 % 2 * 2048 + (v / 4096 % 256 * 4096 + v / 2048 % 2 * 1048576 + v / 2 % 1024 * 2097152 + v / 1048576 % 2 * 2147483648) / 2097152 % 1024 * 2 + (v / 4096 % 256 * 4096 + v / 2048 % 2 * 1048576 + v / 2 % 1024 * 2097152 + v / 1048576 % 2 * 2147483648) / 2147483648 % 2 * 1048576) 21 = v ↔ (-1048576 ≤ v ∧ v ≤ 1048574 ∧ v % 2 = 0)
    rw [sgn_num _ 21 1048576 2097152 (by decide) (by decide)]
    obtain ⟨c, q1, r, hr, hc, hv1⟩ : ∃ c q1 r : Int, (0 ≤ r ∧ r < 2) ∧ (0 ≤ c ∧ c < 1024) ∧ v = 2048 * q1 + 2 * c + r := ⟨v / 2 % 1024, v / 2048, v % 2, by omega, by omega, by omega⟩
    obtain ⟨b, q2, hb, hv2⟩ : ∃ b q2 : Int, (0 ≤ b ∧ b < 2) ∧ q1 = 2 * q2 + b := ⟨q1 % 2, q1 / 2, by omega, by omega⟩
    obtain ⟨a, q3, ha, hv3⟩ : ∃ a q3 : Int, (0 ≤ a ∧ a < 256) ∧ q2 = 256 * q3 + a := ⟨q2 % 256, q2 / 256, by omega, by omega⟩
    obtain ⟨d, q4, hd, hv4⟩ : ∃ d q4 : Int, (0 ≤ d ∧ d < 2) ∧ q3 = 2 * q4 + d := ⟨q3 % 2, q3 / 2, by omega, by omega⟩
    have f1 : v / 4096 % 256 = a := by
      have : v / 4096 = q2 := by omega
      omega
    have f2 : v / 2048 % 2 = b := by
      have : v / 2048 = q1 := by omega
      omega
    have f3 : v / 2 % 1024 = c := by
      have : v / 2 = 1024 * q1 + c := by omega
      omega
    have f4 : v / 1048576 % 2 = d := by
      have : v / 1048576 = q3 := by omega
      omega
    rw [f1, f2, f3, f4]
    obtain ⟨e1, e2, e3, e4⟩ := parts2 a b c d ha hb hc hd
    rw [e1, e2, e3, e4]
    exact fin2 v a b c d r q4 ha hb hc hd hr (by rw [hv1, hv2, hv3, hv4]; omega)
  · show sgn ((v % 4096 * 1048576) / 1048576 % 4096) 12 = v ↔ (-2048 ≤ v ∧ v ≤ 2047)
    rw [sgn_num _ 12 2048 4096 (by decide) (by decide)]
    omega
  · show sgn ((v / 2048 % 2 * 128 + v / 2 % 16 * 256 + v / 32 % 64 * 33554432 + v / 4096 % 2 * 2147483648) / 128 % 2 * 2048 + (v / 2048 % 2 * 128 + v / 2 % 16 * 256 + v / 32 % 64 * 33554432 + v / 4096 % 2 * 2147483648) / 256 % 16 * 2 + (v / 2048 % 2 * 128 + v / 2 % 16 * 256 + v / 32 % 64 * 33554432 + v / 4096 % 2 * 2147483648) / 33554432 % 64 * 32 + (v / 2048 % 2 * 128 + v / 2 % 16 * 256 + v / 32 % 64 * 33554432 + v / 4096 % 2 * 2147483648) / 2147483648 % 2 * 4096) 13 = v ↔ (-4096 ≤ v ∧ v ≤ 4094 ∧ v % 2 = 0)
    rw [sgn_num _ 13 4096 8192 (by decide) (by decide)]
    obtain ⟨b, q1, r, hr, hb, hv1⟩ : ∃ b q1 r : Int, (0 ≤ r ∧ r < 2) ∧ (0 ≤ b ∧ b < 16) ∧ v = 32 * q1 + 2 * b + r := ⟨v / 2 % 16, v / 32, v % 2, by omega, by omega, by omega⟩
    obtain ⟨c, q2, hc, hv2⟩ : ∃ c q2 : Int, (0 ≤ c ∧ c < 64) ∧ q1 = 64 * q2 + c := ⟨q1 % 64, q1 / 64, by omega, by omega⟩
    obtain ⟨a, q3, ha, hv3⟩ : ∃ a q3 : Int, (0 ≤ a ∧ a < 2) ∧ q2 = 2 * q3 + a := ⟨q2 % 2, q2 / 2, by omega, by omega⟩
    obtain ⟨d, q4, hd, hv4⟩ : ∃ d q4 : Int, (0 ≤ d ∧ d < 2) ∧ q3 = 2 * q4 + d := ⟨q3 % 2, q3 / 2, by omega, by omega⟩
    have f1 : v / 2048 % 2 = a := by
      have : v / 2048 = q2 := by omega
      omega
    have f2 : v / 2 % 16 = b := by
      have : v / 2 = 16 * q1 + b := by omega
      omega
    have f3 : v / 32 % 64 = c := by
      have : v / 32 = q1 := by omega
      omega
    have f4 : v / 4096 % 2 = d := by
      have : v / 4096 = q3 := by omega
      omega
    rw [f1, f2, f3, f4]
    obtain ⟨e1, e2, e3, e4⟩ := parts4 a b c d ha hb hc hd
    rw [e1, e2, e3, e4]
    exact fin4 v a b c d r q4 ha hb hc hd hr (by rw [hv1, hv2, hv3, hv4]; omega)
  · show sgn ((v % 32 * 128 + v / 32 % 128 * 33554432) / 128 % 32 + (v % 32 * 128 + v / 32 % 128 * 33554432) / 33554432 % 128 * 32) 12 = v ↔ (-2048 ≤ v ∧ v ≤ 2047)
    rw [sgn_num _ 12 2048 4096 (by decide) (by decide)]
    omega
  · show (v % 64 * 1048576) / 1048576 % 64 = v ↔ (0 ≤ v ∧ v ≤ 63)
    omega
  · show (v % 32 * 1048576) / 1048576 % 32 = v ↔ (0 ≤ v ∧ v ≤ 31)
    omega
  · show (0 : Int) = v ↔ v = 0
    omega
  · show (0 : Int) = v ↔ v = 0
    omega
end Go.Proofs.YtjokgiefnlpfkaaDoor
