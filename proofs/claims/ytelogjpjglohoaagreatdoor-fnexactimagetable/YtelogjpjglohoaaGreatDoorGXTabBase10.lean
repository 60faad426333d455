/- How wide loads and stores are: contracts. The program's check of functions: a function under check in memory; its small questions. -/
import Derived.Test.YtelogjpjglohoaaGreatDoorGXTabBase9
import Derived.Test.YtelogjpjglohoaaGreatDoorGXTabBase3
namespace Go.Proofs.YtelogjpjglohoaaGreatDoor
open Go.RowKit
set_option linter.unusedVariables false

def wdN (op : Int) : Int := if op = 11 then 1 else if op = 12 then 2 else if op = 13 then 4 else if op = 14 then 8 else if op = 15 then 1 else if op = 16 then 2 else if op = 17 then 4 else if op = 18 then 1 else if op = 19 then 2 else if op = 20 then 4 else if op = 21 then 8 else 0
def wdS (op : Int) : Bool := decide (11 ≤ op ∧ op ≤ 14)
theorem ret_wid {a b : Int} {x y : Bool} {c d : Int} (h : a = b) (k : x = y) (l : c = d) : Ending.returned (.tuple #[.int .i64 a, .bool x, .int .i64 c]) = .returned (.tuple #[.int .i64 b, .bool y, .int .i64 d]) := by rw [h, k, l]
theorem ret_wid2 {a b : Int} {x y : Bool} (h : a = b) (k : x = y) : Ending.returned (.tuple #[.int .i64 a, .bool x]) = .returned (.tuple #[.int .i64 b, .bool y]) := by rw [h, k]

set_option maxHeartbeats 2000000 in
theorem implWid (op : Int) (w : World) (h0 : 11 ≤ op) (h1 : op ≤ 21) :
    Calls Tryz.prog 140 #[.int .i64 op] w fun e w' => e = .returned (.tuple #[.int .i64 (wdN op), .bool (wdS op), .int .i64 0]) ∧ w' = w := by
  rcases (show op = 11 ∨ op = 12 ∨ op = 13 ∨ op = 14 ∨ op = 15 ∨ op = 16 ∨ op = 17 ∨ op = 18 ∨ op = 19 ∨ op = 20 ∨ op = 21 by omega) with rfl | rfl | rfl | rfl | rfl | rfl | rfl | rfl | rfl | rfl | rfl
  all_goals
    clear h0 h1
    go_enter Tryz.func140, Tryz.ntmps140
    go_wp2
    go_ret3
    exact ⟨ret_wid (by decide) (by decide) rfl, rfl⟩
set_option maxHeartbeats 2000000 in
theorem specWidIn (op : Int) (w : World) (h0 : 11 ≤ op) (h1 : op ≤ 21) :
    Calls Tryz.prog 97 #[.int .i64 op] w fun e w' => e = .returned (.tuple #[.int .i64 (wdN op), .bool (wdS op)]) ∧ w' = w := by
  rcases (show op = 11 ∨ op = 12 ∨ op = 13 ∨ op = 14 ∨ op = 15 ∨ op = 16 ∨ op = 17 ∨ op = 18 ∨ op = 19 ∨ op = 20 ∨ op = 21 by omega) with rfl | rfl | rfl | rfl | rfl | rfl | rfl | rfl | rfl | rfl | rfl
  all_goals
    clear h0 h1
    go_enter Tryz.func97, Tryz.ntmps97
    go_wp2
    go_ret2
    exact ⟨ret_wid2 (by decide) (by decide), rfl⟩
set_option maxHeartbeats 2000000 in
theorem specWidOut (op : Int) (w : World) (h : op < 11 ∨ 21 < op) :
    Calls Tryz.prog 97 #[.int .i64 op] w fun e w' => e = .returned (.tuple #[.int .i64 0, .bool false]) ∧ w' = w := by
  have b11 : (op == 11) = false := beq_eq_false_iff_ne.2 (by omega)
  have b12 : (op == 12) = false := beq_eq_false_iff_ne.2 (by omega)
  have b13 : (op == 13) = false := beq_eq_false_iff_ne.2 (by omega)
  have b14 : (op == 14) = false := beq_eq_false_iff_ne.2 (by omega)
  have b15 : (op == 15) = false := beq_eq_false_iff_ne.2 (by omega)
  have b16 : (op == 16) = false := beq_eq_false_iff_ne.2 (by omega)
  have b17 : (op == 17) = false := beq_eq_false_iff_ne.2 (by omega)
  have b18 : (op == 18) = false := beq_eq_false_iff_ne.2 (by omega)
  have b19 : (op == 19) = false := beq_eq_false_iff_ne.2 (by omega)
  have b20 : (op == 20) = false := beq_eq_false_iff_ne.2 (by omega)
  have b21 : (op == 21) = false := beq_eq_false_iff_ne.2 (by omega)
  clear h
  go_enter Tryz.func97, Tryz.ntmps97
  go_wp2
  go_ret2
  exact ⟨rfl, rfl⟩
theorem wdN_bd (op : Int) (h0 : 11 ≤ op) (h1 : op ≤ 21) : 1 ≤ wdN op ∧ wdN op ≤ 8 := by
  rcases (show op = 11 ∨ op = 12 ∨ op = 13 ∨ op = 14 ∨ op = 15 ∨ op = 16 ∨ op = 17 ∨ op = 18 ∨ op = 19 ∨ op = 20 ∨ op = 21 by omega) with rfl | rfl | rfl | rfl | rfl | rfl | rfl | rfl | rfl | rfl | rfl <;> decide

/-- What both answer: number, sign, code. -/
def wdR (op : Int) : Int × Bool × Int := if op < 1 ∨ 64 < op then (0, false, 4) else if op < 11 ∨ 21 < op then (0, false, 26) else (wdN op, wdS op, 0)

theorem implWidth (op : Int) (w : World) :
    Calls Tryz.prog 140 #[.int .i64 op] w fun e w' => e = .returned (.tuple #[.int .i64 (wdR op).1, .bool (wdR op).2.1, .int .i64 (wdR op).2.2]) ∧ w' = w := by
  unfold wdR
  by_cases h : op < 1 ∨ 64 < op
  · rw [if_pos h]
    go_enter Tryz.func140, Tryz.ntmps140
    go_wp2_with fail
    refine (kindRange op 11 21 w h).mono ?_
    rintro e w2 ⟨rfl, rfl⟩
    clear h
    go_wp2
    go_ret3
    exact ⟨rfl, rfl⟩
  · rw [if_neg h]
    by_cases h2 : op < 11 ∨ 21 < op
    · rw [if_pos h2]
      go_enter Tryz.func140, Tryz.ntmps140
      go_wp2_with fail
      refine (kindKind op 11 21 w (by omega) (by omega) h2).mono ?_
      rintro e w2 ⟨rfl, rfl⟩
      clear h h2
      go_wp2
      go_ret3
      exact ⟨rfl, rfl⟩
    · rw [if_neg h2]
      exact implWid op w (by omega) (by omega)
end Go.Proofs.YtelogjpjglohoaaGreatDoor

namespace Go.Proofs.YtelogjpjglohoaaGreatDoor
open Go Go.RowKit
set_option linter.unusedVariables false

/-- A list of ints: its elements. -/
def IntsAt (w : World) (p : Option Addr) (zs : List Int) : Prop := zs.length = 0 ∨ ∃ b o, p = some ⟨b, o, none⟩ ∧ b < w.heap.size ∧ Rdb w b o zs.length (fun i => zs.getD i 0)
theorem IntsAt.below {w w' : World} {p : Option Addr} {zs : List Int} (h : IntsAt w p zs) (hb : Below w.heap.size w w') : IntsAt w' p zs := by
  rcases h with h | ⟨b, o, h1, h2, h3⟩
  · exact .inl h
  · exact .inr ⟨b, o, h1, Nat.lt_of_lt_of_le h2 hb.size, h3.below hb h2⟩

/-- A function under check, at block F: its list (block g), its parts (block q), its place, its frame, what it may call. -/
structure FnIs (w : World) (F g q N cl cq : Nat) (pc : Option Addr) (cc : Nat) (at' f : Int) (R P : Nat → Int) (zs : List Int) : Prop where
  c0 : w.cell? ⟨F, 0, none⟩ = some (.slice (some ⟨g, 0, none⟩) N cl)
  c1 : w.cell? ⟨F, 1, none⟩ = some (.slice (some ⟨q, 0, none⟩) N cq)
  c2 : w.cell? ⟨F, 2, none⟩ = some (.int .i64 at')
  c3 : w.cell? ⟨F, 3, none⟩ = some (.int .i64 f)
  c4 : w.cell? ⟨F, 4, none⟩ = some (.slice pc zs.length cc)
  l : Rdb w g 0 (N * 5) R
  p : Rdb w q 0 N P
  z : IntsAt w pc zs
  lF : F < w.heap.size
  lg : g < w.heap.size
  lq : q < w.heap.size
theorem FnIs.below {w w' : World} {F g q N cl cq : Nat} {pc : Option Addr} {cc : Nat} {at' f : Int} {R P : Nat → Int} {zs : List Int} (h : FnIs w F g q N cl cq pc cc at' f R P zs) (hb : Below w.heap.size w w') : FnIs w' F g q N cl cq pc cc at' f R P zs :=
  ⟨(hb.cell (p := ⟨F, 0, none⟩) h.lF).trans h.c0, (hb.cell (p := ⟨F, 1, none⟩) h.lF).trans h.c1, (hb.cell (p := ⟨F, 2, none⟩) h.lF).trans h.c2, (hb.cell (p := ⟨F, 3, none⟩) h.lF).trans h.c3, (hb.cell (p := ⟨F, 4, none⟩) h.lF).trans h.c4,
    h.l.below hb h.lg, h.p.below hb h.lq, h.z.below hb, Nat.lt_of_lt_of_le h.lF hb.size, Nat.lt_of_lt_of_le h.lg hb.size, Nat.lt_of_lt_of_le h.lq hb.size⟩
theorem FnIs.drew {w : World} {F g q N cl cq : Nat} {pc : Option Addr} {cc : Nat} {at' f : Int} {R P : Nat → Int} {zs : List Int} (h : FnIs w F g q N cl cq pc cc at' f R P zs) : FnIs w.drew F g q N cl cq pc cc at' f R P zs := ⟨h.c0, h.c1, h.c2, h.c3, h.c4, h.l, h.p, h.z, h.lF, h.lg, h.lq⟩

/-- What is known of a right instruction's numbers. -/
structure Small5 (R : Nat → Int) (i : Nat) : Prop where
  o0 : 1 ≤ R (i * 5)
  o1 : R (i * 5) ≤ 64
  i0 : -2147483648 ≤ R (i * 5 + 4)
  i1 : R (i * 5 + 4) ≤ 2147483647

theorem faultC (b : Bool) (c : Int) (w : World) :
    Calls Tryz.prog 77 #[.bool b, .int .i64 c] w fun e w' => e = .returned (.int .i64 (if b = true then 0 else c)) ∧ w' = w := by
  cases b
  · go_enter Tryz.func77, Tryz.ntmps77
    go_wp2
    go_ret
    exact ⟨rfl, rfl⟩
  · go_enter Tryz.func77, Tryz.ntmps77
    go_wp2
    go_ret
    exact ⟨rfl, rfl⟩

theorem isCallC (op rd r1 r2 im : Int) (w : World) :
    Calls Tryz.prog 123 #[.agg #[.int .i64 op, .int .i64 rd, .int .i64 r1, .int .i64 r2, .int .i64 im]] w fun e w' => e = .returned (.bool (decide (op = 3 ∧ rd = 1))) ∧ Below w.heap.size w w' := by
  by_cases h : op = 3
  · subst h
    go_enter Tryz.func123, Tryz.ntmps123
    go_wp2
    go_ret
    exact ⟨congrArg (fun x => Ending.returned (.bool x)) (by rw [Bool.eq_iff_iff]; simp), (Below.refl _ _).alloc (Nat.le_refl _) _⟩
  · have hb : (op == 3) = false := by simpa using h
    go_enter Tryz.func123, Tryz.ntmps123
    go_wp2
    go_ret
    exact ⟨congrArg (fun x => Ending.returned (.bool x)) (by simp [h]), (Below.refl _ _).alloc (Nat.le_refl _) _⟩

theorem mayEndC (op rd r1 r2 im : Int) (w : World) :
    Calls Tryz.prog 113 #[.agg #[.int .i64 op, .int .i64 rd, .int .i64 r1, .int .i64 r2, .int .i64 im]] w fun e w' => e = .returned (.bool (decide (op = 4 ∨ (op = 3 ∧ rd = 0)))) ∧ Below w.heap.size w w' := by
  by_cases h4 : op = 4
  · subst h4
    go_enter Tryz.func113, Tryz.ntmps113
    go_wp2
    go_ret
    exact ⟨congrArg (fun x => Ending.returned (.bool x)) (by simp), (Below.refl _ _).alloc (Nat.le_refl _) _⟩
  have hb4 : (op == 4) = false := by simpa using h4
  by_cases h : op = 3
  · subst h
    go_enter Tryz.func113, Tryz.ntmps113
    go_wp2
    go_ret
    exact ⟨congrArg (fun x => Ending.returned (.bool x)) (by rw [Bool.eq_iff_iff]; simp), (Below.refl _ _).alloc (Nat.le_refl _) _⟩
  · have hb : (op == 3) = false := by simpa using h
    go_enter Tryz.func113, Tryz.ntmps113
    go_wp2
    go_ret
    exact ⟨congrArg (fun x => Ending.returned (.bool x)) (by simp [h, h4]), (Below.refl _ _).alloc (Nat.le_refl _) _⟩

theorem targetC (at' : Int) (i : Nat) (op rd r1 r2 im : Int) (w : World) (h0 : 0 ≤ at') (h1 : at' ≤ 1048575) (hi : i < 20000) (h2 : -2147483648 ≤ im) (h3 : im ≤ 2147483647) :
    Calls Tryz.prog 134 #[.int .i64 at', .int .i64 i, .agg #[.int .i64 op, .int .i64 rd, .int .i64 r1, .int .i64 r2, .int .i64 im]] w fun e w' => e = .returned (.int .i64 (at' + 4 * i + im)) ∧ Below w.heap.size w w' := by
  go_enter Tryz.func134, Tryz.ntmps134
  go_wp2
  go_ret
  exact ⟨rfl, (Below.refl _ _).alloc (Nat.le_refl _) _⟩

set_option maxHeartbeats 1000000 in
/-- slices.Contains over ints. -/
theorem indexC (p : Option Addr) (c : Nat) (zs : List Int) (x : Int) (w : World) (hn : zs.length ≤ 1048576) (hp : IntsAt w p zs) :
    Calls Tryz.prog 150 #[.slice p zs.length c, .int .i64 x] w fun e w' => (∃ r : Int, e = .returned (.int .i64 r) ∧ (zs.contains x = true ↔ 0 ≤ r)) ∧ w' = w := by
  obtain ⟨n, hN⟩ : ∃ n, zs.length = n := ⟨_, rfl⟩
  rw [hN] at hn ⊢
  go_enter Tryz.func150, Tryz.ntmps150
  go_wp2
  go_loop [8] (fun i => ∃ k : Nat, k ≤ n ∧ i = .int .i64 k ∧ ∀ j, j < k → zs.getD j 0 ≠ x) (fun i => n - (intOf i).toNat)
  case atStart => exact ⟨0, Nat.zero_le _, rfl, fun j hj => absurd hj (Nat.not_lt_zero _)⟩
  case round =>
    obtain ⟨k, hk, rfl, hno⟩ := hrel
    by_cases hlt : k < n
    · rcases hp with hp | ⟨b, o, rfl, hb, hp⟩
      · omega
      have hx : w.cell? ⟨b, o + k, none⟩ = some (.int .i64 (zs.getD k 0)) := hp k (by omega)
      by_cases e : zs.getD k 0 = x
      · have hx' : w.cell? ⟨b, o + k, none⟩ = some (.int .i64 x) := by rw [← e]; exact hx
        clear hp hx
        go_wp2
        go_ret
        refine ⟨⟨_, rfl, ?_⟩, rfl⟩
        have hm : x ∈ zs := by
          rw [← e]
          have : zs.getD k 0 = zs[k]'(by omega) := by simp [List.getD, hN, hlt]
          rw [this]
          exact List.getElem_mem _
        constructor
        · intro _; omega
        · intro _; simpa using hm
      · have e' : ¬ (x = zs.getD k 0) := fun h => e h.symm
        obtain ⟨y, hy⟩ : ∃ y, zs.getD k 0 = y := ⟨_, rfl⟩
        rw [hy] at hx e e'
        have HY : Hid (zs.getD k 0 = y) := hy
        clear hp hy
        go_wp2
        go_round
        case rel => exact ⟨k + 1, by omega, by go_num, fun j hj => by
          rcases Nat.lt_succ_iff_lt_or_eq.1 hj with h | rfl
          · exact hno j h
          · rw [HY.out]; exact e⟩
        case measure => simp [intOf]; omega
    · obtain rfl : k = n := by omega
      go_wp2
      go_ret
      refine ⟨⟨-1, rfl, ?_⟩, rfl⟩
      constructor
      · intro h
        obtain ⟨j, hj, e⟩ := List.mem_iff_getElem.1 (by simpa using h : x ∈ zs)
        exact absurd (by simp [List.getD, hj, e]) (hno j (by omega))
      · intro h; omega
theorem containsC (p : Option Addr) (c : Nat) (zs : List Int) (x : Int) (w : World) (hn : zs.length ≤ 1048576) (hp : IntsAt w p zs) :
    Calls Tryz.prog 133 #[.slice p zs.length c, .int .i64 x] w fun e w' => e = .returned (.bool (hasB zs x)) ∧ w' = w := by
  unfold hasB
  go_enter Tryz.func133, Tryz.ntmps133
  go_wp2_with (go_at_call 150; refine (indexC p c zs x _ hn hp).mono ?_; rintro e w' ⟨⟨r, rfl, hr⟩, rfl⟩)
  go_ret
  exact ⟨congrArg (fun x => Ending.returned (.bool x)) (by rw [Bool.eq_iff_iff, hr]; simp), rfl⟩

section
variable {F g q N cl cq : Nat} {pc : Option Addr} {cc : Nat} {at' f : Int} {R P : Nat → Int} {zs : List Int}

theorem inFrameC (im n : Int) (w : World) (h : FnIs w F g q N cl cq pc cc at' f R P zs) (f0 : 16 ≤ f) (f1 : f ≤ 128) (h2 : -2147483648 ≤ im) (h3 : im ≤ 2147483647) (hn : n = 1 ∨ n = 2 ∨ n = 4 ∨ n = 8) :
    Calls Tryz.prog 141 #[.pointer (some ⟨F, 0, none⟩), .int .i64 im, .int .i64 n] w fun e w' => e = .returned (.bool (decide (0 ≤ im ∧ im ≤ f - 8 - n ∧ im % n = 0))) ∧ w' = w := by
  have c3 := h.c3
  clear h
  rcases hn with rfl | rfl | rfl | rfl
  all_goals
    by_cases hm : im < 0
    · go_enter Tryz.func141, Tryz.ntmps141
      go_wp2
      all_goals
        go_ret
        refine ⟨congrArg (fun x => Ending.returned (.bool x)) ?_, rfl⟩
        first
          | rfl
          | (symm; rw [decide_eq_false_iff_not]; omega)
          | (rw [Bool.eq_iff_iff]; simp; done)
          | (rw [Bool.eq_iff_iff]; simp; omega)
    · have hm' : 0 ≤ im := by omega
      go_enter Tryz.func141, Tryz.ntmps141
      go_wp2
      all_goals
        go_ret
        refine ⟨congrArg (fun x => Ending.returned (.bool x)) ?_, rfl⟩
        first
          | rfl
          | (symm; rw [decide_eq_false_iff_not]; omega)
          | (rw [Bool.eq_iff_iff]; simp; done)
          | (rw [Bool.eq_iff_iff]; simp; omega)

theorem mayJumpC (i : Nat) (w : World) (h : FnIs w F g q N cl cq pc cc at' f R P zs) (hi : i < N) (hN : N ≤ 64) (hP : ∀ i, i < N → P i = partI R N f i) (hs : Small5 R i) :
    Calls Tryz.prog 125 #[.pointer (some ⟨F, 0, none⟩), .int .i64 i] w fun e w' => e = .returned (.bool (goB R N f i (R (i * 5 + 4)))) ∧ w' = w := by
  have c0 := h.c0
  have c1 := h.c1
  have x4 := (h.l.five hi).2.2.2.2
  have hi0 := hs.i0
  have hi1 := hs.i1
  have hp := h.p
  have HG : Hid (goB R N f i (R (i * 5 + 4)) = _) := rfl
  obtain ⟨im, him⟩ : ∃ im, R (i * 5 + 4) = im := ⟨_, rfl⟩
  rw [him] at x4 hi0 hi1 ⊢
  simp only [Nat.zero_add] at x4
  clear h HG him
  by_cases hm : im % 4 = 0
  · obtain ⟨d, hd⟩ : ∃ d, im / 4 = d := ⟨_, rfl⟩
    have e1 : im = 4 * d := by omega
    subst e1
    have hm1 : (4 * d).tmod 4 = 0 := by rw [Int.mul_comm]; exact Int.mul_tmod_left d 4
    have hd1 : (4 * d).tdiv 4 = d := Int.mul_tdiv_cancel_left d (by omega)
    by_cases ht0 : (i : Int) + d < 2
    · have hg : goB R N f i (4 * d) = false := by unfold goB; simp [hd]; omega
      rw [hg]
      clear hd hm
      go_enter Tryz.func125, Tryz.ntmps125
      go_wp2
      go_ret
      exact ⟨rfl, rfl⟩
    · by_cases ht1 : (N : Int) ≤ (i : Int) + d
      · have hg : goB R N f i (4 * d) = false := by unfold goB; simp [hd]; omega
        rw [hg]
        clear hd hm
        go_enter Tryz.func125, Tryz.ntmps125
        go_wp2
        go_ret
        exact ⟨rfl, rfl⟩
      · obtain ⟨t, ht⟩ : ∃ t : Nat, (i : Int) + d = t := ⟨((i : Int) + d).toNat, by omega⟩
        have htN : t < N := by omega
        have ht2 : 2 ≤ t := by omega
        have hpt := hp t htN
        have hPt := hP t htN
        have hg : goB R N f i (4 * d) = (!epB R N f (t - 1) && !epB R N f (t - 2)) := by
          unfold goB
          rw [hd, ht]
          simp
          omega
        rw [hg]
        have hpg := part_go R N f t
        rw [← hPt] at hpg
        obtain ⟨v, hv⟩ : ∃ v, P t = v := ⟨_, rfl⟩
        rw [hv] at hpt hpg
        simp only [Nat.zero_add] at hpt
        clear hd hm hg hp hP hPt hv
        by_cases hv0 : v = 0
        · subst hv0
          obtain ⟨g1, g2⟩ := hpg.1 (.inl rfl)
          rw [g1, g2]
          clear hpg g1 g2
          go_enter Tryz.func125, Tryz.ntmps125
          go_wp2
          go_ret
          exact ⟨rfl, rfl⟩
        · have hv0b : (v == 0) = false := by simpa using hv0
          by_cases hv1 : v = 1
          · subst hv1
            obtain ⟨g1, g2⟩ := hpg.1 (.inr rfl)
            rw [g1, g2]
            clear hpg g1 g2
            go_enter Tryz.func125, Tryz.ntmps125
            go_wp2
            go_ret
            exact ⟨rfl, rfl⟩
          · have hv1b : (v == 1) = false := by simpa using hv1
            have hg : (!epB R N f (t - 1) && !epB R N f (t - 2)) = false := by
              cases h1 : epB R N f (t - 1)
              · cases h2 : epB R N f (t - 2)
                · rcases hpg.2 ⟨h1, h2⟩ with h | h
                  · exact absurd h hv0
                  · exact absurd h hv1
                · rfl
              · rfl
            rw [hg]
            clear hpg hg
            go_enter Tryz.func125, Tryz.ntmps125
            go_wp2
            go_ret
            exact ⟨congrArg (fun x => Ending.returned (.bool x)) (by first | rfl | simp [hv0b, hv1b]), rfl⟩
  · have hg : goB R N f i im = false := by unfold goB; simp [hm]
    have hm1 : ¬ (im.tmod 4 = 0) := by
      intro e
      exact hm (Int.emod_eq_zero_of_dvd (Int.dvd_of_tmod_eq_zero e))
    rw [hg]
    go_enter Tryz.func125, Tryz.ntmps125
    go_wp2
    go_ret
    exact ⟨rfl, rfl⟩

set_option maxHeartbeats 8000000 in
theorem mayCallC (i : Nat) (w : World) (h : FnIs w F g q N cl cq pc cc at' f R P zs) (hi : i < N) (hN : N ≤ 64) (hz : zs.length ≤ 1048576) (h0 : 0 ≤ at') (h1 : at' ≤ 1048575) (hs : Small5 R i) :
    Calls Tryz.prog 124 #[.pointer (some ⟨F, 0, none⟩), .int .i64 i] w fun e w' => e = .returned (.bool (hasB zs (at' + 4 * i + R (i * 5 + 4)))) ∧ Below w.heap.size w w' := by
  have c0 := h.c0
  have c2 := h.c2
  have c4 := h.c4
  obtain ⟨x0, x1, x2, x3, x4⟩ := h.l.five hi
  simp only [Nat.zero_add] at x0 x1 x2 x3 x4
  have hz0 := h.z
  have lF := h.lF
  have lg := h.lg
  have i0 := hs.i0
  have i1 := hs.i1
  clear hs h
  go_enter Tryz.func124, Tryz.ntmps124
  go_wp2
  obtain ⟨W0, hW0⟩ : ∃ W0, W0 = w := ⟨_, rfl⟩
  go_region_held3 (fun w' => w'.cell? ⟨F, 0, none⟩ = some (.slice (some ⟨g, 0, none⟩) N cl) ∧ w'.cell? ⟨F, 2, none⟩ = some (.int .i64 at') ∧ w'.cell? ⟨F, 4, none⟩ = some (.slice pc zs.length cc) ∧ w'.cell? ⟨g, i * 5, none⟩ = some (.int .i64 (R (i * 5))) ∧ w'.cell? ⟨g, i * 5 + 1, none⟩ = some (.int .i64 (R (i * 5 + 1))) ∧ w'.cell? ⟨g, i * 5 + 2, none⟩ = some (.int .i64 (R (i * 5 + 2))) ∧ w'.cell? ⟨g, i * 5 + 3, none⟩ = some (.int .i64 (R (i * 5 + 3))) ∧ w'.cell? ⟨g, i * 5 + 4, none⟩ = some (.int .i64 (R (i * 5 + 4)))) (go_keep) (first | (go_at_call 134; refine (targetC at' i _ _ _ _ _ _ h0 h1 (by omega) i0 i1).mono ?_; rintro e w1 ⟨rfl, hb1⟩; have B1 : Below w.heap.size w w1 := (by first | exact hb1 | exact (Below.refl w.heap.size w).drew.trans hb1); have d0 := (B1.cell (p := ⟨F, 0, none⟩) lF).trans c0; have d2 := (B1.cell (p := ⟨F, 2, none⟩) lF).trans c2; have d4 := (B1.cell (p := ⟨F, 4, none⟩) lF).trans c4; have y0 := (B1.cell (p := ⟨g, i * 5, none⟩) lg).trans x0; have y1 := (B1.cell (p := ⟨g, i * 5 + 1, none⟩) lg).trans x1; have y2 := (B1.cell (p := ⟨g, i * 5 + 2, none⟩) lg).trans x2; have y3 := (B1.cell (p := ⟨g, i * 5 + 3, none⟩) lg).trans x3; have y4 := (B1.cell (p := ⟨g, i * 5 + 4, none⟩) lg).trans x4; have hz1 := hz0.below B1) | (go_at_call 133; refine (containsC pc cc zs _ _ hz hz1).mono ?_; rintro e w2 ⟨rfl, rfl⟩))
  have B2 : Hid (Below w.heap.size w w2) := B1
  clear hb1 B1 hz1 d0 d2 d4 y0 y1 y2 y3 y4
  go_wp2
  go_ret
  exact ⟨rfl, B2.out⟩

end
end Go.Proofs.YtelogjpjglohoaaGreatDoor
