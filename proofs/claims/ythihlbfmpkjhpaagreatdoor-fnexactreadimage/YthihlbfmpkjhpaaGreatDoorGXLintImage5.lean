/- How wide loads and stores are: contracts. The program's check of functions: a function under check in memory; its small questions. The program's check of one instruction. Bits of numbers with a sign: plain. Numbers as bytes: plain. -/
import Derived.Test.YthihlbfmpkjhpaaGreatDoorGXLintImage4
import Derived.Test.YthihlbfmpkjhpaaGreatDoorGXLintImage2
import Derived.WalkKit
import Derived.Laws.BitsAllLaws
import Derived.IntWalk
namespace Go.Proofs.YthihlbfmpkjhpaaGreatDoor
open Go.RowKit
set_option linter.unusedVariables false

def wdN (op : Int) : Int := if op = 11 then 1 else if op = 12 then 2 else if op = 13 then 4 else if op = 14 then 8 else if op = 15 then 1 else if op = 16 then 2 else if op = 17 then 4 else if op = 18 then 1 else if op = 19 then 2 else if op = 20 then 4 else if op = 21 then 8 else 0
def wdS (op : Int) : Bool := decide (11 ≤ op ∧ op ≤ 14)
theorem ret_wid {a b : Int} {x y : Bool} {c d : Int} (h : a = b) (k : x = y) (l : c = d) : Ending.returned (.tuple #[.int .i64 a, .bool x, .int .i64 c]) = .returned (.tuple #[.int .i64 b, .bool y, .int .i64 d]) := by rw [h, k, l]
theorem ret_wid2 {a b : Int} {x y : Bool} (h : a = b) (k : x = y) : Ending.returned (.tuple #[.int .i64 a, .bool x]) = .returned (.tuple #[.int .i64 b, .bool y]) := by rw [h, k]

set_option maxHeartbeats 2000000 in
theorem implWid (op : Int) (w : World) (h0 : 11 ≤ op) (h1 : op ≤ 21) :
    Calls Tryz.prog 153 #[.int .i64 op] w fun e w' => e = .returned (.tuple #[.int .i64 (wdN op), .bool (wdS op), .int .i64 0]) ∧ w' = w := by
  rcases (show op = 11 ∨ op = 12 ∨ op = 13 ∨ op = 14 ∨ op = 15 ∨ op = 16 ∨ op = 17 ∨ op = 18 ∨ op = 19 ∨ op = 20 ∨ op = 21 by omega) with rfl | rfl | rfl | rfl | rfl | rfl | rfl | rfl | rfl | rfl | rfl
  all_goals
    clear h0 h1
    go_enter Tryz.func153, Tryz.ntmps153
    go_wp2
    go_ret3
    exact ⟨ret_wid (by decide) (by decide) rfl, rfl⟩
set_option maxHeartbeats 2000000 in
theorem specWidIn (op : Int) (w : World) (h0 : 11 ≤ op) (h1 : op ≤ 21) :
    Calls Tryz.prog 107 #[.int .i64 op] w fun e w' => e = .returned (.tuple #[.int .i64 (wdN op), .bool (wdS op)]) ∧ w' = w := by
  rcases (show op = 11 ∨ op = 12 ∨ op = 13 ∨ op = 14 ∨ op = 15 ∨ op = 16 ∨ op = 17 ∨ op = 18 ∨ op = 19 ∨ op = 20 ∨ op = 21 by omega) with rfl | rfl | rfl | rfl | rfl | rfl | rfl | rfl | rfl | rfl | rfl
  all_goals
    clear h0 h1
    go_enter Tryz.func107, Tryz.ntmps107
    go_wp2
    go_ret2
    exact ⟨ret_wid2 (by decide) (by decide), rfl⟩
set_option maxHeartbeats 2000000 in
theorem specWidOut (op : Int) (w : World) (h : op < 11 ∨ 21 < op) :
    Calls Tryz.prog 107 #[.int .i64 op] w fun e w' => e = .returned (.tuple #[.int .i64 0, .bool false]) ∧ w' = w := by
  have b11 : (op == 11) = false := beq_eq_false_iff_ne.2 (by omega)
  have b12 : (op == 12) = false := beq_eq_false_iff_ne.2 (by omega)
  have b13 : (op == 13) = false := beq_eq_false_iff_ne.2 (by omega)
  have b14 : (op == 14) = false := beq_eq_false_iff_ne.2 (by omega)
  have b15 : (op == 15) = false := beq_eq_false_iff_ne.2 (by omega)
  have b16 : (op == 16) = false := beq_eq_false_iff_ne.2 (by omega)
  have b17 : (op == 17) = false := beq_eq_false_iff_ne.2 (by omega)
  have b18 : (op == 18) = false := beq_eq_false_iff_ne.2 (by omega)
  have b19 : (op == 19) = false := beq_eq_false_iff_ne.2 (by omega)
  have b20 : (op == 20) = false := beq_eq_false_iff_ne.2 (by omega)
  have b21 : (op == 21) = false := beq_eq_false_iff_ne.2 (by omega)
  clear h
  go_enter Tryz.func107, Tryz.ntmps107
  go_wp2
  go_ret2
  exact ⟨rfl, rfl⟩
theorem wdN_bd (op : Int) (h0 : 11 ≤ op) (h1 : op ≤ 21) : 1 ≤ wdN op ∧ wdN op ≤ 8 := by
  rcases (show op = 11 ∨ op = 12 ∨ op = 13 ∨ op = 14 ∨ op = 15 ∨ op = 16 ∨ op = 17 ∨ op = 18 ∨ op = 19 ∨ op = 20 ∨ op = 21 by omega) with rfl | rfl | rfl | rfl | rfl | rfl | rfl | rfl | rfl | rfl | rfl <;> decide

/-- What both answer: number, sign, code. -/
def wdR (op : Int) : Int × Bool × Int := if op < 1 ∨ 64 < op then (0, false, 4) else if op < 11 ∨ 21 < op then (0, false, 26) else (wdN op, wdS op, 0)

theorem implWidth (op : Int) (w : World) :
    Calls Tryz.prog 153 #[.int .i64 op] w fun e w' => e = .returned (.tuple #[.int .i64 (wdR op).1, .bool (wdR op).2.1, .int .i64 (wdR op).2.2]) ∧ w' = w := by
  unfold wdR
  by_cases h : op < 1 ∨ 64 < op
  · rw [if_pos h]
    go_enter Tryz.func153, Tryz.ntmps153
    go_wp2_with fail
    refine (kindRange op 11 21 w h).mono ?_
    rintro e w2 ⟨rfl, rfl⟩
    clear h
    go_wp2
    go_ret3
    exact ⟨rfl, rfl⟩
  · rw [if_neg h]
    by_cases h2 : op < 11 ∨ 21 < op
    · rw [if_pos h2]
      go_enter Tryz.func153, Tryz.ntmps153
      go_wp2_with fail
      refine (kindKind op 11 21 w (by omega) (by omega) h2).mono ?_
      rintro e w2 ⟨rfl, rfl⟩
      clear h h2
      go_wp2
      go_ret3
      exact ⟨rfl, rfl⟩
    · rw [if_neg h2]
      exact implWid op w (by omega) (by omega)
end Go.Proofs.YthihlbfmpkjhpaaGreatDoor

namespace Go.Proofs.YthihlbfmpkjhpaaGreatDoor
open Go Go.RowKit
set_option linter.unusedVariables false

/-- A list of ints: its elements. -/
def IntsAt (w : World) (p : Option Addr) (zs : List Int) : Prop := zs.length = 0 ∨ ∃ b o, p = some ⟨b, o, none⟩ ∧ b < w.heap.size ∧ Rdb w b o zs.length (fun i => zs.getD i 0)
theorem IntsAt.below {w w' : World} {p : Option Addr} {zs : List Int} (h : IntsAt w p zs) (hb : Below w.heap.size w w') : IntsAt w' p zs := by
  rcases h with h | ⟨b, o, h1, h2, h3⟩
  · exact .inl h
  · exact .inr ⟨b, o, h1, Nat.lt_of_lt_of_le h2 hb.size, h3.below hb h2⟩

/-- A function under check, at block F: its list (block g), its parts (block q), its place, its frame, what it may call. -/
structure FnIs (w : World) (F g q N cl cq : Nat) (pc : Option Addr) (cc : Nat) (at' f : Int) (R P : Nat → Int) (zs : List Int) : Prop where
  c0 : w.cell? ⟨F, 0, none⟩ = some (.slice (some ⟨g, 0, none⟩) N cl)
  c1 : w.cell? ⟨F, 1, none⟩ = some (.slice (some ⟨q, 0, none⟩) N cq)
  c2 : w.cell? ⟨F, 2, none⟩ = some (.int .i64 at')
  c3 : w.cell? ⟨F, 3, none⟩ = some (.int .i64 f)
  c4 : w.cell? ⟨F, 4, none⟩ = some (.slice pc zs.length cc)
  l : Rdb w g 0 (N * 5) R
  p : Rdb w q 0 N P
  z : IntsAt w pc zs
  lF : F < w.heap.size
  lg : g < w.heap.size
  lq : q < w.heap.size
theorem FnIs.below {w w' : World} {F g q N cl cq : Nat} {pc : Option Addr} {cc : Nat} {at' f : Int} {R P : Nat → Int} {zs : List Int} (h : FnIs w F g q N cl cq pc cc at' f R P zs) (hb : Below w.heap.size w w') : FnIs w' F g q N cl cq pc cc at' f R P zs :=
  ⟨(hb.cell (p := ⟨F, 0, none⟩) h.lF).trans h.c0, (hb.cell (p := ⟨F, 1, none⟩) h.lF).trans h.c1, (hb.cell (p := ⟨F, 2, none⟩) h.lF).trans h.c2, (hb.cell (p := ⟨F, 3, none⟩) h.lF).trans h.c3, (hb.cell (p := ⟨F, 4, none⟩) h.lF).trans h.c4,
    h.l.below hb h.lg, h.p.below hb h.lq, h.z.below hb, Nat.lt_of_lt_of_le h.lF hb.size, Nat.lt_of_lt_of_le h.lg hb.size, Nat.lt_of_lt_of_le h.lq hb.size⟩
theorem FnIs.drew {w : World} {F g q N cl cq : Nat} {pc : Option Addr} {cc : Nat} {at' f : Int} {R P : Nat → Int} {zs : List Int} (h : FnIs w F g q N cl cq pc cc at' f R P zs) : FnIs w.drew F g q N cl cq pc cc at' f R P zs := ⟨h.c0, h.c1, h.c2, h.c3, h.c4, h.l, h.p, h.z, h.lF, h.lg, h.lq⟩

/-- What is known of a right instruction's numbers. -/
structure Small5 (R : Nat → Int) (i : Nat) : Prop where
  o0 : 1 ≤ R (i * 5)
  o1 : R (i * 5) ≤ 64
  i0 : -2147483648 ≤ R (i * 5 + 4)
  i1 : R (i * 5 + 4) ≤ 2147483647

theorem faultC (b : Bool) (c : Int) (w : World) :
    Calls Tryz.prog 129 #[.bool b, .int .i64 c] w fun e w' => e = .returned (.int .i64 (if b = true then 0 else c)) ∧ w' = w := by
  cases b
  · go_enter Tryz.func129, Tryz.ntmps129
    go_wp2
    go_ret
    exact ⟨rfl, rfl⟩
  · go_enter Tryz.func129, Tryz.ntmps129
    go_wp2
    go_ret
    exact ⟨rfl, rfl⟩

theorem isCallC (op rd r1 r2 im : Int) (w : World) :
    Calls Tryz.prog 130 #[.agg #[.int .i64 op, .int .i64 rd, .int .i64 r1, .int .i64 r2, .int .i64 im]] w fun e w' => e = .returned (.bool (decide (op = 3 ∧ rd = 1))) ∧ Below w.heap.size w w' := by
  by_cases h : op = 3
  · subst h
    go_enter Tryz.func130, Tryz.ntmps130
    go_wp2
    go_ret
    exact ⟨congrArg (fun x => Ending.returned (.bool x)) (by rw [Bool.eq_iff_iff]; simp), (Below.refl _ _).alloc (Nat.le_refl _) _⟩
  · have hb : (op == 3) = false := by simpa using h
    go_enter Tryz.func130, Tryz.ntmps130
    go_wp2
    go_ret
    exact ⟨congrArg (fun x => Ending.returned (.bool x)) (by simp [h]), (Below.refl _ _).alloc (Nat.le_refl _) _⟩

theorem mayEndC (op rd r1 r2 im : Int) (w : World) :
    Calls Tryz.prog 120 #[.agg #[.int .i64 op, .int .i64 rd, .int .i64 r1, .int .i64 r2, .int .i64 im]] w fun e w' => e = .returned (.bool (decide (op = 4 ∨ (op = 3 ∧ rd = 0)))) ∧ Below w.heap.size w w' := by
  by_cases h4 : op = 4
  · subst h4
    go_enter Tryz.func120, Tryz.ntmps120
    go_wp2
    go_ret
    exact ⟨congrArg (fun x => Ending.returned (.bool x)) (by simp), (Below.refl _ _).alloc (Nat.le_refl _) _⟩
  have hb4 : (op == 4) = false := by simpa using h4
  by_cases h : op = 3
  · subst h
    go_enter Tryz.func120, Tryz.ntmps120
    go_wp2
    go_ret
    exact ⟨congrArg (fun x => Ending.returned (.bool x)) (by rw [Bool.eq_iff_iff]; simp), (Below.refl _ _).alloc (Nat.le_refl _) _⟩
  · have hb : (op == 3) = false := by simpa using h
    go_enter Tryz.func120, Tryz.ntmps120
    go_wp2
    go_ret
    exact ⟨congrArg (fun x => Ending.returned (.bool x)) (by simp [h, h4]), (Below.refl _ _).alloc (Nat.le_refl _) _⟩

theorem targetC (at' : Int) (i : Nat) (op rd r1 r2 im : Int) (w : World) (h0 : 0 ≤ at') (h1 : at' ≤ 1048575) (hi : i < 20000) (h2 : -2147483648 ≤ im) (h3 : im ≤ 2147483647) :
    Calls Tryz.prog 147 #[.int .i64 at', .int .i64 i, .agg #[.int .i64 op, .int .i64 rd, .int .i64 r1, .int .i64 r2, .int .i64 im]] w fun e w' => e = .returned (.int .i64 (at' + 4 * i + im)) ∧ Below w.heap.size w w' := by
  go_enter Tryz.func147, Tryz.ntmps147
  go_wp2
  go_ret
  exact ⟨rfl, (Below.refl _ _).alloc (Nat.le_refl _) _⟩

set_option maxHeartbeats 1000000 in
/-- slices.Contains over ints. -/
theorem indexC (p : Option Addr) (c : Nat) (zs : List Int) (x : Int) (w : World) (hn : zs.length ≤ 1048576) (hp : IntsAt w p zs) :
    Calls Tryz.prog 161 #[.slice p zs.length c, .int .i64 x] w fun e w' => (∃ r : Int, e = .returned (.int .i64 r) ∧ (zs.contains x = true ↔ 0 ≤ r)) ∧ w' = w := by
  obtain ⟨n, hN⟩ : ∃ n, zs.length = n := ⟨_, rfl⟩
  rw [hN] at hn ⊢
  go_enter Tryz.func161, Tryz.ntmps161
  go_wp2
  go_loop [8] (fun i => ∃ k : Nat, k ≤ n ∧ i = .int .i64 k ∧ ∀ j, j < k → zs.getD j 0 ≠ x) (fun i => n - (intOf i).toNat)
  case atStart => exact ⟨0, Nat.zero_le _, rfl, fun j hj => absurd hj (Nat.not_lt_zero _)⟩
  case round =>
    obtain ⟨k, hk, rfl, hno⟩ := hrel
    by_cases hlt : k < n
    · rcases hp with hp | ⟨b, o, rfl, hb, hp⟩
      · omega
      have hx : w.cell? ⟨b, o + k, none⟩ = some (.int .i64 (zs.getD k 0)) := hp k (by omega)
      by_cases e : zs.getD k 0 = x
      · have hx' : w.cell? ⟨b, o + k, none⟩ = some (.int .i64 x) := by rw [← e]; exact hx
        clear hp hx
        go_wp2
        go_ret
        refine ⟨⟨_, rfl, ?_⟩, rfl⟩
        have hm : x ∈ zs := by
          rw [← e]
          have : zs.getD k 0 = zs[k]'(by omega) := by simp [List.getD, hN, hlt]
          rw [this]
          exact List.getElem_mem _
        constructor
        · intro _; omega
        · intro _; simpa using hm
      · have e' : ¬ (x = zs.getD k 0) := fun h => e h.symm
        obtain ⟨y, hy⟩ : ∃ y, zs.getD k 0 = y := ⟨_, rfl⟩
        rw [hy] at hx e e'
        have HY : Hid (zs.getD k 0 = y) := hy
        clear hp hy
        go_wp2
        go_round
        case rel => exact ⟨k + 1, by omega, by go_num, fun j hj => by
          rcases Nat.lt_succ_iff_lt_or_eq.1 hj with h | rfl
          · exact hno j h
          · rw [HY.out]; exact e⟩
        case measure => simp [intOf]; omega
    · obtain rfl : k = n := by omega
      go_wp2
      go_ret
      refine ⟨⟨-1, rfl, ?_⟩, rfl⟩
      constructor
      · intro h
        obtain ⟨j, hj, e⟩ := List.mem_iff_getElem.1 (by simpa using h : x ∈ zs)
        exact absurd (by simp [List.getD, hj, e]) (hno j (by omega))
      · intro h; omega
theorem containsC (p : Option Addr) (c : Nat) (zs : List Int) (x : Int) (w : World) (hn : zs.length ≤ 1048576) (hp : IntsAt w p zs) :
    Calls Tryz.prog 146 #[.slice p zs.length c, .int .i64 x] w fun e w' => e = .returned (.bool (hasB zs x)) ∧ w' = w := by
  unfold hasB
  go_enter Tryz.func146, Tryz.ntmps146
  go_wp2_with (go_at_call 161; refine (indexC p c zs x _ hn hp).mono ?_; rintro e w' ⟨⟨r, rfl, hr⟩, rfl⟩)
  go_ret
  exact ⟨congrArg (fun x => Ending.returned (.bool x)) (by rw [Bool.eq_iff_iff, hr]; simp), rfl⟩

section
variable {F g q N cl cq : Nat} {pc : Option Addr} {cc : Nat} {at' f : Int} {R P : Nat → Int} {zs : List Int}

theorem inFrameC (im n : Int) (w : World) (h : FnIs w F g q N cl cq pc cc at' f R P zs) (f0 : 16 ≤ f) (f1 : f ≤ 128) (h2 : -2147483648 ≤ im) (h3 : im ≤ 2147483647) (hn : n = 1 ∨ n = 2 ∨ n = 4 ∨ n = 8) :
    Calls Tryz.prog 154 #[.pointer (some ⟨F, 0, none⟩), .int .i64 im, .int .i64 n] w fun e w' => e = .returned (.bool (decide (0 ≤ im ∧ im ≤ f - 8 - n ∧ im % n = 0))) ∧ w' = w := by
  have c3 := h.c3
  clear h
  rcases hn with rfl | rfl | rfl | rfl
  all_goals
    by_cases hm : im < 0
    · go_enter Tryz.func154, Tryz.ntmps154
      go_wp2
      all_goals
        go_ret
        refine ⟨congrArg (fun x => Ending.returned (.bool x)) ?_, rfl⟩
        first
          | rfl
          | (symm; rw [decide_eq_false_iff_not]; omega)
          | (rw [Bool.eq_iff_iff]; simp; done)
          | (rw [Bool.eq_iff_iff]; simp; omega)
    · have hm' : 0 ≤ im := by omega
      go_enter Tryz.func154, Tryz.ntmps154
      go_wp2
      all_goals
        go_ret
        refine ⟨congrArg (fun x => Ending.returned (.bool x)) ?_, rfl⟩
        first
          | rfl
          | (symm; rw [decide_eq_false_iff_not]; omega)
          | (rw [Bool.eq_iff_iff]; simp; done)
          | (rw [Bool.eq_iff_iff]; simp; omega)

theorem mayJumpC (i : Nat) (w : World) (h : FnIs w F g q N cl cq pc cc at' f R P zs) (hi : i < N) (hN : N ≤ 64) (hP : ∀ i, i < N → P i = partI R N f i) (hs : Small5 R i) :
    Calls Tryz.prog 132 #[.pointer (some ⟨F, 0, none⟩), .int .i64 i] w fun e w' => e = .returned (.bool (goB R N f i (R (i * 5 + 4)))) ∧ w' = w := by
  have c0 := h.c0
  have c1 := h.c1
  have x4 := (h.l.five hi).2.2.2.2
  have hi0 := hs.i0
  have hi1 := hs.i1
  have hp := h.p
  have HG : Hid (goB R N f i (R (i * 5 + 4)) = _) := rfl
  obtain ⟨im, him⟩ : ∃ im, R (i * 5 + 4) = im := ⟨_, rfl⟩
  rw [him] at x4 hi0 hi1 ⊢
  simp only [Nat.zero_add] at x4
  clear h HG him
  by_cases hm : im % 4 = 0
  · obtain ⟨d, hd⟩ : ∃ d, im / 4 = d := ⟨_, rfl⟩
    have e1 : im = 4 * d := by omega
    subst e1
    have hm1 : (4 * d).tmod 4 = 0 := by rw [Int.mul_comm]; exact Int.mul_tmod_left d 4
    have hd1 : (4 * d).tdiv 4 = d := Int.mul_tdiv_cancel_left d (by omega)
    by_cases ht0 : (i : Int) + d < 2
    · have hg : goB R N f i (4 * d) = false := by unfold goB; simp [hd]; omega
      rw [hg]
      clear hd hm
      go_enter Tryz.func132, Tryz.ntmps132
      go_wp2
      go_ret
      exact ⟨rfl, rfl⟩
    · by_cases ht1 : (N : Int) ≤ (i : Int) + d
      · have hg : goB R N f i (4 * d) = false := by unfold goB; simp [hd]; omega
        rw [hg]
        clear hd hm
        go_enter Tryz.func132, Tryz.ntmps132
        go_wp2
        go_ret
        exact ⟨rfl, rfl⟩
      · obtain ⟨t, ht⟩ : ∃ t : Nat, (i : Int) + d = t := ⟨((i : Int) + d).toNat, by omega⟩
        have htN : t < N := by omega
        have ht2 : 2 ≤ t := by omega
        have hpt := hp t htN
        have hPt := hP t htN
        have hg : goB R N f i (4 * d) = (!epB R N f (t - 1) && !epB R N f (t - 2)) := by
          unfold goB
          rw [hd, ht]
          simp
          omega
        rw [hg]
        have hpg := part_go R N f t
        rw [← hPt] at hpg
        obtain ⟨v, hv⟩ : ∃ v, P t = v := ⟨_, rfl⟩
        rw [hv] at hpt hpg
        simp only [Nat.zero_add] at hpt
        clear hd hm hg hp hP hPt hv
        by_cases hv0 : v = 0
        · subst hv0
          obtain ⟨g1, g2⟩ := hpg.1 (.inl rfl)
          rw [g1, g2]
          clear hpg g1 g2
          go_enter Tryz.func132, Tryz.ntmps132
          go_wp2
          go_ret
          exact ⟨rfl, rfl⟩
        · have hv0b : (v == 0) = false := by simpa using hv0
          by_cases hv1 : v = 1
          · subst hv1
            obtain ⟨g1, g2⟩ := hpg.1 (.inr rfl)
            rw [g1, g2]
            clear hpg g1 g2
            go_enter Tryz.func132, Tryz.ntmps132
            go_wp2
            go_ret
            exact ⟨rfl, rfl⟩
          · have hv1b : (v == 1) = false := by simpa using hv1
            have hg : (!epB R N f (t - 1) && !epB R N f (t - 2)) = false := by
              cases h1 : epB R N f (t - 1)
              · cases h2 : epB R N f (t - 2)
                · rcases hpg.2 ⟨h1, h2⟩ with h | h
                  · exact absurd h hv0
                  · exact absurd h hv1
                · rfl
              · rfl
            rw [hg]
            clear hpg hg
            go_enter Tryz.func132, Tryz.ntmps132
            go_wp2
            go_ret
            exact ⟨congrArg (fun x => Ending.returned (.bool x)) (by first | rfl | simp [hv0b, hv1b]), rfl⟩
  · have hg : goB R N f i im = false := by unfold goB; simp [hm]
    have hm1 : ¬ (im.tmod 4 = 0) := by
      intro e
      exact hm (Int.emod_eq_zero_of_dvd (Int.dvd_of_tmod_eq_zero e))
    rw [hg]
    go_enter Tryz.func132, Tryz.ntmps132
    go_wp2
    go_ret
    exact ⟨rfl, rfl⟩

set_option maxHeartbeats 8000000 in
theorem mayCallC (i : Nat) (w : World) (h : FnIs w F g q N cl cq pc cc at' f R P zs) (hi : i < N) (hN : N ≤ 64) (hz : zs.length ≤ 1048576) (h0 : 0 ≤ at') (h1 : at' ≤ 1048575) (hs : Small5 R i) :
    Calls Tryz.prog 131 #[.pointer (some ⟨F, 0, none⟩), .int .i64 i] w fun e w' => e = .returned (.bool (hasB zs (at' + 4 * i + R (i * 5 + 4)))) ∧ Below w.heap.size w w' := by
  have c0 := h.c0
  have c2 := h.c2
  have c4 := h.c4
  obtain ⟨x0, x1, x2, x3, x4⟩ := h.l.five hi
  simp only [Nat.zero_add] at x0 x1 x2 x3 x4
  have hz0 := h.z
  have lF := h.lF
  have lg := h.lg
  have i0 := hs.i0
  have i1 := hs.i1
  clear hs h
  go_enter Tryz.func131, Tryz.ntmps131
  go_wp2
  obtain ⟨W0, hW0⟩ : ∃ W0, W0 = w := ⟨_, rfl⟩
  go_region_held3 (fun w' => w'.cell? ⟨F, 0, none⟩ = some (.slice (some ⟨g, 0, none⟩) N cl) ∧ w'.cell? ⟨F, 2, none⟩ = some (.int .i64 at') ∧ w'.cell? ⟨F, 4, none⟩ = some (.slice pc zs.length cc) ∧ w'.cell? ⟨g, i * 5, none⟩ = some (.int .i64 (R (i * 5))) ∧ w'.cell? ⟨g, i * 5 + 1, none⟩ = some (.int .i64 (R (i * 5 + 1))) ∧ w'.cell? ⟨g, i * 5 + 2, none⟩ = some (.int .i64 (R (i * 5 + 2))) ∧ w'.cell? ⟨g, i * 5 + 3, none⟩ = some (.int .i64 (R (i * 5 + 3))) ∧ w'.cell? ⟨g, i * 5 + 4, none⟩ = some (.int .i64 (R (i * 5 + 4)))) (go_keep) (first | (go_at_call 147; refine (targetC at' i _ _ _ _ _ _ h0 h1 (by omega) i0 i1).mono ?_; rintro e w1 ⟨rfl, hb1⟩; have B1 : Below w.heap.size w w1 := (by first | exact hb1 | exact (Below.refl w.heap.size w).drew.trans hb1); have d0 := (B1.cell (p := ⟨F, 0, none⟩) lF).trans c0; have d2 := (B1.cell (p := ⟨F, 2, none⟩) lF).trans c2; have d4 := (B1.cell (p := ⟨F, 4, none⟩) lF).trans c4; have y0 := (B1.cell (p := ⟨g, i * 5, none⟩) lg).trans x0; have y1 := (B1.cell (p := ⟨g, i * 5 + 1, none⟩) lg).trans x1; have y2 := (B1.cell (p := ⟨g, i * 5 + 2, none⟩) lg).trans x2; have y3 := (B1.cell (p := ⟨g, i * 5 + 3, none⟩) lg).trans x3; have y4 := (B1.cell (p := ⟨g, i * 5 + 4, none⟩) lg).trans x4; have hz1 := hz0.below B1) | (go_at_call 146; refine (containsC pc cc zs _ _ hz hz1).mono ?_; rintro e w2 ⟨rfl, rfl⟩))
  have B2 : Hid (Below w.heap.size w w2) := B1
  clear hb1 B1 hz1 d0 d2 d4 y0 y1 y2 y3 y4
  go_wp2
  go_ret
  exact ⟨rfl, B2.out⟩

end
end Go.Proofs.YthihlbfmpkjhpaaGreatDoor

namespace Go.Proofs.YthihlbfmpkjhpaaGreatDoor
open Go Go.RowKit
set_option linter.unusedVariables false
section
variable {F g q N cl cq : Nat} {pc : Option Addr} {cc : Nat} {at' f : Int} {R P : Nat → Int} {zs : List Int}

/-- The width of a load or store. -/
theorem wd_in {op : Int} (h0 : 11 ≤ op) (h1 : op ≤ 21) : wdN op = 1 ∨ wdN op = 2 ∨ wdN op = 4 ∨ wdN op = 8 := by
  unfold wdN
  have : op = 11 ∨ op = 12 ∨ op = 13 ∨ op = 14 ∨ op = 15 ∨ op = 16 ∨ op = 17 ∨ op = 18 ∨ op = 19 ∨ op = 20 ∨ op = 21 := by omega
  rcases this with rfl | rfl | rfl | rfl | rfl | rfl | rfl | rfl | rfl | rfl | rfl <;> simp

/-- The rule for what goes nowhere. -/
def plI (R : Nat → Int) (N : Nat) (f : Int) (i : Nat) : Int :=
  if (R (i * 5 + 1) = 1 ∧ epB R N f i = false) ∨ (R (i * 5 + 1) = 2 ∧ epB R N f (i - 1) = false) then 21
  else if (11 ≤ R (i * 5) ∧ R (i * 5) ≤ 21) ∧ R (i * 5 + 2) = 2 ∧ epB R N f i = false ∧ ¬ (0 ≤ R (i * 5 + 4) ∧ R (i * 5 + 4) ≤ f - 8 - wdN (R (i * 5)) ∧ R (i * 5 + 4) % wdN (R (i * 5)) = 0) then 17
  else 0
theorem implWidIn (op : Int) (w : World) (h0 : 11 ≤ op) (h1 : op ≤ 21) : Calls Tryz.prog 153 #[.int .i64 op] w fun e w' => e = .returned (.tuple #[.int .i64 (wdN op), .bool (wdS op), .int .i64 0]) ∧ w' = w := by
  have := implWidth op w
  unfold wdR at this
  rw [if_neg (by omega), if_neg (by omega)] at this
  exact this
theorem implWidOut (op : Int) (w : World) (h0 : 1 ≤ op) (h1 : op ≤ 64) (h : op < 11 ∨ 21 < op) : Calls Tryz.prog 153 #[.int .i64 op] w fun e w' => e = .returned (.tuple #[.int .i64 0, .bool false, .int .i64 26]) ∧ w' = w := by
  have := implWidth op w
  unfold wdR at this
  rw [if_neg (by omega), if_pos h] at this
  exact this

set_option maxHeartbeats 8000000 in
theorem plainC (i : Nat) (w : World) (h : FnIs w F g q N cl cq pc cc at' f R P zs) (hi : i < N) (hN : N ≤ 64) (hP : ∀ i, i < N → P i = partI R N f i) (f0 : 16 ≤ f) (f1 : f ≤ 128) (hs : Small5 R i) :
    Calls Tryz.prog 134 #[.pointer (some ⟨F, 0, none⟩), .int .i64 i] w fun e w' => e = .returned (.int .i64 (plI R N f i)) ∧ Below w.heap.size w w' := by
  have c0 := h.c0
  have c1 := h.c1
  obtain ⟨x0, x1, x2, x3, x4⟩ := h.l.five hi
  have p0 := h.p i hi
  simp only [Nat.zero_add] at x0 x1 x2 x3 x4 p0
  rw [hP i hi] at p0
  have q1 := part_one R N f i
  have q2 := part_two R N f i
  have i0 := hs.i0
  have i1 := hs.i1
  have o0 := hs.o0
  have o1 := hs.o1
  obtain ⟨res, hres⟩ : ∃ res, plI R N f i = res := ⟨_, rfl⟩
  rw [hres]
  unfold plI at hres
  obtain ⟨v, hv⟩ : ∃ v, partI R N f i = v := ⟨_, rfl⟩
  obtain ⟨a, ha⟩ : ∃ a, epB R N f i = a := ⟨_, rfl⟩
  obtain ⟨b, hb⟩ : ∃ b, epB R N f (i - 1) = b := ⟨_, rfl⟩
  obtain ⟨op, ho⟩ : ∃ op, R (i * 5) = op := ⟨_, rfl⟩
  obtain ⟨rd, hr⟩ : ∃ rd, R (i * 5 + 1) = rd := ⟨_, rfl⟩
  obtain ⟨r1, hr1⟩ : ∃ r1, R (i * 5 + 2) = r1 := ⟨_, rfl⟩
  obtain ⟨r2, hr2⟩ : ∃ r2, R (i * 5 + 3) = r2 := ⟨_, rfl⟩
  obtain ⟨im, him⟩ : ∃ im, R (i * 5 + 4) = im := ⟨_, rfl⟩
  rw [hv, ha] at q1
  rw [hv, hb] at q2
  rw [hv] at p0
  rw [ho] at x0 o0 o1
  rw [hr] at x1
  rw [hr1] at x2
  rw [hr2] at x3
  rw [him] at x4 i0 i1
  rw [ho, hr, hr1, him, ha, hb] at hres
  clear hv ha hb ho hr hr1 hr2 him hP hs
  have far : ∀ (o : Obj) (b k : Nat) (v : Value), b < w.heap.size → w.cell? ⟨b, k, none⟩ = some v → (w.alloc o).cell? ⟨b, k, none⟩ = some v := fun o b k v hb hv => (((Below.refl w.heap.size w).alloc (Nat.le_refl _) o).cell (p := ⟨b, k, none⟩) hb).trans hv
  have d1 := far (.cells #[.int .i64 0, .int .i64 0, .int .i64 0, .int .i64 0, .int .i64 0] 124) F 1 _ h.lF c1
  have d2 := far (.cells #[.int .i64 0, .int .i64 0, .int .i64 0, .int .i64 0, .int .i64 0] 124) q i _ h.lq p0
  have d3 := far (.cells #[.int .i64 0, .int .i64 0, .int .i64 0, .int .i64 0, .int .i64 0] 124) F 0 _ h.lF c0
  have d4 := far (.cells #[.int .i64 0, .int .i64 0, .int .i64 0, .int .i64 0, .int .i64 0] 124) g (i * 5) _ h.lg x0
  have d5 := far (.cells #[.int .i64 0, .int .i64 0, .int .i64 0, .int .i64 0, .int .i64 0] 124) g (i * 5 + 1) _ h.lg x1
  have d6 := far (.cells #[.int .i64 0, .int .i64 0, .int .i64 0, .int .i64 0, .int .i64 0] 124) g (i * 5 + 2) _ h.lg x2
  have d7 := far (.cells #[.int .i64 0, .int .i64 0, .int .i64 0, .int .i64 0, .int .i64 0] 124) g (i * 5 + 3) _ h.lg x3
  have d8 := far (.cells #[.int .i64 0, .int .i64 0, .int .i64 0, .int .i64 0, .int .i64 0] 124) g (i * 5 + 4) _ h.lg x4
  have e1 := far (.cells #[.int .i64 op, .int .i64 rd, .int .i64 r1, .int .i64 r2, .int .i64 im] 124) F 1 _ h.lF c1
  have e2 := far (.cells #[.int .i64 op, .int .i64 rd, .int .i64 r1, .int .i64 r2, .int .i64 im] 124) q i _ h.lq p0
  clear far
  go_enter Tryz.func134, Tryz.ntmps134
  go_wp2
  go_region
  obtain ⟨W1, hW1⟩ : ∃ W1, (w.alloc (.cells #[.int .i64 op, .int .i64 rd, .int .i64 r1, .int .i64 r2, .int .i64 im] 124)).drew = W1 := ⟨_, rfl⟩
  have B1 : Below w.heap.size w W1 := by rw [← hW1]; exact ((Below.refl _ _).alloc (Nat.le_refl _) _).drew
  have h1 := h.below B1
  have y0 : W1.cell? ⟨w.heap.size, 0, none⟩ = some (.int .i64 op) := by rw [← hW1]; simp
  have y1 : W1.cell? ⟨w.heap.size, 1, none⟩ = some (.int .i64 rd) := by rw [← hW1]; simp
  have y2 : W1.cell? ⟨w.heap.size, 2, none⟩ = some (.int .i64 r1) := by rw [← hW1]; simp
  have y4 : W1.cell? ⟨w.heap.size, 4, none⟩ = some (.int .i64 im) := by rw [← hW1]; simp
  rw [hW1]
  clear hW1 d1 d2 d3 d4 d5 d6 d7 d8 e1 e2 c0 c1 x0 x1 x2 x3 x4 p0 h
  have hres : Hid (_ = res) := hres
  have HB : Hid (Below w.heap.size w W1) := B1
  clear B1
  -- a register that may not be written
  by_cases hbad : (rd = 1 ∧ a = false) ∨ (rd = 2 ∧ b = false)
  · have hr21 : res = 21 := by rw [← hres.out, if_pos hbad]
    subst hr21
    rcases hbad with ⟨rfl, rfl⟩ | ⟨rfl, rfl⟩
    · have hv1 : (v == 1) = false := by
        have : ¬ v = 1 := fun e => by have := q1.1 e; cases this
        simpa using this
      have hv1' : ¬ v = 1 := by simpa using hv1
      clear q1 q2 hres
      go_wp2
      go_ret
      exact ⟨rfl, HB.out⟩
    · have hv1' : ¬ v = 2 := fun e => by have := q2.1 e; cases this
      clear q1 q2 hres
      go_wp2
      go_ret
      exact ⟨rfl, HB.out⟩
  rw [if_neg hbad] at hres
  have hA : (rd = 1 ∧ v = 1) ∨ (rd = 2 ∧ v = 2) ∨ (¬ rd = 1 ∧ ¬ rd = 2) := by
    by_cases e1 : rd = 1
    · left
      refine ⟨e1, q1.2 ?_⟩
      cases a
      · exact absurd (.inl ⟨e1, rfl⟩) hbad
      · rfl
    · by_cases e2 : rd = 2
      · right; left
        refine ⟨e2, q2.2 ?_⟩
        cases b
        · exact absurd (.inr ⟨e2, rfl⟩) hbad
        · rfl
      · exact .inr (.inr ⟨e1, e2⟩)
  by_cases hop : 11 ≤ op ∧ op ≤ 21
  · obtain ⟨p0, p1⟩ := hop
    have hw := wd_in p0 p1
    by_cases hr2 : r1 = 2
    · by_cases hv1 : v = 1
      · have hz : res = 0 := by rw [← hres.out, if_neg]; intro hh; have := q1.1 hv1; rw [this] at hh; cases hh.2.2.1
        subst hz hr2 hv1
        clear q1 q2 hres hbad
        rcases hA with ⟨rfl, _⟩ | ⟨rfl, hx⟩ | ⟨g1, g2⟩
        · go_wp2_with (go_at_call 153; refine (implWidIn op _ p0 p1).mono ?_; rintro e w' ⟨rfl, rfl⟩)
          go_ret
          exact ⟨rfl, HB.out⟩
        · exact absurd hx (by omega)
        · go_wp2_with (go_at_call 153; refine (implWidIn op _ p0 p1).mono ?_; rintro e w' ⟨rfl, rfl⟩)
          go_ret
          exact ⟨rfl, HB.out⟩
      · have ha : a = false := by cases a; rfl; exact absurd (q1.2 rfl) hv1
        subst ha hr2
        have hfr := fun w' hh => inFrameC (F := F) (g := g) (q := q) (N := N) (cl := cl) (cq := cq) (pc := pc) (cc := cc) (at' := at') (f := f) (R := R) (P := P) (zs := zs) im (wdN op) w' hh f0 f1 i0 i1 hw
        cases hd : decide (0 ≤ im ∧ im ≤ f - 8 - wdN op ∧ im % wdN op = 0) with
        | true =>
          have hz : res = 0 := by rw [← hres.out, if_neg]; intro hh; exact hh.2.2.2 (of_decide_eq_true hd)
          subst hz
          rw [hd] at hfr
          clear q1 q2 hres hbad hd hw
          rcases hA with ⟨rfl, hx⟩ | ⟨rfl, hx⟩ | ⟨g1, g2⟩
          · exact absurd hx hv1
          all_goals
            go_wp2_with (first | (go_at_call 153; refine (implWidIn op _ p0 p1).mono ?_; rintro e w' ⟨rfl, rfl⟩) | (go_at_call 154; refine (hfr _ h1).mono ?_; rintro e w' ⟨rfl, rfl⟩))
            go_ret
            exact ⟨rfl, HB.out⟩
        | false =>
          have hz : res = 17 := by rw [← hres.out, if_pos]; exact ⟨⟨p0, p1⟩, rfl, rfl, of_decide_eq_false hd⟩
          subst hz
          rw [hd] at hfr
          clear q1 q2 hres hbad hd hw
          rcases hA with ⟨rfl, hx⟩ | ⟨rfl, hx⟩ | ⟨g1, g2⟩
          · exact absurd hx hv1
          all_goals
            go_wp2_with (first | (go_at_call 153; refine (implWidIn op _ p0 p1).mono ?_; rintro e w' ⟨rfl, rfl⟩) | (go_at_call 154; refine (hfr _ h1).mono ?_; rintro e w' ⟨rfl, rfl⟩))
            go_ret
            exact ⟨rfl, HB.out⟩
    · have hz : res = 0 := by rw [← hres.out, if_neg]; intro hh; exact hr2 hh.2.1
      subst hz
      have hr2b : (r1 == 2) = false := by simpa using hr2
      clear q1 q2 hres hbad hw
      rcases hA with ⟨rfl, rfl⟩ | ⟨rfl, rfl⟩ | ⟨g1, g2⟩
      all_goals
        go_wp2_with (go_at_call 153; refine (implWidIn op _ p0 p1).mono ?_; rintro e w' ⟨rfl, rfl⟩)
        go_ret
        exact ⟨rfl, HB.out⟩
  · have hz : res = 0 := by rw [← hres.out, if_neg]; intro hh; exact hop hh.1
    have hop' : op < 11 ∨ 21 < op := by omega
    subst hz
    clear q1 q2 hres hbad hop
    rcases hA with ⟨rfl, rfl⟩ | ⟨rfl, rfl⟩ | ⟨g1, g2⟩
    all_goals
      go_wp2_with (go_at_call 153; refine (implWidOut op _ o0 o1 hop').mono ?_; rintro e w' ⟨rfl, rfl⟩)
      go_ret
      exact ⟨rfl, HB.out⟩
end
end Go.Proofs.YthihlbfmpkjhpaaGreatDoor

namespace Go.Proofs.YthihlbfmpkjhpaaGreatDoor

theorem i64_and_mask (a : Int) (n : Nat) (hn : n ≤ 62) : bits .and .i64 a (2 ^ n - 1) = a % 2 ^ n := by
  have hp : (2 : Nat) ^ n ≤ 2 ^ 62 := Nat.pow_le_pow_right (by decide) hn
  have hp1 : 0 < (2 : Nat) ^ n := Nat.pow_pos (by decide)
  have h62 : (2 : Nat) ^ 62 = 4611686018427387904 := by decide
  have e0 : ((2 : Int) ^ n - 1) = ((2 ^ n - 1 : Nat) : Int) := by
    rw [Int.natCast_sub hp1]
    simp
  have hm : (BitVec.ofInt 64 ((2 : Int) ^ n - 1)).toNat = 2 ^ n - 1 := by
    rw [e0, ofInt_u64 _ (by omega)]
  have key : (BitVec.ofInt 64 a &&& BitVec.ofInt 64 ((2 : Int) ^ n - 1)).toNat = (a % ((2 ^ 64 : Nat) : Int)).toNat % 2 ^ n := by
    rw [BitVec.toNat_and, BitVec.toNat_ofInt, hm, Nat.and_two_pow_sub_one_eq_mod]
  show IntKind.i64.wrap ((BitVec.ofInt 64 a &&& BitVec.ofInt 64 ((2 : Int) ^ n - 1)).toNat : Nat) = _
  have h0 : 0 ≤ a % ((2 ^ 64 : Nat) : Int) := Int.emod_nonneg _ (by decide)
  have hd : ((2 : Int) ^ n) ∣ ((2 ^ 64 : Nat) : Int) := by
    have : (2 : Nat) ^ n ∣ 2 ^ 64 := Nat.pow_dvd_pow 2 (by omega)
    have := Int.natCast_dvd_natCast.2 this
    simpa using this
  have hb := Nat.mod_lt (a % ((2 ^ 64 : Nat) : Int)).toNat hp1
  rw [key, IntWalk.i64_in _ (by omega), Int.natCast_emod, Int.toNat_of_nonneg h0]
  have e2 : ((2 ^ n : Nat) : Int) = 2 ^ n := by simp
  rw [e2, Int.emod_emod_of_dvd _ hd]

theorem or_gap (k n x y : Nat) (hx : x % 2 ^ (k + n) < 2 ^ k) (hy : y < 2 ^ (k + n)) (hz : y % 2 ^ k = 0) : x ||| y = x + y := by
  have hq := nat_join k y (x % 2 ^ (k + n)) hz hx
  have hc : y = 2 ^ k * (y / 2 ^ k) := by have := Nat.div_add_mod y (2 ^ k); omega
  have hlt : y / 2 ^ k < 2 ^ n := by
    rw [Nat.div_lt_iff_lt_mul (Nat.pow_pos (by decide)), ← Nat.pow_add, Nat.add_comm n k]
    exact hy
  have hle : 2 ^ k * (y / 2 ^ k + 1) ≤ 2 ^ k * 2 ^ n := Nat.mul_le_mul_left _ hlt
  rw [← Nat.pow_add, Nat.mul_add, ← hc, Nat.mul_one] at hle
  have hsum : y + x % 2 ^ (k + n) < 2 ^ (k + n) := by omega
  have hxx : 2 ^ (k + n) * (x / 2 ^ (k + n)) + x % 2 ^ (k + n) = x := Nat.div_add_mod _ _
  have j1 := nat_join (k + n) (2 ^ (k + n) * (x / 2 ^ (k + n))) (x % 2 ^ (k + n)) (Nat.mul_mod_right _ _) (Nat.mod_lt _ (Nat.pow_pos (by decide)))
  have j2 := nat_join (k + n) (2 ^ (k + n) * (x / 2 ^ (k + n))) (y + x % 2 ^ (k + n)) (Nat.mul_mod_right _ _) hsum
  have e : x ||| y = 2 ^ (k + n) * (x / 2 ^ (k + n)) ||| (y ||| x % 2 ^ (k + n)) := by
    rw [Nat.or_comm y, ← Nat.or_assoc, j1, hxx]
  rw [e, hq, j2]
  omega

theorem i64_or_nat (a b : Nat) (ha : a < 9223372036854775808) (hb : b < 9223372036854775808) : bits .or .i64 (a : Int) (b : Int) = ((a ||| b : Nat) : Int) := by
  have hx : a ||| b < 2 ^ 63 := Nat.or_lt_two_pow (by omega) (by omega)
  show IntKind.i64.wrap ((BitVec.ofInt 64 (a : Int) ||| BitVec.ofInt 64 (b : Int)).toNat : Int) = _
  rw [BitVec.toNat_or, ofInt_u64 a (by omega), ofInt_u64 b (by omega), IntWalk.i64_in _ (by omega)]

/-- Two numbers without a common bit: y lies in the bits k to k + n - 1, and x has none of these. -/
theorem i64_or_gap (k n : Nat) (A B : Int) (hA : A = 2 ^ k) (hB : B = 2 ^ (k + n)) (x y : Int) (x0 : 0 ≤ x) (x1 : x < 9223372036854775808) (hx : x % B < A) (y0 : 0 ≤ y) (y1 : y < B) (hz : y % A = 0) (hkn : k + n ≤ 63) : bits .or .i64 x y = x + y := by
  obtain ⟨x, rfl⟩ := Int.eq_ofNat_of_zero_le x0
  obtain ⟨y, rfl⟩ := Int.eq_ofNat_of_zero_le y0
  have eA : A = ((2 ^ k : Nat) : Int) := by rw [hA]; simp
  have eB : B = ((2 ^ (k + n) : Nat) : Int) := by rw [hB]; simp
  have hp : (2 : Nat) ^ (k + n) ≤ 2 ^ 63 := Nat.pow_le_pow_right (by decide) hkn
  have h63 : (2 : Nat) ^ 63 = 9223372036854775808 := by decide
  rw [eA, eB] at hx
  rw [eB] at y1
  rw [eA] at hz
  have hx' : x % 2 ^ (k + n) < 2 ^ k := by exact_mod_cast hx
  have hz' : y % 2 ^ k = 0 := by exact_mod_cast hz
  rw [i64_or_nat x y (by omega) (by omega), or_gap k n x y hx' (by omega) hz']
  simp
end Go.Proofs.YthihlbfmpkjhpaaGreatDoor

namespace Go.Proofs.YthihlbfmpkjhpaaGreatDoor

/-- The byte at a place of a number. -/
def leAt (u : Nat) (i : Nat) : UInt8 := UInt8.ofNat (u / 2 ^ (8 * i))
def leL (u n : Nat) : List UInt8 := (List.range n).map (leAt u)
theorem leL_len (u n : Nat) : (leL u n).length = n := by simp [leL]
theorem leL_succ (u n : Nat) : leL u (n + 1) = leL u n ++ [leAt u n] := by simp [leL, List.range_succ]
/-- The 64 bits of a number. -/
def u64 (v : Int) : Nat := (v % 18446744073709551616).toNat
theorem u64_lt (v : Int) : u64 v < 18446744073709551616 := by
  unfold u64
  omega

theorem leAt_nat (u i : Nat) : ((leAt u i).toNat : Int) = (u : Int) / 2 ^ (8 * i) % 256 := by
  unfold leAt
  rw [UInt8.toNat_ofNat']
  simp

theorem wrap_u64 (v : Int) : IntKind.u64.wrap v = (u64 v : Int) := by
  show v % 18446744073709551616 = _
  unfold u64
  omega
theorem wrap_u8 (v : Int) : IntKind.u8.wrap v = ((u64 v % 256 : Nat) : Int) := by
  show v % 256 = _
  unfold u64
  omega
theorem wrap_u16 (v : Int) : IntKind.u16.wrap v = ((u64 v % 65536 : Nat) : Int) := by
  show v % 65536 = _
  unfold u64
  omega
theorem wrap_u32 (v : Int) : IntKind.u32.wrap v = ((u64 v % 4294967296 : Nat) : Int) := by
  show v % 4294967296 = _
  unfold u64
  omega

theorem leAt_mod (u m i : Nat) (h : u / 2 ^ (8 * i) % 256 = m / 2 ^ (8 * i) % 256) : leAt u i = leAt m i := by
  unfold leAt
  rw [← UInt8.toNat_inj, UInt8.toNat_ofNat', UInt8.toNat_ofNat']
  exact h
theorem leL_1 (u : Nat) : leL (u % 256) 1 = leL u 1 := by
  simp only [leL, List.range_succ, List.range_zero, List.nil_append, List.map_cons, List.map_nil]
  rw [leAt_mod (u % 256) u 0 (by simp)]
theorem leL_2 (u : Nat) : leL (u % 65536) 2 = leL u 2 := by
  simp only [leL, List.range_succ, List.range_zero, List.nil_append, List.cons_append, List.map_cons, List.map_nil]
  rw [leAt_mod (u % 65536) u 0 (by simp), leAt_mod (u % 65536) u 1 (by simp; omega)]
theorem leL_4 (u : Nat) : leL (u % 4294967296) 4 = leL u 4 := by
  simp only [leL, List.range_succ, List.range_zero, List.nil_append, List.cons_append, List.map_cons, List.map_nil]
  rw [leAt_mod (u % 4294967296) u 0 (by simp), leAt_mod (u % 4294967296) u 1 (by simp; omega), leAt_mod (u % 4294967296) u 2 (by simp; omega), leAt_mod (u % 4294967296) u 3 (by simp; omega)]
end Go.Proofs.YthihlbfmpkjhpaaGreatDoor
