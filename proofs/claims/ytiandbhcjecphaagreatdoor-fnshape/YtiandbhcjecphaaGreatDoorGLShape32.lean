/- What is no operation, and what is one of another kind: contracts. How wide loads and stores are: contracts. Integers of 64 bits. Frames, prologues, epilogues: of the program and of the model. -/
import Derived.Test.YtiandbhcjecphaaGreatDoorGLShape1
import Derived.WalkKit
import Derived.DataShut
import Derived.Test.YtiandbhcjecphaaGreatDoorGLShape30
namespace Go.Proofs.YtiandbhcjecphaaGreatDoor
open Go.RowKit
set_option linter.unusedVariables false

theorem kindOk (op a b : Int) (w : World) (h0 : 1 ≤ a) (h1 : b ≤ 64) (h2 : a ≤ op) (h3 : op ≤ b) :
    Calls Tryz.prog 124 #[.int .i64 op, .int .i64 a, .int .i64 b] w fun e w' => e = .returned (.int .i64 0) ∧ w' = w := by
  have h4 : 1 ≤ op := by omega
  have h5 : op ≤ 64 := by omega
  go_enter Tryz.func124, Tryz.ntmps124
  go_wp2
  go_ret
  exact ⟨rfl, rfl⟩
theorem kindRange (op a b : Int) (w : World) (h : op < 1 ∨ 64 < op) :
    Calls Tryz.prog 124 #[.int .i64 op, .int .i64 a, .int .i64 b] w fun e w' => e = .returned (.int .i64 4) ∧ w' = w := by
  by_cases h0 : op < 1
  · clear h
    go_enter Tryz.func124, Tryz.ntmps124
    go_wp2
    go_ret
    exact ⟨rfl, rfl⟩
  · have h1 : 64 < op := by omega
    clear h
    go_enter Tryz.func124, Tryz.ntmps124
    go_wp2
    go_ret
    exact ⟨rfl, rfl⟩
theorem kindKind (op a b : Int) (w : World) (h0 : 1 ≤ op) (h1 : op ≤ 64) (h : op < a ∨ b < op) :
    Calls Tryz.prog 124 #[.int .i64 op, .int .i64 a, .int .i64 b] w fun e w' => e = .returned (.int .i64 26) ∧ w' = w := by
  by_cases h2 : op < a
  · clear h
    go_enter Tryz.func124, Tryz.ntmps124
    go_wp2
    go_ret
    exact ⟨rfl, rfl⟩
  · have h3 : b < op := by omega
    clear h
    go_enter Tryz.func124, Tryz.ntmps124
    go_wp2
    go_ret
    exact ⟨rfl, rfl⟩

theorem opYes (op : Int) (w : World) (h0 : 1 ≤ op) (h1 : op ≤ 64) :
    Calls Tryz.prog 117 #[.int .i64 op] w fun e w' => e = .returned (.bool true) ∧ w' = w := by
  go_enter Tryz.func117, Tryz.ntmps117
  go_wp2_with fail
  refine (spIn op 1 64 w true (.inl ⟨rfl, by omega, by omega⟩)).mono ?_
  rintro e w1 ⟨rfl, rfl⟩
  go_wp2
  go_ret
  exact ⟨rfl, rfl⟩
theorem opNo (op : Int) (w : World) (h : op < 1 ∨ 64 < op) :
    Calls Tryz.prog 117 #[.int .i64 op] w fun e w' => e = .returned (.bool false) ∧ w' = w := by
  go_enter Tryz.func117, Tryz.ntmps117
  go_wp2_with fail
  refine (spIn op 1 64 w false (.inr ⟨rfl, h⟩)).mono ?_
  rintro e w1 ⟨rfl, rfl⟩
  clear h
  go_wp2
  go_ret
  exact ⟨rfl, rfl⟩
end Go.Proofs.YtiandbhcjecphaaGreatDoor

namespace Go.Proofs.YtiandbhcjecphaaGreatDoor
open Go.RowKit
set_option linter.unusedVariables false

def wdN (op : Int) : Int := if op = 11 then 1 else if op = 12 then 2 else if op = 13 then 4 else if op = 14 then 8 else if op = 15 then 1 else if op = 16 then 2 else if op = 17 then 4 else if op = 18 then 1 else if op = 19 then 2 else if op = 20 then 4 else if op = 21 then 8 else 0
def wdS (op : Int) : Bool := decide (11 ≤ op ∧ op ≤ 14)
theorem ret_wid {a b : Int} {x y : Bool} {c d : Int} (h : a = b) (k : x = y) (l : c = d) : Ending.returned (.tuple #[.int .i64 a, .bool x, .int .i64 c]) = .returned (.tuple #[.int .i64 b, .bool y, .int .i64 d]) := by rw [h, k, l]
theorem ret_wid2 {a b : Int} {x y : Bool} (h : a = b) (k : x = y) : Ending.returned (.tuple #[.int .i64 a, .bool x]) = .returned (.tuple #[.int .i64 b, .bool y]) := by rw [h, k]

set_option maxHeartbeats 2000000 in
theorem implWid (op : Int) (w : World) (h0 : 11 ≤ op) (h1 : op ≤ 21) :
    Calls Tryz.prog 106 #[.int .i64 op] w fun e w' => e = .returned (.tuple #[.int .i64 (wdN op), .bool (wdS op), .int .i64 0]) ∧ w' = w := by
  rcases (show op = 11 ∨ op = 12 ∨ op = 13 ∨ op = 14 ∨ op = 15 ∨ op = 16 ∨ op = 17 ∨ op = 18 ∨ op = 19 ∨ op = 20 ∨ op = 21 by omega) with rfl | rfl | rfl | rfl | rfl | rfl | rfl | rfl | rfl | rfl | rfl
  all_goals
    clear h0 h1
    go_enter Tryz.func106, Tryz.ntmps106
    go_wp2
    go_ret3
    exact ⟨ret_wid (by decide) (by decide) rfl, rfl⟩
set_option maxHeartbeats 2000000 in
theorem specWidIn (op : Int) (w : World) (h0 : 11 ≤ op) (h1 : op ≤ 21) :
    Calls Tryz.prog 95 #[.int .i64 op] w fun e w' => e = .returned (.tuple #[.int .i64 (wdN op), .bool (wdS op)]) ∧ w' = w := by
  rcases (show op = 11 ∨ op = 12 ∨ op = 13 ∨ op = 14 ∨ op = 15 ∨ op = 16 ∨ op = 17 ∨ op = 18 ∨ op = 19 ∨ op = 20 ∨ op = 21 by omega) with rfl | rfl | rfl | rfl | rfl | rfl | rfl | rfl | rfl | rfl | rfl
  all_goals
    clear h0 h1
    go_enter Tryz.func95, Tryz.ntmps95
    go_wp2
    go_ret2
    exact ⟨ret_wid2 (by decide) (by decide), rfl⟩
set_option maxHeartbeats 2000000 in
theorem specWidOut (op : Int) (w : World) (h : op < 11 ∨ 21 < op) :
    Calls Tryz.prog 95 #[.int .i64 op] w fun e w' => e = .returned (.tuple #[.int .i64 0, .bool false]) ∧ w' = w := by
  have b11 : (op == 11) = false := beq_eq_false_iff_ne.2 (by omega)
  have b12 : (op == 12) = false := beq_eq_false_iff_ne.2 (by omega)
  have b13 : (op == 13) = false := beq_eq_false_iff_ne.2 (by omega)
  have b14 : (op == 14) = false := beq_eq_false_iff_ne.2 (by omega)
  have b15 : (op == 15) = false := beq_eq_false_iff_ne.2 (by omega)
  have b16 : (op == 16) = false := beq_eq_false_iff_ne.2 (by omega)
  have b17 : (op == 17) = false := beq_eq_false_iff_ne.2 (by omega)
  have b18 : (op == 18) = false := beq_eq_false_iff_ne.2 (by omega)
  have b19 : (op == 19) = false := beq_eq_false_iff_ne.2 (by omega)
  have b20 : (op == 20) = false := beq_eq_false_iff_ne.2 (by omega)
  have b21 : (op == 21) = false := beq_eq_false_iff_ne.2 (by omega)
  clear h
  go_enter Tryz.func95, Tryz.ntmps95
  go_wp2
  go_ret2
  exact ⟨rfl, rfl⟩
theorem wdN_bd (op : Int) (h0 : 11 ≤ op) (h1 : op ≤ 21) : 1 ≤ wdN op ∧ wdN op ≤ 8 := by
  rcases (show op = 11 ∨ op = 12 ∨ op = 13 ∨ op = 14 ∨ op = 15 ∨ op = 16 ∨ op = 17 ∨ op = 18 ∨ op = 19 ∨ op = 20 ∨ op = 21 by omega) with rfl | rfl | rfl | rfl | rfl | rfl | rfl | rfl | rfl | rfl | rfl <;> decide

/-- What both answer: number, sign, code. -/
def wdR (op : Int) : Int × Bool × Int := if op < 1 ∨ 64 < op then (0, false, 4) else if op < 11 ∨ 21 < op then (0, false, 26) else (wdN op, wdS op, 0)

theorem implWidth (op : Int) (w : World) :
    Calls Tryz.prog 106 #[.int .i64 op] w fun e w' => e = .returned (.tuple #[.int .i64 (wdR op).1, .bool (wdR op).2.1, .int .i64 (wdR op).2.2]) ∧ w' = w := by
  unfold wdR
  by_cases h : op < 1 ∨ 64 < op
  · rw [if_pos h]
    go_enter Tryz.func106, Tryz.ntmps106
    go_wp2_with fail
    refine (kindRange op 11 21 w h).mono ?_
    rintro e w2 ⟨rfl, rfl⟩
    clear h
    go_wp2
    go_ret3
    exact ⟨rfl, rfl⟩
  · rw [if_neg h]
    by_cases h2 : op < 11 ∨ 21 < op
    · rw [if_pos h2]
      go_enter Tryz.func106, Tryz.ntmps106
      go_wp2_with fail
      refine (kindKind op 11 21 w (by omega) (by omega) h2).mono ?_
      rintro e w2 ⟨rfl, rfl⟩
      clear h h2
      go_wp2
      go_ret3
      exact ⟨rfl, rfl⟩
    · rw [if_neg h2]
      exact implWid op w (by omega) (by omega)
end Go.Proofs.YtiandbhcjecphaaGreatDoor

namespace Go.Proofs.YtiandbhcjecphaaGreatDoor
open Go.RowKit

/-- An integer of 64 bits. -/
def In64 (a : Int) : Prop := -9223372036854775808 ≤ a ∧ a ≤ 9223372036854775807
theorem in64_wrap (a : Int) : In64 (wrap64 a) := by unfold In64 wrap64; omega
theorem in64_of {a : Int} (h : (Lit.int .i64 a).wf = true) : In64 a := by
  have h := (Lit.wf_int_iff _ _).1 h
  rw [IntKind.min_i64, IntKind.max_i64] at h
  exact h
end Go.Proofs.YtiandbhcjecphaaGreatDoor

namespace Go.Proofs.YtiandbhcjecphaaGreatDoor
open Go Go.RowKit
set_option linter.unusedVariables false

def frB (f : Int) : Bool := decide (16 ≤ f ∧ f ≤ 128 ∧ f % 16 = 0)

theorem frImpl (f : Int) (w : World) (hw : (Lit.int .i64 f).wf = true) :
    Calls Tryz.prog 8 #[.int .i64 f] w fun e w' => e = .returned (.bool (frB f)) ∧ w' = w := by
  by_cases h0 : 16 ≤ f
  · by_cases h1 : f ≤ 128
    · by_cases h2 : f % 16 = 0
      · have e : frB f = true := by simp [frB, h0, h1, h2]
        rw [e]
        go_enter Tryz.func8, Tryz.ntmps8
        go_wp2
        go_ret
        exact ⟨rfl, rfl⟩
      · have e : frB f = false := by simp [frB, h0, h1, h2]
        rw [e]
        go_enter Tryz.func8, Tryz.ntmps8
        go_wp2
        go_ret
        exact ⟨congrArg (fun x => Ending.returned (.bool x)) (by simp [h2]), rfl⟩
    · have e : frB f = false := by simp [frB, h0, h1]
      rw [e]
      go_enter Tryz.func8, Tryz.ntmps8
      go_wp2
      go_ret
      exact ⟨rfl, rfl⟩
  · have e : frB f = false := by simp [frB, h0]
    rw [e]
    go_enter Tryz.func8, Tryz.ntmps8
    go_wp2
    go_ret
    exact ⟨rfl, rfl⟩

theorem frSpec (f : Int) (w : World) (hw : (Lit.int .i64 f).wf = true) :
    Calls Tryz.prog 59 #[.int .i64 f] w fun e w' => e = .returned (.bool (frB f)) ∧ w' = w := by
  by_cases h : 16 ≤ f ∧ f ≤ 128
  · obtain ⟨h0, h1⟩ := h
    have e : frB f = (f % 16 == 0) := by
      simp only [frB, h0, h1, true_and]
      rfl
    rw [e]
    go_enter Tryz.func59, Tryz.ntmps59
    go_wp2_with (go_at_call 58; refine (spIn _ _ _ _ true (.inl ⟨rfl, h0, h1⟩)).mono ?_; rintro e w' ⟨rfl, rfl⟩)
    go_ret
    exact ⟨rfl, rfl⟩
  · have h' : f < 16 ∨ 128 < f := by omega
    have e : frB f = false := by simp only [frB, decide_eq_false_iff_not]; omega
    rw [e]
    go_enter Tryz.func59, Tryz.ntmps59
    go_wp2_with (go_at_call 58; refine (spIn _ _ _ _ false (.inr ⟨rfl, h'⟩)).mono ?_; rintro e w' ⟨rfl, rfl⟩)
    go_ret
    exact ⟨rfl, rfl⟩

/-- Every Int as a number of 64 bits. -/
def proR (f : Int) (i : Nat) : Int := [22, 2, 2, 0, -f, 21, 0, 2, 1, f - 8].getD i 0
def epiR (f : Int) (i : Nat) : Int := [14, 1, 2, 0, f - 8, 22, 2, 2, 0, f, 4, 0, 1, 0, 0].getD i 0

/-- A block of ints that was just laid. -/
theorem Flat.new (w : World) (cs : Array Value) (t : TypeId) (m : Nat) (R : Nat → Int) (h : ∀ i, i < m → cs[i]? = some (Value.int .i64 (R i))) : Flat (w.alloc (.cells cs t)) w.heap.size 0 m R := by
  intro i hi
  have hb : (w.alloc (.cells cs t)).heap[w.heap.size]? = some (.cells cs t (0, 0)) := heap_alloc_new w _
  rw [Nat.zero_add]
  exact ⟨by rw [cell_of_row _ _ i cs t (0, 0) hb]; exact h i hi, frozen_of_row _ _ i cs t hb⟩
theorem pro_cells (f : Int) : ∀ i, i < 10 → (#[.int .i64 22, .int .i64 2, .int .i64 2, .int .i64 0, .int .i64 (-f), .int .i64 21, .int .i64 0, .int .i64 2, .int .i64 1, .int .i64 (f - 8)] : Array Value)[i]? = some (Value.int .i64 (proR f i)) := by
  intro i hi
  have : i = 0 ∨ i = 1 ∨ i = 2 ∨ i = 3 ∨ i = 4 ∨ i = 5 ∨ i = 6 ∨ i = 7 ∨ i = 8 ∨ i = 9 := by omega
  rcases this with rfl | rfl | rfl | rfl | rfl | rfl | rfl | rfl | rfl | rfl <;> rfl
theorem epi_cells (f : Int) : ∀ i, i < 15 → (#[.int .i64 14, .int .i64 1, .int .i64 2, .int .i64 0, .int .i64 (f - 8), .int .i64 22, .int .i64 2, .int .i64 2, .int .i64 0, .int .i64 f, .int .i64 4, .int .i64 0, .int .i64 1, .int .i64 0, .int .i64 0] : Array Value)[i]? = some (Value.int .i64 (epiR f i)) := by
  intro i hi
  have : i = 0 ∨ i = 1 ∨ i = 2 ∨ i = 3 ∨ i = 4 ∨ i = 5 ∨ i = 6 ∨ i = 7 ∨ i = 8 ∨ i = 9 ∨ i = 10 ∨ i = 11 ∨ i = 12 ∨ i = 13 ∨ i = 14 := by omega
  rcases this with rfl | rfl | rfl | rfl | rfl | rfl | rfl | rfl | rfl | rfl | rfl | rfl | rfl | rfl | rfl <;> rfl
theorem frB_bd {f : Int} (h : frB f = true) : 16 ≤ f ∧ f ≤ 128 ∧ (Lit.int .i64 f).wf = true := by
  have h' : 16 ≤ f ∧ f ≤ 128 := by simp only [frB, decide_eq_true_eq] at h; omega
  exact ⟨h'.1, h'.2, (Lit.wf_int_iff _ _).2 (by rw [IntKind.min_i64, IntKind.max_i64]; omega)⟩
theorem grown1 (w : World) (o : Obj) : Below w.heap.size w (w.alloc o) := (Below.refl _ _).alloc (Nat.le_refl _) _

theorem proImpl (f : Int) (w : World) (h : frB f = true) :
    Calls Tryz.prog 5 #[.int .i64 f] w fun e w' => ∃ g, e = .returned (.tuple #[.slice (some ⟨g, 0, none⟩) 2 2, .int .i64 0]) ∧ Below w.heap.size w w' ∧ w.heap.size ≤ g ∧ g < w'.heap.size ∧ Flat w' g 0 (2 * 5) (proR f) := by
  obtain ⟨h0, h1, hw⟩ := frB_bd h
  go_enter Tryz.func5, Tryz.ntmps5
  go_wp2_with (go_at_call 8; refine (frImpl f _ hw).mono ?_; rintro e w' ⟨rfl, rfl⟩; rw [h])
  go_ret2
  exact ⟨_, rfl, grown1 _ _, Nat.le_refl _, by simp, Flat.new _ _ _ _ _ (pro_cells f)⟩
theorem epiImpl (f : Int) (w : World) (h : frB f = true) :
    Calls Tryz.prog 6 #[.int .i64 f] w fun e w' => ∃ g, e = .returned (.tuple #[.slice (some ⟨g, 0, none⟩) 3 3, .int .i64 0]) ∧ Below w.heap.size w w' ∧ w.heap.size ≤ g ∧ g < w'.heap.size ∧ Flat w' g 0 (3 * 5) (epiR f) := by
  obtain ⟨h0, h1, hw⟩ := frB_bd h
  go_enter Tryz.func6, Tryz.ntmps6
  go_wp2_with (go_at_call 8; refine (frImpl f _ hw).mono ?_; rintro e w' ⟨rfl, rfl⟩; rw [h])
  go_ret2
  exact ⟨_, rfl, grown1 _ _, Nat.le_refl _, by simp, Flat.new _ _ _ _ _ (epi_cells f)⟩
theorem proNo (f : Int) (w : World) (hw : (Lit.int .i64 f).wf = true) (h : frB f = false) :
    Calls Tryz.prog 5 #[.int .i64 f] w fun e w' => e = .returned (.tuple #[.slice none 0 0, .int .i64 17]) ∧ w' = w := by
  go_enter Tryz.func5, Tryz.ntmps5
  go_wp2_with (go_at_call 8; refine (frImpl f _ hw).mono ?_; rintro e w' ⟨rfl, rfl⟩; rw [h])
  go_ret2
  exact ⟨rfl, rfl⟩
theorem epiNo (f : Int) (w : World) (hw : (Lit.int .i64 f).wf = true) (h : frB f = false) :
    Calls Tryz.prog 6 #[.int .i64 f] w fun e w' => e = .returned (.tuple #[.slice none 0 0, .int .i64 17]) ∧ w' = w := by
  go_enter Tryz.func6, Tryz.ntmps6
  go_wp2_with (go_at_call 8; refine (frImpl f _ hw).mono ?_; rintro e w' ⟨rfl, rfl⟩; rw [h])
  go_ret2
  exact ⟨rfl, rfl⟩

theorem proSpec0 (f : Int) (w : World) (h : frB f = true) :
    Calls Tryz.prog 39 #[.int .i64 f] w fun e w' => ∃ g, e = .returned (.slice (some ⟨g, 0, none⟩) 2 2) ∧ Below w.heap.size w w' ∧ w.heap.size ≤ g ∧ g < w'.heap.size ∧ Flat w' g 0 (2 * 5) (proR f) := by
  obtain ⟨h0, h1, hw⟩ := frB_bd h
  go_enter Tryz.func39, Tryz.ntmps39
  go_wp2
  go_ret
  exact ⟨_, rfl, grown1 _ _, Nat.le_refl _, by simp, Flat.new _ _ _ _ _ (pro_cells f)⟩
theorem epiSpec0 (f : Int) (w : World) (h : frB f = true) :
    Calls Tryz.prog 41 #[.int .i64 f] w fun e w' => ∃ g, e = .returned (.slice (some ⟨g, 0, none⟩) 3 3) ∧ Below w.heap.size w w' ∧ w.heap.size ≤ g ∧ g < w'.heap.size ∧ Flat w' g 0 (3 * 5) (epiR f) := by
  obtain ⟨h0, h1, hw⟩ := frB_bd h
  go_enter Tryz.func41, Tryz.ntmps41
  go_wp2
  go_ret
  exact ⟨_, rfl, grown1 _ _, Nat.le_refl _, by simp, Flat.new _ _ _ _ _ (epi_cells f)⟩
end Go.Proofs.YtiandbhcjecphaaGreatDoor
