/- How wide loads and stores are: contracts. -/
import Derived.Test.YtmahjgaaahkakaaKndC
namespace Go.Proofs.Ytmahjgaaahkakaa
open Go.RowKit
set_option linter.unusedVariables false

def wdN (op : Int) : Int := if op = 11 then 1 else if op = 12 then 2 else if op = 13 then 4 else if op = 14 then 8 else if op = 15 then 1 else if op = 16 then 2 else if op = 17 then 4 else if op = 18 then 1 else if op = 19 then 2 else if op = 20 then 4 else if op = 21 then 8 else 0
def wdS (op : Int) : Bool := decide (11 ≤ op ∧ op ≤ 14)
theorem ret_wid {a b : Int} {x y : Bool} {c d : Int} (h : a = b) (k : x = y) (l : c = d) : Ending.returned (.tuple #[.int .i64 a, .bool x, .int .i64 c]) = .returned (.tuple #[.int .i64 b, .bool y, .int .i64 d]) := by rw [h, k, l]
theorem ret_wid2 {a b : Int} {x y : Bool} (h : a = b) (k : x = y) : Ending.returned (.tuple #[.int .i64 a, .bool x]) = .returned (.tuple #[.int .i64 b, .bool y]) := by rw [h, k]

set_option maxHeartbeats 2000000 in
theorem implWid (op : Int) (w : World) (h0 : 11 ≤ op) (h1 : op ≤ 21) :
    Calls Try.prog 31 #[.int .i64 op] w fun e w' => e = .returned (.tuple #[.int .i64 (wdN op), .bool (wdS op), .int .i64 0]) ∧ w' = w := by
  rcases (show op = 11 ∨ op = 12 ∨ op = 13 ∨ op = 14 ∨ op = 15 ∨ op = 16 ∨ op = 17 ∨ op = 18 ∨ op = 19 ∨ op = 20 ∨ op = 21 by omega) with rfl | rfl | rfl | rfl | rfl | rfl | rfl | rfl | rfl | rfl | rfl
  all_goals
    clear h0 h1
    go_enter Try.func31, Try.ntmps31
    go_wp2
    go_ret3
    exact ⟨ret_wid (by decide) (by decide) rfl, rfl⟩
set_option maxHeartbeats 2000000 in
theorem specWidIn (op : Int) (w : World) (h0 : 11 ≤ op) (h1 : op ≤ 21) :
    Calls Try.prog 52 #[.int .i64 op] w fun e w' => e = .returned (.tuple #[.int .i64 (wdN op), .bool (wdS op)]) ∧ w' = w := by
  rcases (show op = 11 ∨ op = 12 ∨ op = 13 ∨ op = 14 ∨ op = 15 ∨ op = 16 ∨ op = 17 ∨ op = 18 ∨ op = 19 ∨ op = 20 ∨ op = 21 by omega) with rfl | rfl | rfl | rfl | rfl | rfl | rfl | rfl | rfl | rfl | rfl
  all_goals
    clear h0 h1
    go_enter Try.func52, Try.ntmps52
    go_wp2
    go_ret2
    exact ⟨ret_wid2 (by decide) (by decide), rfl⟩
set_option maxHeartbeats 2000000 in
theorem specWidOut (op : Int) (w : World) (h : op < 11 ∨ 21 < op) :
    Calls Try.prog 52 #[.int .i64 op] w fun e w' => e = .returned (.tuple #[.int .i64 0, .bool false]) ∧ w' = w := by
  have b11 : (op == 11) = false := beq_eq_false_iff_ne.2 (by omega)
  have b12 : (op == 12) = false := beq_eq_false_iff_ne.2 (by omega)
  have b13 : (op == 13) = false := beq_eq_false_iff_ne.2 (by omega)
  have b14 : (op == 14) = false := beq_eq_false_iff_ne.2 (by omega)
  have b15 : (op == 15) = false := beq_eq_false_iff_ne.2 (by omega)
  have b16 : (op == 16) = false := beq_eq_false_iff_ne.2 (by omega)
  have b17 : (op == 17) = false := beq_eq_false_iff_ne.2 (by omega)
  have b18 : (op == 18) = false := beq_eq_false_iff_ne.2 (by omega)
  have b19 : (op == 19) = false := beq_eq_false_iff_ne.2 (by omega)
  have b20 : (op == 20) = false := beq_eq_false_iff_ne.2 (by omega)
  have b21 : (op == 21) = false := beq_eq_false_iff_ne.2 (by omega)
  clear h
  go_enter Try.func52, Try.ntmps52
  go_wp2
  go_ret2
  exact ⟨rfl, rfl⟩
theorem wdN_bd (op : Int) (h0 : 11 ≤ op) (h1 : op ≤ 21) : 1 ≤ wdN op ∧ wdN op ≤ 8 := by
  rcases (show op = 11 ∨ op = 12 ∨ op = 13 ∨ op = 14 ∨ op = 15 ∨ op = 16 ∨ op = 17 ∨ op = 18 ∨ op = 19 ∨ op = 20 ∨ op = 21 by omega) with rfl | rfl | rfl | rfl | rfl | rfl | rfl | rfl | rfl | rfl | rfl <;> decide

/-- What both answer: number, sign, code. -/
def wdR (op : Int) : Int × Bool × Int := if op < 1 ∨ 64 < op then (0, false, 4) else if op < 11 ∨ 21 < op then (0, false, 26) else (wdN op, wdS op, 0)

theorem specWidth (op : Int) (w : World) :
    Calls Try.prog 30 #[.int .i64 op] w fun e w' => e = .returned (.tuple #[.int .i64 (wdR op).1, .bool (wdR op).2.1, .int .i64 (wdR op).2.2]) ∧ w' = w := by
  unfold wdR
  by_cases h : op < 1 ∨ 64 < op
  · rw [if_pos h]
    go_enter Try.func30, Try.ntmps30
    go_wp2_with fail
    refine (opNo op w h).mono ?_
    rintro e w2 ⟨rfl, rfl⟩
    clear h
    go_wp2
    go_ret3
    exact ⟨rfl, rfl⟩
  · rw [if_neg h]
    by_cases h2 : op < 11 ∨ 21 < op
    · rw [if_pos h2]
      go_enter Try.func30, Try.ntmps30
      go_wp2_with fail
      refine (opYes op w (by omega) (by omega)).mono ?_
      rintro e w2 ⟨rfl, rfl⟩
      go_wp2_with fail
      refine (specWidOut op _ h2).mono ?_
      rintro e w2 ⟨rfl, rfl⟩
      clear h h2
      go_wp2
      go_ret3
      exact ⟨rfl, rfl⟩
    · rw [if_neg h2]
      have h3 : 11 ≤ op := by omega
      have h4 : op ≤ 21 := by omega
      have hb := wdN_bd op h3 h4
      generalize hn : wdN op = n at *
      have Hn : Hid (wdN op = n) := hn
      have hz : (n == 0) = false := beq_eq_false_iff_ne.2 (by omega)
      clear hn h h2
      go_enter Try.func30, Try.ntmps30
      go_wp2_with fail
      refine (opYes op w (by omega) (by omega)).mono ?_
      rintro e w2 ⟨rfl, rfl⟩
      go_wp2_with fail
      refine (specWidIn op _ h3 h4).mono ?_
      rintro e w2 ⟨rfl, rfl⟩
      rw [Hn.out]
      go_wp2
      go_ret3
      exact ⟨rfl, rfl⟩
theorem implWidth (op : Int) (w : World) :
    Calls Try.prog 31 #[.int .i64 op] w fun e w' => e = .returned (.tuple #[.int .i64 (wdR op).1, .bool (wdR op).2.1, .int .i64 (wdR op).2.2]) ∧ w' = w := by
  unfold wdR
  by_cases h : op < 1 ∨ 64 < op
  · rw [if_pos h]
    go_enter Try.func31, Try.ntmps31
    go_wp2_with fail
    refine (kindRange op 11 21 w h).mono ?_
    rintro e w2 ⟨rfl, rfl⟩
    clear h
    go_wp2
    go_ret3
    exact ⟨rfl, rfl⟩
  · rw [if_neg h]
    by_cases h2 : op < 11 ∨ 21 < op
    · rw [if_pos h2]
      go_enter Try.func31, Try.ntmps31
      go_wp2_with fail
      refine (kindKind op 11 21 w (by omega) (by omega) h2).mono ?_
      rintro e w2 ⟨rfl, rfl⟩
      clear h h2
      go_wp2
      go_ret3
      exact ⟨rfl, rfl⟩
    · rw [if_neg h2]
      exact implWid op w (by omega) (by omega)
end Go.Proofs.Ytmahjgaaahkakaa
