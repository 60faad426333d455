/- An entry that may stand in a table: of the program and of the model (gen_tbl.py). -/
import Derived.Test.YtelogjpjglohoaaNameOK
import Derived.Test.YtelogjpjglohoaaFrmC
import Derived.Test.YtelogjpjglohoaaPlcC
import Derived.Test.YtelogjpjglohoaaEntL
import Derived.Deep.RegionHeld3
namespace Go.Proofs.Ytelogjpjglohoaa
open Go Go.RowKit
set_option linter.unusedVariables false

def kindB (kd fr : Int) : Bool := decide ((kd = 1 ∧ frB fr = true) ∨ (kd = 2 ∧ fr = 0))
def ent6 (nm : ByteArray) (kd pl sz fr ow : Int) : Bool := decide (nameB nm = true ∧ kindB kd fr = true ∧ 0 ≤ pl ∧ pl ≤ 1048575 ∧ pl % 4 = 0 ∧ 1 ≤ sz ∧ sz ≤ 1024 ∧ 0 ≤ ow ∧ ow ≤ 6)
def entB (d : EntD) : Bool := ent6 d.nm d.kd d.pl d.sz d.fr d.ow
theorem ent6_no {nm : ByteArray} {kd pl sz fr ow : Int} (h : ¬ (nameB nm = true ∧ kindB kd fr = true ∧ 0 ≤ pl ∧ pl ≤ 1048575 ∧ pl % 4 = 0 ∧ 1 ≤ sz ∧ sz ≤ 1024 ∧ 0 ≤ ow ∧ ow ≤ 6)) : ent6 nm kd pl sz fr ow = false := by unfold ent6; exact decide_eq_false h
theorem ent6_yes {nm : ByteArray} {kd pl sz fr ow : Int} (h : nameB nm = true ∧ kindB kd fr = true ∧ 0 ≤ pl ∧ pl ≤ 1048575 ∧ pl % 4 = 0 ∧ 1 ≤ sz ∧ sz ≤ 1024 ∧ 0 ≤ ow ∧ ow ≤ 6) : ent6 nm kd pl sz fr ow = true := by unfold ent6; exact decide_eq_true h
theorem ent6_is {nm : ByteArray} {kd pl sz fr ow : Int} (h : ent6 nm kd pl sz fr ow = true) : nameB nm = true ∧ kindB kd fr = true ∧ 0 ≤ pl ∧ pl ≤ 1048575 ∧ pl % 4 = 0 ∧ 1 ≤ sz ∧ sz ≤ 1024 ∧ 0 ≤ ow ∧ ow ≤ 6 := by unfold ent6 at h; exact of_decide_eq_true h
theorem kindB_1 {fr : Int} : kindB 1 fr = frB fr := by unfold kindB; cases frB fr <;> simp
theorem kindB_2 {fr : Int} : kindB 2 fr = decide (fr = 0) := by unfold kindB; simp
theorem kindB_no {kd fr : Int} (h1 : ¬ kd = 1) (h2 : ¬ kd = 2) : kindB kd fr = false := by unfold kindB; simp [h1, h2]

set_option maxRecDepth 100000 in
set_option maxHeartbeats 2000000 in
theorem hasFrameC (nm : ByteArray) (kd pl sz fr ow : Int) (w : World) (hf : (Lit.int .i64 fr).wf = true) :
    Calls Try.prog 52 #[.agg #[.string nm, .int .i64 kd, .int .i64 pl, .int .i64 sz, .int .i64 fr, .int .i64 ow]] w fun e w' => e = .returned (.bool (kindB kd fr)) ∧ Below w.heap.size w w' := by
  by_cases h1 : kd = 1
  · subst h1
    rw [kindB_1]
    go_enter Try.func52, Try.ntmps52
    go_wp2_with fail
    refine (frImpl fr _ hf).mono ?_
    rintro e w' ⟨rfl, rfl⟩
    go_wp2_with fail
    go_ret
    exact ⟨rfl, by first | exact Below.refl _ _ | exact grown1' _ _ | exact (grown1' _ _).alloc (by simp) _ | exact ((grown1' _ _).alloc (by simp) _).alloc (by simp; omega) _ | exact (((grown1' _ _).alloc (by simp) _).alloc (by simp; omega) _).alloc (by simp; omega) _⟩
  by_cases h2 : kd = 2
  · subst h2
    rw [kindB_2]
    by_cases h3 : fr = 0
    · subst h3
      go_enter Try.func52, Try.ntmps52
      go_wp2_with fail
      go_ret
      exact ⟨ret_bool (by first | rfl | (simp; done) | (simp; omega) | omega | (simp [*]; done)), by first | exact Below.refl _ _ | exact grown1' _ _ | exact (grown1' _ _).alloc (by simp) _ | exact ((grown1' _ _).alloc (by simp) _).alloc (by simp; omega) _ | exact (((grown1' _ _).alloc (by simp) _).alloc (by simp; omega) _).alloc (by simp; omega) _⟩
    · rw [decide_eq_false h3]
      go_enter Try.func52, Try.ntmps52
      go_wp2_with fail
      go_ret
      exact ⟨ret_bool (by first | rfl | (simp; done) | (simp; omega) | omega | (simp [*]; done)), by first | exact Below.refl _ _ | exact grown1' _ _ | exact (grown1' _ _).alloc (by simp) _ | exact ((grown1' _ _).alloc (by simp) _).alloc (by simp; omega) _ | exact (((grown1' _ _).alloc (by simp) _).alloc (by simp; omega) _).alloc (by simp; omega) _⟩
  · rw [kindB_no h1 h2]
    go_enter Try.func52, Try.ntmps52
    go_wp2_with fail
    go_ret
    exact ⟨rfl, by first | exact Below.refl _ _ | exact grown1' _ _ | exact (grown1' _ _).alloc (by simp) _ | exact ((grown1' _ _).alloc (by simp) _).alloc (by simp; omega) _ | exact (((grown1' _ _).alloc (by simp) _).alloc (by simp; omega) _).alloc (by simp; omega) _⟩

set_option maxRecDepth 100000 in
set_option maxHeartbeats 4000000 in
theorem entSpec (nm : ByteArray) (kd pl sz fr ow : Int) (w : World) (hs : nm.size ≤ maxLen) (wp : (Lit.int .i64 pl).wf = true) (hf : (Lit.int .i64 fr).wf = true) :
    Calls Try.prog 28 #[.agg #[.string nm, .int .i64 kd, .int .i64 pl, .int .i64 sz, .int .i64 fr, .int .i64 ow]] w fun e w' => e = .returned (.bool (ent6 nm kd pl sz fr ow)) ∧ Below w.heap.size w w' := by
  cases hn : nameB nm with
  | false =>
    rw [ent6_no (by rw [hn]; simp)]
    go_enter Try.func28, Try.ntmps28
    go_wp2_with (first | (go_at_call 49; (with_reducible refine (specWord_any nm _ hs).mono ?_); rintro e w' ⟨rfl, rfl⟩; rw [hn]))
    go_ret
    exact ⟨ret_bool (by first | rfl | (simp; done) | (simp; omega) | omega | (simp [*]; done)), by first | exact Below.refl _ _ | exact grown1' _ _ | exact (grown1' _ _).alloc (by simp) _ | exact ((grown1' _ _).alloc (by simp) _).alloc (by simp; omega) _ | exact (((grown1' _ _).alloc (by simp) _).alloc (by simp; omega) _).alloc (by simp; omega) _⟩
  | true =>
  by_cases h1 : 0 ≤ pl ∧ pl ≤ 1048575
  rotate_left
  · rw [ent6_no (by omega)]
    go_enter Try.func28, Try.ntmps28
    go_wp2_with (first | (go_at_call 49; (with_reducible refine (specWord_any nm _ hs).mono ?_); rintro e w' ⟨rfl, rfl⟩; rw [hn]) | (go_at_call 25; (with_reducible refine (spIn pl 0 1048575 _ false (.inr ⟨rfl, by omega⟩)).mono ?_); rintro e w' ⟨rfl, rfl⟩))
    go_ret
    exact ⟨ret_bool (by first | rfl | (simp; done) | (simp; omega) | omega | (simp [*]; done)), by first | exact Below.refl _ _ | exact grown1' _ _ | exact (grown1' _ _).alloc (by simp) _ | exact ((grown1' _ _).alloc (by simp) _).alloc (by simp; omega) _ | exact (((grown1' _ _).alloc (by simp) _).alloc (by simp; omega) _).alloc (by simp; omega) _⟩
  obtain ⟨h1a, h1b⟩ := h1
  have m0 : pl.tmod 4 = pl % 4 := Int.tmod_eq_emod_of_nonneg (by omega)
  by_cases h2 : pl % 4 = 0
  rotate_left
  · rw [ent6_no (by omega)]
    go_enter Try.func28, Try.ntmps28
    go_wp2_with (first | (go_at_call 49; (with_reducible refine (specWord_any nm _ hs).mono ?_); rintro e w' ⟨rfl, rfl⟩; rw [hn]) | (go_at_call 25; (with_reducible refine (spIn pl 0 1048575 _ true (.inl ⟨rfl, by omega, by omega⟩)).mono ?_); rintro e w' ⟨rfl, rfl⟩))
    go_ret
    exact ⟨ret_bool (by first | rfl | (simp; done) | (simp; omega) | omega | (simp [*]; done)), by first | exact Below.refl _ _ | exact grown1' _ _ | exact (grown1' _ _).alloc (by simp) _ | exact ((grown1' _ _).alloc (by simp) _).alloc (by simp; omega) _ | exact (((grown1' _ _).alloc (by simp) _).alloc (by simp; omega) _).alloc (by simp; omega) _⟩
  by_cases h3 : 1 ≤ sz ∧ sz ≤ 1024
  rotate_left
  · rw [ent6_no (by omega)]
    go_enter Try.func28, Try.ntmps28
    go_wp2_with (first | (go_at_call 49; (with_reducible refine (specWord_any nm _ hs).mono ?_); rintro e w' ⟨rfl, rfl⟩; rw [hn]) | (go_at_call 25; (with_reducible refine (spIn pl 0 1048575 _ true (.inl ⟨rfl, by omega, by omega⟩)).mono ?_); rintro e w' ⟨rfl, rfl⟩) | (go_at_call 25; (with_reducible refine (spIn sz 1 1024 _ false (.inr ⟨rfl, by omega⟩)).mono ?_); rintro e w' ⟨rfl, rfl⟩))
    go_ret
    exact ⟨ret_bool (by first | rfl | (simp; done) | (simp; omega) | omega | (simp [*]; done)), by first | exact Below.refl _ _ | exact grown1' _ _ | exact (grown1' _ _).alloc (by simp) _ | exact ((grown1' _ _).alloc (by simp) _).alloc (by simp; omega) _ | exact (((grown1' _ _).alloc (by simp) _).alloc (by simp; omega) _).alloc (by simp; omega) _⟩
  obtain ⟨h3a, h3b⟩ := h3
  by_cases h4 : 0 ≤ ow ∧ ow ≤ 6
  rotate_left
  · rw [ent6_no (by omega)]
    go_enter Try.func28, Try.ntmps28
    go_wp2_with (first | (go_at_call 49; (with_reducible refine (specWord_any nm _ hs).mono ?_); rintro e w' ⟨rfl, rfl⟩; rw [hn]) | (go_at_call 25; (with_reducible refine (spIn pl 0 1048575 _ true (.inl ⟨rfl, by omega, by omega⟩)).mono ?_); rintro e w' ⟨rfl, rfl⟩) | (go_at_call 25; (with_reducible refine (spIn sz 1 1024 _ true (.inl ⟨rfl, by omega, by omega⟩)).mono ?_); rintro e w' ⟨rfl, rfl⟩) | (go_at_call 25; (with_reducible refine (spIn ow 0 6 _ false (.inr ⟨rfl, by omega⟩)).mono ?_); rintro e w' ⟨rfl, rfl⟩))
    go_ret
    exact ⟨ret_bool (by first | rfl | (simp; done) | (simp; omega) | omega | (simp [*]; done)), by first | exact Below.refl _ _ | exact grown1' _ _ | exact (grown1' _ _).alloc (by simp) _ | exact ((grown1' _ _).alloc (by simp) _).alloc (by simp; omega) _ | exact (((grown1' _ _).alloc (by simp) _).alloc (by simp; omega) _).alloc (by simp; omega) _⟩
  obtain ⟨h4a, h4b⟩ := h4
  by_cases k1 : kd = 1
  · subst k1
    cases hq : frB fr with
    | true =>
      rw [ent6_yes ⟨hn, by rw [kindB_1]; exact hq, h1a, h1b, h2, h3a, h3b, h4a, h4b⟩]
      go_enter Try.func28, Try.ntmps28
      go_wp2_with (first | (go_at_call 49; (with_reducible refine (specWord_any nm _ hs).mono ?_); rintro e w' ⟨rfl, rfl⟩; rw [hn]) | (go_at_call 25; (with_reducible refine (spIn pl 0 1048575 _ true (.inl ⟨rfl, by omega, by omega⟩)).mono ?_); rintro e w' ⟨rfl, rfl⟩) | (go_at_call 25; (with_reducible refine (spIn sz 1 1024 _ true (.inl ⟨rfl, by omega, by omega⟩)).mono ?_); rintro e w' ⟨rfl, rfl⟩) | (go_at_call 25; (with_reducible refine (spIn ow 0 6 _ true (.inl ⟨rfl, by omega, by omega⟩)).mono ?_); rintro e w' ⟨rfl, rfl⟩) | (go_at_call 50; (with_reducible refine (frSpec fr _ hf).mono ?_); rintro e w' ⟨rfl, rfl⟩; rw [hq]))
      go_ret
      exact ⟨ret_bool (by first | rfl | (simp; done) | (simp; omega) | omega | (simp [*]; done)), by first | exact Below.refl _ _ | exact grown1' _ _ | exact (grown1' _ _).alloc (by simp) _ | exact ((grown1' _ _).alloc (by simp) _).alloc (by simp; omega) _ | exact (((grown1' _ _).alloc (by simp) _).alloc (by simp; omega) _).alloc (by simp; omega) _⟩
    | false =>
      rw [ent6_no (by rw [kindB_1, hq]; simp)]
      go_enter Try.func28, Try.ntmps28
      go_wp2_with (first | (go_at_call 49; (with_reducible refine (specWord_any nm _ hs).mono ?_); rintro e w' ⟨rfl, rfl⟩; rw [hn]) | (go_at_call 25; (with_reducible refine (spIn pl 0 1048575 _ true (.inl ⟨rfl, by omega, by omega⟩)).mono ?_); rintro e w' ⟨rfl, rfl⟩) | (go_at_call 25; (with_reducible refine (spIn sz 1 1024 _ true (.inl ⟨rfl, by omega, by omega⟩)).mono ?_); rintro e w' ⟨rfl, rfl⟩) | (go_at_call 25; (with_reducible refine (spIn ow 0 6 _ true (.inl ⟨rfl, by omega, by omega⟩)).mono ?_); rintro e w' ⟨rfl, rfl⟩) | (go_at_call 50; (with_reducible refine (frSpec fr _ hf).mono ?_); rintro e w' ⟨rfl, rfl⟩; rw [hq]))
      go_ret
      exact ⟨ret_bool (by first | rfl | (simp; done) | (simp; omega) | omega | (simp [*]; done)), by first | exact Below.refl _ _ | exact grown1' _ _ | exact (grown1' _ _).alloc (by simp) _ | exact ((grown1' _ _).alloc (by simp) _).alloc (by simp; omega) _ | exact (((grown1' _ _).alloc (by simp) _).alloc (by simp; omega) _).alloc (by simp; omega) _⟩
  by_cases k2 : kd = 2
  · subst k2
    by_cases h5 : fr = 0
    · subst h5
      rw [ent6_yes ⟨hn, by rw [kindB_2]; simp, h1a, h1b, h2, h3a, h3b, h4a, h4b⟩]
      go_enter Try.func28, Try.ntmps28
      go_wp2_with (first | (go_at_call 49; (with_reducible refine (specWord_any nm _ hs).mono ?_); rintro e w' ⟨rfl, rfl⟩; rw [hn]) | (go_at_call 25; (with_reducible refine (spIn pl 0 1048575 _ true (.inl ⟨rfl, by omega, by omega⟩)).mono ?_); rintro e w' ⟨rfl, rfl⟩) | (go_at_call 25; (with_reducible refine (spIn sz 1 1024 _ true (.inl ⟨rfl, by omega, by omega⟩)).mono ?_); rintro e w' ⟨rfl, rfl⟩) | (go_at_call 25; (with_reducible refine (spIn ow 0 6 _ true (.inl ⟨rfl, by omega, by omega⟩)).mono ?_); rintro e w' ⟨rfl, rfl⟩))
      go_ret
      exact ⟨ret_bool (by first | rfl | (simp; done) | (simp; omega) | omega | (simp [*]; done)), by first | exact Below.refl _ _ | exact grown1' _ _ | exact (grown1' _ _).alloc (by simp) _ | exact ((grown1' _ _).alloc (by simp) _).alloc (by simp; omega) _ | exact (((grown1' _ _).alloc (by simp) _).alloc (by simp; omega) _).alloc (by simp; omega) _⟩
    · rw [ent6_no (by rw [kindB_2, decide_eq_false h5]; simp)]
      go_enter Try.func28, Try.ntmps28
      go_wp2_with (first | (go_at_call 49; (with_reducible refine (specWord_any nm _ hs).mono ?_); rintro e w' ⟨rfl, rfl⟩; rw [hn]) | (go_at_call 25; (with_reducible refine (spIn pl 0 1048575 _ true (.inl ⟨rfl, by omega, by omega⟩)).mono ?_); rintro e w' ⟨rfl, rfl⟩) | (go_at_call 25; (with_reducible refine (spIn sz 1 1024 _ true (.inl ⟨rfl, by omega, by omega⟩)).mono ?_); rintro e w' ⟨rfl, rfl⟩) | (go_at_call 25; (with_reducible refine (spIn ow 0 6 _ true (.inl ⟨rfl, by omega, by omega⟩)).mono ?_); rintro e w' ⟨rfl, rfl⟩))
      go_ret
      exact ⟨ret_bool (by first | rfl | (simp; done) | (simp; omega) | omega | (simp [*]; done)), by first | exact Below.refl _ _ | exact grown1' _ _ | exact (grown1' _ _).alloc (by simp) _ | exact ((grown1' _ _).alloc (by simp) _).alloc (by simp; omega) _ | exact (((grown1' _ _).alloc (by simp) _).alloc (by simp; omega) _).alloc (by simp; omega) _⟩
  · rw [ent6_no (by rw [kindB_no k1 k2]; simp)]
    go_enter Try.func28, Try.ntmps28
    go_wp2_with (first | (go_at_call 49; (with_reducible refine (specWord_any nm _ hs).mono ?_); rintro e w' ⟨rfl, rfl⟩; rw [hn]) | (go_at_call 25; (with_reducible refine (spIn pl 0 1048575 _ true (.inl ⟨rfl, by omega, by omega⟩)).mono ?_); rintro e w' ⟨rfl, rfl⟩) | (go_at_call 25; (with_reducible refine (spIn sz 1 1024 _ true (.inl ⟨rfl, by omega, by omega⟩)).mono ?_); rintro e w' ⟨rfl, rfl⟩) | (go_at_call 25; (with_reducible refine (spIn ow 0 6 _ true (.inl ⟨rfl, by omega, by omega⟩)).mono ?_); rintro e w' ⟨rfl, rfl⟩))
    go_ret
    exact ⟨ret_bool (by first | rfl | (simp; done) | (simp; omega) | omega | (simp [*]; done)), by first | exact Below.refl _ _ | exact grown1' _ _ | exact (grown1' _ _).alloc (by simp) _ | exact ((grown1' _ _).alloc (by simp) _).alloc (by simp; omega) _ | exact (((grown1' _ _).alloc (by simp) _).alloc (by simp; omega) _).alloc (by simp; omega) _⟩

set_option maxRecDepth 100000 in
set_option maxHeartbeats 4000000 in
theorem entImpl (nm : ByteArray) (kd pl sz fr ow : Int) (w : World) (hs : nm.size ≤ maxLen) (wp : (Lit.int .i64 pl).wf = true) (hf : (Lit.int .i64 fr).wf = true) :
    Calls Try.prog 31 #[.agg #[.string nm, .int .i64 kd, .int .i64 pl, .int .i64 sz, .int .i64 fr, .int .i64 ow]] w fun e w' => e = .returned (.bool (ent6 nm kd pl sz fr ow)) ∧ Below w.heap.size w w' := by
  have bA := grown1' w (.cells #[.string nm, .int .i64 kd, .int .i64 pl, .int .i64 sz, .int .i64 fr, .int .i64 ow] 55)
  have c0 : (w.alloc (.cells #[.string nm, .int .i64 kd, .int .i64 pl, .int .i64 sz, .int .i64 fr, .int .i64 ow] 55)).cell? ⟨w.heap.size, 0, none⟩ = some (.string nm) := by simp
  have c1 : (w.alloc (.cells #[.string nm, .int .i64 kd, .int .i64 pl, .int .i64 sz, .int .i64 fr, .int .i64 ow] 55)).cell? ⟨w.heap.size, 1, none⟩ = some (.int .i64 kd) := by simp
  have c2 : (w.alloc (.cells #[.string nm, .int .i64 kd, .int .i64 pl, .int .i64 sz, .int .i64 fr, .int .i64 ow] 55)).cell? ⟨w.heap.size, 2, none⟩ = some (.int .i64 pl) := by simp
  have c3 : (w.alloc (.cells #[.string nm, .int .i64 kd, .int .i64 pl, .int .i64 sz, .int .i64 fr, .int .i64 ow] 55)).cell? ⟨w.heap.size, 3, none⟩ = some (.int .i64 sz) := by simp
  have c4 : (w.alloc (.cells #[.string nm, .int .i64 kd, .int .i64 pl, .int .i64 sz, .int .i64 fr, .int .i64 ow] 55)).cell? ⟨w.heap.size, 4, none⟩ = some (.int .i64 fr) := by simp
  have c5 : (w.alloc (.cells #[.string nm, .int .i64 kd, .int .i64 pl, .int .i64 sz, .int .i64 fr, .int .i64 ow] 55)).cell? ⟨w.heap.size, 5, none⟩ = some (.int .i64 ow) := by simp
  have hl0 : w.heap.size < (w.alloc (.cells #[.string nm, .int .i64 kd, .int .i64 pl, .int .i64 sz, .int .i64 fr, .int .i64 ow] 55)).heap.size := by simp
  cases hn : nameB nm with
  | false =>
    rw [ent6_no (by rw [hn]; simp)]
    go_enter Try.func31, Try.ntmps31
    go_wp2_with (first | (go_at_call 51; (with_reducible refine (implName_any nm _ hs).mono ?_); rintro e w' ⟨rfl, rfl⟩; rw [hn]))
    go_ret
    exact ⟨ret_bool (by first | rfl | (simp; done) | (simp; omega) | omega | (simp [*]; done)), bA⟩
  | true =>
  cases hk : kindB kd fr with
  | false =>
    rw [ent6_no (by rw [hk]; simp)]
    go_enter Try.func31, Try.ntmps31
    go_wp2_with (first | (go_at_call 51; (with_reducible refine (implName_any nm _ hs).mono ?_); rintro e w' ⟨rfl, rfl⟩; rw [hn]) | (go_at_call 52; (with_reducible refine (hasFrameC nm kd pl sz fr ow _ hf).mono ?_); rintro e w2 ⟨rfl, hb⟩; rw [hk]; have d2 := (hb.cell (p := ⟨w.heap.size, 2, none⟩) hl0).trans c2; have d3 := (hb.cell (p := ⟨w.heap.size, 3, none⟩) hl0).trans c3; have d5 := (hb.cell (p := ⟨w.heap.size, 5, none⟩) hl0).trans c5; have B2 := bA.trans (hb.mono bA.size); clear hb c0 c1 c2 c3 c4 c5))
    go_ret
    exact ⟨ret_bool (by first | rfl | (simp; done) | (simp; omega) | omega | (simp [*]; done)), B2⟩
  | true =>
  cases hp : plB pl with
  | false =>
    rw [ent6_no (by intro h; have : plB pl = true := by unfold plB; exact decide_eq_true ⟨h.2.2.1, h.2.2.2.1, h.2.2.2.2.1⟩
                    rw [hp] at this; cases this)]
    go_enter Try.func31, Try.ntmps31
    go_wp2_with (first | (go_at_call 51; (with_reducible refine (implName_any nm _ hs).mono ?_); rintro e w' ⟨rfl, rfl⟩; rw [hn]) | (go_at_call 52; (with_reducible refine (hasFrameC nm kd pl sz fr ow _ hf).mono ?_); rintro e w2 ⟨rfl, hb⟩; rw [hk]; have d2 := (hb.cell (p := ⟨w.heap.size, 2, none⟩) hl0).trans c2; have d3 := (hb.cell (p := ⟨w.heap.size, 3, none⟩) hl0).trans c3; have d5 := (hb.cell (p := ⟨w.heap.size, 5, none⟩) hl0).trans c5; have B2 := bA.trans (hb.mono bA.size); clear hb c0 c1 c2 c3 c4 c5) | (go_at_call 53; (with_reducible refine (placeC pl _ wp).mono ?_); rintro e w' ⟨rfl, rfl⟩; rw [hp]))
    go_ret
    exact ⟨ret_bool (by first | rfl | (simp; done) | (simp; omega) | omega | (simp [*]; done)), B2⟩
  | true =>
  have hp3 : 0 ≤ pl ∧ pl ≤ 1048575 ∧ pl % 4 = 0 := by unfold plB at hp; exact of_decide_eq_true hp
  by_cases g0 : 1 ≤ sz
  rotate_left
  · rw [ent6_no (by omega)]
    clear hp3
    go_enter Try.func31, Try.ntmps31
    go_wp2_with (first | (go_at_call 51; (with_reducible refine (implName_any nm _ hs).mono ?_); rintro e w' ⟨rfl, rfl⟩; rw [hn]) | (go_at_call 52; (with_reducible refine (hasFrameC nm kd pl sz fr ow _ hf).mono ?_); rintro e w2 ⟨rfl, hb⟩; rw [hk]; have d2 := (hb.cell (p := ⟨w.heap.size, 2, none⟩) hl0).trans c2; have d3 := (hb.cell (p := ⟨w.heap.size, 3, none⟩) hl0).trans c3; have d5 := (hb.cell (p := ⟨w.heap.size, 5, none⟩) hl0).trans c5; have B2 := bA.trans (hb.mono bA.size); clear hb c0 c1 c2 c3 c4 c5) | (go_at_call 53; (with_reducible refine (placeC pl _ wp).mono ?_); rintro e w' ⟨rfl, rfl⟩; rw [hp]))
    go_ret
    exact ⟨ret_bool (by first | rfl | (simp; done) | (simp; omega) | omega | (simp [*]; done)), B2⟩
  by_cases g1 : sz ≤ 1024
  rotate_left
  · rw [ent6_no (by omega)]
    clear hp3
    go_enter Try.func31, Try.ntmps31
    go_wp2_with (first | (go_at_call 51; (with_reducible refine (implName_any nm _ hs).mono ?_); rintro e w' ⟨rfl, rfl⟩; rw [hn]) | (go_at_call 52; (with_reducible refine (hasFrameC nm kd pl sz fr ow _ hf).mono ?_); rintro e w2 ⟨rfl, hb⟩; rw [hk]; have d2 := (hb.cell (p := ⟨w.heap.size, 2, none⟩) hl0).trans c2; have d3 := (hb.cell (p := ⟨w.heap.size, 3, none⟩) hl0).trans c3; have d5 := (hb.cell (p := ⟨w.heap.size, 5, none⟩) hl0).trans c5; have B2 := bA.trans (hb.mono bA.size); clear hb c0 c1 c2 c3 c4 c5) | (go_at_call 53; (with_reducible refine (placeC pl _ wp).mono ?_); rintro e w' ⟨rfl, rfl⟩; rw [hp]))
    go_ret
    exact ⟨ret_bool (by first | rfl | (simp; done) | (simp; omega) | omega | (simp [*]; done)), B2⟩
  by_cases g2 : 0 ≤ ow
  rotate_left
  · rw [ent6_no (by omega)]
    clear hp3
    go_enter Try.func31, Try.ntmps31
    go_wp2_with (first | (go_at_call 51; (with_reducible refine (implName_any nm _ hs).mono ?_); rintro e w' ⟨rfl, rfl⟩; rw [hn]) | (go_at_call 52; (with_reducible refine (hasFrameC nm kd pl sz fr ow _ hf).mono ?_); rintro e w2 ⟨rfl, hb⟩; rw [hk]; have d2 := (hb.cell (p := ⟨w.heap.size, 2, none⟩) hl0).trans c2; have d3 := (hb.cell (p := ⟨w.heap.size, 3, none⟩) hl0).trans c3; have d5 := (hb.cell (p := ⟨w.heap.size, 5, none⟩) hl0).trans c5; have B2 := bA.trans (hb.mono bA.size); clear hb c0 c1 c2 c3 c4 c5) | (go_at_call 53; (with_reducible refine (placeC pl _ wp).mono ?_); rintro e w' ⟨rfl, rfl⟩; rw [hp]))
    go_ret
    exact ⟨ret_bool (by first | rfl | (simp; done) | (simp; omega) | omega | (simp [*]; done)), B2⟩
  by_cases g3 : ow ≤ 6
  rotate_left
  · rw [ent6_no (by omega)]
    clear hp3
    go_enter Try.func31, Try.ntmps31
    go_wp2_with (first | (go_at_call 51; (with_reducible refine (implName_any nm _ hs).mono ?_); rintro e w' ⟨rfl, rfl⟩; rw [hn]) | (go_at_call 52; (with_reducible refine (hasFrameC nm kd pl sz fr ow _ hf).mono ?_); rintro e w2 ⟨rfl, hb⟩; rw [hk]; have d2 := (hb.cell (p := ⟨w.heap.size, 2, none⟩) hl0).trans c2; have d3 := (hb.cell (p := ⟨w.heap.size, 3, none⟩) hl0).trans c3; have d5 := (hb.cell (p := ⟨w.heap.size, 5, none⟩) hl0).trans c5; have B2 := bA.trans (hb.mono bA.size); clear hb c0 c1 c2 c3 c4 c5) | (go_at_call 53; (with_reducible refine (placeC pl _ wp).mono ?_); rintro e w' ⟨rfl, rfl⟩; rw [hp]))
    go_ret
    exact ⟨ret_bool (by first | rfl | (simp; done) | (simp; omega) | omega | (simp [*]; done)), B2⟩
  rw [ent6_yes ⟨hn, hk, hp3.1, hp3.2.1, hp3.2.2, g0, g1, g2, g3⟩]
  clear hp3
  go_enter Try.func31, Try.ntmps31
  go_wp2_with (first | (go_at_call 51; (with_reducible refine (implName_any nm _ hs).mono ?_); rintro e w' ⟨rfl, rfl⟩; rw [hn]) | (go_at_call 52; (with_reducible refine (hasFrameC nm kd pl sz fr ow _ hf).mono ?_); rintro e w2 ⟨rfl, hb⟩; rw [hk]; have d2 := (hb.cell (p := ⟨w.heap.size, 2, none⟩) hl0).trans c2; have d3 := (hb.cell (p := ⟨w.heap.size, 3, none⟩) hl0).trans c3; have d5 := (hb.cell (p := ⟨w.heap.size, 5, none⟩) hl0).trans c5; have B2 := bA.trans (hb.mono bA.size); clear hb c0 c1 c2 c3 c4 c5) | (go_at_call 53; (with_reducible refine (placeC pl _ wp).mono ?_); rintro e w' ⟨rfl, rfl⟩; rw [hp]))
  go_ret
  exact ⟨ret_bool (by first | rfl | (simp; done) | (simp; omega) | omega | (simp [*]; done)), B2⟩
end Go.Proofs.Ytelogjpjglohoaa
