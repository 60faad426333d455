/- Frames, prologues, epilogues: of the program and of the model. -/
import Derived.Test.YtdcjddiigipdmaaInL
import Derived.Test.YtdcjddiigipdmaaBlkP
import Derived.Test.YtdcjddiigipdmaaSpIn
import Derived.Test.YtdcjddiigipdmaaIn64
namespace Go.Proofs.Ytdcjddiigipdmaa
open Go Go.RowKit
set_option linter.unusedVariables false

def frB (f : Int) : Bool := decide (16 ≤ f ∧ f ≤ 128 ∧ f % 16 = 0)

theorem frImpl (f : Int) (w : World) (hw : (Lit.int .i64 f).wf = true) :
    Calls Try.prog 83 #[.int .i64 f] w fun e w' => e = .returned (.bool (frB f)) ∧ w' = w := by
  by_cases h0 : 16 ≤ f
  · by_cases h1 : f ≤ 128
    · by_cases h2 : f % 16 = 0
      · have e : frB f = true := by simp [frB, h0, h1, h2]
        rw [e]
        go_enter Try.func83, Try.ntmps83
        go_wp2
        go_ret
        exact ⟨rfl, rfl⟩
      · have e : frB f = false := by simp [frB, h0, h1, h2]
        rw [e]
        go_enter Try.func83, Try.ntmps83
        go_wp2
        go_ret
        exact ⟨congrArg (fun x => Ending.returned (.bool x)) (by simp [h2]), rfl⟩
    · have e : frB f = false := by simp [frB, h0, h1]
      rw [e]
      go_enter Try.func83, Try.ntmps83
      go_wp2
      go_ret
      exact ⟨rfl, rfl⟩
  · have e : frB f = false := by simp [frB, h0]
    rw [e]
    go_enter Try.func83, Try.ntmps83
    go_wp2
    go_ret
    exact ⟨rfl, rfl⟩

theorem frSpec (f : Int) (w : World) (hw : (Lit.int .i64 f).wf = true) :
    Calls Try.prog 114 #[.int .i64 f] w fun e w' => e = .returned (.bool (frB f)) ∧ w' = w := by
  by_cases h : 16 ≤ f ∧ f ≤ 128
  · obtain ⟨h0, h1⟩ := h
    have e : frB f = (f % 16 == 0) := by
      simp only [frB, h0, h1, true_and]
      rfl
    rw [e]
    go_enter Try.func114, Try.ntmps114
    go_wp2_with (go_at_call 72; refine (spIn _ _ _ _ true (.inl ⟨rfl, h0, h1⟩)).mono ?_; rintro e w' ⟨rfl, rfl⟩)
    go_ret
    exact ⟨rfl, rfl⟩
  · have h' : f < 16 ∨ 128 < f := by omega
    have e : frB f = false := by simp only [frB, decide_eq_false_iff_not]; omega
    rw [e]
    go_enter Try.func114, Try.ntmps114
    go_wp2_with (go_at_call 72; refine (spIn _ _ _ _ false (.inr ⟨rfl, h'⟩)).mono ?_; rintro e w' ⟨rfl, rfl⟩)
    go_ret
    exact ⟨rfl, rfl⟩

/-- Every Int as a number of 64 bits. -/
def proR (f : Int) (i : Nat) : Int := [22, 2, 2, 0, -f, 21, 0, 2, 1, f - 8].getD i 0
def epiR (f : Int) (i : Nat) : Int := [14, 1, 2, 0, f - 8, 22, 2, 2, 0, f, 4, 0, 1, 0, 0].getD i 0

/-- A block of ints that was just laid. -/
theorem Flat.new (w : World) (cs : Array Value) (t : TypeId) (m : Nat) (R : Nat → Int) (h : ∀ i, i < m → cs[i]? = some (Value.int .i64 (R i))) : Flat (w.alloc (.cells cs t)) w.heap.size 0 m R := by
  intro i hi
  have hb : (w.alloc (.cells cs t)).heap[w.heap.size]? = some (.cells cs t (0, 0)) := heap_alloc_new w _
  rw [Nat.zero_add]
  exact ⟨by rw [cell_of_row _ _ i cs t (0, 0) hb]; exact h i hi, frozen_of_row _ _ i cs t hb⟩
theorem pro_cells (f : Int) : ∀ i, i < 10 → (#[.int .i64 22, .int .i64 2, .int .i64 2, .int .i64 0, .int .i64 (-f), .int .i64 21, .int .i64 0, .int .i64 2, .int .i64 1, .int .i64 (f - 8)] : Array Value)[i]? = some (Value.int .i64 (proR f i)) := by
  intro i hi
  have : i = 0 ∨ i = 1 ∨ i = 2 ∨ i = 3 ∨ i = 4 ∨ i = 5 ∨ i = 6 ∨ i = 7 ∨ i = 8 ∨ i = 9 := by omega
  rcases this with rfl | rfl | rfl | rfl | rfl | rfl | rfl | rfl | rfl | rfl <;> rfl
theorem epi_cells (f : Int) : ∀ i, i < 15 → (#[.int .i64 14, .int .i64 1, .int .i64 2, .int .i64 0, .int .i64 (f - 8), .int .i64 22, .int .i64 2, .int .i64 2, .int .i64 0, .int .i64 f, .int .i64 4, .int .i64 0, .int .i64 1, .int .i64 0, .int .i64 0] : Array Value)[i]? = some (Value.int .i64 (epiR f i)) := by
  intro i hi
  have : i = 0 ∨ i = 1 ∨ i = 2 ∨ i = 3 ∨ i = 4 ∨ i = 5 ∨ i = 6 ∨ i = 7 ∨ i = 8 ∨ i = 9 ∨ i = 10 ∨ i = 11 ∨ i = 12 ∨ i = 13 ∨ i = 14 := by omega
  rcases this with rfl | rfl | rfl | rfl | rfl | rfl | rfl | rfl | rfl | rfl | rfl | rfl | rfl | rfl | rfl <;> rfl
theorem frB_bd {f : Int} (h : frB f = true) : 16 ≤ f ∧ f ≤ 128 ∧ (Lit.int .i64 f).wf = true := by
  have h' : 16 ≤ f ∧ f ≤ 128 := by simp only [frB, decide_eq_true_eq] at h; omega
  exact ⟨h'.1, h'.2, (Lit.wf_int_iff _ _).2 (by rw [IntKind.min_i64, IntKind.max_i64]; omega)⟩
theorem grown1 (w : World) (o : Obj) : Below w.heap.size w (w.alloc o) := (Below.refl _ _).alloc (Nat.le_refl _) _

end Go.Proofs.Ytdcjddiigipdmaa
