/- Contract of the model's test of bounds. Integers of 64 bits. Frames, prologues, epilogues: of the program and of the model. What a function's instructions may be, plain: epilogues, parts, jumps, rules. The shapes of the operations: plain. -/
import Derived.Test.YtelogjpjglohoaaGreatDoorRows
import Derived.WalkKit
import Derived.WalkSpells
import Derived.ProofKit
import Derived.DataShut
import Derived.Test.YtelogjpjglohoaaGreatDoorGXTabBase0
namespace Go.Proofs.YtelogjpjglohoaaGreatDoor
open Go.RowKit
set_option linter.unusedVariables false

theorem spIn (x low high : Int) (w : World) (b : Bool) (h : (b = true ∧ low ≤ x ∧ x ≤ high) ∨ (b = false ∧ (x < low ∨ high < x))) :
    Calls Tryz.prog 79 #[.int .i64 x, .int .i64 low, .int .i64 high] w fun e w' => e = .returned (.bool b) ∧ w' = w := by
  rcases h with ⟨rfl, h0, h1⟩ | ⟨rfl, h⟩
  · go_enter Tryz.func79, Tryz.ntmps79
    go_wp2
    go_ret
    refine ⟨congrArg (fun x => Ending.returned (.bool x)) ?_, rfl⟩
    first | rfl | (simp; done) | (simp; omega)
  · by_cases h0 : x < low
    · go_enter Tryz.func79, Tryz.ntmps79
      go_wp2
      go_ret
      refine ⟨congrArg (fun x => Ending.returned (.bool x)) ?_, rfl⟩
      first | rfl | (simp; done) | (simp; omega)
    · have h1 : high < x := by omega
      clear h
      go_enter Tryz.func79, Tryz.ntmps79
      go_wp2
      go_ret
      refine ⟨congrArg (fun x => Ending.returned (.bool x)) ?_, rfl⟩
      first | rfl | (simp; done) | (simp; omega)

end Go.Proofs.YtelogjpjglohoaaGreatDoor

namespace Go.Proofs.YtelogjpjglohoaaGreatDoor
open Go.RowKit

/-- An integer of 64 bits. -/
def In64 (a : Int) : Prop := -9223372036854775808 ≤ a ∧ a ≤ 9223372036854775807
theorem in64_wrap (a : Int) : In64 (wrap64 a) := by unfold In64 wrap64; omega
theorem in64_of {a : Int} (h : (Lit.int .i64 a).wf = true) : In64 a := by
  have h := (Lit.wf_int_iff _ _).1 h
  rw [IntKind.min_i64, IntKind.max_i64] at h
  exact h
end Go.Proofs.YtelogjpjglohoaaGreatDoor

namespace Go.Proofs.YtelogjpjglohoaaGreatDoor
open Go Go.RowKit
set_option linter.unusedVariables false

def frB (f : Int) : Bool := decide (16 ≤ f ∧ f ≤ 128 ∧ f % 16 = 0)

theorem frImpl (f : Int) (w : World) (hw : (Lit.int .i64 f).wf = true) :
    Calls Tryz.prog 75 #[.int .i64 f] w fun e w' => e = .returned (.bool (frB f)) ∧ w' = w := by
  by_cases h0 : 16 ≤ f
  · by_cases h1 : f ≤ 128
    · by_cases h2 : f % 16 = 0
      · have e : frB f = true := by simp [frB, h0, h1, h2]
        rw [e]
        go_enter Tryz.func75, Tryz.ntmps75
        go_wp2
        go_ret
        exact ⟨rfl, rfl⟩
      · have e : frB f = false := by simp [frB, h0, h1, h2]
        rw [e]
        go_enter Tryz.func75, Tryz.ntmps75
        go_wp2
        go_ret
        exact ⟨congrArg (fun x => Ending.returned (.bool x)) (by simp [h2]), rfl⟩
    · have e : frB f = false := by simp [frB, h0, h1]
      rw [e]
      go_enter Tryz.func75, Tryz.ntmps75
      go_wp2
      go_ret
      exact ⟨rfl, rfl⟩
  · have e : frB f = false := by simp [frB, h0]
    rw [e]
    go_enter Tryz.func75, Tryz.ntmps75
    go_wp2
    go_ret
    exact ⟨rfl, rfl⟩

theorem frSpec (f : Int) (w : World) (hw : (Lit.int .i64 f).wf = true) :
    Calls Tryz.prog 80 #[.int .i64 f] w fun e w' => e = .returned (.bool (frB f)) ∧ w' = w := by
  by_cases h : 16 ≤ f ∧ f ≤ 128
  · obtain ⟨h0, h1⟩ := h
    have e : frB f = (f % 16 == 0) := by
      simp only [frB, h0, h1, true_and]
      rfl
    rw [e]
    go_enter Tryz.func80, Tryz.ntmps80
    go_wp2_with (go_at_call 79; refine (spIn _ _ _ _ true (.inl ⟨rfl, h0, h1⟩)).mono ?_; rintro e w' ⟨rfl, rfl⟩)
    go_ret
    exact ⟨rfl, rfl⟩
  · have h' : f < 16 ∨ 128 < f := by omega
    have e : frB f = false := by simp only [frB, decide_eq_false_iff_not]; omega
    rw [e]
    go_enter Tryz.func80, Tryz.ntmps80
    go_wp2_with (go_at_call 79; refine (spIn _ _ _ _ false (.inr ⟨rfl, h'⟩)).mono ?_; rintro e w' ⟨rfl, rfl⟩)
    go_ret
    exact ⟨rfl, rfl⟩

/-- Every Int as a number of 64 bits. -/
def proR (f : Int) (i : Nat) : Int := [22, 2, 2, 0, -f, 21, 0, 2, 1, f - 8].getD i 0
def epiR (f : Int) (i : Nat) : Int := [14, 1, 2, 0, f - 8, 22, 2, 2, 0, f, 4, 0, 1, 0, 0].getD i 0

/-- A block of ints that was just laid. -/
theorem Flat.new (w : World) (cs : Array Value) (t : TypeId) (m : Nat) (R : Nat → Int) (h : ∀ i, i < m → cs[i]? = some (Value.int .i64 (R i))) : Flat (w.alloc (.cells cs t)) w.heap.size 0 m R := by
  intro i hi
  have hb : (w.alloc (.cells cs t)).heap[w.heap.size]? = some (.cells cs t (0, 0)) := heap_alloc_new w _
  rw [Nat.zero_add]
  exact ⟨by rw [cell_of_row _ _ i cs t (0, 0) hb]; exact h i hi, frozen_of_row _ _ i cs t hb⟩
theorem pro_cells (f : Int) : ∀ i, i < 10 → (#[.int .i64 22, .int .i64 2, .int .i64 2, .int .i64 0, .int .i64 (-f), .int .i64 21, .int .i64 0, .int .i64 2, .int .i64 1, .int .i64 (f - 8)] : Array Value)[i]? = some (Value.int .i64 (proR f i)) := by
  intro i hi
  have : i = 0 ∨ i = 1 ∨ i = 2 ∨ i = 3 ∨ i = 4 ∨ i = 5 ∨ i = 6 ∨ i = 7 ∨ i = 8 ∨ i = 9 := by omega
  rcases this with rfl | rfl | rfl | rfl | rfl | rfl | rfl | rfl | rfl | rfl <;> rfl
theorem epi_cells (f : Int) : ∀ i, i < 15 → (#[.int .i64 14, .int .i64 1, .int .i64 2, .int .i64 0, .int .i64 (f - 8), .int .i64 22, .int .i64 2, .int .i64 2, .int .i64 0, .int .i64 f, .int .i64 4, .int .i64 0, .int .i64 1, .int .i64 0, .int .i64 0] : Array Value)[i]? = some (Value.int .i64 (epiR f i)) := by
  intro i hi
  have : i = 0 ∨ i = 1 ∨ i = 2 ∨ i = 3 ∨ i = 4 ∨ i = 5 ∨ i = 6 ∨ i = 7 ∨ i = 8 ∨ i = 9 ∨ i = 10 ∨ i = 11 ∨ i = 12 ∨ i = 13 ∨ i = 14 := by omega
  rcases this with rfl | rfl | rfl | rfl | rfl | rfl | rfl | rfl | rfl | rfl | rfl | rfl | rfl | rfl | rfl <;> rfl
theorem frB_bd {f : Int} (h : frB f = true) : 16 ≤ f ∧ f ≤ 128 ∧ (Lit.int .i64 f).wf = true := by
  have h' : 16 ≤ f ∧ f ≤ 128 := by simp only [frB, decide_eq_true_eq] at h; omega
  exact ⟨h'.1, h'.2, (Lit.wf_int_iff _ _).2 (by rw [IntKind.min_i64, IntKind.max_i64]; omega)⟩
theorem grown1 (w : World) (o : Obj) : Below w.heap.size w (w.alloc o) := (Below.refl _ _).alloc (Nat.le_refl _) _

theorem proImpl (f : Int) (w : World) (h : frB f = true) :
    Calls Tryz.prog 112 #[.int .i64 f] w fun e w' => ∃ g, e = .returned (.tuple #[.slice (some ⟨g, 0, none⟩) 2 2, .int .i64 0]) ∧ Below w.heap.size w w' ∧ w.heap.size ≤ g ∧ g < w'.heap.size ∧ Flat w' g 0 (2 * 5) (proR f) := by
  obtain ⟨h0, h1, hw⟩ := frB_bd h
  go_enter Tryz.func112, Tryz.ntmps112
  go_wp2_with (go_at_call 75; refine (frImpl f _ hw).mono ?_; rintro e w' ⟨rfl, rfl⟩; rw [h])
  go_ret2
  exact ⟨_, rfl, grown1 _ _, Nat.le_refl _, by simp, Flat.new _ _ _ _ _ (pro_cells f)⟩
theorem epiImpl (f : Int) (w : World) (h : frB f = true) :
    Calls Tryz.prog 111 #[.int .i64 f] w fun e w' => ∃ g, e = .returned (.tuple #[.slice (some ⟨g, 0, none⟩) 3 3, .int .i64 0]) ∧ Below w.heap.size w w' ∧ w.heap.size ≤ g ∧ g < w'.heap.size ∧ Flat w' g 0 (3 * 5) (epiR f) := by
  obtain ⟨h0, h1, hw⟩ := frB_bd h
  go_enter Tryz.func111, Tryz.ntmps111
  go_wp2_with (go_at_call 75; refine (frImpl f _ hw).mono ?_; rintro e w' ⟨rfl, rfl⟩; rw [h])
  go_ret2
  exact ⟨_, rfl, grown1 _ _, Nat.le_refl _, by simp, Flat.new _ _ _ _ _ (epi_cells f)⟩
theorem proNo (f : Int) (w : World) (hw : (Lit.int .i64 f).wf = true) (h : frB f = false) :
    Calls Tryz.prog 112 #[.int .i64 f] w fun e w' => e = .returned (.tuple #[.slice none 0 0, .int .i64 17]) ∧ w' = w := by
  go_enter Tryz.func112, Tryz.ntmps112
  go_wp2_with (go_at_call 75; refine (frImpl f _ hw).mono ?_; rintro e w' ⟨rfl, rfl⟩; rw [h])
  go_ret2
  exact ⟨rfl, rfl⟩
theorem epiNo (f : Int) (w : World) (hw : (Lit.int .i64 f).wf = true) (h : frB f = false) :
    Calls Tryz.prog 111 #[.int .i64 f] w fun e w' => e = .returned (.tuple #[.slice none 0 0, .int .i64 17]) ∧ w' = w := by
  go_enter Tryz.func111, Tryz.ntmps111
  go_wp2_with (go_at_call 75; refine (frImpl f _ hw).mono ?_; rintro e w' ⟨rfl, rfl⟩; rw [h])
  go_ret2
  exact ⟨rfl, rfl⟩

theorem proSpec0 (f : Int) (w : World) (h : frB f = true) :
    Calls Tryz.prog 69 #[.int .i64 f] w fun e w' => ∃ g, e = .returned (.slice (some ⟨g, 0, none⟩) 2 2) ∧ Below w.heap.size w w' ∧ w.heap.size ≤ g ∧ g < w'.heap.size ∧ Flat w' g 0 (2 * 5) (proR f) := by
  obtain ⟨h0, h1, hw⟩ := frB_bd h
  go_enter Tryz.func69, Tryz.ntmps69
  go_wp2
  go_ret
  exact ⟨_, rfl, grown1 _ _, Nat.le_refl _, by simp, Flat.new _ _ _ _ _ (pro_cells f)⟩
theorem epiSpec0 (f : Int) (w : World) (h : frB f = true) :
    Calls Tryz.prog 71 #[.int .i64 f] w fun e w' => ∃ g, e = .returned (.slice (some ⟨g, 0, none⟩) 3 3) ∧ Below w.heap.size w w' ∧ w.heap.size ≤ g ∧ g < w'.heap.size ∧ Flat w' g 0 (3 * 5) (epiR f) := by
  obtain ⟨h0, h1, hw⟩ := frB_bd h
  go_enter Tryz.func71, Tryz.ntmps71
  go_wp2
  go_ret
  exact ⟨_, rfl, grown1 _ _, Nat.le_refl _, by simp, Flat.new _ _ _ _ _ (epi_cells f)⟩
end Go.Proofs.YtelogjpjglohoaaGreatDoor

namespace Go.Proofs.YtelogjpjglohoaaGreatDoor
open Go Go.RowKit

/-- An epilogue of frame f begins at i. -/
def epB (R : Nat → Int) (N : Nat) (f : Int) (i : Nat) : Bool := decide (2 ≤ i ∧ i + 3 ≤ N) && (List.range 15).all fun j => R (i * 5 + j) == epiR f j
theorem epB_iff {R : Nat → Int} {N : Nat} {f : Int} {i : Nat} : epB R N f i = true ↔ (2 ≤ i ∧ i + 3 ≤ N) ∧ ∀ j, j < 15 → R (i * 5 + j) = epiR f j := by
  unfold epB
  rw [Bool.and_eq_true, decide_eq_true_eq, List.all_eq_true]
  constructor
  · exact fun ⟨h, k⟩ => ⟨h, fun j hj => by simpa using k j (by simpa using hj)⟩
  · exact fun ⟨h, k⟩ => ⟨h, fun j hj => by simpa using k j (by simpa using hj)⟩
theorem epB_low {R : Nat → Int} {N : Nat} {f : Int} {i : Nat} (h : i < 2 ∨ N < i + 3) : epB R N f i = false := by
  cases e : epB R N f i with
  | false => rfl
  | true => have := (epB_iff.1 e).1; omega
theorem epB_next {R : Nat → Int} {N : Nat} {f : Int} {i : Nat} (h : epB R N f i = true) : epB R N f (i + 1) = false := by
  cases e : epB R N f (i + 1) with
  | false => rfl
  | true =>
    have h1 := (epB_iff.1 h).2 5 (by omega)
    have h2 := (epB_iff.1 e).2 0 (by omega)
    rw [show (i + 1) * 5 + 0 = i * 5 + 5 from by omega, h1] at h2
    simp [epiR] at h2
theorem epB_next2 {R : Nat → Int} {N : Nat} {f : Int} {i : Nat} (h : epB R N f i = true) : epB R N f (i + 2) = false := by
  cases e : epB R N f (i + 2) with
  | false => rfl
  | true =>
    have h1 := (epB_iff.1 h).2 10 (by omega)
    have h2 := (epB_iff.1 e).2 0 (by omega)
    rw [show (i + 2) * 5 + 0 = i * 5 + 10 from by omega, h1] at h2
    simp [epiR] at h2

/-- Where instruction i stands in an epilogue, of those that begin ahead of m. -/
def partU (R : Nat → Int) (N : Nat) (f : Int) (m i : Nat) : Int :=
  if epB R N f i = true ∧ i < m then 1 else if epB R N f (i - 1) = true ∧ i - 1 < m then 2 else if epB R N f (i - 2) = true ∧ i - 2 < m then 3 else 0
def partI (R : Nat → Int) (N : Nat) (f : Int) (i : Nat) : Int := if epB R N f i = true then 1 else if epB R N f (i - 1) = true then 2 else if epB R N f (i - 2) = true then 3 else 0
theorem ep_at0 {R : Nat → Int} {N : Nat} {f : Int} {i : Nat} (h : epB R N f i = true) : 2 ≤ i := (epB_iff.1 h).1.1
/-- Of what begins one or two ahead, nothing begins here; .. -/
theorem ep_prev {R : Nat → Int} {N : Nat} {f : Int} {i : Nat} (h : epB R N f i = true) : epB R N f (i - 1) = false ∧ epB R N f (i - 2) = false := by
  have h2 := ep_at0 h
  constructor
  · cases e : epB R N f (i - 1) with
    | false => rfl
    | true => have := epB_next e; rw [show i - 1 + 1 = i from by omega, h] at this; cases this
  · cases e : epB R N f (i - 2) with
    | false => rfl
    | true => have := epB_next2 e; rw [show i - 2 + 2 = i from by omega, h] at this; cases this
theorem ep_prev1 {R : Nat → Int} {N : Nat} {f : Int} {i : Nat} (h : epB R N f (i - 1) = true) : epB R N f i = false ∧ epB R N f (i - 2) = false := by
  have h2 := ep_at0 h
  constructor
  · have := epB_next h; rwa [show i - 1 + 1 = i from by omega] at this
  · have := (ep_prev h).1; rwa [show i - 1 - 1 = i - 2 from by omega] at this
theorem ep_prev2 {R : Nat → Int} {N : Nat} {f : Int} {i : Nat} (h : epB R N f (i - 2) = true) : epB R N f i = false ∧ epB R N f (i - 1) = false := by
  have h2 := ep_at0 h
  constructor
  · have := epB_next2 h; rwa [show i - 2 + 2 = i from by omega] at this
  · have := epB_next h; rwa [show i - 2 + 1 = i - 1 from by omega] at this
theorem part_ret (R : Nat → Int) (N : Nat) (f : Int) (i : Nat) : (partI R N f i = 3) ↔ epB R N f (i - 2) = true := by
  unfold partI
  constructor
  · intro h
    split at h
    · omega
    · split at h
      · omega
      · split at h
        · assumption
        · omega
  · intro h
    obtain ⟨h0, h1⟩ := ep_prev2 h
    simp [h0, h1, h]
theorem part_go (R : Nat → Int) (N : Nat) (f : Int) (i : Nat) : (partI R N f i = 0 ∨ partI R N f i = 1) ↔ (epB R N f (i - 1) = false ∧ epB R N f (i - 2) = false) := by
  unfold partI
  by_cases h : epB R N f i = true
  · obtain ⟨h1, h2⟩ := ep_prev h
    simp [h, h1, h2]
  · by_cases h1 : epB R N f (i - 1) = true
    · simp [h, h1]
    · by_cases h2 : epB R N f (i - 2) = true
      · simp [h, h1, h2]
      · simp [h, h1, h2]
theorem part_one (R : Nat → Int) (N : Nat) (f : Int) (i : Nat) : partI R N f i = 1 ↔ epB R N f i = true := by
  unfold partI
  constructor
  · intro h
    split at h
    · assumption
    · split at h
      · omega
      · split at h <;> omega
  · intro h; rw [if_pos h]
theorem part_two (R : Nat → Int) (N : Nat) (f : Int) (i : Nat) : partI R N f i = 2 ↔ epB R N f (i - 1) = true := by
  unfold partI
  constructor
  · intro h
    split at h
    · omega
    · split at h
      · assumption
      · split at h <;> omega
  · intro h
    rw [(ep_prev1 h).1, if_neg (by simp), if_pos h]
theorem part_bd (R : Nat → Int) (N : Nat) (f : Int) (i : Nat) : 0 ≤ partI R N f i ∧ partI R N f i ≤ 3 := by
  unfold partI
  split
  · omega
  · split
    · omega
    · split <;> omega

/-- A jump from i by im bytes goes to where one may go. -/
def goB (R : Nat → Int) (N : Nat) (f : Int) (i : Nat) (im : Int) : Bool :=
  decide (im % 4 = 0) && (decide (2 ≤ (i : Int) + im / 4 ∧ (i : Int) + im / 4 < N) && (!epB R N f (((i : Int) + im / 4).toNat - 1) && !epB R N f (((i : Int) + im / 4).toNat - 2)))

/-- x is one of zs. -/
def hasB (zs : List Int) (x : Int) : Bool := zs.contains x
/-- The rule for instruction i behind the prologue. -/
def ruI (R : Nat → Int) (N : Nat) (f at' : Int) (zs : List Int) (wd : Int → Int) (i : Nat) : Int :=
  if R (i * 5) = 4 then (if epB R N f (i - 2) = true then 0 else 18)
  else if R (i * 5) = 3 then
    (if R (i * 5 + 1) = 1 then (if hasB zs (at' + 4 * i + R (i * 5 + 4)) = true then 0 else 20)
     else if R (i * 5 + 1) = 0 ∧ goB R N f i (R (i * 5 + 4)) = true then 0 else 19)
  else if 5 ≤ R (i * 5) ∧ R (i * 5) ≤ 10 then (if goB R N f i (R (i * 5 + 4)) = true then 0 else 19)
  else if (R (i * 5 + 1) = 1 ∧ epB R N f i = false) ∨ (R (i * 5 + 1) = 2 ∧ epB R N f (i - 1) = false) then 21
  else if (11 ≤ R (i * 5) ∧ R (i * 5) ≤ 21) ∧ R (i * 5 + 2) = 2 ∧ epB R N f i = false ∧ ¬ (0 ≤ R (i * 5 + 4) ∧ R (i * 5 + 4) ≤ f - 8 - wd (R (i * 5)) ∧ R (i * 5 + 4) % wd (R (i * 5)) = 0) then 17
  else 0
end Go.Proofs.YtelogjpjglohoaaGreatDoor

namespace Go.Proofs.YtelogjpjglohoaaGreatDoor
open Go.RowKit

/-- The shape of an operation: form, code, F3, F7. -/
def shT (op : Int) : Int × Int × Int × Int :=
  if op = 1 then (1, 55, 0, 0)
  else if op = 2 then (1, 23, 0, 0)
  else if op = 3 then (2, 111, 0, 0)
  else if op = 4 then (3, 103, 0, 0)
  else if op = 5 then (4, 99, 0, 0)
  else if op = 6 then (4, 99, 1, 0)
  else if op = 7 then (4, 99, 4, 0)
  else if op = 8 then (4, 99, 5, 0)
  else if op = 9 then (4, 99, 6, 0)
  else if op = 10 then (4, 99, 7, 0)
  else if op = 11 then (3, 3, 0, 0)
  else if op = 12 then (3, 3, 1, 0)
  else if op = 13 then (3, 3, 2, 0)
  else if op = 14 then (3, 3, 3, 0)
  else if op = 15 then (3, 3, 4, 0)
  else if op = 16 then (3, 3, 5, 0)
  else if op = 17 then (3, 3, 6, 0)
  else if op = 18 then (5, 35, 0, 0)
  else if op = 19 then (5, 35, 1, 0)
  else if op = 20 then (5, 35, 2, 0)
  else if op = 21 then (5, 35, 3, 0)
  else if op = 22 then (3, 19, 0, 0)
  else if op = 23 then (3, 19, 2, 0)
  else if op = 24 then (3, 19, 3, 0)
  else if op = 25 then (3, 19, 4, 0)
  else if op = 26 then (3, 19, 6, 0)
  else if op = 27 then (3, 19, 7, 0)
  else if op = 28 then (6, 19, 1, 0)
  else if op = 29 then (6, 19, 5, 0)
  else if op = 30 then (6, 19, 5, 32)
  else if op = 31 then (8, 51, 0, 0)
  else if op = 32 then (8, 51, 0, 32)
  else if op = 33 then (8, 51, 1, 0)
  else if op = 34 then (8, 51, 2, 0)
  else if op = 35 then (8, 51, 3, 0)
  else if op = 36 then (8, 51, 4, 0)
  else if op = 37 then (8, 51, 5, 0)
  else if op = 38 then (8, 51, 5, 32)
  else if op = 39 then (8, 51, 6, 0)
  else if op = 40 then (8, 51, 7, 0)
  else if op = 41 then (3, 27, 0, 0)
  else if op = 42 then (7, 27, 1, 0)
  else if op = 43 then (7, 27, 5, 0)
  else if op = 44 then (7, 27, 5, 32)
  else if op = 45 then (8, 59, 0, 0)
  else if op = 46 then (8, 59, 0, 32)
  else if op = 47 then (8, 59, 1, 0)
  else if op = 48 then (8, 59, 5, 0)
  else if op = 49 then (8, 59, 5, 32)
  else if op = 50 then (8, 51, 0, 1)
  else if op = 51 then (8, 51, 1, 1)
  else if op = 52 then (8, 51, 2, 1)
  else if op = 53 then (8, 51, 3, 1)
  else if op = 54 then (8, 51, 4, 1)
  else if op = 55 then (8, 51, 5, 1)
  else if op = 56 then (8, 51, 6, 1)
  else if op = 57 then (8, 51, 7, 1)
  else if op = 58 then (8, 59, 0, 1)
  else if op = 59 then (8, 59, 4, 1)
  else if op = 60 then (8, 59, 5, 1)
  else if op = 61 then (8, 59, 6, 1)
  else if op = 62 then (8, 59, 7, 1)
  else if op = 63 then (9, 115, 0, 0)
  else if op = 64 then (9, 115, 0, 1)
  else (0, 0, 0, 0)

/-- It as a value. -/
def shV (s : Int × Int × Int × Int) : Value := .agg #[.int .i64 s.1, .int .i64 s.2.1, .int .i64 s.2.2.1, .int .i64 s.2.2.2]

theorem shT_out (op : Int) (h : op < 1 ∨ 64 < op) : shT op = (0, 0, 0, 0) := by
  unfold shT
  rw [if_neg (by omega), if_neg (by omega), if_neg (by omega), if_neg (by omega), if_neg (by omega), if_neg (by omega), if_neg (by omega), if_neg (by omega), if_neg (by omega), if_neg (by omega), if_neg (by omega), if_neg (by omega), if_neg (by omega), if_neg (by omega), if_neg (by omega), if_neg (by omega), if_neg (by omega), if_neg (by omega), if_neg (by omega), if_neg (by omega), if_neg (by omega), if_neg (by omega), if_neg (by omega), if_neg (by omega), if_neg (by omega), if_neg (by omega), if_neg (by omega), if_neg (by omega), if_neg (by omega), if_neg (by omega), if_neg (by omega), if_neg (by omega), if_neg (by omega), if_neg (by omega), if_neg (by omega), if_neg (by omega), if_neg (by omega), if_neg (by omega), if_neg (by omega), if_neg (by omega), if_neg (by omega), if_neg (by omega), if_neg (by omega), if_neg (by omega), if_neg (by omega), if_neg (by omega), if_neg (by omega), if_neg (by omega), if_neg (by omega), if_neg (by omega), if_neg (by omega), if_neg (by omega), if_neg (by omega), if_neg (by omega), if_neg (by omega), if_neg (by omega), if_neg (by omega), if_neg (by omega), if_neg (by omega), if_neg (by omega), if_neg (by omega), if_neg (by omega), if_neg (by omega), if_neg (by omega)]
end Go.Proofs.YtelogjpjglohoaaGreatDoor
