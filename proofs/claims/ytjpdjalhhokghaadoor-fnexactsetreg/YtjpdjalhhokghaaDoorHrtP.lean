/- A row of 32 numbers, and a processor's 33 cells: plain. -/
import Derived.Test.YtjpdjalhhokghaaDoorRows
import Derived.WalkKit
import Derived.WalkSpells
import Derived.ProofKit
import Derived.Below
import Derived.Deep.WholeRow
import Derived.Deep.MidRow
namespace Go.Proofs.YtjpdjalhhokghaaDoor
open Go.RowKit
set_option linter.unusedVariables false

/- Chosen, not defined: two of these with unlike numbers are held against each other often in a walk: what can be unfolded is unfolded there, 33 cells each time. -/
theorem regs_ex : ∃ f : (Nat → Int) → Array Value, ∀ R, f R = Array.ofFn (n := 32) fun i => Value.int .i64 (R i.1) := ⟨_, fun _ => rfl⟩
theorem hart_ex : ∃ f : (Nat → Int) → Int → Array Value, ∀ R pc, f R pc = Array.ofFn (n := 33) fun i => Value.int .i64 (if i.1 < 32 then R i.1 else pc) := ⟨_, fun _ _ => rfl⟩
/-- The cells of 32 numbers. -/
noncomputable def regs : (Nat → Int) → Array Value := Classical.choose regs_ex
/-- .. and of a processor: 32 registers, then Pc. -/
noncomputable def hartC : (Nat → Int) → Int → Array Value := Classical.choose hart_ex
theorem regs_def (R : Nat → Int) : regs R = Array.ofFn (n := 32) fun i => Value.int .i64 (R i.1) := Classical.choose_spec regs_ex R
theorem hartC_def (R : Nat → Int) (pc : Int) : hartC R pc = Array.ofFn (n := 33) fun i => Value.int .i64 (if i.1 < 32 then R i.1 else pc) := Classical.choose_spec hart_ex R pc

@[simp] theorem regs_size (R : Nat → Int) : (regs R).size = 32 := by simp [regs_def]
@[simp] theorem hartC_size (R : Nat → Int) (pc : Int) : (hartC R pc).size = 33 := by simp [hartC_def]
theorem regs_at (R : Nat → Int) (i : Nat) (h : i < 32) : (regs R)[i]? = some (.int .i64 (R i)) := by simp [regs_def, h]
theorem hartC_at (R : Nat → Int) (pc : Int) (i : Nat) (h : i < 32) : (hartC R pc)[i]? = some (.int .i64 (R i)) := by simp [hartC_def, h, show i < 33 by omega]
theorem hartC_pc (R : Nat → Int) (pc : Int) : (hartC R pc)[32]? = some (.int .i64 pc) := by simp [hartC_def]
theorem regs_one (R : Nat → Int) : (regs R).all (·.oneCell') = true := by
  rw [Array.all_eq_true]
  intro i hi
  simp [regs_def, Value.oneCell']
theorem hartC_one (R : Nat → Int) (pc : Int) : (hartC R pc).all (·.oneCell') = true := by
  rw [Array.all_eq_true]
  intro i hi
  simp [hartC_def, Value.oneCell']
theorem regs_set (R : Nat → Int) (k : Nat) (v : Int) (h : k < 32) : (regs R).setIfInBounds k (.int .i64 v) = regs (fun i => if i = k then v else R i) := by
  apply Array.ext (by simp)
  intro i h1 h2
  rw [Array.getElem_setIfInBounds (by simpa using h1)]
  have h3 : i < 32 := by simpa using h2
  by_cases e : k = i
  · subst e; simp [regs_def]
  · have e' : ¬ i = k := fun x => e x.symm
    simp [regs_def, e, e']
theorem hartC_set (R : Nat → Int) (pc : Int) (k : Nat) (v : Int) (h : k < 32) : (hartC R pc).setIfInBounds k (.int .i64 v) = hartC (fun i => if i = k then v else R i) pc := by
  apply Array.ext (by simp)
  intro i h1 h2
  rw [Array.getElem_setIfInBounds (by simpa using h1)]
  have h3 : i < 33 := by simpa using h2
  by_cases e : k = i
  · subst e; simp [hartC_def, h]
  · have e' : ¬ i = k := fun x => e x.symm
    simp [hartC_def, e, e']
theorem hartC_setPc (R : Nat → Int) (pc v : Int) : (hartC R pc).setIfInBounds 32 (.int .i64 v) = hartC R v := by
  apply Array.ext (by simp)
  intro i h1 h2
  rw [Array.getElem_setIfInBounds (by simpa using h1)]
  have h3 : i < 33 := by simpa using h2
  by_cases e : 32 = i
  · subst e; simp [hartC_def]
  · have e' : i < 32 := by omega
    simp [hartC_def, e, e']
theorem hartC_regs (R : Nat → Int) (pc : Int) : (hartC R pc).extract 0 32 = regs R := by
  apply Array.ext (by simp)
  intro i h1 h2
  have h3 : i < 32 := by simpa using h2
  simp [hartC_def, regs_def, h3]
theorem regs_congr {R S : Nat → Int} (h : ∀ i, i < 32 → R i = S i) : regs R = regs S := by
  apply Array.ext (by simp)
  intro i h1 h2
  have h3 : i < 32 := by simpa using h2
  simp [regs_def, h i h3]
theorem hartC_congr {R S : Nat → Int} {pc : Int} (h : ∀ i, i < 32 → R i = S i) : hartC R pc = hartC S pc := by
  apply Array.ext (by simp)
  intro i h1 h2
  by_cases e : i < 32
  · simp [hartC_def, e, h i e]
  · simp [hartC_def, e]
/-- The registers put over a processor's head. -/
theorem hartC_put (R S : Nat → Int) (pc : Int) (i : Nat) : (regs S)[i]?.or (if i = 32 then some (.int .i64 pc) else none) = (hartC S pc)[i]? := by
  by_cases h : i < 32
  · rw [regs_at _ _ h, hartC_at _ _ _ h]; rfl
  · by_cases e : i = 32
    · subst e; rw [hartC_pc]; simp
    · rw [Array.getElem?_eq_none (by simp; omega), Array.getElem?_eq_none (by simp; omega)]; simp [e]
theorem regs_zero : regs (fun _ => 0) = #[.int .i64 0, .int .i64 0, .int .i64 0, .int .i64 0, .int .i64 0, .int .i64 0, .int .i64 0, .int .i64 0, .int .i64 0, .int .i64 0, .int .i64 0, .int .i64 0, .int .i64 0, .int .i64 0, .int .i64 0, .int .i64 0, .int .i64 0, .int .i64 0, .int .i64 0, .int .i64 0, .int .i64 0, .int .i64 0, .int .i64 0, .int .i64 0, .int .i64 0, .int .i64 0, .int .i64 0, .int .i64 0, .int .i64 0, .int .i64 0, .int .i64 0, .int .i64 0] := by
  simp [regs_def, Array.ofFn_succ]
end Go.Proofs.YtjpdjalhhokghaaDoor
