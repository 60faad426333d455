/- Shadow variables: plain. -/
import Derived.Test.YtibepggakjfbcaaRecShw
namespace Go.Proofs.Ytibepggakjfbcaa
open Go Go.RowKit
set_option linter.unusedVariables false

/-- Go's cmp.Compare of numbers. -/
def cmpI (a b : Int) : Int := if a < b then -1 else if b < a then 1 else 0
theorem cmpI_zero {a b : Int} : cmpI a b = 0 ↔ a = b := by unfold cmpI; split <;> (try split) <;> omega
theorem cmpI_neg {a b : Int} : cmpI a b < 0 ↔ a < b := by unfold cmpI; split <;> (try split) <;> omega
/-- The comparison of two keys. -/
def cmp2 (x y : Int × Int) : Int := if cmpI x.1 y.1 = 0 then cmpI x.2 y.2 else cmpI x.1 y.1
/-- One key is ahead of another. -/
def ltK (x y : Int × Int) : Prop := x.1 < y.1 ∨ (x.1 = y.1 ∧ x.2 < y.2)
instance (x y : Int × Int) : Decidable (ltK x y) := by unfold ltK; infer_instance
theorem cmp2_neg {x y : Int × Int} : cmp2 x y < 0 ↔ ltK x y := by
  unfold cmp2 ltK
  by_cases h : cmpI x.1 y.1 = 0
  · rw [if_pos h, cmpI_neg]; have := cmpI_zero.1 h; omega
  · rw [if_neg h, cmpI_neg]; have : ¬ x.1 = y.1 := fun e => h (cmpI_zero.2 e); omega
theorem ltK_irrefl (x : Int × Int) : ¬ ltK x x := by unfold ltK; omega
theorem ltK_trans {x y z : Int × Int} (h : ltK x y) (k : ltK y z) : ltK x z := by unfold ltK at *; omega
theorem ltK_tri (x y : Int × Int) : ltK x y ∨ x = y ∨ ltK y x := by
  obtain ⟨a, b⟩ := x
  obtain ⟨c, d⟩ := y
  unfold ltK
  simp only [Prod.mk.injEq]
  omega
theorem ltK_asymm {x y : Int × Int} (h : ltK x y) (k : ltK y x) : False := ltK_irrefl x (ltK_trans h k)
def keyD (d : ShwD) : Int × Int := (d.ob, d.ix)
/-- It is a shadow variable's number. -/
def idP (x : Int) : Prop := 0 ≤ x ∧ x ≤ 255
instance (x : Int) : Decidable (idP x) := by unfold idP; infer_instance
/-- A list of shadow variables. -/
def ShwOK (n : Nat) (S : Nat → ShwD) : Prop := n ≤ 16 ∧ ∀ k, k < n → idP (S k).ix ∧ (0 < k → ltK (keyD (S (k - 1))) (keyD (S k)))
theorem shwOK_ex (n : Nat) (S : Nat → ShwD) : ∃ q : Bool, q = true ↔ ShwOK n S := by
  by_cases h : ShwOK n S
  · exact ⟨true, ⟨fun _ => h, fun _ => rfl⟩⟩
  · exact ⟨false, ⟨fun h' => Bool.noConfusion h', fun h' => absurd h' h⟩⟩
theorem ShwOK.lt {n : Nat} {S : Nat → ShwD} (h : ShwOK n S) : ∀ {i j : Nat}, i < j → j < n → ltK (keyD (S i)) (keyD (S j)) := by
  intro i j hij
  induction j with
  | zero => omega
  | succ j ih =>
    intro hj
    have h1 := (h.2 (j + 1) hj).2 (by omega)
    rw [Nat.add_sub_cancel] at h1
    by_cases e : i = j
    · rw [e]; exact h1
    · exact ltK_trans (ih (by omega) (by omega)) h1
end Go.Proofs.Ytibepggakjfbcaa
