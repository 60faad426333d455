/- A map that is filled from the last element of a list on: plain. -/
import Derived.Test.YtibepggakjfbcaaRows
import Derived.Maps.Own
import Derived.Maps.OwnOps
import Derived.Maps.OwnSet
import Derived.Maps.Views
namespace Go.Proofs.Ytibepggakjfbcaa
open Go Go.RowKit Go.Maps
set_option linter.unusedVariables false

/-- The least number that has a property. -/
theorem least_of {P : Nat → Prop} : ∀ m, P m → ∃ j, P j ∧ j ≤ m ∧ ∀ i, i < j → ¬ P i := by
  intro m
  induction m using Nat.strongRecOn with
  | ind m ih =>
    intro hm
    by_cases h : ∃ i, i < m ∧ P i
    · obtain ⟨i, hi, hp⟩ := h
      obtain ⟨j, h1, h2, h3⟩ := ih i hi hp
      exact ⟨j, h1, by omega, h3⟩
    · exact ⟨m, hm, Nat.le_refl _, fun i hi hp => h ⟨i, hi, hp⟩⟩
/-- The map behind r rounds: the last r of the n keys, each with its number. -/
def mapR {H : Type} (K : Nat → Lit) (n : Nat) : Nat → DataW H
  | 0 => .map []
  | r + 1 => (mapR K n r).put (K (n - 1 - r)) (.lit (.int .i64 ((n - 1 - r : Nat) : Int)))
variable {H : Type} {K : Nat → Lit} {n : Nat}
theorem mapR_isMap (K : Nat → Lit) (n : Nat) : ∀ r, IsMap (mapR (H := H) K n r)
  | 0 => isMap_empty
  | r + 1 => (mapR_isMap K n r).put _ _
theorem mapR_tidy (hK : ∀ i, i < n → WideAt.IsKeyLit (K i)) : ∀ r, r ≤ n → Tidy (mapR (H := H) K n r)
  | 0, _ => ⟨[], rfl, List.Pairwise.nil⟩
  | r + 1, h => (mapR_tidy hK r (by omega)).put (hK _ (by omega)) _
theorem mapR_no (hK : ∀ i, i < n → WideAt.IsKeyLit (K i)) (k : Lit) : ∀ r, r ≤ n → (∀ j, n - r ≤ j → j < n → K j ≠ k) → has (mapR (H := H) K n r) k = false
  | 0, _, _ => rfl
  | r + 1, h, hn => by
    rw [mapR, has_put_other (fun e => hn (n - 1 - r) (by omega) (by omega) e.symm)]
    exact mapR_no hK k r (by omega) (fun j h1 h2 => hn j (by omega) h2)
theorem mapR_yes (hK : ∀ i, i < n → WideAt.IsKeyLit (K i)) (k : Lit) (z : DataW H) (j : Nat) (hj : j < n) (hk : K j = k) : ∀ r, r ≤ n → n - r ≤ j → (∀ i, n - r ≤ i → i < j → K i ≠ k) →
    has (mapR (H := H) K n r) k = true ∧ (mapR (H := H) K n r).atKey k z = .lit (.int .i64 (j : Int))
  | 0, _, h1, _ => by omega
  | r + 1, h, h1, hf => by
    rw [mapR]
    by_cases e : n - 1 - r = j
    · rw [e, hk]
      have hkl := hK j hj
      rw [hk] at hkl
      exact ⟨has_put_same (mapR_isMap K n r) hkl _, atKey_put_same (mapR_isMap K n r) hkl _ _⟩
    · have hne : k ≠ K (n - 1 - r) := fun e2 => hf (n - 1 - r) (by omega) (by omega) e2.symm
      rw [has_put_other hne, atKey_put_other hne]
      exact mapR_yes hK k z j hj hk r (by omega) (by omega) (fun i h2 h3 => hf i (by omega) h3)
theorem mapR_size_le (hK : ∀ i, i < n → WideAt.IsKeyLit (K i)) : ∀ r, r ≤ n → size (mapR (H := H) K n r) ≤ r
  | 0, _ => Nat.le_refl _
  | r + 1, h => by
    have ih := mapR_size_le hK r (by omega)
    rw [mapR, size_put (mapR_tidy hK r (by omega))]
    split <;> omega
theorem mapR_apart (hK : ∀ i, i < n → WideAt.IsKeyLit (K i)) : ∀ r, r ≤ n → (∀ i j, n - r ≤ i → i < j → j < n → K i ≠ K j) → size (mapR (H := H) K n r) = r
  | 0, _, _ => rfl
  | r + 1, h, ha => by
    have ih := mapR_apart hK r (by omega) (fun i j h1 h2 h3 => ha i j (by omega) h2 h3)
    rw [mapR, size_put (mapR_tidy hK r (by omega)), mapR_no hK _ r (by omega) (fun j h1 h2 e => ha (n - 1 - r) j (by omega) (by omega) h2 e.symm), ih]
    simp
theorem mapR_alike (hK : ∀ i, i < n → WideAt.IsKeyLit (K i)) (i j : Nat) (hij : i < j) (hj : j < n) (e : K i = K j) : ∀ r, r ≤ n → n - r ≤ i → size (mapR (H := H) K n r) < r
  | 0, _, h1 => by omega
  | r + 1, h, h1 => by
    have hle := mapR_size_le (H := H) hK r (by omega)
    rw [mapR, size_put (mapR_tidy hK r (by omega))]
    by_cases e2 : n - 1 - r = i
    · have hh : has (mapR (H := H) K n r) (K (n - 1 - r)) = true := by
        cases hb : has (mapR (H := H) K n r) (K (n - 1 - r)) with
        | true => rfl
        | false =>
          obtain ⟨m, ⟨hm1, hm2, hm3⟩, _, hmin⟩ := least_of (P := fun m => n - r ≤ m ∧ m < n ∧ K m = K (n - 1 - r)) j ⟨by omega, hj, by rw [e2, e]⟩
          have := (mapR_yes (H := H) hK (K (n - 1 - r)) (.map []) m hm2 hm3 r (by omega) hm1 (fun i h1 h2 h3 => hmin i h2 ⟨h1, by omega, h3⟩)).1
          rw [hb] at this
          cases this
      rw [hh, if_pos rfl]
      omega
    · have ih := mapR_alike hK i j hij hj e r (by omega) (by omega)
      split <;> omega
end Go.Proofs.Ytibepggakjfbcaa
