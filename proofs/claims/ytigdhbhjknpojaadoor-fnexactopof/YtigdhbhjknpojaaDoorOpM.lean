/- The numbers of the operations' names: plain. -/
import Derived.Test.YtigdhbhjknpojaaDoorOpL
import Derived.Maps.Own
import Derived.Maps.OwnOps
import Derived.Maps.Views
namespace Go.Proofs.YtigdhbhjknpojaaDoor.Op
open Go.RowKit Go.Maps
set_option linter.unusedVariables false

def keyAt (i : Nat) : Lit := .string (wordAt i).data.toList
/-- The map behind k rounds: the names 1 to k. -/
def mapT {H : Type} : Nat → DataW H
  | 0 => .map []
  | k + 1 => (mapT k).put (keyAt (k + 1)) (.lit (.int .i64 ((k + 1 : Nat) : Int)))
/-- The last of the names 1 to k that is s, 0 if there is none. -/
def lastT (s : ByteArray) : Nat → Nat
  | 0 => 0
  | k + 1 => if (wordAt (k + 1)).data.toList = s.data.toList then k + 1 else lastT s k

theorem mapT_isMap {H : Type} : ∀ k, IsMap (mapT (H := H) k)
  | 0 => isMap_empty
  | k + 1 => (mapT_isMap k).put _ _

theorem mapT_at {H : Type} (s : ByteArray) : ∀ k, (mapT (H := H) k).atKey (.string s.data.toList) (.lit (.int .i64 0)) = .lit (.int .i64 (lastT s k : Nat))
  | 0 => rfl
  | k + 1 => by
    rw [mapT, lastT]
    by_cases h : (wordAt (k + 1)).data.toList = s.data.toList
    · rw [if_pos h, keyAt, h]
      exact atKey_put_same (mapT_isMap k) (show WideAt.IsKeyLit (.string s.data.toList) from trivial) _ _
    · rw [if_neg h, atKey_put_other]
      · exact mapT_at s k
      · intro e
        injection e with e
        exact h e.symm

theorem wordAt_list (i : Nat) : (wordAt i).data.toList = words.getD i [] := rfl
set_option maxRecDepth 100000 in
theorem words_nodup : words.Nodup := by decide +kernel
set_option maxRecDepth 100000 in
theorem words_short : ∀ t ∈ words, t.length ≤ 8 := by decide +kernel

theorem word_inj (i j : Nat) (hi : i < 65) (hj : j < 65) (h : words.getD i [] = words.getD j []) : i = j := by
  rw [← words_at i (by rw [words_len]; exact hi), ← words_at j (by rw [words_len]; exact hj)] at h
  exact (List.getElem_inj words_nodup).1 h

theorem lastT_hit (s : ByteArray) (k : Nat) (hk : k < 65) (h : (wordAt k).data.toList = s.data.toList) : ∀ n, k ≤ n → n < 65 → 1 ≤ k → lastT s n = k
  | 0, h0, _, h1 => by omega
  | n + 1, h0, h2, h1 => by
    rw [lastT]
    by_cases e : k = n + 1
    · rw [← e, if_pos h]
    · rw [if_neg (fun h3 => e (word_inj k (n + 1) hk h2 (h.trans h3.symm))), lastT_hit s k hk h n (by omega) (by omega) h1]

theorem lastT_miss (s : ByteArray) : ∀ n, (∀ j, 1 ≤ j → j ≤ n → (wordAt j).data.toList ≠ s.data.toList) → lastT s n = 0
  | 0, _ => rfl
  | n + 1, h => by rw [lastT, if_neg (h (n + 1) (by omega) (by omega)), lastT_miss s n (fun j a b => h j a (by omega))]

theorem lastT_long (s : ByteArray) (h : 8 < s.size) : lastT s 64 = 0 := by
  apply lastT_miss
  intro j h1 h2 e
  have hm : (words.getD j []) ∈ words := by
    rw [← words_at j (by rw [words_len]; omega)]
    exact List.getElem_mem _
  have h3 := words_short _ hm
  rw [← wordAt_list, e] at h3
  have h4 : s.data.toList.length = s.size := by rw [Array.length_toList]; rfl
  omega

/-- Is a text the name of an operation? -/
def isW (s : ByteArray) (i : Nat) : Bool := (wordAt i).toList == s.toList
theorem isW_true {s : ByteArray} {i : Nat} (h : isW s i = true) : (wordAt i).data.toList = s.data.toList := by
  have := eq_of_beq h
  have e1 : ∀ t : ByteArray, t.toList = t.data.toList := fun t => ByteArray.toList_eq t
  rw [e1, e1] at this
  exact this
theorem isW_false {s : ByteArray} {i : Nat} (h : isW s i = false) : (wordAt i).data.toList ≠ s.data.toList := by
  intro e
  have e1 : ∀ t : ByteArray, t.toList = t.data.toList := fun t => ByteArray.toList_eq t
  have : isW s i = true := by
    unfold isW
    rw [e1, e1, e]
    exact beq_self_eq_true _
  rw [this] at h
  cases h
end Go.Proofs.YtigdhbhjknpojaaDoor.Op
