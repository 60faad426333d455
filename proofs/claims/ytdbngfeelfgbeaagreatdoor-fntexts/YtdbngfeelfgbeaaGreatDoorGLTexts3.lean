/- The model's reading of a number: the contract. The runs of bytes of a text that are not blanks: plain. -/
import Derived.Test.YtdbngfeelfgbeaaGreatDoorGLTexts2
import Derived.Test.YtdbngfeelfgbeaaGreatDoorChecked
import Derived.WalkKit
import Derived.WalkSpells
import Derived.LoopTactic
import Derived.Laws.IdiomStrings
import Derived.Lib.Strings
import Derived.Lib.FieldsP
namespace Go.Proofs.YtdbngfeelfgbeaaGreatDoor.Tx
open Go.RowKit
set_option linter.unusedVariables false

theorem len_list (s : ByteArray) : s.data.toList.length = s.size := by
  rw [Array.length_toList]
  rfl
theorem at_list (s : ByteArray) (k : Nat) (h : k < s.size) : s.data.toList[k]? = some s[k] := by
  rw [List.getElem?_eq_getElem (by rw [len_list]; exact h)]
  rfl
theorem take_next (s : ByteArray) (k : Nat) (h : k < s.size) : s.data.toList.take (k + 1) = s.data.toList.take k ++ [s[k]] := by
  rw [List.take_add_one, at_list s k h]
  rfl
theorem take_full (s : ByteArray) : s.data.toList.take s.size = s.data.toList := by
  apply List.take_of_length_le
  rw [len_list]
  exact Nat.le_refl _
def numV (t : List UInt8) : Int := (numB t).getD 0
def numK (t : List UInt8) : Bool := (numB t).isSome
theorem numD_no (neg : Bool) (d : List UInt8) (h : d = [] ∨ 18 < d.length ∨ (d.head? = some 48 ∧ (1 < d.length ∨ neg = true))) : numD neg d = none := by
  unfold numD
  rw [if_pos h]
theorem numD_bad (neg : Bool) (d : List UInt8) (h : Lib.decFrom 0 d = none) : numD neg d = none := by
  unfold numD
  rw [h]
  split <;> rfl
theorem numD_yes (neg : Bool) (d : List UInt8) (m : Nat) (h : ¬ (d = [] ∨ 18 < d.length ∨ (d.head? = some 48 ∧ (1 < d.length ∨ neg = true)))) (hm : Lib.decFrom 0 d = some m) : numD neg d = some (if neg then -(m : Int) else (m : Int)) := by
  unfold numD
  rw [if_neg h, hm]
  rfl
theorem dec_none (s : ByteArray) (k : Nat) (h : k < s.size) (hd : Lib.digitVal s[k] = none) : Lib.decFrom 0 s.data.toList = none := by
  cases e : Lib.decFrom 0 s.data.toList with
  | none => rfl
  | some m =>
    obtain ⟨x, hx⟩ := Lib.digit_of_decFrom _ _ _ e k s[k] (at_list s k h)
    rw [hx] at hd
    cases hd
theorem dec_next (s : ByteArray) (k m : Nat) (h : k < s.size) (hm : Lib.decFrom 0 (s.data.toList.take k) = some m) (h0 : 48 ≤ s[k].toNat) (h1 : s[k].toNat ≤ 57) : Lib.decFrom 0 (s.data.toList.take (k + 1)) = some (m * 10 + (s[k].toNat - 48)) := by
  rw [take_next s k h, decFrom_snoc, hm]
  have : Lib.digitVal s[k] = some (s[k].toNat - 48) := by
    unfold Lib.digitVal
    rw [if_pos ⟨h0, h1⟩]
  rw [this]
  rfl
theorem ret_nb {a b : Int} {x y : Bool} (h : a = b) (k : x = y) : Ending.returned (.tuple #[.int .i64 a, .bool x]) = .returned (.tuple #[.int .i64 b, .bool y]) := by rw [h, k]
theorem head_list (s : ByteArray) (h : 0 < s.size) : s.data.toList.head? = some s[0] := by
  rw [List.head?_eq_getElem?]
  exact at_list s 0 h
theorem u8_eq {a b : UInt8} (h : a.toNat = b.toNat) : a = b := UInt8.toNat_inj.1 h

/-- What stands behind the sign. -/
structure Rest (t d : ByteArray) (neg : Bool) : Prop where
  num : numB t.data.toList = numD neg d.data.toList
theorem ans_no {t d : ByteArray} {neg : Bool} (h : Rest t d neg) (hn : numD neg d.data.toList = none) : numV t.data.toList = 0 ∧ numK t.data.toList = false := by
  unfold numV numK
  rw [h.num, hn]
  exact ⟨rfl, rfl⟩
theorem ans_yes {t d : ByteArray} {neg : Bool} {v : Int} (h : Rest t d neg) (hn : numD neg d.data.toList = some v) : numV t.data.toList = v ∧ numK t.data.toList = true := by
  unfold numV numK
  rw [h.num, hn]
  exact ⟨rfl, rfl⟩
theorem rest_pos (t : ByteArray) (h : ¬ (0 < t.size ∧ t.data.toList.head? = some 45)) : Rest t t false := by
  refine ⟨?_⟩
  unfold numB
  rw [if_neg]
  intro e
  refine h ⟨?_, e⟩
  rcases Nat.eq_zero_or_pos t.size with h0 | h0
  · rw [← len_list] at h0
    rw [List.length_eq_zero_iff.1 h0] at e
    cases e
  · exact h0
theorem rest_neg (t : ByteArray) (h : t.data.toList.head? = some 45) : Rest t (t.extract 1 t.size) true := by
  refine ⟨?_⟩
  unfold numB
  rw [if_pos h]
  congr 1
  have : (t.extract 1 t.size).data.toList = (t.data.toList.drop 1).take (t.size - 1) := by
    rw [← ByteArray.toList_eq, Lib.extract_toList]
  rw [this, List.drop_one, List.take_of_length_le]
  rw [List.length_tail, len_list]
  exact Nat.le_refl _

end Go.Proofs.YtdbngfeelfgbeaaGreatDoor.Tx

namespace Go.Proofs.YtdbngfeelfgbeaaGreatDoor.Tx

def bt (s : ByteArray) (i : Nat) : Nat := (s.get! i).toNat
def stepW (s : ByteArray) (st : List ByteArray × Nat) (i : Nat) : List ByteArray × Nat :=
  if i = s.size ∨ bt s i = 32 then ((if st.2 < i then st.1 ++ [s.extract st.2 i] else st.1), i + 1) else st
def wordsTo (s : ByteArray) : Nat → List ByteArray × Nat
  | 0 => ([], 0)
  | i + 1 => stepW s (wordsTo s i) i
/-- The words. -/
def wordsB (s : ByteArray) : List ByteArray := (wordsTo s (s.size + 1)).1

theorem wordsTo_le (s : ByteArray) : ∀ i, (wordsTo s i).2 ≤ i
  | 0 => Nat.le_refl _
  | i + 1 => by
    have := wordsTo_le s i
    unfold wordsTo stepW
    split
    · exact Nat.le_refl _
    · omega
theorem wordsTo_len (s : ByteArray) : ∀ i, (wordsTo s i).1.length ≤ i
  | 0 => Nat.le_refl _
  | i + 1 => by
    have := wordsTo_len s i
    unfold wordsTo stepW
    split
    · split
      · simp; omega
      · simp; omega
    · omega
theorem wordsTo_skip (s : ByteArray) (i : Nat) : ∀ n, (∀ j, i ≤ j → j < i + n → j < s.size ∧ bt s j ≠ 32) → wordsTo s (i + n) = wordsTo s i
  | 0, _ => rfl
  | n + 1, h => by
    have ih := wordsTo_skip s i n fun j h1 h2 => h j h1 (by omega)
    have hn := h (i + n) (by omega) (by omega)
    rw [← Nat.add_assoc]
    show stepW s (wordsTo s (i + n)) (i + n) = _
    unfold stepW
    rw [if_neg fun e => ?_]
    · exact ih
    · rcases e with e | e
      · omega
      · exact hn.2 e

theorem dec_facts (s : ByteArray) (pos : Nat) (h : pos < s.size) :
    1 ≤ (Utf8.decode s pos).2 ∧ pos + (Utf8.decode s pos).2 ≤ s.size ∧ ((Utf8.decode s pos).1 = 32 → (Utf8.decode s pos).2 = 1 ∧ bt s pos = 32) ∧
      ((Utf8.decode s pos).1 ≠ 32 → ∀ k, k < (Utf8.decode s pos).2 → bt s (pos + k) ≠ 32) := by
  have e0 : bt s pos = (s.get! (pos + 0)).toNat := rfl
  have e1 : bt s (pos + 1) = (s.get! (pos + 1)).toNat := rfl
  have e2 : bt s (pos + 2) = (s.get! (pos + 2)).toNat := rfl
  have e3 : bt s (pos + 3) = (s.get! (pos + 3)).toNat := rfl
  have b0 : (s.get! (pos + 0)).toNat < 256 := UInt8.toNat_lt _
  unfold Utf8.decode
  simp only [Bool.and_eq_true, decide_eq_true_eq, beq_iff_eq, ge_iff_le]
  rw [← e0, ← e1, ← e2, ← e3]
  rw [← e0] at b0
  split
  · refine ⟨by simp, by simp; omega, fun e => ⟨rfl, e⟩, fun e k hk => ?_⟩
    obtain rfl : k = 0 := by simp at hk; exact hk
    exact e
  rename_i h0
  have key : ∀ n c : Nat, 128 ≤ c → 1 ≤ n → pos + n ≤ s.size → (∀ k, k < n → bt s (pos + k) ≠ 32) → 1 ≤ (c, n).2 ∧ pos + (c, n).2 ≤ s.size ∧ ((c, n).1 = 32 → (c, n).2 = 1 ∧ bt s pos = 32) ∧ ((c, n).1 ≠ 32 → ∀ k, k < (c, n).2 → bt s (pos + k) ≠ 32) :=
    fun n c hc hn hs hk => ⟨hn, hs, fun e => by simp at e; omega, fun _ => hk⟩
  have one : ∀ k, k < 1 → bt s (pos + k) ≠ 32 := fun k hk => by
    obtain rfl : k = 0 := by omega
    intro e
    have : bt s pos = 32 := e
    omega
  have err : 128 ≤ Utf8.runeError := by decide
  split
  · rename_i hc
    split
    · rename_i hv
      refine key 2 _ hv (by omega) (by omega) fun k hk => ?_
      rcases (show k = 0 ∨ k = 1 by omega) with rfl | rfl
      · exact one 0 (by omega)
      · omega
    · exact key 1 _ err (by omega) (by omega) one
  split
  · rename_i hc
    split
    · rename_i hv
      refine key 3 _ (by omega) (by omega) (by omega) fun k hk => ?_
      rcases (show k = 0 ∨ k = 1 ∨ k = 2 by omega) with rfl | rfl | rfl
      · exact one 0 (by omega)
      · omega
      · omega
    · exact key 1 _ err (by omega) (by omega) one
  split
  · rename_i hc
    split
    · rename_i hv
      refine key 4 _ (by omega) (by omega) (by omega) fun k hk => ?_
      rcases (show k = 0 ∨ k = 1 ∨ k = 2 ∨ k = 3 by omega) with rfl | rfl | rfl | rfl
      · exact one 0 (by omega)
      · omega
      · omega
      · omega
    · exact key 1 _ err (by omega) (by omega) one
  · exact key 1 _ err (by omega) (by omega) one

def isBlank (r : Nat) : Bool := r == 32
def ext (s : ByteArray) (x : Nat × Nat) : ByteArray := s.extract x.1 x.2

theorem spans_words (s : ByteArray) : ∀ (f pos : Nat) (st : Option Nat) (acc : List (Nat × Nat)), s.size ≤ pos + f → pos ≤ s.size → (∀ a, st = some a → a < pos) → wordsTo s pos = (acc.map (ext s), st.getD pos) →
    (Lib.closeSpans s (Lib.spansFromP isBlank s f pos st acc)).map (ext s) = wordsB s
  | 0, pos, st, acc, hf, hp, ha, hw => by
    obtain rfl : pos = s.size := by omega
    unfold wordsB
    show _ = (stepW s (wordsTo s s.size) s.size).1
    rw [hw]
    unfold stepW Lib.spansFromP Lib.closeSpans
    rw [if_pos (.inl rfl)]
    cases st with
    | none => simp
    | some a =>
      have := ha a rfl
      simp [this, ext]
  | f + 1, pos, st, acc, hf, hp, ha, hw => by
    by_cases hlt : pos < s.size
    · obtain ⟨h1, h2, h3, h4⟩ := dec_facts s pos hlt
      unfold Lib.spansFromP
      rw [if_pos hlt]
      by_cases hr : (Utf8.decode s pos).1 = 32
      · obtain ⟨hn, hb⟩ := h3 hr
        have hs : wordsTo s (pos + 1) = ((if st.getD pos < pos then acc.map (ext s) ++ [s.extract (st.getD pos) pos] else acc.map (ext s)), pos + 1) := by
          show stepW s (wordsTo s pos) pos = _
          rw [hw]
          unfold stepW
          rw [if_pos (.inr hb)]
        rw [if_pos (by unfold isBlank; rw [hr]; rfl), hn]
        cases st with
        | none =>
          refine spans_words s f (pos + 1) none acc (by omega) (by omega) (fun a e => by cases e) ?_
          rw [hs]
          simp
        | some a =>
          have hap := ha a rfl
          refine spans_words s f (pos + 1) none (acc ++ [(a, pos)]) (by omega) (by omega) (fun a e => by cases e) ?_
          rw [hs]
          simp [hap, ext]
      · have hs := wordsTo_skip s pos (Utf8.decode s pos).2 fun j hj1 hj2 => ⟨by omega, by
          have := h4 hr (j - pos) (by omega)
          rwa [show pos + (j - pos) = j by omega] at this⟩
        rw [if_neg (by unfold isBlank; simpa using hr)]
        cases st with
        | none =>
          refine spans_words s f _ (some pos) acc (by omega) (by omega) (fun a e => by injection e; omega) ?_
          rw [hs, hw]
          rfl
        | some a =>
          have hap := ha a rfl
          refine spans_words s f _ (some a) acc (by omega) (by omega) (fun a e => by injection e; omega) ?_
          rw [hs, hw]
          rfl
    · rw [Lib.spansFromP_end _ _ _ _ _ _ hlt]
      have := spans_words s 0 pos st acc (by omega) hp ha hw
      rw [Lib.spansFromP_end _ _ _ _ _ _ hlt] at this
      exact this

theorem fields_words (s : ByteArray) : Lib.goFieldsP isBlank s = wordsB s :=
  spans_words s s.size 0 none [] (by omega) (Nat.zero_le _) (fun a e => by cases e) rfl
end Go.Proofs.YtdbngfeelfgbeaaGreatDoor.Tx
