/- The words of a text, registers, lists of texts compared, in the model: contracts. Two lists of texts compared, in the model: the contract. -/
import Derived.Test.YtdbngfeelfgbeaaGreatDoorGLTexts3
import Derived.Test.YtdbngfeelfgbeaaGreatDoorGLTexts21
import Derived.Test.YtdbngfeelfgbeaaGreatDoorGLTexts27
import Derived.BigQuiet
import Derived.Test.YtdbngfeelfgbeaaGreatDoorGLTexts12
namespace Go.Proofs.YtdbngfeelfgbeaaGreatDoor.Tx
open Go.RowKit
set_option linter.unusedVariables false

def strs (l : List ByteArray) : List Value := l.map Value.string
theorem strs_snoc (l : List ByteArray) (x : ByteArray) : strs (l ++ [x]) = strs l ++ strs [x] := by simp [strs]
theorem strs_len (l : List ByteArray) : (strs l).length = l.length := by simp [strs]
theorem bt_at (s : ByteArray) (k : Nat) (h : k < s.size) : bt s k = s[k].toNat := by
  have e : s.get! k = s[k] := by
    show s.data[k]! = _
    exact getElem!_pos s.data k h
  unfold bt
  rw [e]
theorem wordsTo_next (s : ByteArray) (k : Nat) : wordsTo s (k + 1) = stepW s (wordsTo s k) k := rfl

/-- A register's number, or -1. -/
def regN (l : List UInt8) : Int := if 2 ≤ l.length ∧ l.head? = some 120 ∧ numK l.tail = true ∧ regB (numV l.tail) = true then numV l.tail else -1
theorem tail_ext (t : ByteArray) : (t.extract 1 t.size).data.toList = t.data.toList.tail := by
  have : (t.extract 1 t.size).data.toList = (t.data.toList.drop 1).take (t.size - 1) := by
    rw [← ByteArray.toList_eq, Lib.extract_toList]
  rw [this, List.drop_one, List.take_of_length_le]
  rw [List.length_tail, len_list]
  exact Nat.le_refl _

end Go.Proofs.YtdbngfeelfgbeaaGreatDoor.Tx

namespace Go.Proofs.YtdbngfeelfgbeaaGreatDoor.Tx
open Go.RowKit
set_option linter.unusedVariables false

/-- A slice of texts that is there to be read. -/
structure Texts (w : World) (v : Value) (xs : List ByteArray) : Prop where
  shape : ∃ p c, v = .slice p xs.length c
  at' : 0 < xs.length → ∃ g c, v = .slice (some ⟨g, 0, none⟩) xs.length c ∧ g < w.heap.size ∧ ∀ j x, xs[j]? = some x → w.cell? ⟨g, j, none⟩ = some (.string x)
theorem texts_of {w : World} {B : Nat} {v : Value} {xs : List ByteArray} (h : w.ownsRow B 9 1 v xs.length (strs xs)) : Texts w v xs := by
  constructor
  · rcases h.2 with ⟨rfl, h0⟩ | ⟨g, cap, cur, rfl, _⟩
    · exact ⟨none, 0, by rw [h0]⟩
    · exact ⟨_, _, rfl⟩
  · intro hp
    rcases h.2 with ⟨rfl, h0⟩ | ⟨g, cap, cur, rfl, _, hh, _⟩
    · omega
    · refine ⟨g, cap, rfl, (Array.getElem?_eq_some_iff.1 hh).1, fun j x hj => ?_⟩
      have hjl : j < xs.length := (List.getElem?_eq_some_iff.1 hj).1
      rw [h.cellAt j (by omega)]
      unfold strs
      rw [List.getElem?_map, hj]
      rfl
theorem texts_below {w w' : World} {v : Value} {xs : List ByteArray} (h : Texts w v xs) (hb : Below w.heap.size w w') : Texts w' v xs :=
  ⟨h.shape, fun hp => by
    obtain ⟨g, c, e, hg, hc⟩ := h.at' hp
    exact ⟨g, c, e, Nat.lt_of_lt_of_le hg hb.size, fun j x hj => (hb.cell (p := ⟨g, j, none⟩) hg).trans (hc j x hj)⟩⟩

theorem str_ne {x y : ByteArray} (h : x ≠ y) : (x.toList == y.toList) = false := by
  rw [beq_eq_false_iff_ne]
  intro e
  rw [ByteArray.toList_eq, ByteArray.toList_eq] at e
  exact h (ByteArray.ext (Array.toList_inj.1 e))

end Go.Proofs.YtdbngfeelfgbeaaGreatDoor.Tx
