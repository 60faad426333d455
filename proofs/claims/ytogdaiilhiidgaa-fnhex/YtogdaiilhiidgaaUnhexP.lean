/- Bytes of digits: plain. -/
import Derived.Test.YtogdaiilhiidgaaPlain
import Derived.Laws.Externs
namespace Go.Proofs.Ytogdaiilhiidgaa

/-- The number that a digit is, -1 of any other sign. -/
def unD (c : UInt8) : Int := if 48 ≤ c.toNat ∧ c.toNat ≤ 57 then c.toNat - 48 else if 97 ≤ c.toNat ∧ c.toNat ≤ 102 then c.toNat - 87 else -1

theorem unD_bd (c : UInt8) : -1 ≤ unD c ∧ unD c < 16 := by
  unfold unD
  split
  · omega
  · split <;> omega

theorem firstIdx_digits (c : UInt8) : firstIdx { data := #[48, 49, 50, 51, 52, 53, 54, 55, 56, 57, 97, 98, 99, 100, 101, 102] } c = unD c := by
  have h : ∀ n : Fin 256, firstIdx { data := #[48, 49, 50, 51, 52, 53, 54, 55, 56, 57, 97, 98, 99, 100, 101, 102] } (UInt8.ofNat n.1) = unD (UInt8.ofNat n.1) := by decide +kernel
  have := h ⟨c.toNat, c.toNat_lt⟩
  simpa using this

/-- The sign at a place. -/
def bt (s : ByteArray) (i : Nat) : UInt8 := s.data.toList.getD i 0
theorem bt_eq (s : ByteArray) (i : Nat) (h : i < s.size) : s[i] = bt s i := by
  have hl := len_toList s
  unfold bt
  rw [get_toList s i h]
  simp [List.getD, hl, h]

def okAt (s : ByteArray) (i : Nat) : Bool := decide (0 ≤ unD (bt s (2 * i))) && decide (0 ≤ unD (bt s (2 * i + 1)))
def byteAt (s : ByteArray) (i : Nat) : UInt8 := UInt8.ofNat (16 * unD (bt s (2 * i)) + unD (bt s (2 * i + 1))).toNat
def decP (s : ByteArray) (k : Nat) : List UInt8 := (List.range k).map (byteAt s)
theorem decP_len (s : ByteArray) (k : Nat) : (decP s k).length = k := by simp [decP]
theorem decP_succ (s : ByteArray) (k : Nat) : decP s (k + 1) = decP s k ++ [byteAt s k] := by
  simp [decP, List.range_succ]

/-- What both BytesOf come to of a text that is not too long. -/
def resB (s : ByteArray) : Option (List UInt8) :=
  if s.size % 2 = 0 ∧ (List.range (s.size / 2)).all (okAt s) = true then some (decP s (s.size / 2)) else none

theorem resB_odd (s : ByteArray) (h : s.size % 2 ≠ 0) : resB s = none := by
  unfold resB; rw [if_neg (by intro e; exact h e.1)]
theorem resB_at (s : ByteArray) (k : Nat) (hk : k < s.size / 2) (h : okAt s k = false) : resB s = none := by
  unfold resB
  rw [if_neg]
  intro e
  have := List.all_eq_true.1 e.2 k (List.mem_range.2 hk)
  rw [h] at this
  cases this
theorem resB_yes (s : ByteArray) (h : s.size % 2 = 0) (ha : ∀ i, i < s.size / 2 → okAt s i = true) : resB s = some (decP s (s.size / 2)) := by
  unfold resB
  rw [if_pos ⟨h, List.all_eq_true.2 fun i hi => ha i (List.mem_range.1 hi)⟩]

theorem byteAt_nat (s : ByteArray) (i : Nat) (h : okAt s i = true) : ((byteAt s i).toNat : Int) = 16 * unD (bt s (2 * i)) + unD (bt s (2 * i + 1)) := by
  unfold okAt at h
  have h1 := unD_bd (bt s (2 * i))
  have h2 := unD_bd (bt s (2 * i + 1))
  simp at h
  unfold byteAt
  rw [UInt8.toNat_ofNat_of_lt' (by show (16 * unD (bt s (2 * i)) + unD (bt s (2 * i + 1))).toNat < 256; omega)]
  omega
end Go.Proofs.Ytogdaiilhiidgaa
