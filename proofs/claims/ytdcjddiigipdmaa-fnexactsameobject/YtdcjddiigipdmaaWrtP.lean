/- An image's text, plain. -/
import Derived.Test.YtdcjddiigipdmaaLitP
import Derived.Test.YtdcjddiigipdmaaSymO
import Derived.Test.YtdcjddiigipdmaaPlain
namespace Go.Proofs.Ytdcjddiigipdmaa
open Go Go.RowKit
set_option linter.unusedVariables false

/-- A number of n bytes, as a text. -/
def leT (v : Int) (n : Nat) : ByteArray := ⟨(leL (u64 v) n).toArray⟩
theorem leT_size (v : Int) (n : Nat) : (leT v n).size = n := by
  show (leL (u64 v) n).toArray.size = n
  rw [List.size_toArray, leL_len]
theorem leT_data (v : Int) (n : Nat) : (leT v n).data.toList = leL (u64 v) n := rfl
/-- A symbol's bytes. -/
def symL (d : SymD) : List UInt8 := leL (u64 d.nm.size) 1 ++ d.nm.data.toList ++ leL (u64 d.kd) 1 ++ leL (u64 d.pl) 2 ++ leL (u64 d.sz) 2 ++ leL (u64 d.fr) 1
theorem symL_len (d : SymD) : (symL d).length = d.nm.size + 7 := by
  unfold symL
  simp only [List.length_append, leL_len]
  rw [len_toList]
  omega
def symsL (S : Nat → SymD) : Nat → List UInt8
  | 0 => []
  | m + 1 => symsL S m ++ symL (S m)
theorem symsL_len {S : Nat → SymD} : ∀ {m : Nat}, (∀ i, i < m → (S i).nm.size ≤ 20) → (symsL S m).length ≤ 27 * m
  | 0, _ => Nat.le_refl _
  | m + 1, h => by
    have h1 := symsL_len (S := S) (m := m) (fun i hi => h i (by omega))
    have h2 := h m (by omega)
    show (symsL S m ++ symL (S m)).length ≤ _
    rw [List.length_append, symL_len]
    omega
/-- What stands ahead of the symbols. -/
def headL (c s : ByteArray) (n : Nat) : List UInt8 := [80, 73, 77, 49] ++ leL (u64 c.size) 2 ++ c.data.toList ++ leL (u64 s.size) 2 ++ s.data.toList ++ leL (u64 n) 1
theorem headL_len (c s : ByteArray) (n : Nat) : (headL c s n).length = c.size + s.size + 9 := by
  unfold headL
  simp only [List.length_append, leL_len]
  rw [len_toList, len_toList]
  simp only [List.length_cons, List.length_nil]
  omega
def bodyL (c s : ByteArray) (n : Nat) (S : Nat → SymD) : List UInt8 := headL c s n ++ symsL S n
def sealL (l : List UInt8) : List UInt8 := l ++ leL (u64 (sumL l)) 4
/-- An image that is not great. -/
structure Small (c s : ByteArray) (n : Nat) (S : Nat → SymD) : Prop where
  n16 : n ≤ 16
  c1 : c.size ≤ 1024
  s1 : s.size ≤ 256
  nm : ∀ i, i < n → (S i).nm.size ≤ 20
theorem Small.len {c s : ByteArray} {n : Nat} {S : Nat → SymD} (h : Small c s n S) {m : Nat} (hm : m ≤ n) : (headL c s n ++ symsL S m).length ≤ 2000 := by
  have h1 := symsL_len (S := S) (m := m) (fun i hi => h.nm i (by omega))
  have := h.n16
  have := h.c1
  have := h.s1
  rw [List.length_append, headL_len]
  omega
theorem bytes_eq {a b : ByteArray} (h : a.data.toList = b.data.toList) : a = b := by
  cases a with
  | mk x =>
    cases b with
    | mk y => simp at h; rw [show x = y from h]
theorem app_data (a b : ByteArray) : (a ++ b).data.toList = a.data.toList ++ b.data.toList := by
  rw [ByteArray.data_append, Array.toList_append]
end Go.Proofs.Ytdcjddiigipdmaa
