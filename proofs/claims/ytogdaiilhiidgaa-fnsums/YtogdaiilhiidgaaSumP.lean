/- The sum tells any one byte: plain. -/
import Derived.Test.YtogdaiilhiidgaaPlain
import Derived.WalkKit
import Derived.Laws.BitsAllLaws
namespace Go.Proofs.Ytogdaiilhiidgaa

theorem fold_ne : ∀ (l : List UInt8) (n m : Int), 0 ≤ n → n < 65521 → 0 ≤ m → m < 65521 → n ≠ m →
    l.foldl (fun n c => (31 * n + (c.toNat : Int)) % 65521) n ≠ l.foldl (fun n c => (31 * n + (c.toNat : Int)) % 65521) m
  | [], n, m, _, _, _, _, h => h
  | c :: l, n, m, h0, h1, h2, h3, h => by
    rw [List.foldl_cons, List.foldl_cons]
    refine fold_ne l _ _ (by omega) (by omega) (by omega) (by omega) ?_
    intro e
    omega

theorem sum_ne (a b : List UInt8) (x y : UInt8) (h : x ≠ y) : sumL (a ++ x :: b) ≠ sumL (a ++ y :: b) := by
  unfold sumL
  rw [List.foldl_append, List.foldl_append, List.foldl_cons, List.foldl_cons]
  have hb := sumL_bd a
  unfold sumL at hb
  generalize a.foldl (fun n c => (31 * n + (c.toNat : Int)) % 65521) 1 = n at *
  have hx := x.toNat_lt
  have hy := y.toNat_lt
  have hne : x.toNat ≠ y.toNat := fun e => h (UInt8.toNat_inj.1 e)
  refine fold_ne b _ _ (by omega) (by omega) (by omega) (by omega) ?_
  intro e
  omega

theorem sum_bent (s m : ByteArray) (k : Nat) (hk : k < s.size) (x : UInt8) (hm : m.data.toList = [x]) (h : x ≠ s[k]) :
    sumL ((s.extract 0 k ++ m) ++ s.extract (k + 1) s.size).data.toList ≠ sumL s.data.toList := by
  have e : ((s.extract 0 k ++ m) ++ s.extract (k + 1) s.size).data.toList = s.data.toList.take k ++ x :: s.data.toList.drop (k + 1) := by
    simp [ByteArray.data_append, ByteArray.data_extract, hm]
    rw [List.take_of_length_le (by simp)]
  have e2 : s.data.toList = s.data.toList.take k ++ s[k] :: s.data.toList.drop (k + 1) := by
    rw [get_toList s k hk, List.getElem_cons_drop]
    simp
  rw [e]
  conv => rhs; rw [e2]
  exact sum_ne _ _ _ _ h

theorem wrap_u8_in (x : Int) (h : 0 ≤ x) (h' : x < 256) : IntKind.u8.wrap x = x := by
  show x % 256 = x
  omega

theorem sz_bent1 (s : ByteArray) (k : Nat) (x : UInt8) (h : s.size ≤ 200) : (s.extract 0 k).size + (ByteArray.mk #[x]).size ≤ 1000000 := by
  simp only [ByteArray.size_extract]
  show min k s.size - 0 + 1 ≤ 1000000
  omega
theorem sz_bent2 (s : ByteArray) (k : Nat) (x : UInt8) (h : s.size ≤ 200) : (s.extract 0 k ++ ByteArray.mk #[x]).size + (s.extract (k + 1) s.size).size ≤ 1000000 := by
  simp only [ByteArray.size_append, ByteArray.size_extract]
  show min k s.size - 0 + 1 + (min s.size s.size - (k + 1)) ≤ 1000000
  omega
theorem sz_bent3 (s : ByteArray) (k : Nat) (x : UInt8) (h : s.size ≤ 200) : (s.extract 0 k ++ ByteArray.mk #[x] ++ s.extract (k + 1) s.size).size ≤ 1000 := by
  simp only [ByteArray.size_append, ByteArray.size_extract]
  show min k s.size - 0 + 1 + (min s.size s.size - (k + 1)) ≤ 1000
  omega

theorem xor_byte (c : UInt8) (v : Nat) (hv : v < 255) : ∃ x : UInt8, x ≠ c ∧ bits .xor .u8 (c.toNat : Int) (1 + (v : Int)) = (x.toNat : Int) := by
  have hc := c.toNat_lt
  refine ⟨c ^^^ UInt8.ofNat (1 + v), ?_, ?_⟩
  · intro e
    have := congrArg (fun z => c ^^^ z) e
    simp only [← UInt8.xor_assoc, UInt8.xor_self, UInt8.zero_xor] at this
    have h2 := congrArg UInt8.toNat this
    rw [UInt8.toNat_ofNat_of_lt' (by show 1 + v < 256; omega)] at h2
    simp at h2
  · have := u8_xor_nat c.toNat (1 + v) hc (by omega)
    rw [show (1 + (v : Int)) = ((1 + v : Nat) : Int) from by omega, this, UInt8.toNat_xor, UInt8.toNat_ofNat_of_lt' (by show 1 + v < 256; omega)]
end Go.Proofs.Ytogdaiilhiidgaa
