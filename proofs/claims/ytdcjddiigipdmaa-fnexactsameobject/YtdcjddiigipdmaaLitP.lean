/- Numbers as bytes: plain. -/
import Derived.WalkKit
namespace Go.Proofs.Ytdcjddiigipdmaa

/-- The byte at a place of a number. -/
def leAt (u : Nat) (i : Nat) : UInt8 := UInt8.ofNat (u / 2 ^ (8 * i))
def leL (u n : Nat) : List UInt8 := (List.range n).map (leAt u)
theorem leL_len (u n : Nat) : (leL u n).length = n := by simp [leL]
theorem leL_succ (u n : Nat) : leL u (n + 1) = leL u n ++ [leAt u n] := by simp [leL, List.range_succ]
/-- The 64 bits of a number. -/
def u64 (v : Int) : Nat := (v % 18446744073709551616).toNat
theorem u64_lt (v : Int) : u64 v < 18446744073709551616 := by
  unfold u64
  omega

theorem leAt_nat (u i : Nat) : ((leAt u i).toNat : Int) = (u : Int) / 2 ^ (8 * i) % 256 := by
  unfold leAt
  rw [UInt8.toNat_ofNat']
  simp

theorem wrap_u64 (v : Int) : IntKind.u64.wrap v = (u64 v : Int) := by
  show v % 18446744073709551616 = _
  unfold u64
  omega
theorem wrap_u8 (v : Int) : IntKind.u8.wrap v = ((u64 v % 256 : Nat) : Int) := by
  show v % 256 = _
  unfold u64
  omega
theorem wrap_u16 (v : Int) : IntKind.u16.wrap v = ((u64 v % 65536 : Nat) : Int) := by
  show v % 65536 = _
  unfold u64
  omega
theorem wrap_u32 (v : Int) : IntKind.u32.wrap v = ((u64 v % 4294967296 : Nat) : Int) := by
  show v % 4294967296 = _
  unfold u64
  omega

theorem leAt_mod (u m i : Nat) (h : u / 2 ^ (8 * i) % 256 = m / 2 ^ (8 * i) % 256) : leAt u i = leAt m i := by
  unfold leAt
  rw [← UInt8.toNat_inj, UInt8.toNat_ofNat', UInt8.toNat_ofNat']
  exact h
theorem leL_1 (u : Nat) : leL (u % 256) 1 = leL u 1 := by
  simp only [leL, List.range_succ, List.range_zero, List.nil_append, List.map_cons, List.map_nil]
  rw [leAt_mod (u % 256) u 0 (by simp)]
theorem leL_2 (u : Nat) : leL (u % 65536) 2 = leL u 2 := by
  simp only [leL, List.range_succ, List.range_zero, List.nil_append, List.cons_append, List.map_cons, List.map_nil]
  rw [leAt_mod (u % 65536) u 0 (by simp), leAt_mod (u % 65536) u 1 (by simp; omega)]
theorem leL_4 (u : Nat) : leL (u % 4294967296) 4 = leL u 4 := by
  simp only [leL, List.range_succ, List.range_zero, List.nil_append, List.cons_append, List.map_cons, List.map_nil]
  rw [leAt_mod (u % 4294967296) u 0 (by simp), leAt_mod (u % 4294967296) u 1 (by simp; omega), leAt_mod (u % 4294967296) u 2 (by simp; omega), leAt_mod (u % 4294967296) u 3 (by simp; omega)]
end Go.Proofs.Ytdcjddiigipdmaa
