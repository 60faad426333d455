/- Numbers into bytes: contracts (without the errors). -/
import Derived.Test.YtdcjddiigipdmaaBuf
import Derived.Test.YtdcjddiigipdmaaLitP
import Derived.Test.YtdcjddiigipdmaaRows
import Derived.WalkKit
import Derived.WalkSpells
import Derived.ProofKit
import Derived.Below
import Derived.Laws.BitsLemmas
namespace Go.Proofs.Ytdcjddiigipdmaa
open Go.RowKit
set_option linter.unusedVariables false
theorem Try.info_u8 : (Try.prog.info? 5).map (fun i => (i.zero, i.size, i.bytes)) = some (some (.int .u8 0), 1, 1) := by kernel_rfl

theorem zero_cells (n : Nat) : (madeCells (Value.cells (.int .u8 0)) (n * 1)).toList = byteVals (List.replicate n 0) := by
  rw [show Value.cells (.int .u8 0) = #[.int .u8 0] from rfl, Nat.mul_one, toList_madeCells_one]
  simp [byteVals]
theorem zero_le (x k m : Nat) (h : k < m) : (byteVals (leL x k ++ List.replicate (m - k) 0))[k]? = some (.int .u8 0) := by
  unfold byteVals
  rw [List.map_append, List.getElem?_append_right (by rw [List.length_map, leL_len]; exact Nat.le_refl _), List.length_map, leL_len, Nat.sub_self]
  obtain ⟨r, hr⟩ : ∃ r, m - k = r + 1 := ⟨m - k - 1, by omega⟩
  rw [hr, List.replicate_succ]
  rfl
theorem set_le (x k m : Nat) (h : k < m) :
    (byteVals (leL x k ++ List.replicate (m - k) 0)).set k (.int .u8 ((leAt x k).toNat : Int)) = byteVals (leL x (k + 1) ++ List.replicate (m - (k + 1)) 0) := by
  unfold byteVals
  rw [leL_succ, List.map_append, List.set_append_right _ _ (by rw [List.length_map, leL_len]; exact Nat.le_refl _), List.length_map, leL_len, Nat.sub_self]
  obtain ⟨r, hr⟩ : ∃ r, m - k = r + 1 := ⟨m - k - 1, by omega⟩
  rw [hr, show m - (k + 1) = r from by omega, List.replicate_succ]
  simp

set_option maxRecDepth 100000 in
set_option maxHeartbeats 1000000 in
theorem specLittle0 (v : Int) (n : Nat) (w : World) (hn : n ≤ 8) :
    Calls Try.prog 93 #[.int .i64 v, .int .i64 n] w fun e w' => e = .returned (.string ⟨(leL (u64 v) n).toArray⟩) ∧ Below w.heap.size w w' := by
  obtain ⟨i0, hi, hz0, hz1, hz2⟩ := info_parts Try.info_u8
  have hwu := wrap_u64 v
  go_enter Try.func93, Try.ntmps93
  go_wp2
  go_loopw [5, 6] (fun x t wr => ∃ k : Nat, k ≤ n ∧ t = .int .i64 k ∧ Buf wr w.heap.size 5 x (leL (u64 v) k) ∧ Below w.heap.size w wr) (fun _ t _ => n - (intOf t).toNat)
  case atStart => exact ⟨0, Nat.zero_le _, rfl, World.ownsRow_made w #[] 0 (Nat.le_refl _) (Nat.zero_le _) rfl, (Below.refl _ _).alloc (Nat.le_refl _) _⟩
  case round =>
    obtain ⟨k, hk, rfl, hbuf, hbel⟩ := hrel
    by_cases hlt : k < n
    · have hv : ((u64 v : Int) / 2 ^ (8 * k)) % 256 = ((leAt (u64 v) k).toNat : Int) := (leAt_nat (u64 v) k).symm
      have hsz := hbel.size
      have hlen : (leL (u64 v) k).length ≤ 8 := by rw [leL_len]; omega
      go_wp2_with (at_builtin; refine wpList_append_lies _ rfl _ _ 70 rfl w.heap.size 5 i0 _ 1 1 Try.underlying70 hi hz0 hz1 hz2 rfl (by omega) _ _ _ rfl (hbuf.alloc _) ⟨wr.heap.size, 0, none⟩ 1 1 (byteVals [leAt (u64 v) k]) rfl rfl (World.news_of_block (cs := #[.int .u8 (leAt (u64 v) k).toNat]) (t := 5) (fr := (0, 0)) (heap_alloc_new wr _)) (by simp [byteVals, Value.oneCell']) (by omega) (by unfold maxLen; omega) (by omega) (by simp; omega) (wr.heap.size + 1) (by simp) ?_; intro gg cap2 w2 hown1 hgrow hat hlt1)
      go_roundw
      case rel => exact ⟨k + 1, by omega, by go_num, by rw [leL_succ]; exact Buf.put rfl hown1, hbuf.below (hbel.alloc hsz _) hgrow (by simp; omega)⟩
      case measure => simp [intOf]; omega
    · have hconv := Buf.string Try.underlying70 Try.underlying5 Try.underlying9 hbuf
      go_wp2
      go_ret
      obtain rfl : k = n := by omega
      exact ⟨rfl, hbel⟩

set_option maxRecDepth 100000 in
set_option maxHeartbeats 1000000 in
theorem spread_u32 (x n : Nat) (w : World) (hn : n ≤ 4) (hx : x < 4294967296) :
    Calls Try.prog 108 #[.int .u32 x, .int .i64 n] w fun e w' => e = .returned (.string ⟨(leL x n).toArray⟩) ∧ Below w.heap.size w w' := by
  obtain ⟨i0, hi, hz0, hz1, hz2⟩ := info_parts Try.info_u8
  go_enter Try.func108, Try.ntmps108
  go_wp2_with (at_make; refine wpList_make_full _ rfl _ _ 70 rfl w.heap.size 5 i0 _ 1 Try.underlying70 hi hz0 hz1 .i64 .i64 _ _ n rfl rfl (by omega) (by omega) (by rw [hz2]; omega) (by unfold maxLen; omega) (Nat.le_refl _) ?_; intro wm hm hgm)
  go_loopw [11] (fun t wr => ∃ k : Nat, k ≤ n ∧ t = .int .i64 k ∧ wr.ownsRow w.heap.size 5 1 (.slice (some ⟨w.heap.size, 0, none⟩) n n) n (byteVals (leL x k ++ List.replicate (n - k) 0)) ∧ Below w.heap.size w wr) (fun t _ => n - (intOf t).toNat)
  case atStart => exact ⟨0, Nat.zero_le _, rfl, (zero_cells n) ▸ hm, (Below.refl _ _).grown hgm (Nat.le_refl _) (fun _ h => by cases h)⟩
  case round =>
    obtain ⟨k, hk, rfl, hown, hbel⟩ := hrel
    by_cases hlt : k < n
    · have hc : wr.cell? ⟨w.heap.size, k, none⟩ = some (.int .u8 0) := by
        rw [hown.cellAt k (by omega)]
        exact zero_le x k n hlt
      have hf := hown.frozenAt k
      have hsz := hbel.size
      have hv : ((x : Int) / 2 ^ (8 * k)) % 256 = ((leAt x k).toNat : Int) := (leAt_nat x k).symm
      have hst := hown.stored k (.int .u8 ((leAt x k).toNat : Int))
      have HST := hst.1
      have hgr := hst.2
      clear hst
      go_wp2
      go_roundw
      case rel => exact ⟨k + 1, by omega, by go_num, set_le x k n hlt ▸ HST, hbel.grown hgr hsz (fun i e => by injection e; omega)⟩
      case measure => simp [intOf]; omega
    · obtain rfl : k = n := by omega
      have hbuf : Buf wr w.heap.size 5 (.slice (some ⟨w.heap.size, 0, none⟩) k k) (leL x k) := by
        unfold Buf
        rw [leL_len]
        simpa using hown
      have hconv := Buf.string Try.underlying70 Try.underlying5 Try.underlying9 hbuf
      go_wp2
      go_ret
      exact ⟨rfl, hbel⟩

set_option maxRecDepth 100000 in
set_option maxHeartbeats 1000000 in
theorem spread_u64 (x n : Nat) (w : World) (hn : n ≤ 8) (hx : x < 18446744073709551616) :
    Calls Try.prog 124 #[.int .u64 x, .int .i64 n] w fun e w' => e = .returned (.string ⟨(leL x n).toArray⟩) ∧ Below w.heap.size w w' := by
  obtain ⟨i0, hi, hz0, hz1, hz2⟩ := info_parts Try.info_u8
  go_enter Try.func124, Try.ntmps124
  go_wp2_with (at_make; refine wpList_make_full _ rfl _ _ 70 rfl w.heap.size 5 i0 _ 1 Try.underlying70 hi hz0 hz1 .i64 .i64 _ _ n rfl rfl (by omega) (by omega) (by rw [hz2]; omega) (by unfold maxLen; omega) (Nat.le_refl _) ?_; intro wm hm hgm)
  go_loopw [11] (fun t wr => ∃ k : Nat, k ≤ n ∧ t = .int .i64 k ∧ wr.ownsRow w.heap.size 5 1 (.slice (some ⟨w.heap.size, 0, none⟩) n n) n (byteVals (leL x k ++ List.replicate (n - k) 0)) ∧ Below w.heap.size w wr) (fun t _ => n - (intOf t).toNat)
  case atStart => exact ⟨0, Nat.zero_le _, rfl, (zero_cells n) ▸ hm, (Below.refl _ _).grown hgm (Nat.le_refl _) (fun _ h => by cases h)⟩
  case round =>
    obtain ⟨k, hk, rfl, hown, hbel⟩ := hrel
    by_cases hlt : k < n
    · have hc : wr.cell? ⟨w.heap.size, k, none⟩ = some (.int .u8 0) := by
        rw [hown.cellAt k (by omega)]
        exact zero_le x k n hlt
      have hf := hown.frozenAt k
      have hsz := hbel.size
      have hv : ((x : Int) / 2 ^ (8 * k)) % 256 = ((leAt x k).toNat : Int) := (leAt_nat x k).symm
      have hst := hown.stored k (.int .u8 ((leAt x k).toNat : Int))
      have HST := hst.1
      have hgr := hst.2
      clear hst
      go_wp2
      go_roundw
      case rel => exact ⟨k + 1, by omega, by go_num, set_le x k n hlt ▸ HST, hbel.grown hgr hsz (fun i e => by injection e; omega)⟩
      case measure => simp [intOf]; omega
    · obtain rfl : k = n := by omega
      have hbuf : Buf wr w.heap.size 5 (.slice (some ⟨w.heap.size, 0, none⟩) k k) (leL x k) := by
        unfold Buf
        rw [leL_len]
        simpa using hown
      have hconv := Buf.string Try.underlying70 Try.underlying5 Try.underlying9 hbuf
      go_wp2
      go_ret
      exact ⟨rfl, hbel⟩
end Go.Proofs.Ytdcjddiigipdmaa
