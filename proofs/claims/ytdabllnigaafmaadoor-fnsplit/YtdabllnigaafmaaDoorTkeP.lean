/- How a form's number is taken out of a word: plain. -/
import Derived.Test.YtdabllnigaafmaaDoorLayP
namespace Go.Proofs.YtdabllnigaafmaaDoor
open Go.RowKit

theorem takE1 (w : Int) : (bits .or .i64 (bits .or .i64 (bits .or .i64 (bits .or .i64 0 (wrap64 (bits .and .i64 (w / 4096) 1048575 * 4096))) (wrap64 (bits .and .i64 w 0))) (wrap64 (bits .and .i64 w 0))) (wrap64 (bits .and .i64 w 0))) = w / 4096 % 1048576 * 4096 := by
  simp only [and_20, and_0]
  have p : 0 ≤ w / 4096 % 1048576 ∧ w / 4096 % 1048576 < 1048576 := by omega
  generalize w / 4096 % 1048576 = x0 at *
  rw [wrap_in (x0 * 4096) (by omega) (by omega)]
  rw [wrap_in 0 (by omega) (by omega)]
  rw [z_or (x0 * 4096) (by omega) (by omega)]
  rw [or_z (x0 * 4096) (by omega) (by omega)]
  rw [or_z (x0 * 4096) (by omega) (by omega)]
  rw [or_z (x0 * 4096) (by omega) (by omega)]
theorem takE2 (w : Int) : (bits .or .i64 (bits .or .i64 (bits .or .i64 (bits .or .i64 0 (wrap64 (bits .and .i64 (w / 4096) 255 * 4096))) (wrap64 (bits .and .i64 (w / 1048576) 1 * 2048))) (wrap64 (bits .and .i64 (w / 2097152) 1023 * 2))) (wrap64 (bits .and .i64 (w / 2147483648) 1 * 1048576))) = w / 4096 % 256 * 4096 + w / 1048576 % 2 * 2048 + w / 2097152 % 1024 * 2 + w / 2147483648 % 2 * 1048576 := by
  simp only [and_1, and_8, and_10]
  have p : 0 ≤ w / 4096 % 256 ∧ w / 4096 % 256 < 256 := by omega
  have q : 0 ≤ w / 1048576 % 2 ∧ w / 1048576 % 2 < 2 := by omega
  have r : 0 ≤ w / 2097152 % 1024 ∧ w / 2097152 % 1024 < 1024 := by omega
  have s : 0 ≤ w / 2147483648 % 2 ∧ w / 2147483648 % 2 < 2 := by omega
  generalize w / 4096 % 256 = x0 at *
  generalize w / 1048576 % 2 = x1 at *
  generalize w / 2097152 % 1024 = x2 at *
  generalize w / 2147483648 % 2 = x3 at *
  rw [wrap_in (x0 * 4096) (by omega) (by omega)]
  rw [wrap_in (x1 * 2048) (by omega) (by omega)]
  rw [wrap_in (x2 * 2) (by omega) (by omega)]
  rw [wrap_in (x3 * 1048576) (by omega) (by omega)]
  rw [z_or (x0 * 4096) (by omega) (by omega)]
  rw [i64_or_gap 11 1 2048 4096 (by decide) (by decide) (x0 * 4096) (x1 * 2048) (by omega) (by omega) (by omega) (by omega) (by omega) (by omega) (by decide)]
  rw [i64_or_gap 1 10 2 2048 (by decide) (by decide) (x0 * 4096 + x1 * 2048) (x2 * 2) (by omega) (by omega) (by omega) (by omega) (by omega) (by omega) (by decide)]
  rw [i64_or_gap 20 1 1048576 2097152 (by decide) (by decide) (x0 * 4096 + x1 * 2048 + x2 * 2) (x3 * 1048576) (by omega) (by omega) (by omega) (by omega) (by omega) (by omega) (by decide)]
theorem takE3 (w : Int) : (bits .or .i64 (bits .or .i64 (bits .or .i64 (bits .or .i64 0 (wrap64 (bits .and .i64 (w / 1048576) 4095))) (wrap64 (bits .and .i64 w 0))) (wrap64 (bits .and .i64 w 0))) (wrap64 (bits .and .i64 w 0))) = w / 1048576 % 4096 := by
  simp only [and_12, and_0]
  have p : 0 ≤ w / 1048576 % 4096 ∧ w / 1048576 % 4096 < 4096 := by omega
  generalize w / 1048576 % 4096 = x0 at *
  rw [wrap_in (x0) (by omega) (by omega)]
  rw [wrap_in 0 (by omega) (by omega)]
  rw [z_or (x0) (by omega) (by omega)]
  rw [or_z (x0) (by omega) (by omega)]
  rw [or_z (x0) (by omega) (by omega)]
  rw [or_z (x0) (by omega) (by omega)]
theorem takE4 (w : Int) : (bits .or .i64 (bits .or .i64 (bits .or .i64 (bits .or .i64 0 (wrap64 (bits .and .i64 (w / 128) 1 * 2048))) (wrap64 (bits .and .i64 (w / 256) 15 * 2))) (wrap64 (bits .and .i64 (w / 33554432) 63 * 32))) (wrap64 (bits .and .i64 (w / 2147483648) 1 * 4096))) = w / 128 % 2 * 2048 + w / 256 % 16 * 2 + w / 33554432 % 64 * 32 + w / 2147483648 % 2 * 4096 := by
  simp only [and_1, and_4, and_6]
  have p : 0 ≤ w / 128 % 2 ∧ w / 128 % 2 < 2 := by omega
  have q : 0 ≤ w / 256 % 16 ∧ w / 256 % 16 < 16 := by omega
  have r : 0 ≤ w / 33554432 % 64 ∧ w / 33554432 % 64 < 64 := by omega
  have s : 0 ≤ w / 2147483648 % 2 ∧ w / 2147483648 % 2 < 2 := by omega
  generalize w / 128 % 2 = x0 at *
  generalize w / 256 % 16 = x1 at *
  generalize w / 33554432 % 64 = x2 at *
  generalize w / 2147483648 % 2 = x3 at *
  rw [wrap_in (x0 * 2048) (by omega) (by omega)]
  rw [wrap_in (x1 * 2) (by omega) (by omega)]
  rw [wrap_in (x2 * 32) (by omega) (by omega)]
  rw [wrap_in (x3 * 4096) (by omega) (by omega)]
  rw [z_or (x0 * 2048) (by omega) (by omega)]
  rw [i64_or_gap 1 4 2 32 (by decide) (by decide) (x0 * 2048) (x1 * 2) (by omega) (by omega) (by omega) (by omega) (by omega) (by omega) (by decide)]
  rw [i64_or_gap 5 6 32 2048 (by decide) (by decide) (x0 * 2048 + x1 * 2) (x2 * 32) (by omega) (by omega) (by omega) (by omega) (by omega) (by omega) (by decide)]
  rw [i64_or_gap 12 1 4096 8192 (by decide) (by decide) (x0 * 2048 + x1 * 2 + x2 * 32) (x3 * 4096) (by omega) (by omega) (by omega) (by omega) (by omega) (by omega) (by decide)]
theorem takE5 (w : Int) : (bits .or .i64 (bits .or .i64 (bits .or .i64 (bits .or .i64 0 (wrap64 (bits .and .i64 (w / 128) 31))) (wrap64 (bits .and .i64 (w / 33554432) 127 * 32))) (wrap64 (bits .and .i64 w 0))) (wrap64 (bits .and .i64 w 0))) = w / 128 % 32 + w / 33554432 % 128 * 32 := by
  simp only [and_5, and_7, and_0]
  have p : 0 ≤ w / 128 % 32 ∧ w / 128 % 32 < 32 := by omega
  have q : 0 ≤ w / 33554432 % 128 ∧ w / 33554432 % 128 < 128 := by omega
  generalize w / 128 % 32 = x0 at *
  generalize w / 33554432 % 128 = x1 at *
  rw [wrap_in (x0) (by omega) (by omega)]
  rw [wrap_in (x1 * 32) (by omega) (by omega)]
  rw [wrap_in 0 (by omega) (by omega)]
  rw [z_or (x0) (by omega) (by omega)]
  rw [i64_or_gap 5 7 32 4096 (by decide) (by decide) (x0) (x1 * 32) (by omega) (by omega) (by omega) (by omega) (by omega) (by omega) (by decide)]
  rw [or_z (x0 + x1 * 32) (by omega) (by omega)]
  rw [or_z (x0 + x1 * 32) (by omega) (by omega)]
theorem takE6 (w : Int) : (bits .or .i64 (bits .or .i64 (bits .or .i64 (bits .or .i64 0 (wrap64 (bits .and .i64 (w / 1048576) 63))) (wrap64 (bits .and .i64 w 0))) (wrap64 (bits .and .i64 w 0))) (wrap64 (bits .and .i64 w 0))) = w / 1048576 % 64 := by
  simp only [and_6, and_0]
  have p : 0 ≤ w / 1048576 % 64 ∧ w / 1048576 % 64 < 64 := by omega
  generalize w / 1048576 % 64 = x0 at *
  rw [wrap_in (x0) (by omega) (by omega)]
  rw [wrap_in 0 (by omega) (by omega)]
  rw [z_or (x0) (by omega) (by omega)]
  rw [or_z (x0) (by omega) (by omega)]
  rw [or_z (x0) (by omega) (by omega)]
  rw [or_z (x0) (by omega) (by omega)]
theorem takE7 (w : Int) : (bits .or .i64 (bits .or .i64 (bits .or .i64 (bits .or .i64 0 (wrap64 (bits .and .i64 (w / 1048576) 31))) (wrap64 (bits .and .i64 w 0))) (wrap64 (bits .and .i64 w 0))) (wrap64 (bits .and .i64 w 0))) = w / 1048576 % 32 := by
  simp only [and_5, and_0]
  have p : 0 ≤ w / 1048576 % 32 ∧ w / 1048576 % 32 < 32 := by omega
  generalize w / 1048576 % 32 = x0 at *
  rw [wrap_in (x0) (by omega) (by omega)]
  rw [wrap_in 0 (by omega) (by omega)]
  rw [z_or (x0) (by omega) (by omega)]
  rw [or_z (x0) (by omega) (by omega)]
  rw [or_z (x0) (by omega) (by omega)]
  rw [or_z (x0) (by omega) (by omega)]
theorem takE8 (w : Int) : (bits .or .i64 (bits .or .i64 (bits .or .i64 (bits .or .i64 0 (wrap64 (bits .and .i64 w 0))) (wrap64 (bits .and .i64 w 0))) (wrap64 (bits .and .i64 w 0))) (wrap64 (bits .and .i64 w 0))) = 0 := by
  simp only [and_0]
  rw [wrap_in 0 (by omega) (by omega), or_z 0 (by omega) (by omega), or_z 0 (by omega) (by omega), or_z 0 (by omega) (by omega), or_z 0 (by omega) (by omega)]
end Go.Proofs.YtdabllnigaafmaaDoor
