/- How a form's number is laid into a word: plain. -/
import Derived.Test.YtdabllnigaafmaaDoorFormP
namespace Go.Proofs.YtdabllnigaafmaaDoor
open Go.RowKit

theorem and_1 (x : Int) : bits .and .i64 x 1 = x % 2 := i64_and_mask x 1 (by decide)
theorem and_4 (x : Int) : bits .and .i64 x 15 = x % 16 := i64_and_mask x 4 (by decide)
theorem and_5 (x : Int) : bits .and .i64 x 31 = x % 32 := i64_and_mask x 5 (by decide)
theorem and_6 (x : Int) : bits .and .i64 x 63 = x % 64 := i64_and_mask x 6 (by decide)
theorem and_7 (x : Int) : bits .and .i64 x 127 = x % 128 := i64_and_mask x 7 (by decide)
theorem and_8 (x : Int) : bits .and .i64 x 255 = x % 256 := i64_and_mask x 8 (by decide)
theorem and_10 (x : Int) : bits .and .i64 x 1023 = x % 1024 := i64_and_mask x 10 (by decide)
theorem and_12 (x : Int) : bits .and .i64 x 4095 = x % 4096 := i64_and_mask x 12 (by decide)
theorem and_20 (x : Int) : bits .and .i64 x 1048575 = x % 1048576 := i64_and_mask x 20 (by decide)
theorem and_0 (x : Int) : bits .and .i64 x 0 = 0 := by
  have := i64_and_mask x 0 (by decide)
  have e : (2 : Int) ^ 0 - 1 = 0 := by decide
  rw [e] at this
  rw [this]
  omega
theorem wrap_in (x : Int) (h0 : -9223372036854775808 ≤ x) (h1 : x ≤ 9223372036854775807) : wrap64 x = x := by
  unfold wrap64
  omega
theorem or_z (x : Int) (h0 : 0 ≤ x) (h1 : x < 9223372036854775808) : bits .or .i64 x 0 = x := by
  rw [i64_or_gap 0 0 1 1 (by decide) (by decide) x 0 h0 h1 (by omega) (by omega) (by omega) (by omega) (by omega)]
  omega
theorem z_or (x : Int) (h0 : 0 ≤ x) (h1 : x < 4611686018427387904) : bits .or .i64 0 x = x := by
  rw [i64_or_gap 0 62 1 4611686018427387904 (by decide) (by decide) 0 x (by omega) (by omega) (by omega) h0 (by omega) (by omega) (by omega)]
  omega
theorem layE1 (v : Int) : (bits .or .i64 (bits .or .i64 (bits .or .i64 (bits .or .i64 0 (wrap64 (bits .and .i64 (v / 4096) 1048575 * 4096))) (wrap64 (bits .and .i64 v 0))) (wrap64 (bits .and .i64 v 0))) (wrap64 (bits .and .i64 v 0))) = layF 1 v := by
  simp only [and_20, and_0]
  have p : 0 ≤ v / 4096 % 1048576 ∧ v / 4096 % 1048576 < 1048576 := by omega
  show _ = v / 4096 % 1048576 * 4096
  generalize v / 4096 % 1048576 = x0 at *
  rw [wrap_in (x0 * 4096) (by omega) (by omega)]
  rw [wrap_in 0 (by omega) (by omega)]
  rw [z_or (x0 * 4096) (by omega) (by omega)]
  rw [or_z (x0 * 4096) (by omega) (by omega)]
  rw [or_z (x0 * 4096) (by omega) (by omega)]
  rw [or_z (x0 * 4096) (by omega) (by omega)]
theorem layE2 (v : Int) : (bits .or .i64 (bits .or .i64 (bits .or .i64 (bits .or .i64 0 (wrap64 (bits .and .i64 (v / 4096) 255 * 4096))) (wrap64 (bits .and .i64 (v / 2048) 1 * 1048576))) (wrap64 (bits .and .i64 (v / 2) 1023 * 2097152))) (wrap64 (bits .and .i64 (v / 1048576) 1 * 2147483648))) = layF 2 v := by
  simp only [and_1, and_8, and_10]
  have p : 0 ≤ v / 4096 % 256 ∧ v / 4096 % 256 < 256 := by omega
  have q : 0 ≤ v / 2048 % 2 ∧ v / 2048 % 2 < 2 := by omega
  have r : 0 ≤ v / 2 % 1024 ∧ v / 2 % 1024 < 1024 := by omega
  have s : 0 ≤ v / 1048576 % 2 ∧ v / 1048576 % 2 < 2 := by omega
  show _ = v / 4096 % 256 * 4096 + v / 2048 % 2 * 1048576 + v / 2 % 1024 * 2097152 + v / 1048576 % 2 * 2147483648
  generalize v / 4096 % 256 = x0 at *
  generalize v / 2048 % 2 = x1 at *
  generalize v / 2 % 1024 = x2 at *
  generalize v / 1048576 % 2 = x3 at *
  rw [wrap_in (x0 * 4096) (by omega) (by omega)]
  rw [wrap_in (x1 * 1048576) (by omega) (by omega)]
  rw [wrap_in (x2 * 2097152) (by omega) (by omega)]
  rw [wrap_in (x3 * 2147483648) (by omega) (by omega)]
  rw [z_or (x0 * 4096) (by omega) (by omega)]
  rw [i64_or_gap 20 1 1048576 2097152 (by decide) (by decide) (x0 * 4096) (x1 * 1048576) (by omega) (by omega) (by omega) (by omega) (by omega) (by omega) (by decide)]
  rw [i64_or_gap 21 10 2097152 2147483648 (by decide) (by decide) (x0 * 4096 + x1 * 1048576) (x2 * 2097152) (by omega) (by omega) (by omega) (by omega) (by omega) (by omega) (by decide)]
  rw [i64_or_gap 31 1 2147483648 4294967296 (by decide) (by decide) (x0 * 4096 + x1 * 1048576 + x2 * 2097152) (x3 * 2147483648) (by omega) (by omega) (by omega) (by omega) (by omega) (by omega) (by decide)]
theorem layE3 (v : Int) : (bits .or .i64 (bits .or .i64 (bits .or .i64 (bits .or .i64 0 (wrap64 (bits .and .i64 v 4095 * 1048576))) (wrap64 (bits .and .i64 v 0))) (wrap64 (bits .and .i64 v 0))) (wrap64 (bits .and .i64 v 0))) = layF 3 v := by
  simp only [and_12, and_0]
  have p : 0 ≤ v % 4096 ∧ v % 4096 < 4096 := by omega
  show _ = v % 4096 * 1048576
  generalize v % 4096 = x0 at *
  rw [wrap_in (x0 * 1048576) (by omega) (by omega)]
  rw [wrap_in 0 (by omega) (by omega)]
  rw [z_or (x0 * 1048576) (by omega) (by omega)]
  rw [or_z (x0 * 1048576) (by omega) (by omega)]
  rw [or_z (x0 * 1048576) (by omega) (by omega)]
  rw [or_z (x0 * 1048576) (by omega) (by omega)]
theorem layE4 (v : Int) : (bits .or .i64 (bits .or .i64 (bits .or .i64 (bits .or .i64 0 (wrap64 (bits .and .i64 (v / 2048) 1 * 128))) (wrap64 (bits .and .i64 (v / 2) 15 * 256))) (wrap64 (bits .and .i64 (v / 32) 63 * 33554432))) (wrap64 (bits .and .i64 (v / 4096) 1 * 2147483648))) = layF 4 v := by
  simp only [and_1, and_4, and_6]
  have p : 0 ≤ v / 2048 % 2 ∧ v / 2048 % 2 < 2 := by omega
  have q : 0 ≤ v / 2 % 16 ∧ v / 2 % 16 < 16 := by omega
  have r : 0 ≤ v / 32 % 64 ∧ v / 32 % 64 < 64 := by omega
  have s : 0 ≤ v / 4096 % 2 ∧ v / 4096 % 2 < 2 := by omega
  show _ = v / 2048 % 2 * 128 + v / 2 % 16 * 256 + v / 32 % 64 * 33554432 + v / 4096 % 2 * 2147483648
  generalize v / 2048 % 2 = x0 at *
  generalize v / 2 % 16 = x1 at *
  generalize v / 32 % 64 = x2 at *
  generalize v / 4096 % 2 = x3 at *
  rw [wrap_in (x0 * 128) (by omega) (by omega)]
  rw [wrap_in (x1 * 256) (by omega) (by omega)]
  rw [wrap_in (x2 * 33554432) (by omega) (by omega)]
  rw [wrap_in (x3 * 2147483648) (by omega) (by omega)]
  rw [z_or (x0 * 128) (by omega) (by omega)]
  rw [i64_or_gap 8 4 256 4096 (by decide) (by decide) (x0 * 128) (x1 * 256) (by omega) (by omega) (by omega) (by omega) (by omega) (by omega) (by decide)]
  rw [i64_or_gap 25 6 33554432 2147483648 (by decide) (by decide) (x0 * 128 + x1 * 256) (x2 * 33554432) (by omega) (by omega) (by omega) (by omega) (by omega) (by omega) (by decide)]
  rw [i64_or_gap 31 1 2147483648 4294967296 (by decide) (by decide) (x0 * 128 + x1 * 256 + x2 * 33554432) (x3 * 2147483648) (by omega) (by omega) (by omega) (by omega) (by omega) (by omega) (by decide)]
theorem layE5 (v : Int) : (bits .or .i64 (bits .or .i64 (bits .or .i64 (bits .or .i64 0 (wrap64 (bits .and .i64 v 31 * 128))) (wrap64 (bits .and .i64 (v / 32) 127 * 33554432))) (wrap64 (bits .and .i64 v 0))) (wrap64 (bits .and .i64 v 0))) = layF 5 v := by
  simp only [and_5, and_7, and_0]
  have p : 0 ≤ v % 32 ∧ v % 32 < 32 := by omega
  have q : 0 ≤ v / 32 % 128 ∧ v / 32 % 128 < 128 := by omega
  show _ = v % 32 * 128 + v / 32 % 128 * 33554432
  generalize v % 32 = x0 at *
  generalize v / 32 % 128 = x1 at *
  rw [wrap_in (x0 * 128) (by omega) (by omega)]
  rw [wrap_in (x1 * 33554432) (by omega) (by omega)]
  rw [wrap_in 0 (by omega) (by omega)]
  rw [z_or (x0 * 128) (by omega) (by omega)]
  rw [i64_or_gap 25 7 33554432 4294967296 (by decide) (by decide) (x0 * 128) (x1 * 33554432) (by omega) (by omega) (by omega) (by omega) (by omega) (by omega) (by decide)]
  rw [or_z (x0 * 128 + x1 * 33554432) (by omega) (by omega)]
  rw [or_z (x0 * 128 + x1 * 33554432) (by omega) (by omega)]
theorem layE6 (v : Int) : (bits .or .i64 (bits .or .i64 (bits .or .i64 (bits .or .i64 0 (wrap64 (bits .and .i64 v 63 * 1048576))) (wrap64 (bits .and .i64 v 0))) (wrap64 (bits .and .i64 v 0))) (wrap64 (bits .and .i64 v 0))) = layF 6 v := by
  simp only [and_6, and_0]
  have p : 0 ≤ v % 64 ∧ v % 64 < 64 := by omega
  show _ = v % 64 * 1048576
  generalize v % 64 = x0 at *
  rw [wrap_in (x0 * 1048576) (by omega) (by omega)]
  rw [wrap_in 0 (by omega) (by omega)]
  rw [z_or (x0 * 1048576) (by omega) (by omega)]
  rw [or_z (x0 * 1048576) (by omega) (by omega)]
  rw [or_z (x0 * 1048576) (by omega) (by omega)]
  rw [or_z (x0 * 1048576) (by omega) (by omega)]
theorem layE7 (v : Int) : (bits .or .i64 (bits .or .i64 (bits .or .i64 (bits .or .i64 0 (wrap64 (bits .and .i64 v 31 * 1048576))) (wrap64 (bits .and .i64 v 0))) (wrap64 (bits .and .i64 v 0))) (wrap64 (bits .and .i64 v 0))) = layF 7 v := by
  simp only [and_5, and_0]
  have p : 0 ≤ v % 32 ∧ v % 32 < 32 := by omega
  show _ = v % 32 * 1048576
  generalize v % 32 = x0 at *
  rw [wrap_in (x0 * 1048576) (by omega) (by omega)]
  rw [wrap_in 0 (by omega) (by omega)]
  rw [z_or (x0 * 1048576) (by omega) (by omega)]
  rw [or_z (x0 * 1048576) (by omega) (by omega)]
  rw [or_z (x0 * 1048576) (by omega) (by omega)]
  rw [or_z (x0 * 1048576) (by omega) (by omega)]
theorem layE8 (v : Int) : (bits .or .i64 (bits .or .i64 (bits .or .i64 (bits .or .i64 0 (wrap64 (bits .and .i64 v 0))) (wrap64 (bits .and .i64 v 0))) (wrap64 (bits .and .i64 v 0))) (wrap64 (bits .and .i64 v 0))) = layF 8 v := by
  rw [and_0]
  show _ = 0
  rw [wrap_in 0 (by omega) (by omega), or_z 0 (by omega) (by omega), or_z 0 (by omega) (by omega), or_z 0 (by omega) (by omega), or_z 0 (by omega) (by omega)]
end Go.Proofs.YtdabllnigaafmaaDoor
