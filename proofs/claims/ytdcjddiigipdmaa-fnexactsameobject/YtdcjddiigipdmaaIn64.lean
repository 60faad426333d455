/- Integers of 64 bits. -/
import Derived.WalkKit
import Derived.DataShut
namespace Go.Proofs.Ytdcjddiigipdmaa
open Go.RowKit

/-- An integer of 64 bits. -/
def In64 (a : Int) : Prop := -9223372036854775808 ≤ a ∧ a ≤ 9223372036854775807
theorem in64_wrap (a : Int) : In64 (wrap64 a) := by unfold In64 wrap64; omega
theorem in64_of {a : Int} (h : (Lit.int .i64 a).wf = true) : In64 a := by
  have h := (Lit.wf_int_iff _ _).1 h
  rw [IntKind.min_i64, IntKind.max_i64] at h
  exact h
end Go.Proofs.Ytdcjddiigipdmaa
