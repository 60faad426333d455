/- Two numbers that are answered. -/
import Derived.Test.YtdabllnigaafmaaDoorSgnP
namespace Go.Proofs.YtdabllnigaafmaaDoor
theorem ret_ints {a b x y : Int} (h : a = b) (k : x = y) : Ending.returned (.tuple #[.int .i64 a, .int .i64 x]) = .returned (.tuple #[.int .i64 b, .int .i64 y]) := by rw [h, k]

end Go.Proofs.YtdabllnigaafmaaDoor
