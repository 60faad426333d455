/- Contracts of SignOf. -/
import Derived.Test.YtdabllnigaafmaaDoorErrC
import Derived.Test.YtdabllnigaafmaaDoorSgnR
namespace Go.Proofs.YtdabllnigaafmaaDoor
open Go.RowKit
set_option linter.unusedVariables false

theorem sign_bad_impl (v c : Int) (w : World) (hL : Laid w) (h : c < 1 ∨ 64 < c) :
    Calls Tryd.prog 34 #[.int .i64 v, .int .i64 c] w fun e w' => e = .returned (.tuple #[.int .i64 0, .int .i64 4]) ∧ Below w.heap.size w w' := by
  obtain ⟨a0, a1, hL⟩ := hL
  go_enter Tryd.func34, Tryd.ntmps34
  go_wp2_with fail
  refine (inside_no _ c 1 64 w a0 a1 hL h).mono ?_
  rintro e w1 ⟨rfl, rfl⟩
  go_wp2_with fail
  refine (code_range _ _ a0 a1 hL).mono ?_
  rintro e w2 ⟨rfl, hb⟩
  clear hL h
  go_wp2
  go_ret2
  exact ⟨rfl, hb⟩

theorem sign_ok_impl (v : Int) (c : Nat) (w : World) (h0 : 1 ≤ c) (h1 : c ≤ 64) :
    Calls Tryd.prog 34 #[.int .i64 v, .int .i64 c] w fun e w' => e = .returned (.tuple #[.int .i64 (sgn v c), .int .i64 0]) ∧ w' = w := by
  obtain ⟨d, hd⟩ : ∃ d, d = 64 - c := ⟨_, rfl⟩
  have hd1 : (64 : Int) - (c : Int) = (d : Int) := by omega
  have hd2 : (d : Int) ≤ 64 := by omega
  have HS : Hid (((v * 2 ^ d + 9223372036854775808) % 18446744073709551616 - 9223372036854775808) / 2 ^ d = sgn v c) := sgn_shifts v c d (by omega) h0
  clear hd
  go_enter Tryd.func34, Tryd.ntmps34
  go_wp2_with fail
  refine (inside_ok _ (c : Int) 1 64 w (by omega) (by omega)).mono ?_
  rintro e w1 ⟨rfl, rfl⟩
  go_wp2
  go_ret2
  refine ⟨ret_ints ?_ rfl, rfl⟩
  show wrap64 (v * 2 ^ d) / 2 ^ d = sgn v c
  unfold wrap64
  exact HS.out

end Go.Proofs.YtdabllnigaafmaaDoor
