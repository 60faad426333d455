/- The shapes of the operations: plain. halfShape: contract. -/
import Derived.Test.YtepanogpojolfaaDoorGXDecode0
namespace Go.Proofs.YtepanogpojolfaaDoor
open Go.RowKit

/-- The shape of an operation: form, code, F3, F7. -/
def shT (op : Int) : Int × Int × Int × Int :=
  if op = 1 then (1, 55, 0, 0)
  else if op = 2 then (1, 23, 0, 0)
  else if op = 3 then (2, 111, 0, 0)
  else if op = 4 then (3, 103, 0, 0)
  else if op = 5 then (4, 99, 0, 0)
  else if op = 6 then (4, 99, 1, 0)
  else if op = 7 then (4, 99, 4, 0)
  else if op = 8 then (4, 99, 5, 0)
  else if op = 9 then (4, 99, 6, 0)
  else if op = 10 then (4, 99, 7, 0)
  else if op = 11 then (3, 3, 0, 0)
  else if op = 12 then (3, 3, 1, 0)
  else if op = 13 then (3, 3, 2, 0)
  else if op = 14 then (3, 3, 3, 0)
  else if op = 15 then (3, 3, 4, 0)
  else if op = 16 then (3, 3, 5, 0)
  else if op = 17 then (3, 3, 6, 0)
  else if op = 18 then (5, 35, 0, 0)
  else if op = 19 then (5, 35, 1, 0)
  else if op = 20 then (5, 35, 2, 0)
  else if op = 21 then (5, 35, 3, 0)
  else if op = 22 then (3, 19, 0, 0)
  else if op = 23 then (3, 19, 2, 0)
  else if op = 24 then (3, 19, 3, 0)
  else if op = 25 then (3, 19, 4, 0)
  else if op = 26 then (3, 19, 6, 0)
  else if op = 27 then (3, 19, 7, 0)
  else if op = 28 then (6, 19, 1, 0)
  else if op = 29 then (6, 19, 5, 0)
  else if op = 30 then (6, 19, 5, 32)
  else if op = 31 then (8, 51, 0, 0)
  else if op = 32 then (8, 51, 0, 32)
  else if op = 33 then (8, 51, 1, 0)
  else if op = 34 then (8, 51, 2, 0)
  else if op = 35 then (8, 51, 3, 0)
  else if op = 36 then (8, 51, 4, 0)
  else if op = 37 then (8, 51, 5, 0)
  else if op = 38 then (8, 51, 5, 32)
  else if op = 39 then (8, 51, 6, 0)
  else if op = 40 then (8, 51, 7, 0)
  else if op = 41 then (3, 27, 0, 0)
  else if op = 42 then (7, 27, 1, 0)
  else if op = 43 then (7, 27, 5, 0)
  else if op = 44 then (7, 27, 5, 32)
  else if op = 45 then (8, 59, 0, 0)
  else if op = 46 then (8, 59, 0, 32)
  else if op = 47 then (8, 59, 1, 0)
  else if op = 48 then (8, 59, 5, 0)
  else if op = 49 then (8, 59, 5, 32)
  else if op = 50 then (8, 51, 0, 1)
  else if op = 51 then (8, 51, 1, 1)
  else if op = 52 then (8, 51, 2, 1)
  else if op = 53 then (8, 51, 3, 1)
  else if op = 54 then (8, 51, 4, 1)
  else if op = 55 then (8, 51, 5, 1)
  else if op = 56 then (8, 51, 6, 1)
  else if op = 57 then (8, 51, 7, 1)
  else if op = 58 then (8, 59, 0, 1)
  else if op = 59 then (8, 59, 4, 1)
  else if op = 60 then (8, 59, 5, 1)
  else if op = 61 then (8, 59, 6, 1)
  else if op = 62 then (8, 59, 7, 1)
  else if op = 63 then (9, 115, 0, 0)
  else if op = 64 then (9, 115, 0, 1)
  else (0, 0, 0, 0)

/-- It as a value. -/
def shV (s : Int × Int × Int × Int) : Value := .agg #[.int .i64 s.1, .int .i64 s.2.1, .int .i64 s.2.2.1, .int .i64 s.2.2.2]

theorem shT_out (op : Int) (h : op < 1 ∨ 64 < op) : shT op = (0, 0, 0, 0) := by
  unfold shT
  rw [if_neg (by omega), if_neg (by omega), if_neg (by omega), if_neg (by omega), if_neg (by omega), if_neg (by omega), if_neg (by omega), if_neg (by omega), if_neg (by omega), if_neg (by omega), if_neg (by omega), if_neg (by omega), if_neg (by omega), if_neg (by omega), if_neg (by omega), if_neg (by omega), if_neg (by omega), if_neg (by omega), if_neg (by omega), if_neg (by omega), if_neg (by omega), if_neg (by omega), if_neg (by omega), if_neg (by omega), if_neg (by omega), if_neg (by omega), if_neg (by omega), if_neg (by omega), if_neg (by omega), if_neg (by omega), if_neg (by omega), if_neg (by omega), if_neg (by omega), if_neg (by omega), if_neg (by omega), if_neg (by omega), if_neg (by omega), if_neg (by omega), if_neg (by omega), if_neg (by omega), if_neg (by omega), if_neg (by omega), if_neg (by omega), if_neg (by omega), if_neg (by omega), if_neg (by omega), if_neg (by omega), if_neg (by omega), if_neg (by omega), if_neg (by omega), if_neg (by omega), if_neg (by omega), if_neg (by omega), if_neg (by omega), if_neg (by omega), if_neg (by omega), if_neg (by omega), if_neg (by omega), if_neg (by omega), if_neg (by omega), if_neg (by omega), if_neg (by omega), if_neg (by omega), if_neg (by omega)]
end Go.Proofs.YtepanogpojolfaaDoor

namespace Go.Proofs.YtepanogpojolfaaDoor
open Go.RowKit
set_option linter.unusedVariables false

set_option maxRecDepth 100000 in
set_option maxHeartbeats 40000000 in
theorem halfC (op : Int) (w : World) (hc : Hid (op = 45 ∨ op = 46 ∨ op = 47 ∨ op = 48 ∨ op = 49 ∨ op = 58 ∨ op = 59 ∨ op = 60 ∨ op = 61 ∨ op = 62)) :
    Calls Tryd.prog 76 #[.int .i64 op] w fun e w' => e = .returned (shV (shT op)) ∧ Below w.heap.size w w' := by
  go_enter Tryd.func76, Tryd.ntmps76
  go_wp2
  all_goals first
    | (obtain rfl := eq_of_beq (‹(op == _) = true›)
       clear hc
       exact bodyPost_ret (v := shV (shT _)) (by simp [results, Tryd.results76, go_sem]; rfl) rfl ⟨rfl, (Below.refl _ _).alloc (Nat.le_refl _) _⟩)
    | (exfalso
       have h2 : op = 45 ∨ op = 46 ∨ op = 47 ∨ op = 48 ∨ op = 49 ∨ op = 58 ∨ op = 59 ∨ op = 60 ∨ op = 61 ∨ op = 62 := hc.out
       rcases h2 with rfl | rfl | rfl | rfl | rfl | rfl | rfl | rfl | rfl | rfl <;> first | contradiction | simp_all)

end Go.Proofs.YtepanogpojolfaaDoor
