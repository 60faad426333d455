/- flowShape: contract. moveShape: contract. -/
import Derived.Test.YtjpdjalhhokghaaDoorGXInstrText3
namespace Go.Proofs.YtjpdjalhhokghaaDoor
open Go.RowKit
set_option linter.unusedVariables false

set_option maxRecDepth 100000 in
set_option maxHeartbeats 40000000 in
theorem flowC (op : Int) (w : World) (hr : Hid (op ≤ 10 ∨ 63 ≤ op)) :
    Calls Tryd.prog 97 #[.int .i64 op] w fun e w' => e = .returned (shV (shT op)) ∧ Below w.heap.size w w' := by
  go_enter Tryd.func97, Tryd.ntmps97
  go_wp2
  all_goals first
    | (obtain rfl := eq_of_beq (‹(op == _) = true›)
       skip
       exact bodyPost_ret (v := shV (shT _)) (by simp [results, Tryd.results97, go_sem]; rfl) rfl ⟨rfl, (Below.refl _ _).alloc (Nat.le_refl _) _⟩)
    | (have ho : shT op = (0, 0, 0, 0) := by
         apply shT_out
         have h2 : op ≤ 10 ∨ 63 ≤ op := hr.out
         simp only [beq_eq_false_iff_ne] at *
         omega
       rw [ho]
       exact bodyPost_ret (v := shV (0, 0, 0, 0)) (by simp [results, Tryd.results97, go_sem]; rfl) rfl ⟨rfl, (Below.refl _ _).alloc (Nat.le_refl _) _⟩)

end Go.Proofs.YtjpdjalhhokghaaDoor

namespace Go.Proofs.YtjpdjalhhokghaaDoor
open Go.RowKit
set_option linter.unusedVariables false

set_option maxRecDepth 100000 in
set_option maxHeartbeats 40000000 in
theorem moveC (op : Int) (w : World) (hc : Hid (op = 11 ∨ op = 12 ∨ op = 13 ∨ op = 14 ∨ op = 15 ∨ op = 16 ∨ op = 17 ∨ op = 18 ∨ op = 19 ∨ op = 20 ∨ op = 21)) :
    Calls Tryd.prog 98 #[.int .i64 op] w fun e w' => e = .returned (shV (shT op)) ∧ Below w.heap.size w w' := by
  go_enter Tryd.func98, Tryd.ntmps98
  go_wp2
  all_goals first
    | (obtain rfl := eq_of_beq (‹(op == _) = true›)
       clear hc
       exact bodyPost_ret (v := shV (shT _)) (by simp [results, Tryd.results98, go_sem]; rfl) rfl ⟨rfl, (Below.refl _ _).alloc (Nat.le_refl _) _⟩)
    | (exfalso
       have h2 : op = 11 ∨ op = 12 ∨ op = 13 ∨ op = 14 ∨ op = 15 ∨ op = 16 ∨ op = 17 ∨ op = 18 ∨ op = 19 ∨ op = 20 ∨ op = 21 := hc.out
       rcases h2 with rfl | rfl | rfl | rfl | rfl | rfl | rfl | rfl | rfl | rfl | rfl <;> first | contradiction | simp_all)

end Go.Proofs.YtjpdjalhhokghaaDoor
