/- A new processor, and whether one is right: contracts, of the model and of the program. -/
import Derived.Test.YtjpdjalhhokghaaDoorHrtB
import Derived.Great.BuildSlice
namespace Go.Proofs.YtjpdjalhhokghaaDoor
open Go.RowKit
set_option linter.unusedVariables false

/-- The registers of a new processor. -/
def sp2 (sp : Int) (i : Nat) : Int := if i = 2 then sp else 0
set_option maxRecDepth 100000 in
set_option maxHeartbeats 1000000 in
theorem setNo (g : Nat) (v : Int) (w : World) :
    Calls Tryd.prog 89 #[.pointer (some ⟨g, 0, none⟩), .int .i64 0, .int .i64 v] w fun e w' => e = .returned (.tuple #[]) ∧ w' = w := by
  go_enter Tryd.func89, Tryd.ntmps89
  go_wp2
  go_end0
  exact ⟨rfl, rfl⟩
set_option maxRecDepth 100000 in
set_option maxHeartbeats 1000000 in
theorem setYes (g : Nat) (R : Nat → Int) (pc : Int) (r : Nat) (hr : r < 32) (h0 : 0 < r) (v : Int) (w : World) (hg : Lies w g 57 (hartC R pc)) :
    Calls Tryd.prog 89 #[.pointer (some ⟨g, 0, none⟩), .int .i64 r, .int .i64 v] w fun e w' => e = .returned (.tuple #[]) ∧ w' = w.setCell ⟨g, r, none⟩ (.int .i64 v) := by
  have hc := hg.cell (hartC_at R pc r hr)
  have hf := hg.fro r
  have hne : ¬ (r : Int) = 0 := by omega
  have hlt : (r : Int) < 32 := by omega
  go_enter Tryd.func89, Tryd.ntmps89
  go_wp2
  go_end0
  exact ⟨rfl, rfl⟩

set_option maxRecDepth 100000 in
set_option maxHeartbeats 1000000 in
theorem specOkC (R : Nat → Int) (pc : Int) (w : World) :
    Calls Tryd.prog 84 #[.agg (hartC R pc)] w fun e w' => e = .returned (.bool (R 0 == 0)) ∧ Below w.heap.size w w' := by
  have hA := (Lies.new w (hartC R pc) 57).cell (hartC_at R pc 0 (by omega))
  go_enter Tryd.func84, Tryd.ntmps84
  go_wp2
  go_ret
  exact ⟨rfl, (Below.refl _ _).alloc (Nat.le_refl _) _⟩
set_option maxRecDepth 100000 in
set_option maxHeartbeats 1000000 in
theorem okC (R : Nat → Int) (pc : Int) (w : World) :
    Calls Tryd.prog 88 #[.agg (hartC R pc)] w fun e w' => e = .returned (.bool (R 0 == 0)) ∧ Below w.heap.size w w' := by
  have hA := (Lies.new w (hartC R pc) 57).cell (hartC_at R pc 0 (by omega))
  go_enter Tryd.func88, Tryd.ntmps88
  go_wp2
  go_ret
  exact ⟨rfl, (Below.refl _ _).alloc (Nat.le_refl _) _⟩
end Go.Proofs.YtjpdjalhhokghaaDoor
