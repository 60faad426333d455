/- Branches: the program's table of comparisons: contract. -/
import Derived.Test.YtmahjgaaahkakaaWrdA
import Derived.Test.YtmahjgaaahkakaaKndC
import Derived.Below
import Derived.Deep.WholeRow
namespace Go.Proofs.Ytmahjgaaahkakaa
open Go.RowKit
set_option linter.unusedVariables false

def fnV (f : Nat) : Value := .func (.func f) #[] #[]
def cmpsA : Array Value := #[.nilFunc, .nilFunc, .nilFunc, .nilFunc, .nilFunc, fnV 102, fnV 103, fnV 104, fnV 105, fnV 21, fnV 106]
def cmps0 : Array Value := #[.nilFunc, .nilFunc, .nilFunc, .nilFunc, .nilFunc, .nilFunc, .nilFunc, .nilFunc, .nilFunc, .nilFunc, .nilFunc]

theorem results_cell_of {fn : Func} {p : Tmp} {ty : TypeId} {a : Addr} {v : Value} (h : fn.results = #[.cell p ty]) (tmps : Array Value) (P : Program) (w : World) (ht : tmps[p]?.getD undef = .pointer (some a)) (hl : (loadVar ty a).run P w = .ok v w) :
    (results fn tmps).run P w = .ok v w := by
  simp only [results, h]
  simp [ht, asAddr, hl]

theorem cmpsC (w : World) :
    Calls Try.prog 48 #[] w fun e w' => e = .returned (.agg cmpsA) ∧ Below w.heap.size w w' := by
  have hld := run_loadVar_new (P := Try.prog) w 55 cmpsA 11 54 (by kernel_rfl) (by kernel_rfl)
  go_enter Try.func48, Try.ntmps48
  go_wp2_with (first
    | (refine wpList_buildTo rfl 55 _ rfl (some 1) rfl cmpsA (by kernel_rfl) ?_)
    | (refine wpList_store_row rfl 55 _ _ rfl w.heap.size cmpsA rfl rfl 55 cmps0 (heap_alloc_last w _) (by kernel_rfl) rfl (by kernel_rfl) ?_
       rw [World.setRow_alloc_new]))
  refine bodyPost_ret (v := .agg cmpsA) ?_ rfl ⟨rfl, (Below.refl _ _).alloc (Nat.le_refl _) _⟩
  exact results_cell_of (a := ⟨w.heap.size, 0, none⟩) rfl _ _ _ rfl hld
end Go.Proofs.Ytmahjgaaahkakaa
