/- What is laid on the road of two parts of an address and of the kinds' names: the five errors, the table of the kinds; a kind's own name tells the kind. -/
import Derived.Test.YtdabllnigaafmaaDoorErrL
import Derived.Test.YtdabllnigaafmaaDoorRlnW
namespace Go.Proofs.YtdabllnigaafmaaDoor.Rs
open Go.RowKit Go.ChangeShapes Go.WideShapes Go.ChangeAt
set_option linter.unusedVariables false

def laidList : List (String × DataW Unit) := [("loop.example/g00654/impl.errRange", Rows.laid_loop_example_g00654_impl_errRange), ("loop.example/g00654/impl.errSize", Rows.laid_loop_example_g00654_impl_errSize), ("loop.example/g00654/impl.errForm", Rows.laid_loop_example_g00654_impl_errForm), ("loop.example/g00654/impl.errSum", Rows.laid_loop_example_g00654_impl_errSum), ("loop.example/g00654/impl.errEnd", Rows.laid_loop_example_g00654_impl_errEnd), ("loop.example/g00654/impl.relocNames", Rows.laid_loop_example_g00654_impl_relocNames)]
structure Laid (w : World) : Prop where
  e : Go.Proofs.YtdabllnigaafmaaDoor.Laid w
  r : Rn.Laid w
theorem laid_below {w w' : World} (h : Laid w) (hb : Below w.heap.size w w') : Laid w' := ⟨Go.Proofs.YtdabllnigaafmaaDoor.laid_below h.e hb, Rn.laid_below h.r hb⟩
theorem errs_of {W : World} (h : laidMet Tryd.prog [("loop.example/g00654/impl.errRange", Rows.laid_loop_example_g00654_impl_errRange), ("loop.example/g00654/impl.errSize", Rows.laid_loop_example_g00654_impl_errSize), ("loop.example/g00654/impl.errForm", Rows.laid_loop_example_g00654_impl_errForm), ("loop.example/g00654/impl.errSum", Rows.laid_loop_example_g00654_impl_errSum), ("loop.example/g00654/impl.errEnd", Rows.laid_loop_example_g00654_impl_errEnd), ("loop.example/g00654/impl.relocNames", Rows.laid_loop_example_g00654_impl_relocNames)] W) : Go.Proofs.YtdabllnigaafmaaDoor.Laid W := by
  have h1 := h.filter (fun x => !(x.1 == "loop.example/g00654/impl.relocNames"))
  have e : [("loop.example/g00654/impl.errRange", Rows.laid_loop_example_g00654_impl_errRange), ("loop.example/g00654/impl.errSize", Rows.laid_loop_example_g00654_impl_errSize), ("loop.example/g00654/impl.errForm", Rows.laid_loop_example_g00654_impl_errForm), ("loop.example/g00654/impl.errSum", Rows.laid_loop_example_g00654_impl_errSum), ("loop.example/g00654/impl.errEnd", Rows.laid_loop_example_g00654_impl_errEnd), ("loop.example/g00654/impl.relocNames", (Rows.laid_loop_example_g00654_impl_relocNames : DataW Unit))].filter (fun x => !(x.1 == "loop.example/g00654/impl.relocNames")) = Go.Proofs.YtdabllnigaafmaaDoor.laidList := by simp [Go.Proofs.YtdabllnigaafmaaDoor.laidList]
  rw [e] at h1
  exact laid_of_met h1
theorem names_of {W : World} (h : laidMet Tryd.prog [("loop.example/g00654/impl.relocNames", Rows.laid_loop_example_g00654_impl_relocNames)] W) : Rn.Laid W := by
  apply Rn.of_laid
  rw [MakeChecks.laidMetH_plain _ _ _ (by kernel_rfl)]
  exact h
theorem of_laid {W : World} (h : laidMetH Tryd.prog laidList W) : Laid W := by
  rw [MakeChecks.laidMetH_plain _ _ _ (by kernel_rfl)] at h
  exact ⟨errs_of h, names_of h.tail.tail.tail.tail.tail⟩
theorem door_met (os : Os) (args : Array Value) : laidMetH Tryd.prog laidList ((World.doorLaid Tryd.prog 400 os).forCall (fun _ _ => 0) ⟨#[], args, []⟩).memory :=
  laidMetH_of_parts3 (fuel := 8) (laidMet_of_run' 8 (by kernel_rfl) (by kernel_rfl)) (by kernel_rfl) (by kernel_rfl)
theorem vars_len6 {H : Type} {enc : TypeId × Value → H} {P : Program} {w : World} {sp : Nat → Bool} {m n o p q r : String} {gs : List (DataW H)} {ps : List MemPlace} (h : DataW.TrodVars enc P w sp [m, n, o, p, q, r] gs ps) : ∃ g k l a b c, gs = [g, k, l, a, b, c] := by
  obtain ⟨d0, r0, _, e0, h0⟩ := vars_cons h
  obtain ⟨d1, d2, d3, d4, d5, e1⟩ := vars_len5 h0
  exact ⟨d0, d1, d2, d3, d4, d5, by rw [e0, e1]⟩

/-- A kind's name tells the kind. -/
theorem relT_own (k : Nat) (h : k < 9) : Rl.relT (Rl.rnAt k) = k + 1 := by
  have hh : Rl.isR (Rl.rnAt k) k = true := by
    unfold Rl.isR
    exact beq_self_eq_true _
  have hm : ∀ j, j < k → Rl.isR (Rl.rnAt k) j = false := fun j hj => by
    unfold Rl.isR
    rw [ByteArray.toList_eq, ByteArray.toList_eq]
    have : ∀ a : Fin 9, ∀ b : Fin 9, b.1 < a.1 → ((Rl.rnAt b.1).data.toList == (Rl.rnAt a.1).data.toList) = false := by decide +kernel
    exact this ⟨k, h⟩ ⟨j, by omega⟩ hj
  have := Rn.relFrom_ge (Rl.rnAt k) 9 0 k (by omega) (fun j hj => by rw [Nat.zero_add]; exact hm j hj)
  unfold Rl.relT
  rw [this, Nat.zero_add, Rl.relFrom_hit _ _ k hh (by omega)]
end Go.Proofs.YtdabllnigaafmaaDoor.Rs
