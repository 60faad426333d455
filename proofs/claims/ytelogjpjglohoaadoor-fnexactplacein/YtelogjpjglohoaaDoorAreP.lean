/- A struct of three ints, by value, that comes in: opened. -/
import Derived.Test.YtelogjpjglohoaaDoorArgP
namespace Go.Proofs.YtelogjpjglohoaaDoor
open Go Go.RowKit Go.ChangeShapes Go.WideShapes Go.Deep
set_option linter.unusedVariables false
section
variable {H : Type} {enc : TypeId × Value → H} {P : Program} {w : World} {base : Nat} {spare : Nat → Bool} {held : Bool}
theorem open_three {r : Reach} {b0 : Nat} {t : TypeId} {f0 f1 f2 : Field} {v : Value} {d : DataW H} {p : List MemPlace} (hs : P.underlying t = some (.struct #[f0, f1, f2])) (hone : oneCellFields P #[f0, f1, f2] = true) (hC : P.cellsOf t = 3)
    (u0 : P.underlying f0.type = some (.int .i64)) (u1 : P.underlying f1.type = some (.int .i64)) (u2 : P.underlying f2.type = some (.int .i64))
    (hv : Value.okWide P w r b0 t v) (h : DataW.Trod enc P w base spare held t v d p) :
    ∃ a0 a1 a2 : Int, v = .agg #[.int .i64 a0, .int .i64 a1, .int .i64 a2] ∧ (Lit.int .i64 a0).wf = true ∧ (Lit.int .i64 a1).wf = true ∧ (Lit.int .i64 a2).wf = true := by
  obtain ⟨cs, rfl, hsz, n, hx⟩ := open_agg hs hone hC hv h
  obtain ⟨c0, c1, c2, rfl⟩ := array3 hsz
  obtain ⟨v0, y0, e0, g0⟩ := hx 0 f0 rfl
  obtain ⟨v1, y1, e1, g1⟩ := hx 1 f1 rfl
  obtain ⟨v2, y2, e2, g2⟩ := hx 2 f2 rfl
  simp at e0 e1 e2
  subst e0 e1 e2
  obtain ⟨a0, k0, _, w0⟩ := DataW.trod_int u0 g0
  obtain ⟨a1, k1, _, w1⟩ := DataW.trod_int u1 g1
  obtain ⟨a2, k2, _, w2⟩ := DataW.trod_int u2 g2
  simp only [List.cons.injEq, and_true] at k0 k1 k2
  subst k0 k1 k2
  exact ⟨a0, a1, a2, rfl, w0, w1, w2⟩
end
end Go.Proofs.YtelogjpjglohoaaDoor
