/- The two errors at package level, as they are laid. -/
import Derived.Test.YtkcgckdomjpelaaDoorErrIs
import Derived.ProofKit
import Derived.OpenShut
import Derived.LaidMore
import Derived.Stop.LaidTwo
import Derived.Stop.Joined
namespace Go.Proofs.YtkcgckdomjpelaaDoor
open Go.RowKit Go.ChangeShapes Go.WideShapes Go.ChangeAt
set_option linter.unusedVariables false

/-- errRange is a pointer, errSize another one. -/
structure LaidAt (w : World) (a0 a1 : Addr) : Prop where
  r : w.cell? ⟨0, 0, none⟩ = some (.iface 62 (.pointer (some a0)))
  s : w.cell? ⟨1, 0, none⟩ = some (.iface 62 (.pointer (some a1)))
  ne : a0 ≠ a1
  hr : ∃ c t, w.heap[a0.block]? = some (.cells c t (0, 0))
  hs : ∃ c t, w.heap[a1.block]? = some (.cells c t (0, 0))
def Laid (w : World) : Prop := ∃ a0 a1, LaidAt w a0 a1

theorem LaidAt.below {w w' : World} {a0 a1 : Addr} (h : LaidAt w a0 a1) (hb : Below w.heap.size w w') : LaidAt w' a0 a1 := by
  obtain ⟨r, s, ne, ⟨c0, t0, h0⟩, ⟨c1, t1, h1⟩⟩ := h
  exact ⟨(hb.cell (p := ⟨0, 0, none⟩) (World.block_lt_of_cell? w _ r)).trans r, (hb.cell (p := ⟨1, 0, none⟩) (World.block_lt_of_cell? w _ s)).trans s, ne,
    ⟨c0, t0, (hb.block _ (Array.getElem?_eq_some_iff.1 h0).1).trans h0⟩, ⟨c1, t1, (hb.block _ (Array.getElem?_eq_some_iff.1 h1).1).trans h1⟩⟩
theorem laid_below {w w' : World} (h : Laid w) (hb : Below w.heap.size w w') : Laid w' := by
  obtain ⟨a0, a1, h⟩ := h
  exact ⟨a0, a1, h.below hb⟩

def laidList : List (String × DataW Unit) := [("loop.example/g00654/impl.errRange", Rows.laid_loop_example_g00654_impl_errRange), ("loop.example/g00654/impl.errSize", Rows.laid_loop_example_g00654_impl_errSize)]
theorem gR : Tryd.prog.globalNamed "loop.example/g00654/impl.errRange" = some 0 := by kernel_rfl
theorem gS : Tryd.prog.globalNamed "loop.example/g00654/impl.errSize" = some 1 := by kernel_rfl
theorem tR : (Tryd.prog.globals[0]?).map (·.type) = some 36 := by kernel_rfl
theorem tS : (Tryd.prog.globals[1]?).map (·.type) = some 36 := by kernel_rfl
theorem cE : Tryd.prog.cellsOf 88 = 1 := by kernel_rfl
theorem cS : Tryd.prog.cellsOf 9 = 1 := by kernel_rfl
theorem starE : "*" ++ "errors.errorString" = "*errors.errorString" := by decide
theorem rowE (u : TypeId) (h : Tryd.prog.typeName? 3 u = some "*errors.errorString") : u = 62 :=
  typeName_ptr_named (nm := "errors.errorString") (by rw [starE]; kernel_rfl) (by kernel_rfl) (by decide) u (by rw [starE]; exact h)

theorem door_met (os : Os) (args : Array Value) : laidMetH Tryd.prog laidList ((World.doorLaid Tryd.prog 400 os).forCall (fun _ _ => 0) ⟨#[], args, []⟩).memory :=
  laidMetH_of_parts3 (fuel := 8) (laidMet_of_run' 8 (by kernel_rfl) (by kernel_rfl)) (by kernel_rfl) (by kernel_rfl)

theorem of_laid {W : World} (h : laidMetH Tryd.prog laidList W) : Laid W := by
  rw [MakeChecks.laidMetH_plain _ _ _ (by kernel_rfl)] at h
  obtain ⟨a0, a1, s0, s1, c0, c1, t0, t1, hv0, hv1, hc0, hs0, hz0, hc1, hs1, hz1, hne, hb0, hb1⟩ := laid_sentinels2 h gR tR gS tS Tryd.underlying36 rowE Tryd.underlying62 Tryd.underlying88 rfl rfl Tryd.underlying9 cE cS
  exact ⟨a0, a1, by simpa using World.var?_cell gR hv0 0, by simpa using World.var?_cell gS hv1 0, hne, ⟨c0, t0, hb0⟩, ⟨c1, t1, hb1⟩⟩

theorem vars_len2 {H : Type} {enc : TypeId × Value → H} {P : Program} {w : World} {sp : Nat → Bool} {m n : String} {gs : List (DataW H)} {ps : List MemPlace} (h : DataW.TrodVars enc P w sp [m, n] gs ps) : ∃ g k, gs = [g, k] := by
  obtain ⟨g0, t0, cs0, f0, d0, p0, g1, t1, cs1, f1, d1, p1, rfl, _⟩ := trodVars_two h
  exact ⟨d0, d1, rfl⟩
end Go.Proofs.YtkcgckdomjpelaaDoor
