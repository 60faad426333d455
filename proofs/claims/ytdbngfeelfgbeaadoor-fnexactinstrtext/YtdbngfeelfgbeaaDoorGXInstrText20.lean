/- What is laid on the road of an instruction's text: the powers of ten, the two errors, the names of the operations. -/
import Derived.Test.YtdbngfeelfgbeaaDoorGXInstrText5
import Derived.Test.YtdbngfeelfgbeaaDoorGXInstrText0
import Derived.Lib.LaidTab
import Derived.Lib.ItoaNum
import Derived.Lib.ItoaMem
import Derived.Stop.LaidErr
import Derived.WalkSmall
namespace Go.Proofs.YtdbngfeelfgbeaaDoor.Tx
open Go.RowKit Go.ChangeShapes Go.WideShapes Go.ChangeAt
set_option linter.unusedVariables false

def laidList : List (String × DataW Unit) := [("math/bits.deBruijn32tab", Rows.laid_math_bits_deBruijn32tab), ("math/bits.deBruijn64tab", Rows.laid_math_bits_deBruijn64tab), ("internal/strconv.uint64pow10", Rows.laid_internal_strconv_uint64pow10), ("loop.example/g00654/impl.errRange", Rows.laid_loop_example_g00654_impl_errRange), ("loop.example/g00654/impl.errSize", Rows.laid_loop_example_g00654_impl_errSize), ("loop.example/g00654/impl.opNames", Rows.laid_loop_example_g00654_impl_opNames)]

/-- The powers of ten are there. -/
def Pow (w : World) : Prop := Lib.TabIs Tryd.prog w "internal/strconv.uint64pow10" .u64 Lib.pow10Tab
theorem gP : Tryd.prog.globalNamed "internal/strconv.uint64pow10" = some 4 := by kernel_rfl
theorem tP : (Tryd.prog.globals[4]?).map (·.type) = some 131 := by kernel_rfl
theorem cP : Tryd.prog.cellsOf 131 = 20 := by kernel_rfl
theorem cU : Tryd.prog.cellsOf 108 = 1 := by kernel_rfl
theorem pow_data : (Rows.laid_internal_strconv_uint64pow10 : DataW Unit) = Lib.tabData .u64 Lib.pow10Tab := by
  simp [Rows.laid_internal_strconv_uint64pow10, Lib.tabData, Lib.pow10Tab, List.range, List.range.loop]
theorem pow_below {w w' : World} (h : Pow w) (hb : Below w.heap.size w w') : Pow w' := by
  have hg : 4 < w.heap.size := by
    have h0 := World.var?_cell gP h 0
    rw [show ((Lib.pow10Tab.map fun z => Value.int .u64 z).toArray)[0]? = some (.int .u64 1) by simp [Lib.pow10Tab]] at h0
    exact World.block_lt_of_cell? w _ h0
  exact var?_below hb gP hg h

structure Laid (w : World) : Prop where
  e : Go.Proofs.YtdbngfeelfgbeaaDoor.Laid w
  o : Op.Laid w
  p : Pow w

theorem laid_below {w w' : World} (h : Laid w) (hb : Below w.heap.size w w') : Laid w' := ⟨Go.Proofs.YtdbngfeelfgbeaaDoor.laid_below h.e hb, Op.laid_below h.o hb, pow_below h.p hb⟩

theorem errs_of {W : World} {r : List (String × DataW Unit)} (h : laidMet Tryd.prog (("loop.example/g00654/impl.errRange", Rows.laid_loop_example_g00654_impl_errRange) :: ("loop.example/g00654/impl.errSize", Rows.laid_loop_example_g00654_impl_errSize) :: r) W) : Go.Proofs.YtdbngfeelfgbeaaDoor.Laid W := by
  obtain ⟨a0, a1, s0, s1, c0, c1, t0, t1, hv0, hv1, hc0, hs0, hz0, hc1, hs1, hz1, hne, hb0, hb1⟩ := laid_sentinels2 h gR tR gS tS Tryd.underlying64 rowE Tryd.underlying144 Tryd.underlying146 rfl rfl Tryd.underlying9 cE cS
  exact ⟨a0, a1, by simpa using World.var?_cell gR hv0 0, by simpa using World.var?_cell gS hv1 0, hne, ⟨c0, t0, hb0⟩, ⟨c1, t1, hb1⟩⟩
theorem names_of {W : World} (h : laidMet Tryd.prog [("loop.example/g00654/impl.opNames", Rows.laid_loop_example_g00654_impl_opNames)] W) : Op.Laid W := by
  apply Op.of_laid
  rw [MakeChecks.laidMetH_plain _ _ _ (by kernel_rfl)]
  exact h
theorem pow_of {W : World} {r : List (String × DataW Unit)} (h : laidMet Tryd.prog (("internal/strconv.uint64pow10", Rows.laid_internal_strconv_uint64pow10) :: r) W) : Pow W := by
  rw [pow_data] at h
  exact Lib.tabIs_of_head gP tP Tryd.underlying131 Tryd.underlying108 cU cP h

theorem of_laid {W : World} (h : laidMetH Tryd.prog laidList W) : Laid W := by
  rw [MakeChecks.laidMetH_plain _ _ _ (by kernel_rfl)] at h
  have h3 := h.tail.tail
  exact ⟨errs_of h3.tail, names_of h3.tail.tail.tail, pow_of h3⟩
theorem door_met (os : Os) (args : Array Value) : laidMetH Tryd.prog laidList ((World.doorLaid Tryd.prog 400 os).forCall (fun _ _ => 0) ⟨#[], args, []⟩).memory :=
  laidMetH_of_parts3 (fuel := 8) (laidMet_of_run' 8 (by kernel_rfl) (by kernel_rfl)) (by kernel_rfl) (by kernel_rfl)
theorem vars_len3 {H : Type} {enc : TypeId × Value → H} {P : Program} {w : World} {sp : Nat → Bool} {m n o : String} {gs : List (DataW H)} {ps : List MemPlace} (h : DataW.TrodVars enc P w sp [m, n, o] gs ps) : ∃ g k l, gs = [g, k, l] := by
  cases gs with
  | nil => simp [DataW.TrodVars] at h
  | cons d ds =>
    obtain ⟨_, _, _, _, _, _, _, _, _, _, hs, _⟩ := h
    obtain ⟨_, _, _, _, d1, _, _, _, _, _, d2, _, rfl, _⟩ := trodVars_two hs
    exact ⟨d, d1, d2, rfl⟩
end Go.Proofs.YtdbngfeelfgbeaaDoor.Tx
