/- The text of an instruction, as bytes; the model's pieces of it: contracts. What is laid on the road of an instruction's text: the powers of ten, the five errors, the names of the operations. -/
import Derived.Test.YtjpdjalhhokghaaDoorGXInstrText0
import Derived.Test.YtjpdjalhhokghaaDoorGXInstrText2
import Derived.Test.YtjpdjalhhokghaaDoorGXInstrText19
import Derived.Test.YtjpdjalhhokghaaDoorGXInstrText6
import Derived.Test.YtjpdjalhhokghaaDoorGXInstrText1
import Derived.Lib.LaidTab
import Derived.Lib.ItoaNum
import Derived.Lib.ItoaMem
import Derived.Stop.LaidErr
import Derived.WalkSmall
namespace Go.Proofs.YtjpdjalhhokghaaDoor.Tx
open Go.RowKit
set_option linter.unusedVariables false

/-- The words of a register and of a number, a blank ahead. -/
def regT (r : Int) : List UInt8 := [32, 120] ++ Lib.itoa r
def immT (v : Int) : List UInt8 := [32] ++ Lib.itoa v
/-- The text of an instruction of form f whose name is n. -/
def textL (f : Int) (n : List UInt8) (rd r1 r2 im : Int) : List UInt8 :=
  if f = 1 ∨ f = 2 then n ++ regT rd ++ immT im
  else if f = 3 ∨ f = 6 ∨ f = 7 then n ++ regT rd ++ regT r1 ++ immT im
  else if f = 4 then n ++ regT r1 ++ regT r2 ++ immT im
  else if f = 5 then n ++ regT r2 ++ regT r1 ++ immT im
  else if f = 8 then n ++ regT rd ++ regT r1 ++ regT r2
  else n

def In64 (n : Int) : Prop := -9223372036854775808 ≤ n ∧ n ≤ 9223372036854775807
theorem itoa_len (n : Int) (h : In64 n) : (Lib.itoa n).length ≤ 21 := Lib.itoa_length_le n h.1 h.2
theorem regT_len (n : Int) (h : In64 n) : (regT n).length ≤ 23 := by have := itoa_len n h; unfold regT; simp; omega
theorem immT_len (n : Int) (h : In64 n) : (immT n).length ≤ 22 := by have := itoa_len n h; unfold immT; simp; omega

/-- '+' on two texts. -/
theorem plus (a b : List UInt8) (h : a.length + b.length ≤ 1000000) (w : World) : (Op.stringOp .add (txt a) (txt b)).run Tryd.prog w = .ok (.string (txt (a ++ b))) w := by
  rw [add_any _ _ (by rw [txt_size, txt_size]; exact h), txt_append]

theorem regC (n : Int) (h : In64 n) (w : World) :
    Calls Tryd.prog 110 #[.int .i64 n] w fun e w' => e = .returned (.string (txt (regT n))) ∧ Below w.heap.size w w' := by
  have hp := plus [32, 120] (Lib.itoa n) (by have := itoa_len n h; simp; omega)
  have hp' : ∀ w : World, (Op.stringOp .add { data := #[32, 120] } (txt (Lib.itoa n))).run Tryd.prog w = .ok (.string (txt (regT n))) w := hp
  clear hp
  go_enter Tryd.func110, Tryd.ntmps110
  go_wp2_with fail
  refine (digitsC n h.1 h.2 _).mono ?_
  rintro e w1 ⟨rfl, hb⟩
  go_wp2
  go_ret
  exact ⟨rfl, hb⟩

end Go.Proofs.YtjpdjalhhokghaaDoor.Tx

namespace Go.Proofs.YtjpdjalhhokghaaDoor.Tx
open Go.RowKit Go.ChangeShapes Go.WideShapes Go.ChangeAt
set_option linter.unusedVariables false

def laidList : List (String × DataW Unit) := [("math/bits.deBruijn32tab", Rows.laid_math_bits_deBruijn32tab), ("math/bits.deBruijn64tab", Rows.laid_math_bits_deBruijn64tab), ("internal/strconv.uint64pow10", Rows.laid_internal_strconv_uint64pow10), ("loop.example/g00654/impl.errRange", Rows.laid_loop_example_g00654_impl_errRange), ("loop.example/g00654/impl.errSize", Rows.laid_loop_example_g00654_impl_errSize), ("loop.example/g00654/impl.errForm", Rows.laid_loop_example_g00654_impl_errForm), ("loop.example/g00654/impl.errSum", Rows.laid_loop_example_g00654_impl_errSum), ("loop.example/g00654/impl.errEnd", Rows.laid_loop_example_g00654_impl_errEnd), ("loop.example/g00654/impl.opNames", Rows.laid_loop_example_g00654_impl_opNames)]

/-- The powers of ten are there. -/
def Pow (w : World) : Prop := Lib.TabIs Tryd.prog w "internal/strconv.uint64pow10" .u64 Lib.pow10Tab
theorem gP : Tryd.prog.globalNamed "internal/strconv.uint64pow10" = some 7 := by kernel_rfl
theorem tP : (Tryd.prog.globals[7]?).map (·.type) = some 186 := by kernel_rfl
theorem cP : Tryd.prog.cellsOf 186 = 20 := by kernel_rfl
theorem cU : Tryd.prog.cellsOf 31 = 1 := by kernel_rfl
theorem pow_data : (Rows.laid_internal_strconv_uint64pow10 : DataW Unit) = Lib.tabData .u64 Lib.pow10Tab := by
  simp [Rows.laid_internal_strconv_uint64pow10, Lib.tabData, Lib.pow10Tab, List.range, List.range.loop]
theorem pow_below {w w' : World} (h : Pow w) (hb : Below w.heap.size w w') : Pow w' := by
  have hg : 7 < w.heap.size := by
    have h0 := World.var?_cell gP h 0
    rw [show ((Lib.pow10Tab.map fun z => Value.int .u64 z).toArray)[0]? = some (.int .u64 1) by simp [Lib.pow10Tab]] at h0
    exact World.block_lt_of_cell? w _ h0
  exact var?_below hb gP hg h

structure Laid (w : World) : Prop where
  e : Go.Proofs.YtjpdjalhhokghaaDoor.Laid w
  o : Op.Laid w
  p : Pow w

theorem laid_below {w w' : World} (h : Laid w) (hb : Below w.heap.size w w') : Laid w' := ⟨Go.Proofs.YtjpdjalhhokghaaDoor.laid_below h.e hb, Op.laid_below h.o hb, pow_below h.p hb⟩

theorem errs_of {W : World} (h : laidMet Tryd.prog [("loop.example/g00654/impl.errRange", Rows.laid_loop_example_g00654_impl_errRange), ("loop.example/g00654/impl.errSize", Rows.laid_loop_example_g00654_impl_errSize), ("loop.example/g00654/impl.errForm", Rows.laid_loop_example_g00654_impl_errForm), ("loop.example/g00654/impl.errSum", Rows.laid_loop_example_g00654_impl_errSum), ("loop.example/g00654/impl.errEnd", Rows.laid_loop_example_g00654_impl_errEnd), ("loop.example/g00654/impl.opNames", Rows.laid_loop_example_g00654_impl_opNames)] W) : Go.Proofs.YtjpdjalhhokghaaDoor.Laid W := by
  have h1 := h.filter (fun x => !(x.1 == "loop.example/g00654/impl.opNames"))
  have e : [("loop.example/g00654/impl.errRange", Rows.laid_loop_example_g00654_impl_errRange), ("loop.example/g00654/impl.errSize", Rows.laid_loop_example_g00654_impl_errSize), ("loop.example/g00654/impl.errForm", Rows.laid_loop_example_g00654_impl_errForm), ("loop.example/g00654/impl.errSum", Rows.laid_loop_example_g00654_impl_errSum), ("loop.example/g00654/impl.errEnd", Rows.laid_loop_example_g00654_impl_errEnd), ("loop.example/g00654/impl.opNames", (Rows.laid_loop_example_g00654_impl_opNames : DataW Unit))].filter (fun x => !(x.1 == "loop.example/g00654/impl.opNames")) = Go.Proofs.YtjpdjalhhokghaaDoor.laidList := by simp [Go.Proofs.YtjpdjalhhokghaaDoor.laidList]
  rw [e] at h1
  exact laid_of_met h1
theorem names_of {W : World} (h : laidMet Tryd.prog [("loop.example/g00654/impl.opNames", Rows.laid_loop_example_g00654_impl_opNames)] W) : Op.Laid W := by
  apply Op.of_laid
  rw [MakeChecks.laidMetH_plain _ _ _ (by kernel_rfl)]
  exact h
theorem pow_of {W : World} {r : List (String × DataW Unit)} (h : laidMet Tryd.prog (("internal/strconv.uint64pow10", Rows.laid_internal_strconv_uint64pow10) :: r) W) : Pow W := by
  rw [pow_data] at h
  exact Lib.tabIs_of_head gP tP Tryd.underlying186 Tryd.underlying31 cU cP h

theorem of_laid {W : World} (h : laidMetH Tryd.prog laidList W) : Laid W := by
  rw [MakeChecks.laidMetH_plain _ _ _ (by kernel_rfl)] at h
  have h3 := h.tail.tail
  exact ⟨errs_of h3.tail, names_of h3.tail.tail.tail.tail.tail.tail, pow_of h3⟩
theorem door_met (os : Os) (args : Array Value) : laidMetH Tryd.prog laidList ((World.doorLaid Tryd.prog 400 os).forCall (fun _ _ => 0) ⟨#[], args, []⟩).memory :=
  laidMetH_of_parts3 (fuel := 8) (laidMet_of_run' 8 (by kernel_rfl) (by kernel_rfl)) (by kernel_rfl) (by kernel_rfl)
theorem vars_len6 {H : Type} {enc : TypeId × Value → H} {P : Program} {w : World} {sp : Nat → Bool} {m n o p q r : String} {gs : List (DataW H)} {ps : List MemPlace} (h : DataW.TrodVars enc P w sp [m, n, o, p, q, r] gs ps) : ∃ g k l a b c, gs = [g, k, l, a, b, c] := by
  obtain ⟨d0, r0, _, e0, h0⟩ := vars_cons h
  obtain ⟨d1, d2, d3, d4, d5, e1⟩ := vars_len5 h0
  exact ⟨d0, d1, d2, d3, d4, d5, by rw [e0, e1]⟩
end Go.Proofs.YtjpdjalhhokghaaDoor.Tx
