/- The text of an instruction, as bytes; the model's pieces of it: contracts. -/
import Derived.Test.YtdbngfeelfgbeaaDoorGXInstrText0
import Derived.Test.YtdbngfeelfgbeaaDoorGXInstrText1
import Derived.Test.YtdbngfeelfgbeaaDoorGXInstrText18
namespace Go.Proofs.YtdbngfeelfgbeaaDoor.Tx
open Go.RowKit
set_option linter.unusedVariables false

/-- The words of a register and of a number, a blank ahead. -/
def regT (r : Int) : List UInt8 := [32, 120] ++ Lib.itoa r
def immT (v : Int) : List UInt8 := [32] ++ Lib.itoa v
/-- The text of an instruction of form f whose name is n. -/
def textL (f : Int) (n : List UInt8) (rd r1 r2 im : Int) : List UInt8 :=
  if f = 1 ∨ f = 2 then n ++ regT rd ++ immT im
  else if f = 3 ∨ f = 6 ∨ f = 7 then n ++ regT rd ++ regT r1 ++ immT im
  else if f = 4 then n ++ regT r1 ++ regT r2 ++ immT im
  else if f = 5 then n ++ regT r2 ++ regT r1 ++ immT im
  else if f = 8 then n ++ regT rd ++ regT r1 ++ regT r2
  else n

def In64 (n : Int) : Prop := -9223372036854775808 ≤ n ∧ n ≤ 9223372036854775807
theorem itoa_len (n : Int) (h : In64 n) : (Lib.itoa n).length ≤ 21 := Lib.itoa_length_le n h.1 h.2
theorem regT_len (n : Int) (h : In64 n) : (regT n).length ≤ 23 := by have := itoa_len n h; unfold regT; simp; omega
theorem immT_len (n : Int) (h : In64 n) : (immT n).length ≤ 22 := by have := itoa_len n h; unfold immT; simp; omega

/-- '+' on two texts. -/
theorem plus (a b : List UInt8) (h : a.length + b.length ≤ 1000000) (w : World) : (Op.stringOp .add (txt a) (txt b)).run Tryd.prog w = .ok (.string (txt (a ++ b))) w := by
  rw [add_any _ _ (by rw [txt_size, txt_size]; exact h), txt_append]

theorem regC (n : Int) (h : In64 n) (w : World) :
    Calls Tryd.prog 29 #[.int .i64 n] w fun e w' => e = .returned (.string (txt (regT n))) ∧ Below w.heap.size w w' := by
  have hp := plus [32, 120] (Lib.itoa n) (by have := itoa_len n h; simp; omega)
  have hp' : ∀ w : World, (Op.stringOp .add { data := #[32, 120] } (txt (Lib.itoa n))).run Tryd.prog w = .ok (.string (txt (regT n))) w := hp
  clear hp
  go_enter Tryd.func29, Tryd.ntmps29
  go_wp2_with fail
  refine (digitsC n h.1 h.2 _).mono ?_
  rintro e w1 ⟨rfl, hb⟩
  go_wp2
  go_ret
  exact ⟨rfl, hb⟩

end Go.Proofs.YtdbngfeelfgbeaaDoor.Tx
