/- Marks: a number's text. -/
import Derived.Test.YtmbkkcdcccopiaaRecB
import Derived.Laws.IdiomStrings
import Derived.Deep.AppendLies
namespace Go.Proofs.Ytmbkkcdcccopiaa
open Go Go.RowKit
set_option linter.unusedVariables false

def mdig (u : Nat) : UInt8 := UInt8.ofNat (48 + u % 10)
theorem mdig_nat (u : Nat) : ((mdig u).toNat : Int) = 48 + u % 10 := by
  unfold mdig
  rw [UInt8.toNat_ofNat_of_lt' (by unfold UInt8.size; omega)]
  omega
theorem mwrap8 (u : Nat) : IntKind.u8.wrap ((mdig u).toNat : Int) = ((mdig u).toNat : Int) := by
  rw [mdig_nat]
  unfold IntKind.wrap
  simp [IntKind.bits, IntKind.signed]
  omega
theorem mwrap64 (x : Int) (h0 : -9223372036854775808 ≤ x) (h1 : x ≤ 9223372036854775807) : IntKind.i64.wrap x = x := by
  unfold IntKind.wrap
  simp [IntKind.bits, IntKind.signed]
  omega
/-- The digits of k ahead of a; f rounds at most. -/
def mtGo : Nat → Nat → ByteArray → ByteArray
  | 0, _, a => a
  | f + 1, k, a => if k = 0 then a else mtGo f (k / 10) (⟨#[mdig k]⟩ ++ a)
theorem mtGo_zero (f : Nat) (a : ByteArray) : mtGo f 0 a = a := by cases f <;> simp [mtGo]
theorem mtGo_succ (f k : Nat) (a : ByteArray) (h : 0 < k) : mtGo (f + 1) k a = mtGo f (k / 10) (⟨#[mdig k]⟩ ++ a) := by
  show (if k = 0 then a else _) = _
  rw [if_neg (by omega)]
def mtS (k : Nat) : ByteArray := ⟨#[109]⟩ ++ mtGo k k ⟨#[]⟩

end Go.Proofs.Ytmbkkcdcccopiaa
