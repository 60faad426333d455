/- Marks: a number's text. -/
import Derived.Test.YtibepggakjfbcaaRecB
import Derived.Laws.IdiomStrings
import Derived.Deep.AppendLies
namespace Go.Proofs.Ytibepggakjfbcaa
open Go Go.RowKit
set_option linter.unusedVariables false

theorem convOneM (w : World) (x : UInt8) : (convert 22 9 (.slice (some ⟨w.heap.size, 0, none⟩) 1 1)).run Try.prog (w.alloc (.cells #[.int .u8 (x.toNat : Int)] 5)) = .ok (.string ⟨#[x]⟩) (w.alloc (.cells #[.int .u8 (x.toNat : Int)] 5)) :=
  run_convert_bytes_back (w.alloc (.cells #[.int .u8 (x.toNat : Int)] 5)) 22 9 5 ⟨w.heap.size, 0, none⟩ 1 [x] Try.underlying22 Try.underlying5 Try.underlying9 (fun j hj => by
    obtain rfl : j = 0 := by simp at hj; omega
    exact World.news_of_block (cs := #[.int .u8 (x.toNat : Int)]) (t := 5) (fr := (0, 0)) (heap_alloc_new w _) 0 _ rfl)
def mdig (u : Nat) : UInt8 := UInt8.ofNat (48 + u % 10)
theorem mdig_nat (u : Nat) : ((mdig u).toNat : Int) = 48 + u % 10 := by
  unfold mdig
  rw [UInt8.toNat_ofNat_of_lt' (by unfold UInt8.size; omega)]
  omega
theorem mwrap8 (u : Nat) : IntKind.u8.wrap ((mdig u).toNat : Int) = ((mdig u).toNat : Int) := by
  rw [mdig_nat]
  unfold IntKind.wrap
  simp [IntKind.bits, IntKind.signed]
  omega
theorem mwrap64 (x : Int) (h0 : -9223372036854775808 ≤ x) (h1 : x ≤ 9223372036854775807) : IntKind.i64.wrap x = x := by
  unfold IntKind.wrap
  simp [IntKind.bits, IntKind.signed]
  omega
/-- The digits of k ahead of a; f rounds at most. -/
def mtGo : Nat → Nat → ByteArray → ByteArray
  | 0, _, a => a
  | f + 1, k, a => if k = 0 then a else mtGo f (k / 10) (⟨#[mdig k]⟩ ++ a)
theorem mtGo_zero (f : Nat) (a : ByteArray) : mtGo f 0 a = a := by cases f <;> simp [mtGo]
theorem mtGo_succ (f k : Nat) (a : ByteArray) (h : 0 < k) : mtGo (f + 1) k a = mtGo f (k / 10) (⟨#[mdig k]⟩ ++ a) := by
  show (if k = 0 then a else _) = _
  rw [if_neg (by omega)]
def mtS (k : Nat) : ByteArray := ⟨#[109]⟩ ++ mtGo k k ⟨#[]⟩

end Go.Proofs.Ytibepggakjfbcaa
