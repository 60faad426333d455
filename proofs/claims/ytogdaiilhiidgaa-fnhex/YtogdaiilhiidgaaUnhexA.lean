/- Contracts of what tells a digit. -/
import Derived.Test.YtogdaiilhiidgaaName
import Derived.Test.YtogdaiilhiidgaaUnhexP
import Derived.WalkSpells
namespace Go.Proofs.Ytogdaiilhiidgaa
open Go.RowKit
set_option linter.unusedVariables false

theorem call_index (c : UInt8) (w : World) :
    (callFunc 33 #[.string { data := #[48, 49, 50, 51, 52, 53, 54, 55, 56, 57, 97, 98, 99, 100, 101, 102] }, .int .u8 (c.toNat : Int)]).run Try.prog w = .ok (.value (.int .i64 (unD c))) w := by
  rw [run_callFunc_extern (P := Try.prog) (e := Extern.BytealgIndexByte.indexByte) Try.func33 (by kernel_rfl) (by kernel_rfl) (by kernel_rfl) (by kernel_rfl), run_indexByte_string]
  have : (c.toNat : Int).toNat.toUInt8 = c := by simp
  rw [this, firstIdx_digits]
  rfl

theorem index_any (c : UInt8) (w : World) :
    Calls Try.prog 22 #[.string { data := #[48, 49, 50, 51, 52, 53, 54, 55, 56, 57, 97, 98, 99, 100, 101, 102] }, .int .u8 (c.toNat : Int)] w fun e w' => e = .returned (.int .i64 (unD c)) ∧ w' = w := by
  have hd := call_index c
  go_enter Try.func22, Try.ntmps22
  go_wp2
  go_ret
  exact ⟨rfl, rfl⟩

theorem digit_any (c : UInt8) (w : World) :
    Calls Try.prog 32 #[.int .u8 (c.toNat : Int)] w fun e w' => e = .returned (.int .i64 (unD c)) ∧ w' = w := by
  have hc := c.toNat_lt
  have hw := fun (x : Int) (h0 : 0 ≤ x) (h1 : x < 256) => IntKind.wrap_i64 x
  by_cases h1 : (48 : Int) ≤ c.toNat <;> by_cases h2 : (c.toNat : Int) ≤ 57 <;> by_cases h3 : (97 : Int) ≤ c.toNat <;> by_cases h4 : (c.toNat : Int) ≤ 102
  all_goals first
    | omega
    | (clear hw
       go_enter Try.func32, Try.ntmps32
       go_wp2
       go_ret
       refine ⟨congrArg (fun x => Ending.returned (.int .i64 x)) ?_, rfl⟩
       unfold unD
       split
       · omega
       · split <;> omega)
end Go.Proofs.Ytogdaiilhiidgaa
