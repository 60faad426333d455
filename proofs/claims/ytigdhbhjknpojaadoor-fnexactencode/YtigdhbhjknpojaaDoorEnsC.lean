/- An instruction's word, by the model: the steps. -/
import Derived.Test.YtigdhbhjknpojaaDoorEnsQ
import Derived.Test.YtigdhbhjknpojaaDoorPutC
import Derived.Test.YtigdhbhjknpojaaDoorRgtC
import Derived.Test.YtigdhbhjknpojaaDoorEncI
namespace Go.Proofs.YtigdhbhjknpojaaDoor
open Go.RowKit
set_option linter.unusedVariables false

/-- A number laid at a free place, all in numbers. -/
theorem putN (word v R low count : Int) (l c : Nat) (A B : Int) (w : World) (hl : (l : Int) = low) (hc : (c : Int) = count) (hA : A = 2 ^ l) (hB : B = 2 ^ c) (w0 : 0 ≤ word) (w1 : word < 4294967296) (h : l + c ≤ 32)
    (hz : word / A % B = 0) (hR : R = word + v % B * A) :
    Calls Tryd.prog 61 #[.int .i64 word, .int .i64 low, .int .i64 count, .int .i64 v] w fun e w' => e = .returned (.int .i64 R) ∧ w' = w := by
  subst hl hc hA hB hR
  exact putC word v l c w w0 w1 h hz

theorem sh6 (op : Int) (h0 : 1 ≤ op) (h1 : op ≤ 64) : (shT op).1 = 6 → (shT op).2.2.2 % 2 = 0 := by
  obtain ⟨k, rfl⟩ := Int.eq_ofNat_of_zero_le (show 0 ≤ op by omega)
  have hk : k < 65 := by omega
  have hk0 : 1 ≤ k := by omega
  have key : ∀ j : Nat, j < 65 → 1 ≤ j → (shT (j : Int)).1 = 6 → (shT (j : Int)).2.2.2 % 2 = 0 := by decide +kernel
  exact key k hk hk0
end Go.Proofs.YtigdhbhjknpojaaDoor
