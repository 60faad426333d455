/- Numbers out of the bytes that were put: contracts. -/
import Derived.Test.YtjpdjalhhokghaaDoorLtlP
import Derived.Test.YtjpdjalhhokghaaDoorSrcU
namespace Go.Proofs.YtjpdjalhhokghaaDoor
open Go.RowKit
set_option linter.unusedVariables false

theorem app_size (H T X : ByteArray) : (H ++ T ++ X).size = H.size + T.size + X.size := by
  rw [ByteArray.size_append, ByteArray.size_append]
theorem x_size : ({ data := #[120] } : ByteArray).size = 1 := rfl

/-- What the round of one width needs of the bytes put. -/
structure Round (v : Int) (n c u q : Nat) (x : Int) (H T X : ByteArray) : Prop where
  long : T.size = n
  wide : c = 8 * n
  wrap : IntKind.u64.wrap v = (u : Int)
  lt : u < 18446744073709551616
  low : u % 256 = q
  first : ∀ h : 0 < T.size, T[0].toNat = q
  taken : takeV (H ++ T ++ X) H.size n = x
  sign : sgn x c = sgn v c
  pos : n = 8 ∨ 0 ≤ x

theorem put_round (v : Int) (n : Nat) (H X : ByteArray) (w : World) (h : n = 1 ∨ n = 2 ∨ n = 4 ∨ n = 8) :
    Calls Tryd.prog 17 #[.int .i64 v, .int .i64 n] w fun e w' => ∃ (T : ByteArray) (c u q : Nat) (x : Int), Round v n c u q x H T X ∧ e = .returned (.tuple #[.string T, .int .i64 0]) ∧ Below w.heap.size w w' := by
  refine (put_ok_impl v n w (by unfold widthOK; omega)).mono ?_
  rintro e w' ⟨rfl, hb⟩
  obtain ⟨h1, h2, h3, h4⟩ := back_put v n H X h
  exact ⟨_, 8 * n, u64 v, u64 v % 256, _, ⟨h1, rfl, wrap_u64 v, u64_lt v, rfl, h2, rfl, h3, h4⟩, rfl, hb⟩
end Go.Proofs.YtjpdjalhhokghaaDoor
