/- An instruction taken out of a word by the model: plain words and its parts. An instruction of form 1 taken out of a word by the model: the contract. -/
import Derived.Test.YtjpdjalhhokghaaDoorGXEncode4
import Derived.Test.YtjpdjalhhokghaaDoorGXDecode3
import Derived.Test.YtjpdjalhhokghaaDoorGXDecode7
import Derived.Test.YtjpdjalhhokghaaDoorGXInstrOK26
namespace Go.Proofs.YtjpdjalhhokghaaDoor
open Go.RowKit
set_option linter.unusedVariables false

theorem sgn_up (x : Int) (c k : Nat) (hc : 1 ≤ c) : sgn (x * 2 ^ k) (c + k) = sgn x c * 2 ^ k := by
  unfold sgn
  obtain ⟨d, rfl⟩ : ∃ d, c = d + 1 := ⟨c - 1, by omega⟩
  rw [show d + 1 + k - 1 = d + k from by omega, show d + 1 - 1 = d from by omega, Int.pow_add 2 d k, Int.pow_add 2 (d + 1) k, ← Int.add_mul, emod_up, ← Int.sub_mul]
theorem take_1 (v : Int) : takeF 1 v = sgn (v / 4096 % 1048576) 20 * 4096 := by
  have h := sgn_up (v / 4096 % 1048576) 20 12 (by decide)
  have e : (2 : Int) ^ 12 = 4096 := rfl
  rw [e] at h
  exact h
theorem take_2 (v : Int) : takeF 2 v = sgn (v / 2097152 % 1024 * 2 + v / 1048576 % 2 * 2048 + v / 4096 % 256 * 4096 + v / 2147483648 % 2 * 1048576) 21 := by
  show sgn _ 21 = sgn _ 21
  congr 1
  omega
theorem take_4 (v : Int) : takeF 4 v = sgn (v / 256 % 16 * 2 + v / 33554432 % 64 * 32 + v / 128 % 2 * 2048 + v / 2147483648 % 2 * 4096) 13 := by
  show sgn _ 13 = sgn _ 13
  congr 1
  omega
/-- What the model reads of a word, as a number known by name. -/
def FieIs (v : Int) (l c A : Int) : Prop := ∀ w, Calls Tryd.prog 127 #[.int .i64 v, .int .i64 l, .int .i64 c] w fun e w' => e = .returned (.int .i64 A) ∧ w' = w
def BitIs (v : Int) (l A : Int) : Prop := ∀ w, Calls Tryd.prog 96 #[.int .i64 v, .int .i64 l] w fun e w' => e = .returned (.int .i64 A) ∧ w' = w
def SgnIs (v : Int) (c A : Int) : Prop := ∀ w, Calls Tryd.prog 58 #[.int .i64 v, .int .i64 c] w fun e w' => e = .returned (.int .i64 A) ∧ w' = w
theorem fie7_5 (v : Int) : FieIs v 7 5 (v / 128 % 32) := fun w => by
  have h := fieC v 7 5 w (by decide) (by decide)
  rw [show (2 : Int) ^ 7 = 128 from rfl, show (2 : Int) ^ 5 = 32 from rfl] at h
  exact h
theorem fie15_5 (v : Int) : FieIs v 15 5 (v / 32768 % 32) := fun w => by
  have h := fieC v 15 5 w (by decide) (by decide)
  rw [show (2 : Int) ^ 15 = 32768 from rfl, show (2 : Int) ^ 5 = 32 from rfl] at h
  exact h
theorem fie20_5 (v : Int) : FieIs v 20 5 (v / 1048576 % 32) := fun w => by
  have h := fieC v 20 5 w (by decide) (by decide)
  rw [show (2 : Int) ^ 20 = 1048576 from rfl, show (2 : Int) ^ 5 = 32 from rfl] at h
  exact h
theorem fie12_20 (v : Int) : FieIs v 12 20 (v / 4096 % 1048576) := fun w => by
  have h := fieC v 12 20 w (by decide) (by decide)
  rw [show (2 : Int) ^ 12 = 4096 from rfl, show (2 : Int) ^ 20 = 1048576 from rfl] at h
  exact h
theorem fie21_10 (v : Int) : FieIs v 21 10 (v / 2097152 % 1024) := fun w => by
  have h := fieC v 21 10 w (by decide) (by decide)
  rw [show (2 : Int) ^ 21 = 2097152 from rfl, show (2 : Int) ^ 10 = 1024 from rfl] at h
  exact h
theorem fie12_8 (v : Int) : FieIs v 12 8 (v / 4096 % 256) := fun w => by
  have h := fieC v 12 8 w (by decide) (by decide)
  rw [show (2 : Int) ^ 12 = 4096 from rfl, show (2 : Int) ^ 8 = 256 from rfl] at h
  exact h
theorem fie20_12 (v : Int) : FieIs v 20 12 (v / 1048576 % 4096) := fun w => by
  have h := fieC v 20 12 w (by decide) (by decide)
  rw [show (2 : Int) ^ 20 = 1048576 from rfl, show (2 : Int) ^ 12 = 4096 from rfl] at h
  exact h
theorem fie8_4 (v : Int) : FieIs v 8 4 (v / 256 % 16) := fun w => by
  have h := fieC v 8 4 w (by decide) (by decide)
  rw [show (2 : Int) ^ 8 = 256 from rfl, show (2 : Int) ^ 4 = 16 from rfl] at h
  exact h
theorem fie25_6 (v : Int) : FieIs v 25 6 (v / 33554432 % 64) := fun w => by
  have h := fieC v 25 6 w (by decide) (by decide)
  rw [show (2 : Int) ^ 25 = 33554432 from rfl, show (2 : Int) ^ 6 = 64 from rfl] at h
  exact h
theorem fie25_7 (v : Int) : FieIs v 25 7 (v / 33554432 % 128) := fun w => by
  have h := fieC v 25 7 w (by decide) (by decide)
  rw [show (2 : Int) ^ 25 = 33554432 from rfl, show (2 : Int) ^ 7 = 128 from rfl] at h
  exact h
theorem fie20_6 (v : Int) : FieIs v 20 6 (v / 1048576 % 64) := fun w => by
  have h := fieC v 20 6 w (by decide) (by decide)
  rw [show (2 : Int) ^ 20 = 1048576 from rfl, show (2 : Int) ^ 6 = 64 from rfl] at h
  exact h
theorem bit7 (v : Int) : BitIs v 7 (v / 128 % 2) := fun w => by
  have h := bit_any v 7 w (by decide)
  rw [show bitT v 7 = v / 128 % 2 from rfl] at h
  exact h
theorem bit20 (v : Int) : BitIs v 20 (v / 1048576 % 2) := fun w => by
  have h := bit_any v 20 w (by decide)
  rw [show bitT v 20 = v / 1048576 % 2 from rfl] at h
  exact h
theorem bit31 (v : Int) : BitIs v 31 (v / 2147483648 % 2) := fun w => by
  have h := bit_any v 31 w (by decide)
  rw [show bitT v 31 = v / 2147483648 % 2 from rfl] at h
  exact h
theorem sig12 (v : Int) : SgnIs v 12 (sgn v 12) := fun w => specSign0 v 12 w (by decide) (by decide)
theorem sig13 (v : Int) : SgnIs v 13 (sgn v 13) := fun w => specSign0 v 13 w (by decide) (by decide)
theorem sig20 (v : Int) : SgnIs v 20 (sgn v 20) := fun w => specSign0 v 20 w (by decide) (by decide)
theorem sig21 (v : Int) : SgnIs v 21 (sgn v 21) := fun w => specSign0 v 21 w (by decide) (by decide)
theorem shF (op f c g h : Int) (hs : shT op = (f, c, g, h)) : ∀ w, (Instr.field 36 (shV (shT op)) 0).run Tryd.prog w = .ok (.int .i64 f) w := fun w => by
  rw [hs]
  unfold shV
  kernel_rfl
end Go.Proofs.YtjpdjalhhokghaaDoor

namespace Go.Proofs.YtjpdjalhhokghaaDoor
open Go.RowKit
set_option linter.unusedVariables false

set_option maxRecDepth 100000 in
set_option maxHeartbeats 8000000 in
theorem tks1 (op v c g h : Int) (v0 : 0 ≤ v) (v1 : v < 4294967296) (hs : shT op = (1, c, g, h)) (w : World) :
    Calls Tryd.prog 105 #[.int .i64 op, .int .i64 v] w fun e w' => e = .returned (.agg #[.int .i64 op, .int .i64 (tkRd 1 v), .int .i64 (tkR1 1 v), .int .i64 (tkR2 1 v), .int .i64 (takeF 1 v)]) ∧ Below w.heap.size w w' := by
  have hsf := shF op 1 c g h hs
  have H1 : Hid (FieIs v 7 5 (v / 128 % 32)) := fie7_5 v
  have H2 : Hid (FieIs v 15 5 (v / 32768 % 32)) := fie15_5 v
  have H3 : Hid (FieIs v 20 5 (v / 1048576 % 32)) := fie20_5 v
  have N0 : Hid (FieIs v 12 20 (v / 4096 % 1048576)) := fie12_20 v
  have eD : tkRd 1 v = v / 128 % 32 := by simp [tkRd]
  have eA : tkR1 1 v = 0 := by simp [tkR1]
  have eB : tkR2 1 v = 0 := by simp [tkR2]
  have eT : takeF 1 v = sgn (v / 4096 % 1048576) 20 * 4096 := take_1 v
  rw [eD, eA, eB, eT]
  clear eD eA eB eT hs
  have bD : 0 ≤ v / 128 % 32 ∧ v / 128 % 32 < 32 := by omega
  generalize v / 128 % 32 = D at *
  obtain ⟨bD0, bD1⟩ := bD
  have bA : 0 ≤ v / 32768 % 32 ∧ v / 32768 % 32 < 32 := by omega
  generalize v / 32768 % 32 = A at *
  obtain ⟨bA0, bA1⟩ := bA
  have bB : 0 ≤ v / 1048576 % 32 ∧ v / 1048576 % 32 < 32 := by omega
  generalize v / 1048576 % 32 = B at *
  obtain ⟨bB0, bB1⟩ := bB
  have bP : 0 ≤ v / 4096 % 1048576 ∧ v / 4096 % 1048576 < 1048576 := by omega
  generalize v / 4096 % 1048576 = P at *
  obtain ⟨bP0, bP1⟩ := bP
  have HS : Hid (SgnIs (P) 20 (sgn (P) 20)) := sig20 _
  have bZ := sgn_bd (P) 20 (by decide)
  rw [show (2 : Int) ^ (20 - 1) = 524288 from rfl] at bZ
  generalize sgn (P) 20 = Z at *
  obtain ⟨bZ0, bZ1⟩ := bZ
  go_enter Tryd.func105, Tryd.ntmps105
  go_wp2_with fail
  refine (H1.out _).mono ?_
  rintro e w1 ⟨rfl, rfl⟩
  go_wp2_with fail
  refine (H2.out _).mono ?_
  rintro e w2 ⟨rfl, rfl⟩
  go_wp2_with fail
  refine (H3.out _).mono ?_
  rintro e w3 ⟨rfl, rfl⟩
  go_wp2_with fail
  refine (specShC op _).mono ?_
  rintro e w4 ⟨rfl, hb⟩
  have hz : w.heap.size + 2 ≤ w4.heap.size := by have := hb.size; simp at this; omega
  have X4 : Five w4 (w.heap.size + 1) op 0 0 0 0 := Five.below (B := w.heap.size + 2) (by constructor <;> simp) (hb.mono (by simp)) (by omega)
  have R4 : Five w4 w.heap.size 0 0 0 0 0 := Five.below (B := w.heap.size + 2) (by constructor <;> simp) (hb.mono (by simp)) (by omega)
  have B4 : Below w.heap.size w w4 := by
    refine Below.trans ?_ (hb.mono (by first | omega | (simp; done) | (simp; omega)))
    repeat (first | exact Below.refl _ _ | refine Below.setCell ?_ (by first | omega | (simp; done) | (simp; omega)) _ | refine Below.alloc ?_ (by first | omega | (simp; done) | (simp; omega)) _)
  clear hb H1 H2 H3
  obtain ⟨c0, c1, c2, c3, c4, f0, f1, f2, f3, f4⟩ := X4
  obtain ⟨d0, d1, d2, d3, d4, g0, g1, g2, g3, g4⟩ := R4
  go_wp2_with fail
  refine (N0.out _).mono ?_
  rintro e w5 ⟨rfl, rfl⟩
  clear N0
  go_wp2_with fail
  refine (HS.out _).mono ?_
  rintro e w5 ⟨rfl, rfl⟩
  clear HS
  go_wp2
  refine bodyPost_ret (v := .agg #[.int .i64 op, .int .i64 D, .int .i64 0, .int .i64 0, .int .i64 (Z * 4096)]) (by simp [results, Tryd.results105, go_sem, d0, d1, d2, d3, d4]) rfl ⟨rfl, ?_⟩
  repeat (first | with_reducible exact B4 | refine Below.setCell ?_ (by first | omega | (simp; done) | (simp; omega)) _ | refine bdN ?_ _ | refine Below.drew ?_)
end Go.Proofs.YtjpdjalhhokghaaDoor
