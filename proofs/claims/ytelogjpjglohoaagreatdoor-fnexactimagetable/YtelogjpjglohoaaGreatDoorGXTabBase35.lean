/- An instruction of form 5 taken out of a word by the model: the contract. An instruction of form 6 taken out of a word by the model: the contract. An instruction of form 7 taken out of a word by the model: the contract. An instruction of form 8 taken out of a word by the model: the contract. An instruction of form 9 taken out of a word by the model: the contract. When the model takes a word: plain; what it takes: the contract. -/
import Derived.Test.YtelogjpjglohoaaGreatDoorGXTabBase34
import Derived.Test.YtelogjpjglohoaaGreatDoorGXTabBase28
import Derived.Test.YtelogjpjglohoaaGreatDoorGXTabBase21
namespace Go.Proofs.YtelogjpjglohoaaGreatDoor
open Go.RowKit
set_option linter.unusedVariables false

set_option maxRecDepth 100000 in
set_option maxHeartbeats 8000000 in
theorem tks5 (op v c g h : Int) (v0 : 0 ≤ v) (v1 : v < 4294967296) (hs : shT op = (5, c, g, h)) (w : World) :
    Calls Tryz.prog 107 #[.int .i64 op, .int .i64 v] w fun e w' => e = .returned (.agg #[.int .i64 op, .int .i64 (tkRd 5 v), .int .i64 (tkR1 5 v), .int .i64 (tkR2 5 v), .int .i64 (takeF 5 v)]) ∧ Below w.heap.size w w' := by
  have hsf := shF op 5 c g h hs
  have H1 : Hid (FieIs v 7 5 (v / 128 % 32)) := fie7_5 v
  have H2 : Hid (FieIs v 15 5 (v / 32768 % 32)) := fie15_5 v
  have H3 : Hid (FieIs v 20 5 (v / 1048576 % 32)) := fie20_5 v
  have N0 : Hid (FieIs v 25 7 (v / 33554432 % 128)) := fie25_7 v
  have eD : tkRd 5 v = 0 := by simp [tkRd]
  have eA : tkR1 5 v = v / 32768 % 32 := by simp [tkR1]
  have eB : tkR2 5 v = v / 1048576 % 32 := by simp [tkR2]
  have eT : takeF 5 v = sgn (v / 128 % 32 + v / 33554432 % 128 * 32) 12 := rfl
  rw [eD, eA, eB, eT]
  clear eD eA eB eT hs
  have bD : 0 ≤ v / 128 % 32 ∧ v / 128 % 32 < 32 := by omega
  generalize v / 128 % 32 = D at *
  obtain ⟨bD0, bD1⟩ := bD
  have bA : 0 ≤ v / 32768 % 32 ∧ v / 32768 % 32 < 32 := by omega
  generalize v / 32768 % 32 = A at *
  obtain ⟨bA0, bA1⟩ := bA
  have bB : 0 ≤ v / 1048576 % 32 ∧ v / 1048576 % 32 < 32 := by omega
  generalize v / 1048576 % 32 = B at *
  obtain ⟨bB0, bB1⟩ := bB
  have bP : 0 ≤ v / 33554432 % 128 ∧ v / 33554432 % 128 < 128 := by omega
  generalize v / 33554432 % 128 = P at *
  obtain ⟨bP0, bP1⟩ := bP
  have HS : Hid (SgnIs (D + P * 32) 12 (sgn (D + P * 32) 12)) := sig12 _
  have bZ := sgn_bd (D + P * 32) 12 (by decide)
  rw [show (2 : Int) ^ (12 - 1) = 2048 from rfl] at bZ
  generalize sgn (D + P * 32) 12 = Z at *
  obtain ⟨bZ0, bZ1⟩ := bZ
  go_enter Tryz.func107, Tryz.ntmps107
  go_wp2_with fail
  refine (H1.out _).mono ?_
  rintro e w1 ⟨rfl, rfl⟩
  go_wp2_with fail
  refine (H2.out _).mono ?_
  rintro e w2 ⟨rfl, rfl⟩
  go_wp2_with fail
  refine (H3.out _).mono ?_
  rintro e w3 ⟨rfl, rfl⟩
  go_wp2_with fail
  refine (specShC op _).mono ?_
  rintro e w4 ⟨rfl, hb⟩
  have hz : w.heap.size + 2 ≤ w4.heap.size := by have := hb.size; simp at this; omega
  have X4 : Five w4 (w.heap.size + 1) op 0 0 0 0 := Five.below (B := w.heap.size + 2) (by constructor <;> simp) (hb.mono (by simp)) (by omega)
  have R4 : Five w4 w.heap.size 0 0 0 0 0 := Five.below (B := w.heap.size + 2) (by constructor <;> simp) (hb.mono (by simp)) (by omega)
  have B4 : Below w.heap.size w w4 := by
    refine Below.trans ?_ (hb.mono (by first | omega | (simp; done) | (simp; omega)))
    repeat (first | exact Below.refl _ _ | refine Below.setCell ?_ (by first | omega | (simp; done) | (simp; omega)) _ | refine Below.alloc ?_ (by first | omega | (simp; done) | (simp; omega)) _)
  clear hb H1 H2 H3
  obtain ⟨c0, c1, c2, c3, c4, f0, f1, f2, f3, f4⟩ := X4
  obtain ⟨d0, d1, d2, d3, d4, g0, g1, g2, g3, g4⟩ := R4
  go_wp2_with fail
  refine (N0.out _).mono ?_
  rintro e w5 ⟨rfl, rfl⟩
  clear N0
  go_wp2_with fail
  refine (HS.out _).mono ?_
  rintro e w5 ⟨rfl, rfl⟩
  clear HS
  go_wp2
  refine bodyPost_ret (v := .agg #[.int .i64 op, .int .i64 0, .int .i64 A, .int .i64 B, .int .i64 Z]) (by simp [results, Tryz.results107, go_sem, d0, d1, d2, d3, d4]) rfl ⟨rfl, ?_⟩
  repeat (first | with_reducible exact B4 | refine Below.setCell ?_ (by first | omega | (simp; done) | (simp; omega)) _ | refine bdN ?_ _ | refine Below.drew ?_)
end Go.Proofs.YtelogjpjglohoaaGreatDoor

namespace Go.Proofs.YtelogjpjglohoaaGreatDoor
open Go.RowKit
set_option linter.unusedVariables false

set_option maxRecDepth 100000 in
set_option maxHeartbeats 8000000 in
theorem tks6 (op v c g h : Int) (v0 : 0 ≤ v) (v1 : v < 4294967296) (hs : shT op = (6, c, g, h)) (w : World) :
    Calls Tryz.prog 107 #[.int .i64 op, .int .i64 v] w fun e w' => e = .returned (.agg #[.int .i64 op, .int .i64 (tkRd 6 v), .int .i64 (tkR1 6 v), .int .i64 (tkR2 6 v), .int .i64 (takeF 6 v)]) ∧ Below w.heap.size w w' := by
  have hsf := shF op 6 c g h hs
  have H1 : Hid (FieIs v 7 5 (v / 128 % 32)) := fie7_5 v
  have H2 : Hid (FieIs v 15 5 (v / 32768 % 32)) := fie15_5 v
  have H3 : Hid (FieIs v 20 5 (v / 1048576 % 32)) := fie20_5 v
  have N0 : Hid (FieIs v 20 6 (v / 1048576 % 64)) := fie20_6 v
  have eD : tkRd 6 v = v / 128 % 32 := by simp [tkRd]
  have eA : tkR1 6 v = v / 32768 % 32 := by simp [tkR1]
  have eB : tkR2 6 v = 0 := by simp [tkR2]
  have eT : takeF 6 v = v / 1048576 % 64 := rfl
  rw [eD, eA, eB, eT]
  clear eD eA eB eT hs
  have bD : 0 ≤ v / 128 % 32 ∧ v / 128 % 32 < 32 := by omega
  generalize v / 128 % 32 = D at *
  obtain ⟨bD0, bD1⟩ := bD
  have bA : 0 ≤ v / 32768 % 32 ∧ v / 32768 % 32 < 32 := by omega
  generalize v / 32768 % 32 = A at *
  obtain ⟨bA0, bA1⟩ := bA
  have bB : 0 ≤ v / 1048576 % 32 ∧ v / 1048576 % 32 < 32 := by omega
  generalize v / 1048576 % 32 = B at *
  obtain ⟨bB0, bB1⟩ := bB
  have bP : 0 ≤ v / 1048576 % 64 ∧ v / 1048576 % 64 < 64 := by omega
  generalize v / 1048576 % 64 = P at *
  obtain ⟨bP0, bP1⟩ := bP
  go_enter Tryz.func107, Tryz.ntmps107
  go_wp2_with fail
  refine (H1.out _).mono ?_
  rintro e w1 ⟨rfl, rfl⟩
  go_wp2_with fail
  refine (H2.out _).mono ?_
  rintro e w2 ⟨rfl, rfl⟩
  go_wp2_with fail
  refine (H3.out _).mono ?_
  rintro e w3 ⟨rfl, rfl⟩
  go_wp2_with fail
  refine (specShC op _).mono ?_
  rintro e w4 ⟨rfl, hb⟩
  have hz : w.heap.size + 2 ≤ w4.heap.size := by have := hb.size; simp at this; omega
  have X4 : Five w4 (w.heap.size + 1) op 0 0 0 0 := Five.below (B := w.heap.size + 2) (by constructor <;> simp) (hb.mono (by simp)) (by omega)
  have R4 : Five w4 w.heap.size 0 0 0 0 0 := Five.below (B := w.heap.size + 2) (by constructor <;> simp) (hb.mono (by simp)) (by omega)
  have B4 : Below w.heap.size w w4 := by
    refine Below.trans ?_ (hb.mono (by first | omega | (simp; done) | (simp; omega)))
    repeat (first | exact Below.refl _ _ | refine Below.setCell ?_ (by first | omega | (simp; done) | (simp; omega)) _ | refine Below.alloc ?_ (by first | omega | (simp; done) | (simp; omega)) _)
  clear hb H1 H2 H3
  obtain ⟨c0, c1, c2, c3, c4, f0, f1, f2, f3, f4⟩ := X4
  obtain ⟨d0, d1, d2, d3, d4, g0, g1, g2, g3, g4⟩ := R4
  go_wp2_with fail
  refine (N0.out _).mono ?_
  rintro e w5 ⟨rfl, rfl⟩
  clear N0
  go_wp2
  refine bodyPost_ret (v := .agg #[.int .i64 op, .int .i64 D, .int .i64 A, .int .i64 0, .int .i64 P]) (by simp [results, Tryz.results107, go_sem, d0, d1, d2, d3, d4]) rfl ⟨rfl, ?_⟩
  repeat (first | with_reducible exact B4 | refine Below.setCell ?_ (by first | omega | (simp; done) | (simp; omega)) _ | refine bdN ?_ _ | refine Below.drew ?_)
end Go.Proofs.YtelogjpjglohoaaGreatDoor

namespace Go.Proofs.YtelogjpjglohoaaGreatDoor
open Go.RowKit
set_option linter.unusedVariables false

set_option maxRecDepth 100000 in
set_option maxHeartbeats 8000000 in
theorem tks7 (op v c g h : Int) (v0 : 0 ≤ v) (v1 : v < 4294967296) (hs : shT op = (7, c, g, h)) (w : World) :
    Calls Tryz.prog 107 #[.int .i64 op, .int .i64 v] w fun e w' => e = .returned (.agg #[.int .i64 op, .int .i64 (tkRd 7 v), .int .i64 (tkR1 7 v), .int .i64 (tkR2 7 v), .int .i64 (takeF 7 v)]) ∧ Below w.heap.size w w' := by
  have hsf := shF op 7 c g h hs
  have H1 : Hid (FieIs v 7 5 (v / 128 % 32)) := fie7_5 v
  have H2 : Hid (FieIs v 15 5 (v / 32768 % 32)) := fie15_5 v
  have H3 : Hid (FieIs v 20 5 (v / 1048576 % 32)) := fie20_5 v
  have eD : tkRd 7 v = v / 128 % 32 := by simp [tkRd]
  have eA : tkR1 7 v = v / 32768 % 32 := by simp [tkR1]
  have eB : tkR2 7 v = 0 := by simp [tkR2]
  have eT : takeF 7 v = v / 1048576 % 32 := rfl
  rw [eD, eA, eB, eT]
  clear eD eA eB eT hs
  have bD : 0 ≤ v / 128 % 32 ∧ v / 128 % 32 < 32 := by omega
  generalize v / 128 % 32 = D at *
  obtain ⟨bD0, bD1⟩ := bD
  have bA : 0 ≤ v / 32768 % 32 ∧ v / 32768 % 32 < 32 := by omega
  generalize v / 32768 % 32 = A at *
  obtain ⟨bA0, bA1⟩ := bA
  have bB : 0 ≤ v / 1048576 % 32 ∧ v / 1048576 % 32 < 32 := by omega
  generalize v / 1048576 % 32 = B at *
  obtain ⟨bB0, bB1⟩ := bB
  go_enter Tryz.func107, Tryz.ntmps107
  go_wp2_with fail
  refine (H1.out _).mono ?_
  rintro e w1 ⟨rfl, rfl⟩
  go_wp2_with fail
  refine (H2.out _).mono ?_
  rintro e w2 ⟨rfl, rfl⟩
  go_wp2_with fail
  refine (H3.out _).mono ?_
  rintro e w3 ⟨rfl, rfl⟩
  go_wp2_with fail
  refine (specShC op _).mono ?_
  rintro e w4 ⟨rfl, hb⟩
  have hz : w.heap.size + 2 ≤ w4.heap.size := by have := hb.size; simp at this; omega
  have X4 : Five w4 (w.heap.size + 1) op 0 0 0 0 := Five.below (B := w.heap.size + 2) (by constructor <;> simp) (hb.mono (by simp)) (by omega)
  have R4 : Five w4 w.heap.size 0 0 0 0 0 := Five.below (B := w.heap.size + 2) (by constructor <;> simp) (hb.mono (by simp)) (by omega)
  have B4 : Below w.heap.size w w4 := by
    refine Below.trans ?_ (hb.mono (by first | omega | (simp; done) | (simp; omega)))
    repeat (first | exact Below.refl _ _ | refine Below.setCell ?_ (by first | omega | (simp; done) | (simp; omega)) _ | refine Below.alloc ?_ (by first | omega | (simp; done) | (simp; omega)) _)
  clear hb H1 H2 H3
  obtain ⟨c0, c1, c2, c3, c4, f0, f1, f2, f3, f4⟩ := X4
  obtain ⟨d0, d1, d2, d3, d4, g0, g1, g2, g3, g4⟩ := R4
  go_wp2
  refine bodyPost_ret (v := .agg #[.int .i64 op, .int .i64 D, .int .i64 A, .int .i64 0, .int .i64 B]) (by simp [results, Tryz.results107, go_sem, d0, d1, d2, d3, d4]) rfl ⟨rfl, ?_⟩
  repeat (first | with_reducible exact B4 | refine Below.setCell ?_ (by first | omega | (simp; done) | (simp; omega)) _ | refine bdN ?_ _ | refine Below.drew ?_)
end Go.Proofs.YtelogjpjglohoaaGreatDoor

namespace Go.Proofs.YtelogjpjglohoaaGreatDoor
open Go.RowKit
set_option linter.unusedVariables false

set_option maxRecDepth 100000 in
set_option maxHeartbeats 8000000 in
theorem tks8 (op v c g h : Int) (v0 : 0 ≤ v) (v1 : v < 4294967296) (hs : shT op = (8, c, g, h)) (w : World) :
    Calls Tryz.prog 107 #[.int .i64 op, .int .i64 v] w fun e w' => e = .returned (.agg #[.int .i64 op, .int .i64 (tkRd 8 v), .int .i64 (tkR1 8 v), .int .i64 (tkR2 8 v), .int .i64 (takeF 8 v)]) ∧ Below w.heap.size w w' := by
  have hsf := shF op 8 c g h hs
  have H1 : Hid (FieIs v 7 5 (v / 128 % 32)) := fie7_5 v
  have H2 : Hid (FieIs v 15 5 (v / 32768 % 32)) := fie15_5 v
  have H3 : Hid (FieIs v 20 5 (v / 1048576 % 32)) := fie20_5 v
  have eD : tkRd 8 v = v / 128 % 32 := by simp [tkRd]
  have eA : tkR1 8 v = v / 32768 % 32 := by simp [tkR1]
  have eB : tkR2 8 v = v / 1048576 % 32 := by simp [tkR2]
  have eT : takeF 8 v = 0 := rfl
  rw [eD, eA, eB, eT]
  clear eD eA eB eT hs
  have bD : 0 ≤ v / 128 % 32 ∧ v / 128 % 32 < 32 := by omega
  generalize v / 128 % 32 = D at *
  obtain ⟨bD0, bD1⟩ := bD
  have bA : 0 ≤ v / 32768 % 32 ∧ v / 32768 % 32 < 32 := by omega
  generalize v / 32768 % 32 = A at *
  obtain ⟨bA0, bA1⟩ := bA
  have bB : 0 ≤ v / 1048576 % 32 ∧ v / 1048576 % 32 < 32 := by omega
  generalize v / 1048576 % 32 = B at *
  obtain ⟨bB0, bB1⟩ := bB
  go_enter Tryz.func107, Tryz.ntmps107
  go_wp2_with fail
  refine (H1.out _).mono ?_
  rintro e w1 ⟨rfl, rfl⟩
  go_wp2_with fail
  refine (H2.out _).mono ?_
  rintro e w2 ⟨rfl, rfl⟩
  go_wp2_with fail
  refine (H3.out _).mono ?_
  rintro e w3 ⟨rfl, rfl⟩
  go_wp2_with fail
  refine (specShC op _).mono ?_
  rintro e w4 ⟨rfl, hb⟩
  have hz : w.heap.size + 2 ≤ w4.heap.size := by have := hb.size; simp at this; omega
  have X4 : Five w4 (w.heap.size + 1) op 0 0 0 0 := Five.below (B := w.heap.size + 2) (by constructor <;> simp) (hb.mono (by simp)) (by omega)
  have R4 : Five w4 w.heap.size 0 0 0 0 0 := Five.below (B := w.heap.size + 2) (by constructor <;> simp) (hb.mono (by simp)) (by omega)
  have B4 : Below w.heap.size w w4 := by
    refine Below.trans ?_ (hb.mono (by first | omega | (simp; done) | (simp; omega)))
    repeat (first | exact Below.refl _ _ | refine Below.setCell ?_ (by first | omega | (simp; done) | (simp; omega)) _ | refine Below.alloc ?_ (by first | omega | (simp; done) | (simp; omega)) _)
  clear hb H1 H2 H3
  obtain ⟨c0, c1, c2, c3, c4, f0, f1, f2, f3, f4⟩ := X4
  obtain ⟨d0, d1, d2, d3, d4, g0, g1, g2, g3, g4⟩ := R4
  go_wp2
  refine bodyPost_ret (v := .agg #[.int .i64 op, .int .i64 D, .int .i64 A, .int .i64 B, .int .i64 0]) (by simp [results, Tryz.results107, go_sem, d0, d1, d2, d3, d4]) rfl ⟨rfl, ?_⟩
  repeat (first | with_reducible exact B4 | refine Below.setCell ?_ (by first | omega | (simp; done) | (simp; omega)) _ | refine bdN ?_ _ | refine Below.drew ?_)
end Go.Proofs.YtelogjpjglohoaaGreatDoor

namespace Go.Proofs.YtelogjpjglohoaaGreatDoor
open Go.RowKit
set_option linter.unusedVariables false

set_option maxRecDepth 100000 in
set_option maxHeartbeats 8000000 in
theorem tks9 (op v c g h : Int) (v0 : 0 ≤ v) (v1 : v < 4294967296) (hs : shT op = (9, c, g, h)) (w : World) :
    Calls Tryz.prog 107 #[.int .i64 op, .int .i64 v] w fun e w' => e = .returned (.agg #[.int .i64 op, .int .i64 (tkRd 9 v), .int .i64 (tkR1 9 v), .int .i64 (tkR2 9 v), .int .i64 (takeF 9 v)]) ∧ Below w.heap.size w w' := by
  have hsf := shF op 9 c g h hs
  have H1 : Hid (FieIs v 7 5 (v / 128 % 32)) := fie7_5 v
  have H2 : Hid (FieIs v 15 5 (v / 32768 % 32)) := fie15_5 v
  have H3 : Hid (FieIs v 20 5 (v / 1048576 % 32)) := fie20_5 v
  have eD : tkRd 9 v = 0 := by simp [tkRd]
  have eA : tkR1 9 v = 0 := by simp [tkR1]
  have eB : tkR2 9 v = 0 := by simp [tkR2]
  have eT : takeF 9 v = 0 := rfl
  rw [eD, eA, eB, eT]
  clear eD eA eB eT hs
  have bD : 0 ≤ v / 128 % 32 ∧ v / 128 % 32 < 32 := by omega
  generalize v / 128 % 32 = D at *
  obtain ⟨bD0, bD1⟩ := bD
  have bA : 0 ≤ v / 32768 % 32 ∧ v / 32768 % 32 < 32 := by omega
  generalize v / 32768 % 32 = A at *
  obtain ⟨bA0, bA1⟩ := bA
  have bB : 0 ≤ v / 1048576 % 32 ∧ v / 1048576 % 32 < 32 := by omega
  generalize v / 1048576 % 32 = B at *
  obtain ⟨bB0, bB1⟩ := bB
  go_enter Tryz.func107, Tryz.ntmps107
  go_wp2_with fail
  refine (H1.out _).mono ?_
  rintro e w1 ⟨rfl, rfl⟩
  go_wp2_with fail
  refine (H2.out _).mono ?_
  rintro e w2 ⟨rfl, rfl⟩
  go_wp2_with fail
  refine (H3.out _).mono ?_
  rintro e w3 ⟨rfl, rfl⟩
  go_wp2_with fail
  refine (specShC op _).mono ?_
  rintro e w4 ⟨rfl, hb⟩
  have hz : w.heap.size + 2 ≤ w4.heap.size := by have := hb.size; simp at this; omega
  have X4 : Five w4 (w.heap.size + 1) op 0 0 0 0 := Five.below (B := w.heap.size + 2) (by constructor <;> simp) (hb.mono (by simp)) (by omega)
  have R4 : Five w4 w.heap.size 0 0 0 0 0 := Five.below (B := w.heap.size + 2) (by constructor <;> simp) (hb.mono (by simp)) (by omega)
  have B4 : Below w.heap.size w w4 := by
    refine Below.trans ?_ (hb.mono (by first | omega | (simp; done) | (simp; omega)))
    repeat (first | exact Below.refl _ _ | refine Below.setCell ?_ (by first | omega | (simp; done) | (simp; omega)) _ | refine Below.alloc ?_ (by first | omega | (simp; done) | (simp; omega)) _)
  clear hb H1 H2 H3
  obtain ⟨c0, c1, c2, c3, c4, f0, f1, f2, f3, f4⟩ := X4
  obtain ⟨d0, d1, d2, d3, d4, g0, g1, g2, g3, g4⟩ := R4
  go_wp2
  refine bodyPost_ret (v := .agg #[.int .i64 op, .int .i64 0, .int .i64 0, .int .i64 0, .int .i64 0]) (by simp [results, Tryz.results107, go_sem, d0, d1, d2, d3, d4]) rfl ⟨rfl, ?_⟩
  repeat (first | with_reducible exact B4 | refine Below.setCell ?_ (by first | omega | (simp; done) | (simp; omega)) _ | refine bdN ?_ _ | refine Below.drew ?_)
end Go.Proofs.YtelogjpjglohoaaGreatDoor

namespace Go.Proofs.YtelogjpjglohoaaGreatDoor
open Go.RowKit
set_option linter.unusedVariables false

theorem hit_all (k v f c g h : Int) (k0 : 1 ≤ k) (k1 : k ≤ 64) (v0 : 0 ≤ v) (v1 : v < 4294967296) (hs : shT k = (f, c, g, h)) :
    HitP k v ↔ (v % 128 = c ∧ (3 ≤ f ∧ f ≤ 8 → v / 4096 % 8 = g) ∧ encW f c g h (tkRd f v) (tkR1 f v) (tkR2 f v) (takeF f v) = v) := by
  have hok : shOK f c g h = true := by
    have := shT_ok k k0 k1
    rw [hs] at this
    exact this
  obtain ⟨f0, f1, c0, c1, g0, g1, h0, h1⟩ := sh_bounds hok
  obtain ⟨m1, m2, m3, m4, m5, m9⟩ := sh_more hok
  unfold HitP
  rw [hs]
  rcases (show f = 1 ∨ f = 2 ∨ f = 3 ∨ f = 4 ∨ f = 5 ∨ f = 6 ∨ f = 7 ∨ f = 8 ∨ f = 9 by omega) with rfl | rfl | rfl | rfl | rfl | rfl | rfl | rfl | rfl
  · obtain ⟨rfl, rfl⟩ := m1 rfl
    have H := hit1 c v v0 v1
    show v % 128 = c ↔ _
    rw [show tkRd 1 v = v / 128 % 32 from rfl, show tkR1 1 v = 0 from rfl, show tkR2 1 v = 0 from rfl]
    constructor
    · intro e; exact ⟨e, fun hf => absurd hf.1 (by decide), (H.2 e).2⟩
    · intro e; exact e.1
  · obtain ⟨rfl, rfl⟩ := m2 rfl
    have H := hit2 c v v0 v1
    show v % 128 = c ↔ _
    rw [show tkRd 2 v = v / 128 % 32 from rfl, show tkR1 2 v = 0 from rfl, show tkR2 2 v = 0 from rfl]
    constructor
    · intro e; exact ⟨e, fun hf => absurd hf.1 (by decide), (H.2 e).2⟩
    · intro e; exact e.1
  · obtain rfl := m3 rfl
    have H := hit3 c g v v0 v1
    show v % 128 = c ∧ v / 4096 % 8 = g ↔ _
    rw [show tkRd 3 v = v / 128 % 32 from rfl, show tkR1 3 v = v / 32768 % 32 from rfl, show tkR2 3 v = 0 from rfl]
    constructor
    · intro e; exact ⟨e.1, fun _ => e.2, (H.2 e).2.2⟩
    · intro e; exact ⟨e.1, e.2.1 (by decide)⟩
  · obtain rfl := m4 rfl
    have H := hit4 c g v v0 v1
    show v % 128 = c ∧ v / 4096 % 8 = g ↔ _
    rw [show tkRd 4 v = 0 from rfl, show tkR1 4 v = v / 32768 % 32 from rfl, show tkR2 4 v = v / 1048576 % 32 from rfl]
    constructor
    · intro e; exact ⟨e.1, fun _ => e.2, (H.2 e).2.2⟩
    · intro e; exact ⟨e.1, e.2.1 (by decide)⟩
  · obtain rfl := m5 rfl
    have H := hit5 c g v v0 v1
    show v % 128 = c ∧ v / 4096 % 8 = g ↔ _
    rw [show tkRd 5 v = 0 from rfl, show tkR1 5 v = v / 32768 % 32 from rfl, show tkR2 5 v = v / 1048576 % 32 from rfl]
    constructor
    · intro e; exact ⟨e.1, fun _ => e.2, (H.2 e).2.2⟩
    · intro e; exact ⟨e.1, e.2.1 (by decide)⟩
  · have H := hit6 c g h v v0 v1 h0 h1
    show v % 128 = c ∧ v / 4096 % 8 = g ∧ v / 67108864 = h / 2 ↔ _
    rw [show tkRd 6 v = v / 128 % 32 from rfl, show tkR1 6 v = v / 32768 % 32 from rfl, show tkR2 6 v = 0 from rfl]
    constructor
    · intro e; exact ⟨e.1, fun _ => e.2.1, (H.2 e).2.2⟩
    · intro e; exact H.1 ⟨e.1, e.2.1 (by decide), e.2.2⟩
  · have H := hit7 c g h v v0 v1 h0 h1
    show v % 128 = c ∧ v / 4096 % 8 = g ∧ v / 33554432 = h ↔ _
    rw [show tkRd 7 v = v / 128 % 32 from rfl, show tkR1 7 v = v / 32768 % 32 from rfl, show tkR2 7 v = 0 from rfl]
    constructor
    · intro e; exact ⟨e.1, fun _ => e.2.1, (H.2 e).2.2⟩
    · intro e; exact H.1 ⟨e.1, e.2.1 (by decide), e.2.2⟩
  · have H := hit8 c g h v v0 v1 h0 h1
    show v % 128 = c ∧ v / 4096 % 8 = g ∧ v / 33554432 = h ↔ _
    rw [show tkRd 8 v = v / 128 % 32 from rfl, show tkR1 8 v = v / 32768 % 32 from rfl, show tkR2 8 v = v / 1048576 % 32 from rfl]
    constructor
    · intro e; exact ⟨e.1, fun _ => e.2.1, (H.2 e).2.2⟩
    · intro e; exact H.1 ⟨e.1, e.2.1 (by decide), e.2.2⟩
  · obtain rfl := m9 rfl
    show v = c + 0 * 4096 + h * 1048576 ↔ _
    have e9 : encW 9 c 0 h (tkRd 9 v) (tkR1 9 v) (tkR2 9 v) (takeF 9 v) = c + h * 1048576 := by
      show c + 0 * 4096 + h * 1048576 + 0 * 128 + 0 * 32768 + 0 * 1048576 + 0 = c + h * 1048576
      omega
    rw [e9]
    constructor
    · intro e; exact ⟨by omega, fun hf => absurd hf.2 (by decide), by omega⟩
    · intro e; have := e.2.2; omega

theorem tksC (op f v c g h : Int) (v0 : 0 ≤ v) (v1 : v < 4294967296) (f0 : 1 ≤ f) (f1 : f ≤ 9) (hs : shT op = (f, c, g, h)) (w : World) :
    Calls Tryz.prog 107 #[.int .i64 op, .int .i64 v] w fun e w' => e = .returned (itV op f v) ∧ Below w.heap.size w w' := by
  unfold itV
  rcases (show f = 1 ∨ f = 2 ∨ f = 3 ∨ f = 4 ∨ f = 5 ∨ f = 6 ∨ f = 7 ∨ f = 8 ∨ f = 9 by omega) with rfl | rfl | rfl | rfl | rfl | rfl | rfl | rfl | rfl
  · exact tks1 op v c g h v0 v1 hs w
  · exact tks2 op v c g h v0 v1 hs w
  · exact tks3 op v c g h v0 v1 hs w
  · exact tks4 op v c g h v0 v1 hs w
  · exact tks5 op v c g h v0 v1 hs w
  · exact tks6 op v c g h v0 v1 hs w
  · exact tks7 op v c g h v0 v1 hs w
  · exact tks8 op v c g h v0 v1 hs w
  · exact tks9 op v c g h v0 v1 hs w
end Go.Proofs.YtelogjpjglohoaaGreatDoor
