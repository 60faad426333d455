/- An instruction of form 5 taken out of a word by the model: the contract. An instruction of form 6 taken out of a word by the model: the contract. An instruction of form 7 taken out of a word by the model: the contract. An instruction of form 8 taken out of a word by the model: the contract. -/
import Derived.Test.YtiandbhcjecphaaGreatDoorGLShape21
namespace Go.Proofs.YtiandbhcjecphaaGreatDoor
open Go.RowKit
set_option linter.unusedVariables false

set_option maxRecDepth 100000 in
set_option maxHeartbeats 8000000 in
theorem tks5 (op v c g h : Int) (v0 : 0 ≤ v) (v1 : v < 4294967296) (hs : shT op = (5, c, g, h)) (w : World) :
    Calls Tryz.prog 91 #[.int .i64 op, .int .i64 v] w fun e w' => e = .returned (.agg #[.int .i64 op, .int .i64 (tkRd 5 v), .int .i64 (tkR1 5 v), .int .i64 (tkR2 5 v), .int .i64 (takeF 5 v)]) ∧ Below w.heap.size w w' := by
  have hsf := shF op 5 c g h hs
  have H1 : Hid (FieIs v 7 5 (v / 128 % 32)) := fie7_5 v
  have H2 : Hid (FieIs v 15 5 (v / 32768 % 32)) := fie15_5 v
  have H3 : Hid (FieIs v 20 5 (v / 1048576 % 32)) := fie20_5 v
  have N0 : Hid (FieIs v 25 7 (v / 33554432 % 128)) := fie25_7 v
  have eD : tkRd 5 v = 0 := by simp [tkRd]
  have eA : tkR1 5 v = v / 32768 % 32 := by simp [tkR1]
  have eB : tkR2 5 v = v / 1048576 % 32 := by simp [tkR2]
  have eT : takeF 5 v = sgn (v / 128 % 32 + v / 33554432 % 128 * 32) 12 := rfl
  rw [eD, eA, eB, eT]
  clear eD eA eB eT hs
  have bD : 0 ≤ v / 128 % 32 ∧ v / 128 % 32 < 32 := by omega
  generalize v / 128 % 32 = D at *
  obtain ⟨bD0, bD1⟩ := bD
  have bA : 0 ≤ v / 32768 % 32 ∧ v / 32768 % 32 < 32 := by omega
  generalize v / 32768 % 32 = A at *
  obtain ⟨bA0, bA1⟩ := bA
  have bB : 0 ≤ v / 1048576 % 32 ∧ v / 1048576 % 32 < 32 := by omega
  generalize v / 1048576 % 32 = B at *
  obtain ⟨bB0, bB1⟩ := bB
  have bP : 0 ≤ v / 33554432 % 128 ∧ v / 33554432 % 128 < 128 := by omega
  generalize v / 33554432 % 128 = P at *
  obtain ⟨bP0, bP1⟩ := bP
  have HS : Hid (SgnIs (D + P * 32) 12 (sgn (D + P * 32) 12)) := sig12 _
  have bZ := sgn_bd (D + P * 32) 12 (by decide)
  rw [show (2 : Int) ^ (12 - 1) = 2048 from rfl] at bZ
  generalize sgn (D + P * 32) 12 = Z at *
  obtain ⟨bZ0, bZ1⟩ := bZ
  go_enter Tryz.func91, Tryz.ntmps91
  go_wp2_with fail
  refine (H1.out _).mono ?_
  rintro e w1 ⟨rfl, rfl⟩
  go_wp2_with fail
  refine (H2.out _).mono ?_
  rintro e w2 ⟨rfl, rfl⟩
  go_wp2_with fail
  refine (H3.out _).mono ?_
  rintro e w3 ⟨rfl, rfl⟩
  go_wp2_with fail
  refine (specShC op _).mono ?_
  rintro e w4 ⟨rfl, hb⟩
  have hz : w.heap.size + 2 ≤ w4.heap.size := by have := hb.size; simp at this; omega
  have X4 : Five w4 (w.heap.size + 1) op 0 0 0 0 := Five.below (B := w.heap.size + 2) (by constructor <;> simp) (hb.mono (by simp)) (by omega)
  have R4 : Five w4 w.heap.size 0 0 0 0 0 := Five.below (B := w.heap.size + 2) (by constructor <;> simp) (hb.mono (by simp)) (by omega)
  have B4 : Below w.heap.size w w4 := by
    refine Below.trans ?_ (hb.mono (by first | omega | (simp; done) | (simp; omega)))
    repeat (first | exact Below.refl _ _ | refine Below.setCell ?_ (by first | omega | (simp; done) | (simp; omega)) _ | refine Below.alloc ?_ (by first | omega | (simp; done) | (simp; omega)) _)
  clear hb H1 H2 H3
  obtain ⟨c0, c1, c2, c3, c4, f0, f1, f2, f3, f4⟩ := X4
  obtain ⟨d0, d1, d2, d3, d4, g0, g1, g2, g3, g4⟩ := R4
  go_wp2_with fail
  refine (N0.out _).mono ?_
  rintro e w5 ⟨rfl, rfl⟩
  clear N0
  go_wp2_with fail
  refine (HS.out _).mono ?_
  rintro e w5 ⟨rfl, rfl⟩
  clear HS
  go_wp2
  refine bodyPost_ret (v := .agg #[.int .i64 op, .int .i64 0, .int .i64 A, .int .i64 B, .int .i64 Z]) (by simp [results, Tryz.results91, go_sem, d0, d1, d2, d3, d4]) rfl ⟨rfl, ?_⟩
  repeat (first | with_reducible exact B4 | refine Below.setCell ?_ (by first | omega | (simp; done) | (simp; omega)) _ | refine bdN ?_ _ | refine Below.drew ?_)
end Go.Proofs.YtiandbhcjecphaaGreatDoor

namespace Go.Proofs.YtiandbhcjecphaaGreatDoor
open Go.RowKit
set_option linter.unusedVariables false

set_option maxRecDepth 100000 in
set_option maxHeartbeats 8000000 in
theorem tks6 (op v c g h : Int) (v0 : 0 ≤ v) (v1 : v < 4294967296) (hs : shT op = (6, c, g, h)) (w : World) :
    Calls Tryz.prog 91 #[.int .i64 op, .int .i64 v] w fun e w' => e = .returned (.agg #[.int .i64 op, .int .i64 (tkRd 6 v), .int .i64 (tkR1 6 v), .int .i64 (tkR2 6 v), .int .i64 (takeF 6 v)]) ∧ Below w.heap.size w w' := by
  have hsf := shF op 6 c g h hs
  have H1 : Hid (FieIs v 7 5 (v / 128 % 32)) := fie7_5 v
  have H2 : Hid (FieIs v 15 5 (v / 32768 % 32)) := fie15_5 v
  have H3 : Hid (FieIs v 20 5 (v / 1048576 % 32)) := fie20_5 v
  have N0 : Hid (FieIs v 20 6 (v / 1048576 % 64)) := fie20_6 v
  have eD : tkRd 6 v = v / 128 % 32 := by simp [tkRd]
  have eA : tkR1 6 v = v / 32768 % 32 := by simp [tkR1]
  have eB : tkR2 6 v = 0 := by simp [tkR2]
  have eT : takeF 6 v = v / 1048576 % 64 := rfl
  rw [eD, eA, eB, eT]
  clear eD eA eB eT hs
  have bD : 0 ≤ v / 128 % 32 ∧ v / 128 % 32 < 32 := by omega
  generalize v / 128 % 32 = D at *
  obtain ⟨bD0, bD1⟩ := bD
  have bA : 0 ≤ v / 32768 % 32 ∧ v / 32768 % 32 < 32 := by omega
  generalize v / 32768 % 32 = A at *
  obtain ⟨bA0, bA1⟩ := bA
  have bB : 0 ≤ v / 1048576 % 32 ∧ v / 1048576 % 32 < 32 := by omega
  generalize v / 1048576 % 32 = B at *
  obtain ⟨bB0, bB1⟩ := bB
  have bP : 0 ≤ v / 1048576 % 64 ∧ v / 1048576 % 64 < 64 := by omega
  generalize v / 1048576 % 64 = P at *
  obtain ⟨bP0, bP1⟩ := bP
  go_enter Tryz.func91, Tryz.ntmps91
  go_wp2_with fail
  refine (H1.out _).mono ?_
  rintro e w1 ⟨rfl, rfl⟩
  go_wp2_with fail
  refine (H2.out _).mono ?_
  rintro e w2 ⟨rfl, rfl⟩
  go_wp2_with fail
  refine (H3.out _).mono ?_
  rintro e w3 ⟨rfl, rfl⟩
  go_wp2_with fail
  refine (specShC op _).mono ?_
  rintro e w4 ⟨rfl, hb⟩
  have hz : w.heap.size + 2 ≤ w4.heap.size := by have := hb.size; simp at this; omega
  have X4 : Five w4 (w.heap.size + 1) op 0 0 0 0 := Five.below (B := w.heap.size + 2) (by constructor <;> simp) (hb.mono (by simp)) (by omega)
  have R4 : Five w4 w.heap.size 0 0 0 0 0 := Five.below (B := w.heap.size + 2) (by constructor <;> simp) (hb.mono (by simp)) (by omega)
  have B4 : Below w.heap.size w w4 := by
    refine Below.trans ?_ (hb.mono (by first | omega | (simp; done) | (simp; omega)))
    repeat (first | exact Below.refl _ _ | refine Below.setCell ?_ (by first | omega | (simp; done) | (simp; omega)) _ | refine Below.alloc ?_ (by first | omega | (simp; done) | (simp; omega)) _)
  clear hb H1 H2 H3
  obtain ⟨c0, c1, c2, c3, c4, f0, f1, f2, f3, f4⟩ := X4
  obtain ⟨d0, d1, d2, d3, d4, g0, g1, g2, g3, g4⟩ := R4
  go_wp2_with fail
  refine (N0.out _).mono ?_
  rintro e w5 ⟨rfl, rfl⟩
  clear N0
  go_wp2
  refine bodyPost_ret (v := .agg #[.int .i64 op, .int .i64 D, .int .i64 A, .int .i64 0, .int .i64 P]) (by simp [results, Tryz.results91, go_sem, d0, d1, d2, d3, d4]) rfl ⟨rfl, ?_⟩
  repeat (first | with_reducible exact B4 | refine Below.setCell ?_ (by first | omega | (simp; done) | (simp; omega)) _ | refine bdN ?_ _ | refine Below.drew ?_)
end Go.Proofs.YtiandbhcjecphaaGreatDoor

namespace Go.Proofs.YtiandbhcjecphaaGreatDoor
open Go.RowKit
set_option linter.unusedVariables false

set_option maxRecDepth 100000 in
set_option maxHeartbeats 8000000 in
theorem tks7 (op v c g h : Int) (v0 : 0 ≤ v) (v1 : v < 4294967296) (hs : shT op = (7, c, g, h)) (w : World) :
    Calls Tryz.prog 91 #[.int .i64 op, .int .i64 v] w fun e w' => e = .returned (.agg #[.int .i64 op, .int .i64 (tkRd 7 v), .int .i64 (tkR1 7 v), .int .i64 (tkR2 7 v), .int .i64 (takeF 7 v)]) ∧ Below w.heap.size w w' := by
  have hsf := shF op 7 c g h hs
  have H1 : Hid (FieIs v 7 5 (v / 128 % 32)) := fie7_5 v
  have H2 : Hid (FieIs v 15 5 (v / 32768 % 32)) := fie15_5 v
  have H3 : Hid (FieIs v 20 5 (v / 1048576 % 32)) := fie20_5 v
  have eD : tkRd 7 v = v / 128 % 32 := by simp [tkRd]
  have eA : tkR1 7 v = v / 32768 % 32 := by simp [tkR1]
  have eB : tkR2 7 v = 0 := by simp [tkR2]
  have eT : takeF 7 v = v / 1048576 % 32 := rfl
  rw [eD, eA, eB, eT]
  clear eD eA eB eT hs
  have bD : 0 ≤ v / 128 % 32 ∧ v / 128 % 32 < 32 := by omega
  generalize v / 128 % 32 = D at *
  obtain ⟨bD0, bD1⟩ := bD
  have bA : 0 ≤ v / 32768 % 32 ∧ v / 32768 % 32 < 32 := by omega
  generalize v / 32768 % 32 = A at *
  obtain ⟨bA0, bA1⟩ := bA
  have bB : 0 ≤ v / 1048576 % 32 ∧ v / 1048576 % 32 < 32 := by omega
  generalize v / 1048576 % 32 = B at *
  obtain ⟨bB0, bB1⟩ := bB
  go_enter Tryz.func91, Tryz.ntmps91
  go_wp2_with fail
  refine (H1.out _).mono ?_
  rintro e w1 ⟨rfl, rfl⟩
  go_wp2_with fail
  refine (H2.out _).mono ?_
  rintro e w2 ⟨rfl, rfl⟩
  go_wp2_with fail
  refine (H3.out _).mono ?_
  rintro e w3 ⟨rfl, rfl⟩
  go_wp2_with fail
  refine (specShC op _).mono ?_
  rintro e w4 ⟨rfl, hb⟩
  have hz : w.heap.size + 2 ≤ w4.heap.size := by have := hb.size; simp at this; omega
  have X4 : Five w4 (w.heap.size + 1) op 0 0 0 0 := Five.below (B := w.heap.size + 2) (by constructor <;> simp) (hb.mono (by simp)) (by omega)
  have R4 : Five w4 w.heap.size 0 0 0 0 0 := Five.below (B := w.heap.size + 2) (by constructor <;> simp) (hb.mono (by simp)) (by omega)
  have B4 : Below w.heap.size w w4 := by
    refine Below.trans ?_ (hb.mono (by first | omega | (simp; done) | (simp; omega)))
    repeat (first | exact Below.refl _ _ | refine Below.setCell ?_ (by first | omega | (simp; done) | (simp; omega)) _ | refine Below.alloc ?_ (by first | omega | (simp; done) | (simp; omega)) _)
  clear hb H1 H2 H3
  obtain ⟨c0, c1, c2, c3, c4, f0, f1, f2, f3, f4⟩ := X4
  obtain ⟨d0, d1, d2, d3, d4, g0, g1, g2, g3, g4⟩ := R4
  go_wp2
  refine bodyPost_ret (v := .agg #[.int .i64 op, .int .i64 D, .int .i64 A, .int .i64 0, .int .i64 B]) (by simp [results, Tryz.results91, go_sem, d0, d1, d2, d3, d4]) rfl ⟨rfl, ?_⟩
  repeat (first | with_reducible exact B4 | refine Below.setCell ?_ (by first | omega | (simp; done) | (simp; omega)) _ | refine bdN ?_ _ | refine Below.drew ?_)
end Go.Proofs.YtiandbhcjecphaaGreatDoor

namespace Go.Proofs.YtiandbhcjecphaaGreatDoor
open Go.RowKit
set_option linter.unusedVariables false

set_option maxRecDepth 100000 in
set_option maxHeartbeats 8000000 in
theorem tks8 (op v c g h : Int) (v0 : 0 ≤ v) (v1 : v < 4294967296) (hs : shT op = (8, c, g, h)) (w : World) :
    Calls Tryz.prog 91 #[.int .i64 op, .int .i64 v] w fun e w' => e = .returned (.agg #[.int .i64 op, .int .i64 (tkRd 8 v), .int .i64 (tkR1 8 v), .int .i64 (tkR2 8 v), .int .i64 (takeF 8 v)]) ∧ Below w.heap.size w w' := by
  have hsf := shF op 8 c g h hs
  have H1 : Hid (FieIs v 7 5 (v / 128 % 32)) := fie7_5 v
  have H2 : Hid (FieIs v 15 5 (v / 32768 % 32)) := fie15_5 v
  have H3 : Hid (FieIs v 20 5 (v / 1048576 % 32)) := fie20_5 v
  have eD : tkRd 8 v = v / 128 % 32 := by simp [tkRd]
  have eA : tkR1 8 v = v / 32768 % 32 := by simp [tkR1]
  have eB : tkR2 8 v = v / 1048576 % 32 := by simp [tkR2]
  have eT : takeF 8 v = 0 := rfl
  rw [eD, eA, eB, eT]
  clear eD eA eB eT hs
  have bD : 0 ≤ v / 128 % 32 ∧ v / 128 % 32 < 32 := by omega
  generalize v / 128 % 32 = D at *
  obtain ⟨bD0, bD1⟩ := bD
  have bA : 0 ≤ v / 32768 % 32 ∧ v / 32768 % 32 < 32 := by omega
  generalize v / 32768 % 32 = A at *
  obtain ⟨bA0, bA1⟩ := bA
  have bB : 0 ≤ v / 1048576 % 32 ∧ v / 1048576 % 32 < 32 := by omega
  generalize v / 1048576 % 32 = B at *
  obtain ⟨bB0, bB1⟩ := bB
  go_enter Tryz.func91, Tryz.ntmps91
  go_wp2_with fail
  refine (H1.out _).mono ?_
  rintro e w1 ⟨rfl, rfl⟩
  go_wp2_with fail
  refine (H2.out _).mono ?_
  rintro e w2 ⟨rfl, rfl⟩
  go_wp2_with fail
  refine (H3.out _).mono ?_
  rintro e w3 ⟨rfl, rfl⟩
  go_wp2_with fail
  refine (specShC op _).mono ?_
  rintro e w4 ⟨rfl, hb⟩
  have hz : w.heap.size + 2 ≤ w4.heap.size := by have := hb.size; simp at this; omega
  have X4 : Five w4 (w.heap.size + 1) op 0 0 0 0 := Five.below (B := w.heap.size + 2) (by constructor <;> simp) (hb.mono (by simp)) (by omega)
  have R4 : Five w4 w.heap.size 0 0 0 0 0 := Five.below (B := w.heap.size + 2) (by constructor <;> simp) (hb.mono (by simp)) (by omega)
  have B4 : Below w.heap.size w w4 := by
    refine Below.trans ?_ (hb.mono (by first | omega | (simp; done) | (simp; omega)))
    repeat (first | exact Below.refl _ _ | refine Below.setCell ?_ (by first | omega | (simp; done) | (simp; omega)) _ | refine Below.alloc ?_ (by first | omega | (simp; done) | (simp; omega)) _)
  clear hb H1 H2 H3
  obtain ⟨c0, c1, c2, c3, c4, f0, f1, f2, f3, f4⟩ := X4
  obtain ⟨d0, d1, d2, d3, d4, g0, g1, g2, g3, g4⟩ := R4
  go_wp2
  refine bodyPost_ret (v := .agg #[.int .i64 op, .int .i64 D, .int .i64 A, .int .i64 B, .int .i64 0]) (by simp [results, Tryz.results91, go_sem, d0, d1, d2, d3, d4]) rfl ⟨rfl, ?_⟩
  repeat (first | with_reducible exact B4 | refine Below.setCell ?_ (by first | omega | (simp; done) | (simp; omega)) _ | refine bdN ?_ _ | refine Below.drew ?_)
end Go.Proofs.YtiandbhcjecphaaGreatDoor
