/- An instruction of form 1 taken out of a word by the model: the contract. An instruction of form 2 taken out of a word by the model: the contract. An instruction of form 3 taken out of a word by the model: the contract. An instruction of form 4 taken out of a word by the model: the contract. -/
import Derived.Test.YtiandbhcjecphaaGreatDoorGLShape21
namespace Go.Proofs.YtiandbhcjecphaaGreatDoor
open Go.RowKit
set_option linter.unusedVariables false

set_option maxRecDepth 100000 in
set_option maxHeartbeats 8000000 in
theorem tks1 (op v c g h : Int) (v0 : 0 ≤ v) (v1 : v < 4294967296) (hs : shT op = (1, c, g, h)) (w : World) :
    Calls Tryz.prog 91 #[.int .i64 op, .int .i64 v] w fun e w' => e = .returned (.agg #[.int .i64 op, .int .i64 (tkRd 1 v), .int .i64 (tkR1 1 v), .int .i64 (tkR2 1 v), .int .i64 (takeF 1 v)]) ∧ Below w.heap.size w w' := by
  have hsf := shF op 1 c g h hs
  have H1 : Hid (FieIs v 7 5 (v / 128 % 32)) := fie7_5 v
  have H2 : Hid (FieIs v 15 5 (v / 32768 % 32)) := fie15_5 v
  have H3 : Hid (FieIs v 20 5 (v / 1048576 % 32)) := fie20_5 v
  have N0 : Hid (FieIs v 12 20 (v / 4096 % 1048576)) := fie12_20 v
  have eD : tkRd 1 v = v / 128 % 32 := by simp [tkRd]
  have eA : tkR1 1 v = 0 := by simp [tkR1]
  have eB : tkR2 1 v = 0 := by simp [tkR2]
  have eT : takeF 1 v = sgn (v / 4096 % 1048576) 20 * 4096 := take_1 v
  rw [eD, eA, eB, eT]
  clear eD eA eB eT hs
  have bD : 0 ≤ v / 128 % 32 ∧ v / 128 % 32 < 32 := by omega
  generalize v / 128 % 32 = D at *
  obtain ⟨bD0, bD1⟩ := bD
  have bA : 0 ≤ v / 32768 % 32 ∧ v / 32768 % 32 < 32 := by omega
  generalize v / 32768 % 32 = A at *
  obtain ⟨bA0, bA1⟩ := bA
  have bB : 0 ≤ v / 1048576 % 32 ∧ v / 1048576 % 32 < 32 := by omega
  generalize v / 1048576 % 32 = B at *
  obtain ⟨bB0, bB1⟩ := bB
  have bP : 0 ≤ v / 4096 % 1048576 ∧ v / 4096 % 1048576 < 1048576 := by omega
  generalize v / 4096 % 1048576 = P at *
  obtain ⟨bP0, bP1⟩ := bP
  have HS : Hid (SgnIs (P) 20 (sgn (P) 20)) := sig20 _
  have bZ := sgn_bd (P) 20 (by decide)
  rw [show (2 : Int) ^ (20 - 1) = 524288 from rfl] at bZ
  generalize sgn (P) 20 = Z at *
  obtain ⟨bZ0, bZ1⟩ := bZ
  go_enter Tryz.func91, Tryz.ntmps91
  go_wp2_with fail
  refine (H1.out _).mono ?_
  rintro e w1 ⟨rfl, rfl⟩
  go_wp2_with fail
  refine (H2.out _).mono ?_
  rintro e w2 ⟨rfl, rfl⟩
  go_wp2_with fail
  refine (H3.out _).mono ?_
  rintro e w3 ⟨rfl, rfl⟩
  go_wp2_with fail
  refine (specShC op _).mono ?_
  rintro e w4 ⟨rfl, hb⟩
  have hz : w.heap.size + 2 ≤ w4.heap.size := by have := hb.size; simp at this; omega
  have X4 : Five w4 (w.heap.size + 1) op 0 0 0 0 := Five.below (B := w.heap.size + 2) (by constructor <;> simp) (hb.mono (by simp)) (by omega)
  have R4 : Five w4 w.heap.size 0 0 0 0 0 := Five.below (B := w.heap.size + 2) (by constructor <;> simp) (hb.mono (by simp)) (by omega)
  have B4 : Below w.heap.size w w4 := by
    refine Below.trans ?_ (hb.mono (by first | omega | (simp; done) | (simp; omega)))
    repeat (first | exact Below.refl _ _ | refine Below.setCell ?_ (by first | omega | (simp; done) | (simp; omega)) _ | refine Below.alloc ?_ (by first | omega | (simp; done) | (simp; omega)) _)
  clear hb H1 H2 H3
  obtain ⟨c0, c1, c2, c3, c4, f0, f1, f2, f3, f4⟩ := X4
  obtain ⟨d0, d1, d2, d3, d4, g0, g1, g2, g3, g4⟩ := R4
  go_wp2_with fail
  refine (N0.out _).mono ?_
  rintro e w5 ⟨rfl, rfl⟩
  clear N0
  go_wp2_with fail
  refine (HS.out _).mono ?_
  rintro e w5 ⟨rfl, rfl⟩
  clear HS
  go_wp2
  refine bodyPost_ret (v := .agg #[.int .i64 op, .int .i64 D, .int .i64 0, .int .i64 0, .int .i64 (Z * 4096)]) (by simp [results, Tryz.results91, go_sem, d0, d1, d2, d3, d4]) rfl ⟨rfl, ?_⟩
  repeat (first | with_reducible exact B4 | refine Below.setCell ?_ (by first | omega | (simp; done) | (simp; omega)) _ | refine bdN ?_ _ | refine Below.drew ?_)
end Go.Proofs.YtiandbhcjecphaaGreatDoor

namespace Go.Proofs.YtiandbhcjecphaaGreatDoor
open Go.RowKit
set_option linter.unusedVariables false

set_option maxRecDepth 100000 in
set_option maxHeartbeats 8000000 in
theorem tks2 (op v c g h : Int) (v0 : 0 ≤ v) (v1 : v < 4294967296) (hs : shT op = (2, c, g, h)) (w : World) :
    Calls Tryz.prog 91 #[.int .i64 op, .int .i64 v] w fun e w' => e = .returned (.agg #[.int .i64 op, .int .i64 (tkRd 2 v), .int .i64 (tkR1 2 v), .int .i64 (tkR2 2 v), .int .i64 (takeF 2 v)]) ∧ Below w.heap.size w w' := by
  have hsf := shF op 2 c g h hs
  have H1 : Hid (FieIs v 7 5 (v / 128 % 32)) := fie7_5 v
  have H2 : Hid (FieIs v 15 5 (v / 32768 % 32)) := fie15_5 v
  have H3 : Hid (FieIs v 20 5 (v / 1048576 % 32)) := fie20_5 v
  have N0 : Hid (FieIs v 21 10 (v / 2097152 % 1024)) := fie21_10 v
  have N1 : Hid (BitIs v 20 (v / 1048576 % 2)) := bit20 v
  have N2 : Hid (FieIs v 12 8 (v / 4096 % 256)) := fie12_8 v
  have N3 : Hid (BitIs v 31 (v / 2147483648 % 2)) := bit31 v
  have eD : tkRd 2 v = v / 128 % 32 := by simp [tkRd]
  have eA : tkR1 2 v = 0 := by simp [tkR1]
  have eB : tkR2 2 v = 0 := by simp [tkR2]
  have eT : takeF 2 v = sgn (v / 2097152 % 1024 * 2 + v / 1048576 % 2 * 2048 + v / 4096 % 256 * 4096 + v / 2147483648 % 2 * 1048576) 21 := take_2 v
  rw [eD, eA, eB, eT]
  clear eD eA eB eT hs
  have bD : 0 ≤ v / 128 % 32 ∧ v / 128 % 32 < 32 := by omega
  generalize v / 128 % 32 = D at *
  obtain ⟨bD0, bD1⟩ := bD
  have bA : 0 ≤ v / 32768 % 32 ∧ v / 32768 % 32 < 32 := by omega
  generalize v / 32768 % 32 = A at *
  obtain ⟨bA0, bA1⟩ := bA
  have bB : 0 ≤ v / 1048576 % 32 ∧ v / 1048576 % 32 < 32 := by omega
  generalize v / 1048576 % 32 = B at *
  obtain ⟨bB0, bB1⟩ := bB
  have bP : 0 ≤ v / 2097152 % 1024 ∧ v / 2097152 % 1024 < 1024 := by omega
  generalize v / 2097152 % 1024 = P at *
  obtain ⟨bP0, bP1⟩ := bP
  have bQ : 0 ≤ v / 1048576 % 2 ∧ v / 1048576 % 2 < 2 := by omega
  generalize v / 1048576 % 2 = Q at *
  obtain ⟨bQ0, bQ1⟩ := bQ
  have bS : 0 ≤ v / 4096 % 256 ∧ v / 4096 % 256 < 256 := by omega
  generalize v / 4096 % 256 = S at *
  obtain ⟨bS0, bS1⟩ := bS
  have bU : 0 ≤ v / 2147483648 % 2 ∧ v / 2147483648 % 2 < 2 := by omega
  generalize v / 2147483648 % 2 = U at *
  obtain ⟨bU0, bU1⟩ := bU
  have HS : Hid (SgnIs (P * 2 + Q * 2048 + S * 4096 + U * 1048576) 21 (sgn (P * 2 + Q * 2048 + S * 4096 + U * 1048576) 21)) := sig21 _
  have bZ := sgn_bd (P * 2 + Q * 2048 + S * 4096 + U * 1048576) 21 (by decide)
  rw [show (2 : Int) ^ (21 - 1) = 1048576 from rfl] at bZ
  generalize sgn (P * 2 + Q * 2048 + S * 4096 + U * 1048576) 21 = Z at *
  obtain ⟨bZ0, bZ1⟩ := bZ
  go_enter Tryz.func91, Tryz.ntmps91
  go_wp2_with fail
  refine (H1.out _).mono ?_
  rintro e w1 ⟨rfl, rfl⟩
  go_wp2_with fail
  refine (H2.out _).mono ?_
  rintro e w2 ⟨rfl, rfl⟩
  go_wp2_with fail
  refine (H3.out _).mono ?_
  rintro e w3 ⟨rfl, rfl⟩
  go_wp2_with fail
  refine (specShC op _).mono ?_
  rintro e w4 ⟨rfl, hb⟩
  have hz : w.heap.size + 2 ≤ w4.heap.size := by have := hb.size; simp at this; omega
  have X4 : Five w4 (w.heap.size + 1) op 0 0 0 0 := Five.below (B := w.heap.size + 2) (by constructor <;> simp) (hb.mono (by simp)) (by omega)
  have R4 : Five w4 w.heap.size 0 0 0 0 0 := Five.below (B := w.heap.size + 2) (by constructor <;> simp) (hb.mono (by simp)) (by omega)
  have B4 : Below w.heap.size w w4 := by
    refine Below.trans ?_ (hb.mono (by first | omega | (simp; done) | (simp; omega)))
    repeat (first | exact Below.refl _ _ | refine Below.setCell ?_ (by first | omega | (simp; done) | (simp; omega)) _ | refine Below.alloc ?_ (by first | omega | (simp; done) | (simp; omega)) _)
  clear hb H1 H2 H3
  obtain ⟨c0, c1, c2, c3, c4, f0, f1, f2, f3, f4⟩ := X4
  obtain ⟨d0, d1, d2, d3, d4, g0, g1, g2, g3, g4⟩ := R4
  go_wp2_with fail
  refine (N0.out _).mono ?_
  rintro e w5 ⟨rfl, rfl⟩
  clear N0
  go_wp2_with fail
  refine (N1.out _).mono ?_
  rintro e w5 ⟨rfl, rfl⟩
  clear N1
  go_wp2_with fail
  refine (N2.out _).mono ?_
  rintro e w5 ⟨rfl, rfl⟩
  clear N2
  go_wp2_with fail
  refine (N3.out _).mono ?_
  rintro e w5 ⟨rfl, rfl⟩
  clear N3
  go_wp2_with fail
  refine (HS.out _).mono ?_
  rintro e w5 ⟨rfl, rfl⟩
  clear HS
  go_wp2
  refine bodyPost_ret (v := .agg #[.int .i64 op, .int .i64 D, .int .i64 0, .int .i64 0, .int .i64 Z]) (by simp [results, Tryz.results91, go_sem, d0, d1, d2, d3, d4]) rfl ⟨rfl, ?_⟩
  repeat (first | with_reducible exact B4 | refine Below.setCell ?_ (by first | omega | (simp; done) | (simp; omega)) _ | refine bdN ?_ _ | refine Below.drew ?_)
end Go.Proofs.YtiandbhcjecphaaGreatDoor

namespace Go.Proofs.YtiandbhcjecphaaGreatDoor
open Go.RowKit
set_option linter.unusedVariables false

set_option maxRecDepth 100000 in
set_option maxHeartbeats 8000000 in
theorem tks3 (op v c g h : Int) (v0 : 0 ≤ v) (v1 : v < 4294967296) (hs : shT op = (3, c, g, h)) (w : World) :
    Calls Tryz.prog 91 #[.int .i64 op, .int .i64 v] w fun e w' => e = .returned (.agg #[.int .i64 op, .int .i64 (tkRd 3 v), .int .i64 (tkR1 3 v), .int .i64 (tkR2 3 v), .int .i64 (takeF 3 v)]) ∧ Below w.heap.size w w' := by
  have hsf := shF op 3 c g h hs
  have H1 : Hid (FieIs v 7 5 (v / 128 % 32)) := fie7_5 v
  have H2 : Hid (FieIs v 15 5 (v / 32768 % 32)) := fie15_5 v
  have H3 : Hid (FieIs v 20 5 (v / 1048576 % 32)) := fie20_5 v
  have N0 : Hid (FieIs v 20 12 (v / 1048576 % 4096)) := fie20_12 v
  have eD : tkRd 3 v = v / 128 % 32 := by simp [tkRd]
  have eA : tkR1 3 v = v / 32768 % 32 := by simp [tkR1]
  have eB : tkR2 3 v = 0 := by simp [tkR2]
  have eT : takeF 3 v = sgn (v / 1048576 % 4096) 12 := rfl
  rw [eD, eA, eB, eT]
  clear eD eA eB eT hs
  have bD : 0 ≤ v / 128 % 32 ∧ v / 128 % 32 < 32 := by omega
  generalize v / 128 % 32 = D at *
  obtain ⟨bD0, bD1⟩ := bD
  have bA : 0 ≤ v / 32768 % 32 ∧ v / 32768 % 32 < 32 := by omega
  generalize v / 32768 % 32 = A at *
  obtain ⟨bA0, bA1⟩ := bA
  have bB : 0 ≤ v / 1048576 % 32 ∧ v / 1048576 % 32 < 32 := by omega
  generalize v / 1048576 % 32 = B at *
  obtain ⟨bB0, bB1⟩ := bB
  have bP : 0 ≤ v / 1048576 % 4096 ∧ v / 1048576 % 4096 < 4096 := by omega
  generalize v / 1048576 % 4096 = P at *
  obtain ⟨bP0, bP1⟩ := bP
  have HS : Hid (SgnIs (P) 12 (sgn (P) 12)) := sig12 _
  have bZ := sgn_bd (P) 12 (by decide)
  rw [show (2 : Int) ^ (12 - 1) = 2048 from rfl] at bZ
  generalize sgn (P) 12 = Z at *
  obtain ⟨bZ0, bZ1⟩ := bZ
  go_enter Tryz.func91, Tryz.ntmps91
  go_wp2_with fail
  refine (H1.out _).mono ?_
  rintro e w1 ⟨rfl, rfl⟩
  go_wp2_with fail
  refine (H2.out _).mono ?_
  rintro e w2 ⟨rfl, rfl⟩
  go_wp2_with fail
  refine (H3.out _).mono ?_
  rintro e w3 ⟨rfl, rfl⟩
  go_wp2_with fail
  refine (specShC op _).mono ?_
  rintro e w4 ⟨rfl, hb⟩
  have hz : w.heap.size + 2 ≤ w4.heap.size := by have := hb.size; simp at this; omega
  have X4 : Five w4 (w.heap.size + 1) op 0 0 0 0 := Five.below (B := w.heap.size + 2) (by constructor <;> simp) (hb.mono (by simp)) (by omega)
  have R4 : Five w4 w.heap.size 0 0 0 0 0 := Five.below (B := w.heap.size + 2) (by constructor <;> simp) (hb.mono (by simp)) (by omega)
  have B4 : Below w.heap.size w w4 := by
    refine Below.trans ?_ (hb.mono (by first | omega | (simp; done) | (simp; omega)))
    repeat (first | exact Below.refl _ _ | refine Below.setCell ?_ (by first | omega | (simp; done) | (simp; omega)) _ | refine Below.alloc ?_ (by first | omega | (simp; done) | (simp; omega)) _)
  clear hb H1 H2 H3
  obtain ⟨c0, c1, c2, c3, c4, f0, f1, f2, f3, f4⟩ := X4
  obtain ⟨d0, d1, d2, d3, d4, g0, g1, g2, g3, g4⟩ := R4
  go_wp2_with fail
  refine (N0.out _).mono ?_
  rintro e w5 ⟨rfl, rfl⟩
  clear N0
  go_wp2_with fail
  refine (HS.out _).mono ?_
  rintro e w5 ⟨rfl, rfl⟩
  clear HS
  go_wp2
  refine bodyPost_ret (v := .agg #[.int .i64 op, .int .i64 D, .int .i64 A, .int .i64 0, .int .i64 Z]) (by simp [results, Tryz.results91, go_sem, d0, d1, d2, d3, d4]) rfl ⟨rfl, ?_⟩
  repeat (first | with_reducible exact B4 | refine Below.setCell ?_ (by first | omega | (simp; done) | (simp; omega)) _ | refine bdN ?_ _ | refine Below.drew ?_)
end Go.Proofs.YtiandbhcjecphaaGreatDoor

namespace Go.Proofs.YtiandbhcjecphaaGreatDoor
open Go.RowKit
set_option linter.unusedVariables false

set_option maxRecDepth 100000 in
set_option maxHeartbeats 8000000 in
theorem tks4 (op v c g h : Int) (v0 : 0 ≤ v) (v1 : v < 4294967296) (hs : shT op = (4, c, g, h)) (w : World) :
    Calls Tryz.prog 91 #[.int .i64 op, .int .i64 v] w fun e w' => e = .returned (.agg #[.int .i64 op, .int .i64 (tkRd 4 v), .int .i64 (tkR1 4 v), .int .i64 (tkR2 4 v), .int .i64 (takeF 4 v)]) ∧ Below w.heap.size w w' := by
  have hsf := shF op 4 c g h hs
  have H1 : Hid (FieIs v 7 5 (v / 128 % 32)) := fie7_5 v
  have H2 : Hid (FieIs v 15 5 (v / 32768 % 32)) := fie15_5 v
  have H3 : Hid (FieIs v 20 5 (v / 1048576 % 32)) := fie20_5 v
  have N0 : Hid (FieIs v 8 4 (v / 256 % 16)) := fie8_4 v
  have N1 : Hid (FieIs v 25 6 (v / 33554432 % 64)) := fie25_6 v
  have N2 : Hid (BitIs v 7 (v / 128 % 2)) := bit7 v
  have N3 : Hid (BitIs v 31 (v / 2147483648 % 2)) := bit31 v
  have eD : tkRd 4 v = 0 := by simp [tkRd]
  have eA : tkR1 4 v = v / 32768 % 32 := by simp [tkR1]
  have eB : tkR2 4 v = v / 1048576 % 32 := by simp [tkR2]
  have eT : takeF 4 v = sgn (v / 256 % 16 * 2 + v / 33554432 % 64 * 32 + v / 128 % 2 * 2048 + v / 2147483648 % 2 * 4096) 13 := take_4 v
  rw [eD, eA, eB, eT]
  clear eD eA eB eT hs
  have bD : 0 ≤ v / 128 % 32 ∧ v / 128 % 32 < 32 := by omega
  generalize v / 128 % 32 = D at *
  obtain ⟨bD0, bD1⟩ := bD
  have bA : 0 ≤ v / 32768 % 32 ∧ v / 32768 % 32 < 32 := by omega
  generalize v / 32768 % 32 = A at *
  obtain ⟨bA0, bA1⟩ := bA
  have bB : 0 ≤ v / 1048576 % 32 ∧ v / 1048576 % 32 < 32 := by omega
  generalize v / 1048576 % 32 = B at *
  obtain ⟨bB0, bB1⟩ := bB
  have bP : 0 ≤ v / 256 % 16 ∧ v / 256 % 16 < 16 := by omega
  generalize v / 256 % 16 = P at *
  obtain ⟨bP0, bP1⟩ := bP
  have bQ : 0 ≤ v / 33554432 % 64 ∧ v / 33554432 % 64 < 64 := by omega
  generalize v / 33554432 % 64 = Q at *
  obtain ⟨bQ0, bQ1⟩ := bQ
  have bS : 0 ≤ v / 128 % 2 ∧ v / 128 % 2 < 2 := by omega
  generalize v / 128 % 2 = S at *
  obtain ⟨bS0, bS1⟩ := bS
  have bU : 0 ≤ v / 2147483648 % 2 ∧ v / 2147483648 % 2 < 2 := by omega
  generalize v / 2147483648 % 2 = U at *
  obtain ⟨bU0, bU1⟩ := bU
  have HS : Hid (SgnIs (P * 2 + Q * 32 + S * 2048 + U * 4096) 13 (sgn (P * 2 + Q * 32 + S * 2048 + U * 4096) 13)) := sig13 _
  have bZ := sgn_bd (P * 2 + Q * 32 + S * 2048 + U * 4096) 13 (by decide)
  rw [show (2 : Int) ^ (13 - 1) = 4096 from rfl] at bZ
  generalize sgn (P * 2 + Q * 32 + S * 2048 + U * 4096) 13 = Z at *
  obtain ⟨bZ0, bZ1⟩ := bZ
  go_enter Tryz.func91, Tryz.ntmps91
  go_wp2_with fail
  refine (H1.out _).mono ?_
  rintro e w1 ⟨rfl, rfl⟩
  go_wp2_with fail
  refine (H2.out _).mono ?_
  rintro e w2 ⟨rfl, rfl⟩
  go_wp2_with fail
  refine (H3.out _).mono ?_
  rintro e w3 ⟨rfl, rfl⟩
  go_wp2_with fail
  refine (specShC op _).mono ?_
  rintro e w4 ⟨rfl, hb⟩
  have hz : w.heap.size + 2 ≤ w4.heap.size := by have := hb.size; simp at this; omega
  have X4 : Five w4 (w.heap.size + 1) op 0 0 0 0 := Five.below (B := w.heap.size + 2) (by constructor <;> simp) (hb.mono (by simp)) (by omega)
  have R4 : Five w4 w.heap.size 0 0 0 0 0 := Five.below (B := w.heap.size + 2) (by constructor <;> simp) (hb.mono (by simp)) (by omega)
  have B4 : Below w.heap.size w w4 := by
    refine Below.trans ?_ (hb.mono (by first | omega | (simp; done) | (simp; omega)))
    repeat (first | exact Below.refl _ _ | refine Below.setCell ?_ (by first | omega | (simp; done) | (simp; omega)) _ | refine Below.alloc ?_ (by first | omega | (simp; done) | (simp; omega)) _)
  clear hb H1 H2 H3
  obtain ⟨c0, c1, c2, c3, c4, f0, f1, f2, f3, f4⟩ := X4
  obtain ⟨d0, d1, d2, d3, d4, g0, g1, g2, g3, g4⟩ := R4
  go_wp2_with fail
  refine (N0.out _).mono ?_
  rintro e w5 ⟨rfl, rfl⟩
  clear N0
  go_wp2_with fail
  refine (N1.out _).mono ?_
  rintro e w5 ⟨rfl, rfl⟩
  clear N1
  go_wp2_with fail
  refine (N2.out _).mono ?_
  rintro e w5 ⟨rfl, rfl⟩
  clear N2
  go_wp2_with fail
  refine (N3.out _).mono ?_
  rintro e w5 ⟨rfl, rfl⟩
  clear N3
  go_wp2_with fail
  refine (HS.out _).mono ?_
  rintro e w5 ⟨rfl, rfl⟩
  clear HS
  go_wp2
  refine bodyPost_ret (v := .agg #[.int .i64 op, .int .i64 0, .int .i64 A, .int .i64 B, .int .i64 Z]) (by simp [results, Tryz.results91, go_sem, d0, d1, d2, d3, d4]) rfl ⟨rfl, ?_⟩
  repeat (first | with_reducible exact B4 | refine Below.setCell ?_ (by first | omega | (simp; done) | (simp; omega)) _ | refine bdN ?_ _ | refine Below.drew ?_)
end Go.Proofs.YtiandbhcjecphaaGreatDoor
