/- An instruction of form 8 taken out of a word by the model: the contract. An instruction of form 9 taken out of a word by the model: the contract. -/
import Derived.Test.YtjpdjalhhokghaaDoorGXDecode8
namespace Go.Proofs.YtjpdjalhhokghaaDoor
open Go.RowKit
set_option linter.unusedVariables false

set_option maxRecDepth 100000 in
set_option maxHeartbeats 8000000 in
theorem tks8 (op v c g h : Int) (v0 : 0 ≤ v) (v1 : v < 4294967296) (hs : shT op = (8, c, g, h)) (w : World) :
    Calls Tryd.prog 105 #[.int .i64 op, .int .i64 v] w fun e w' => e = .returned (.agg #[.int .i64 op, .int .i64 (tkRd 8 v), .int .i64 (tkR1 8 v), .int .i64 (tkR2 8 v), .int .i64 (takeF 8 v)]) ∧ Below w.heap.size w w' := by
  have hsf := shF op 8 c g h hs
  have H1 : Hid (FieIs v 7 5 (v / 128 % 32)) := fie7_5 v
  have H2 : Hid (FieIs v 15 5 (v / 32768 % 32)) := fie15_5 v
  have H3 : Hid (FieIs v 20 5 (v / 1048576 % 32)) := fie20_5 v
  have eD : tkRd 8 v = v / 128 % 32 := by simp [tkRd]
  have eA : tkR1 8 v = v / 32768 % 32 := by simp [tkR1]
  have eB : tkR2 8 v = v / 1048576 % 32 := by simp [tkR2]
  have eT : takeF 8 v = 0 := rfl
  rw [eD, eA, eB, eT]
  clear eD eA eB eT hs
  have bD : 0 ≤ v / 128 % 32 ∧ v / 128 % 32 < 32 := by omega
  generalize v / 128 % 32 = D at *
  obtain ⟨bD0, bD1⟩ := bD
  have bA : 0 ≤ v / 32768 % 32 ∧ v / 32768 % 32 < 32 := by omega
  generalize v / 32768 % 32 = A at *
  obtain ⟨bA0, bA1⟩ := bA
  have bB : 0 ≤ v / 1048576 % 32 ∧ v / 1048576 % 32 < 32 := by omega
  generalize v / 1048576 % 32 = B at *
  obtain ⟨bB0, bB1⟩ := bB
  go_enter Tryd.func105, Tryd.ntmps105
  go_wp2_with fail
  refine (H1.out _).mono ?_
  rintro e w1 ⟨rfl, rfl⟩
  go_wp2_with fail
  refine (H2.out _).mono ?_
  rintro e w2 ⟨rfl, rfl⟩
  go_wp2_with fail
  refine (H3.out _).mono ?_
  rintro e w3 ⟨rfl, rfl⟩
  go_wp2_with fail
  refine (specShC op _).mono ?_
  rintro e w4 ⟨rfl, hb⟩
  have hz : w.heap.size + 2 ≤ w4.heap.size := by have := hb.size; simp at this; omega
  have X4 : Five w4 (w.heap.size + 1) op 0 0 0 0 := Five.below (B := w.heap.size + 2) (by constructor <;> simp) (hb.mono (by simp)) (by omega)
  have R4 : Five w4 w.heap.size 0 0 0 0 0 := Five.below (B := w.heap.size + 2) (by constructor <;> simp) (hb.mono (by simp)) (by omega)
  have B4 : Below w.heap.size w w4 := by
    refine Below.trans ?_ (hb.mono (by first | omega | (simp; done) | (simp; omega)))
    repeat (first | exact Below.refl _ _ | refine Below.setCell ?_ (by first | omega | (simp; done) | (simp; omega)) _ | refine Below.alloc ?_ (by first | omega | (simp; done) | (simp; omega)) _)
  clear hb H1 H2 H3
  obtain ⟨c0, c1, c2, c3, c4, f0, f1, f2, f3, f4⟩ := X4
  obtain ⟨d0, d1, d2, d3, d4, g0, g1, g2, g3, g4⟩ := R4
  go_wp2
  refine bodyPost_ret (v := .agg #[.int .i64 op, .int .i64 D, .int .i64 A, .int .i64 B, .int .i64 0]) (by simp [results, Tryd.results105, go_sem, d0, d1, d2, d3, d4]) rfl ⟨rfl, ?_⟩
  repeat (first | with_reducible exact B4 | refine Below.setCell ?_ (by first | omega | (simp; done) | (simp; omega)) _ | refine bdN ?_ _ | refine Below.drew ?_)
end Go.Proofs.YtjpdjalhhokghaaDoor

namespace Go.Proofs.YtjpdjalhhokghaaDoor
open Go.RowKit
set_option linter.unusedVariables false

set_option maxRecDepth 100000 in
set_option maxHeartbeats 8000000 in
theorem tks9 (op v c g h : Int) (v0 : 0 ≤ v) (v1 : v < 4294967296) (hs : shT op = (9, c, g, h)) (w : World) :
    Calls Tryd.prog 105 #[.int .i64 op, .int .i64 v] w fun e w' => e = .returned (.agg #[.int .i64 op, .int .i64 (tkRd 9 v), .int .i64 (tkR1 9 v), .int .i64 (tkR2 9 v), .int .i64 (takeF 9 v)]) ∧ Below w.heap.size w w' := by
  have hsf := shF op 9 c g h hs
  have H1 : Hid (FieIs v 7 5 (v / 128 % 32)) := fie7_5 v
  have H2 : Hid (FieIs v 15 5 (v / 32768 % 32)) := fie15_5 v
  have H3 : Hid (FieIs v 20 5 (v / 1048576 % 32)) := fie20_5 v
  have eD : tkRd 9 v = 0 := by simp [tkRd]
  have eA : tkR1 9 v = 0 := by simp [tkR1]
  have eB : tkR2 9 v = 0 := by simp [tkR2]
  have eT : takeF 9 v = 0 := rfl
  rw [eD, eA, eB, eT]
  clear eD eA eB eT hs
  have bD : 0 ≤ v / 128 % 32 ∧ v / 128 % 32 < 32 := by omega
  generalize v / 128 % 32 = D at *
  obtain ⟨bD0, bD1⟩ := bD
  have bA : 0 ≤ v / 32768 % 32 ∧ v / 32768 % 32 < 32 := by omega
  generalize v / 32768 % 32 = A at *
  obtain ⟨bA0, bA1⟩ := bA
  have bB : 0 ≤ v / 1048576 % 32 ∧ v / 1048576 % 32 < 32 := by omega
  generalize v / 1048576 % 32 = B at *
  obtain ⟨bB0, bB1⟩ := bB
  go_enter Tryd.func105, Tryd.ntmps105
  go_wp2_with fail
  refine (H1.out _).mono ?_
  rintro e w1 ⟨rfl, rfl⟩
  go_wp2_with fail
  refine (H2.out _).mono ?_
  rintro e w2 ⟨rfl, rfl⟩
  go_wp2_with fail
  refine (H3.out _).mono ?_
  rintro e w3 ⟨rfl, rfl⟩
  go_wp2_with fail
  refine (specShC op _).mono ?_
  rintro e w4 ⟨rfl, hb⟩
  have hz : w.heap.size + 2 ≤ w4.heap.size := by have := hb.size; simp at this; omega
  have X4 : Five w4 (w.heap.size + 1) op 0 0 0 0 := Five.below (B := w.heap.size + 2) (by constructor <;> simp) (hb.mono (by simp)) (by omega)
  have R4 : Five w4 w.heap.size 0 0 0 0 0 := Five.below (B := w.heap.size + 2) (by constructor <;> simp) (hb.mono (by simp)) (by omega)
  have B4 : Below w.heap.size w w4 := by
    refine Below.trans ?_ (hb.mono (by first | omega | (simp; done) | (simp; omega)))
    repeat (first | exact Below.refl _ _ | refine Below.setCell ?_ (by first | omega | (simp; done) | (simp; omega)) _ | refine Below.alloc ?_ (by first | omega | (simp; done) | (simp; omega)) _)
  clear hb H1 H2 H3
  obtain ⟨c0, c1, c2, c3, c4, f0, f1, f2, f3, f4⟩ := X4
  obtain ⟨d0, d1, d2, d3, d4, g0, g1, g2, g3, g4⟩ := R4
  go_wp2
  refine bodyPost_ret (v := .agg #[.int .i64 op, .int .i64 0, .int .i64 0, .int .i64 0, .int .i64 0]) (by simp [results, Tryd.results105, go_sem, d0, d1, d2, d3, d4]) rfl ⟨rfl, ?_⟩
  repeat (first | with_reducible exact B4 | refine Below.setCell ?_ (by first | omega | (simp; done) | (simp; omega)) _ | refine bdN ?_ _ | refine Below.drew ?_)
end Go.Proofs.YtjpdjalhhokghaaDoor
