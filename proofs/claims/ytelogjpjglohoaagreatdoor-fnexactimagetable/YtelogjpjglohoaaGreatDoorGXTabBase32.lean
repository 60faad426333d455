/- An instruction taken apart, told fields '21i': the contract. -/
import Derived.Test.YtelogjpjglohoaaGreatDoorGXTabBase29
namespace Go.Proofs.YtelogjpjglohoaaGreatDoor
open Go.RowKit
set_option linter.unusedVariables false

set_option maxRecDepth 100000 in
set_option maxHeartbeats 8000000 in
theorem tapD (op f v : Int) (R : Value) (N : Int) (v0 : 0 ≤ v) (v1 : v < 4294967296) (ht : Hid (ToldIt f { data := #[50, 49, 105] })) (hr : Hid (RuleIt f R)) (hn : Hid (TakeIt R v N)) (w : World) :
    Calls Tryz.prog 132 #[.int .i64 op, .int .i64 f, .int .i64 v] w fun e w' => e = .returned (.agg #[.int .i64 op, .int .i64 0, .int .i64 (v / 32768 % 32), .int .i64 (v / 1048576 % 32), .int .i64 N]) ∧ Below w.heap.size w w' := by
  have hA50 : bits .and .i64 (v / 1048576) 31 = v / 1048576 % 32 := and_5 _
  have hA49 : bits .and .i64 (v / 32768) 31 = v / 32768 % 32 := and_5 _
  go_enter Tryz.func132, Tryz.ntmps132
  go_wp2_with fail
  refine (ht.out _).mono ?_
  rintro e w2 ⟨rfl, rfl⟩
  clear ht
  go_wp2
  go_loopw [16] (fun t wr => ∃ k : Nat, t = .int .i64 k ∧ Below w.heap.size w wr ∧ w.heap.size + 2 ≤ wr.heap.size ∧ Five wr w.heap.size 0 0 0 0 0 ∧ Hid ((k = 0 ∧ Five wr (w.heap.size + 1) op 0 0 0 0) ∨ (k = 1 ∧ Five wr (w.heap.size + 1) op 0 0 (v / 1048576 % 32) 0) ∨ (k = 2 ∧ Five wr (w.heap.size + 1) op 0 (v / 32768 % 32) (v / 1048576 % 32) 0) ∨ (k = 3 ∧ Five wr (w.heap.size + 1) op 0 (v / 32768 % 32) (v / 1048576 % 32) N))) (fun t _ => 3 - (intOf t).toNat)
  case atStart =>
    refine ⟨0, rfl, ?_, by simp, ?_, .inl ⟨rfl, ?_⟩⟩
    · repeat (first | exact Below.refl _ _ | refine Below.setCell ?_ (by first | omega | (simp; done) | (simp; omega)) _ | refine bdN ?_ _ | refine Below.drew ?_ | refine Below.alloc ?_ (by first | omega | (simp; done) | (simp; omega)) _)
    · constructor <;> simp
    · constructor <;> simp
  case round =>
    obtain ⟨k, rfl, hbel, hsz, hR, hX⟩ := hrel
    have hX' := hX.out
    clear hX
    rcases hX' with ⟨rfl, hX⟩ | ⟨rfl, hX⟩ | ⟨rfl, hX⟩ | ⟨rfl, hX⟩
    · obtain ⟨c0, c1, c2, c3, c4, f0, f1, f2, f3, f4⟩ := hX
      have hX : Hid (Five wr (w.heap.size + 1) op 0 0 0 0) := ⟨c0, c1, c2, c3, c4, f0, f1, f2, f3, f4⟩
      clear hr hn 
      go_wp2_with fail
      go_region_held3 (fun _ => True) (trivial) (first | (go_at_call 149; refine (fld50 _ _).mono ?_; rintro e wa ⟨rfl, rfl⟩) | (go_at_call 148; refine (ra50 _).mono ?_; rintro e wa ⟨rfl, rfl⟩) | (go_at_call 144; refine (low5 _).mono ?_; rintro e wa ⟨rfl, rfl⟩))
      all_goals
        go_wp2
        go_roundw
        case rel =>
          exact ⟨1, rfl, by repeat (first | exact hbel | refine Below.setCell ?_ (by first | omega | (simp; done) | (simp; omega)) _ | refine bdN ?_ _ | refine Below.drew ?_), by first | omega | (simp; omega), by repeat (first | exact hR | refine Five.oth3 ?_ (by omega) _ | refine Five.drew ?_), .inr (.inl ⟨rfl, by first | exact hX.out.set3 _ | exact hX.out.drew.set3 _ | (exact (hX.out.set3 _).drew) | (refine Five.drew ?_; exact hX.out.drew.set3 _)⟩)⟩
        case measure => simp [intOf]
    · obtain ⟨c0, c1, c2, c3, c4, f0, f1, f2, f3, f4⟩ := hX
      have hX : Hid (Five wr (w.heap.size + 1) op 0 0 (v / 1048576 % 32) 0) := ⟨c0, c1, c2, c3, c4, f0, f1, f2, f3, f4⟩
      clear hr hn 
      go_wp2_with fail
      go_region_held3 (fun _ => True) (trivial) (first | (go_at_call 149; refine (fld49 _ _).mono ?_; rintro e wa ⟨rfl, rfl⟩) | (go_at_call 148; refine (ra49 _).mono ?_; rintro e wa ⟨rfl, rfl⟩) | (go_at_call 144; refine (low5 _).mono ?_; rintro e wa ⟨rfl, rfl⟩))
      all_goals
        go_wp2
        go_roundw
        case rel =>
          exact ⟨2, rfl, by repeat (first | exact hbel | refine Below.setCell ?_ (by first | omega | (simp; done) | (simp; omega)) _ | refine bdN ?_ _ | refine Below.drew ?_), by first | omega | (simp; omega), by repeat (first | exact hR | refine Five.oth2 ?_ (by omega) _ | refine Five.drew ?_), .inr (.inr (.inl ⟨rfl, by first | exact hX.out.set2 _ | exact hX.out.drew.set2 _ | (exact (hX.out.set2 _).drew) | (refine Five.drew ?_; exact hX.out.drew.set2 _)⟩))⟩
        case measure => simp [intOf]
    · obtain ⟨c0, c1, c2, c3, c4, f0, f1, f2, f3, f4⟩ := hX
      have hX : Hid (Five wr (w.heap.size + 1) op 0 (v / 32768 % 32) (v / 1048576 % 32) 0) := ⟨c0, c1, c2, c3, c4, f0, f1, f2, f3, f4⟩
      go_wp2_with fail
      refine (hr.out _).mono ?_
      rintro e w3 ⟨rfl, hb3⟩
      have X3 := hX.out.below hb3 (by omega)
      have R3 := hR.below hb3 (by omega)
      have B3 := hbel.trans (hb3.mono (by omega))
      have z3 : w.heap.size + 2 ≤ w3.heap.size := Nat.le_trans hsz hb3.size
      clear hb3 hX hR hbel hsz c0 c1 c2 c3 c4 f0 f1 f2 f3 f4 hr
      go_wp2_with fail
      refine (hn.out _).mono ?_
      rintro e w4 ⟨rfl, hb4⟩
      have X4 := X3.below hb4 (by omega)
      have R4 := R3.below hb4 (by omega)
      have B4 := B3.trans (hb4.mono (by omega))
      have z4 : w.heap.size + 2 ≤ w4.heap.size := Nat.le_trans z3 hb4.size
      clear hb4 X3 R3 B3 z3 hn
      obtain ⟨c0, c1, c2, c3, c4, f0, f1, f2, f3, f4⟩ := X4
      have hX : Hid (Five w4 (w.heap.size + 1) op 0 (v / 32768 % 32) (v / 1048576 % 32) 0) := ⟨c0, c1, c2, c3, c4, f0, f1, f2, f3, f4⟩
      go_wp2
      go_roundw
      case rel =>
        exact ⟨3, rfl, by exact B4.setCell (by show w.heap.size ≤ w.heap.size + 1; omega) _, by first | omega | (simp; omega), by exact R4.oth4 (by omega) _, .inr (.inr (.inr (⟨rfl, by exact hX.out.set4 _⟩)))⟩
      case measure => simp [intOf]
    · obtain ⟨c0, c1, c2, c3, c4, f0, f1, f2, f3, f4⟩ := hX
      obtain ⟨d0, d1, d2, d3, d4, g0, g1, g2, g3, g4⟩ := hR
      clear hr hn
      go_wp2
      refine bodyPost_ret (v := .agg #[.int .i64 op, .int .i64 0, .int .i64 (v / 32768 % 32), .int .i64 (v / 1048576 % 32), .int .i64 N]) (by simp [results, Tryz.results132, go_sem, d0, d1, d2, d3, d4]) rfl ⟨rfl, ?_⟩
      repeat (first | exact hbel | refine Below.setCell ?_ (by first | omega | (simp; done) | (simp; omega)) _ | refine bdN ?_ _ | refine Below.drew ?_)
end Go.Proofs.YtelogjpjglohoaaGreatDoor
