/- An instruction taken apart, told fields 'd12': the contract. An instruction taken apart, told fields '': the contract. -/
import Derived.Test.YtelogjpjglohoaaGreatDoorGXTabBase29
namespace Go.Proofs.YtelogjpjglohoaaGreatDoor
open Go.RowKit
set_option linter.unusedVariables false

set_option maxRecDepth 100000 in
set_option maxHeartbeats 8000000 in
theorem tapE (op f v : Int) (v0 : 0 ≤ v) (v1 : v < 4294967296) (ht : Hid (ToldIt f { data := #[100, 49, 50] })) (w : World) :
    Calls Tryz.prog 132 #[.int .i64 op, .int .i64 f, .int .i64 v] w fun e w' => e = .returned (.agg #[.int .i64 op, .int .i64 (v / 128 % 32), .int .i64 (v / 32768 % 32), .int .i64 (v / 1048576 % 32), .int .i64 0]) ∧ Below w.heap.size w w' := by
  have hA100 : bits .and .i64 (v / 128) 31 = v / 128 % 32 := and_5 _
  have hA49 : bits .and .i64 (v / 32768) 31 = v / 32768 % 32 := and_5 _
  have hA50 : bits .and .i64 (v / 1048576) 31 = v / 1048576 % 32 := and_5 _
  go_enter Tryz.func132, Tryz.ntmps132
  go_wp2_with fail
  refine (ht.out _).mono ?_
  rintro e w2 ⟨rfl, rfl⟩
  clear ht
  go_wp2
  go_loopw [16] (fun t wr => ∃ k : Nat, t = .int .i64 k ∧ Below w.heap.size w wr ∧ w.heap.size + 2 ≤ wr.heap.size ∧ Five wr w.heap.size 0 0 0 0 0 ∧ Hid ((k = 0 ∧ Five wr (w.heap.size + 1) op 0 0 0 0) ∨ (k = 1 ∧ Five wr (w.heap.size + 1) op (v / 128 % 32) 0 0 0) ∨ (k = 2 ∧ Five wr (w.heap.size + 1) op (v / 128 % 32) (v / 32768 % 32) 0 0) ∨ (k = 3 ∧ Five wr (w.heap.size + 1) op (v / 128 % 32) (v / 32768 % 32) (v / 1048576 % 32) 0))) (fun t _ => 3 - (intOf t).toNat)
  case atStart =>
    refine ⟨0, rfl, ?_, by simp, ?_, .inl ⟨rfl, ?_⟩⟩
    · repeat (first | exact Below.refl _ _ | refine Below.setCell ?_ (by first | omega | (simp; done) | (simp; omega)) _ | refine bdN ?_ _ | refine Below.drew ?_ | refine Below.alloc ?_ (by first | omega | (simp; done) | (simp; omega)) _)
    · constructor <;> simp
    · constructor <;> simp
  case round =>
    obtain ⟨k, rfl, hbel, hsz, hR, hX⟩ := hrel
    have hX' := hX.out
    clear hX
    rcases hX' with ⟨rfl, hX⟩ | ⟨rfl, hX⟩ | ⟨rfl, hX⟩ | ⟨rfl, hX⟩
    · obtain ⟨c0, c1, c2, c3, c4, f0, f1, f2, f3, f4⟩ := hX
      have hX : Hid (Five wr (w.heap.size + 1) op 0 0 0 0) := ⟨c0, c1, c2, c3, c4, f0, f1, f2, f3, f4⟩
      skip
      go_wp2_with fail
      go_region_held3 (fun _ => True) (trivial) (first | (go_at_call 149; refine (fld100 _ _).mono ?_; rintro e wa ⟨rfl, rfl⟩) | (go_at_call 148; refine (ra100 _).mono ?_; rintro e wa ⟨rfl, rfl⟩) | (go_at_call 144; refine (low5 _).mono ?_; rintro e wa ⟨rfl, rfl⟩))
      all_goals
        go_wp2
        go_roundw
        case rel =>
          exact ⟨1, rfl, by repeat (first | exact hbel | refine Below.setCell ?_ (by first | omega | (simp; done) | (simp; omega)) _ | refine bdN ?_ _ | refine Below.drew ?_), by first | omega | (simp; omega), by repeat (first | exact hR | refine Five.oth1 ?_ (by omega) _ | refine Five.drew ?_), .inr (.inl ⟨rfl, by first | exact hX.out.set1 _ | exact hX.out.drew.set1 _ | (exact (hX.out.set1 _).drew) | (refine Five.drew ?_; exact hX.out.drew.set1 _)⟩)⟩
        case measure => simp [intOf]
    · obtain ⟨c0, c1, c2, c3, c4, f0, f1, f2, f3, f4⟩ := hX
      have hX : Hid (Five wr (w.heap.size + 1) op (v / 128 % 32) 0 0 0) := ⟨c0, c1, c2, c3, c4, f0, f1, f2, f3, f4⟩
      skip
      go_wp2_with fail
      go_region_held3 (fun _ => True) (trivial) (first | (go_at_call 149; refine (fld49 _ _).mono ?_; rintro e wa ⟨rfl, rfl⟩) | (go_at_call 148; refine (ra49 _).mono ?_; rintro e wa ⟨rfl, rfl⟩) | (go_at_call 144; refine (low5 _).mono ?_; rintro e wa ⟨rfl, rfl⟩))
      all_goals
        go_wp2
        go_roundw
        case rel =>
          exact ⟨2, rfl, by repeat (first | exact hbel | refine Below.setCell ?_ (by first | omega | (simp; done) | (simp; omega)) _ | refine bdN ?_ _ | refine Below.drew ?_), by first | omega | (simp; omega), by repeat (first | exact hR | refine Five.oth2 ?_ (by omega) _ | refine Five.drew ?_), .inr (.inr (.inl ⟨rfl, by first | exact hX.out.set2 _ | exact hX.out.drew.set2 _ | (exact (hX.out.set2 _).drew) | (refine Five.drew ?_; exact hX.out.drew.set2 _)⟩))⟩
        case measure => simp [intOf]
    · obtain ⟨c0, c1, c2, c3, c4, f0, f1, f2, f3, f4⟩ := hX
      have hX : Hid (Five wr (w.heap.size + 1) op (v / 128 % 32) (v / 32768 % 32) 0 0) := ⟨c0, c1, c2, c3, c4, f0, f1, f2, f3, f4⟩
      skip
      go_wp2_with fail
      go_region_held3 (fun _ => True) (trivial) (first | (go_at_call 149; refine (fld50 _ _).mono ?_; rintro e wa ⟨rfl, rfl⟩) | (go_at_call 148; refine (ra50 _).mono ?_; rintro e wa ⟨rfl, rfl⟩) | (go_at_call 144; refine (low5 _).mono ?_; rintro e wa ⟨rfl, rfl⟩))
      all_goals
        go_wp2
        go_roundw
        case rel =>
          exact ⟨3, rfl, by repeat (first | exact hbel | refine Below.setCell ?_ (by first | omega | (simp; done) | (simp; omega)) _ | refine bdN ?_ _ | refine Below.drew ?_), by first | omega | (simp; omega), by repeat (first | exact hR | refine Five.oth3 ?_ (by omega) _ | refine Five.drew ?_), .inr (.inr (.inr (⟨rfl, by first | exact hX.out.set3 _ | exact hX.out.drew.set3 _ | (exact (hX.out.set3 _).drew) | (refine Five.drew ?_; exact hX.out.drew.set3 _)⟩)))⟩
        case measure => simp [intOf]
    · obtain ⟨c0, c1, c2, c3, c4, f0, f1, f2, f3, f4⟩ := hX
      obtain ⟨d0, d1, d2, d3, d4, g0, g1, g2, g3, g4⟩ := hR
      skip
      go_wp2
      refine bodyPost_ret (v := .agg #[.int .i64 op, .int .i64 (v / 128 % 32), .int .i64 (v / 32768 % 32), .int .i64 (v / 1048576 % 32), .int .i64 0]) (by simp [results, Tryz.results132, go_sem, d0, d1, d2, d3, d4]) rfl ⟨rfl, ?_⟩
      repeat (first | exact hbel | refine Below.setCell ?_ (by first | omega | (simp; done) | (simp; omega)) _ | refine bdN ?_ _ | refine Below.drew ?_)
end Go.Proofs.YtelogjpjglohoaaGreatDoor

namespace Go.Proofs.YtelogjpjglohoaaGreatDoor
open Go.RowKit
set_option linter.unusedVariables false

set_option maxRecDepth 100000 in
set_option maxHeartbeats 8000000 in
theorem tapF (op f v : Int) (v0 : 0 ≤ v) (v1 : v < 4294967296) (ht : Hid (ToldIt f { data := #[] })) (w : World) :
    Calls Tryz.prog 132 #[.int .i64 op, .int .i64 f, .int .i64 v] w fun e w' => e = .returned (.agg #[.int .i64 op, .int .i64 0, .int .i64 0, .int .i64 0, .int .i64 0]) ∧ Below w.heap.size w w' := by
  go_enter Tryz.func132, Tryz.ntmps132
  go_wp2_with fail
  refine (ht.out _).mono ?_
  rintro e w2 ⟨rfl, rfl⟩
  clear ht
  go_wp2
  refine wp_loop_rounds 1 ?_
  rw [rounds_succ]
  go_wp2
  refine bodyPost_ret (v := .agg #[.int .i64 op, .int .i64 0, .int .i64 0, .int .i64 0, .int .i64 0]) (by simp [results, Tryz.results132, go_sem]) rfl ⟨rfl, ?_⟩
  repeat (first | exact Below.refl _ _ | refine Below.setCell ?_ (by first | omega | (simp; done) | (simp; omega)) _ | refine bdN ?_ _ | refine Below.drew ?_ | refine Below.alloc ?_ (by first | omega | (simp; done) | (simp; omega)) _)
end Go.Proofs.YtelogjpjglohoaaGreatDoor
