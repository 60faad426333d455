/- A register that is laid, of the program: contracts. -/
import Derived.Test.YtjpdjalhhokghaaDoorHrtS
namespace Go.Proofs.YtjpdjalhhokghaaDoor
open Go.RowKit
set_option linter.unusedVariables false

set_option maxRecDepth 100000 in
set_option maxHeartbeats 1000000 in
theorem regBad (R : Nat → Int) (pc r v : Int) (w : World) (h : ¬ R 0 = 0) :
    Calls Tryd.prog 40 #[.agg (hartC R pc), .int .i64 r, .int .i64 v] w fun e w' => e = .returned (.tuple #[.agg (hartC (fun _ => 0) 0), .int .i64 1]) ∧ Below w.heap.size w w' := by
  obtain ⟨hz, hi⟩ := zero_of_info Tryd.zeroH
  have hi2 : (Tryd.prog.info? 57).map (·.size) = some (hartC (fun _ => 0) 0).size := by rw [hartC_size]; exact hi
  have hA : Lies ((w.alloc (.cells (hartC R pc) 57)).alloc (.cells (hartC (fun _ => 0) 0) 57)) w.heap.size 57 (hartC R pc) := (Lies.new _ _ _).alloc _
  have hB : Lies ((w.alloc (.cells (hartC R pc) 57)).alloc (.cells (hartC (fun _ => 0) 0) 57)) (w.heap.size + 1) 57 (hartC (fun _ => 0) 0) := Lies.newAt _ _ _ (by simp)
  have hbel : Hid (Below w.heap.size w ((w.alloc (.cells (hartC R pc) 57)).alloc (.cells (hartC (fun _ => 0) 0) 57))) := ((Below.refl _ _).alloc (Nat.le_refl _) _).alloc (by simp) _
  have hq : (R 0 == 0) = false := by simpa using h
  clear h
  go_enter Tryd.func40, Tryd.ntmps40
  go_wp2_with (first
    | (refine wpList_load_part rfl 57 (.tmp 3) rfl w.heap.size 0 33 rfl _ _ hA _ Tryd.underlying57 rfl hi (by simp) (hartC R pc) (by simp) ?_)
    | fail)
  refine (okC R pc _).mono ?_
  rintro e w1 ⟨rfl, hb1⟩
  rw [hq]
  have hA1 := hA.below hb1 hA.lt
  have hB1 := hB.below hb1 hB.lt
  have hbel1 : Hid (Below w.heap.size w w1) := hbel.out.trans (hb1.mono (by simp <;> omega))
  clear hA hB hbel hb1 hq
  go_wp2_with (first
    | (refine wpList_store_all rfl 57 (.tmp 6) (.tmp 12) rfl (w.heap.size + 1) (hartC (fun _ => 0) 0) rfl rfl _ _ hB1 hi2 (by simp) (hartC_one _ _) ?_)
    | fail)
  refine bodyPost_ret (results_lies2 rfl _ _ _ _ _ _ rfl (hB1.set _) Tryd.underlying57 rfl hi2) rfl ⟨rfl, below_setRow hbel1.out (by omega) _⟩

set_option maxRecDepth 100000 in
set_option maxHeartbeats 1000000 in
theorem regNo (R : Nat → Int) (pc r v : Int) (w : World) (a0 a1 : Addr) (hL : LaidAt w a0 a1) (h : R 0 = 0) (hr : r < 0 ∨ 31 < r) :
    Calls Tryd.prog 40 #[.agg (hartC R pc), .int .i64 r, .int .i64 v] w fun e w' => e = .returned (.tuple #[.agg (hartC (fun _ => 0) 0), .int .i64 4]) ∧ Below w.heap.size w w' := by
  obtain ⟨hz, hi⟩ := zero_of_info Tryd.zeroH
  have hi2 : (Tryd.prog.info? 57).map (·.size) = some (hartC (fun _ => 0) 0).size := by rw [hartC_size]; exact hi
  have hA : Lies ((w.alloc (.cells (hartC R pc) 57)).alloc (.cells (hartC (fun _ => 0) 0) 57)) w.heap.size 57 (hartC R pc) := (Lies.new _ _ _).alloc _
  have hB : Lies ((w.alloc (.cells (hartC R pc) 57)).alloc (.cells (hartC (fun _ => 0) 0) 57)) (w.heap.size + 1) 57 (hartC (fun _ => 0) 0) := Lies.newAt _ _ _ (by simp)
  have hbel : Hid (Below w.heap.size w ((w.alloc (.cells (hartC R pc) 57)).alloc (.cells (hartC (fun _ => 0) 0) 57))) := ((Below.refl _ _).alloc (Nat.le_refl _) _).alloc (by simp) _
  have hq : (R 0 == 0) = true := by simpa using h
  have Hr : Hid (r < 0 ∨ 31 < r) := hr
  have HL : Hid (LaidAt w a0 a1) := hL
  clear hr hL
  clear h
  go_enter Tryd.func40, Tryd.ntmps40
  go_wp2_with (first
    | (refine wpList_load_part rfl 57 (.tmp 3) rfl w.heap.size 0 33 rfl _ _ hA _ Tryd.underlying57 rfl hi (by simp) (hartC R pc) (by simp) ?_)
    | fail)
  refine (okC R pc _).mono ?_
  rintro e w1 ⟨rfl, hb1⟩
  rw [hq]
  have hA1 := hA.below hb1 hA.lt
  have hB1 := hB.below hb1 hB.lt
  have hbel1 : Hid (Below w.heap.size w w1) := hbel.out.trans (hb1.mono (by simp <;> omega))
  have HL1 : Hid (LaidAt w1 a0 a1) := HL.out.below hbel1.out
  clear hA hB hbel hb1 hq
  go_wp2_with fail
  refine (inside_no _ r 0 31 _ a0 a1 HL1.out Hr.out).mono ?_
  rintro e w2 ⟨rfl, rfl⟩
  go_wp2_with fail
  refine (code_range _ _ a0 a1 HL1.out).mono ?_
  rintro e w3 ⟨rfl, hb3⟩
  have hB3 := hB1.below hb3 hB1.lt
  have hbel3 : Hid (Below w.heap.size w w3) := hbel1.out.trans (hb3.mono hbel1.out.size)
  clear hA1 hB1 hbel1 hb3 HL1
  go_wp2_with (first
    | (refine wpList_store_all rfl 57 (.tmp 6) (.tmp 17) rfl (w.heap.size + 1) (hartC (fun _ => 0) 0) rfl rfl _ _ hB3 hi2 (by simp) (hartC_one _ _) ?_)
    | fail)
  refine bodyPost_ret (results_lies2 rfl _ _ _ _ _ _ rfl (hB3.set _) Tryd.underlying57 rfl hi2) rfl ⟨rfl, below_setRow hbel3.out (by omega) _⟩

set_option maxRecDepth 100000 in
set_option maxHeartbeats 1000000 in
theorem regZero (R : Nat → Int) (pc v : Int) (w : World) (h : R 0 = 0) :
    Calls Tryd.prog 40 #[.agg (hartC R pc), .int .i64 0, .int .i64 v] w fun e w' => e = .returned (.tuple #[.agg (hartC R pc), .int .i64 0]) ∧ Below w.heap.size w w' := by
  obtain ⟨hz, hi⟩ := zero_of_info Tryd.zeroH
  have hi2 : (Tryd.prog.info? 57).map (·.size) = some (hartC R pc).size := by rw [hartC_size]; exact hi
  have hA : Lies ((w.alloc (.cells (hartC R pc) 57)).alloc (.cells (hartC (fun _ => 0) 0) 57)) w.heap.size 57 (hartC R pc) := (Lies.new _ _ _).alloc _
  have hB : Lies ((w.alloc (.cells (hartC R pc) 57)).alloc (.cells (hartC (fun _ => 0) 0) 57)) (w.heap.size + 1) 57 (hartC (fun _ => 0) 0) := Lies.newAt _ _ _ (by simp)
  have hbel : Hid (Below w.heap.size w ((w.alloc (.cells (hartC R pc) 57)).alloc (.cells (hartC (fun _ => 0) 0) 57))) := ((Below.refl _ _).alloc (Nat.le_refl _) _).alloc (by simp) _
  have hq : (R 0 == 0) = true := by simpa using h
  clear h
  go_enter Tryd.func40, Tryd.ntmps40
  go_wp2_with (first
    | (refine wpList_load_part rfl 57 (.tmp 3) rfl w.heap.size 0 33 rfl _ _ hA _ Tryd.underlying57 rfl hi (by simp) (hartC R pc) (by simp) ?_)
    | fail)
  refine (okC R pc _).mono ?_
  rintro e w1 ⟨rfl, hb1⟩
  rw [hq]
  have hA1 := hA.below hb1 hA.lt
  have hB1 := hB.below hb1 hB.lt
  have hbel1 : Hid (Below w.heap.size w w1) := hbel.out.trans (hb1.mono (by simp <;> omega))
  clear hA hB hbel hb1 hq
  go_wp2_with fail
  refine (inside_ok _ 0 0 31 _ (by omega) (by omega)).mono ?_
  rintro e w2 ⟨rfl, rfl⟩
  go_wp2_with fail
  refine (setNo w.heap.size v _).mono ?_
  rintro e w3 ⟨rfl, rfl⟩
  go_wp2_with (first
    | (refine wpList_load_part rfl 57 (.tmp 3) rfl w.heap.size 0 33 rfl _ _ hA1 _ Tryd.underlying57 rfl hi (by simp) (hartC R pc) (by simp) ?_)
    | (refine wpList_store_all rfl 57 (.tmp 6) (.tmp 23) rfl (w.heap.size + 1) (hartC R pc) rfl rfl _ _ hB1 hi2 (by simp) (hartC_one _ _) ?_)
    | fail)
  refine bodyPost_ret (results_lies2 rfl _ _ _ _ _ _ rfl (hB1.set _) Tryd.underlying57 rfl hi2) rfl ⟨rfl, below_setRow hbel1.out (by omega) _⟩

set_option maxRecDepth 100000 in
set_option maxHeartbeats 1000000 in
theorem regPos (R : Nat → Int) (pc v : Int) (k : Nat) (hk : k < 32) (h0 : 0 < k) (w : World) (h : R 0 = 0) :
    Calls Tryd.prog 40 #[.agg (hartC R pc), .int .i64 k, .int .i64 v] w fun e w' => e = .returned (.tuple #[.agg (hartC (putR R k v) pc), .int .i64 0]) ∧ Below w.heap.size w w' := by
  obtain ⟨hz, hi⟩ := zero_of_info Tryd.zeroH
  have hi2 : (Tryd.prog.info? 57).map (·.size) = some (hartC (putR R k v) pc).size := by rw [hartC_size]; exact hi
  have hA : Lies ((w.alloc (.cells (hartC R pc) 57)).alloc (.cells (hartC (fun _ => 0) 0) 57)) w.heap.size 57 (hartC R pc) := (Lies.new _ _ _).alloc _
  have hB : Lies ((w.alloc (.cells (hartC R pc) 57)).alloc (.cells (hartC (fun _ => 0) 0) 57)) (w.heap.size + 1) 57 (hartC (fun _ => 0) 0) := Lies.newAt _ _ _ (by simp)
  have hbel : Hid (Below w.heap.size w ((w.alloc (.cells (hartC R pc) 57)).alloc (.cells (hartC (fun _ => 0) 0) 57))) := ((Below.refl _ _).alloc (Nat.le_refl _) _).alloc (by simp) _
  have hq : (R 0 == 0) = true := by simpa using h
  clear h
  go_enter Tryd.func40, Tryd.ntmps40
  go_wp2_with (first
    | (refine wpList_load_part rfl 57 (.tmp 3) rfl w.heap.size 0 33 rfl _ _ hA _ Tryd.underlying57 rfl hi (by simp) (hartC R pc) (by simp) ?_)
    | fail)
  refine (okC R pc _).mono ?_
  rintro e w1 ⟨rfl, hb1⟩
  rw [hq]
  have hA1 := hA.below hb1 hA.lt
  have hB1 := hB.below hb1 hB.lt
  have hbel1 : Hid (Below w.heap.size w w1) := hbel.out.trans (hb1.mono (by simp <;> omega))
  clear hA hB hbel hb1 hq
  go_wp2_with fail
  refine (inside_ok _ k 0 31 _ (by omega) (by omega)).mono ?_
  rintro e w2 ⟨rfl, rfl⟩
  go_wp2_with fail
  refine (setYes w.heap.size R pc k hk h0 v _ hA1).mono ?_
  rintro e w3 ⟨rfl, rfl⟩
  have hA3 := hA1.put k (.int .i64 v)
  rw [putR_set R pc v k hk h0] at hA3
  have hB3 := hB1.putOther (a := ⟨w.heap.size, k, none⟩) (by intro h; simp at h; try omega) (.int .i64 v)
  have hbel3 : Hid (Below w.heap.size w (w2.setCell ⟨w.heap.size, k, none⟩ (.int .i64 v))) := hbel1.out.setCell (by simp) _
  clear hA1 hB1 hbel1
  go_wp2_with (first
    | (refine wpList_load_part rfl 57 (.tmp 3) rfl w.heap.size 0 33 rfl _ _ hA3 _ Tryd.underlying57 rfl hi (by simp) (hartC (putR R k v) pc) (by simp) ?_)
    | (refine wpList_store_all rfl 57 (.tmp 6) (.tmp 23) rfl (w.heap.size + 1) (hartC (putR R k v) pc) rfl rfl _ _ hB3 hi2 (by simp) (hartC_one _ _) ?_)
    | fail)
  refine bodyPost_ret (results_lies2 rfl _ _ _ _ _ _ rfl (hB3.set _) Tryd.underlying57 rfl hi2) rfl ⟨rfl, below_setRow hbel3.out (by omega) _⟩
end Go.Proofs.YtjpdjalhhokghaaDoor
