/- A new processor, and whether one is right: contracts, of the model and of the program. -/
import Derived.Test.YtkcgckdomjpelaaHrtB
import Derived.Great.BuildSlice
namespace Go.Proofs.Ytkcgckdomjpelaa
open Go.RowKit
set_option linter.unusedVariables false

/-- The registers of a new processor. -/
def sp2 (sp : Int) (i : Nat) : Int := if i = 2 then sp else 0
set_option maxRecDepth 100000 in
set_option maxHeartbeats 1000000 in
theorem specNewC (pc sp : Int) (w : World) :
    Calls Try.prog 5 #[.int .i64 pc, .int .i64 sp] w fun e w' => e = .returned (.agg (hartC (sp2 sp) pc)) ∧ Below w.heap.size w w' := by
  obtain ⟨hz, hi⟩ := zero_of_info Try.zeroH
  have hi' : (Try.prog.info? 24).map (·.size) = some (hartC (fun _ => 0) pc).size := by rw [hartC_size]; exact hi
  have hi2 : (Try.prog.info? 24).map (·.size) = some (hartC (sp2 sp) pc).size := by rw [hartC_size]; exact hi
  have hB : Lies ((w.alloc (.cells (hartC (fun _ => 0) 0) 24)).alloc (.cells (hartC (fun _ => 0) 0) 24)) w.heap.size 24 (hartC (fun _ => 0) 0) := (Lies.new _ _ _).alloc _
  have hC : Lies ((w.alloc (.cells (hartC (fun _ => 0) 0) 24)).alloc (.cells (hartC (fun _ => 0) 0) 24)) (w.heap.size + 1) 24 (hartC (fun _ => 0) 0) := Lies.newAt _ _ _ (by simp)
  have hbel : Hid (Below w.heap.size w ((w.alloc (.cells (hartC (fun _ => 0) 0) 24)).alloc (.cells (hartC (fun _ => 0) 0) 24))) := ((Below.refl _ _).alloc (Nat.le_refl _) _).alloc (by simp) _
  obtain ⟨W1, hW1⟩ : ∃ W1, W1 = ((w.alloc (.cells (hartC (fun _ => 0) 0) 24)).alloc (.cells (hartC (fun _ => 0) 0) 24)).setRow (w.heap.size + 1) (hartC (fun _ => 0) pc) := ⟨_, rfl⟩
  have hB1 := (hB.other (show w.heap.size ≠ w.heap.size + 1 by omega) (hartC (fun _ => 0) pc))
  have hC1 := hC.set (hartC (fun _ => 0) pc)
  have hbel1 := below_setRow hbel.out (show w.heap.size ≤ w.heap.size + 1 by omega) (hartC (fun _ => 0) pc)
  rw [← hW1] at hB1 hC1 hbel1
  have hbel2 : Hid (Below w.heap.size w W1) := hbel1
  have hc1 := hC1.cell (hartC_at (fun _ => 0) pc 2 (by omega))
  have hf1 := hC1.fro 2
  have hC2 := hC1.put 2 (.int .i64 sp)
  rw [hartC_set _ _ _ _ (by omega), show hartC (fun i => if i = 2 then sp else 0) pc = hartC (sp2 sp) pc from rfl] at hC2
  have hB2 := hB1.putOther (a := ⟨w.heap.size + 1, 2, none⟩) (by intro h; simp at h; try omega) (.int .i64 sp)
  have HW1 : Hid (W1 = ((w.alloc (.cells (hartC (fun _ => 0) 0) 24)).alloc (.cells (hartC (fun _ => 0) 0) 24)).setRow (w.heap.size + 1) (hartC (fun _ => 0) pc)) := hW1
  clear hbel1 hbel hW1 hB1 hC1
  have hset := hartC_setPc (fun _ => 0) 0 pc
  go_enter Try.func5, Try.ntmps5
  go_wp2_with (first
    | (refine wpList_store_all rfl 24 (.tmp 5) (.tmp 7) rfl (w.heap.size + 1) (hartC (fun _ => 0) pc) rfl rfl _ _ hC hi' (by simp) (hartC_one _ pc) ?_; rw [← HW1.out]; clear hB hC)
    | (refine wpList_load_part rfl 24 (.tmp 5) rfl (w.heap.size + 1) 0 33 rfl _ _ hC2 _ Try.underlying24 rfl hi (by simp) (hartC (sp2 sp) pc) (by simp) ?_)
    | (refine wpList_store_all rfl 24 (.tmp 4) (.tmp 11) rfl w.heap.size (hartC (sp2 sp) pc) rfl rfl _ _ hB2 hi2 (by simp) (hartC_one _ pc) ?_)
    | fail)
  refine bodyPost_ret (v := .agg (hartC (sp2 sp) pc)) ?_ rfl ⟨rfl, below_setRow (hbel2.out.setCell (by simp <;> omega) _) (by omega) _⟩
  exact results_lies rfl _ _ _ _ _ _ rfl (hB2.set _) Try.underlying24 rfl hi2

set_option maxRecDepth 100000 in
set_option maxHeartbeats 1000000 in
theorem setNo (g : Nat) (v : Int) (w : World) :
    Calls Try.prog 11 #[.pointer (some ⟨g, 0, none⟩), .int .i64 0, .int .i64 v] w fun e w' => e = .returned (.tuple #[]) ∧ w' = w := by
  go_enter Try.func11, Try.ntmps11
  go_wp2
  go_end0
  exact ⟨rfl, rfl⟩
set_option maxRecDepth 100000 in
set_option maxHeartbeats 1000000 in
theorem setYes (g : Nat) (R : Nat → Int) (pc : Int) (r : Nat) (hr : r < 32) (h0 : 0 < r) (v : Int) (w : World) (hg : Lies w g 24 (hartC R pc)) :
    Calls Try.prog 11 #[.pointer (some ⟨g, 0, none⟩), .int .i64 r, .int .i64 v] w fun e w' => e = .returned (.tuple #[]) ∧ w' = w.setCell ⟨g, r, none⟩ (.int .i64 v) := by
  have hc := hg.cell (hartC_at R pc r hr)
  have hf := hg.fro r
  have hne : ¬ (r : Int) = 0 := by omega
  have hlt : (r : Int) < 32 := by omega
  go_enter Try.func11, Try.ntmps11
  go_wp2
  go_end0
  exact ⟨rfl, rfl⟩

set_option maxRecDepth 100000 in
set_option maxHeartbeats 1000000 in
theorem newC (pc sp : Int) (w : World) :
    Calls Try.prog 6 #[.int .i64 pc, .int .i64 sp] w fun e w' => e = .returned (.agg (hartC (sp2 sp) pc)) ∧ Below w.heap.size w w' := by
  obtain ⟨hz, hi⟩ := zero_of_info Try.zeroH
  have hi' : (Try.prog.info? 24).map (·.size) = some (hartC (fun _ => 0) pc).size := by rw [hartC_size]; exact hi
  have hi2 : (Try.prog.info? 24).map (·.size) = some (hartC (sp2 sp) pc).size := by rw [hartC_size]; exact hi
  have hB : Lies ((w.alloc (.cells (hartC (fun _ => 0) 0) 24)).alloc (.cells (hartC (fun _ => 0) 0) 24)) w.heap.size 24 (hartC (fun _ => 0) 0) := (Lies.new _ _ _).alloc _
  have hC : Lies ((w.alloc (.cells (hartC (fun _ => 0) 0) 24)).alloc (.cells (hartC (fun _ => 0) 0) 24)) (w.heap.size + 1) 24 (hartC (fun _ => 0) 0) := Lies.newAt _ _ _ (by simp)
  have hbel : Hid (Below w.heap.size w ((w.alloc (.cells (hartC (fun _ => 0) 0) 24)).alloc (.cells (hartC (fun _ => 0) 0) 24))) := ((Below.refl _ _).alloc (Nat.le_refl _) _).alloc (by simp) _
  obtain ⟨W1, hW1⟩ : ∃ W1, W1 = ((w.alloc (.cells (hartC (fun _ => 0) 0) 24)).alloc (.cells (hartC (fun _ => 0) 0) 24)).setRow (w.heap.size + 1) (hartC (fun _ => 0) pc) := ⟨_, rfl⟩
  have hB1 := (hB.other (show w.heap.size ≠ w.heap.size + 1 by omega) (hartC (fun _ => 0) pc))
  have hC1 := hC.set (hartC (fun _ => 0) pc)
  have hbel1 := below_setRow hbel.out (show w.heap.size ≤ w.heap.size + 1 by omega) (hartC (fun _ => 0) pc)
  rw [← hW1] at hB1 hC1 hbel1
  have hbel2 : Hid (Below w.heap.size w W1) := hbel1
  have hC2 := hC1.put 2 (.int .i64 sp)
  rw [hartC_set _ _ _ _ (by omega), show hartC (fun i => if i = 2 then sp else 0) pc = hartC (sp2 sp) pc from rfl] at hC2
  have hB2 := hB1.putOther (a := ⟨w.heap.size + 1, 2, none⟩) (by intro h; simp at h; try omega) (.int .i64 sp)
  have HW1 : Hid (W1 = ((w.alloc (.cells (hartC (fun _ => 0) 0) 24)).alloc (.cells (hartC (fun _ => 0) 0) 24)).setRow (w.heap.size + 1) (hartC (fun _ => 0) pc)) := hW1
  have hcall := setYes (w.heap.size + 1) (fun _ => 0) pc 2 (by omega) (by omega) sp W1 hC1
  clear hbel1 hbel hW1 hB1 hC1
  have hset := hartC_setPc (fun _ => 0) 0 pc
  go_enter Try.func6, Try.ntmps6
  go_wp2_with (first
    | (refine wpList_store_all rfl 24 (.tmp 5) (.tmp 7) rfl (w.heap.size + 1) (hartC (fun _ => 0) pc) rfl rfl _ _ hC hi' (by simp) (hartC_one _ pc) ?_; rw [← HW1.out]; clear hB hC)
    | (go_at_call 11; refine Calls.mono hcall ?_; rintro e w2 ⟨rfl, rfl⟩; clear hcall)
    | (refine wpList_load_part rfl 24 (.tmp 5) rfl (w.heap.size + 1) 0 33 rfl _ _ hC2 _ Try.underlying24 rfl hi (by simp) (hartC (sp2 sp) pc) (by simp) ?_)
    | (refine wpList_store_all rfl 24 (.tmp 4) (.tmp 10) rfl w.heap.size (hartC (sp2 sp) pc) rfl rfl _ _ hB2 hi2 (by simp) (hartC_one _ pc) ?_)
    | fail)
  refine bodyPost_ret (v := .agg (hartC (sp2 sp) pc)) ?_ rfl ⟨rfl, below_setRow (hbel2.out.setCell (by simp <;> omega) _) (by omega) _⟩
  exact results_lies rfl _ _ _ _ _ _ rfl (hB2.set _) Try.underlying24 rfl hi2

set_option maxRecDepth 100000 in
set_option maxHeartbeats 1000000 in
theorem specOkC (R : Nat → Int) (pc : Int) (w : World) :
    Calls Try.prog 8 #[.agg (hartC R pc)] w fun e w' => e = .returned (.bool (R 0 == 0)) ∧ Below w.heap.size w w' := by
  have hA := (Lies.new w (hartC R pc) 24).cell (hartC_at R pc 0 (by omega))
  go_enter Try.func8, Try.ntmps8
  go_wp2
  go_ret
  exact ⟨rfl, (Below.refl _ _).alloc (Nat.le_refl _) _⟩
set_option maxRecDepth 100000 in
set_option maxHeartbeats 1000000 in
theorem okC (R : Nat → Int) (pc : Int) (w : World) :
    Calls Try.prog 10 #[.agg (hartC R pc)] w fun e w' => e = .returned (.bool (R 0 == 0)) ∧ Below w.heap.size w w' := by
  have hA := (Lies.new w (hartC R pc) 24).cell (hartC_at R pc 0 (by omega))
  go_enter Try.func10, Try.ntmps10
  go_wp2
  go_ret
  exact ⟨rfl, (Below.refl _ _).alloc (Nat.le_refl _) _⟩
end Go.Proofs.Ytkcgckdomjpelaa
