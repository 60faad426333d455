/- A processor, by value, taken over and compared: contracts. -/
import Derived.Test.YtjpdjalhhokghaaDoorHrtA
namespace Go.Proofs.YtjpdjalhhokghaaDoor
open Go.RowKit
set_option linter.unusedVariables false

theorem hartC_zero : hartC (fun _ => 0) 0 = #[.int .i64 0, .int .i64 0, .int .i64 0, .int .i64 0, .int .i64 0, .int .i64 0, .int .i64 0, .int .i64 0, .int .i64 0, .int .i64 0, .int .i64 0, .int .i64 0, .int .i64 0, .int .i64 0, .int .i64 0, .int .i64 0, .int .i64 0, .int .i64 0, .int .i64 0, .int .i64 0, .int .i64 0, .int .i64 0, .int .i64 0, .int .i64 0, .int .i64 0, .int .i64 0, .int .i64 0, .int .i64 0, .int .i64 0, .int .i64 0, .int .i64 0, .int .i64 0, .int .i64 0] := by
  simp [hartC_def, Array.ofFn_succ]
theorem Tryd.zeroH : (Tryd.prog.info? 57).map (fun i => (i.zero, i.size)) = some (some (.agg (hartC (fun _ => 0) 0)), 33) := by rw [hartC_zero]; kernel_rfl
theorem hartC_over (R S : Nat → Int) (pc : Int) : ((hartC S pc).toList.take 0 ++ (regs R).toList ++ (hartC S pc).toList.drop (0 + (regs R).size)).toArray = hartC R pc := by
  simp [hartC_def, regs_def, Array.ofFn_succ]
theorem hartC_part (R : Nat → Int) (pc : Int) : (hartC R pc).extract 0 (0 + 32) = regs R := hartC_regs R pc

set_option maxRecDepth 100000 in
set_option maxHeartbeats 2000000 in
theorem toHartC (R : Nat → Int) (pc : Int) (w : World) :
    Calls Tryd.prog 39 #[.agg (hartC R pc)] w fun e w' => e = .returned (.agg (hartC R pc)) ∧ Below w.heap.size w w' := by
  obtain ⟨hz, hi⟩ := zero_of_info Tryd.zeroH
  obtain ⟨hzr, hir⟩ := zero_of_info Tryd.zero32
  have hi' : (Tryd.prog.info? 57).map (·.size) = some (hartC R pc).size := by rw [hartC_size]; exact hi
  have hir' : (Tryd.prog.info? 54).map (·.size) = some (regs R).size := by rw [regs_size]; exact hir
  have hA : Lies (((w.alloc (.cells (hartC R pc) 56)).alloc (.cells (hartC (fun _ => 0) 0) 57)).alloc (.cells (hartC (fun _ => 0) 0) 57)) w.heap.size 56 (hartC R pc) := ((Lies.new _ _ _).alloc _).alloc _
  have hB : Lies (((w.alloc (.cells (hartC R pc) 56)).alloc (.cells (hartC (fun _ => 0) 0) 57)).alloc (.cells (hartC (fun _ => 0) 0) 57)) (w.heap.size + 1) 57 (hartC (fun _ => 0) 0) := (Lies.newAt _ _ _ (by simp)).alloc _
  have hC : Lies (((w.alloc (.cells (hartC R pc) 56)).alloc (.cells (hartC (fun _ => 0) 0) 57)).alloc (.cells (hartC (fun _ => 0) 0) 57)) (w.heap.size + 1 + 1) 57 (hartC (fun _ => 0) 0) := Lies.newAt _ _ _ (by simp)
  have hbel : Hid (Below w.heap.size w (((w.alloc (.cells (hartC R pc) 56)).alloc (.cells (hartC (fun _ => 0) 0) 57)).alloc (.cells (hartC (fun _ => 0) 0) 57))) := (((Below.refl _ _).alloc (Nat.le_refl _) _).alloc (by simp) _).alloc (by simp <;> omega) _
  go_enter Tryd.func39, Tryd.ntmps39
  go_wp2_with (first
    | (refine wpList_load_part rfl 54 (.tmp 4) rfl w.heap.size 0 32 rfl _ _ hA _ Tryd.underlying54 rfl hir (by simp) (regs R) (hartC_part R pc) ?_)
    | fail)
  refine (rowC R _).mono ?_
  rintro e w4 ⟨rfl, hb4⟩
  have hz4 := hb4.size
  simp only [World.size_alloc] at hz4
  have hA4 := hA.below hb4 (by simp <;> omega)
  have hB4 := hB.below hb4 (by simp <;> omega)
  have hC4 := hC.below hb4 (by simp)
  have hbel4 : Hid (Below w.heap.size w w4) := hbel.out.trans (hb4.mono (by simp <;> omega))
  clear hA hB hC hbel hb4
  have hA5 : (w4.setRow (w.heap.size + 1 + 1) (hartC R 0)).cell? ⟨w.heap.size, 32, none⟩ = some (.int .i64 pc) := (hA4.other (by omega) _).cell (hartC_pc R pc)
  have hC5 := (hC4.set (hartC R 0))
  have hc5 := hC5.cell (hartC_pc R 0)
  have hf5 := hC5.fro 32
  have hC6 := hC5.put 32 (.int .i64 pc)
  rw [hartC_setPc] at hC6
  have hB6 : Lies ((w4.setRow (w.heap.size + 1 + 1) (hartC R 0)).setCell ⟨w.heap.size + 1 + 1, 32, none⟩ (.int .i64 pc)) (w.heap.size + 1) 57 (hartC (fun _ => 0) 0) := (hB4.other (by omega) _).putOther (by intro h; simp at h; try omega) _
  clear hz hzr
  go_wp2_with (first
    | (refine wpList_store_part rfl 54 (.tmp 7) (.tmp 6) rfl (w.heap.size + 1 + 1) 0 (regs R) rfl rfl _ _ hC4 hir' (by simp) (regs_one R) (hartC R 0) (hartC_over R _ 0) ?_)
    | (refine wpList_load_part rfl 57 (.tmp 3) rfl (w.heap.size + 1 + 1) 0 33 rfl _ _ hC6 _ Tryd.underlying57 rfl hi (by simp) (hartC R pc) (by simp) ?_)
    | (refine wpList_store_all rfl 57 (.tmp 2) (.tmp 11) rfl (w.heap.size + 1) (hartC R pc) rfl rfl _ _ hB6 hi' (by simp) (hartC_one R pc) ?_)
    | fail)
  refine bodyPost_ret (v := .agg (hartC R pc)) ?_ rfl ⟨rfl, below_setRow ((below_setRow hbel4.out (by omega) _).setCell (by simp <;> omega) _) (by omega) _⟩
  exact results_lies rfl _ _ _ _ _ _ rfl (hB6.set _) Tryd.underlying57 rfl hi'

set_option maxRecDepth 100000 in
set_option maxHeartbeats 2000000 in
theorem hartEq (R : Nat → Int) (pc : Int) (w : World) :
    Calls Tryd.prog 41 #[.agg (hartC R pc), .agg (hartC R pc)] w fun e w' => e = .returned (.bool true) ∧ Below w.heap.size w w' := by
  obtain ⟨hzr, hir⟩ := zero_of_info Tryd.zero32
  have hA : Lies ((w.alloc (.cells (hartC R pc) 57)).alloc (.cells (hartC R pc) 57)) w.heap.size 57 (hartC R pc) := (Lies.new _ _ _).alloc _
  have hB : Lies ((w.alloc (.cells (hartC R pc) 57)).alloc (.cells (hartC R pc) 57)) (w.heap.size + 1) 57 (hartC R pc) := Lies.newAt _ _ _ (by simp)
  have hbel : Hid (Below w.heap.size w ((w.alloc (.cells (hartC R pc) 57)).alloc (.cells (hartC R pc) 57))) := ((Below.refl _ _).alloc (Nat.le_refl _) _).alloc (by simp) _
  clear hzr
  go_enter Tryd.func41, Tryd.ntmps41
  go_wp2_with (first
    | (refine wpList_load_part rfl 54 (.tmp 5) rfl w.heap.size 0 32 rfl _ _ hA _ Tryd.underlying54 rfl hir (by simp) (regs R) (hartC_part R pc) ?_)
    | (refine wpList_load_part rfl 54 (.tmp 7) rfl (w.heap.size + 1) 0 32 rfl _ _ hB _ Tryd.underlying54 rfl hir (by simp) (regs R) (hartC_part R pc) ?_)
    | fail)
  refine (rowEq R _).mono ?_
  rintro e w4 ⟨rfl, hb4⟩
  have hz4 := hb4.size
  simp only [World.size_alloc] at hz4
  have hA4 := (hA.below hb4 (by simp <;> omega)).cell (hartC_pc R pc)
  have hB4 := (hB.below hb4 (by simp <;> omega)).cell (hartC_pc R pc)
  have hbel4 : Hid (Below w.heap.size w w4) := hbel.out.trans (hb4.mono (by simp <;> omega))
  clear hA hB hbel hb4
  go_wp2
  go_ret
  exact ⟨rfl, hbel4.out⟩
end Go.Proofs.YtjpdjalhhokghaaDoor
