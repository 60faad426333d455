/- A row of 32 numbers, by value, taken over and compared: contracts. -/
import Derived.Test.YtjpdjalhhokghaaDoorHrtP
import Derived.Test.YtjpdjalhhokghaaDoorBlkP
import Derived.Deep.LoopGhost
namespace Go.Proofs.YtjpdjalhhokghaaDoor
open Go.RowKit
set_option linter.unusedVariables false

theorem Tryd.zero32 : (Tryd.prog.info? 54).map (fun i => (i.zero, i.size)) = some (some (.agg (regs fun _ => 0)), 32) := by rw [regs_zero]; kernel_rfl

def upto (i : Nat) (R : Nat → Int) (j : Nat) : Int := if j < i then R j else 0
theorem upto_zero (R : Nat → Int) : upto 0 R = fun _ => 0 := by funext j; simp [upto]
theorem upto_all (R : Nat → Int) : regs (upto 32 R) = regs R := regs_congr fun i h => by simp [upto, h]
theorem upto_succ (R : Nat → Int) (i : Nat) (h : i < 32) : (regs (upto i R)).setIfInBounds i (.int .i64 (R i)) = regs (upto (i + 1) R) := by
  rw [regs_set _ _ _ h]
  refine regs_congr fun j _ => ?_
  unfold upto
  by_cases e : j = i
  · subst e; simp
  · by_cases f : j < i
    · simp [e, f, show j < i + 1 by omega]
    · simp [e, f, show ¬ j < i + 1 by omega]

set_option maxRecDepth 100000 in
set_option maxHeartbeats 2000000 in
theorem rowC (R : Nat → Int) (w : World) :
    Calls Tryd.prog 87 #[.agg (regs R)] w fun e w' => e = .returned (.agg (regs R)) ∧ Below w.heap.size w w' := by
  obtain ⟨hz, hi⟩ := zero_of_info Tryd.zero32
  have hi' : (Tryd.prog.info? 54).map (·.size) = some (regs R).size := by rw [regs_size]; exact hi
  go_enter Tryd.func87, Tryd.ntmps87
  go_wp2
  rw [← upto_zero R]
  have hA : Lies (((w.alloc (.cells (regs R) 54)).alloc (.cells (regs (upto 0 R)) 54)).alloc (.cells (regs (upto 0 R)) 54)) w.heap.size 54 (regs R) := ((Lies.new _ _ _).alloc _).alloc _
  have hC : Lies (((w.alloc (.cells (regs R) 54)).alloc (.cells (regs (upto 0 R)) 54)).alloc (.cells (regs (upto 0 R)) 54)) (w.heap.size + 1 + 1) 54 (regs (upto 0 R)) := Lies.newAt _ _ _ (by simp)
  have hB : Lies (((w.alloc (.cells (regs R) 54)).alloc (.cells (regs (upto 0 R)) 54)).alloc (.cells (regs (upto 0 R)) 54)) (w.heap.size + 1) 54 (regs (upto 0 R)) := (Lies.newAt _ _ _ (by simp)).alloc _
  have hbel : Below w.heap.size w (((w.alloc (.cells (regs R) 54)).alloc (.cells (regs (upto 0 R)) 54)).alloc (.cells (regs (upto 0 R)) 54)) := (((Below.refl _ _).alloc (Nat.le_refl _) _).alloc (by simp) _).alloc (by simp; omega) _
  generalize (((w.alloc (.cells (regs R) 54)).alloc (.cells (regs (upto 0 R)) 54)).alloc (.cells (regs (upto 0 R)) 54)) = W at hA hC hB hbel ⊢
  go_loopg [4] 32 (fun g s4 wx => ∃ i : Nat, i + g = 32 ∧ s4 = .int .i64 i ∧ Lies wx w.heap.size 54 (regs R) ∧ Lies wx (w.heap.size + 1) 54 (regs (upto 0 R)) ∧ Lies wx (w.heap.size + 1 + 1) 54 (regs (upto i R)) ∧ Hid (Below w.heap.size w wx))
  case atStart => exact ⟨0, by omega, rfl, hA, hB, hC, hbel⟩
  case round =>
    clear hA hB hC hbel
    obtain ⟨i, hig, rfl, hA, hB, hC, hbel⟩ := hrel
    cases gk with
    | zero =>
      obtain rfl : i = 32 := by omega
      rw [upto_all] at hC
      go_wp2_with (first
        | (refine wpList_load_part rfl 54 (.tmp 3) rfl (w.heap.size + 1 + 1) 0 32 rfl _ _ hC _ Tryd.underlying54 rfl hi (by simp) (regs R) (by simp [regs_def]) ?_)
        | (refine wpList_store_all rfl 54 (.tmp 2) (.tmp 14) rfl (w.heap.size + 1) (regs R) rfl rfl _ _ hB hi' (by simp) (regs_one R) ?_))
      refine bodyPost_ret (v := .agg (regs R)) ?_ rfl ⟨rfl, below_setRow hbel.out (by omega) _⟩
      exact results_lies rfl _ _ _ _ _ _ rfl (hB.set _) Tryd.underlying54 rfl hi'
    | succ g =>
      have hi32 : i < 32 := by omega
      have hiz : (i : Int) < 32 := by omega
      have hc0 := hA.cell (regs_at R i hi32)
      have hc2 := hC.cell (regs_at (upto i R) i hi32)
      have hf2 := hC.fro i
      have HA : Aside (Lies wr w.heap.size 54 (regs R)) := hA
      have HB : Aside (Lies wr (w.heap.size + 1) 54 (regs (upto 0 R))) := hB
      have HC : Aside (Lies wr (w.heap.size + 1 + 1) 54 (regs (upto i R))) := hC
      clear hA hB hC hi hi' hz
      go_wp2
      go_roundg g
      case measure => omega
      case rel => exact ⟨i + 1, by omega, by first | rfl | simp, HA.out.putOther (by intro h; simp at h; try omega) _, HB.out.putOther (by intro h; simp at h; try omega) _, by have := HC.out.put i (.int .i64 (R i)); rwa [upto_succ R i hi32] at this, hbel.out.setCell (by simp; omega) _⟩

set_option maxRecDepth 100000 in
set_option maxHeartbeats 2000000 in
theorem rowEq (R : Nat → Int) (w : World) :
    Calls Tryd.prog 90 #[.agg (regs R), .agg (regs R)] w fun e w' => e = .returned (.bool true) ∧ Below w.heap.size w w' := by
  go_enter Tryd.func90, Tryd.ntmps90
  go_wp2
  have hA : Lies ((w.alloc (.cells (regs R) 54)).alloc (.cells (regs R) 54)) w.heap.size 54 (regs R) := (Lies.new _ _ _).alloc _
  have hB : Lies ((w.alloc (.cells (regs R) 54)).alloc (.cells (regs R) 54)) (w.heap.size + 1) 54 (regs R) := Lies.newAt _ _ _ (by simp)
  have hbel : Below w.heap.size w ((w.alloc (.cells (regs R) 54)).alloc (.cells (regs R) 54)) := ((Below.refl _ _).alloc (Nat.le_refl _) _).alloc (by simp) _
  generalize ((w.alloc (.cells (regs R) 54)).alloc (.cells (regs R) 54)) = W at hA hB hbel ⊢
  go_loopg [5] 32 (fun g s4 wx => ∃ i : Nat, i + g = 32 ∧ s4 = .int .i64 i ∧ Lies wx w.heap.size 54 (regs R) ∧ Lies wx (w.heap.size + 1) 54 (regs R) ∧ Hid (Below w.heap.size w wx))
  case atStart => exact ⟨0, by omega, rfl, hA, hB, hbel⟩
  case round =>
    clear hA hB hbel
    obtain ⟨i, hig, rfl, hA, hB, hbel⟩ := hrel
    cases gk with
    | zero =>
      obtain rfl : i = 32 := by omega
      go_wp2
      go_ret
      exact ⟨rfl, hbel.out⟩
    | succ g =>
      have hi32 : i < 32 := by omega
      have hiz : (i : Int) < 32 := by omega
      have hc0 := hA.cell (regs_at R i hi32)
      have hc2 := hB.cell (regs_at R i hi32)
      have HA : Aside (Lies wr w.heap.size 54 (regs R)) := hA
      have HB : Aside (Lies wr (w.heap.size + 1) 54 (regs R)) := hB
      clear hA hB
      go_wp2
      go_region
      go_wp2
      go_roundg g
      case measure => omega
      case rel => exact ⟨i + 1, by omega, by first | rfl | simp, HA.out.drew, HB.out.drew, hbel.out.drew⟩
end Go.Proofs.YtjpdjalhhokghaaDoor
