/- The shapes of the operations: contracts. -/
import Derived.Test.YtepanogpojolfaaDoorGXDecode1
import Derived.Test.YtepanogpojolfaaDoorGXDecode2
import Derived.Test.YtepanogpojolfaaDoorGXDecode3
import Derived.Test.YtepanogpojolfaaDoorGXDecode4
import Derived.Test.YtepanogpojolfaaDoorGXDecode5
import Derived.Test.YtepanogpojolfaaDoorGXDecode7
namespace Go.Proofs.YtepanogpojolfaaDoor
open Go.RowKit
set_option linter.unusedVariables false

theorem bcell {W w1 : World} (hb : Below W.heap.size W w1) : (∀ b o, b < W.heap.size → w1.cell? ⟨b, o, none⟩ = W.cell? ⟨b, o, none⟩) ∧ (∀ b o, b < W.heap.size → w1.frozen? ⟨b, o, none⟩ = W.frozen? ⟨b, o, none⟩) :=
  ⟨fun b o h => hb.cell (p := ⟨b, o, none⟩) h, fun b o h => hb.frozen (p := ⟨b, o, none⟩) h⟩

set_option maxRecDepth 100000 in
set_option maxHeartbeats 4000000 in
theorem shapeC (op : Int) (w : World) :
    Calls Tryd.prog 35 #[.int .i64 op] w fun e w' => e = .returned (shV (shT op)) ∧ Below w.heap.size w w' := by
  by_cases h1 : op ≤ 10
  · go_enter Tryd.func35, Tryd.ntmps35
    go_wp2_with fail
    refine (flowC _ _ (.inl h1)).mono ?_
    rintro e w1 ⟨rfl, hb⟩
    obtain ⟨hc, hf⟩ := bcell hb
    have hz : w.heap.size < w1.heap.size := by have := hb.size; simp at this; omega
    unfold shV at *
    go_wp2
    refine bodyPost_ret (v := shV (shT op)) (by simp [results, Tryd.results35, go_sem, hc]; rfl) rfl ⟨rfl, ?_⟩
    exact ((((((Below.refl _ _).alloc (Nat.le_refl _) _).trans (hb.mono (by simp))).setCell (Nat.le_refl _) _).setCell (Nat.le_refl _) _).setCell (Nat.le_refl _) _).setCell (Nat.le_refl _) _
  by_cases h2 : 63 ≤ op
  · go_enter Tryd.func35, Tryd.ntmps35
    go_wp2_with fail
    refine (flowC _ _ (.inr h2)).mono ?_
    rintro e w1 ⟨rfl, hb⟩
    obtain ⟨hc, hf⟩ := bcell hb
    have hz : w.heap.size < w1.heap.size := by have := hb.size; simp at this; omega
    unfold shV at *
    go_wp2
    refine bodyPost_ret (v := shV (shT op)) (by simp [results, Tryd.results35, go_sem, hc]; rfl) rfl ⟨rfl, ?_⟩
    exact ((((((Below.refl _ _).alloc (Nat.le_refl _) _).trans (hb.mono (by simp))).setCell (Nat.le_refl _) _).setCell (Nat.le_refl _) _).setCell (Nat.le_refl _) _).setCell (Nat.le_refl _) _
  by_cases h3 : op ≤ 21
  · have hk : Hid (op = 11 ∨ op = 12 ∨ op = 13 ∨ op = 14 ∨ op = 15 ∨ op = 16 ∨ op = 17 ∨ op = 18 ∨ op = 19 ∨ op = 20 ∨ op = 21) := (show (op = 11 ∨ op = 12 ∨ op = 13 ∨ op = 14 ∨ op = 15 ∨ op = 16 ∨ op = 17 ∨ op = 18 ∨ op = 19 ∨ op = 20 ∨ op = 21) by omega)
    go_enter Tryd.func35, Tryd.ntmps35
    go_wp2_with fail
    refine (moveC _ _ hk).mono ?_
    rintro e w1 ⟨rfl, hb⟩
    obtain ⟨hc, hf⟩ := bcell hb
    have hz : w.heap.size < w1.heap.size := by have := hb.size; simp at this; omega
    unfold shV at *
    go_wp2
    refine bodyPost_ret (v := shV (shT op)) (by simp [results, Tryd.results35, go_sem, hc]; rfl) rfl ⟨rfl, ?_⟩
    exact ((((((Below.refl _ _).alloc (Nat.le_refl _) _).trans (hb.mono (by simp))).setCell (Nat.le_refl _) _).setCell (Nat.le_refl _) _).setCell (Nat.le_refl _) _).setCell (Nat.le_refl _) _
  by_cases h4 : op ≤ 30
  · have hk : Hid (op = 22 ∨ op = 23 ∨ op = 24 ∨ op = 25 ∨ op = 26 ∨ op = 27 ∨ op = 28 ∨ op = 29 ∨ op = 30 ∨ op = 41 ∨ op = 42 ∨ op = 43 ∨ op = 44) := (show (op = 22 ∨ op = 23 ∨ op = 24 ∨ op = 25 ∨ op = 26 ∨ op = 27 ∨ op = 28 ∨ op = 29 ∨ op = 30 ∨ op = 41 ∨ op = 42 ∨ op = 43 ∨ op = 44) by omega)
    go_enter Tryd.func35, Tryd.ntmps35
    go_wp2_with fail
    refine (numberC _ _ hk).mono ?_
    rintro e w1 ⟨rfl, hb⟩
    obtain ⟨hc, hf⟩ := bcell hb
    have hz : w.heap.size < w1.heap.size := by have := hb.size; simp at this; omega
    unfold shV at *
    go_wp2
    refine bodyPost_ret (v := shV (shT op)) (by simp [results, Tryd.results35, go_sem, hc]; rfl) rfl ⟨rfl, ?_⟩
    exact ((((((Below.refl _ _).alloc (Nat.le_refl _) _).trans (hb.mono (by simp))).setCell (Nat.le_refl _) _).setCell (Nat.le_refl _) _).setCell (Nat.le_refl _) _).setCell (Nat.le_refl _) _
  by_cases h5 : 41 ≤ op ∧ op ≤ 44
  · have hk : Hid (op = 22 ∨ op = 23 ∨ op = 24 ∨ op = 25 ∨ op = 26 ∨ op = 27 ∨ op = 28 ∨ op = 29 ∨ op = 30 ∨ op = 41 ∨ op = 42 ∨ op = 43 ∨ op = 44) := (show (op = 22 ∨ op = 23 ∨ op = 24 ∨ op = 25 ∨ op = 26 ∨ op = 27 ∨ op = 28 ∨ op = 29 ∨ op = 30 ∨ op = 41 ∨ op = 42 ∨ op = 43 ∨ op = 44) by omega)
    obtain ⟨h5a, h5b⟩ := h5
    go_enter Tryd.func35, Tryd.ntmps35
    go_wp2_with fail
    refine (numberC _ _ hk).mono ?_
    rintro e w1 ⟨rfl, hb⟩
    obtain ⟨hc, hf⟩ := bcell hb
    have hz : w.heap.size < w1.heap.size := by have := hb.size; simp at this; omega
    unfold shV at *
    go_wp2
    refine bodyPost_ret (v := shV (shT op)) (by simp [results, Tryd.results35, go_sem, hc]; rfl) rfl ⟨rfl, ?_⟩
    exact ((((((Below.refl _ _).alloc (Nat.le_refl _) _).trans (hb.mono (by simp))).setCell (Nat.le_refl _) _).setCell (Nat.le_refl _) _).setCell (Nat.le_refl _) _).setCell (Nat.le_refl _) _
  by_cases h6 : op ≤ 40
  · have hk : Hid (op = 31 ∨ op = 32 ∨ op = 33 ∨ op = 34 ∨ op = 35 ∨ op = 36 ∨ op = 37 ∨ op = 38 ∨ op = 39 ∨ op = 40 ∨ op = 50 ∨ op = 51 ∨ op = 52 ∨ op = 53 ∨ op = 54 ∨ op = 55 ∨ op = 56 ∨ op = 57) := (show (op = 31 ∨ op = 32 ∨ op = 33 ∨ op = 34 ∨ op = 35 ∨ op = 36 ∨ op = 37 ∨ op = 38 ∨ op = 39 ∨ op = 40 ∨ op = 50 ∨ op = 51 ∨ op = 52 ∨ op = 53 ∨ op = 54 ∨ op = 55 ∨ op = 56 ∨ op = 57) by omega)
    clear h5
    go_enter Tryd.func35, Tryd.ntmps35
    go_wp2_with fail
    refine (wholeC _ _ hk).mono ?_
    rintro e w1 ⟨rfl, hb⟩
    obtain ⟨hc, hf⟩ := bcell hb
    have hz : w.heap.size < w1.heap.size := by have := hb.size; simp at this; omega
    unfold shV at *
    go_wp2
    refine bodyPost_ret (v := shV (shT op)) (by simp [results, Tryd.results35, go_sem, hc]; rfl) rfl ⟨rfl, ?_⟩
    exact ((((((Below.refl _ _).alloc (Nat.le_refl _) _).trans (hb.mono (by simp))).setCell (Nat.le_refl _) _).setCell (Nat.le_refl _) _).setCell (Nat.le_refl _) _).setCell (Nat.le_refl _) _
  by_cases h7 : 50 ≤ op ∧ op ≤ 57
  · have hk : Hid (op = 31 ∨ op = 32 ∨ op = 33 ∨ op = 34 ∨ op = 35 ∨ op = 36 ∨ op = 37 ∨ op = 38 ∨ op = 39 ∨ op = 40 ∨ op = 50 ∨ op = 51 ∨ op = 52 ∨ op = 53 ∨ op = 54 ∨ op = 55 ∨ op = 56 ∨ op = 57) := (show (op = 31 ∨ op = 32 ∨ op = 33 ∨ op = 34 ∨ op = 35 ∨ op = 36 ∨ op = 37 ∨ op = 38 ∨ op = 39 ∨ op = 40 ∨ op = 50 ∨ op = 51 ∨ op = 52 ∨ op = 53 ∨ op = 54 ∨ op = 55 ∨ op = 56 ∨ op = 57) by omega)
    obtain ⟨h7a, h7b⟩ := h7
    have h5c : 44 < op := by omega
    clear h5
    go_enter Tryd.func35, Tryd.ntmps35
    go_wp2_with fail
    refine (wholeC _ _ hk).mono ?_
    rintro e w1 ⟨rfl, hb⟩
    obtain ⟨hc, hf⟩ := bcell hb
    have hz : w.heap.size < w1.heap.size := by have := hb.size; simp at this; omega
    unfold shV at *
    go_wp2
    refine bodyPost_ret (v := shV (shT op)) (by simp [results, Tryd.results35, go_sem, hc]; rfl) rfl ⟨rfl, ?_⟩
    exact ((((((Below.refl _ _).alloc (Nat.le_refl _) _).trans (hb.mono (by simp))).setCell (Nat.le_refl _) _).setCell (Nat.le_refl _) _).setCell (Nat.le_refl _) _).setCell (Nat.le_refl _) _
  have hk : Hid (op = 45 ∨ op = 46 ∨ op = 47 ∨ op = 48 ∨ op = 49 ∨ op = 58 ∨ op = 59 ∨ op = 60 ∨ op = 61 ∨ op = 62) := (show (op = 45 ∨ op = 46 ∨ op = 47 ∨ op = 48 ∨ op = 49 ∨ op = 58 ∨ op = 59 ∨ op = 60 ∨ op = 61 ∨ op = 62) by omega)
  have h5c : 44 < op := by omega
  clear h5
  by_cases h8 : 50 ≤ op
  · have h8b : 57 < op := by omega
    clear h7
    go_enter Tryd.func35, Tryd.ntmps35
    go_wp2_with fail
    refine (halfC _ _ hk).mono ?_
    rintro e w1 ⟨rfl, hb⟩
    obtain ⟨hc, hf⟩ := bcell hb
    have hz : w.heap.size < w1.heap.size := by have := hb.size; simp at this; omega
    unfold shV at *
    go_wp2
    refine bodyPost_ret (v := shV (shT op)) (by simp [results, Tryd.results35, go_sem, hc]; rfl) rfl ⟨rfl, ?_⟩
    exact ((((((Below.refl _ _).alloc (Nat.le_refl _) _).trans (hb.mono (by simp))).setCell (Nat.le_refl _) _).setCell (Nat.le_refl _) _).setCell (Nat.le_refl _) _).setCell (Nat.le_refl _) _
  · clear h7
    go_enter Tryd.func35, Tryd.ntmps35
    go_wp2_with fail
    refine (halfC _ _ hk).mono ?_
    rintro e w1 ⟨rfl, hb⟩
    obtain ⟨hc, hf⟩ := bcell hb
    have hz : w.heap.size < w1.heap.size := by have := hb.size; simp at this; omega
    unfold shV at *
    go_wp2
    refine bodyPost_ret (v := shV (shT op)) (by simp [results, Tryd.results35, go_sem, hc]; rfl) rfl ⟨rfl, ?_⟩
    exact ((((((Below.refl _ _).alloc (Nat.le_refl _) _).trans (hb.mono (by simp))).setCell (Nat.le_refl _) _).setCell (Nat.le_refl _) _).setCell (Nat.le_refl _) _).setCell (Nat.le_refl _) _

set_option maxHeartbeats 1000000 in
theorem shapeOK (op : Int) (w : World) (h0 : 1 ≤ op) (h1 : op ≤ 64) :
    Calls Tryd.prog 45 #[.int .i64 op] w fun e w' => e = .returned (.tuple #[shV (shT op), .int .i64 0]) ∧ Below w.heap.size w w' := by
  go_enter Tryd.func45, Tryd.ntmps45
  go_wp2_with fail
  refine (inside_ok _ op 1 64 _ h0 h1).mono ?_
  rintro e w1 ⟨rfl, rfl⟩
  go_wp2_with fail
  refine (shapeC op _).mono ?_
  rintro e w1 ⟨rfl, hb⟩
  obtain ⟨hc, hf⟩ := bcell hb
  have hz : w.heap.size < w1.heap.size := by have := hb.size; simp at this; omega
  unfold shV at *
  go_wp2
  refine bodyPost_ret (v := .tuple #[shV (shT op), .int .i64 0]) (by simp [results, Tryd.results45, go_sem, hc]; rfl) rfl ⟨rfl, ?_⟩
  exact ((((((Below.refl _ _).alloc (Nat.le_refl _) _).trans (hb.mono (by simp))).setCell (Nat.le_refl _) _).setCell (Nat.le_refl _) _).setCell (Nat.le_refl _) _).setCell (Nat.le_refl _) _

set_option maxHeartbeats 1000000 in
theorem shapeNo (op : Int) (w : World) (hL : Laid w) (h : op < 1 ∨ 64 < op) :
    Calls Tryd.prog 45 #[.int .i64 op] w fun e w' => e = .returned (.tuple #[shV (0, 0, 0, 0), .int .i64 4]) ∧ Below w.heap.size w w' := by
  obtain ⟨a0, a1, hL⟩ := hL
  go_enter Tryd.func45, Tryd.ntmps45
  go_wp2_with fail
  refine (inside_no _ op 1 64 _ a0 a1 (hL.below ((Below.refl _ _).alloc (Nat.le_refl _) _)) h).mono ?_
  rintro e w1 ⟨rfl, rfl⟩
  go_wp2_with fail
  refine (code_range _ _ a0 a1 (hL.below ((Below.refl _ _).alloc (Nat.le_refl _) _))).mono ?_
  rintro e w1 ⟨rfl, hb⟩
  clear hL h
  obtain ⟨hc, hf⟩ := bcell hb
  have hz : w.heap.size < w1.heap.size := by have := hb.size; simp at this; omega
  go_wp2
  refine bodyPost_ret (v := .tuple #[shV (0, 0, 0, 0), .int .i64 4]) (by simp [results, Tryd.results45, go_sem, hc]; rfl) rfl ⟨rfl, ?_⟩
  exact ((((((Below.refl _ _).alloc (Nat.le_refl _) _).trans (hb.mono (by simp))).setCell (Nat.le_refl _) _).setCell (Nat.le_refl _) _).setCell (Nat.le_refl _) _).setCell (Nat.le_refl _) _
end Go.Proofs.YtepanogpojolfaaDoor
