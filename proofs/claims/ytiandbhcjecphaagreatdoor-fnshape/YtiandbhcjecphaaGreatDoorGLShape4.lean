/- The program's checks of ranges and the codes of their errors: contracts. The shapes of the operations: contracts. lowBits at the counts that are used, and the forms' rules. An element of the pieces of a rule. -/
import Derived.Test.YtiandbhcjecphaaGreatDoorGLShape3
import Derived.Test.YtiandbhcjecphaaGreatDoorGLShape2
import Derived.Test.YtiandbhcjecphaaGreatDoorGLShape0
import Derived.Deep.QuietTactic
import Derived.BigQuiet
namespace Go.Proofs.YtiandbhcjecphaaGreatDoor
open Go.RowKit
set_option linter.unusedVariables false

/-- inside: nil, or the error of the range. -/
theorem inside_ok (n : ByteArray) (v low high : Int) (w : World) (h0 : low ≤ v) (h1 : v ≤ high) :
    Calls Tryz.prog 99 #[.string n, .int .i64 v, .int .i64 low, .int .i64 high] w fun e w' => e = .returned .nilIface ∧ w' = w := by
  go_enter Tryz.func99, Tryz.ntmps99
  go_wp2
  go_ret
  exact ⟨rfl, rfl⟩

theorem inside_no (n : ByteArray) (v low high : Int) (w : World) (a0 a1 : Addr) (hL : LaidAt w a0 a1) (h : v < low ∨ high < v) :
    Calls Tryz.prog 99 #[.string n, .int .i64 v, .int .i64 low, .int .i64 high] w fun e w' => e = .returned (argErr n a0) ∧ w' = w := by
  have hr := hL.r
  clear hL
  by_cases h0 : v < low
  · go_enter Tryz.func99, Tryz.ntmps99
    go_wp2
    go_ret
    exact ⟨rfl, rfl⟩
  · have h1 : high < v := by omega
    go_enter Tryz.func99, Tryz.ntmps99
    go_wp2
    go_ret
    exact ⟨rfl, rfl⟩

/-- codeFrom: 0, 4, 8, 3, 9 or 22. -/
theorem code_nil (w : World) :
    Calls Tryz.prog 100 #[.nilIface] w fun e w' => e = .returned (.int .i64 0) ∧ w' = w := by
  go_enter Tryz.func100, Tryz.ntmps100
  go_wp2
  go_ret
  exact ⟨rfl, rfl⟩

set_option maxHeartbeats 1000000 in
theorem code_range (n : ByteArray) (w : World) (a0 a1 : Addr) (hL : LaidAt w a0 a1) :
    Calls Tryz.prog 100 #[argErr n a0] w fun e w' => e = .returned (.int .i64 4) ∧ Below w.heap.size w w' := by
  have hr := hL.r
  clear hL
  go_enter Tryz.func100, Tryz.ntmps100
  go_wp2_with fail
  refine (is_arg_same n a0 w).mono ?_
  rintro e w1 ⟨rfl, hb⟩
  go_wp2
  go_ret
  exact ⟨rfl, hb⟩

set_option maxHeartbeats 1000000 in
theorem code_size (n : ByteArray) (w : World) (a0 a1 : Addr) (hL : LaidAt w a0 a1) :
    Calls Tryz.prog 100 #[argErr n a1] w fun e w' => e = .returned (.int .i64 8) ∧ Below w.heap.size w w' := by
  have hL0 := hL
  obtain ⟨c0, t0, h0⟩ := hL.hr
  obtain ⟨c1, t1, h1⟩ := hL.hs
  have hne := hL.ne
  have hr := hL.r
  clear hL
  go_enter Tryz.func100, Tryz.ntmps100
  go_wp2_with fail
  refine (is_arg_other n a1 a0 c1 c0 t1 t0 w (Ne.symm hne) h1 h0).mono ?_
  rintro e w1 ⟨rfl, hb⟩
  have hs := (hL0.below hb).s
  clear hL0 h0 h1 hr
  go_wp2_with fail
  refine (is_arg_same n a1 w1).mono ?_
  rintro e w2 ⟨rfl, hb2⟩
  go_wp2
  go_ret
  exact ⟨rfl, hb.trans (hb2.mono hb.size)⟩

set_option maxHeartbeats 2000000 in
theorem code_form (n : ByteArray) (w : World) (a0 a1 a2 a3 a4 : Addr) (hL : LaidAt w a0 a1) (hM : MoreAt w a0 a1 a2 a3 a4) :
    Calls Tryz.prog 100 #[argErr n a2] w fun e w' => e = .returned (.int .i64 3) ∧ Below w.heap.size w w' := by
  have HL : Hid (LaidAt w a0 a1) := hL
  have HM : Hid (MoreAt w a0 a1 a2 a3 a4) := hM
  have hr := hL.r
  clear hL hM
  go_enter Tryz.func100, Tryz.ntmps100
  have HB : Hid (Below w.heap.size w w) := Below.refl _ _
  go_wp2_with fail
  obtain ⟨c, t, hb0⟩ := HM.out.h2
  obtain ⟨d, u, hb1⟩ := HL.out.hr
  refine (is_arg_other n a2 a0 c d t u _ (Ne.symm HM.out.n02) hb0 hb1).mono ?_
  rintro e v1 ⟨rfl, hb⟩
  replace HL : Hid (LaidAt v1 a0 a1) := HL.out.below hb
  replace HM : Hid (MoreAt v1 a0 a1 a2 a3 a4) := HM.out.below hb
  replace HB : Hid (Below w.heap.size w v1) := HB.out.trans (hb.mono HB.out.size)
  clear hb hb0 hb1 hr c d t u
  have hq1 := HL.out.s
  go_wp2_with fail
  obtain ⟨c, t, hb0⟩ := HM.out.h2
  obtain ⟨d, u, hb1⟩ := HL.out.hs
  refine (is_arg_other n a2 a1 c d t u _ (Ne.symm HM.out.n12) hb0 hb1).mono ?_
  rintro e v2 ⟨rfl, hb⟩
  replace HL : Hid (LaidAt v2 a0 a1) := HL.out.below hb
  replace HM : Hid (MoreAt v2 a0 a1 a2 a3 a4) := HM.out.below hb
  replace HB : Hid (Below w.heap.size w v2) := HB.out.trans (hb.mono HB.out.size)
  clear hb hb0 hb1 hq1 c d t u
  have hq2 := HM.out.f
  unfold ErrVar at hq2
  go_wp2_with fail
  refine (is_arg_same n a2 _).mono ?_
  rintro e v9 ⟨rfl, hb⟩
  have bel := HB.out.trans (hb.mono HB.out.size)
  clear hb hq2 HL HM HB
  go_wp2
  go_ret
  exact ⟨rfl, bel⟩

set_option maxHeartbeats 2000000 in
theorem code_sum (n : ByteArray) (w : World) (a0 a1 a2 a3 a4 : Addr) (hL : LaidAt w a0 a1) (hM : MoreAt w a0 a1 a2 a3 a4) :
    Calls Tryz.prog 100 #[argErr n a3] w fun e w' => e = .returned (.int .i64 9) ∧ Below w.heap.size w w' := by
  have HL : Hid (LaidAt w a0 a1) := hL
  have HM : Hid (MoreAt w a0 a1 a2 a3 a4) := hM
  have hr := hL.r
  clear hL hM
  go_enter Tryz.func100, Tryz.ntmps100
  have HB : Hid (Below w.heap.size w w) := Below.refl _ _
  go_wp2_with fail
  obtain ⟨c, t, hb0⟩ := HM.out.h3
  obtain ⟨d, u, hb1⟩ := HL.out.hr
  refine (is_arg_other n a3 a0 c d t u _ (Ne.symm HM.out.n03) hb0 hb1).mono ?_
  rintro e v1 ⟨rfl, hb⟩
  replace HL : Hid (LaidAt v1 a0 a1) := HL.out.below hb
  replace HM : Hid (MoreAt v1 a0 a1 a2 a3 a4) := HM.out.below hb
  replace HB : Hid (Below w.heap.size w v1) := HB.out.trans (hb.mono HB.out.size)
  clear hb hb0 hb1 hr c d t u
  have hq1 := HL.out.s
  go_wp2_with fail
  obtain ⟨c, t, hb0⟩ := HM.out.h3
  obtain ⟨d, u, hb1⟩ := HL.out.hs
  refine (is_arg_other n a3 a1 c d t u _ (Ne.symm HM.out.n13) hb0 hb1).mono ?_
  rintro e v2 ⟨rfl, hb⟩
  replace HL : Hid (LaidAt v2 a0 a1) := HL.out.below hb
  replace HM : Hid (MoreAt v2 a0 a1 a2 a3 a4) := HM.out.below hb
  replace HB : Hid (Below w.heap.size w v2) := HB.out.trans (hb.mono HB.out.size)
  clear hb hb0 hb1 hq1 c d t u
  have hq2 := HM.out.f
  unfold ErrVar at hq2
  go_wp2_with fail
  obtain ⟨c, t, hb0⟩ := HM.out.h3
  obtain ⟨d, u, hb1⟩ := HM.out.h2
  refine (is_arg_other n a3 a2 c d t u _ (Ne.symm HM.out.n23) hb0 hb1).mono ?_
  rintro e v3 ⟨rfl, hb⟩
  replace HL : Hid (LaidAt v3 a0 a1) := HL.out.below hb
  replace HM : Hid (MoreAt v3 a0 a1 a2 a3 a4) := HM.out.below hb
  replace HB : Hid (Below w.heap.size w v3) := HB.out.trans (hb.mono HB.out.size)
  clear hb hb0 hb1 hq2 c d t u
  have hq3 := HM.out.u
  unfold ErrVar at hq3
  go_wp2_with fail
  refine (is_arg_same n a3 _).mono ?_
  rintro e v9 ⟨rfl, hb⟩
  have bel := HB.out.trans (hb.mono HB.out.size)
  clear hb hq3 HL HM HB
  go_wp2
  go_ret
  exact ⟨rfl, bel⟩

set_option maxHeartbeats 2000000 in
theorem code_end (n : ByteArray) (w : World) (a0 a1 a2 a3 a4 : Addr) (hL : LaidAt w a0 a1) (hM : MoreAt w a0 a1 a2 a3 a4) :
    Calls Tryz.prog 100 #[argErr n a4] w fun e w' => e = .returned (.int .i64 22) ∧ Below w.heap.size w w' := by
  have HL : Hid (LaidAt w a0 a1) := hL
  have HM : Hid (MoreAt w a0 a1 a2 a3 a4) := hM
  have hr := hL.r
  clear hL hM
  go_enter Tryz.func100, Tryz.ntmps100
  have HB : Hid (Below w.heap.size w w) := Below.refl _ _
  go_wp2_with fail
  obtain ⟨c, t, hb0⟩ := HM.out.h4
  obtain ⟨d, u, hb1⟩ := HL.out.hr
  refine (is_arg_other n a4 a0 c d t u _ (Ne.symm HM.out.n04) hb0 hb1).mono ?_
  rintro e v1 ⟨rfl, hb⟩
  replace HL : Hid (LaidAt v1 a0 a1) := HL.out.below hb
  replace HM : Hid (MoreAt v1 a0 a1 a2 a3 a4) := HM.out.below hb
  replace HB : Hid (Below w.heap.size w v1) := HB.out.trans (hb.mono HB.out.size)
  clear hb hb0 hb1 hr c d t u
  have hq1 := HL.out.s
  go_wp2_with fail
  obtain ⟨c, t, hb0⟩ := HM.out.h4
  obtain ⟨d, u, hb1⟩ := HL.out.hs
  refine (is_arg_other n a4 a1 c d t u _ (Ne.symm HM.out.n14) hb0 hb1).mono ?_
  rintro e v2 ⟨rfl, hb⟩
  replace HL : Hid (LaidAt v2 a0 a1) := HL.out.below hb
  replace HM : Hid (MoreAt v2 a0 a1 a2 a3 a4) := HM.out.below hb
  replace HB : Hid (Below w.heap.size w v2) := HB.out.trans (hb.mono HB.out.size)
  clear hb hb0 hb1 hq1 c d t u
  have hq2 := HM.out.f
  unfold ErrVar at hq2
  go_wp2_with fail
  obtain ⟨c, t, hb0⟩ := HM.out.h4
  obtain ⟨d, u, hb1⟩ := HM.out.h2
  refine (is_arg_other n a4 a2 c d t u _ (Ne.symm HM.out.n24) hb0 hb1).mono ?_
  rintro e v3 ⟨rfl, hb⟩
  replace HL : Hid (LaidAt v3 a0 a1) := HL.out.below hb
  replace HM : Hid (MoreAt v3 a0 a1 a2 a3 a4) := HM.out.below hb
  replace HB : Hid (Below w.heap.size w v3) := HB.out.trans (hb.mono HB.out.size)
  clear hb hb0 hb1 hq2 c d t u
  have hq3 := HM.out.u
  unfold ErrVar at hq3
  go_wp2_with fail
  obtain ⟨c, t, hb0⟩ := HM.out.h4
  obtain ⟨d, u, hb1⟩ := HM.out.h3
  refine (is_arg_other n a4 a3 c d t u _ (Ne.symm HM.out.n34) hb0 hb1).mono ?_
  rintro e v4 ⟨rfl, hb⟩
  replace HL : Hid (LaidAt v4 a0 a1) := HL.out.below hb
  replace HM : Hid (MoreAt v4 a0 a1 a2 a3 a4) := HM.out.below hb
  replace HB : Hid (Below w.heap.size w v4) := HB.out.trans (hb.mono HB.out.size)
  clear hb hb0 hb1 hq3 c d t u
  have hq4 := HM.out.e
  unfold ErrVar at hq4
  go_wp2_with fail
  refine (is_arg_same n a4 _).mono ?_
  rintro e v9 ⟨rfl, hb⟩
  have bel := HB.out.trans (hb.mono HB.out.size)
  clear hb hq4 HL HM HB
  go_wp2
  go_ret
  exact ⟨rfl, bel⟩
end Go.Proofs.YtiandbhcjecphaaGreatDoor

namespace Go.Proofs.YtiandbhcjecphaaGreatDoor
open Go.RowKit
set_option linter.unusedVariables false

theorem bcell {W w1 : World} (hb : Below W.heap.size W w1) : (∀ b o, b < W.heap.size → w1.cell? ⟨b, o, none⟩ = W.cell? ⟨b, o, none⟩) ∧ (∀ b o, b < W.heap.size → w1.frozen? ⟨b, o, none⟩ = W.frozen? ⟨b, o, none⟩) :=
  ⟨fun b o h => hb.cell (p := ⟨b, o, none⟩) h, fun b o h => hb.frozen (p := ⟨b, o, none⟩) h⟩

set_option maxRecDepth 100000 in
set_option maxHeartbeats 4000000 in
theorem shapeC (op : Int) (w : World) :
    Calls Tryz.prog 44 #[.int .i64 op] w fun e w' => e = .returned (shV (shT op)) ∧ Below w.heap.size w w' := by
  by_cases h1 : op ≤ 10
  · go_enter Tryz.func44, Tryz.ntmps44
    go_wp2_with fail
    refine (flowC _ _ (.inl h1)).mono ?_
    rintro e w1 ⟨rfl, hb⟩
    obtain ⟨hc, hf⟩ := bcell hb
    have hz : w.heap.size < w1.heap.size := by have := hb.size; simp at this; omega
    unfold shV at *
    go_wp2
    refine bodyPost_ret (v := shV (shT op)) (by simp [results, Tryz.results44, go_sem, hc]; rfl) rfl ⟨rfl, ?_⟩
    exact ((((((Below.refl _ _).alloc (Nat.le_refl _) _).trans (hb.mono (by simp))).setCell (Nat.le_refl _) _).setCell (Nat.le_refl _) _).setCell (Nat.le_refl _) _).setCell (Nat.le_refl _) _
  by_cases h2 : 63 ≤ op
  · go_enter Tryz.func44, Tryz.ntmps44
    go_wp2_with fail
    refine (flowC _ _ (.inr h2)).mono ?_
    rintro e w1 ⟨rfl, hb⟩
    obtain ⟨hc, hf⟩ := bcell hb
    have hz : w.heap.size < w1.heap.size := by have := hb.size; simp at this; omega
    unfold shV at *
    go_wp2
    refine bodyPost_ret (v := shV (shT op)) (by simp [results, Tryz.results44, go_sem, hc]; rfl) rfl ⟨rfl, ?_⟩
    exact ((((((Below.refl _ _).alloc (Nat.le_refl _) _).trans (hb.mono (by simp))).setCell (Nat.le_refl _) _).setCell (Nat.le_refl _) _).setCell (Nat.le_refl _) _).setCell (Nat.le_refl _) _
  by_cases h3 : op ≤ 21
  · have hk : Hid (op = 11 ∨ op = 12 ∨ op = 13 ∨ op = 14 ∨ op = 15 ∨ op = 16 ∨ op = 17 ∨ op = 18 ∨ op = 19 ∨ op = 20 ∨ op = 21) := (show (op = 11 ∨ op = 12 ∨ op = 13 ∨ op = 14 ∨ op = 15 ∨ op = 16 ∨ op = 17 ∨ op = 18 ∨ op = 19 ∨ op = 20 ∨ op = 21) by omega)
    go_enter Tryz.func44, Tryz.ntmps44
    go_wp2_with fail
    refine (moveC _ _ hk).mono ?_
    rintro e w1 ⟨rfl, hb⟩
    obtain ⟨hc, hf⟩ := bcell hb
    have hz : w.heap.size < w1.heap.size := by have := hb.size; simp at this; omega
    unfold shV at *
    go_wp2
    refine bodyPost_ret (v := shV (shT op)) (by simp [results, Tryz.results44, go_sem, hc]; rfl) rfl ⟨rfl, ?_⟩
    exact ((((((Below.refl _ _).alloc (Nat.le_refl _) _).trans (hb.mono (by simp))).setCell (Nat.le_refl _) _).setCell (Nat.le_refl _) _).setCell (Nat.le_refl _) _).setCell (Nat.le_refl _) _
  by_cases h4 : op ≤ 30
  · have hk : Hid (op = 22 ∨ op = 23 ∨ op = 24 ∨ op = 25 ∨ op = 26 ∨ op = 27 ∨ op = 28 ∨ op = 29 ∨ op = 30 ∨ op = 41 ∨ op = 42 ∨ op = 43 ∨ op = 44) := (show (op = 22 ∨ op = 23 ∨ op = 24 ∨ op = 25 ∨ op = 26 ∨ op = 27 ∨ op = 28 ∨ op = 29 ∨ op = 30 ∨ op = 41 ∨ op = 42 ∨ op = 43 ∨ op = 44) by omega)
    go_enter Tryz.func44, Tryz.ntmps44
    go_wp2_with fail
    refine (numberC _ _ hk).mono ?_
    rintro e w1 ⟨rfl, hb⟩
    obtain ⟨hc, hf⟩ := bcell hb
    have hz : w.heap.size < w1.heap.size := by have := hb.size; simp at this; omega
    unfold shV at *
    go_wp2
    refine bodyPost_ret (v := shV (shT op)) (by simp [results, Tryz.results44, go_sem, hc]; rfl) rfl ⟨rfl, ?_⟩
    exact ((((((Below.refl _ _).alloc (Nat.le_refl _) _).trans (hb.mono (by simp))).setCell (Nat.le_refl _) _).setCell (Nat.le_refl _) _).setCell (Nat.le_refl _) _).setCell (Nat.le_refl _) _
  by_cases h5 : 41 ≤ op ∧ op ≤ 44
  · have hk : Hid (op = 22 ∨ op = 23 ∨ op = 24 ∨ op = 25 ∨ op = 26 ∨ op = 27 ∨ op = 28 ∨ op = 29 ∨ op = 30 ∨ op = 41 ∨ op = 42 ∨ op = 43 ∨ op = 44) := (show (op = 22 ∨ op = 23 ∨ op = 24 ∨ op = 25 ∨ op = 26 ∨ op = 27 ∨ op = 28 ∨ op = 29 ∨ op = 30 ∨ op = 41 ∨ op = 42 ∨ op = 43 ∨ op = 44) by omega)
    obtain ⟨h5a, h5b⟩ := h5
    go_enter Tryz.func44, Tryz.ntmps44
    go_wp2_with fail
    refine (numberC _ _ hk).mono ?_
    rintro e w1 ⟨rfl, hb⟩
    obtain ⟨hc, hf⟩ := bcell hb
    have hz : w.heap.size < w1.heap.size := by have := hb.size; simp at this; omega
    unfold shV at *
    go_wp2
    refine bodyPost_ret (v := shV (shT op)) (by simp [results, Tryz.results44, go_sem, hc]; rfl) rfl ⟨rfl, ?_⟩
    exact ((((((Below.refl _ _).alloc (Nat.le_refl _) _).trans (hb.mono (by simp))).setCell (Nat.le_refl _) _).setCell (Nat.le_refl _) _).setCell (Nat.le_refl _) _).setCell (Nat.le_refl _) _
  by_cases h6 : op ≤ 40
  · have hk : Hid (op = 31 ∨ op = 32 ∨ op = 33 ∨ op = 34 ∨ op = 35 ∨ op = 36 ∨ op = 37 ∨ op = 38 ∨ op = 39 ∨ op = 40 ∨ op = 50 ∨ op = 51 ∨ op = 52 ∨ op = 53 ∨ op = 54 ∨ op = 55 ∨ op = 56 ∨ op = 57) := (show (op = 31 ∨ op = 32 ∨ op = 33 ∨ op = 34 ∨ op = 35 ∨ op = 36 ∨ op = 37 ∨ op = 38 ∨ op = 39 ∨ op = 40 ∨ op = 50 ∨ op = 51 ∨ op = 52 ∨ op = 53 ∨ op = 54 ∨ op = 55 ∨ op = 56 ∨ op = 57) by omega)
    clear h5
    go_enter Tryz.func44, Tryz.ntmps44
    go_wp2_with fail
    refine (wholeC _ _ hk).mono ?_
    rintro e w1 ⟨rfl, hb⟩
    obtain ⟨hc, hf⟩ := bcell hb
    have hz : w.heap.size < w1.heap.size := by have := hb.size; simp at this; omega
    unfold shV at *
    go_wp2
    refine bodyPost_ret (v := shV (shT op)) (by simp [results, Tryz.results44, go_sem, hc]; rfl) rfl ⟨rfl, ?_⟩
    exact ((((((Below.refl _ _).alloc (Nat.le_refl _) _).trans (hb.mono (by simp))).setCell (Nat.le_refl _) _).setCell (Nat.le_refl _) _).setCell (Nat.le_refl _) _).setCell (Nat.le_refl _) _
  by_cases h7 : 50 ≤ op ∧ op ≤ 57
  · have hk : Hid (op = 31 ∨ op = 32 ∨ op = 33 ∨ op = 34 ∨ op = 35 ∨ op = 36 ∨ op = 37 ∨ op = 38 ∨ op = 39 ∨ op = 40 ∨ op = 50 ∨ op = 51 ∨ op = 52 ∨ op = 53 ∨ op = 54 ∨ op = 55 ∨ op = 56 ∨ op = 57) := (show (op = 31 ∨ op = 32 ∨ op = 33 ∨ op = 34 ∨ op = 35 ∨ op = 36 ∨ op = 37 ∨ op = 38 ∨ op = 39 ∨ op = 40 ∨ op = 50 ∨ op = 51 ∨ op = 52 ∨ op = 53 ∨ op = 54 ∨ op = 55 ∨ op = 56 ∨ op = 57) by omega)
    obtain ⟨h7a, h7b⟩ := h7
    have h5c : 44 < op := by omega
    clear h5
    go_enter Tryz.func44, Tryz.ntmps44
    go_wp2_with fail
    refine (wholeC _ _ hk).mono ?_
    rintro e w1 ⟨rfl, hb⟩
    obtain ⟨hc, hf⟩ := bcell hb
    have hz : w.heap.size < w1.heap.size := by have := hb.size; simp at this; omega
    unfold shV at *
    go_wp2
    refine bodyPost_ret (v := shV (shT op)) (by simp [results, Tryz.results44, go_sem, hc]; rfl) rfl ⟨rfl, ?_⟩
    exact ((((((Below.refl _ _).alloc (Nat.le_refl _) _).trans (hb.mono (by simp))).setCell (Nat.le_refl _) _).setCell (Nat.le_refl _) _).setCell (Nat.le_refl _) _).setCell (Nat.le_refl _) _
  have hk : Hid (op = 45 ∨ op = 46 ∨ op = 47 ∨ op = 48 ∨ op = 49 ∨ op = 58 ∨ op = 59 ∨ op = 60 ∨ op = 61 ∨ op = 62) := (show (op = 45 ∨ op = 46 ∨ op = 47 ∨ op = 48 ∨ op = 49 ∨ op = 58 ∨ op = 59 ∨ op = 60 ∨ op = 61 ∨ op = 62) by omega)
  have h5c : 44 < op := by omega
  clear h5
  by_cases h8 : 50 ≤ op
  · have h8b : 57 < op := by omega
    clear h7
    go_enter Tryz.func44, Tryz.ntmps44
    go_wp2_with fail
    refine (halfC _ _ hk).mono ?_
    rintro e w1 ⟨rfl, hb⟩
    obtain ⟨hc, hf⟩ := bcell hb
    have hz : w.heap.size < w1.heap.size := by have := hb.size; simp at this; omega
    unfold shV at *
    go_wp2
    refine bodyPost_ret (v := shV (shT op)) (by simp [results, Tryz.results44, go_sem, hc]; rfl) rfl ⟨rfl, ?_⟩
    exact ((((((Below.refl _ _).alloc (Nat.le_refl _) _).trans (hb.mono (by simp))).setCell (Nat.le_refl _) _).setCell (Nat.le_refl _) _).setCell (Nat.le_refl _) _).setCell (Nat.le_refl _) _
  · clear h7
    go_enter Tryz.func44, Tryz.ntmps44
    go_wp2_with fail
    refine (halfC _ _ hk).mono ?_
    rintro e w1 ⟨rfl, hb⟩
    obtain ⟨hc, hf⟩ := bcell hb
    have hz : w.heap.size < w1.heap.size := by have := hb.size; simp at this; omega
    unfold shV at *
    go_wp2
    refine bodyPost_ret (v := shV (shT op)) (by simp [results, Tryz.results44, go_sem, hc]; rfl) rfl ⟨rfl, ?_⟩
    exact ((((((Below.refl _ _).alloc (Nat.le_refl _) _).trans (hb.mono (by simp))).setCell (Nat.le_refl _) _).setCell (Nat.le_refl _) _).setCell (Nat.le_refl _) _).setCell (Nat.le_refl _) _

set_option maxHeartbeats 1000000 in
theorem shapeOK (op : Int) (w : World) (h0 : 1 ≤ op) (h1 : op ≤ 64) :
    Calls Tryz.prog 62 #[.int .i64 op] w fun e w' => e = .returned (.tuple #[shV (shT op), .int .i64 0]) ∧ Below w.heap.size w w' := by
  go_enter Tryz.func62, Tryz.ntmps62
  go_wp2_with fail
  refine (inside_ok _ op 1 64 _ h0 h1).mono ?_
  rintro e w1 ⟨rfl, rfl⟩
  go_wp2_with fail
  refine (shapeC op _).mono ?_
  rintro e w1 ⟨rfl, hb⟩
  obtain ⟨hc, hf⟩ := bcell hb
  have hz : w.heap.size < w1.heap.size := by have := hb.size; simp at this; omega
  unfold shV at *
  go_wp2
  refine bodyPost_ret (v := .tuple #[shV (shT op), .int .i64 0]) (by simp [results, Tryz.results62, go_sem, hc]; rfl) rfl ⟨rfl, ?_⟩
  exact ((((((Below.refl _ _).alloc (Nat.le_refl _) _).trans (hb.mono (by simp))).setCell (Nat.le_refl _) _).setCell (Nat.le_refl _) _).setCell (Nat.le_refl _) _).setCell (Nat.le_refl _) _

set_option maxHeartbeats 1000000 in
theorem shapeNo (op : Int) (w : World) (hL : Laid w) (h : op < 1 ∨ 64 < op) :
    Calls Tryz.prog 62 #[.int .i64 op] w fun e w' => e = .returned (.tuple #[shV (0, 0, 0, 0), .int .i64 4]) ∧ Below w.heap.size w w' := by
  obtain ⟨a0, a1, hL⟩ := hL
  go_enter Tryz.func62, Tryz.ntmps62
  go_wp2_with fail
  refine (inside_no _ op 1 64 _ a0 a1 (hL.below ((Below.refl _ _).alloc (Nat.le_refl _) _)) h).mono ?_
  rintro e w1 ⟨rfl, rfl⟩
  go_wp2_with fail
  refine (code_range _ _ a0 a1 (hL.below ((Below.refl _ _).alloc (Nat.le_refl _) _))).mono ?_
  rintro e w1 ⟨rfl, hb⟩
  clear hL h
  obtain ⟨hc, hf⟩ := bcell hb
  have hz : w.heap.size < w1.heap.size := by have := hb.size; simp at this; omega
  go_wp2
  refine bodyPost_ret (v := .tuple #[shV (0, 0, 0, 0), .int .i64 4]) (by simp [results, Tryz.results62, go_sem, hc]; rfl) rfl ⟨rfl, ?_⟩
  exact ((((((Below.refl _ _).alloc (Nat.le_refl _) _).trans (hb.mono (by simp))).setCell (Nat.le_refl _) _).setCell (Nat.le_refl _) _).setCell (Nat.le_refl _) _).setCell (Nat.le_refl _) _
end Go.Proofs.YtiandbhcjecphaaGreatDoor

namespace Go.Proofs.YtiandbhcjecphaaGreatDoor
open Go.RowKit
set_option linter.unusedVariables false

theorem low0 (w : World) : Calls Tryz.prog 71 #[.int .i64 0] w fun e w' => e = .returned (.int .i64 0) ∧ w' = w := by
  go_enter Tryz.func71, Tryz.ntmps71
  go_wp2
  go_ret
  exact ⟨rfl, rfl⟩
theorem low1 (w : World) : Calls Tryz.prog 71 #[.int .i64 1] w fun e w' => e = .returned (.int .i64 1) ∧ w' = w := by
  go_enter Tryz.func71, Tryz.ntmps71
  go_wp2
  go_ret
  exact ⟨rfl, rfl⟩
theorem low4 (w : World) : Calls Tryz.prog 71 #[.int .i64 4] w fun e w' => e = .returned (.int .i64 15) ∧ w' = w := by
  go_enter Tryz.func71, Tryz.ntmps71
  go_wp2
  go_ret
  exact ⟨rfl, rfl⟩
theorem low5 (w : World) : Calls Tryz.prog 71 #[.int .i64 5] w fun e w' => e = .returned (.int .i64 31) ∧ w' = w := by
  go_enter Tryz.func71, Tryz.ntmps71
  go_wp2
  go_ret
  exact ⟨rfl, rfl⟩
theorem low6 (w : World) : Calls Tryz.prog 71 #[.int .i64 6] w fun e w' => e = .returned (.int .i64 63) ∧ w' = w := by
  go_enter Tryz.func71, Tryz.ntmps71
  go_wp2
  go_ret
  exact ⟨rfl, rfl⟩
theorem low7 (w : World) : Calls Tryz.prog 71 #[.int .i64 7] w fun e w' => e = .returned (.int .i64 127) ∧ w' = w := by
  go_enter Tryz.func71, Tryz.ntmps71
  go_wp2
  go_ret
  exact ⟨rfl, rfl⟩
theorem low8 (w : World) : Calls Tryz.prog 71 #[.int .i64 8] w fun e w' => e = .returned (.int .i64 255) ∧ w' = w := by
  go_enter Tryz.func71, Tryz.ntmps71
  go_wp2
  go_ret
  exact ⟨rfl, rfl⟩
theorem low10 (w : World) : Calls Tryz.prog 71 #[.int .i64 10] w fun e w' => e = .returned (.int .i64 1023) ∧ w' = w := by
  go_enter Tryz.func71, Tryz.ntmps71
  go_wp2
  go_ret
  exact ⟨rfl, rfl⟩
theorem low12 (w : World) : Calls Tryz.prog 71 #[.int .i64 12] w fun e w' => e = .returned (.int .i64 4095) ∧ w' = w := by
  go_enter Tryz.func71, Tryz.ntmps71
  go_wp2
  go_ret
  exact ⟨rfl, rfl⟩
theorem low20 (w : World) : Calls Tryz.prog 71 #[.int .i64 20] w fun e w' => e = .returned (.int .i64 1048575) ∧ w' = w := by
  go_enter Tryz.func71, Tryz.ntmps71
  go_wp2
  go_ret
  exact ⟨rfl, rfl⟩
def rule1 : Value := .agg #[.int .i64 32, .int .i64 12, .int .i64 20, .int .i64 12, .int .i64 0, .int .i64 0, .int .i64 0, .int .i64 0, .int .i64 0, .int .i64 0, .int .i64 0, .int .i64 0, .int .i64 0]
def rule2 : Value := .agg #[.int .i64 21, .int .i64 12, .int .i64 8, .int .i64 12, .int .i64 11, .int .i64 1, .int .i64 20, .int .i64 1, .int .i64 10, .int .i64 21, .int .i64 20, .int .i64 1, .int .i64 31]
def rule3 : Value := .agg #[.int .i64 12, .int .i64 0, .int .i64 12, .int .i64 20, .int .i64 0, .int .i64 0, .int .i64 0, .int .i64 0, .int .i64 0, .int .i64 0, .int .i64 0, .int .i64 0, .int .i64 0]
def rule4 : Value := .agg #[.int .i64 13, .int .i64 11, .int .i64 1, .int .i64 7, .int .i64 1, .int .i64 4, .int .i64 8, .int .i64 5, .int .i64 6, .int .i64 25, .int .i64 12, .int .i64 1, .int .i64 31]
def rule5 : Value := .agg #[.int .i64 12, .int .i64 0, .int .i64 5, .int .i64 7, .int .i64 5, .int .i64 7, .int .i64 25, .int .i64 0, .int .i64 0, .int .i64 0, .int .i64 0, .int .i64 0, .int .i64 0]
def rule6 : Value := .agg #[.int .i64 0, .int .i64 0, .int .i64 6, .int .i64 20, .int .i64 0, .int .i64 0, .int .i64 0, .int .i64 0, .int .i64 0, .int .i64 0, .int .i64 0, .int .i64 0, .int .i64 0]
def rule7 : Value := .agg #[.int .i64 0, .int .i64 0, .int .i64 5, .int .i64 20, .int .i64 0, .int .i64 0, .int .i64 0, .int .i64 0, .int .i64 0, .int .i64 0, .int .i64 0, .int .i64 0, .int .i64 0]
def rule8 : Value := .agg #[.int .i64 0, .int .i64 0, .int .i64 0, .int .i64 0, .int .i64 0, .int .i64 0, .int .i64 0, .int .i64 0, .int .i64 0, .int .i64 0, .int .i64 0, .int .i64 0, .int .i64 0]

theorem rule_none (f : Int) (hf : f = 8 ∨ f = 9 ∨ f = 0) (w : World) : Calls Tryz.prog 46 #[.int .i64 f] w fun e w' => e = .returned rule8 ∧ Below w.heap.size w w' := by
  rcases hf with rfl | rfl | rfl
  all_goals
    go_enter Tryz.func46, Tryz.ntmps46
    go_wp2
    exact bodyPost_ret (v := rule8) (by simp [results, Tryz.results46, go_sem]; rfl) rfl ⟨rfl, (Below.refl _ _).alloc (Nat.le_refl _) _⟩
set_option maxHeartbeats 4000000 in
theorem rule_1 (w : World) : Calls Tryz.prog 46 #[.int .i64 1] w fun e w' => e = .returned rule1 ∧ Below w.heap.size w w' := by
  go_enter Tryz.func46, Tryz.ntmps46
  go_wp2
  exact bodyPost_ret (v := rule1) (by simp [results, Tryz.results46, go_sem]; rfl) rfl ⟨rfl, (Below.refl _ _).alloc (Nat.le_refl _) _⟩
set_option maxHeartbeats 4000000 in
theorem rule_2 (w : World) : Calls Tryz.prog 46 #[.int .i64 2] w fun e w' => e = .returned rule2 ∧ Below w.heap.size w w' := by
  go_enter Tryz.func46, Tryz.ntmps46
  go_wp2
  exact bodyPost_ret (v := rule2) (by simp [results, Tryz.results46, go_sem]; rfl) rfl ⟨rfl, (Below.refl _ _).alloc (Nat.le_refl _) _⟩
set_option maxHeartbeats 4000000 in
theorem rule_3 (w : World) : Calls Tryz.prog 46 #[.int .i64 3] w fun e w' => e = .returned rule3 ∧ Below w.heap.size w w' := by
  go_enter Tryz.func46, Tryz.ntmps46
  go_wp2
  exact bodyPost_ret (v := rule3) (by simp [results, Tryz.results46, go_sem]; rfl) rfl ⟨rfl, (Below.refl _ _).alloc (Nat.le_refl _) _⟩
set_option maxHeartbeats 4000000 in
theorem rule_4 (w : World) : Calls Tryz.prog 46 #[.int .i64 4] w fun e w' => e = .returned rule4 ∧ Below w.heap.size w w' := by
  go_enter Tryz.func46, Tryz.ntmps46
  go_wp2
  exact bodyPost_ret (v := rule4) (by simp [results, Tryz.results46, go_sem]; rfl) rfl ⟨rfl, (Below.refl _ _).alloc (Nat.le_refl _) _⟩
set_option maxHeartbeats 4000000 in
theorem rule_5 (w : World) : Calls Tryz.prog 46 #[.int .i64 5] w fun e w' => e = .returned rule5 ∧ Below w.heap.size w w' := by
  go_enter Tryz.func46, Tryz.ntmps46
  go_wp2
  exact bodyPost_ret (v := rule5) (by simp [results, Tryz.results46, go_sem]; rfl) rfl ⟨rfl, (Below.refl _ _).alloc (Nat.le_refl _) _⟩
set_option maxHeartbeats 4000000 in
theorem rule_6 (w : World) : Calls Tryz.prog 46 #[.int .i64 6] w fun e w' => e = .returned rule6 ∧ Below w.heap.size w w' := by
  go_enter Tryz.func46, Tryz.ntmps46
  go_wp2
  exact bodyPost_ret (v := rule6) (by simp [results, Tryz.results46, go_sem]; rfl) rfl ⟨rfl, (Below.refl _ _).alloc (Nat.le_refl _) _⟩
set_option maxHeartbeats 4000000 in
theorem rule_7 (w : World) : Calls Tryz.prog 46 #[.int .i64 7] w fun e w' => e = .returned rule7 ∧ Below w.heap.size w w' := by
  go_enter Tryz.func46, Tryz.ntmps46
  go_wp2
  exact bodyPost_ret (v := rule7) (by simp [results, Tryz.results46, go_sem]; rfl) rfl ⟨rfl, (Below.refl _ _).alloc (Nat.le_refl _) _⟩
end Go.Proofs.YtiandbhcjecphaaGreatDoor

namespace Go.Proofs.YtiandbhcjecphaaGreatDoor
open Go.RowKit
set_option linter.unusedVariables false
theorem idx0 (a b c d e f g h i j k l : Int) (w : World) : (Instr.index 77 (.agg #[.int .i64 a, .int .i64 b, .int .i64 c, .int .i64 d, .int .i64 e, .int .i64 f, .int .i64 g, .int .i64 h, .int .i64 i, .int .i64 j, .int .i64 k, .int .i64 l]) (.int .i64 0)).run Tryz.prog w = .ok (.agg #[.int .i64 a, .int .i64 b, .int .i64 c]) w := by
  kernel_rfl
theorem idx1 (a b c d e f g h i j k l : Int) (w : World) : (Instr.index 77 (.agg #[.int .i64 a, .int .i64 b, .int .i64 c, .int .i64 d, .int .i64 e, .int .i64 f, .int .i64 g, .int .i64 h, .int .i64 i, .int .i64 j, .int .i64 k, .int .i64 l]) (.int .i64 1)).run Tryz.prog w = .ok (.agg #[.int .i64 d, .int .i64 e, .int .i64 f]) w := by
  kernel_rfl
theorem idx2 (a b c d e f g h i j k l : Int) (w : World) : (Instr.index 77 (.agg #[.int .i64 a, .int .i64 b, .int .i64 c, .int .i64 d, .int .i64 e, .int .i64 f, .int .i64 g, .int .i64 h, .int .i64 i, .int .i64 j, .int .i64 k, .int .i64 l]) (.int .i64 2)).run Tryz.prog w = .ok (.agg #[.int .i64 g, .int .i64 h, .int .i64 i]) w := by
  kernel_rfl
theorem idx3 (a b c d e f g h i j k l : Int) (w : World) : (Instr.index 77 (.agg #[.int .i64 a, .int .i64 b, .int .i64 c, .int .i64 d, .int .i64 e, .int .i64 f, .int .i64 g, .int .i64 h, .int .i64 i, .int .i64 j, .int .i64 k, .int .i64 l]) (.int .i64 3)).run Tryz.prog w = .ok (.agg #[.int .i64 j, .int .i64 k, .int .i64 l]) w := by
  kernel_rfl
theorem bdN {B : Nat} {a w : World} (h : Below B a w) (n : Nat) : Below B a (w.drewN n) := h.trans ⟨rfl, rfl, rfl, Nat.le_refl _, fun _ _ => rfl⟩
end Go.Proofs.YtiandbhcjecphaaGreatDoor
