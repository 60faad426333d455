/- The model's check of functions: its small questions. The model's check of functions: where jumps go. The model's rule for one instruction. The model's rule for one instruction that goes nowhere: its cases, 1. -/
import Derived.Test.YtiandbhcjecphaaGreatDoorGLShape34
namespace Go.Proofs.YtiandbhcjecphaaGreatDoor
open Go Go.RowKit
set_option linter.unusedVariables false

set_option maxHeartbeats 1000000 in
/-- Is a number among others? -/
theorem hasIntC (p : Option Addr) (c : Nat) (zs : List Int) (x : Int) (w : World) (hn : zs.length ≤ 1048576) (hp : IntsAt w p zs) :
    Calls Tryz.prog 97 #[.slice p zs.length c, .int .i64 x] w fun e w' => e = .returned (.bool (hasB zs x)) ∧ w' = w := by
  obtain ⟨n, hN⟩ : ∃ n, zs.length = n := ⟨_, rfl⟩
  rw [hN] at hn ⊢
  go_enter Tryz.func97, Tryz.ntmps97
  go_wp2
  go_loop [5] (fun i => ∃ k : Nat, k ≤ n ∧ i = .int .i64 k ∧ ∀ j, j < k → zs.getD j 0 ≠ x) (fun i => n - (intOf i).toNat)
  case atStart => exact ⟨0, Nat.zero_le _, rfl, fun j hj => absurd hj (Nat.not_lt_zero _)⟩
  case round =>
    obtain ⟨k, hk, rfl, hno⟩ := hrel
    by_cases hlt : k < n
    · rcases hp with hp | ⟨b, o, rfl, hb, hp⟩
      · omega
      have hx : w.cell? ⟨b, o + k, none⟩ = some (.int .i64 (zs.getD k 0)) := hp k (by omega)
      by_cases e : zs.getD k 0 = x
      · have hx' : w.cell? ⟨b, o + k, none⟩ = some (.int .i64 x) := by rw [← e]; exact hx
        have hm : x ∈ zs := by
          rw [← e]
          have : zs.getD k 0 = zs[k]'(by omega) := by simp [List.getD, hN, hlt]
          rw [this]
          exact List.getElem_mem _
        have hB : hasB zs x = true := by unfold hasB; simpa using hm
        have HB : Hid (hasB zs x = true) := hB
        clear hp hx hm hB
        go_wp2
        go_ret
        exact ⟨by rw [HB.out]; rfl, rfl⟩
      · have e' : ¬ (x = zs.getD k 0) := fun h => e h.symm
        obtain ⟨y, hy⟩ : ∃ y, zs.getD k 0 = y := ⟨_, rfl⟩
        rw [hy] at hx e e'
        have HY : Hid (zs.getD k 0 = y) := hy
        clear hp hy
        go_wp2
        go_round
        case rel => exact ⟨k + 1, by omega, by go_num, fun j hj => by
          rcases Nat.lt_succ_iff_lt_or_eq.1 hj with h | rfl
          · exact hno j h
          · rw [HY.out]; exact e⟩
        case measure => simp [intOf]; omega
    · obtain rfl : k = n := by omega
      have hB : hasB zs x = false := by
        unfold hasB
        rw [← Bool.not_eq_true]
        intro h
        obtain ⟨j, hj, e⟩ := List.mem_iff_getElem.1 (by simpa using h : x ∈ zs)
        exact absurd (by simp [List.getD, hj, e]) (hno j (by omega))
      have HB : Hid (hasB zs x = false) := hB
      clear hB
      go_wp2
      go_ret
      exact ⟨by rw [HB.out]; rfl, rfl⟩

/-- Three instructions held against an epilogue's. -/
def e3 (R : Nat → Int) (f : Int) (i k : Nat) : Bool := sm5 (R ((i + k) * 5)) (R ((i + k) * 5 + 1)) (R ((i + k) * 5 + 2)) (R ((i + k) * 5 + 3)) (R ((i + k) * 5 + 4)) (epiR f (k * 5)) (epiR f (k * 5 + 1)) (epiR f (k * 5 + 2)) (epiR f (k * 5 + 3)) (epiR f (k * 5 + 4))
theorem e3_epB {R : Nat → Int} {N : Nat} {f : Int} {i : Nat} (h2 : 2 ≤ i) (hN : i + 3 ≤ N) : epB R N f i = (e3 R f i 0 && (e3 R f i 1 && e3 R f i 2)) := by
  rw [Bool.eq_iff_iff, epB_iff, Bool.and_eq_true, Bool.and_eq_true]
  have key : ∀ k, e3 R f i k = true ↔ ∀ j, j < 5 → R ((i + k) * 5 + j) = epiR f (k * 5 + j) := fun k => by
    unfold e3
    rw [sm5_iff]
    constructor
    · rintro ⟨a0, a1, a2, a3, a4⟩ j hj
      match j, hj with
      | 0, _ => exact a0
      | 1, _ => exact a1
      | 2, _ => exact a2
      | 3, _ => exact a3
      | 4, _ => exact a4
    · intro a
      exact ⟨a 0 (by omega), a 1 (by omega), a 2 (by omega), a 3 (by omega), a 4 (by omega)⟩
  rw [key, key, key]
  constructor
  · rintro ⟨_, h⟩
    refine ⟨fun j hj => ?_, fun j hj => ?_, fun j hj => ?_⟩
    · have := h j (by omega); simpa using this
    · have := h (5 + j) (by omega); rw [show (i + 1) * 5 + j = i * 5 + (5 + j) from by omega, show 1 * 5 + j = 5 + j from by omega]; exact this
    · have := h (10 + j) (by omega); rw [show (i + 2) * 5 + j = i * 5 + (10 + j) from by omega, show 2 * 5 + j = 10 + j from by omega]; exact this
  · rintro ⟨h0, h1, h2'⟩
    refine ⟨⟨h2, hN⟩, fun j hj => ?_⟩
    by_cases a : j < 5
    · have := h0 j a; simpa using this
    · by_cases b : j < 10
      · have := h1 (j - 5) (by omega)
        rwa [show (i + 1) * 5 + (j - 5) = i * 5 + j from by omega, show 1 * 5 + (j - 5) = j from by omega] at this
      · have := h2' (j - 10) (by omega)
        rwa [show (i + 2) * 5 + (j - 10) = i * 5 + j from by omega, show 2 * 5 + (j - 10) = j from by omega] at this

theorem specEndsLow (g N c i : Nat) (f : Int) (w : World) (hf : frB f = true) (hi : i < 2) :
    Calls Tryz.prog 96 #[.slice (some ⟨g, 0, none⟩) N c, .int .i64 i, .int .i64 f] w fun e w' => e = .returned (.bool false) ∧ Below w.heap.size w w' := by
  have hi' : decide ((2 : Int) ≤ (i : Int)) = false := by rw [decide_eq_false_iff_not]; omega
  go_enter Tryz.func96, Tryz.ntmps96
  go_wp2_with fail
  refine (epiSpec0 f _ hf).mono ?_
  rintro e w1 ⟨G, rfl, hb, hG0, hG1, hfl⟩
  clear hfl
  go_wp2_with fail
  go_region
  go_wp2_with fail
  go_ret
  exact ⟨rfl, hb.drew⟩
theorem specEndsHigh (g N c i : Nat) (f : Int) (w : World) (hf : frB f = true) (hN : N ≤ 64) (hi : i < 1000) (h2 : 2 ≤ i) (h3 : N < i + 3) :
    Calls Tryz.prog 96 #[.slice (some ⟨g, 0, none⟩) N c, .int .i64 i, .int .i64 f] w fun e w' => e = .returned (.bool false) ∧ Below w.heap.size w w' := by
  have h4 : decide ((i : Int) + 2 < (N : Int)) = false := by rw [decide_eq_false_iff_not]; omega
  have hi' : decide ((2 : Int) ≤ (i : Int)) = true := by rw [decide_eq_true_eq]; omega
  go_enter Tryz.func96, Tryz.ntmps96
  go_wp2_with fail
  refine (epiSpec0 f _ hf).mono ?_
  rintro e w1 ⟨G, rfl, hb, hG0, hG1, hfl⟩
  clear hfl
  go_wp2_with fail
  go_region
  go_wp2_with fail
  go_ret
  exact ⟨rfl, hb.drew⟩
set_option maxRecDepth 100000 in
set_option maxHeartbeats 4000000 in
theorem specEndsMid (g N c i : Nat) (f : Int) (R : Nat → Int) (w : World) (hg : g < w.heap.size) (hf : frB f = true) (hN : N ≤ 64) (h2 : 2 ≤ i) (h3 : i + 3 ≤ N) (hl : Rdb w g 0 (N * 5) R) :
    Calls Tryz.prog 96 #[.slice (some ⟨g, 0, none⟩) N c, .int .i64 i, .int .i64 f] w fun e w' => e = .returned (.bool (e3 R f i 0 && (e3 R f i 1 && e3 R f i 2))) ∧ Below w.heap.size w w' := by
  have h4 : decide ((i : Int) + 2 < (N : Int)) = true := by rw [decide_eq_true_eq]; omega
  have hi' : decide ((2 : Int) ≤ (i : Int)) = true := by rw [decide_eq_true_eq]; omega
  have hi0 : i < N := by omega
  have hi1 : i + 1 < N := by omega
  have hi2 : i + 2 < N := by omega
  have q0 := fun w => eqlIns (R (i * 5)) (R (i * 5 + 1)) (R (i * 5 + 2)) (R (i * 5 + 3)) (R (i * 5 + 4)) (epiR f 0) (epiR f 1) (epiR f 2) (epiR f 3) (epiR f 4) w
  have q1 := fun w => eqlIns (R ((i + 1) * 5)) (R ((i + 1) * 5 + 1)) (R ((i + 1) * 5 + 2)) (R ((i + 1) * 5 + 3)) (R ((i + 1) * 5 + 4)) (epiR f 5) (epiR f 6) (epiR f 7) (epiR f 8) (epiR f 9) w
  have q2 := fun w => eqlIns (R ((i + 2) * 5)) (R ((i + 2) * 5 + 1)) (R ((i + 2) * 5 + 2)) (R ((i + 2) * 5 + 3)) (R ((i + 2) * 5 + 4)) (epiR f 10) (epiR f 11) (epiR f 12) (epiR f 13) (epiR f 14) w
  have e0 : e3 R f i 0 = sm5 (R (i * 5)) (R (i * 5 + 1)) (R (i * 5 + 2)) (R (i * 5 + 3)) (R (i * 5 + 4)) (epiR f 0) (epiR f 1) (epiR f 2) (epiR f 3) (epiR f 4) := rfl
  have e1 : e3 R f i 1 = sm5 (R ((i + 1) * 5)) (R ((i + 1) * 5 + 1)) (R ((i + 1) * 5 + 2)) (R ((i + 1) * 5 + 3)) (R ((i + 1) * 5 + 4)) (epiR f 5) (epiR f 6) (epiR f 7) (epiR f 8) (epiR f 9) := rfl
  have e2 : e3 R f i 2 = sm5 (R ((i + 2) * 5)) (R ((i + 2) * 5 + 1)) (R ((i + 2) * 5 + 2)) (R ((i + 2) * 5 + 3)) (R ((i + 2) * 5 + 4)) (epiR f 10) (epiR f 11) (epiR f 12) (epiR f 13) (epiR f 14) := rfl
  rw [← e0] at q0
  rw [← e1] at q1
  rw [← e2] at q2
  obtain ⟨b0, c0⟩ : ∃ b, e3 R f i 0 = b := ⟨_, rfl⟩
  obtain ⟨b1, c1⟩ : ∃ b, e3 R f i 1 = b := ⟨_, rfl⟩
  obtain ⟨b2, c2⟩ : ∃ b, e3 R f i 2 = b := ⟨_, rfl⟩
  rw [c0] at q0
  rw [c1] at q1
  rw [c2] at q2
  rw [c0, c1, c2]
  clear e0 e1 e2 c0 c1 c2
  have x0 := hl.five hi0
  have x1 := hl.five hi1
  have x2 := hl.five hi2
  obtain ⟨x00, x01, x02, x03, x04⟩ := x0
  obtain ⟨x10, x11, x12, x13, x14⟩ := x1
  obtain ⟨x20, x21, x22, x23, x24⟩ := x2
  simp only [Nat.zero_add] at x00 x01 x02 x03 x04 x10 x11 x12 x13 x14 x20 x21 x22 x23 x24
  have key : ∀ r, (b0 && (b1 && b2)) = r → Calls Tryz.prog 96 #[.slice (some ⟨g, 0, none⟩) N c, .int .i64 i, .int .i64 f] w fun e w' => e = .returned (.bool r) ∧ Below w.heap.size w w' := by
    intro r hr
    go_enter Tryz.func96, Tryz.ntmps96
    go_wp2_with fail
    refine (epiSpec0 f _ hf).mono ?_
    rintro e w1 ⟨G, rfl, hb, hG0, hG1, hfl⟩
    have hgu := guardIns
    have x00 := (hb.cell (p := ⟨g, i * 5, none⟩) hg).trans x00
    have x01 := (hb.cell (p := ⟨g, i * 5 + 1, none⟩) hg).trans x01
    have x02 := (hb.cell (p := ⟨g, i * 5 + 2, none⟩) hg).trans x02
    have x03 := (hb.cell (p := ⟨g, i * 5 + 3, none⟩) hg).trans x03
    have x04 := (hb.cell (p := ⟨g, i * 5 + 4, none⟩) hg).trans x04
    have x10 := (hb.cell (p := ⟨g, (i + 1) * 5, none⟩) hg).trans x10
    have x11 := (hb.cell (p := ⟨g, (i + 1) * 5 + 1, none⟩) hg).trans x11
    have x12 := (hb.cell (p := ⟨g, (i + 1) * 5 + 2, none⟩) hg).trans x12
    have x13 := (hb.cell (p := ⟨g, (i + 1) * 5 + 3, none⟩) hg).trans x13
    have x14 := (hb.cell (p := ⟨g, (i + 1) * 5 + 4, none⟩) hg).trans x14
    have x20 := (hb.cell (p := ⟨g, (i + 2) * 5, none⟩) hg).trans x20
    have x21 := (hb.cell (p := ⟨g, (i + 2) * 5 + 1, none⟩) hg).trans x21
    have x22 := (hb.cell (p := ⟨g, (i + 2) * 5 + 2, none⟩) hg).trans x22
    have x23 := (hb.cell (p := ⟨g, (i + 2) * 5 + 3, none⟩) hg).trans x23
    have x24 := (hb.cell (p := ⟨g, (i + 2) * 5 + 4, none⟩) hg).trans x24
    have y0 : w1.cell? ⟨G, 0, none⟩ = some (.int .i64 (epiR f 0)) := (congrArg (fun o => w1.cell? ⟨G, o, none⟩) (Nat.zero_add 0).symm).trans (hfl 0 (by omega)).1
    have y1 : w1.cell? ⟨G, 1, none⟩ = some (.int .i64 (epiR f 1)) := (congrArg (fun o => w1.cell? ⟨G, o, none⟩) (Nat.zero_add 1).symm).trans (hfl 1 (by omega)).1
    have y2 : w1.cell? ⟨G, 2, none⟩ = some (.int .i64 (epiR f 2)) := (congrArg (fun o => w1.cell? ⟨G, o, none⟩) (Nat.zero_add 2).symm).trans (hfl 2 (by omega)).1
    have y3 : w1.cell? ⟨G, 3, none⟩ = some (.int .i64 (epiR f 3)) := (congrArg (fun o => w1.cell? ⟨G, o, none⟩) (Nat.zero_add 3).symm).trans (hfl 3 (by omega)).1
    have y4 : w1.cell? ⟨G, 4, none⟩ = some (.int .i64 (epiR f 4)) := (congrArg (fun o => w1.cell? ⟨G, o, none⟩) (Nat.zero_add 4).symm).trans (hfl 4 (by omega)).1
    have y5 : w1.cell? ⟨G, 5, none⟩ = some (.int .i64 (epiR f 5)) := (congrArg (fun o => w1.cell? ⟨G, o, none⟩) (Nat.zero_add 5).symm).trans (hfl 5 (by omega)).1
    have y6 : w1.cell? ⟨G, 6, none⟩ = some (.int .i64 (epiR f 6)) := (congrArg (fun o => w1.cell? ⟨G, o, none⟩) (Nat.zero_add 6).symm).trans (hfl 6 (by omega)).1
    have y7 : w1.cell? ⟨G, 7, none⟩ = some (.int .i64 (epiR f 7)) := (congrArg (fun o => w1.cell? ⟨G, o, none⟩) (Nat.zero_add 7).symm).trans (hfl 7 (by omega)).1
    have y8 : w1.cell? ⟨G, 8, none⟩ = some (.int .i64 (epiR f 8)) := (congrArg (fun o => w1.cell? ⟨G, o, none⟩) (Nat.zero_add 8).symm).trans (hfl 8 (by omega)).1
    have y9 : w1.cell? ⟨G, 9, none⟩ = some (.int .i64 (epiR f 9)) := (congrArg (fun o => w1.cell? ⟨G, o, none⟩) (Nat.zero_add 9).symm).trans (hfl 9 (by omega)).1
    have y10 : w1.cell? ⟨G, 10, none⟩ = some (.int .i64 (epiR f 10)) := (congrArg (fun o => w1.cell? ⟨G, o, none⟩) (Nat.zero_add 10).symm).trans (hfl 10 (by omega)).1
    have y11 : w1.cell? ⟨G, 11, none⟩ = some (.int .i64 (epiR f 11)) := (congrArg (fun o => w1.cell? ⟨G, o, none⟩) (Nat.zero_add 11).symm).trans (hfl 11 (by omega)).1
    have y12 : w1.cell? ⟨G, 12, none⟩ = some (.int .i64 (epiR f 12)) := (congrArg (fun o => w1.cell? ⟨G, o, none⟩) (Nat.zero_add 12).symm).trans (hfl 12 (by omega)).1
    have y13 : w1.cell? ⟨G, 13, none⟩ = some (.int .i64 (epiR f 13)) := (congrArg (fun o => w1.cell? ⟨G, o, none⟩) (Nat.zero_add 13).symm).trans (hfl 13 (by omega)).1
    have y14 : w1.cell? ⟨G, 14, none⟩ = some (.int .i64 (epiR f 14)) := (congrArg (fun o => w1.cell? ⟨G, o, none⟩) (Nat.zero_add 14).symm).trans (hfl 14 (by omega)).1
    clear hfl hl
    cases b0
    · subst hr
      go_wp2_with fail
      go_region
      go_wp2_with fail
      go_ret
      exact ⟨rfl, hb.drew⟩
    · cases b1
      · subst hr
        go_wp2_with fail
        go_region
        go_wp2_with fail
        go_ret
        exact ⟨rfl, hb.drew⟩
      · cases b2
        · subst hr
          go_wp2_with fail
          go_region
          go_wp2_with fail
          go_ret
          exact ⟨rfl, hb.drew⟩
        · subst hr
          go_wp2_with fail
          go_region
          go_wp2_with fail
          go_ret
          exact ⟨rfl, hb.drew⟩
  exact key _ rfl
theorem specEnds (g N c i : Nat) (f : Int) (R : Nat → Int) (w : World) (hg : g < w.heap.size) (hf : frB f = true) (hN : N ≤ 64) (hi : i < 1000) (hl : Rdb w g 0 (N * 5) R) :
    Calls Tryz.prog 96 #[.slice (some ⟨g, 0, none⟩) N c, .int .i64 i, .int .i64 f] w fun e w' => e = .returned (.bool (epB R N f i)) ∧ Below w.heap.size w w' := by
  by_cases h2 : 2 ≤ i
  · by_cases h3 : i + 3 ≤ N
    · rw [e3_epB h2 h3]
      exact specEndsMid g N c i f R w hg hf hN h2 h3 hl
    · rw [epB_low (.inr (by omega))]
      exact specEndsHigh g N c i f w hf hN hi h2 (by omega)
  · rw [epB_low (.inl (by omega))]
    exact specEndsLow g N c i f w hf (by omega)
end Go.Proofs.YtiandbhcjecphaaGreatDoor

namespace Go.Proofs.YtiandbhcjecphaaGreatDoor
open Go Go.RowKit
set_option linter.unusedVariables false

set_option maxRecDepth 100000 in
set_option maxHeartbeats 4000000 in
theorem specGoes (g N c i : Nat) (im f : Int) (R : Nat → Int) (w : World) (hg : g < w.heap.size) (hf : frB f = true) (hN : N ≤ 64) (hi : i < 1000) (hl : Rdb w g 0 (N * 5) R) (hi0 : -2147483648 ≤ im) (hi1 : im ≤ 2147483647) :
    Calls Tryz.prog 98 #[.slice (some ⟨g, 0, none⟩) N c, .int .i64 i, .int .i64 im, .int .i64 f] w fun e w' => e = .returned (.bool (goB R N f i im)) ∧ Below w.heap.size w w' := by
  by_cases hm : im % 4 = 0
  · obtain ⟨d, hd⟩ : ∃ d, im / 4 = d := ⟨_, rfl⟩
    have e1 : im = 4 * d := by omega
    subst e1
    have hm1 : (4 * d).tmod 4 = 0 := by rw [Int.mul_comm]; exact Int.mul_tmod_left d 4
    have hd1 : (4 * d).tdiv 4 = d := Int.mul_tdiv_cancel_left d (by omega)
    by_cases ht0 : (i : Int) + d < 2
    · have hg' : goB R N f i (4 * d) = false := by unfold goB; simp [hd]; omega
      rw [hg']
      have ht : ¬ (2 ≤ (i : Int) + d) := by omega
      have ht' : decide (2 ≤ (i : Int) + d) = false := by rw [decide_eq_false_iff_not]; omega
      clear hd hm
      go_enter Tryz.func98, Tryz.ntmps98
      go_wp2_with fail
      go_ret
      exact ⟨rfl, Below.refl _ _⟩
    · by_cases ht1 : (N : Int) ≤ (i : Int) + d
      · have hg' : goB R N f i (4 * d) = false := by unfold goB; simp [hd]; omega
        rw [hg']
        clear hd hm
        go_enter Tryz.func98, Tryz.ntmps98
        go_wp2_with fail
        go_ret
        exact ⟨rfl, Below.refl _ _⟩
      · obtain ⟨u, ht⟩ : ∃ u : Nat, (i : Int) + d = u + 2 := ⟨((i : Int) + d - 2).toNat, by omega⟩
        have hg' : goB R N f i (4 * d) = (!epB R N f (u + 1) && !epB R N f u) := by
          unfold goB
          rw [hd, ht, show ((u : Int) + 2).toNat = u + 2 from by omega]
          simp
          omega
        rw [hg']
        have huN : u + 2 < N := by omega
        have E1 := fun w' h1 h2 => specEnds g N c (u + 1) f R w' h1 hf hN (by omega) h2
        have E0 := fun w' h1 h2 => specEnds g N c u f R w' h1 hf hN (by omega) h2
        obtain ⟨b1, hb1⟩ : ∃ b, epB R N f (u + 1) = b := ⟨_, rfl⟩
        obtain ⟨b0, hb0⟩ : ∃ b, epB R N f u = b := ⟨_, rfl⟩
        rw [hb1] at E1
        rw [hb0] at E0
        rw [hb1, hb0]
        clear hd hm hb1 hb0 hg'
        cases b1
        · go_enter Tryz.func98, Tryz.ntmps98
          go_wp2_with fail
          rw [show ((u : Int) + 2 - 1) = ((u + 1 : Nat) : Int) from by omega]
          refine (E1 _ hg hl).mono ?_
          rintro e w1 ⟨rfl, hb1⟩
          have hg1 := Nat.lt_of_lt_of_le hg hb1.size
          have hl1 := hl.below hb1 hg
          go_wp2_with fail
          refine (E0 _ hg1 hl1).mono ?_
          rintro e w2 ⟨rfl, hb2⟩
          have hb := hb1.trans (hb2.mono hb1.size)
          clear hl1 hb1 hb2 hl
          go_wp2_with fail
          go_ret
          exact ⟨rfl, hb⟩
        · go_enter Tryz.func98, Tryz.ntmps98
          go_wp2_with fail
          rw [show ((u : Int) + 2 - 1) = ((u + 1 : Nat) : Int) from by omega]
          refine (E1 _ hg hl).mono ?_
          rintro e w1 ⟨rfl, hb1⟩
          clear hl
          go_wp2_with fail
          go_ret
          exact ⟨rfl, hb1⟩
  · have hg' : goB R N f i im = false := by unfold goB; simp [hm]
    have hm1 : ¬ (im.tmod 4 = 0) := by
      intro e
      exact hm (Int.emod_eq_zero_of_dvd (Int.dvd_of_tmod_eq_zero e))
    rw [hg']
    go_enter Tryz.func98, Tryz.ntmps98
    go_wp2_with fail
    go_ret
    exact ⟨rfl, Below.refl _ _⟩
end Go.Proofs.YtiandbhcjecphaaGreatDoor

namespace Go.Proofs.YtiandbhcjecphaaGreatDoor
open Go Go.RowKit
set_option linter.unusedVariables false

/-- What the model's check reads: a list, what may be called. -/
structure MdIs (w : World) (g N : Nat) (R : Nat → Int) (pc : Option Addr) (zs : List Int) : Prop where
  l : Rdb w g 0 (N * 5) R
  lg : g < w.heap.size
  z : IntsAt w pc zs
theorem MdIs.below {w w' : World} {g N : Nat} {R : Nat → Int} {pc : Option Addr} {zs : List Int} (h : MdIs w g N R pc zs) (hb : Below w.heap.size w w') : MdIs w' g N R pc zs :=
  ⟨h.l.below hb h.lg, Nat.lt_of_lt_of_le h.lg hb.size, h.z.below hb⟩
/-- An instruction in a block of its own. -/
structure XIs (w : World) (X : Nat) (op rd r1 r2 im : Int) : Prop where
  x0 : w.cell? ⟨X, 0, none⟩ = some (.int .i64 op)
  x1 : w.cell? ⟨X, 1, none⟩ = some (.int .i64 rd)
  x2 : w.cell? ⟨X, 2, none⟩ = some (.int .i64 r1)
  x4 : w.cell? ⟨X, 4, none⟩ = some (.int .i64 im)
  lx : X < w.heap.size
theorem XIs.below {w w' : World} {X : Nat} {op rd r1 r2 im : Int} (h : XIs w X op rd r1 r2 im) (hb : Below w.heap.size w w') : XIs w' X op rd r1 r2 im :=
  ⟨(hb.cell (p := ⟨X, 0, none⟩) h.lx).trans h.x0, (hb.cell (p := ⟨X, 1, none⟩) h.lx).trans h.x1, (hb.cell (p := ⟨X, 2, none⟩) h.lx).trans h.x2, (hb.cell (p := ⟨X, 4, none⟩) h.lx).trans h.x4, Nat.lt_of_lt_of_le h.lx hb.size⟩

section
variable {g N c : Nat} {pc : Option Addr} {cc : Nat} {at' f : Int} {R : Nat → Int} {zs : List Int}
set_option maxRecDepth 100000 in
set_option maxHeartbeats 8000000 in
theorem sruJalr (i : Nat) (w : World) (h : MdIs w g N R pc zs) (hi : i < N) (h2 : 2 ≤ i) (hN : N ≤ 64) (hf : frB f = true) (a0 : 0 ≤ at') (a1 : at' ≤ 1048575) (hz : zs.length ≤ 1048576) (hs : Small5 R i) (hop : R (i * 5) = 4) :
    Calls Tryz.prog 60 #[.slice (some ⟨g, 0, none⟩) N c, .int .i64 i, .int .i64 at', .int .i64 f, .slice pc zs.length cc] w fun e w' => e = .returned (.int .i64 (ruI R N f at' zs wdN i)) ∧ Below w.heap.size w w' := by
  obtain ⟨f0, f1, _⟩ := frB_bd hf
  obtain ⟨K, hK⟩ : ∃ K, zs.length = K := ⟨_, rfl⟩
  obtain ⟨x0, x1, x2, x3, x4⟩ := h.l.five hi
  simp only [Nat.zero_add] at x0 x1 x2 x3 x4
  obtain ⟨op, ho⟩ : ∃ op, R (i * 5) = op := ⟨_, rfl⟩
  obtain ⟨rd, hr⟩ : ∃ rd, R (i * 5 + 1) = rd := ⟨_, rfl⟩
  obtain ⟨r1, hr1⟩ : ∃ r1, R (i * 5 + 2) = r1 := ⟨_, rfl⟩
  obtain ⟨r2, hr2⟩ : ∃ r2, R (i * 5 + 3) = r2 := ⟨_, rfl⟩
  obtain ⟨im, him⟩ : ∃ im, R (i * 5 + 4) = im := ⟨_, rfl⟩
  have o0 := hs.o0
  have o1 := hs.o1
  have i0 := hs.i0
  have i1 := hs.i1
  rw [ho] at x0 o0 o1
  rw [hr] at x1
  rw [hr1] at x2
  rw [hr2] at x3
  rw [him] at x4 i0 i1
  have B1 : Below w.heap.size w (w.alloc (.cells #[.int .i64 op, .int .i64 rd, .int .i64 r1, .int .i64 r2, .int .i64 im] 39)) := (Below.refl _ _).alloc (Nat.le_refl _) _
  have h1 := h.below B1
  have hx1 : XIs (w.alloc (.cells #[.int .i64 op, .int .i64 rd, .int .i64 r1, .int .i64 r2, .int .i64 im] 39)) w.heap.size op rd r1 r2 im := ⟨by simp, by simp, by simp, by simp, by simp⟩
  have HB : Hid (Below w.heap.size w (w.alloc (.cells #[.int .i64 op, .int .i64 rd, .int .i64 r1, .int .i64 r2, .int .i64 im] 39))) := B1
  have E := fun (j : Nat) w' (h1 : MdIs w' g N R pc zs) (hj : j < 1000) => specEnds g N c j f R w' h1.lg hf hN hj h1.l
  have G := fun w' (h1 : MdIs w' g N R pc zs) => specGoes g N c i im f R w' h1.lg hf hN (by omega) h1.l i0 i1
  have C := fun w' (x : Int) (h1 : MdIs w' g N R pc zs) => hasIntC pc cc zs x w' hz h1.z
  rw [hK] at C hz ⊢
  clear B1 hr2 h
  by_cases h4 : op = 4
  · subst h4
    rw [ru_jalr ho]
    have E2 := fun w' h1 => E (i - 2) w' h1 (by omega)
    obtain ⟨b, hb⟩ : ∃ b, epB R N f (i - 2) = b := ⟨_, rfl⟩
    rw [hb] at E2 ⊢
    clear hb ho hr hr1 him E G C
    go_enter Tryz.func60, Tryz.ntmps60
    go_wp2_with (go_at_call 95; refine (specWidOut 4 _ (by omega)).mono ?_; rintro e w' ⟨rfl, rfl⟩)
    rw [show ((i : Int) - 2) = ((i - 2 : Nat) : Int) from by omega]
    refine (E2 _ h1).mono ?_
    rintro e w2 ⟨rfl, hb2⟩
    have B2 := HB.out.trans (hb2.mono HB.out.size)
    clear h1 HB hb2
    cases b
    all_goals
      go_wp2_with fail
      go_ret
      exact ⟨rfl, B2⟩
  exact absurd (ho.symm.trans hop) h4

set_option maxRecDepth 100000 in
set_option maxHeartbeats 8000000 in
theorem sruJal (i : Nat) (w : World) (h : MdIs w g N R pc zs) (hi : i < N) (h2 : 2 ≤ i) (hN : N ≤ 64) (hf : frB f = true) (a0 : 0 ≤ at') (a1 : at' ≤ 1048575) (hz : zs.length ≤ 1048576) (hs : Small5 R i) (hop : R (i * 5) = 3) :
    Calls Tryz.prog 60 #[.slice (some ⟨g, 0, none⟩) N c, .int .i64 i, .int .i64 at', .int .i64 f, .slice pc zs.length cc] w fun e w' => e = .returned (.int .i64 (ruI R N f at' zs wdN i)) ∧ Below w.heap.size w w' := by
  obtain ⟨f0, f1, _⟩ := frB_bd hf
  obtain ⟨K, hK⟩ : ∃ K, zs.length = K := ⟨_, rfl⟩
  obtain ⟨x0, x1, x2, x3, x4⟩ := h.l.five hi
  simp only [Nat.zero_add] at x0 x1 x2 x3 x4
  obtain ⟨op, ho⟩ : ∃ op, R (i * 5) = op := ⟨_, rfl⟩
  obtain ⟨rd, hr⟩ : ∃ rd, R (i * 5 + 1) = rd := ⟨_, rfl⟩
  obtain ⟨r1, hr1⟩ : ∃ r1, R (i * 5 + 2) = r1 := ⟨_, rfl⟩
  obtain ⟨r2, hr2⟩ : ∃ r2, R (i * 5 + 3) = r2 := ⟨_, rfl⟩
  obtain ⟨im, him⟩ : ∃ im, R (i * 5 + 4) = im := ⟨_, rfl⟩
  have o0 := hs.o0
  have o1 := hs.o1
  have i0 := hs.i0
  have i1 := hs.i1
  rw [ho] at x0 o0 o1
  rw [hr] at x1
  rw [hr1] at x2
  rw [hr2] at x3
  rw [him] at x4 i0 i1
  have B1 : Below w.heap.size w (w.alloc (.cells #[.int .i64 op, .int .i64 rd, .int .i64 r1, .int .i64 r2, .int .i64 im] 39)) := (Below.refl _ _).alloc (Nat.le_refl _) _
  have h1 := h.below B1
  have hx1 : XIs (w.alloc (.cells #[.int .i64 op, .int .i64 rd, .int .i64 r1, .int .i64 r2, .int .i64 im] 39)) w.heap.size op rd r1 r2 im := ⟨by simp, by simp, by simp, by simp, by simp⟩
  have HB : Hid (Below w.heap.size w (w.alloc (.cells #[.int .i64 op, .int .i64 rd, .int .i64 r1, .int .i64 r2, .int .i64 im] 39))) := B1
  have E := fun (j : Nat) w' (h1 : MdIs w' g N R pc zs) (hj : j < 1000) => specEnds g N c j f R w' h1.lg hf hN hj h1.l
  have G := fun w' (h1 : MdIs w' g N R pc zs) => specGoes g N c i im f R w' h1.lg hf hN (by omega) h1.l i0 i1
  have C := fun w' (x : Int) (h1 : MdIs w' g N R pc zs) => hasIntC pc cc zs x w' hz h1.z
  rw [hK] at C hz ⊢
  clear B1 hr2 h
  have h4 : ¬ op = 4 := by omega
  have h4b : (op == 4) = false := by simpa using h4
  by_cases h3 : op = 3
  · subst h3
    by_cases hrd : rd = 1
    · subst hrd
      rw [ru_call ho hr, him]
      have C2 := fun w' h1 => C w' (at' + 4 * i + im) h1
      obtain ⟨b, hb⟩ : ∃ b, hasB zs (at' + 4 * i + im) = b := ⟨_, rfl⟩
      rw [hb] at C2 ⊢
      clear hb ho hr hr1 him E G C
      cases b
      all_goals
        go_enter Tryz.func60, Tryz.ntmps60
        go_wp2_with (first | (go_at_call 95; refine (specWidOut 3 _ (by omega)).mono ?_; rintro e w' ⟨rfl, rfl⟩) | (go_at_call 97; refine (C2 _ h1).mono ?_; rintro e w' ⟨rfl, rfl⟩))
        go_ret
        exact ⟨rfl, HB.out⟩
    · rw [ru_jal ho (by rw [hr]; exact hrd), hr, him]
      obtain ⟨b, hb⟩ : ∃ b, goB R N f i im = b := ⟨_, rfl⟩
      rw [hb] at G ⊢
      have hrdb : (rd == 1) = false := by simpa using hrd
      clear hb ho hr hr1 him E C
      by_cases h0 : rd = 0
      · subst h0
        go_enter Tryz.func60, Tryz.ntmps60
        go_wp2_with (go_at_call 95; refine (specWidOut 3 _ (by omega)).mono ?_; rintro e w' ⟨rfl, rfl⟩)
        refine (G _ h1).mono ?_
        rintro e w2 ⟨rfl, hb2⟩
        have B2 := HB.out.trans (hb2.mono HB.out.size)
        clear h1 HB hb2
        cases b
        all_goals
          go_wp2_with fail
          go_ret
          exact ⟨rfl, B2⟩
      · have h0b : (rd == 0) = false := by simpa using h0
        rw [if_neg (fun hh => h0 hh.1)]
        go_enter Tryz.func60, Tryz.ntmps60
        go_wp2_with (go_at_call 95; refine (specWidOut 3 _ (by omega)).mono ?_; rintro e w' ⟨rfl, rfl⟩)
        go_ret
        exact ⟨rfl, HB.out⟩
  exact absurd (ho.symm.trans hop) h3

set_option maxRecDepth 100000 in
set_option maxHeartbeats 8000000 in
theorem sruBr (i : Nat) (w : World) (h : MdIs w g N R pc zs) (hi : i < N) (h2 : 2 ≤ i) (hN : N ≤ 64) (hf : frB f = true) (a0 : 0 ≤ at') (a1 : at' ≤ 1048575) (hz : zs.length ≤ 1048576) (hs : Small5 R i) (hop : 5 ≤ R (i * 5) ∧ R (i * 5) ≤ 10) :
    Calls Tryz.prog 60 #[.slice (some ⟨g, 0, none⟩) N c, .int .i64 i, .int .i64 at', .int .i64 f, .slice pc zs.length cc] w fun e w' => e = .returned (.int .i64 (ruI R N f at' zs wdN i)) ∧ Below w.heap.size w w' := by
  obtain ⟨f0, f1, _⟩ := frB_bd hf
  obtain ⟨K, hK⟩ : ∃ K, zs.length = K := ⟨_, rfl⟩
  obtain ⟨x0, x1, x2, x3, x4⟩ := h.l.five hi
  simp only [Nat.zero_add] at x0 x1 x2 x3 x4
  obtain ⟨op, ho⟩ : ∃ op, R (i * 5) = op := ⟨_, rfl⟩
  obtain ⟨rd, hr⟩ : ∃ rd, R (i * 5 + 1) = rd := ⟨_, rfl⟩
  obtain ⟨r1, hr1⟩ : ∃ r1, R (i * 5 + 2) = r1 := ⟨_, rfl⟩
  obtain ⟨r2, hr2⟩ : ∃ r2, R (i * 5 + 3) = r2 := ⟨_, rfl⟩
  obtain ⟨im, him⟩ : ∃ im, R (i * 5 + 4) = im := ⟨_, rfl⟩
  have o0 := hs.o0
  have o1 := hs.o1
  have i0 := hs.i0
  have i1 := hs.i1
  rw [ho] at x0 o0 o1
  rw [hr] at x1
  rw [hr1] at x2
  rw [hr2] at x3
  rw [him] at x4 i0 i1
  have B1 : Below w.heap.size w (w.alloc (.cells #[.int .i64 op, .int .i64 rd, .int .i64 r1, .int .i64 r2, .int .i64 im] 39)) := (Below.refl _ _).alloc (Nat.le_refl _) _
  have h1 := h.below B1
  have hx1 : XIs (w.alloc (.cells #[.int .i64 op, .int .i64 rd, .int .i64 r1, .int .i64 r2, .int .i64 im] 39)) w.heap.size op rd r1 r2 im := ⟨by simp, by simp, by simp, by simp, by simp⟩
  have HB : Hid (Below w.heap.size w (w.alloc (.cells #[.int .i64 op, .int .i64 rd, .int .i64 r1, .int .i64 r2, .int .i64 im] 39))) := B1
  have E := fun (j : Nat) w' (h1 : MdIs w' g N R pc zs) (hj : j < 1000) => specEnds g N c j f R w' h1.lg hf hN hj h1.l
  have G := fun w' (h1 : MdIs w' g N R pc zs) => specGoes g N c i im f R w' h1.lg hf hN (by omega) h1.l i0 i1
  have C := fun w' (x : Int) (h1 : MdIs w' g N R pc zs) => hasIntC pc cc zs x w' hz h1.z
  rw [hK] at C hz ⊢
  clear B1 hr2 h
  have h4 : ¬ op = 4 := by omega
  have h3 : ¬ op = 3 := by omega
  have h4b : (op == 4) = false := by simpa using h4
  have h3b : (op == 3) = false := by simpa using h3
  have hfb := form_branch op o0 o1
  obtain ⟨⟨f4, fc, fg, fh⟩, hsq⟩ : ∃ s, shT op = s := ⟨_, rfl⟩
  have hsh := fun w' => specShs op f4 fc fg fh w' hsq
  simp only [hsq] at hfb
  have hbr : 5 ≤ op ∧ op ≤ 10 := by rw [← ho]; exact hop
  rw [ru_branch (by omega) (by omega), him]
  obtain rfl := hfb.2 hbr
  have wd := fun w' => specWidOut op w' (by omega)
  obtain ⟨b, hb⟩ : ∃ b, goB R N f i im = b := ⟨_, rfl⟩
  rw [hb] at G ⊢
  clear hb ho hr hr1 him E C hfb hbr
  go_enter Tryz.func60, Tryz.ntmps60
  go_wp2_with (go_at_call 95; refine (wd _).mono ?_; rintro e w' ⟨rfl, rfl⟩)
  refine (hsh _).mono ?_
  rintro e w2 ⟨rfl, hb2⟩
  have B2 := HB.out.trans (hb2.mono HB.out.size)
  have hh2 := h1.below hb2
  have xx2 := hx1.below hb2
  have y4 := xx2.x4
  have hfd := shField0 4 fc fg fh w2
  clear h1 HB hb2 hx1 hsh xx2
  go_wp2_with fail
  refine (G _ hh2).mono ?_
  rintro e w3 ⟨rfl, hb3⟩
  have B3 := B2.trans (hb3.mono B2.size)
  clear hb3 hh2 B2 y4 hfd
  cases b
  all_goals
    go_wp2_with fail
    go_ret
    exact ⟨rfl, B3⟩

end
end Go.Proofs.YtiandbhcjecphaaGreatDoor

namespace Go.Proofs.YtiandbhcjecphaaGreatDoor
open Go Go.RowKit
set_option linter.unusedVariables false

section
variable {g N c : Nat} {pc : Option Addr} {cc : Nat} {at' f : Int} {R : Nat → Int} {zs : List Int}
set_option maxRecDepth 100000 in
set_option maxHeartbeats 8000000 in
theorem bad1In (i j : Nat) (op r1 r2 im f4 fc fg fh wn : Int) (b : Bool) (w : World) (h : MdIs w g N R pc zs) (hi : i < N) (h2 : 2 ≤ i) (hN : N ≤ 64) (hj : i - 1 = j) (f0 : 16 ≤ f) (f1 : f ≤ 128)
    (ho : R (i * 5) = op) (hr : R (i * 5 + 1) = 1) (hr1 : R (i * 5 + 2) = r1) (hr2' : R (i * 5 + 3) = r2) (him : R (i * 5 + 4) = im) (h4b : (op == 4) = false) (h3b : (op == 3) = false) (hsq : shT op = ⟨f4, fc, fg, fh⟩) (hf4b : (f4 == 4) = false)
    (Ea : ∀ w', MdIs w' g N R pc zs → Calls Tryz.prog 96 #[.slice (some ⟨g, 0, none⟩) N c, .int .i64 (i : Nat), .int .i64 f] w' fun e w'' => e = .returned (.bool false) ∧ Below w'.heap.size w' w'')
    (Eb : ∀ w', MdIs w' g N R pc zs → Calls Tryz.prog 96 #[.slice (some ⟨g, 0, none⟩) N c, .int .i64 (j : Nat), .int .i64 f] w' fun e w'' => e = .returned (.bool b) ∧ Below w'.heap.size w' w'')
    (hop : 11 ≤ op ∧ op ≤ 21) (hwn : wdN op = wn) (hw0 : 0 < wn) (hw8 : wn ≤ 8) :
    Calls Tryz.prog 60 #[.slice (some ⟨g, 0, none⟩) N c, .int .i64 i, .int .i64 at', .int .i64 f, .slice pc zs.length cc] w fun e w' => e = .returned (.int .i64 21) ∧ Below w.heap.size w w' := by
  obtain ⟨K, hK⟩ : ∃ K, zs.length = K := ⟨_, rfl⟩
  rw [hK]
  clear hK
  obtain ⟨x0, x1, x2, x3, x4⟩ := h.l.five hi
  simp only [Nat.zero_add] at x0 x1 x2 x3 x4
  rw [ho] at x0
  rw [hr] at x1
  rw [hr1] at x2
  rw [hr2'] at x3
  rw [him] at x4
  have B1 : Below w.heap.size w (w.alloc (.cells #[.int .i64 op, .int .i64 1, .int .i64 r1, .int .i64 r2, .int .i64 im] 39)) := (Below.refl _ _).alloc (Nat.le_refl _) _
  have hh := h.below B1
  have xx : XIs (w.alloc (.cells #[.int .i64 op, .int .i64 1, .int .i64 r1, .int .i64 r2, .int .i64 im] 39)) w.heap.size op 1 r1 r2 im := ⟨by simp, by simp, by simp, by simp, by simp⟩
  have BB : Hid (Below w.heap.size w (w.alloc (.cells #[.int .i64 op, .int .i64 1, .int .i64 r1, .int .i64 r2, .int .i64 im] 39))) := B1
  have hsub : ((i : Int) - 1) = ((j : Nat) : Int) := by omega
  have hsh := fun w' => specShs op f4 fc fg fh w' hsq
  clear B1 h hsq hj ho hr hr1 hr2' him
  have wd := fun w' => specWidIn op w' hop.1 hop.2
  rw [hwn] at wd
  have hwz : ¬ wn = 0 := by omega
  go_enter Tryz.func60, Tryz.ntmps60
  go_wp2_with (go_at_call 95; refine (wd _).mono ?_; rintro e w' ⟨rfl, rfl⟩)
  refine (hsh _).mono ?_
  rintro e w2 ⟨rfl, hb2⟩
  have B2 : Hid (Below _ _ w2) := BB.out.trans (hb2.mono BB.out.size)
  have hh2 := hh.below hb2
  have xx2 := xx.below hb2
  have y1 := xx2.x1
  have y2 := xx2.x2
  have y4 := xx2.x4
  have hfd := shField0 f4 fc fg fh w2
  clear hb2 hh xx BB hsh x0 x1 x2 x3 x4
  go_wp2_with fail
  try rw [hsub]
  refine (Ea _ hh2).mono ?_
  rintro e w3 ⟨rfl, hb3⟩
  have B3 : Hid (Below _ _ w3) := B2.out.trans (hb3.mono B2.out.size)
  have hh3 := hh2.below hb3
  have xx3 := xx2.below hb3
  clear y1 y2 y4 hb3 hh2 xx2 B2
  have y1 := xx3.x1
  have y2 := xx3.x2
  have y4 := xx3.x4
  go_wp2_with fail
  all_goals first
    | (go_ret; exact ⟨rfl, B3.out⟩)
    | (rename_i hx; exfalso; have hy := hx.2; rw [hm3] at hy; cases hy)

set_option maxRecDepth 100000 in
set_option maxHeartbeats 8000000 in
theorem bad2In (i j : Nat) (op r1 r2 im f4 fc fg fh wn : Int) (a : Bool) (w : World) (h : MdIs w g N R pc zs) (hi : i < N) (h2 : 2 ≤ i) (hN : N ≤ 64) (hj : i - 1 = j) (f0 : 16 ≤ f) (f1 : f ≤ 128)
    (ho : R (i * 5) = op) (hr : R (i * 5 + 1) = 2) (hr1 : R (i * 5 + 2) = r1) (hr2' : R (i * 5 + 3) = r2) (him : R (i * 5 + 4) = im) (h4b : (op == 4) = false) (h3b : (op == 3) = false) (hsq : shT op = ⟨f4, fc, fg, fh⟩) (hf4b : (f4 == 4) = false)
    (Ea : ∀ w', MdIs w' g N R pc zs → Calls Tryz.prog 96 #[.slice (some ⟨g, 0, none⟩) N c, .int .i64 (i : Nat), .int .i64 f] w' fun e w'' => e = .returned (.bool a) ∧ Below w'.heap.size w' w'')
    (Eb : ∀ w', MdIs w' g N R pc zs → Calls Tryz.prog 96 #[.slice (some ⟨g, 0, none⟩) N c, .int .i64 (j : Nat), .int .i64 f] w' fun e w'' => e = .returned (.bool false) ∧ Below w'.heap.size w' w'')
    (hop : 11 ≤ op ∧ op ≤ 21) (hwn : wdN op = wn) (hw0 : 0 < wn) (hw8 : wn ≤ 8) :
    Calls Tryz.prog 60 #[.slice (some ⟨g, 0, none⟩) N c, .int .i64 i, .int .i64 at', .int .i64 f, .slice pc zs.length cc] w fun e w' => e = .returned (.int .i64 21) ∧ Below w.heap.size w w' := by
  obtain ⟨K, hK⟩ : ∃ K, zs.length = K := ⟨_, rfl⟩
  rw [hK]
  clear hK
  obtain ⟨x0, x1, x2, x3, x4⟩ := h.l.five hi
  simp only [Nat.zero_add] at x0 x1 x2 x3 x4
  rw [ho] at x0
  rw [hr] at x1
  rw [hr1] at x2
  rw [hr2'] at x3
  rw [him] at x4
  have B1 : Below w.heap.size w (w.alloc (.cells #[.int .i64 op, .int .i64 2, .int .i64 r1, .int .i64 r2, .int .i64 im] 39)) := (Below.refl _ _).alloc (Nat.le_refl _) _
  have hh := h.below B1
  have xx : XIs (w.alloc (.cells #[.int .i64 op, .int .i64 2, .int .i64 r1, .int .i64 r2, .int .i64 im] 39)) w.heap.size op 2 r1 r2 im := ⟨by simp, by simp, by simp, by simp, by simp⟩
  have BB : Hid (Below w.heap.size w (w.alloc (.cells #[.int .i64 op, .int .i64 2, .int .i64 r1, .int .i64 r2, .int .i64 im] 39))) := B1
  have hsub : ((i : Int) - 1) = ((j : Nat) : Int) := by omega
  have hsh := fun w' => specShs op f4 fc fg fh w' hsq
  clear B1 h hsq hj ho hr hr1 hr2' him
  have wd := fun w' => specWidIn op w' hop.1 hop.2
  rw [hwn] at wd
  have hwz : ¬ wn = 0 := by omega
  go_enter Tryz.func60, Tryz.ntmps60
  go_wp2_with (go_at_call 95; refine (wd _).mono ?_; rintro e w' ⟨rfl, rfl⟩)
  refine (hsh _).mono ?_
  rintro e w2 ⟨rfl, hb2⟩
  have B2 : Hid (Below _ _ w2) := BB.out.trans (hb2.mono BB.out.size)
  have hh2 := hh.below hb2
  have xx2 := xx.below hb2
  have y1 := xx2.x1
  have y2 := xx2.x2
  have y4 := xx2.x4
  have hfd := shField0 f4 fc fg fh w2
  clear hb2 hh xx BB hsh x0 x1 x2 x3 x4
  go_wp2_with fail
  try rw [hsub]
  refine (Eb _ hh2).mono ?_
  rintro e w3 ⟨rfl, hb3⟩
  have B3 : Hid (Below _ _ w3) := B2.out.trans (hb3.mono B2.out.size)
  have hh3 := hh2.below hb3
  have xx3 := xx2.below hb3
  clear y1 y2 y4 hb3 hh2 xx2 B2
  have y1 := xx3.x1
  have y2 := xx3.x2
  have y4 := xx3.x4
  go_wp2_with fail
  all_goals first
    | (go_ret; exact ⟨rfl, B3.out⟩)
    | (rename_i hx; exfalso; have hy := hx.2; rw [hm3] at hy; cases hy)

set_option maxRecDepth 100000 in
set_option maxHeartbeats 8000000 in
theorem bad1Out (i j : Nat) (op r1 r2 im f4 fc fg fh wn : Int) (b : Bool) (w : World) (h : MdIs w g N R pc zs) (hi : i < N) (h2 : 2 ≤ i) (hN : N ≤ 64) (hj : i - 1 = j) (f0 : 16 ≤ f) (f1 : f ≤ 128)
    (ho : R (i * 5) = op) (hr : R (i * 5 + 1) = 1) (hr1 : R (i * 5 + 2) = r1) (hr2' : R (i * 5 + 3) = r2) (him : R (i * 5 + 4) = im) (h4b : (op == 4) = false) (h3b : (op == 3) = false) (hsq : shT op = ⟨f4, fc, fg, fh⟩) (hf4b : (f4 == 4) = false)
    (Ea : ∀ w', MdIs w' g N R pc zs → Calls Tryz.prog 96 #[.slice (some ⟨g, 0, none⟩) N c, .int .i64 (i : Nat), .int .i64 f] w' fun e w'' => e = .returned (.bool false) ∧ Below w'.heap.size w' w'')
    (Eb : ∀ w', MdIs w' g N R pc zs → Calls Tryz.prog 96 #[.slice (some ⟨g, 0, none⟩) N c, .int .i64 (j : Nat), .int .i64 f] w' fun e w'' => e = .returned (.bool b) ∧ Below w'.heap.size w' w'')
    (o0 : 1 ≤ op) (hop : op < 11 ∨ 21 < op) :
    Calls Tryz.prog 60 #[.slice (some ⟨g, 0, none⟩) N c, .int .i64 i, .int .i64 at', .int .i64 f, .slice pc zs.length cc] w fun e w' => e = .returned (.int .i64 21) ∧ Below w.heap.size w w' := by
  obtain ⟨K, hK⟩ : ∃ K, zs.length = K := ⟨_, rfl⟩
  rw [hK]
  clear hK
  obtain ⟨x0, x1, x2, x3, x4⟩ := h.l.five hi
  simp only [Nat.zero_add] at x0 x1 x2 x3 x4
  rw [ho] at x0
  rw [hr] at x1
  rw [hr1] at x2
  rw [hr2'] at x3
  rw [him] at x4
  have B1 : Below w.heap.size w (w.alloc (.cells #[.int .i64 op, .int .i64 1, .int .i64 r1, .int .i64 r2, .int .i64 im] 39)) := (Below.refl _ _).alloc (Nat.le_refl _) _
  have hh := h.below B1
  have xx : XIs (w.alloc (.cells #[.int .i64 op, .int .i64 1, .int .i64 r1, .int .i64 r2, .int .i64 im] 39)) w.heap.size op 1 r1 r2 im := ⟨by simp, by simp, by simp, by simp, by simp⟩
  have BB : Hid (Below w.heap.size w (w.alloc (.cells #[.int .i64 op, .int .i64 1, .int .i64 r1, .int .i64 r2, .int .i64 im] 39))) := B1
  have hsub : ((i : Int) - 1) = ((j : Nat) : Int) := by omega
  have hsh := fun w' => specShs op f4 fc fg fh w' hsq
  clear B1 h hsq hj ho hr hr1 hr2' him
  have wd := fun w' => specWidOut op w' hop
  go_enter Tryz.func60, Tryz.ntmps60
  go_wp2_with (go_at_call 95; refine (wd _).mono ?_; rintro e w' ⟨rfl, rfl⟩)
  refine (hsh _).mono ?_
  rintro e w2 ⟨rfl, hb2⟩
  have B2 : Hid (Below _ _ w2) := BB.out.trans (hb2.mono BB.out.size)
  have hh2 := hh.below hb2
  have xx2 := xx.below hb2
  have y1 := xx2.x1
  have y2 := xx2.x2
  have y4 := xx2.x4
  have hfd := shField0 f4 fc fg fh w2
  clear hb2 hh xx BB hsh x0 x1 x2 x3 x4
  go_wp2_with fail
  try rw [hsub]
  refine (Ea _ hh2).mono ?_
  rintro e w3 ⟨rfl, hb3⟩
  have B3 : Hid (Below _ _ w3) := B2.out.trans (hb3.mono B2.out.size)
  have hh3 := hh2.below hb3
  have xx3 := xx2.below hb3
  clear y1 y2 y4 hb3 hh2 xx2 B2
  have y1 := xx3.x1
  have y2 := xx3.x2
  have y4 := xx3.x4
  go_wp2_with fail
  all_goals first
    | (go_ret; exact ⟨rfl, B3.out⟩)
    | (rename_i hx; exfalso; have hy := hx.2; rw [hm3] at hy; cases hy)

set_option maxRecDepth 100000 in
set_option maxHeartbeats 8000000 in
theorem bad2Out (i j : Nat) (op r1 r2 im f4 fc fg fh wn : Int) (a : Bool) (w : World) (h : MdIs w g N R pc zs) (hi : i < N) (h2 : 2 ≤ i) (hN : N ≤ 64) (hj : i - 1 = j) (f0 : 16 ≤ f) (f1 : f ≤ 128)
    (ho : R (i * 5) = op) (hr : R (i * 5 + 1) = 2) (hr1 : R (i * 5 + 2) = r1) (hr2' : R (i * 5 + 3) = r2) (him : R (i * 5 + 4) = im) (h4b : (op == 4) = false) (h3b : (op == 3) = false) (hsq : shT op = ⟨f4, fc, fg, fh⟩) (hf4b : (f4 == 4) = false)
    (Ea : ∀ w', MdIs w' g N R pc zs → Calls Tryz.prog 96 #[.slice (some ⟨g, 0, none⟩) N c, .int .i64 (i : Nat), .int .i64 f] w' fun e w'' => e = .returned (.bool a) ∧ Below w'.heap.size w' w'')
    (Eb : ∀ w', MdIs w' g N R pc zs → Calls Tryz.prog 96 #[.slice (some ⟨g, 0, none⟩) N c, .int .i64 (j : Nat), .int .i64 f] w' fun e w'' => e = .returned (.bool false) ∧ Below w'.heap.size w' w'')
    (o0 : 1 ≤ op) (hop : op < 11 ∨ 21 < op) :
    Calls Tryz.prog 60 #[.slice (some ⟨g, 0, none⟩) N c, .int .i64 i, .int .i64 at', .int .i64 f, .slice pc zs.length cc] w fun e w' => e = .returned (.int .i64 21) ∧ Below w.heap.size w w' := by
  obtain ⟨K, hK⟩ : ∃ K, zs.length = K := ⟨_, rfl⟩
  rw [hK]
  clear hK
  obtain ⟨x0, x1, x2, x3, x4⟩ := h.l.five hi
  simp only [Nat.zero_add] at x0 x1 x2 x3 x4
  rw [ho] at x0
  rw [hr] at x1
  rw [hr1] at x2
  rw [hr2'] at x3
  rw [him] at x4
  have B1 : Below w.heap.size w (w.alloc (.cells #[.int .i64 op, .int .i64 2, .int .i64 r1, .int .i64 r2, .int .i64 im] 39)) := (Below.refl _ _).alloc (Nat.le_refl _) _
  have hh := h.below B1
  have xx : XIs (w.alloc (.cells #[.int .i64 op, .int .i64 2, .int .i64 r1, .int .i64 r2, .int .i64 im] 39)) w.heap.size op 2 r1 r2 im := ⟨by simp, by simp, by simp, by simp, by simp⟩
  have BB : Hid (Below w.heap.size w (w.alloc (.cells #[.int .i64 op, .int .i64 2, .int .i64 r1, .int .i64 r2, .int .i64 im] 39))) := B1
  have hsub : ((i : Int) - 1) = ((j : Nat) : Int) := by omega
  have hsh := fun w' => specShs op f4 fc fg fh w' hsq
  clear B1 h hsq hj ho hr hr1 hr2' him
  have wd := fun w' => specWidOut op w' hop
  go_enter Tryz.func60, Tryz.ntmps60
  go_wp2_with (go_at_call 95; refine (wd _).mono ?_; rintro e w' ⟨rfl, rfl⟩)
  refine (hsh _).mono ?_
  rintro e w2 ⟨rfl, hb2⟩
  have B2 : Hid (Below _ _ w2) := BB.out.trans (hb2.mono BB.out.size)
  have hh2 := hh.below hb2
  have xx2 := xx.below hb2
  have y1 := xx2.x1
  have y2 := xx2.x2
  have y4 := xx2.x4
  have hfd := shField0 f4 fc fg fh w2
  clear hb2 hh xx BB hsh x0 x1 x2 x3 x4
  go_wp2_with fail
  try rw [hsub]
  refine (Eb _ hh2).mono ?_
  rintro e w3 ⟨rfl, hb3⟩
  have B3 : Hid (Below _ _ w3) := B2.out.trans (hb3.mono B2.out.size)
  have hh3 := hh2.below hb3
  have xx3 := xx2.below hb3
  clear y1 y2 y4 hb3 hh2 xx2 B2
  have y1 := xx3.x1
  have y2 := xx3.x2
  have y4 := xx3.x4
  go_wp2_with fail
  all_goals first
    | (go_ret; exact ⟨rfl, B3.out⟩)
    | (rename_i hx; exfalso; have hy := hx.2; rw [hm3] at hy; cases hy)

end
end Go.Proofs.YtiandbhcjecphaaGreatDoor
