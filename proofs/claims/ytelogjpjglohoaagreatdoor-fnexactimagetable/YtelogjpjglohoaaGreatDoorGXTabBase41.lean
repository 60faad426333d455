/- The model's check of functions: its small questions. The model's check of functions: where jumps go. -/
import Derived.Test.YtelogjpjglohoaaGreatDoorGXTabBase20
namespace Go.Proofs.YtelogjpjglohoaaGreatDoor
open Go Go.RowKit
set_option linter.unusedVariables false

set_option maxHeartbeats 1000000 in
/-- Is a number among others? -/
theorem hasIntC (p : Option Addr) (c : Nat) (zs : List Int) (x : Int) (w : World) (hn : zs.length ≤ 1048576) (hp : IntsAt w p zs) :
    Calls Tryz.prog 99 #[.slice p zs.length c, .int .i64 x] w fun e w' => e = .returned (.bool (hasB zs x)) ∧ w' = w := by
  obtain ⟨n, hN⟩ : ∃ n, zs.length = n := ⟨_, rfl⟩
  rw [hN] at hn ⊢
  go_enter Tryz.func99, Tryz.ntmps99
  go_wp2
  go_loop [5] (fun i => ∃ k : Nat, k ≤ n ∧ i = .int .i64 k ∧ ∀ j, j < k → zs.getD j 0 ≠ x) (fun i => n - (intOf i).toNat)
  case atStart => exact ⟨0, Nat.zero_le _, rfl, fun j hj => absurd hj (Nat.not_lt_zero _)⟩
  case round =>
    obtain ⟨k, hk, rfl, hno⟩ := hrel
    by_cases hlt : k < n
    · rcases hp with hp | ⟨b, o, rfl, hb, hp⟩
      · omega
      have hx : w.cell? ⟨b, o + k, none⟩ = some (.int .i64 (zs.getD k 0)) := hp k (by omega)
      by_cases e : zs.getD k 0 = x
      · have hx' : w.cell? ⟨b, o + k, none⟩ = some (.int .i64 x) := by rw [← e]; exact hx
        have hm : x ∈ zs := by
          rw [← e]
          have : zs.getD k 0 = zs[k]'(by omega) := by simp [List.getD, hN, hlt]
          rw [this]
          exact List.getElem_mem _
        have hB : hasB zs x = true := by unfold hasB; simpa using hm
        have HB : Hid (hasB zs x = true) := hB
        clear hp hx hm hB
        go_wp2
        go_ret
        exact ⟨by rw [HB.out]; rfl, rfl⟩
      · have e' : ¬ (x = zs.getD k 0) := fun h => e h.symm
        obtain ⟨y, hy⟩ : ∃ y, zs.getD k 0 = y := ⟨_, rfl⟩
        rw [hy] at hx e e'
        have HY : Hid (zs.getD k 0 = y) := hy
        clear hp hy
        go_wp2
        go_round
        case rel => exact ⟨k + 1, by omega, by go_num, fun j hj => by
          rcases Nat.lt_succ_iff_lt_or_eq.1 hj with h | rfl
          · exact hno j h
          · rw [HY.out]; exact e⟩
        case measure => simp [intOf]; omega
    · obtain rfl : k = n := by omega
      have hB : hasB zs x = false := by
        unfold hasB
        rw [← Bool.not_eq_true]
        intro h
        obtain ⟨j, hj, e⟩ := List.mem_iff_getElem.1 (by simpa using h : x ∈ zs)
        exact absurd (by simp [List.getD, hj, e]) (hno j (by omega))
      have HB : Hid (hasB zs x = false) := hB
      clear hB
      go_wp2
      go_ret
      exact ⟨by rw [HB.out]; rfl, rfl⟩

/-- Three instructions held against an epilogue's. -/
def e3 (R : Nat → Int) (f : Int) (i k : Nat) : Bool := sm5 (R ((i + k) * 5)) (R ((i + k) * 5 + 1)) (R ((i + k) * 5 + 2)) (R ((i + k) * 5 + 3)) (R ((i + k) * 5 + 4)) (epiR f (k * 5)) (epiR f (k * 5 + 1)) (epiR f (k * 5 + 2)) (epiR f (k * 5 + 3)) (epiR f (k * 5 + 4))
theorem e3_epB {R : Nat → Int} {N : Nat} {f : Int} {i : Nat} (h2 : 2 ≤ i) (hN : i + 3 ≤ N) : epB R N f i = (e3 R f i 0 && (e3 R f i 1 && e3 R f i 2)) := by
  rw [Bool.eq_iff_iff, epB_iff, Bool.and_eq_true, Bool.and_eq_true]
  have key : ∀ k, e3 R f i k = true ↔ ∀ j, j < 5 → R ((i + k) * 5 + j) = epiR f (k * 5 + j) := fun k => by
    unfold e3
    rw [sm5_iff]
    constructor
    · rintro ⟨a0, a1, a2, a3, a4⟩ j hj
      match j, hj with
      | 0, _ => exact a0
      | 1, _ => exact a1
      | 2, _ => exact a2
      | 3, _ => exact a3
      | 4, _ => exact a4
    · intro a
      exact ⟨a 0 (by omega), a 1 (by omega), a 2 (by omega), a 3 (by omega), a 4 (by omega)⟩
  rw [key, key, key]
  constructor
  · rintro ⟨_, h⟩
    refine ⟨fun j hj => ?_, fun j hj => ?_, fun j hj => ?_⟩
    · have := h j (by omega); simpa using this
    · have := h (5 + j) (by omega); rw [show (i + 1) * 5 + j = i * 5 + (5 + j) from by omega, show 1 * 5 + j = 5 + j from by omega]; exact this
    · have := h (10 + j) (by omega); rw [show (i + 2) * 5 + j = i * 5 + (10 + j) from by omega, show 2 * 5 + j = 10 + j from by omega]; exact this
  · rintro ⟨h0, h1, h2'⟩
    refine ⟨⟨h2, hN⟩, fun j hj => ?_⟩
    by_cases a : j < 5
    · have := h0 j a; simpa using this
    · by_cases b : j < 10
      · have := h1 (j - 5) (by omega)
        rwa [show (i + 1) * 5 + (j - 5) = i * 5 + j from by omega, show 1 * 5 + (j - 5) = j from by omega] at this
      · have := h2' (j - 10) (by omega)
        rwa [show (i + 2) * 5 + (j - 10) = i * 5 + j from by omega, show 2 * 5 + (j - 10) = j from by omega] at this

theorem specEndsLow (g N c i : Nat) (f : Int) (w : World) (hf : frB f = true) (hi : i < 2) :
    Calls Tryz.prog 98 #[.slice (some ⟨g, 0, none⟩) N c, .int .i64 i, .int .i64 f] w fun e w' => e = .returned (.bool false) ∧ Below w.heap.size w w' := by
  have hi' : decide ((2 : Int) ≤ (i : Int)) = false := by rw [decide_eq_false_iff_not]; omega
  go_enter Tryz.func98, Tryz.ntmps98
  go_wp2_with fail
  refine (epiSpec0 f _ hf).mono ?_
  rintro e w1 ⟨G, rfl, hb, hG0, hG1, hfl⟩
  clear hfl
  go_wp2_with fail
  go_region
  go_wp2_with fail
  go_ret
  exact ⟨rfl, hb.drew⟩
theorem specEndsHigh (g N c i : Nat) (f : Int) (w : World) (hf : frB f = true) (hN : N ≤ 64) (hi : i < 1000) (h2 : 2 ≤ i) (h3 : N < i + 3) :
    Calls Tryz.prog 98 #[.slice (some ⟨g, 0, none⟩) N c, .int .i64 i, .int .i64 f] w fun e w' => e = .returned (.bool false) ∧ Below w.heap.size w w' := by
  have h4 : decide ((i : Int) + 2 < (N : Int)) = false := by rw [decide_eq_false_iff_not]; omega
  have hi' : decide ((2 : Int) ≤ (i : Int)) = true := by rw [decide_eq_true_eq]; omega
  go_enter Tryz.func98, Tryz.ntmps98
  go_wp2_with fail
  refine (epiSpec0 f _ hf).mono ?_
  rintro e w1 ⟨G, rfl, hb, hG0, hG1, hfl⟩
  clear hfl
  go_wp2_with fail
  go_region
  go_wp2_with fail
  go_ret
  exact ⟨rfl, hb.drew⟩
set_option maxRecDepth 100000 in
set_option maxHeartbeats 4000000 in
theorem specEndsMid (g N c i : Nat) (f : Int) (R : Nat → Int) (w : World) (hg : g < w.heap.size) (hf : frB f = true) (hN : N ≤ 64) (h2 : 2 ≤ i) (h3 : i + 3 ≤ N) (hl : Rdb w g 0 (N * 5) R) :
    Calls Tryz.prog 98 #[.slice (some ⟨g, 0, none⟩) N c, .int .i64 i, .int .i64 f] w fun e w' => e = .returned (.bool (e3 R f i 0 && (e3 R f i 1 && e3 R f i 2))) ∧ Below w.heap.size w w' := by
  have h4 : decide ((i : Int) + 2 < (N : Int)) = true := by rw [decide_eq_true_eq]; omega
  have hi' : decide ((2 : Int) ≤ (i : Int)) = true := by rw [decide_eq_true_eq]; omega
  have hi0 : i < N := by omega
  have hi1 : i + 1 < N := by omega
  have hi2 : i + 2 < N := by omega
  have q0 := fun w => eqlIns (R (i * 5)) (R (i * 5 + 1)) (R (i * 5 + 2)) (R (i * 5 + 3)) (R (i * 5 + 4)) (epiR f 0) (epiR f 1) (epiR f 2) (epiR f 3) (epiR f 4) w
  have q1 := fun w => eqlIns (R ((i + 1) * 5)) (R ((i + 1) * 5 + 1)) (R ((i + 1) * 5 + 2)) (R ((i + 1) * 5 + 3)) (R ((i + 1) * 5 + 4)) (epiR f 5) (epiR f 6) (epiR f 7) (epiR f 8) (epiR f 9) w
  have q2 := fun w => eqlIns (R ((i + 2) * 5)) (R ((i + 2) * 5 + 1)) (R ((i + 2) * 5 + 2)) (R ((i + 2) * 5 + 3)) (R ((i + 2) * 5 + 4)) (epiR f 10) (epiR f 11) (epiR f 12) (epiR f 13) (epiR f 14) w
  have e0 : e3 R f i 0 = sm5 (R (i * 5)) (R (i * 5 + 1)) (R (i * 5 + 2)) (R (i * 5 + 3)) (R (i * 5 + 4)) (epiR f 0) (epiR f 1) (epiR f 2) (epiR f 3) (epiR f 4) := rfl
  have e1 : e3 R f i 1 = sm5 (R ((i + 1) * 5)) (R ((i + 1) * 5 + 1)) (R ((i + 1) * 5 + 2)) (R ((i + 1) * 5 + 3)) (R ((i + 1) * 5 + 4)) (epiR f 5) (epiR f 6) (epiR f 7) (epiR f 8) (epiR f 9) := rfl
  have e2 : e3 R f i 2 = sm5 (R ((i + 2) * 5)) (R ((i + 2) * 5 + 1)) (R ((i + 2) * 5 + 2)) (R ((i + 2) * 5 + 3)) (R ((i + 2) * 5 + 4)) (epiR f 10) (epiR f 11) (epiR f 12) (epiR f 13) (epiR f 14) := rfl
  rw [← e0] at q0
  rw [← e1] at q1
  rw [← e2] at q2
  obtain ⟨b0, c0⟩ : ∃ b, e3 R f i 0 = b := ⟨_, rfl⟩
  obtain ⟨b1, c1⟩ : ∃ b, e3 R f i 1 = b := ⟨_, rfl⟩
  obtain ⟨b2, c2⟩ : ∃ b, e3 R f i 2 = b := ⟨_, rfl⟩
  rw [c0] at q0
  rw [c1] at q1
  rw [c2] at q2
  rw [c0, c1, c2]
  clear e0 e1 e2 c0 c1 c2
  have x0 := hl.five hi0
  have x1 := hl.five hi1
  have x2 := hl.five hi2
  obtain ⟨x00, x01, x02, x03, x04⟩ := x0
  obtain ⟨x10, x11, x12, x13, x14⟩ := x1
  obtain ⟨x20, x21, x22, x23, x24⟩ := x2
  simp only [Nat.zero_add] at x00 x01 x02 x03 x04 x10 x11 x12 x13 x14 x20 x21 x22 x23 x24
  have key : ∀ r, (b0 && (b1 && b2)) = r → Calls Tryz.prog 98 #[.slice (some ⟨g, 0, none⟩) N c, .int .i64 i, .int .i64 f] w fun e w' => e = .returned (.bool r) ∧ Below w.heap.size w w' := by
    intro r hr
    go_enter Tryz.func98, Tryz.ntmps98
    go_wp2_with fail
    refine (epiSpec0 f _ hf).mono ?_
    rintro e w1 ⟨G, rfl, hb, hG0, hG1, hfl⟩
    have hgu := guardIns
    have x00 := (hb.cell (p := ⟨g, i * 5, none⟩) hg).trans x00
    have x01 := (hb.cell (p := ⟨g, i * 5 + 1, none⟩) hg).trans x01
    have x02 := (hb.cell (p := ⟨g, i * 5 + 2, none⟩) hg).trans x02
    have x03 := (hb.cell (p := ⟨g, i * 5 + 3, none⟩) hg).trans x03
    have x04 := (hb.cell (p := ⟨g, i * 5 + 4, none⟩) hg).trans x04
    have x10 := (hb.cell (p := ⟨g, (i + 1) * 5, none⟩) hg).trans x10
    have x11 := (hb.cell (p := ⟨g, (i + 1) * 5 + 1, none⟩) hg).trans x11
    have x12 := (hb.cell (p := ⟨g, (i + 1) * 5 + 2, none⟩) hg).trans x12
    have x13 := (hb.cell (p := ⟨g, (i + 1) * 5 + 3, none⟩) hg).trans x13
    have x14 := (hb.cell (p := ⟨g, (i + 1) * 5 + 4, none⟩) hg).trans x14
    have x20 := (hb.cell (p := ⟨g, (i + 2) * 5, none⟩) hg).trans x20
    have x21 := (hb.cell (p := ⟨g, (i + 2) * 5 + 1, none⟩) hg).trans x21
    have x22 := (hb.cell (p := ⟨g, (i + 2) * 5 + 2, none⟩) hg).trans x22
    have x23 := (hb.cell (p := ⟨g, (i + 2) * 5 + 3, none⟩) hg).trans x23
    have x24 := (hb.cell (p := ⟨g, (i + 2) * 5 + 4, none⟩) hg).trans x24
    have y0 : w1.cell? ⟨G, 0, none⟩ = some (.int .i64 (epiR f 0)) := (congrArg (fun o => w1.cell? ⟨G, o, none⟩) (Nat.zero_add 0).symm).trans (hfl 0 (by omega)).1
    have y1 : w1.cell? ⟨G, 1, none⟩ = some (.int .i64 (epiR f 1)) := (congrArg (fun o => w1.cell? ⟨G, o, none⟩) (Nat.zero_add 1).symm).trans (hfl 1 (by omega)).1
    have y2 : w1.cell? ⟨G, 2, none⟩ = some (.int .i64 (epiR f 2)) := (congrArg (fun o => w1.cell? ⟨G, o, none⟩) (Nat.zero_add 2).symm).trans (hfl 2 (by omega)).1
    have y3 : w1.cell? ⟨G, 3, none⟩ = some (.int .i64 (epiR f 3)) := (congrArg (fun o => w1.cell? ⟨G, o, none⟩) (Nat.zero_add 3).symm).trans (hfl 3 (by omega)).1
    have y4 : w1.cell? ⟨G, 4, none⟩ = some (.int .i64 (epiR f 4)) := (congrArg (fun o => w1.cell? ⟨G, o, none⟩) (Nat.zero_add 4).symm).trans (hfl 4 (by omega)).1
    have y5 : w1.cell? ⟨G, 5, none⟩ = some (.int .i64 (epiR f 5)) := (congrArg (fun o => w1.cell? ⟨G, o, none⟩) (Nat.zero_add 5).symm).trans (hfl 5 (by omega)).1
    have y6 : w1.cell? ⟨G, 6, none⟩ = some (.int .i64 (epiR f 6)) := (congrArg (fun o => w1.cell? ⟨G, o, none⟩) (Nat.zero_add 6).symm).trans (hfl 6 (by omega)).1
    have y7 : w1.cell? ⟨G, 7, none⟩ = some (.int .i64 (epiR f 7)) := (congrArg (fun o => w1.cell? ⟨G, o, none⟩) (Nat.zero_add 7).symm).trans (hfl 7 (by omega)).1
    have y8 : w1.cell? ⟨G, 8, none⟩ = some (.int .i64 (epiR f 8)) := (congrArg (fun o => w1.cell? ⟨G, o, none⟩) (Nat.zero_add 8).symm).trans (hfl 8 (by omega)).1
    have y9 : w1.cell? ⟨G, 9, none⟩ = some (.int .i64 (epiR f 9)) := (congrArg (fun o => w1.cell? ⟨G, o, none⟩) (Nat.zero_add 9).symm).trans (hfl 9 (by omega)).1
    have y10 : w1.cell? ⟨G, 10, none⟩ = some (.int .i64 (epiR f 10)) := (congrArg (fun o => w1.cell? ⟨G, o, none⟩) (Nat.zero_add 10).symm).trans (hfl 10 (by omega)).1
    have y11 : w1.cell? ⟨G, 11, none⟩ = some (.int .i64 (epiR f 11)) := (congrArg (fun o => w1.cell? ⟨G, o, none⟩) (Nat.zero_add 11).symm).trans (hfl 11 (by omega)).1
    have y12 : w1.cell? ⟨G, 12, none⟩ = some (.int .i64 (epiR f 12)) := (congrArg (fun o => w1.cell? ⟨G, o, none⟩) (Nat.zero_add 12).symm).trans (hfl 12 (by omega)).1
    have y13 : w1.cell? ⟨G, 13, none⟩ = some (.int .i64 (epiR f 13)) := (congrArg (fun o => w1.cell? ⟨G, o, none⟩) (Nat.zero_add 13).symm).trans (hfl 13 (by omega)).1
    have y14 : w1.cell? ⟨G, 14, none⟩ = some (.int .i64 (epiR f 14)) := (congrArg (fun o => w1.cell? ⟨G, o, none⟩) (Nat.zero_add 14).symm).trans (hfl 14 (by omega)).1
    clear hfl hl
    cases b0
    · subst hr
      go_wp2_with fail
      go_region
      go_wp2_with fail
      go_ret
      exact ⟨rfl, hb.drew⟩
    · cases b1
      · subst hr
        go_wp2_with fail
        go_region
        go_wp2_with fail
        go_ret
        exact ⟨rfl, hb.drew⟩
      · cases b2
        · subst hr
          go_wp2_with fail
          go_region
          go_wp2_with fail
          go_ret
          exact ⟨rfl, hb.drew⟩
        · subst hr
          go_wp2_with fail
          go_region
          go_wp2_with fail
          go_ret
          exact ⟨rfl, hb.drew⟩
  exact key _ rfl
theorem specEnds (g N c i : Nat) (f : Int) (R : Nat → Int) (w : World) (hg : g < w.heap.size) (hf : frB f = true) (hN : N ≤ 64) (hi : i < 1000) (hl : Rdb w g 0 (N * 5) R) :
    Calls Tryz.prog 98 #[.slice (some ⟨g, 0, none⟩) N c, .int .i64 i, .int .i64 f] w fun e w' => e = .returned (.bool (epB R N f i)) ∧ Below w.heap.size w w' := by
  by_cases h2 : 2 ≤ i
  · by_cases h3 : i + 3 ≤ N
    · rw [e3_epB h2 h3]
      exact specEndsMid g N c i f R w hg hf hN h2 h3 hl
    · rw [epB_low (.inr (by omega))]
      exact specEndsHigh g N c i f w hf hN hi h2 (by omega)
  · rw [epB_low (.inl (by omega))]
    exact specEndsLow g N c i f w hf (by omega)
end Go.Proofs.YtelogjpjglohoaaGreatDoor

namespace Go.Proofs.YtelogjpjglohoaaGreatDoor
open Go Go.RowKit
set_option linter.unusedVariables false

set_option maxRecDepth 100000 in
set_option maxHeartbeats 4000000 in
theorem specGoes (g N c i : Nat) (im f : Int) (R : Nat → Int) (w : World) (hg : g < w.heap.size) (hf : frB f = true) (hN : N ≤ 64) (hi : i < 1000) (hl : Rdb w g 0 (N * 5) R) (hi0 : -2147483648 ≤ im) (hi1 : im ≤ 2147483647) :
    Calls Tryz.prog 100 #[.slice (some ⟨g, 0, none⟩) N c, .int .i64 i, .int .i64 im, .int .i64 f] w fun e w' => e = .returned (.bool (goB R N f i im)) ∧ Below w.heap.size w w' := by
  by_cases hm : im % 4 = 0
  · obtain ⟨d, hd⟩ : ∃ d, im / 4 = d := ⟨_, rfl⟩
    have e1 : im = 4 * d := by omega
    subst e1
    have hm1 : (4 * d).tmod 4 = 0 := by rw [Int.mul_comm]; exact Int.mul_tmod_left d 4
    have hd1 : (4 * d).tdiv 4 = d := Int.mul_tdiv_cancel_left d (by omega)
    by_cases ht0 : (i : Int) + d < 2
    · have hg' : goB R N f i (4 * d) = false := by unfold goB; simp [hd]; omega
      rw [hg']
      have ht : ¬ (2 ≤ (i : Int) + d) := by omega
      have ht' : decide (2 ≤ (i : Int) + d) = false := by rw [decide_eq_false_iff_not]; omega
      clear hd hm
      go_enter Tryz.func100, Tryz.ntmps100
      go_wp2_with fail
      go_ret
      exact ⟨rfl, Below.refl _ _⟩
    · by_cases ht1 : (N : Int) ≤ (i : Int) + d
      · have hg' : goB R N f i (4 * d) = false := by unfold goB; simp [hd]; omega
        rw [hg']
        clear hd hm
        go_enter Tryz.func100, Tryz.ntmps100
        go_wp2_with fail
        go_ret
        exact ⟨rfl, Below.refl _ _⟩
      · obtain ⟨u, ht⟩ : ∃ u : Nat, (i : Int) + d = u + 2 := ⟨((i : Int) + d - 2).toNat, by omega⟩
        have hg' : goB R N f i (4 * d) = (!epB R N f (u + 1) && !epB R N f u) := by
          unfold goB
          rw [hd, ht, show ((u : Int) + 2).toNat = u + 2 from by omega]
          simp
          omega
        rw [hg']
        have huN : u + 2 < N := by omega
        have E1 := fun w' h1 h2 => specEnds g N c (u + 1) f R w' h1 hf hN (by omega) h2
        have E0 := fun w' h1 h2 => specEnds g N c u f R w' h1 hf hN (by omega) h2
        obtain ⟨b1, hb1⟩ : ∃ b, epB R N f (u + 1) = b := ⟨_, rfl⟩
        obtain ⟨b0, hb0⟩ : ∃ b, epB R N f u = b := ⟨_, rfl⟩
        rw [hb1] at E1
        rw [hb0] at E0
        rw [hb1, hb0]
        clear hd hm hb1 hb0 hg'
        cases b1
        · go_enter Tryz.func100, Tryz.ntmps100
          go_wp2_with fail
          rw [show ((u : Int) + 2 - 1) = ((u + 1 : Nat) : Int) from by omega]
          refine (E1 _ hg hl).mono ?_
          rintro e w1 ⟨rfl, hb1⟩
          have hg1 := Nat.lt_of_lt_of_le hg hb1.size
          have hl1 := hl.below hb1 hg
          go_wp2_with fail
          refine (E0 _ hg1 hl1).mono ?_
          rintro e w2 ⟨rfl, hb2⟩
          have hb := hb1.trans (hb2.mono hb1.size)
          clear hl1 hb1 hb2 hl
          go_wp2_with fail
          go_ret
          exact ⟨rfl, hb⟩
        · go_enter Tryz.func100, Tryz.ntmps100
          go_wp2_with fail
          rw [show ((u : Int) + 2 - 1) = ((u + 1 : Nat) : Int) from by omega]
          refine (E1 _ hg hl).mono ?_
          rintro e w1 ⟨rfl, hb1⟩
          clear hl
          go_wp2_with fail
          go_ret
          exact ⟨rfl, hb1⟩
  · have hg' : goB R N f i im = false := by unfold goB; simp [hm]
    have hm1 : ¬ (im.tmod 4 = 0) := by
      intro e
      exact hm (Int.emod_eq_zero_of_dvd (Int.dvd_of_tmod_eq_zero e))
    rw [hg']
    go_enter Tryz.func100, Tryz.ntmps100
    go_wp2_with fail
    go_ret
    exact ⟨rfl, Below.refl _ _⟩
end Go.Proofs.YtelogjpjglohoaaGreatDoor
