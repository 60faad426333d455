/- Both PhaseOf. -/
import Derived.Test.YtepanogpojolfaaDoorGXInstrsOf5
namespace Go.Proofs.YtepanogpojolfaaDoor
open Go Go.RowKit
set_option linter.unusedVariables false

def phI (i op rd : Int) : Int := if i = 0 ∨ op = 4 then 0 else if i = 1 ∨ (op = 22 ∧ rd = 2) then 1 else 2

theorem phImpl (i op rd r1 r2 im : Int) (w : World) :
    Calls Tryd.prog 68 #[.int .i64 i, .agg #[.int .i64 op, .int .i64 rd, .int .i64 r1, .int .i64 r2, .int .i64 im]] w fun e w' => e = .returned (.int .i64 (phI i op rd)) ∧ Below w.heap.size w w' := by
  unfold phI
  by_cases h0 : i = 0
  · subst h0
    rw [if_pos (.inl rfl)]
    go_enter Tryd.func68, Tryd.ntmps68
    go_wp2
    go_ret
    exact ⟨rfl, (Below.refl _ _).alloc (Nat.le_refl _) _⟩
  by_cases h4 : op = 4
  · subst h4
    rw [if_pos (.inr rfl)]
    go_enter Tryd.func68, Tryd.ntmps68
    go_wp2
    go_ret
    exact ⟨rfl, (Below.refl _ _).alloc (Nat.le_refl _) _⟩
  rw [if_neg (by omega)]
  have h0b : (i == 0) = false := by simpa using h0
  have h4b : (op == 4) = false := by simpa using h4
  by_cases h1 : i = 1
  · subst h1
    rw [if_pos (.inl rfl)]
    go_enter Tryd.func68, Tryd.ntmps68
    go_wp2
    go_ret
    exact ⟨rfl, (Below.refl _ _).alloc (Nat.le_refl _) _⟩
  have h1b : (i == 1) = false := by simpa using h1
  by_cases h2 : op = 22
  · subst h2
    by_cases h3 : rd = 2
    · subst h3
      rw [if_pos (.inr ⟨rfl, rfl⟩)]
      go_enter Tryd.func68, Tryd.ntmps68
      go_wp2
      go_ret
      exact ⟨rfl, (Below.refl _ _).alloc (Nat.le_refl _) _⟩
    · rw [if_neg (by omega)]
      have h3b : (rd == 2) = false := by simpa using h3
      go_enter Tryd.func68, Tryd.ntmps68
      go_wp2
      go_ret
      exact ⟨rfl, (Below.refl _ _).alloc (Nat.le_refl _) _⟩
  · rw [if_neg (by omega)]
    have h2b : (op == 22) = false := by simpa using h2
    go_enter Tryd.func68, Tryd.ntmps68
    go_wp2
    go_ret
    exact ⟨rfl, (Below.refl _ _).alloc (Nat.le_refl _) _⟩

theorem phSpec (i op rd r1 r2 im : Int) (w : World) :
    Calls Tryd.prog 67 #[.agg #[.int .i64 op, .int .i64 rd, .int .i64 r1, .int .i64 r2, .int .i64 im], .int .i64 i] w fun e w' => e = .returned (.int .i64 (phI i op rd)) ∧ Below w.heap.size w w' := by
  unfold phI
  by_cases h0 : i = 0
  · subst h0
    rw [if_pos (.inl rfl)]
    go_enter Tryd.func67, Tryd.ntmps67
    go_wp2
    go_ret
    exact ⟨rfl, (Below.refl _ _).alloc (Nat.le_refl _) _⟩
  by_cases h4 : op = 4
  · subst h4
    rw [if_pos (.inr rfl)]
    go_enter Tryd.func67, Tryd.ntmps67
    go_wp2
    go_ret
    exact ⟨rfl, (Below.refl _ _).alloc (Nat.le_refl _) _⟩
  rw [if_neg (by omega)]
  have h0b : (i == 0) = false := by simpa using h0
  have h4b : (op == 4) = false := by simpa using h4
  by_cases h1 : i = 1
  · subst h1
    rw [if_pos (.inl rfl)]
    go_enter Tryd.func67, Tryd.ntmps67
    go_wp2
    go_ret
    exact ⟨rfl, (Below.refl _ _).alloc (Nat.le_refl _) _⟩
  have h1b : (i == 1) = false := by simpa using h1
  by_cases h2 : op = 22
  · subst h2
    by_cases h3 : rd = 2
    · subst h3
      rw [if_pos (.inr ⟨rfl, rfl⟩)]
      go_enter Tryd.func67, Tryd.ntmps67
      go_wp2
      go_ret
      exact ⟨rfl, (Below.refl _ _).alloc (Nat.le_refl _) _⟩
    · rw [if_neg (by omega)]
      have h3b : (rd == 2) = false := by simpa using h3
      go_enter Tryd.func67, Tryd.ntmps67
      go_wp2
      go_ret
      exact ⟨rfl, (Below.refl _ _).alloc (Nat.le_refl _) _⟩
  · rw [if_neg (by omega)]
    have h2b : (op == 22) = false := by simpa using h2
    go_enter Tryd.func67, Tryd.ntmps67
    go_wp2
    go_ret
    exact ⟨rfl, (Below.refl _ _).alloc (Nat.le_refl _) _⟩

/-- An answer of two numbers. -/
def TwoAns (x y : Int) (w : World) (e : Ending) (w' : World) : Prop := e = .returned (.tuple #[.int .i64 x, .int .i64 y]) ∧ Below w.heap.size w w'

theorem phaseImplNo (s : ByteArray) (i : Int) (w : World) (hs : s.size ≤ maxLen) (c : Int) (hc : crC s.size 0 = c) (h0 : c ≠ 0) :
    Calls Tryd.prog 32 #[.string s, .int .i64 i] w fun e w' => TwoAns 0 c w e w' := by
  go_enter Tryd.func32, Tryd.ntmps32
  go_wp2_with (go_at_call 54; refine (checkRunC s 0 _ hs (by omega)).mono ?_; rintro e w' ⟨rfl, rfl⟩; rw [hc])
  go_ret2
  exact ⟨rfl, Below.refl _ _⟩
theorem phaseImplRange (s : ByteArray) (i : Int) (w : World) (hi : (Lit.int .i64 i).wf = true) (hs : s.size % 4 = 0 ∧ s.size ≤ 256) (hc : crC s.size 0 = 0) (h : i < 0 ∨ (s.size : Int) / 4 ≤ i) :
    Calls Tryd.prog 32 #[.string s, .int .i64 i] w fun e w' => TwoAns 0 4 w e w' := by
  by_cases h0 : i < 0
  · go_enter Tryd.func32, Tryd.ntmps32
    go_wp2_with (go_at_call 54; refine (checkRunC s 0 _ (by unfold maxLen; omega) (by omega)).mono ?_; rintro e w' ⟨rfl, rfl⟩; rw [hc])
    go_ret2
    exact ⟨rfl, Below.refl _ _⟩
  · have h1 : (s.size : Int) / 4 ≤ i := by omega
    go_enter Tryd.func32, Tryd.ntmps32
    go_wp2_with (go_at_call 54; refine (checkRunC s 0 _ (by unfold maxLen; omega) (by omega)).mono ?_; rintro e w' ⟨rfl, rfl⟩; rw [hc])
    go_ret2
    exact ⟨rfl, Below.refl _ _⟩
theorem phaseSpecLong (s : ByteArray) (i : Int) (w : World) (hs : s.size ≤ maxLen) (h : 65536 < s.size) :
    Calls Tryd.prog 31 #[.string s, .int .i64 i] w fun e w' => TwoAns 0 2 w e w' := by
  unfold maxLen at hs
  go_enter Tryd.func31, Tryd.ntmps31
  go_wp2
  go_ret2
  exact ⟨rfl, Below.refl _ _⟩
theorem phaseSpecSize (s : ByteArray) (i : Int) (w : World) (hs : s.size ≤ 65536) (h : ¬ (s.size % 4 = 0 ∧ s.size ≤ 256)) :
    Calls Tryd.prog 31 #[.string s, .int .i64 i] w fun e w' => TwoAns 0 8 w e w' := by
  have e : decide (s.size % 4 = 0 ∧ s.size ≤ 256) = false := by simp only [decide_eq_false_iff_not]; exact h
  go_enter Tryd.func31, Tryd.ntmps31
  go_wp2_with (go_at_call 52; refine (szRun s _ (by unfold maxLen; omega)).mono ?_; rintro e' w' ⟨rfl, rfl⟩; rw [e])
  go_ret2
  exact ⟨rfl, Below.refl _ _⟩
theorem phaseSpecRange (s : ByteArray) (i : Int) (w : World) (hi : (Lit.int .i64 i).wf = true) (hs : s.size % 4 = 0 ∧ s.size ≤ 256) (h : i < 0 ∨ (s.size : Int) / 4 ≤ i) :
    Calls Tryd.prog 31 #[.string s, .int .i64 i] w fun e w' => TwoAns 0 4 w e w' := by
  have e : decide (s.size % 4 = 0 ∧ s.size ≤ 256) = true := by simp only [decide_eq_true_eq]; exact hs
  by_cases h0 : i < 0
  · go_enter Tryd.func31, Tryd.ntmps31
    go_wp2_with (go_at_call 52; refine (szRun s _ (by unfold maxLen; omega)).mono ?_; rintro e' w' ⟨rfl, rfl⟩; rw [e])
    go_ret2
    exact ⟨rfl, Below.refl _ _⟩
  · have h1 : (s.size : Int) / 4 ≤ i := by omega
    go_enter Tryd.func31, Tryd.ntmps31
    go_wp2_with (go_at_call 52; refine (szRun s _ (by unfold maxLen; omega)).mono ?_; rintro e' w' ⟨rfl, rfl⟩; rw [e])
    go_ret2
    exact ⟨rfl, Below.refl _ _⟩

theorem phaseSpecRun (s : ByteArray) (N j k : Nat) (R : Nat → Int) (w : World) (hr : Run s N R j) (h : s.size % 4 = 0 ∧ s.size ≤ 256) (hk : k < N) (x y : Int) (hx : (j = N ∧ x = phI k (R (k * 5)) (R (k * 5 + 1)) ∧ y = 0) ∨ (j < N ∧ x = 0 ∧ y = 10)) :
    Calls Tryd.prog 31 #[.string s, .int .i64 k] w fun e w' => TwoAns x y w e w' := by
  have e : decide (s.size % 4 = 0 ∧ s.size ≤ 256) = true := by simp only [decide_eq_true_eq]; exact h
  have hle : s.size ≤ 65536 := by omega
  have hq : (s.size : Int) / 4 = N := by have := hr.size; omega
  go_enter Tryd.func31, Tryd.ntmps31
  go_wp2_with (go_at_call 52; refine (szRun s _ (by unfold maxLen; omega)).mono ?_; rintro e' w' ⟨rfl, rfl⟩; rw [e])
  refine (hr.model _).mono ?_
  rintro e2 w2 ⟨⟨p, n, c, z, rfl, ⟨hj, rfl, rfl⟩ | ⟨hj, rfl, rfl⟩, ho⟩, hb⟩
  · obtain ⟨_, rfl, rfl⟩ : j = n ∧ x = phI k (R (k * 5)) (R (k * 5 + 1)) ∧ y = 0 := by
      rcases hx with hx | hx
      · exact hx
      · omega
    rcases ho with ho | ⟨g, rfl, hg, hl, hf⟩
    · omega
    obtain ⟨x0, x1, x2, x3, x4⟩ := hf.rd.five hk
    simp only [Nat.zero_add] at x0 x1 x2 x3 x4
    go_wp2_with fail
    refine (phSpec _ _ _ _ _ _ _).mono ?_
    rintro e3 w3 ⟨rfl, hb3⟩
    go_wp2
    go_ret2
    exact ⟨rfl, hb.trans (hb3.mono hb.size)⟩
  · obtain ⟨_, rfl, rfl⟩ : j < N ∧ x = 0 ∧ y = 10 := by
      rcases hx with hx | hx
      · omega
      · exact hx
    have hj0 : (0 : Int) ≤ j := by omega
    go_wp2
    go_ret2
    exact ⟨rfl, hb⟩
theorem phaseImplRun (s : ByteArray) (N j k : Nat) (R : Nat → Int) (w : World) (hL : Laid w) (hr : Run s N R j) (h : s.size % 4 = 0 ∧ s.size ≤ 256) (hc : crC s.size 0 = 0) (hk : k < N) (x y : Int) (hx : (j = N ∧ x = phI k (R (k * 5)) (R (k * 5 + 1)) ∧ y = 0) ∨ (j < N ∧ x = 0 ∧ y = 10)) :
    Calls Tryd.prog 32 #[.string s, .int .i64 k] w fun e w' => TwoAns x y w e w' := by
  have hle : s.size ≤ 65536 := by omega
  have hq : (s.size : Int) / 4 = N := by have := hr.size; omega
  go_enter Tryd.func32, Tryd.ntmps32
  go_wp2_with (go_at_call 54; refine (checkRunC s 0 _ (by unfold maxLen; omega) (by omega)).mono ?_; rintro e w' ⟨rfl, rfl⟩; rw [hc])
  refine (hr.impl _ hL).mono ?_
  rintro e2 w2 ⟨⟨p, n, c, z, z', rfl, ⟨hj, rfl, rfl, rfl⟩ | ⟨hj, rfl, rfl, rfl⟩, ho⟩, hb⟩
  · obtain ⟨_, rfl, rfl⟩ : j = n ∧ x = phI k (R (k * 5)) (R (k * 5 + 1)) ∧ y = 0 := by
      rcases hx with hx | hx
      · exact hx
      · omega
    rcases ho with ho | ⟨g, rfl, hg, hl, hf⟩
    · omega
    obtain ⟨x0, x1, x2, x3, x4⟩ := hf.rd.five hk
    simp only [Nat.zero_add] at x0 x1 x2 x3 x4
    go_wp2_with fail
    refine (phImpl _ _ _ _ _ _ _).mono ?_
    rintro e3 w3 ⟨rfl, hb3⟩
    go_wp2
    go_ret2
    exact ⟨rfl, hb.trans (hb3.mono hb.size)⟩
  · obtain ⟨_, rfl, rfl⟩ : j < N ∧ x = 0 ∧ y = 10 := by
      rcases hx with hx | hx
      · omega
      · exact hx
    go_wp2
    go_ret2
    exact ⟨rfl, hb⟩

theorem phaseBoth (s : ByteArray) (i : Int) (hs : s.size ≤ maxLen) (hi : (Lit.int .i64 i).wf = true) : ∃ x y : Int,
    (∀ w, Calls Tryd.prog 31 #[.string s, .int .i64 i] w fun e w' => TwoAns x y w e w') ∧
    (∀ w, Laid w → Calls Tryd.prog 32 #[.string s, .int .i64 i] w fun e w' => TwoAns x y w e w') := by
  rcases crC_cases s.size with ⟨h, hc⟩ | ⟨h, h', hc⟩ | ⟨h, h', hc⟩
  · exact ⟨0, 2, fun w => phaseSpecLong s i w hs h, fun w hL => phaseImplNo s i w hs 2 hc (by omega)⟩
  · exact ⟨0, 8, fun w => phaseSpecSize s i w h h', fun w hL => phaseImplNo s i w hs 8 hc (by omega)⟩
  · by_cases hb : i < 0 ∨ (s.size : Int) / 4 ≤ i
    · exact ⟨0, 4, fun w => phaseSpecRange s i w hi ⟨h, h'⟩ hb, fun w hL => phaseImplRange s i w hi ⟨h, h'⟩ hc hb⟩
    · obtain ⟨k, rfl⟩ : ∃ k : Nat, i = k := ⟨i.toNat, by omega⟩
      obtain ⟨R, j, hr⟩ := run_of s (s.size / 4) (by omega) (by omega)
      have hk : k < s.size / 4 := by omega
      by_cases e : j = s.size / 4
      · exact ⟨_, _, fun w => phaseSpecRun s _ j k R w hr ⟨h, h'⟩ hk _ _ (.inl ⟨e, rfl, rfl⟩), fun w hL => phaseImplRun s _ j k R w hL hr ⟨h, h'⟩ hc hk _ _ (.inl ⟨e, rfl, rfl⟩)⟩
      · have hj : j < s.size / 4 := by have := hr.le; omega
        exact ⟨_, _, fun w => phaseSpecRun s _ j k R w hr ⟨h, h'⟩ hk _ _ (.inr ⟨hj, rfl, rfl⟩), fun w hL => phaseImplRun s _ j k R w hL hr ⟨h, h'⟩ hc hk _ _ (.inr ⟨hj, rfl, rfl⟩)⟩
end Go.Proofs.YtepanogpojolfaaDoor
