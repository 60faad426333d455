/- Contracts of the program's SplitAddress and of the halves of a number. -/
import Derived.Test.YtdabllnigaafmaaDoorRlcS
import Derived.Test.YtdabllnigaafmaaDoorSgnI
import Derived.Test.YtdabllnigaafmaaDoorAlwC
namespace Go.Proofs.YtdabllnigaafmaaDoor.Rl
open Go Go.RowKit
set_option linter.unusedVariables false

theorem implLow (v : Int) (w : World) : Calls Tryd.prog 22 #[.int .i64 v] w fun e w' => e = .returned (.int .i64 (low12 v)) ∧ w' = w := by
  have h := sign_ok_impl v 12 w (by omega) (by omega)
  have H : Hid (Calls Tryd.prog 34 #[.int .i64 v, .int .i64 12] w fun e w' => e = .returned (.tuple #[.int .i64 (low12 v), .int .i64 0]) ∧ w' = w) := h
  clear h
  go_enter Tryd.func22, Tryd.ntmps22
  go_wp2_with fail
  refine H.out.mono ?_
  rintro e w1 ⟨rfl, rfl⟩
  clear H
  go_wp2
  go_ret
  exact ⟨rfl, rfl⟩
theorem implHigh (v : Int) (w : World) (h0 : -5000000000 ≤ v) (h1 : v ≤ 5000000000) : Calls Tryd.prog 19 #[.int .i64 v] w fun e w' => e = .returned (.int .i64 (v - low12 v)) ∧ w' = w := by
  have hl := low12_bd v
  have HH : Hid (Calls Tryd.prog 22 #[.int .i64 v] w fun e w' => e = .returned (.int .i64 (low12 v)) ∧ w' = w) := implLow v w
  generalize low12 v = l at *
  go_enter Tryd.func19, Tryd.ntmps19
  go_wp2_with (go_at_call 22; refine HH.out.mono ?_; rintro e w1 ⟨rfl, rfl⟩)
  go_ret
  exact ⟨rfl, rfl⟩
/-- What SplitAddress answers: ErrRange, ErrReach, or the halves. -/
def SplitIs (v x y c : Int) : Prop :=
  ((v < -4294967296 ∨ 4294967296 < v) ∧ x = 0 ∧ y = 0 ∧ c = 4) ∨ (-4294967296 ≤ v ∧ v ≤ 4294967296 ∧ (v - low12 v < -2147483648 ∨ 2147479552 < v - low12 v) ∧ x = 0 ∧ y = 0 ∧ c = 25) ∨ (-2147483648 ≤ v - low12 v ∧ v - low12 v ≤ 2147479552 ∧ x = v - low12 v ∧ y = low12 v ∧ c = 0)
theorem split_any (v : Int) : ∃ x y c, SplitIs v x y c := by
  unfold SplitIs
  by_cases h : v < -4294967296 ∨ 4294967296 < v
  · exact ⟨0, 0, 4, .inl ⟨h, rfl, rfl, rfl⟩⟩
  · by_cases k : v - low12 v < -2147483648 ∨ 2147479552 < v - low12 v
    · exact ⟨0, 0, 25, .inr (.inl ⟨by omega, by omega, k, rfl, rfl, rfl⟩)⟩
    · exact ⟨_, _, 0, .inr (.inr ⟨by omega, by omega, rfl, rfl, rfl⟩)⟩
theorem okU (v : Int) (b : Bool) (h : (b = true ∧ -2147483648 ≤ v - low12 v ∧ v - low12 v ≤ 2147479552) ∨ (b = false ∧ (v - low12 v < -2147483648 ∨ 2147479552 < v - low12 v))) : okB 1 (v - low12 v) = b := by
  have hm : (v - low12 v) % 4096 = 0 := by
    rw [low12_eq]
    omega
  have hi := okB_iff 1 (v - low12 v) (by omega) (by omega)
  have e : okI 1 (v - low12 v) ↔ (-2147483648 ≤ v - low12 v ∧ v - low12 v ≤ 2147479552 ∧ (v - low12 v) % 4096 = 0) := Iff.rfl
  rw [e] at hi
  rcases h with ⟨rfl, h0, h1⟩ | ⟨rfl, h⟩
  · exact hi.2 ⟨h0, h1, hm⟩
  · rw [Bool.eq_false_iff]
    intro hb
    have := hi.1 hb
    omega
theorem implSplit (v : Int) (w : World) (hL : Laid w) (x y c : Int) (h : SplitIs v x y c) :
    Calls Tryd.prog 8 #[.int .i64 v] w fun e w' => e = .returned (.tuple #[.int .i64 x, .int .i64 y, .int .i64 c]) ∧ Below w.heap.size w w' := by
  have hl := low12_bd v
  unfold SplitIs at h
  rcases h with ⟨h, rfl, rfl, rfl⟩ | ⟨h0, h1, h, rfl, rfl, rfl⟩ | ⟨h0, h1, rfl, rfl, rfl⟩
  · obtain ⟨a0, a1, hL⟩ := hL
    have HC : Hid (Calls Tryd.prog 17 #[.string ⟨#[118]⟩, .int .i64 v] w fun e w' => e = .returned (argErr ⟨#[118]⟩ a0) ∧ w' = w) := by
      show Calls _ _ _ _ _
      go_enter Tryd.func17, Tryd.ntmps17
      go_wp2_with fail
      refine (inside_no _ v (-4294967296) 4294967296 w a0 a1 hL h).mono ?_
      rintro e w1 ⟨rfl, rfl⟩
      clear hL h hl
      go_wp2
      go_ret
      exact ⟨rfl, rfl⟩
    clear hl h
    go_enter Tryd.func8, Tryd.ntmps8
    go_wp2_with fail
    refine HC.out.mono ?_
    rintro e w1 ⟨rfl, rfl⟩
    clear HC
    go_wp2_with fail
    refine (code_range _ _ a0 a1 hL).mono ?_
    rintro e w2 ⟨rfl, hb⟩
    clear hL
    go_wp2
    go_ret3
    exact ⟨rfl, hb⟩
  all_goals
    clear hL
    have HC : Hid (Calls Tryd.prog 17 #[.string ⟨#[118]⟩, .int .i64 v] w fun e w' => e = .returned .nilIface ∧ w' = w) := by
      show Calls _ _ _ _ _
      go_enter Tryd.func17, Tryd.ntmps17
      go_wp2_with fail
      refine (inside_ok _ v (-4294967296) 4294967296 w (by omega) (by omega)).mono ?_
      rintro e w1 ⟨rfl, rfl⟩
      clear hl
      go_wp2
      go_ret
      exact ⟨rfl, rfl⟩
  · have HG : Hid (∀ W, Calls Tryd.prog 19 #[.int .i64 v] W fun e w' => e = .returned (.int .i64 (v - low12 v)) ∧ w' = W) := fun W => implHigh v W (by omega) (by omega)
    have HU : Hid (∀ W, Calls Tryd.prog 21 #[rule1, .int .i64 (v - low12 v)] W fun e w' => e = .returned (.bool false) ∧ Below W.heap.size W w') := fun W => by
      have := allows1 (v - low12 v) W
      rw [okU v false (.inr ⟨rfl, h⟩)] at this
      exact this
    clear h
    generalize low12 v = l at *
    go_enter Tryd.func8, Tryd.ntmps8
    go_wp2_with fail
    refine HC.out.mono ?_
    rintro e w1 ⟨rfl, rfl⟩
    clear HC
    go_wp2_with fail
    refine (HG.out _).mono ?_
    rintro e w2 ⟨rfl, rfl⟩
    go_wp2_with fail
    refine (rule_1 _).mono ?_
    rintro e w3 ⟨rfl, hb3⟩
    go_wp2_with fail
    refine (HU.out _).mono ?_
    rintro e w4 ⟨rfl, hb4⟩
    have HB : Hid (Below w2.heap.size w2 w4) := hb3.trans (hb4.mono hb3.size)
    clear HU HG hb3 hb4
    go_wp2
    go_ret3
    exact ⟨rfl, HB.out⟩
  · have HG : Hid (∀ W, Calls Tryd.prog 19 #[.int .i64 v] W fun e w' => e = .returned (.int .i64 (v - low12 v)) ∧ w' = W) := fun W => implHigh v W (by omega) (by omega)
    have HW : Hid (∀ W, Calls Tryd.prog 22 #[.int .i64 v] W fun e w' => e = .returned (.int .i64 (low12 v)) ∧ w' = W) := fun W => implLow v W
    have HU : Hid (∀ W, Calls Tryd.prog 21 #[rule1, .int .i64 (v - low12 v)] W fun e w' => e = .returned (.bool true) ∧ Below W.heap.size W w') := fun W => by
      have := allows1 (v - low12 v) W
      rw [okU v true (.inl ⟨rfl, h0, h1⟩)] at this
      exact this
    generalize low12 v = l at *
    go_enter Tryd.func8, Tryd.ntmps8
    go_wp2_with fail
    refine HC.out.mono ?_
    rintro e w1 ⟨rfl, rfl⟩
    clear HC
    go_wp2_with fail
    refine (HG.out _).mono ?_
    rintro e w2 ⟨rfl, rfl⟩
    go_wp2_with fail
    refine (rule_1 _).mono ?_
    rintro e w3 ⟨rfl, hb3⟩
    go_wp2_with fail
    refine (HU.out _).mono ?_
    rintro e w4 ⟨rfl, hb4⟩
    have HB : Hid (Below w2.heap.size w2 w4) := hb3.trans (hb4.mono hb3.size)
    clear HU HG hb3 hb4
    go_wp2_with (go_at_call 22; (with_reducible refine (HW.out _).mono ?_); rintro e w5 ⟨rfl, rfl⟩)
    go_ret3
    exact ⟨rfl, HB.out⟩
end Go.Proofs.YtdabllnigaafmaaDoor.Rl
