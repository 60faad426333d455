/- Shadow variables: the model's numbers, the model's search. -/
import Derived.Test.YtibepggakjfbcaaShwK
import Derived.Test.YtibepggakjfbcaaLssC
import Derived.Test.YtibepggakjfbcaaSpIn
namespace Go.Proofs.Ytibepggakjfbcaa
open Go Go.RowKit
set_option linter.unusedVariables false

theorem idS (x : Int) (w : World) (b : Bool) (hb : b = true ↔ idP x) :
    Calls Try.prog 44 #[.int .i64 x] w fun e w' => e = .returned (.bool b) ∧ w' = w := by
  have h : (b = true ∧ (0 : Int) ≤ x ∧ x ≤ 255) ∨ (b = false ∧ (x < 0 ∨ 255 < x)) := by
    cases b with
    | true => exact .inl ⟨rfl, hb.1 rfl⟩
    | false =>
      refine .inr ⟨rfl, ?_⟩
      by_cases h0 : x < 0
      · exact .inl h0
      · by_cases h1 : 255 < x
        · exact .inr h1
        · have := hb.2 ⟨by omega, by omega⟩; cases this
  have hS := spIn x 0 255 w b h
  clear hb h
  go_enter Try.func44, Try.ntmps44
  go_wp2_with fail
  refine hS.mono ?_
  rintro e w' ⟨rfl, rfl⟩
  go_wp2_with fail
  go_ret
  exact ⟨rfl, rfl⟩

/-- The first variable of a key; -1 if there is none. -/
def FstK (n : Nat) (S : Nat → ShwD) (x : Int × Int) (r : Int) : Prop := (r = -1 ∧ ∀ i, i < n → keyD (S i) ≠ x) ∨ ∃ k : Nat, k < n ∧ r = (k : Int) ∧ keyD (S k) = x ∧ ∀ i, i < k → keyD (S i) ≠ x
theorem fstK_ex (n : Nat) (S : Nat → ShwD) (x : Int × Int) : ∃ r, FstK n S x r := by
  induction n with
  | zero => exact ⟨-1, .inl ⟨rfl, fun i hi => absurd hi (Nat.not_lt_zero _)⟩⟩
  | succ n ih =>
    obtain ⟨r, h | ⟨k, h1, h2, h3, h4⟩⟩ := ih
    · by_cases e : keyD (S n) = x
      · exact ⟨n, .inr ⟨n, by omega, rfl, e, h.2⟩⟩
      · exact ⟨-1, .inl ⟨rfl, fun i hi => by
          rcases Nat.lt_succ_iff_lt_or_eq.1 hi with h' | rfl
          · exact h.2 i h'
          · exact e⟩⟩
    · exact ⟨r, .inr ⟨k, by omega, h2, h3, h4⟩⟩

set_option maxRecDepth 100000 in
set_option maxHeartbeats 4000000 in
theorem fndS (p : Option Addr) (n c : Nat) (S : Nat → ShwD) (o x : Int) (w : World) (hn : n ≤ 1048576) (hp : ShwsAt w p n S) (r : Int) (hr : FstK n S (o, x) r) :
    Calls Try.prog 45 #[.slice p n c, .int .i64 o, .int .i64 x] w fun e w' => e = .returned (.int .i64 r) ∧ Below w.heap.size w w' := by
  have HR : Hid (FstK n S (o, x) r) := hr
  clear hr
  go_enter Try.func45, Try.ntmps45
  go_wp2_with fail
  go_loopw [7] (fun i wr => ∃ k : Nat, k ≤ n ∧ i = .int .i64 k ∧ Hid (∀ j, j < k → keyD (S j) ≠ (o, x)) ∧ Below w.heap.size w wr) (fun i _ => n - (intOf i).toNat)
  case atStart => exact ⟨0, Nat.zero_le _, rfl, fun j hj => absurd hj (Nat.not_lt_zero _), Below.refl _ _⟩
  case round =>
    obtain ⟨k, hk, rfl, HALL, hB⟩ := hrel
    by_cases hlt : k < n
    · rcases hp with hp | ⟨pb, po, rfl, hpl, hp⟩
      · omega
      obtain ⟨x0, x1, x2⟩ := (hp.below hB hpl).shw hlt
      obtain ⟨a, ea⟩ : ∃ a, (S k).ob = a := ⟨_, rfl⟩
      obtain ⟨b, eb⟩ : ∃ a, (S k).ix = a := ⟨_, rfl⟩
      rw [ea] at x0
      rw [eb] at x1
      have HK : Hid (keyD (S k) = (a, b)) := by show keyD (S k) = _; unfold keyD; rw [ea, eb]
      have HB : Hid (Below w.heap.size w wr) := hB
      clear hp hB x2 ea eb
      by_cases h0 : a = o
      · by_cases h1 : b = x
        · obtain rfl : r = (k : Int) := by
            rcases HR.out with h | ⟨m, q1, q2, q3, q4⟩
            · exact absurd (by rw [HK.out, h0, h1]) (h.2 k hlt)
            · have : m = k := by
                rcases Nat.lt_trichotomy m k with h | h | h
                · exact absurd q3 (HALL.out m h)
                · exact h
                · exact absurd (by rw [HK.out, h0, h1]) (q4 k h)
              rw [q2, this]
          go_wp2_with fail
          go_ret
          exact ⟨rfl, HB.out⟩
        · have HNX : Hid (∀ j, j < k + 1 → keyD (S j) ≠ (o, x)) := fun j hj => by
            rcases Nat.lt_succ_iff_lt_or_eq.1 hj with h' | rfl
            · exact HALL.out j h'
            · rw [HK.out]; intro e; exact h1 (congrArg Prod.snd e)
          go_wp2_with fail
          go_roundw
          case rel => exact ⟨k + 1, by omega, by go_num, HNX, HB.out⟩
          case measure => simp [intOf]; omega
      · have HNX : Hid (∀ j, j < k + 1 → keyD (S j) ≠ (o, x)) := fun j hj => by
          rcases Nat.lt_succ_iff_lt_or_eq.1 hj with h' | rfl
          · exact HALL.out j h'
          · rw [HK.out]; intro e; exact h0 (congrArg Prod.fst e)
        go_wp2_with fail
        go_roundw
        case rel => exact ⟨k + 1, by omega, by go_num, HNX, HB.out⟩
        case measure => simp [intOf]; omega
    · obtain rfl : k = n := by omega
      obtain rfl : r = -1 := by
        rcases HR.out with h | ⟨m, q1, q2, q3, q4⟩
        · exact h.1
        · exact absurd q3 (HALL.out m q1)
      clear hp
      go_wp2_with fail
      go_ret
      exact ⟨rfl, hB⟩
end Go.Proofs.Ytibepggakjfbcaa
