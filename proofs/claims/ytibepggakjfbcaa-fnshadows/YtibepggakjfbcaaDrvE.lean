/- Lists of shadow variables held against each other, by the law's own helper (gen_drve.py). -/
import Derived.Test.YtibepggakjfbcaaShwA
import Derived.Test.YtibepggakjfbcaaShwD
namespace Go.Proofs.Ytibepggakjfbcaa
open Go Go.RowKit
set_option linter.unusedVariables false


set_option maxRecDepth 100000 in
set_option maxHeartbeats 4000000 in
theorem eqlL (p q : Option Addr) (n m c d : Nat) (S T : Nat → ShwD) (w : World) (hn : n ≤ 1048576) (hm : m ≤ 1048576) (hp : ShwsAt w p n S) (hq : ShwsAt w q m T) (b : Bool) (hb : b = true ↔ n = m ∧ ∀ i, i < n → S i = T i) :
    Calls Try.prog 19 #[.slice p n c, .slice q m d] w fun e w' => e = .returned (.bool b) ∧ Below w.heap.size w w' := by
  by_cases hnm : ¬ n = m
  · have hnb : ((n : Int) != (m : Int)) = true := by simpa using (fun h => hnm (by omega))
    have hbf : b = false := by cases b <;> simp_all
    subst hbf
    go_enter Try.func19, Try.ntmps19
    go_wp2_with fail
    go_ret
    exact ⟨rfl, Below.refl _ _⟩
  have hnm : n = m := Classical.byContradiction hnm
  subst hnm
  have h1 : b = true → ∀ i, i < n → S i = T i := fun h => (hb.1 h).2
  have h2 : (∀ i, i < n → S i = T i) → b = true := fun h => hb.2 ⟨rfl, h⟩
  have HB1 : Hid (b = true → ∀ i, i < n → S i = T i) := h1
  have HB2 : Hid ((∀ i, i < n → S i = T i) → b = true) := h2
  clear hb h1 h2
  go_enter Try.func19, Try.ntmps19
  go_wp2_with fail
  go_loopw [5] (fun i wr => ∃ k : Nat, k ≤ n ∧ i = .int .i64 k ∧ Hid (∀ j, j < k → S j = T j) ∧ Below w.heap.size w wr) (fun i _ => n - (intOf i).toNat)
  case atStart => exact ⟨0, Nat.zero_le _, rfl, fun j hj => absurd hj (Nat.not_lt_zero _), Below.refl _ _⟩
  case round =>
    obtain ⟨k, hk, rfl, HALL, hB⟩ := hrel
    have HB : Hid (Below w.heap.size w wr ∧ Below w.heap.size w wr.drew) := ⟨hB, hB.drew⟩
    by_cases hlt : k < n
    · rcases hp with hp | ⟨pb, po, rfl, hpl, hp⟩
      · omega
      rcases hq with hq | ⟨qb, qo, rfl, hql, hq⟩
      · omega
      obtain ⟨x0, x1, x2⟩ := (hp.below hB hpl).shw hlt
      obtain ⟨y0, y1, y2⟩ := (hq.below hB hql).shw hlt
      obtain ⟨s, es⟩ : ∃ s, S k = s := ⟨_, rfl⟩
      obtain ⟨t, et⟩ : ∃ s, T k = s := ⟨_, rfl⟩
      rw [es] at x0 x1 x2
      rw [et] at y0 y1 y2
      have ES : Hid (S k = s) := es
      have ET : Hid (T k = t) := et
      clear hp hq hB es et
      by_cases he : s = t
      · subst he
        have HNX : Hid (∀ j, j < k + 1 → S j = T j) := fun j hj => by
          rcases Nat.lt_succ_iff_lt_or_eq.1 hj with h' | rfl
          · exact HALL.out j h'
          · rw [ES.out, ET.out]
        go_wp2_with fail
        go_region
        all_goals
          go_wp2_with fail
          go_roundw
          case rel =>
            first
              | exact ⟨k + 1, by omega, by go_num, HNX, by first | exact HB.out.2 | exact HB.out.1⟩
              | ((repeat apply Exists.intro); exact ⟨⟨k + 1, by omega, by go_num, HNX, by first | exact HB.out.2 | exact HB.out.1⟩, rfl⟩)
          case measure => simp [intOf]; omega
      · have hbf : b = false := by
          cases b with
          | false => rfl
          | true => exact absurd (HB1.out rfl k hlt) (by rw [ES.out, ET.out]; exact he)
        have key : (¬ s.ob = t.ob) ∨ (s.ob = t.ob ∧ ¬ s.ix = t.ix) ∨ (s.ob = t.ob ∧ s.ix = t.ix ∧ ¬ s.va = t.va) := by
          cases s
          cases t
          simp only [ShwD.mk.injEq] at he
          simp only
          by_cases g0 : True
          · exact Classical.byContradiction fun hc => he (by simp only [not_or, not_and, Classical.not_not] at hc; simp_all)
          · exact absurd trivial g0
        subst hbf
        rcases key with k0 | ⟨k0, k1⟩ | ⟨k0, k1, k2⟩
        · skip
          go_wp2_with fail
          go_region
          all_goals
            go_wp2_with fail
            go_ret
            exact ⟨rfl, by first | exact HB.out.2 | exact HB.out.1⟩
        · skip
          go_wp2_with fail
          go_region
          all_goals
            go_wp2_with fail
            go_ret
            exact ⟨rfl, by first | exact HB.out.2 | exact HB.out.1⟩
        · skip
          go_wp2_with fail
          go_region
          all_goals
            go_wp2_with fail
            go_ret
            exact ⟨rfl, by first | exact HB.out.2 | exact HB.out.1⟩
    · obtain rfl : k = n := by omega
      have hbt : b = true := HB2.out HALL.out
      subst hbt
      clear hp hq
      go_wp2_with fail
      go_ret
      exact ⟨rfl, hB⟩
end Go.Proofs.Ytibepggakjfbcaa
