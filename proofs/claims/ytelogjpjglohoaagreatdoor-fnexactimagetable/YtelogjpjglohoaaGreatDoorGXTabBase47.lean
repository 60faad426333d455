/- The model's check of functions, whole; both checks. The model's inner check and the program's LintFunction: both answer the same. -/
import Derived.Test.YtelogjpjglohoaaGreatDoorGXTabBase46
namespace Go.Proofs.YtelogjpjglohoaaGreatDoor
open Go Go.RowKit
set_option linter.unusedVariables false

section
variable {pc : Option Addr} {cc : Nat} {zs : List Int}
set_option maxRecDepth 100000 in
set_option maxHeartbeats 8000000 in
theorem specYes (s : ByteArray) (a f : Int) (N : Nat) (R : Nat → Int) (w : World) (hf : (Lit.int .i64 f).wf = true) (ha : plB a = true) (hfr : frB f = true) (h0 : s.size % 4 = 0 ∧ s.size ≤ 256) (h20 : 20 ≤ s.size) (hr : Run s N R N) (h5 : 5 ≤ N) (h64 : N ≤ 64)
    (hk : zs.length ≤ 1048576) (hz : IntsAt w pc zs) (x y : Int) (hl : LintIs R N f a zs x y) :
    Calls Tryz.prog 62 #[.string s, .int .i64 a, .int .i64 f, .slice pc zs.length cc] w fun e w' => TwoN w.heap.size x y w e w' := by
  obtain ⟨a0, a1, a2⟩ := plB_yes ha
  have hs' : s.size ≤ maxLen := by unfold maxLen; omega
  have e : decide (s.size % 4 = 0 ∧ s.size ≤ 256) = true := by rw [decide_eq_true_eq]; exact h0
  have hsm : ∀ i, i < N → Small5 R i := fun i hi => small_of (hr.right i hi)
  obtain ⟨K, hK⟩ : ∃ K, zs.length = K := ⟨_, rfl⟩
  rw [hK]
  go_enter Tryz.func62, Tryz.ntmps62
  go_wp2_with (first | (go_at_call 79; refine (spIn _ _ _ _ true (.inl ⟨rfl, a0, a1⟩)).mono ?_; rintro e w' ⟨rfl, rfl⟩) | (go_at_call 80; refine (frSpec f _ hf).mono ?_; rintro e w' ⟨rfl, rfl⟩; rw [hfr]) | (go_at_call 81; refine (szRun s _ hs').mono ?_; rintro e' w' ⟨rfl, rfl⟩; rw [e]))
  refine (hr.model _).mono ?_
  rintro e2 w2 ⟨⟨p, n, c, x', rfl, ⟨hj', rfl, rfl⟩ | ⟨hj', rfl, rfl⟩, ho⟩, hb⟩
  rotate_left
  · omega
  rcases ho with ho | ⟨g, rfl, hg0, hg1, hfl⟩
  · omega
  have hm : MdIs w2 g n R pc zs := ⟨hfl.rd, hg1, hz.below hb⟩
  have HB : Hid (Below w'.heap.size w' w2) := hb
  have ru := fun i w' (h : MdIs w' g n R pc zs) (hi : i < n) (h2 : 2 ≤ i) => specRule (g := g) (N := n) (c := c) (pc := pc) (cc := cc) (at' := a) (f := f) (R := R) (zs := zs) i w' h hi h2 h64 hfr a0 a1 hk (hsm i hi)
  rw [hK] at ru
  clear hfl hg0 hb hr hsm e
  go_wp2_with fail
  go_loopw [12] (fun i wr => ∃ m : Nat, m ≤ 2 ∧ i = .int .i64 m ∧ (∀ j, j < m → Eq5 R (proR f) j) ∧ Below w2.heap.size w2 wr) (fun i _ => 2 - (intOf i).toNat)
  case atStart => exact ⟨0, Nat.zero_le _, rfl, fun j h => by omega, Below.refl _ _⟩
  case round =>
    obtain ⟨m, hm2, rfl, hok, hB⟩ := hrel
    have h1 := hm.below hB
    by_cases hlt : m < 2
    · obtain ⟨x0, x1, x2, x3, x4⟩ := h1.l.five (k := m) (by omega)
      simp only [Nat.zero_add] at x0 x1 x2 x3 x4
      have lg1 := h1.lg
      obtain ⟨b0, e0⟩ : ∃ b, proR f (m * 5) = b := ⟨_, rfl⟩
      obtain ⟨b1, e1⟩ : ∃ b, proR f (m * 5 + 1) = b := ⟨_, rfl⟩
      obtain ⟨b2, e2⟩ : ∃ b, proR f (m * 5 + 2) = b := ⟨_, rfl⟩
      obtain ⟨b3, e3⟩ : ∃ b, proR f (m * 5 + 3) = b := ⟨_, rfl⟩
      obtain ⟨b4, e4⟩ : ∃ b, proR f (m * 5 + 4) = b := ⟨_, rfl⟩
      have hgu := guardIns
      have hsm : sm5 (R (m * 5)) (R (m * 5 + 1)) (R (m * 5 + 2)) (R (m * 5 + 3)) (R (m * 5 + 4)) b0 b1 b2 b3 b4 = true ↔ Eq5 R (proR f) m := by
        rw [sm5_iff, ← e0, ← e1, ← e2, ← e3, ← e4]
        unfold Eq5
        constructor
        · rintro ⟨a0, a1, a2, a3, a4⟩ j hj
          match j, hj with
          | 0, _ => exact a0
          | 1, _ => exact a1
          | 2, _ => exact a2
          | 3, _ => exact a3
          | 4, _ => exact a4
        · intro a
          exact ⟨a 0 (by omega), a 1 (by omega), a 2 (by omega), a 3 (by omega), a 4 (by omega)⟩
      have heq := fun w => eqlIns (R (m * 5)) (R (m * 5 + 1)) (R (m * 5 + 2)) (R (m * 5 + 3)) (R (m * 5 + 4)) b0 b1 b2 b3 b4 w
      have hmN : m < n := by omega
      have pro : ∀ w, Hid (Calls Tryz.prog 69 #[.int .i64 f] w fun e w' => ∃ G, e = .returned (.slice (some ⟨G, 0, none⟩) 2 2) ∧ Below w.heap.size w w' ∧ w'.cell? ⟨G, m * 5, none⟩ = some (.int .i64 b0) ∧ w'.cell? ⟨G, m * 5 + 1, none⟩ = some (.int .i64 b1) ∧ w'.cell? ⟨G, m * 5 + 2, none⟩ = some (.int .i64 b2) ∧ w'.cell? ⟨G, m * 5 + 3, none⟩ = some (.int .i64 b3) ∧ w'.cell? ⟨G, m * 5 + 4, none⟩ = some (.int .i64 b4)) := by
        intro w
        refine (proSpec0 f w hfr).mono ?_
        rintro e w1 ⟨G, rfl, hb, hG0, hG1, hfl⟩
        obtain ⟨y0, y1, y2, y3, y4⟩ := hfl.rd.five (k := m) hlt
        simp only [Nat.zero_add] at y0 y1 y2 y3 y4
        rw [e0] at y0
        rw [e1] at y1
        rw [e2] at y2
        rw [e3] at y3
        rw [e4] at y4
        exact ⟨G, rfl, hb, y0, y1, y2, y3, y4⟩
      clear e0 e1 e2 e3 e4
      by_cases hE : Eq5 R (proR f) m
      · rw [hsm.2 hE] at heq
        clear hsm h1
        go_wp2_with fail
        go_region_with ((go_at_call 69; refine ((pro _).out).mono ?_; rintro e w3 ⟨G, rfl, hb3, y0, y1, y2, y3, y4⟩; have B3 : Below wr.heap.size wr w3 := (by first | exact hb3 | exact (Below.refl wr.heap.size wr).drew.trans hb3); have z0 := (B3.cell (p := ⟨g, m * 5, none⟩) lg1).trans x0; have z1 := (B3.cell (p := ⟨g, m * 5 + 1, none⟩) lg1).trans x1; have z2 := (B3.cell (p := ⟨g, m * 5 + 2, none⟩) lg1).trans x2; have z3 := (B3.cell (p := ⟨g, m * 5 + 3, none⟩) lg1).trans x3; have z4 := (B3.cell (p := ⟨g, m * 5 + 4, none⟩) lg1).trans x4))
        all_goals
          go_wp2_with fail
          go_round
          case rel => exact ⟨m + 1, by omega, by go_num, fun j hj => by
            rcases Nat.lt_succ_iff_lt_or_eq.1 hj with h | rfl
            · exact hok j h
            · exact hE, by first | exact hB.trans (B3.mono hB.size) | exact hB.trans ((B3.drew).mono hB.size)⟩
          case measure => simp [intOf]; omega
      · have hs : sm5 (R (m * 5)) (R (m * 5 + 1)) (R (m * 5 + 2)) (R (m * 5 + 3)) (R (m * 5 + 4)) b0 b1 b2 b3 b4 = false := by
          cases e : sm5 (R (m * 5)) (R (m * 5 + 1)) (R (m * 5 + 2)) (R (m * 5 + 3)) (R (m * 5 + 4)) b0 b1 b2 b3 b4
          · rfl
          · exact absurd (hsm.1 e) hE
        obtain ⟨rfl, rfl⟩ : x = ((m : Nat) : Int) ∧ y = 17 := by
          cases hl with
          | head k hk a b =>
            by_cases h1 : k < m
            · exact absurd (hok k h1) b
            · by_cases h2 : m < k
              · exact absurd (a m h2) hE
              · obtain rfl : k = m := by omega
                exact ⟨rfl, rfl⟩
          | last a b => exact absurd (a m hlt) hE
          | rule k a b => exact absurd (a m hlt) hE
          | none a b => exact absurd (a m hlt) hE
        rw [hs] at heq
        clear hsm hs h1 hl
        go_wp2_with fail
        go_region_with ((go_at_call 69; refine ((pro _).out).mono ?_; rintro e w3 ⟨G, rfl, hb3, y0, y1, y2, y3, y4⟩; have B3 : Below wr.heap.size wr w3 := (by first | exact hb3 | exact (Below.refl wr.heap.size wr).drew.trans hb3); have z0 := (B3.cell (p := ⟨g, m * 5, none⟩) lg1).trans x0; have z1 := (B3.cell (p := ⟨g, m * 5 + 1, none⟩) lg1).trans x1; have z2 := (B3.cell (p := ⟨g, m * 5 + 2, none⟩) lg1).trans x2; have z3 := (B3.cell (p := ⟨g, m * 5 + 3, none⟩) lg1).trans x3; have z4 := (B3.cell (p := ⟨g, m * 5 + 4, none⟩) lg1).trans x4))
        all_goals
          go_wp2_with fail
          go_ret2
          exact ⟨rfl, HB.out.trans ((hB.trans (by first | exact B3.mono hB.size | exact (B3.drew).mono hB.size)).mono HB.out.size)⟩
    · obtain rfl : m = 2 := by omega
      obtain ⟨x0, x1, x2, x3, x4⟩ := h1.l.five (k := n - 1) (by omega)
      obtain ⟨l, hl1⟩ : ∃ l, n - 1 = l := ⟨_, rfl⟩
      have hNl : n = l + 1 := by omega
      rw [hl1] at x0 x1 x2 x3 x4
      simp only [Nat.zero_add] at x0 x1 x2 x3 x4
      subst hNl
      clear hl1
      have HW : Hid (Below w'.heap.size w' wr) := HB.out.trans (hB.mono HB.out.size)
      have hlast : EndOK R (l + 1) ↔ R (l * 5) = 4 ∨ (R (l * 5) = 3 ∧ R (l * 5 + 1) = 0) := Iff.rfl
      obtain ⟨op, ho⟩ : ∃ op, R (l * 5) = op := ⟨_, rfl⟩
      obtain ⟨rd, hrd⟩ : ∃ rd, R (l * 5 + 1) = rd := ⟨_, rfl⟩
      rw [ho] at x0 hlast
      rw [hrd] at x1 hlast
      have tail : EndOK R (l + 1) → ∀ (tmps : Array Value) , True := fun _ _ => trivial
      clear tail
      by_cases he : EndOK R (l + 1)
      · have hz' : ∀ m, m < l + 1 → 2 ≤ m → (∀ j, 2 ≤ j → j < m → ruI R (l + 1) f a zs wdN j = 0) → ruI R (l + 1) f a zs wdN m ≠ 0 → x = ((m : Nat) : Int) ∧ y = ruI R (l + 1) f a zs wdN m := by
          intro m hm1 hm2 hru hne
          cases hl with
          | head k hk a b => exact absurd (hok k hk) b
          | last a b => exact absurd he b
          | rule k a b h2 hk hb hn =>
            by_cases hkm : k < m
            · exact absurd (hru k h2 hkm) hn
            · by_cases hmk : m < k
              · exact absurd (hb m hm2 hmk) hne
              · obtain rfl : k = m := by omega
                exact ⟨rfl, rfl⟩
          | none a b hb => exact absurd (hb m hm2 hm1) hne
        have hzz : (∀ j, 2 ≤ j → j < l + 1 → ruI R (l + 1) f a zs wdN j = 0) → x = 0 ∧ y = 0 := by
          intro hru
          cases hl with
          | head k hk a b => exact absurd (hok k hk) b
          | last a b => exact absurd he b
          | rule k a b h2 hk hb hn => exact absurd (hru k h2 hk) hn
          | none a b => exact ⟨rfl, rfl⟩
        have hm3 : MdIs wr g (l + 1) R pc zs := h1
        clear hl h1
        obtain ⟨W1, rfl⟩ : ∃ W1, W1 = wr := ⟨_, rfl⟩
        rcases hlast.1 he with rfl | ⟨rfl, rfl⟩
        all_goals
          clear hlast he
          go_wp2_with fail
          go_loopw [14] (fun i w3 => ∃ m : Nat, 2 ≤ m ∧ m ≤ l + 1 ∧ i = .int .i64 m ∧ (∀ j, 2 ≤ j → j < m → ruI R (l + 1) f a zs wdN j = 0) ∧ Below W1.heap.size W1 w3) (fun i _ => (l + 1) - (intOf i).toNat)
          case atStart => exact ⟨2, by omega, by omega, rfl, fun j h1 h2 => by omega, Below.refl _ _⟩
          case round =>
            obtain ⟨m, hm2, hml, rfl, hru, hB3⟩ := hrel
            by_cases hlt2 : m < l + 1
            · obtain ⟨r, hr⟩ : ∃ r, ruI R (l + 1) f a zs wdN m = r := ⟨_, rfl⟩
              have hbm := ru m _ (hm3.below hB3) hlt2 hm2
              rw [hr] at hbm
              have hz2 := hz' m hlt2 hm2 hru
              rw [hr] at hz2
              clear x0 x1 x2 x3 x4
              by_cases hr0 : r = 0
              · subst hr0
                go_wp2_with fail
                refine hbm.mono ?_
                rintro e w4 ⟨rfl, hb4⟩
                have HB4 : Below W1.heap.size W1 w4 := hB3.trans (hb4.mono hB3.size)
                clear hb4 hB3 hbm
                go_wp2_with fail
                go_roundw
                case rel =>
                  refine ⟨_, _, _, _, _, _, _, _, _, _, _, _, _, _, _, _, _, _, _, ⟨m + 1, by omega, by omega, by go_num, ?_, HB4⟩, rfl⟩
                  intro j h1 h2
                  rcases Nat.lt_succ_iff_lt_or_eq.1 h2 with h' | h'
                  · exact hru j h1 h'
                  · rw [h']; exact hr
                case measure => simp [intOf]; omega
              · obtain ⟨rfl, rfl⟩ := hz2 hr0
                have hr0b : (y == 0) = false := by simpa using hr0
                go_wp2_with fail
                refine hbm.mono ?_
                rintro e w4 ⟨rfl, hb4⟩
                have HB4 : Below W1.heap.size W1 w4 := hB3.trans (hb4.mono hB3.size)
                clear hb4 hB3 hbm
                go_wp2_with fail
                go_ret2
                exact ⟨rfl, HW.out.trans (HB4.mono HW.out.size)⟩
            · obtain rfl : m = l + 1 := by omega
              obtain ⟨rfl, rfl⟩ := hzz hru
              clear x0 x1 x2 x3 x4
              go_wp2_with fail
              go_ret2
              exact ⟨rfl, HW.out.trans (hB3.mono HW.out.size)⟩
      · obtain ⟨rfl, rfl⟩ : x = ((l : Nat) : Int) ∧ y = 22 := by
          cases hl with
          | head k hk a b => exact absurd (hok k hk) b
          | last a b => exact ⟨rfl, rfl⟩
          | rule k a b => exact absurd b he
          | none a b => exact absurd b he
        have hn : ¬ (op = 4 ∨ (op = 3 ∧ rd = 0)) := fun h => he (hlast.2 h)
        have h4 : (op == 4) = false := by simp; omega
        clear hlast he h1
        by_cases h3 : op = 3
        · have hr0 : (rd == 0) = false := by simp; omega
          subst h3
          go_wp2_with fail
          go_ret2
          exact ⟨rfl, HW.out⟩
        · have h3b : (op == 3) = false := by simpa using h3
          go_wp2_with fail
          go_ret2
          exact ⟨rfl, HW.out⟩
end

end Go.Proofs.YtelogjpjglohoaaGreatDoor

namespace Go.Proofs.YtelogjpjglohoaaGreatDoor
open Go Go.RowKit
set_option linter.unusedVariables false

/-- Of a text and a list that are no longer than may be: the model's l06Lint and the program's LintFunction. -/
theorem lintIn (s : ByteArray) (a f : Int) (zs : List Int) (hs1 : s.size ≤ 65536) (hk1 : zs.length ≤ 4096) (ha : (Lit.int .i64 a).wf = true) (hf : (Lit.int .i64 f).wf = true) : ∃ x y : Int,
    (∀ pc cc w, IntsAt w pc zs → Calls Tryz.prog 62 #[.string s, .int .i64 a, .int .i64 f, .slice pc zs.length cc] w fun e w' => TwoN w.heap.size x y w e w') ∧
    (∀ pc cc w, Laid w → IntsAt w pc zs → Calls Tryz.prog 88 #[.string s, .int .i64 a, .int .i64 f, .slice pc zs.length cc] w fun e w' => TwoN w.heap.size x y w e w') := by
  have hs : s.size ≤ maxLen := by unfold maxLen; omega
  have hk : zs.length ≤ 1048576 := by omega
  have h0 : ¬ (65536 < s.size ∨ 4096 < zs.length) := by omega
  have no : ∀ c, cfC s.size zs.length a f = c → c ≠ 0 → ∀ pc cc w, Laid w → IntsAt w pc zs → Calls Tryz.prog 88 #[.string s, .int .i64 a, .int .i64 f, .slice pc zs.length cc] w fun e w' => TwoN w.heap.size 0 c w e w' :=
    fun c hc h0 pc cc w _ _ => lintImplNo s a f pc zs.length cc w hs hk ha hf c hc h0
  by_cases h1 : plB a = false
  · exact ⟨0, 4, fun pc cc w _ => specPlace s a f _ w hs1 ha h1, no 4 (by unfold cfC; rw [if_neg h0, if_pos h1]) (by decide)⟩
  have h1' : plB a = true := by cases e : plB a <;> simp_all
  by_cases h2 : frB f = false
  · exact ⟨0, 17, fun pc cc w _ => specFrame s a f _ w hs1 hf h1' h2, no 17 (by unfold cfC; rw [if_neg h0, if_neg h1, if_pos h2]) (by decide)⟩
  have h2' : frB f = true := by cases e : frB f <;> simp_all
  by_cases h3 : s.size % 4 = 0 ∧ s.size ≤ 256 ∧ 20 ≤ s.size
  · have hc : cfC s.size zs.length a f = 0 := by
      unfold cfC crC
      rw [if_neg h0, if_neg h1, if_neg h2, if_neg (by omega), if_pos (by omega)]
    obtain ⟨R, j, hr⟩ := run_of s (s.size / 4) (by omega) (by omega)
    by_cases e : j = s.size / 4
    · subst e
      obtain ⟨x, y, hl⟩ := lint_ex R (s.size / 4) f a zs
      obtain ⟨a0, a1, _⟩ := plB_yes h1'
      exact ⟨x, y, fun pc cc w hz => specYes s a f _ R w hf h1' h2' ⟨h3.1, h3.2.1⟩ h3.2.2 hr (by omega) (by omega) hk hz x y hl,
        fun pc cc w hL hz => lintImplYes s a f pc cc zs _ R w hL hs hk hz ha hf hc hr (by omega) (by omega) a0 a1 h2' x y hl⟩
    · have hj : j < s.size / 4 := by have := hr.le; omega
      exact ⟨j, 10, fun pc cc w hz => specWrong s a f _ _ j R w hf h1' h2' ⟨h3.1, h3.2.1⟩ h3.2.2 hr hj,
        fun pc cc w hL hz => lintImplWrong s a f pc _ cc _ j R w hL hs hk ha hf hc hr hj⟩
  · refine ⟨0, 8, fun pc cc w _ => specSize s a f _ w hs1 hf h1' h2' h3, no 8 ?_ (by decide)⟩
    unfold cfC crC
    rw [if_neg h0, if_neg h1, if_neg h2, if_neg (by omega), if_neg (by omega)]
end Go.Proofs.YtelogjpjglohoaaGreatDoor
