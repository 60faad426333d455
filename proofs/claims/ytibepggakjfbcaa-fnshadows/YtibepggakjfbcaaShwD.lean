/- Shadow variables: the model's check of a list, what all its calls look at. -/
import Derived.Test.YtibepggakjfbcaaShwB
import Derived.Deep.RegionHeld3
namespace Go.Proofs.Ytibepggakjfbcaa
open Go Go.RowKit
set_option linter.unusedVariables false

/-- Two pairs are laid and held against each other, whichever comes first. -/
theorem lessTwo (W : World) (a b c d : Int) (v : Bool) (hv : v = decide (ltK (a, b) (c, d))) :
    (Calls Try.prog 47 #[.slice (some ⟨W.heap.size, 0, none⟩) 2 2, .slice (some ⟨W.heap.size + 1, 0, none⟩) 2 2] (((W.alloc (.cells #[.int .i64 a, .int .i64 b] 3)).alloc (.cells #[.int .i64 c, .int .i64 d] 3)).drew) fun e w' => e = .returned (.bool v) ∧ Below W.heap.size W w') ∧
    (Calls Try.prog 47 #[.slice (some ⟨W.heap.size + 1, 0, none⟩) 2 2, .slice (some ⟨W.heap.size, 0, none⟩) 2 2] (((W.alloc (.cells #[.int .i64 c, .int .i64 d] 3)).alloc (.cells #[.int .i64 a, .int .i64 b] 3)).drew) fun e w' => e = .returned (.bool v) ∧ Below W.heap.size W w') := by
  have hv' : decide (a < c ∨ (a = c ∧ b < d)) = v := by rw [hv]; rfl
  have B1 : Below W.heap.size W (((W.alloc (.cells #[.int .i64 a, .int .i64 b] 3)).alloc (.cells #[.int .i64 c, .int .i64 d] 3)).drew) := (((Below.refl _ _).alloc (Nat.le_refl _) _).alloc (by simp) _).drew
  have B2 : Below W.heap.size W (((W.alloc (.cells #[.int .i64 c, .int .i64 d] 3)).alloc (.cells #[.int .i64 a, .int .i64 b] 3)).drew) := (((Below.refl _ _).alloc (Nat.le_refl _) _).alloc (by simp) _).drew
  have L1 := lessSpec W.heap.size (W.heap.size + 1) a b c d (((W.alloc (.cells #[.int .i64 a, .int .i64 b] 3)).alloc (.cells #[.int .i64 c, .int .i64 d] 3)).drew) (by simp) (by simp) (by simp) (by simp)
  have L2 := lessSpec (W.heap.size + 1) W.heap.size a b c d (((W.alloc (.cells #[.int .i64 c, .int .i64 d] 3)).alloc (.cells #[.int .i64 a, .int .i64 b] 3)).drew) (by simp) (by simp) (by simp) (by simp)
  rw [hv'] at L1 L2
  exact ⟨L1.mono fun e w' h => ⟨h.1, B1.trans (h.2.mono B1.size)⟩, L2.mono fun e w' h => ⟨h.1, B2.trans (h.2.mono B2.size)⟩⟩

set_option maxRecDepth 100000 in
set_option maxHeartbeats 8000000 in
theorem okSpecS (p : Option Addr) (n c : Nat) (S : Nat → ShwD) (w : World) (hn : n ≤ 1048576) (hp : ShwsAt w p n S) (b : Bool) (hb : b = true ↔ ShwOK n S) :
    Calls Try.prog 43 #[.slice p n c] w fun e w' => e = .returned (.bool b) ∧ Below w.heap.size w w' := by
  by_cases h4 : 4096 < n
  · obtain rfl : b = false := by cases b with
      | false => rfl
      | true => have := (hb.1 rfl).1; omega
    clear hb hp
    go_enter Try.func43, Try.ntmps43
    go_wp2_with fail
    go_ret
    exact ⟨rfl, Below.refl _ _⟩
  by_cases h16 : 16 < n
  · obtain rfl : b = false := by cases b with
      | false => rfl
      | true => have := (hb.1 rfl).1; omega
    clear hb hp
    go_enter Try.func43, Try.ntmps43
    go_wp2_with fail
    go_ret
    exact ⟨rfl, Below.refl _ _⟩
  have HB : Hid (b = true ↔ ShwOK n S) := hb
  clear hb
  go_enter Try.func43, Try.ntmps43
  go_wp2_with fail
  go_loopw [3] (fun i wr => ∃ k : Nat, k ≤ n ∧ i = .int .i64 k ∧ Hid (∀ j, j < k → idP (S j).ix ∧ (0 < j → ltK (keyD (S (j - 1))) (keyD (S j)))) ∧ Below w.heap.size w wr) (fun i _ => n - (intOf i).toNat)
  case atStart => exact ⟨0, Nat.zero_le _, rfl, fun j hj => absurd hj (Nat.not_lt_zero _), Below.refl _ _⟩
  case round =>
    obtain ⟨k, hk, rfl, HALL, hB⟩ := hrel
    by_cases hlt : k < n
    · have hpr := hp.below hB
      rcases hpr with hp' | ⟨pb, po, rfl, hpl, hpv⟩
      · omega
      obtain ⟨x0, x1, x2⟩ := hpv.shw hlt
      obtain ⟨a, ea⟩ : ∃ a, (S k).ob = a := ⟨_, rfl⟩
      obtain ⟨d, ed⟩ : ∃ a, (S k).ix = a := ⟨_, rfl⟩
      rw [ea] at x0
      rw [ed] at x1
      have HK : Hid ((S k).ix = d ∧ keyD (S k) = (a, d)) := ⟨ed, by unfold keyD; rw [ea, ed]⟩
      clear ea ed x2
      have HX : Hid (Below w.heap.size w wr ∧ Below w.heap.size w wr.drew) := ⟨hB, hB.drew⟩
      have HV : Hid (VRow wr pb po (n * 3) (shwV S)) := hpv
      obtain ⟨q, hq⟩ : ∃ q : Bool, q = decide (idP d) := ⟨_, rfl⟩
      have CI : Hid (∀ W, Calls Try.prog 44 #[.int .i64 d] W fun e w' => e = .returned (.bool q) ∧ w' = W) := fun W => idS d W q (by rw [hq, decide_eq_true_iff])
      have HQ : Hid (q = true ↔ idP d) := by rw [hq, decide_eq_true_iff]; exact Iff.rfl
      have hszW := hB.size
      clear hq hpv hp hB
      go_wp2_with fail
      refine (CI.out _).mono ?_
      rintro e w2 ⟨rfl, hw2⟩
      subst w2
      cases q with
      | false =>
        have HNO : Hid (b = false) := by
          cases b with
          | false => exact rfl
          | true =>
            have h1 := ((HB.out.1 rfl).2 k hlt).1
            rw [HK.out.1] at h1
            have := HQ.out.2 h1
            cases this
        go_wp2_with fail
        go_ret
        exact ⟨ret_boolL HNO.out.symm, by first | exact HX.out.2 | exact HX.out.1⟩
      | true =>
        have HID : Hid (idP d) := HQ.out.1 rfl
        by_cases h0 : k = 0
        · subst h0
          have HNX : Hid (∀ j, j < 0 + 1 → idP (S j).ix ∧ (0 < j → ltK (keyD (S (j - 1))) (keyD (S j)))) := fun j hj => by
            obtain rfl : j = 0 := by omega
            refine ⟨?_, fun h => absurd h (Nat.lt_irrefl 0)⟩
            rw [HK.out.1]
            exact HID.out
          clear HV
          go_wp2_with fail
          try go_region
          all_goals
            try go_wp2_with fail
            go_roundw
            case rel => exact ⟨0 + 1, by omega, by go_num, HNX, by first | exact HX.out.2 | exact HX.out.1⟩
            case measure => first | (simp [intOf]; done) | (simp [intOf]; omega)
        · obtain ⟨m, rfl⟩ : ∃ m, k = m + 1 := ⟨k - 1, by omega⟩
          obtain ⟨y0, y1, y2⟩ := HV.out.shw (k := m) (by omega)
          obtain ⟨a', ea⟩ : ∃ a, (S m).ob = a := ⟨_, rfl⟩
          obtain ⟨d', ed⟩ : ∃ a, (S m).ix = a := ⟨_, rfl⟩
          rw [ea] at y0
          rw [ed] at y1
          have HK' : Hid (keyD (S m) = (a', d')) := by show keyD (S m) = _; unfold keyD; rw [ea, ed]
          clear ea ed HV y2
          have hs1 : IntKind.i64.wrap ((m : Int) + 1 - 1) = (m : Int) := by rw [IntKind.wrap_i64]; omega
          have hs2 : IntKind.i64.wrap (m : Int) = (m : Int) := by rw [IntKind.wrap_i64]; omega
          have hs3 : (0 : Int) ≤ (m : Int) := by omega
          have hs4 : (m : Int) < (n : Int) := by omega
          have hs5 : (0 : Int) < (m : Int) + 1 := by omega
          have hs6 : (0 : Int) ≤ (m : Int) + 1 := by omega
          have hs7 : (m : Int) + 1 < (n : Int) := by omega
          obtain ⟨r, hr⟩ : ∃ r : Bool, r = decide (ltK (a', d') (a, d)) := ⟨_, rfl⟩
          obtain ⟨L1, L2⟩ := lessTwo wr a' d' a d r hr
          have HLS : Hid (Calls _ _ _ _ _) := L1
          have HLS2 : Hid (Calls _ _ _ _ _) := L2
          have HR : Hid (r = true ↔ ltK (a', d') (a, d)) := by rw [hr, decide_eq_true_iff]; exact Iff.rfl
          clear L1 L2 hr
          go_wp2_with fail
          cases r with
          | false =>
            have HNO : Hid (b = false) := by
              cases b with
              | false => exact rfl
              | true =>
                have h1 := ((HB.out.1 rfl).2 (m + 1) hlt).2 (by omega)
                rw [Nat.add_sub_cancel, HK.out.2, HK'.out] at h1
                have := HR.out.2 h1
                cases this
            go_region_held3 (fun w' => w'.cell? ⟨pb, po + (m + 1) * 3, none⟩ = some (.int .i64 a) ∧ w'.cell? ⟨pb, po + (m + 1) * 3 + 1, none⟩ = some (.int .i64 d) ∧ w'.cell? ⟨pb, po + m * 3, none⟩ = some (.int .i64 a') ∧ w'.cell? ⟨pb, po + m * 3 + 1, none⟩ = some (.int .i64 d')) (go_keep) ((go_at_call 47; (first | (with_reducible refine HLS.out.mono ?_) | (with_reducible refine HLS2.out.mono ?_)); rintro e w6 ⟨rfl, hb6⟩; have c0 := (hb6.cell (p := ⟨pb, po + (m + 1) * 3, none⟩) hpl).trans x0; have c1 := (hb6.cell (p := ⟨pb, po + (m + 1) * 3 + 1, none⟩) hpl).trans x1; have c2 := (hb6.cell (p := ⟨pb, po + m * 3, none⟩) hpl).trans y0; have c3 := (hb6.cell (p := ⟨pb, po + m * 3 + 1, none⟩) hpl).trans y1))
            all_goals
              clear c0 c1 c2 c3 HLS HLS2 x0 x1 y0 y1
              go_wp2_with fail
              go_ret
              exact ⟨ret_boolL HNO.out.symm, HX.out.1.trans (hb6.mono hszW)⟩
          | true =>
            have HRL : Hid (ltK (a', d') (a, d)) := HR.out.1 rfl
            have HNX : Hid (∀ j, j < m + 1 + 1 → idP (S j).ix ∧ (0 < j → ltK (keyD (S (j - 1))) (keyD (S j)))) := fun j hj => by
              rcases Nat.lt_succ_iff_lt_or_eq.1 hj with h' | rfl
              · exact HALL.out j h'
              · rw [HK.out.1, Nat.add_sub_cancel, HK.out.2, HK'.out]
                exact ⟨HID.out, fun _ => HRL.out⟩
            go_region_held3 (fun w' => w'.cell? ⟨pb, po + (m + 1) * 3, none⟩ = some (.int .i64 a) ∧ w'.cell? ⟨pb, po + (m + 1) * 3 + 1, none⟩ = some (.int .i64 d) ∧ w'.cell? ⟨pb, po + m * 3, none⟩ = some (.int .i64 a') ∧ w'.cell? ⟨pb, po + m * 3 + 1, none⟩ = some (.int .i64 d')) (go_keep) ((go_at_call 47; (first | (with_reducible refine HLS.out.mono ?_) | (with_reducible refine HLS2.out.mono ?_)); rintro e w6 ⟨rfl, hb6⟩; have c0 := (hb6.cell (p := ⟨pb, po + (m + 1) * 3, none⟩) hpl).trans x0; have c1 := (hb6.cell (p := ⟨pb, po + (m + 1) * 3 + 1, none⟩) hpl).trans x1; have c2 := (hb6.cell (p := ⟨pb, po + m * 3, none⟩) hpl).trans y0; have c3 := (hb6.cell (p := ⟨pb, po + m * 3 + 1, none⟩) hpl).trans y1))
            all_goals
              clear c0 c1 c2 c3 HLS HLS2 x0 x1 y0 y1
              go_wp2_with fail
              go_roundw
              case rel => exact ⟨m + 1 + 1, by omega, by go_num, HNX, HX.out.1.trans (hb6.mono hszW)⟩
              case measure => first | (simp [intOf]; done) | (simp [intOf]; omega)
    · obtain rfl : k = n := by omega
      obtain rfl : b = true := HB.out.2 ⟨by omega, HALL.out⟩
      clear hp
      go_wp2_with fail
      go_ret
      exact ⟨rfl, hB⟩

/-- What all calls look at: the code, or 0. -/
def askP (n : Nat) (S : Nat → ShwD) (x : Int) (f : Int) : Prop := (4096 < n ∧ f = 2) ∨ (n ≤ 4096 ∧ ¬ ShwOK n S ∧ f = 1) ∨ (ShwOK n S ∧ ¬ idP x ∧ f = 4) ∨ (ShwOK n S ∧ idP x ∧ f = 0)
theorem askP_ex (n : Nat) (S : Nat → ShwD) (x : Int) : ∃ f, askP n S x f := by
  by_cases h : 4096 < n
  · exact ⟨2, .inl ⟨h, rfl⟩⟩
  · by_cases h1 : ShwOK n S
    · by_cases h2 : idP x
      · exact ⟨0, .inr (.inr (.inr ⟨h1, h2, rfl⟩))⟩
      · exact ⟨4, .inr (.inr (.inl ⟨h1, h2, rfl⟩))⟩
    · exact ⟨1, .inr (.inl ⟨by omega, h1, rfl⟩)⟩
set_option maxHeartbeats 4000000 in
theorem askS (p : Option Addr) (n c : Nat) (S : Nat → ShwD) (x f : Int) (w : World) (hn : n ≤ 1048576) (hp : ShwsAt w p n S) (hf : askP n S x f) :
    Calls Try.prog 26 #[.slice p n c, .int .i64 x] w fun e w' => e = .returned (.int .i64 f) ∧ Below w.heap.size w w' := by
  obtain ⟨q, hq⟩ : ∃ q : Bool, q = true ↔ ShwOK n S := by
    by_cases h : ShwOK n S
    · exact ⟨true, ⟨fun _ => h, fun _ => rfl⟩⟩
    · exact ⟨false, ⟨fun h' => Bool.noConfusion h', fun h' => absurd h' h⟩⟩
  have C : Hid (Calls Try.prog 43 #[.slice p n c] w fun e w' => e = .returned (.bool q) ∧ Below w.heap.size w w') := okSpecS p n c S w hn hp q hq
  clear hp
  have I : Hid (∀ (r : Bool) (W : World), (r = true ↔ idP x) → Calls Try.prog 44 #[.int .i64 x] W fun e w' => e = .returned (.bool r) ∧ w' = W) := fun r W h => idS x W r h
  rcases hf with ⟨h, rfl⟩ | ⟨h, h1, rfl⟩ | ⟨h, h1, rfl⟩ | ⟨h, h1, rfl⟩
  · clear C hq I
    go_enter Try.func26, Try.ntmps26
    go_wp2_with fail
    go_ret
    exact ⟨rfl, Below.refl _ _⟩
  · obtain rfl : q = false := by cases q with
      | false => rfl
      | true => exact absurd (hq.1 rfl) h1
    clear hq h1 I
    go_enter Try.func26, Try.ntmps26
    go_wp2_with fail
    refine C.out.mono ?_
    rintro e w1 ⟨rfl, hb⟩
    go_wp2_with fail
    go_ret
    exact ⟨rfl, hb⟩
  · have h16 := h.1
    obtain rfl : q = true := hq.2 h
    have I0 : Hid (∀ W, Calls Try.prog 44 #[.int .i64 x] W fun e w' => e = .returned (.bool false) ∧ w' = W) := fun W => I.out false W ⟨fun h => Bool.noConfusion h, fun h => absurd h h1⟩
    clear hq h h1 I
    go_enter Try.func26, Try.ntmps26
    go_wp2_with fail
    refine C.out.mono ?_
    rintro e w1 ⟨rfl, hb⟩
    go_wp2_with fail
    refine (I0.out _).mono ?_
    rintro e w2 ⟨rfl, rfl⟩
    go_wp2_with fail
    go_ret
    exact ⟨rfl, hb⟩
  · have h16 := h.1
    obtain rfl : q = true := hq.2 h
    have I0 : Hid (∀ W, Calls Try.prog 44 #[.int .i64 x] W fun e w' => e = .returned (.bool true) ∧ w' = W) := fun W => I.out true W ⟨fun _ => h1, fun _ => rfl⟩
    clear hq h h1 I
    go_enter Try.func26, Try.ntmps26
    go_wp2_with fail
    refine C.out.mono ?_
    rintro e w1 ⟨rfl, hb⟩
    go_wp2_with fail
    refine (I0.out _).mono ?_
    rintro e w2 ⟨rfl, rfl⟩
    go_wp2_with fail
    go_ret
    exact ⟨rfl, hb⟩
end Go.Proofs.Ytibepggakjfbcaa
