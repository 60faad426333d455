/- Shadow variables: the program's check of a list (gen_shwa.py). -/
import Derived.Test.YtibepggakjfbcaaShwC
import Derived.Test.YtibepggakjfbcaaLssC
import Derived.Deep.RegionLaw
import Derived.RegionTactic
namespace Go.Proofs.Ytibepggakjfbcaa
open Go Go.RowKit
set_option linter.unusedVariables false

set_option maxRecDepth 100000 in
set_option maxHeartbeats 8000000 in
theorem okImplS (p : Option Addr) (n c : Nat) (S : Nat → ShwD) (w : World) (hn : n ≤ 1048576) (hp : ShwsAt w p n S) (b : Bool) (hb : b = true ↔ ShwOK n S) :
    Calls Try.prog 15 #[.slice p n c] w fun e w' => e = .returned (.bool b) ∧ Below w.heap.size w w' := by
  by_cases h16 : 16 < n
  · obtain rfl : b = false := by cases b with
      | false => rfl
      | true => have := (hb.1 rfl).1; omega
    clear hb hp
    go_enter Try.func15, Try.ntmps15
    go_wp2_with fail
    go_ret
    exact ⟨rfl, Below.refl _ _⟩
  have HB : Hid (b = true ↔ ShwOK n S) := hb
  clear hb
  go_enter Try.func15, Try.ntmps15
  go_wp2_with fail
  go_loopw [10] (fun i wr => ∃ k : Nat, k ≤ n ∧ i = .int .i64 k ∧ Hid (∀ j, j < k → idP (S j).ix ∧ (0 < j → ltK (keyD (S (j - 1))) (keyD (S j)))) ∧ Below w.heap.size w wr) (fun i _ => n - (intOf i).toNat)
  case atStart => exact ⟨0, Nat.zero_le _, rfl, fun j hj => absurd hj (Nat.not_lt_zero _), Below.refl _ _⟩
  case round =>
    obtain ⟨k, hk, rfl, HALL, hB⟩ := hrel
    by_cases hlt : k < n
    · have hpr := hp.below hB
      rcases hpr with hp' | ⟨pb, po, rfl, hpl, hpv⟩
      · omega
      obtain ⟨x0, x1, x2⟩ := hpv.shw hlt
      obtain ⟨a, ea⟩ : ∃ a, (S k).ob = a := ⟨_, rfl⟩
      obtain ⟨d, ed⟩ : ∃ a, (S k).ix = a := ⟨_, rfl⟩
      obtain ⟨v, ev⟩ : ∃ a, (S k).va = a := ⟨_, rfl⟩
      rw [ea] at x0
      rw [ed] at x1
      rw [ev] at x2
      have HK : Hid ((S k).ix = d ∧ keyD (S k) = (a, d)) := ⟨ed, by unfold keyD; rw [ea, ed]⟩
      clear ea ed ev
      have hsz := hB.size
      have bX := grown1' wr (.cells #[.int .i64 a, .int .i64 d, .int .i64 v] 34)
      have lX := Lies.new wr #[.int .i64 a, .int .i64 d, .int .i64 v] 34
      have q0 := lX.cell (j := 0) rfl
      have q1 := lX.cell (j := 1) rfl
      have q2 := lX.cell (j := 2) rfl
      have hX : wr.heap.size < (wr.alloc (.cells #[.int .i64 a, .int .i64 d, .int .i64 v] 34)).heap.size := by simp
      have HX : Hid (Below w.heap.size w (wr.alloc (.cells #[.int .i64 a, .int .i64 d, .int .i64 v] 34))) := hB.trans (bX.mono hsz)
      have HV : Hid (VRow (wr.alloc (.cells #[.int .i64 a, .int .i64 d, .int .i64 v] 34)) pb po (n * 3) (shwV S)) := hpv.below bX hpl
      have hpl1 : pb < (wr.alloc (.cells #[.int .i64 a, .int .i64 d, .int .i64 v] 34)).heap.size := by simp; omega
      obtain ⟨q, hq⟩ : ∃ q : Bool, q = decide (idP d) := ⟨_, rfl⟩
      have CI : Hid (∀ W, Calls Try.prog 33 #[.int .i64 d] W fun e w' => e = .returned (.bool q) ∧ w' = W) := fun W => idC d W q (by rw [hq, decide_eq_true_iff])
      have HQ : Hid (q = true ↔ idP d) := by rw [hq, decide_eq_true_iff]; exact Iff.rfl
      clear hq lX bX hpv hp
      go_wp2_with fail
      obtain ⟨W1, hW1⟩ : ∃ W1, wr.alloc (.cells #[.int .i64 a, .int .i64 d, .int .i64 v] 34) = W1 := ⟨_, rfl⟩
      rw [hW1] at q0 q1 q2 hX HX HV hpl1 ⊢
      clear hW1 x0 x1 x2 hB
      have hszW : w.heap.size ≤ W1.heap.size := HX.out.size
      cases q with
      | false =>
        have HNO : Hid (b = false) := by
          cases b with
          | false => exact rfl
          | true =>
            have h1 := ((HB.out.1 rfl).2 k hlt).1
            rw [HK.out.1] at h1
            have := HQ.out.2 h1
            cases this
        refine wp_region_held_drew (S := (fun w' => w'.cell? ⟨wr.heap.size, 0, none⟩ = some (.int .i64 a) ∧ w'.cell? ⟨wr.heap.size, 1, none⟩ = some (.int .i64 d) ∧ w'.cell? ⟨wr.heap.size, 2, none⟩ = some (.int .i64 v))) (by kernel_rfl) ?x1_hS (fun hHeld => ?x1_rest)
        case x1_hS => (try dsimp only); go_keep
        case x1_rest =>
        refine wpAnyH_take (i := 0) (oi := { dst := some 15, op := _, type := _, pos := _, after := _, guard := _ }) (v := ?x1_v0) rfl (by kernel_rfl) (by kernel_rfl) (by kernel_rfl) (fun _ _ _ h => h) (Or.inl ⟨by rfl, ?x1_hy0⟩) (by assumption) ?x1_re0
        case x1_hy0 => (intro w hSw; (try dsimp only at hSw); go_simp; try (with_reducible rfl))
        try simp only [Act.put, List.setIfInBounds_toArray, List.set_cons_zero, List.set_cons_succ]
        refine wpAnyH_take (i := 1) (oi := { dst := some 16, op := _, type := _, pos := _, after := _, guard := _ }) (v := ?x1_v1) rfl (by kernel_rfl) (by kernel_rfl) (by kernel_rfl) (fun _ _ _ h => h) (Or.inl ⟨by rfl, ?x1_hy1⟩) (by assumption) ?x1_re1
        case x1_hy1 => (intro w hSw; (try dsimp only at hSw); go_simp; try (with_reducible rfl))
        try simp only [Act.put, List.setIfInBounds_toArray, List.set_cons_zero, List.set_cons_succ]
        refine wpAnyH_ready (rs := [2]) (by kernel_rfl) (by simp) ?_
        refine AllReadyH.cons (o := { dst := some 17, op := _, type := _, pos := _, after := _, guard := _ }) rfl (fun K hK => ?_) AllReadyH.nil
        go_simp
        go_at_call 33
        refine (CI.out _).mono ?_
        rintro e w2 ⟨rfl, rfl⟩
        go_wp2_with fail
        refine hK.out _ _ ?x1_hS2 (fun hHeld => ?x1_re2)
        case x1_hS2 => (try dsimp only); go_keep
        case x1_re2 =>
        clear hK K
        try simp only [Act.put, List.setIfInBounds_toArray, List.set_cons_zero, List.set_cons_succ]
        refine wpAnyH_take (i := 3) (oi := { dst := some 18, op := _, type := _, pos := _, after := _, guard := _ }) (v := ?x1_v3) rfl (by kernel_rfl) (by kernel_rfl) (by kernel_rfl) (fun _ _ _ h => h) (Or.inl ⟨by rfl, ?x1_hy3⟩) (by assumption) ?x1_re3
        case x1_hy3 => (intro w hSw; (try dsimp only at hSw); go_simp; try (with_reducible rfl))
        try simp only [Act.put, List.setIfInBounds_toArray, List.set_cons_zero, List.set_cons_succ]
        refine wpAnyH_take (i := 4) (oi := { dst := some 19, op := _, type := _, pos := _, after := _, guard := _ }) (v := ?x1_v4) rfl (by kernel_rfl) (by kernel_rfl) (by kernel_rfl) (fun _ _ _ h => h) (Or.inl ⟨by rfl, ?x1_hy4⟩) (by assumption) ?x1_re4
        case x1_hy4 => (intro w hSw; (try dsimp only at hSw); go_simp; try (with_reducible rfl))
        try simp only [Act.put, List.setIfInBounds_toArray, List.set_cons_zero, List.set_cons_succ]
        refine wpAnyH_take (i := 5) (oi := { dst := some 20, op := _, type := _, pos := _, after := _, guard := _ }) (v := undef) rfl (by kernel_rfl) (by kernel_rfl) (by kernel_rfl) (fun _ _ _ h => h) (Or.inr ⟨by rfl, rfl⟩) (by assumption) ?x1_re5
        try simp only [Act.put, List.setIfInBounds_toArray, List.set_cons_zero, List.set_cons_succ]
        refine wpAnyH_take (i := 6) (oi := { dst := some 21, op := _, type := _, pos := _, after := _, guard := _ }) (v := undef) rfl (by kernel_rfl) (by kernel_rfl) (by kernel_rfl) (fun _ _ _ h => h) (Or.inr ⟨by rfl, rfl⟩) (by assumption) ?x1_re6
        try simp only [Act.put, List.setIfInBounds_toArray, List.set_cons_zero, List.set_cons_succ]
        refine wpAnyH_take (i := 7) (oi := { dst := some 22, op := _, type := _, pos := _, after := _, guard := _ }) (v := undef) rfl (by kernel_rfl) (by kernel_rfl) (by kernel_rfl) (fun _ _ _ h => h) (Or.inr ⟨by rfl, rfl⟩) (by assumption) ?x1_re7
        try simp only [Act.put, List.setIfInBounds_toArray, List.set_cons_zero, List.set_cons_succ]
        refine wpAnyH_take (i := 8) (oi := { dst := some 23, op := _, type := _, pos := _, after := _, guard := _ }) (v := undef) rfl (by kernel_rfl) (by kernel_rfl) (by kernel_rfl) (fun _ _ _ h => h) (Or.inr ⟨by rfl, rfl⟩) (by assumption) ?x1_re8
        try simp only [Act.put, List.setIfInBounds_toArray, List.set_cons_zero, List.set_cons_succ]
        refine wpAnyH_take (i := 9) (oi := { dst := some 24, op := _, type := _, pos := _, after := _, guard := _ }) (v := undef) rfl (by kernel_rfl) (by kernel_rfl) (by kernel_rfl) (fun _ _ _ h => h) (Or.inr ⟨by rfl, rfl⟩) (by assumption) ?x1_re9
        try simp only [Act.put, List.setIfInBounds_toArray, List.set_cons_zero, List.set_cons_succ]
        refine wpAnyH_take (i := 10) (oi := { dst := some 25, op := _, type := _, pos := _, after := _, guard := _ }) (v := undef) rfl (by kernel_rfl) (by kernel_rfl) (by kernel_rfl) (fun _ _ _ h => h) (Or.inr ⟨by rfl, rfl⟩) (by assumption) ?x1_re10
        try simp only [Act.put, List.setIfInBounds_toArray, List.set_cons_zero, List.set_cons_succ]
        refine wpAnyH_take (i := 11) (oi := { dst := some 26, op := _, type := _, pos := _, after := _, guard := _ }) (v := undef) rfl (by kernel_rfl) (by kernel_rfl) (by kernel_rfl) (fun _ _ _ h => h) (Or.inr ⟨by rfl, rfl⟩) (by assumption) ?x1_re11
        try simp only [Act.put, List.setIfInBounds_toArray, List.set_cons_zero, List.set_cons_succ]
        refine wpAnyH_take (i := 12) (oi := { dst := some 27, op := _, type := _, pos := _, after := _, guard := _ }) (v := undef) rfl (by kernel_rfl) (by kernel_rfl) (by kernel_rfl) (fun _ _ _ h => h) (Or.inr ⟨by rfl, rfl⟩) (by assumption) ?x1_re12
        try simp only [Act.put, List.setIfInBounds_toArray, List.set_cons_zero, List.set_cons_succ]
        refine wpAnyH_take (i := 13) (oi := { dst := some 28, op := _, type := _, pos := _, after := _, guard := _ }) (v := undef) rfl (by kernel_rfl) (by kernel_rfl) (by kernel_rfl) (fun _ _ _ h => h) (Or.inr ⟨by rfl, rfl⟩) (by assumption) ?x1_re13
        try simp only [Act.put, List.setIfInBounds_toArray, List.set_cons_zero, List.set_cons_succ]
        refine wpAnyH_take (i := 14) (oi := { dst := some 29, op := _, type := _, pos := _, after := _, guard := _ }) (v := undef) rfl (by kernel_rfl) (by kernel_rfl) (by kernel_rfl) (fun _ _ _ h => h) (Or.inr ⟨by rfl, rfl⟩) (by assumption) ?x1_re14
        try simp only [Act.put, List.setIfInBounds_toArray, List.set_cons_zero, List.set_cons_succ]
        refine wpAnyH_take (i := 15) (oi := { dst := some 30, op := _, type := _, pos := _, after := _, guard := _ }) (v := undef) rfl (by kernel_rfl) (by kernel_rfl) (by kernel_rfl) (fun _ _ _ h => h) (Or.inr ⟨by rfl, rfl⟩) (by assumption) ?x1_re15
        try simp only [Act.put, List.setIfInBounds_toArray, List.set_cons_zero, List.set_cons_succ]
        refine wpAnyH_take (i := 16) (oi := { dst := some 31, op := _, type := _, pos := _, after := _, guard := _ }) (v := undef) rfl (by kernel_rfl) (by kernel_rfl) (by kernel_rfl) (fun _ _ _ h => h) (Or.inr ⟨by rfl, rfl⟩) (by assumption) ?x1_re16
        try simp only [Act.put, List.setIfInBounds_toArray, List.set_cons_zero, List.set_cons_succ]
        refine wpAnyH_take (i := 17) (oi := { dst := some 32, op := _, type := _, pos := _, after := _, guard := _ }) (v := undef) rfl (by kernel_rfl) (by kernel_rfl) (by kernel_rfl) (fun _ _ _ h => h) (Or.inr ⟨by rfl, rfl⟩) (by assumption) ?x1_re17
        try simp only [Act.put, List.setIfInBounds_toArray, List.set_cons_zero, List.set_cons_succ]
        refine wpAnyH_take (i := 18) (oi := { dst := some 33, op := _, type := _, pos := _, after := _, guard := _ }) (v := undef) rfl (by kernel_rfl) (by kernel_rfl) (by kernel_rfl) (fun _ _ _ h => h) (Or.inr ⟨by rfl, rfl⟩) (by assumption) ?x1_re18
        try simp only [Act.put, List.setIfInBounds_toArray, List.set_cons_zero, List.set_cons_succ]
        refine wpAnyH_take (i := 19) (oi := { dst := some 34, op := _, type := _, pos := _, after := _, guard := _ }) (v := ?x1_v19) rfl (by kernel_rfl) (by kernel_rfl) (by kernel_rfl) (fun _ _ _ h => h) (Or.inl ⟨by rfl, ?x1_hy19⟩) (by assumption) ?x1_re19
        case x1_hy19 => (intro w hSw; (try dsimp only at hSw); go_simp; try (with_reducible rfl))
        try simp only [Act.put, List.setIfInBounds_toArray, List.set_cons_zero, List.set_cons_succ]
        refine wpAnyH_done (by kernel_rfl) ?_ _
        go_wp2_with fail
        go_ret
        exact ⟨ret_boolL HNO.out.symm, by first | exact HX.out.drew | exact HX.out⟩
      | true =>
        by_cases h0 : k = 0
        · subst h0
          have HNX : Hid (∀ j, j < 0 + 1 → idP (S j).ix ∧ (0 < j → ltK (keyD (S (j - 1))) (keyD (S j)))) := fun j hj => by
            obtain rfl : j = 0 := by omega
            refine ⟨?_, fun h => absurd h (Nat.lt_irrefl 0)⟩
            rw [HK.out.1]
            exact HQ.out.1 rfl
          clear HV
          refine wp_region_held_drew (S := (fun w' => w'.cell? ⟨wr.heap.size, 0, none⟩ = some (.int .i64 a) ∧ w'.cell? ⟨wr.heap.size, 1, none⟩ = some (.int .i64 d) ∧ w'.cell? ⟨wr.heap.size, 2, none⟩ = some (.int .i64 v))) (by kernel_rfl) ?x2_hS (fun hHeld => ?x2_rest)
          case x2_hS => (try dsimp only); go_keep
          case x2_rest =>
          refine wpAnyH_take (i := 0) (oi := { dst := some 15, op := _, type := _, pos := _, after := _, guard := _ }) (v := ?x2_v0) rfl (by kernel_rfl) (by kernel_rfl) (by kernel_rfl) (fun _ _ _ h => h) (Or.inl ⟨by rfl, ?x2_hy0⟩) (by assumption) ?x2_re0
          case x2_hy0 => (intro w hSw; (try dsimp only at hSw); go_simp; try (with_reducible rfl))
          try simp only [Act.put, List.setIfInBounds_toArray, List.set_cons_zero, List.set_cons_succ]
          refine wpAnyH_take (i := 1) (oi := { dst := some 16, op := _, type := _, pos := _, after := _, guard := _ }) (v := ?x2_v1) rfl (by kernel_rfl) (by kernel_rfl) (by kernel_rfl) (fun _ _ _ h => h) (Or.inl ⟨by rfl, ?x2_hy1⟩) (by assumption) ?x2_re1
          case x2_hy1 => (intro w hSw; (try dsimp only at hSw); go_simp; try (with_reducible rfl))
          try simp only [Act.put, List.setIfInBounds_toArray, List.set_cons_zero, List.set_cons_succ]
          refine wpAnyH_ready (rs := [2]) (by kernel_rfl) (by simp) ?_
          refine AllReadyH.cons (o := { dst := some 17, op := _, type := _, pos := _, after := _, guard := _ }) rfl (fun K hK => ?_) AllReadyH.nil
          go_simp
          go_at_call 33
          refine (CI.out _).mono ?_
          rintro e w2 ⟨rfl, rfl⟩
          go_wp2_with fail
          refine hK.out _ _ ?x2_hS2 (fun hHeld => ?x2_re2)
          case x2_hS2 => (try dsimp only); go_keep
          case x2_re2 =>
          clear hK K
          try simp only [Act.put, List.setIfInBounds_toArray, List.set_cons_zero, List.set_cons_succ]
          refine wpAnyH_take (i := 3) (oi := { dst := some 18, op := _, type := _, pos := _, after := _, guard := _ }) (v := ?x2_v3) rfl (by kernel_rfl) (by kernel_rfl) (by kernel_rfl) (fun _ _ _ h => h) (Or.inl ⟨by rfl, ?x2_hy3⟩) (by assumption) ?x2_re3
          case x2_hy3 => (intro w hSw; (try dsimp only at hSw); go_simp; try (with_reducible rfl))
          try simp only [Act.put, List.setIfInBounds_toArray, List.set_cons_zero, List.set_cons_succ]
          refine wpAnyH_take (i := 4) (oi := { dst := some 19, op := _, type := _, pos := _, after := _, guard := _ }) (v := ?x2_v4) rfl (by kernel_rfl) (by kernel_rfl) (by kernel_rfl) (fun _ _ _ h => h) (Or.inl ⟨by rfl, ?x2_hy4⟩) (by assumption) ?x2_re4
          case x2_hy4 => (intro w hSw; (try dsimp only at hSw); go_simp; try (with_reducible rfl))
          try simp only [Act.put, List.setIfInBounds_toArray, List.set_cons_zero, List.set_cons_succ]
          refine wpAnyH_take (i := 5) (oi := { dst := some 20, op := _, type := _, pos := _, after := _, guard := _ }) (v := ?x2_v5) rfl (by kernel_rfl) (by kernel_rfl) (by kernel_rfl) (fun _ _ _ h => h) (Or.inl ⟨by rfl, ?x2_hy5⟩) (by assumption) ?x2_re5
          case x2_hy5 => (intro w hSw; (try dsimp only at hSw); go_simp; try (with_reducible rfl))
          try simp only [Act.put, List.setIfInBounds_toArray, List.set_cons_zero, List.set_cons_succ]
          refine wpAnyH_take (i := 6) (oi := { dst := some 21, op := _, type := _, pos := _, after := _, guard := _ }) (v := ?x2_v6) rfl (by kernel_rfl) (by kernel_rfl) (by kernel_rfl) (fun _ _ _ h => h) (Or.inl ⟨by rfl, ?x2_hy6⟩) (by assumption) ?x2_re6
          case x2_hy6 => (intro w hSw; (try dsimp only at hSw); go_simp; try (with_reducible rfl))
          try simp only [Act.put, List.setIfInBounds_toArray, List.set_cons_zero, List.set_cons_succ]
          refine wpAnyH_take (i := 7) (oi := { dst := some 22, op := _, type := _, pos := _, after := _, guard := _ }) (v := ?x2_v7) rfl (by kernel_rfl) (by kernel_rfl) (by kernel_rfl) (fun _ _ _ h => h) (Or.inl ⟨by rfl, ?x2_hy7⟩) (by assumption) ?x2_re7
          case x2_hy7 => (intro w hSw; (try dsimp only at hSw); go_simp; try (with_reducible rfl))
          try simp only [Act.put, List.setIfInBounds_toArray, List.set_cons_zero, List.set_cons_succ]
          refine wpAnyH_take (i := 8) (oi := { dst := some 23, op := _, type := _, pos := _, after := _, guard := _ }) (v := undef) rfl (by kernel_rfl) (by kernel_rfl) (by kernel_rfl) (fun _ _ _ h => h) (Or.inr ⟨by rfl, rfl⟩) (by assumption) ?x2_re8
          try simp only [Act.put, List.setIfInBounds_toArray, List.set_cons_zero, List.set_cons_succ]
          refine wpAnyH_take (i := 9) (oi := { dst := some 24, op := _, type := _, pos := _, after := _, guard := _ }) (v := undef) rfl (by kernel_rfl) (by kernel_rfl) (by kernel_rfl) (fun _ _ _ h => h) (Or.inr ⟨by rfl, rfl⟩) (by assumption) ?x2_re9
          try simp only [Act.put, List.setIfInBounds_toArray, List.set_cons_zero, List.set_cons_succ]
          refine wpAnyH_take (i := 10) (oi := { dst := some 25, op := _, type := _, pos := _, after := _, guard := _ }) (v := undef) rfl (by kernel_rfl) (by kernel_rfl) (by kernel_rfl) (fun _ _ _ h => h) (Or.inr ⟨by rfl, rfl⟩) (by assumption) ?x2_re10
          try simp only [Act.put, List.setIfInBounds_toArray, List.set_cons_zero, List.set_cons_succ]
          refine wpAnyH_take (i := 11) (oi := { dst := some 26, op := _, type := _, pos := _, after := _, guard := _ }) (v := undef) rfl (by kernel_rfl) (by kernel_rfl) (by kernel_rfl) (fun _ _ _ h => h) (Or.inr ⟨by rfl, rfl⟩) (by assumption) ?x2_re11
          try simp only [Act.put, List.setIfInBounds_toArray, List.set_cons_zero, List.set_cons_succ]
          refine wpAnyH_take (i := 12) (oi := { dst := some 27, op := _, type := _, pos := _, after := _, guard := _ }) (v := undef) rfl (by kernel_rfl) (by kernel_rfl) (by kernel_rfl) (fun _ _ _ h => h) (Or.inr ⟨by rfl, rfl⟩) (by assumption) ?x2_re12
          try simp only [Act.put, List.setIfInBounds_toArray, List.set_cons_zero, List.set_cons_succ]
          refine wpAnyH_take (i := 13) (oi := { dst := some 28, op := _, type := _, pos := _, after := _, guard := _ }) (v := undef) rfl (by kernel_rfl) (by kernel_rfl) (by kernel_rfl) (fun _ _ _ h => h) (Or.inr ⟨by rfl, rfl⟩) (by assumption) ?x2_re13
          try simp only [Act.put, List.setIfInBounds_toArray, List.set_cons_zero, List.set_cons_succ]
          refine wpAnyH_take (i := 14) (oi := { dst := some 29, op := _, type := _, pos := _, after := _, guard := _ }) (v := undef) rfl (by kernel_rfl) (by kernel_rfl) (by kernel_rfl) (fun _ _ _ h => h) (Or.inr ⟨by rfl, rfl⟩) (by assumption) ?x2_re14
          try simp only [Act.put, List.setIfInBounds_toArray, List.set_cons_zero, List.set_cons_succ]
          refine wpAnyH_take (i := 15) (oi := { dst := some 30, op := _, type := _, pos := _, after := _, guard := _ }) (v := undef) rfl (by kernel_rfl) (by kernel_rfl) (by kernel_rfl) (fun _ _ _ h => h) (Or.inr ⟨by rfl, rfl⟩) (by assumption) ?x2_re15
          try simp only [Act.put, List.setIfInBounds_toArray, List.set_cons_zero, List.set_cons_succ]
          refine wpAnyH_take (i := 16) (oi := { dst := some 31, op := _, type := _, pos := _, after := _, guard := _ }) (v := undef) rfl (by kernel_rfl) (by kernel_rfl) (by kernel_rfl) (fun _ _ _ h => h) (Or.inr ⟨by rfl, rfl⟩) (by assumption) ?x2_re16
          try simp only [Act.put, List.setIfInBounds_toArray, List.set_cons_zero, List.set_cons_succ]
          refine wpAnyH_take (i := 17) (oi := { dst := some 32, op := _, type := _, pos := _, after := _, guard := _ }) (v := undef) rfl (by kernel_rfl) (by kernel_rfl) (by kernel_rfl) (fun _ _ _ h => h) (Or.inr ⟨by rfl, rfl⟩) (by assumption) ?x2_re17
          try simp only [Act.put, List.setIfInBounds_toArray, List.set_cons_zero, List.set_cons_succ]
          refine wpAnyH_take (i := 18) (oi := { dst := some 33, op := _, type := _, pos := _, after := _, guard := _ }) (v := ?x2_v18) rfl (by kernel_rfl) (by kernel_rfl) (by kernel_rfl) (fun _ _ _ h => h) (Or.inl ⟨by rfl, ?x2_hy18⟩) (by assumption) ?x2_re18
          case x2_hy18 => (intro w hSw; (try dsimp only at hSw); go_simp; try (with_reducible rfl))
          try simp only [Act.put, List.setIfInBounds_toArray, List.set_cons_zero, List.set_cons_succ]
          refine wpAnyH_take (i := 19) (oi := { dst := some 34, op := _, type := _, pos := _, after := _, guard := _ }) (v := ?x2_v19) rfl (by kernel_rfl) (by kernel_rfl) (by kernel_rfl) (fun _ _ _ h => h) (Or.inl ⟨by rfl, ?x2_hy19⟩) (by assumption) ?x2_re19
          case x2_hy19 => (intro w hSw; (try dsimp only at hSw); go_simp; try (with_reducible rfl))
          try simp only [Act.put, List.setIfInBounds_toArray, List.set_cons_zero, List.set_cons_succ]
          refine wpAnyH_done (by kernel_rfl) ?_ _
          go_wp2_with fail
          go_roundw
          case rel =>
            first
              | exact ⟨0 + 1, by omega, by go_num, HNX, by first | exact HX.out.drew | exact HX.out⟩
              | ((repeat apply Exists.intro); exact ⟨⟨0 + 1, by omega, by go_num, HNX, by first | exact HX.out.drew | exact HX.out⟩, rfl⟩)
          case measure => first | (simp [intOf]; done) | (simp [intOf]; omega)
        · obtain ⟨m, rfl⟩ : ∃ m, k = m + 1 := ⟨k - 1, by omega⟩
          obtain ⟨y0, y1, y2⟩ := HV.out.shw (k := m) (by omega)
          obtain ⟨a', ea⟩ : ∃ a, (S m).ob = a := ⟨_, rfl⟩
          obtain ⟨d', ed⟩ : ∃ a, (S m).ix = a := ⟨_, rfl⟩
          obtain ⟨v', ev⟩ : ∃ a, (S m).va = a := ⟨_, rfl⟩
          rw [ea] at y0
          rw [ed] at y1
          rw [ev] at y2
          have HK' : Hid (keyD (S m) = (a', d')) := by show keyD (S m) = _; unfold keyD; rw [ea, ed]
          clear ea ed ev HV
          have hs1 : IntKind.i64.wrap ((m : Int) + 1 - 1) = (m : Int) := by rw [IntKind.wrap_i64]; omega
          have hs2 : IntKind.i64.wrap (m : Int) = (m : Int) := by rw [IntKind.wrap_i64]; omega
          have hs3 : (0 : Int) ≤ (m : Int) := by omega
          have hs4 : (m : Int) < (n : Int) := by omega
          have hs5 : (0 : Int) < (m : Int) + 1 := by omega
          have C1 : Hid (∀ W, Calls Try.prog 34 #[.agg #[.int .i64 a', .int .i64 d', .int .i64 v']] W fun e w' => e = .returned (.agg #[.int .i64 a', .int .i64 d']) ∧ Below W.heap.size W w') := fun W => keyC ⟨a', d', v'⟩ W
          have C2 : Hid (∀ W, Calls Try.prog 34 #[.agg #[.int .i64 a, .int .i64 d, .int .i64 v]] W fun e w' => e = .returned (.agg #[.int .i64 a, .int .i64 d]) ∧ Below W.heap.size W w') := fun W => keyC ⟨a, d, v⟩ W
          have c3 : ∀ W, Calls Try.prog 35 #[.agg #[.int .i64 a', .int .i64 d'], .agg #[.int .i64 a, .int .i64 d]] W fun e w' => e = .returned (.int .i64 (cmp2 (a', d') (a, d))) ∧ Below W.heap.size W w' := fun W => cmpKB (a', d') (a, d) W
          have hr := cmp2_neg (x := (a', d')) (y := (a, d))
          obtain ⟨r, er⟩ : ∃ r, cmp2 (a', d') (a, d) = r := ⟨_, rfl⟩
          rw [er] at hr
          simp only [er] at c3
          have C3 : Hid (∀ W, Calls Try.prog 35 #[.agg #[.int .i64 a', .int .i64 d'], .agg #[.int .i64 a, .int .i64 d]] W fun e w' => e = .returned (.int .i64 r) ∧ Below W.heap.size W w') := c3
          have HR : Hid (r < 0 ↔ ltK (a', d') (a, d)) := hr
          clear c3 er hr
          by_cases hr0 : 0 ≤ r
          · have hd0 : decide (0 ≤ r) = true := decide_eq_true hr0
            have HNO : Hid (b = false) := by
              cases b with
              | false => exact rfl
              | true =>
                have h1 := ((HB.out.1 rfl).2 (m + 1) hlt).2 (by omega)
                rw [Nat.add_sub_cancel, HK.out.2, HK'.out] at h1
                have := HR.out.2 h1
                omega
            refine wp_region_held_drew (S := (fun w' => w'.cell? ⟨wr.heap.size, 0, none⟩ = some (.int .i64 a) ∧ w'.cell? ⟨wr.heap.size, 1, none⟩ = some (.int .i64 d) ∧ w'.cell? ⟨wr.heap.size, 2, none⟩ = some (.int .i64 v) ∧ w'.cell? ⟨pb, po + m * 3, none⟩ = some (.int .i64 a') ∧ w'.cell? ⟨pb, po + m * 3 + 1, none⟩ = some (.int .i64 d') ∧ w'.cell? ⟨pb, po + m * 3 + 2, none⟩ = some (.int .i64 v'))) (by kernel_rfl) ?x3_hS (fun hHeld => ?x3_rest)
            case x3_hS => (try dsimp only); go_keep
            case x3_rest =>
            refine wpAnyH_take (i := 0) (oi := { dst := some 15, op := _, type := _, pos := _, after := _, guard := _ }) (v := ?x3_v0) rfl (by kernel_rfl) (by kernel_rfl) (by kernel_rfl) (fun _ _ _ h => h) (Or.inl ⟨by rfl, ?x3_hy0⟩) (by assumption) ?x3_re0
            case x3_hy0 => (intro w hSw; (try dsimp only at hSw); go_simp; try (with_reducible rfl))
            try simp only [Act.put, List.setIfInBounds_toArray, List.set_cons_zero, List.set_cons_succ]
            refine wpAnyH_take (i := 1) (oi := { dst := some 16, op := _, type := _, pos := _, after := _, guard := _ }) (v := ?x3_v1) rfl (by kernel_rfl) (by kernel_rfl) (by kernel_rfl) (fun _ _ _ h => h) (Or.inl ⟨by rfl, ?x3_hy1⟩) (by assumption) ?x3_re1
            case x3_hy1 => (intro w hSw; (try dsimp only at hSw); go_simp; try (with_reducible rfl))
            try simp only [Act.put, List.setIfInBounds_toArray, List.set_cons_zero, List.set_cons_succ]
            refine wpAnyH_ready (rs := [2]) (by kernel_rfl) (by simp) ?_
            refine AllReadyH.cons (o := { dst := some 17, op := _, type := _, pos := _, after := _, guard := _ }) rfl (fun K hK => ?_) AllReadyH.nil
            go_simp
            go_at_call 33
            refine (CI.out _).mono ?_
            rintro e w2 ⟨rfl, rfl⟩
            go_wp2_with fail
            refine hK.out _ _ ?x3_hS2 (fun hHeld => ?x3_re2)
            case x3_hS2 => (try dsimp only); go_keep
            case x3_re2 =>
            clear hK K
            try simp only [Act.put, List.setIfInBounds_toArray, List.set_cons_zero, List.set_cons_succ]
            refine wpAnyH_take (i := 3) (oi := { dst := some 18, op := _, type := _, pos := _, after := _, guard := _ }) (v := ?x3_v3) rfl (by kernel_rfl) (by kernel_rfl) (by kernel_rfl) (fun _ _ _ h => h) (Or.inl ⟨by rfl, ?x3_hy3⟩) (by assumption) ?x3_re3
            case x3_hy3 => (intro w hSw; (try dsimp only at hSw); go_simp; try (with_reducible rfl))
            try simp only [Act.put, List.setIfInBounds_toArray, List.set_cons_zero, List.set_cons_succ]
            refine wpAnyH_take (i := 4) (oi := { dst := some 19, op := _, type := _, pos := _, after := _, guard := _ }) (v := ?x3_v4) rfl (by kernel_rfl) (by kernel_rfl) (by kernel_rfl) (fun _ _ _ h => h) (Or.inl ⟨by rfl, ?x3_hy4⟩) (by assumption) ?x3_re4
            case x3_hy4 => (intro w hSw; (try dsimp only at hSw); go_simp; try (with_reducible rfl))
            try simp only [Act.put, List.setIfInBounds_toArray, List.set_cons_zero, List.set_cons_succ]
            refine wpAnyH_take (i := 5) (oi := { dst := some 20, op := _, type := _, pos := _, after := _, guard := _ }) (v := ?x3_v5) rfl (by kernel_rfl) (by kernel_rfl) (by kernel_rfl) (fun _ _ _ h => h) (Or.inl ⟨by rfl, ?x3_hy5⟩) (by assumption) ?x3_re5
            case x3_hy5 => (intro w hSw; (try dsimp only at hSw); go_simp; try (with_reducible rfl))
            try simp only [Act.put, List.setIfInBounds_toArray, List.set_cons_zero, List.set_cons_succ]
            refine wpAnyH_take (i := 6) (oi := { dst := some 21, op := _, type := _, pos := _, after := _, guard := _ }) (v := ?x3_v6) rfl (by kernel_rfl) (by kernel_rfl) (by kernel_rfl) (fun _ _ _ h => h) (Or.inl ⟨by rfl, ?x3_hy6⟩) (by assumption) ?x3_re6
            case x3_hy6 => (intro w hSw; (try dsimp only at hSw); go_simp; try (with_reducible rfl))
            try simp only [Act.put, List.setIfInBounds_toArray, List.set_cons_zero, List.set_cons_succ]
            refine wpAnyH_take (i := 7) (oi := { dst := some 22, op := _, type := _, pos := _, after := _, guard := _ }) (v := ?x3_v7) rfl (by kernel_rfl) (by kernel_rfl) (by kernel_rfl) (fun _ _ _ h => h) (Or.inl ⟨by rfl, ?x3_hy7⟩) (by assumption) ?x3_re7
            case x3_hy7 => (intro w hSw; (try dsimp only at hSw); go_simp; try (with_reducible rfl))
            try simp only [Act.put, List.setIfInBounds_toArray, List.set_cons_zero, List.set_cons_succ]
            refine wpAnyH_take (i := 8) (oi := { dst := some 23, op := _, type := _, pos := _, after := _, guard := _ }) (v := ?x3_v8) rfl (by kernel_rfl) (by kernel_rfl) (by kernel_rfl) (fun _ _ _ h => h) (Or.inl ⟨by rfl, ?x3_hy8⟩) (by assumption) ?x3_re8
            case x3_hy8 => (intro w hSw; (try dsimp only at hSw); go_simp; try (with_reducible rfl))
            try simp only [Act.put, List.setIfInBounds_toArray, List.set_cons_zero, List.set_cons_succ]
            refine wpAnyH_take (i := 9) (oi := { dst := some 24, op := _, type := _, pos := _, after := _, guard := _ }) (v := ?x3_v9) rfl (by kernel_rfl) (by kernel_rfl) (by kernel_rfl) (fun _ _ _ h => h) (Or.inl ⟨by rfl, ?x3_hy9⟩) (by assumption) ?x3_re9
            case x3_hy9 => (intro w hSw; (try dsimp only at hSw); go_simp; try (with_reducible rfl))
            try simp only [Act.put, List.setIfInBounds_toArray, List.set_cons_zero, List.set_cons_succ]
            refine wpAnyH_take (i := 10) (oi := { dst := some 25, op := _, type := _, pos := _, after := _, guard := _ }) (v := ?x3_v10) rfl (by kernel_rfl) (by kernel_rfl) (by kernel_rfl) (fun _ _ _ h => h) (Or.inl ⟨by rfl, ?x3_hy10⟩) (by assumption) ?x3_re10
            case x3_hy10 => (intro w hSw; (try dsimp only at hSw); go_simp; try (with_reducible rfl))
            try simp only [Act.put, List.setIfInBounds_toArray, List.set_cons_zero, List.set_cons_succ]
            refine wpAnyH_take (i := 11) (oi := { dst := some 26, op := _, type := _, pos := _, after := _, guard := _ }) (v := ?x3_v11) rfl (by kernel_rfl) (by kernel_rfl) (by kernel_rfl) (fun _ _ _ h => h) (Or.inl ⟨by rfl, ?x3_hy11⟩) (by assumption) ?x3_re11
            case x3_hy11 => (intro w hSw; (try dsimp only at hSw); go_simp; try (with_reducible rfl))
            try simp only [Act.put, List.setIfInBounds_toArray, List.set_cons_zero, List.set_cons_succ]
            refine wpAnyH_take (i := 12) (oi := { dst := some 27, op := _, type := _, pos := _, after := _, guard := _ }) (v := ?x3_v12) rfl (by kernel_rfl) (by kernel_rfl) (by kernel_rfl) (fun _ _ _ h => h) (Or.inl ⟨by rfl, ?x3_hy12⟩) (by assumption) ?x3_re12
            case x3_hy12 => (intro w hSw; (try dsimp only at hSw); go_simp; try (with_reducible rfl))
            try simp only [Act.put, List.setIfInBounds_toArray, List.set_cons_zero, List.set_cons_succ]
            refine wpAnyH_take (i := 14) (oi := { dst := some 29, op := _, type := _, pos := _, after := _, guard := _ }) (v := ?x3_v13) rfl (by kernel_rfl) (by kernel_rfl) (by kernel_rfl) (fun _ _ _ h => h) (Or.inl ⟨by rfl, ?x3_hy13⟩) (by assumption) ?x3_re13
            case x3_hy13 => (intro w hSw; (try dsimp only at hSw); go_simp; try (with_reducible rfl))
            try simp only [Act.put, List.setIfInBounds_toArray, List.set_cons_zero, List.set_cons_succ]
            refine wpAnyH_ready (rs := [13]) (by kernel_rfl) (by simp) ?_
            refine AllReadyH.cons (o := { dst := some 28, op := _, type := _, pos := _, after := _, guard := _ }) rfl (fun K hK => ?_) AllReadyH.nil
            go_simp
            go_at_call 34
            refine (C1.out _).mono ?_
            rintro e w3 ⟨rfl, hb3⟩
            have b3 : Below W1.heap.size W1 w3 := (Below.refl W1.heap.size W1).drew.trans hb3
            have f0 := (b3.cell (p := ⟨wr.heap.size, 0, none⟩) hX).trans q0
            have f1 := (b3.cell (p := ⟨wr.heap.size, 1, none⟩) hX).trans q1
            have f2 := (b3.cell (p := ⟨wr.heap.size, 2, none⟩) hX).trans q2
            have f3 := (b3.cell (p := ⟨pb, po + m * 3, none⟩) hpl1).trans y0
            have f4 := (b3.cell (p := ⟨pb, po + m * 3 + 1, none⟩) hpl1).trans y1
            have f5 := (b3.cell (p := ⟨pb, po + m * 3 + 2, none⟩) hpl1).trans y2
            go_wp2_with fail
            refine hK.out _ _ ?x3_hS14 (fun hHeld => ?x3_re14)
            case x3_hS14 => (try dsimp only); go_keep
            case x3_re14 =>
            clear hK K
            try simp only [Act.put, List.setIfInBounds_toArray, List.set_cons_zero, List.set_cons_succ]
            refine wpAnyH_ready (rs := [15]) (by kernel_rfl) (by simp) ?_
            refine AllReadyH.cons (o := { dst := some 30, op := _, type := _, pos := _, after := _, guard := _ }) rfl (fun K hK => ?_) AllReadyH.nil
            go_simp
            go_at_call 34
            refine (C2.out _).mono ?_
            rintro e w4 ⟨rfl, hb4⟩
            have b4 : Below W1.heap.size W1 w4 := b3.trans (hb4.mono b3.size)
            have g0 := (b4.cell (p := ⟨wr.heap.size, 0, none⟩) hX).trans q0
            have g1 := (b4.cell (p := ⟨wr.heap.size, 1, none⟩) hX).trans q1
            have g2 := (b4.cell (p := ⟨wr.heap.size, 2, none⟩) hX).trans q2
            have g3 := (b4.cell (p := ⟨pb, po + m * 3, none⟩) hpl1).trans y0
            have g4 := (b4.cell (p := ⟨pb, po + m * 3 + 1, none⟩) hpl1).trans y1
            have g5 := (b4.cell (p := ⟨pb, po + m * 3 + 2, none⟩) hpl1).trans y2
            go_wp2_with fail
            refine hK.out _ _ ?x3_hS15 (fun hHeld => ?x3_re15)
            case x3_hS15 => (try dsimp only); go_keep
            case x3_re15 =>
            clear hK K
            try simp only [Act.put, List.setIfInBounds_toArray, List.set_cons_zero, List.set_cons_succ]
            refine wpAnyH_ready (rs := [16]) (by kernel_rfl) (by simp) ?_
            refine AllReadyH.cons (o := { dst := some 31, op := _, type := _, pos := _, after := _, guard := _ }) rfl (fun K hK => ?_) AllReadyH.nil
            go_simp
            go_at_call 35
            refine (C3.out _).mono ?_
            rintro e w5 ⟨rfl, hb5⟩
            have b5 : Below W1.heap.size W1 w5 := b4.trans (hb5.mono b4.size)
            have h0 := (b5.cell (p := ⟨wr.heap.size, 0, none⟩) hX).trans q0
            have h1 := (b5.cell (p := ⟨wr.heap.size, 1, none⟩) hX).trans q1
            have h2 := (b5.cell (p := ⟨wr.heap.size, 2, none⟩) hX).trans q2
            have h3 := (b5.cell (p := ⟨pb, po + m * 3, none⟩) hpl1).trans y0
            have h4 := (b5.cell (p := ⟨pb, po + m * 3 + 1, none⟩) hpl1).trans y1
            have h5 := (b5.cell (p := ⟨pb, po + m * 3 + 2, none⟩) hpl1).trans y2
            go_wp2_with fail
            refine hK.out _ _ ?x3_hS16 (fun hHeld => ?x3_re16)
            case x3_hS16 => (try dsimp only); go_keep
            case x3_re16 =>
            clear hK K
            try simp only [Act.put, List.setIfInBounds_toArray, List.set_cons_zero, List.set_cons_succ]
            refine wpAnyH_take (i := 17) (oi := { dst := some 32, op := _, type := _, pos := _, after := _, guard := _ }) (v := ?x3_v17) rfl (by kernel_rfl) (by kernel_rfl) (by kernel_rfl) (fun _ _ _ h => h) (Or.inl ⟨by rfl, ?x3_hy17⟩) (by assumption) ?x3_re17
            case x3_hy17 => (intro w hSw; (try dsimp only at hSw); go_simp; try (with_reducible rfl))
            try simp only [Act.put, List.setIfInBounds_toArray, List.set_cons_zero, List.set_cons_succ]
            refine wpAnyH_take (i := 18) (oi := { dst := some 33, op := _, type := _, pos := _, after := _, guard := _ }) (v := ?x3_v18) rfl (by kernel_rfl) (by kernel_rfl) (by kernel_rfl) (fun _ _ _ h => h) (Or.inl ⟨by rfl, ?x3_hy18⟩) (by assumption) ?x3_re18
            case x3_hy18 => (intro w hSw; (try dsimp only at hSw); go_simp; try (with_reducible rfl))
            try simp only [Act.put, List.setIfInBounds_toArray, List.set_cons_zero, List.set_cons_succ]
            refine wpAnyH_take (i := 19) (oi := { dst := some 34, op := _, type := _, pos := _, after := _, guard := _ }) (v := ?x3_v19) rfl (by kernel_rfl) (by kernel_rfl) (by kernel_rfl) (fun _ _ _ h => h) (Or.inl ⟨by rfl, ?x3_hy19⟩) (by assumption) ?x3_re19
            case x3_hy19 => (intro w hSw; (try dsimp only at hSw); go_simp; try (with_reducible rfl))
            try simp only [Act.put, List.setIfInBounds_toArray, List.set_cons_zero, List.set_cons_succ]
            refine wpAnyH_done (by kernel_rfl) ?_ _
            go_wp2_with fail
            go_ret
            exact ⟨ret_boolL HNO.out.symm, HX.out.trans (b5.mono hszW)⟩
          · have hd0 : decide (0 ≤ r) = false := decide_eq_false hr0
            have HNX : Hid (∀ j, j < m + 1 + 1 → idP (S j).ix ∧ (0 < j → ltK (keyD (S (j - 1))) (keyD (S j)))) := fun j hj => by
              rcases Nat.lt_succ_iff_lt_or_eq.1 hj with h' | rfl
              · exact HALL.out j h'
              · rw [HK.out.1, Nat.add_sub_cancel, HK.out.2, HK'.out]
                exact ⟨HQ.out.1 rfl, fun _ => HR.out.1 (by omega)⟩
            refine wp_region_held_drew (S := (fun w' => w'.cell? ⟨wr.heap.size, 0, none⟩ = some (.int .i64 a) ∧ w'.cell? ⟨wr.heap.size, 1, none⟩ = some (.int .i64 d) ∧ w'.cell? ⟨wr.heap.size, 2, none⟩ = some (.int .i64 v) ∧ w'.cell? ⟨pb, po + m * 3, none⟩ = some (.int .i64 a') ∧ w'.cell? ⟨pb, po + m * 3 + 1, none⟩ = some (.int .i64 d') ∧ w'.cell? ⟨pb, po + m * 3 + 2, none⟩ = some (.int .i64 v'))) (by kernel_rfl) ?x4_hS (fun hHeld => ?x4_rest)
            case x4_hS => (try dsimp only); go_keep
            case x4_rest =>
            refine wpAnyH_take (i := 0) (oi := { dst := some 15, op := _, type := _, pos := _, after := _, guard := _ }) (v := ?x4_v0) rfl (by kernel_rfl) (by kernel_rfl) (by kernel_rfl) (fun _ _ _ h => h) (Or.inl ⟨by rfl, ?x4_hy0⟩) (by assumption) ?x4_re0
            case x4_hy0 => (intro w hSw; (try dsimp only at hSw); go_simp; try (with_reducible rfl))
            try simp only [Act.put, List.setIfInBounds_toArray, List.set_cons_zero, List.set_cons_succ]
            refine wpAnyH_take (i := 1) (oi := { dst := some 16, op := _, type := _, pos := _, after := _, guard := _ }) (v := ?x4_v1) rfl (by kernel_rfl) (by kernel_rfl) (by kernel_rfl) (fun _ _ _ h => h) (Or.inl ⟨by rfl, ?x4_hy1⟩) (by assumption) ?x4_re1
            case x4_hy1 => (intro w hSw; (try dsimp only at hSw); go_simp; try (with_reducible rfl))
            try simp only [Act.put, List.setIfInBounds_toArray, List.set_cons_zero, List.set_cons_succ]
            refine wpAnyH_ready (rs := [2]) (by kernel_rfl) (by simp) ?_
            refine AllReadyH.cons (o := { dst := some 17, op := _, type := _, pos := _, after := _, guard := _ }) rfl (fun K hK => ?_) AllReadyH.nil
            go_simp
            go_at_call 33
            refine (CI.out _).mono ?_
            rintro e w2 ⟨rfl, rfl⟩
            go_wp2_with fail
            refine hK.out _ _ ?x4_hS2 (fun hHeld => ?x4_re2)
            case x4_hS2 => (try dsimp only); go_keep
            case x4_re2 =>
            clear hK K
            try simp only [Act.put, List.setIfInBounds_toArray, List.set_cons_zero, List.set_cons_succ]
            refine wpAnyH_take (i := 3) (oi := { dst := some 18, op := _, type := _, pos := _, after := _, guard := _ }) (v := ?x4_v3) rfl (by kernel_rfl) (by kernel_rfl) (by kernel_rfl) (fun _ _ _ h => h) (Or.inl ⟨by rfl, ?x4_hy3⟩) (by assumption) ?x4_re3
            case x4_hy3 => (intro w hSw; (try dsimp only at hSw); go_simp; try (with_reducible rfl))
            try simp only [Act.put, List.setIfInBounds_toArray, List.set_cons_zero, List.set_cons_succ]
            refine wpAnyH_take (i := 4) (oi := { dst := some 19, op := _, type := _, pos := _, after := _, guard := _ }) (v := ?x4_v4) rfl (by kernel_rfl) (by kernel_rfl) (by kernel_rfl) (fun _ _ _ h => h) (Or.inl ⟨by rfl, ?x4_hy4⟩) (by assumption) ?x4_re4
            case x4_hy4 => (intro w hSw; (try dsimp only at hSw); go_simp; try (with_reducible rfl))
            try simp only [Act.put, List.setIfInBounds_toArray, List.set_cons_zero, List.set_cons_succ]
            refine wpAnyH_take (i := 5) (oi := { dst := some 20, op := _, type := _, pos := _, after := _, guard := _ }) (v := ?x4_v5) rfl (by kernel_rfl) (by kernel_rfl) (by kernel_rfl) (fun _ _ _ h => h) (Or.inl ⟨by rfl, ?x4_hy5⟩) (by assumption) ?x4_re5
            case x4_hy5 => (intro w hSw; (try dsimp only at hSw); go_simp; try (with_reducible rfl))
            try simp only [Act.put, List.setIfInBounds_toArray, List.set_cons_zero, List.set_cons_succ]
            refine wpAnyH_take (i := 6) (oi := { dst := some 21, op := _, type := _, pos := _, after := _, guard := _ }) (v := ?x4_v6) rfl (by kernel_rfl) (by kernel_rfl) (by kernel_rfl) (fun _ _ _ h => h) (Or.inl ⟨by rfl, ?x4_hy6⟩) (by assumption) ?x4_re6
            case x4_hy6 => (intro w hSw; (try dsimp only at hSw); go_simp; try (with_reducible rfl))
            try simp only [Act.put, List.setIfInBounds_toArray, List.set_cons_zero, List.set_cons_succ]
            refine wpAnyH_take (i := 7) (oi := { dst := some 22, op := _, type := _, pos := _, after := _, guard := _ }) (v := ?x4_v7) rfl (by kernel_rfl) (by kernel_rfl) (by kernel_rfl) (fun _ _ _ h => h) (Or.inl ⟨by rfl, ?x4_hy7⟩) (by assumption) ?x4_re7
            case x4_hy7 => (intro w hSw; (try dsimp only at hSw); go_simp; try (with_reducible rfl))
            try simp only [Act.put, List.setIfInBounds_toArray, List.set_cons_zero, List.set_cons_succ]
            refine wpAnyH_take (i := 8) (oi := { dst := some 23, op := _, type := _, pos := _, after := _, guard := _ }) (v := ?x4_v8) rfl (by kernel_rfl) (by kernel_rfl) (by kernel_rfl) (fun _ _ _ h => h) (Or.inl ⟨by rfl, ?x4_hy8⟩) (by assumption) ?x4_re8
            case x4_hy8 => (intro w hSw; (try dsimp only at hSw); go_simp; try (with_reducible rfl))
            try simp only [Act.put, List.setIfInBounds_toArray, List.set_cons_zero, List.set_cons_succ]
            refine wpAnyH_take (i := 9) (oi := { dst := some 24, op := _, type := _, pos := _, after := _, guard := _ }) (v := ?x4_v9) rfl (by kernel_rfl) (by kernel_rfl) (by kernel_rfl) (fun _ _ _ h => h) (Or.inl ⟨by rfl, ?x4_hy9⟩) (by assumption) ?x4_re9
            case x4_hy9 => (intro w hSw; (try dsimp only at hSw); go_simp; try (with_reducible rfl))
            try simp only [Act.put, List.setIfInBounds_toArray, List.set_cons_zero, List.set_cons_succ]
            refine wpAnyH_take (i := 10) (oi := { dst := some 25, op := _, type := _, pos := _, after := _, guard := _ }) (v := ?x4_v10) rfl (by kernel_rfl) (by kernel_rfl) (by kernel_rfl) (fun _ _ _ h => h) (Or.inl ⟨by rfl, ?x4_hy10⟩) (by assumption) ?x4_re10
            case x4_hy10 => (intro w hSw; (try dsimp only at hSw); go_simp; try (with_reducible rfl))
            try simp only [Act.put, List.setIfInBounds_toArray, List.set_cons_zero, List.set_cons_succ]
            refine wpAnyH_take (i := 11) (oi := { dst := some 26, op := _, type := _, pos := _, after := _, guard := _ }) (v := ?x4_v11) rfl (by kernel_rfl) (by kernel_rfl) (by kernel_rfl) (fun _ _ _ h => h) (Or.inl ⟨by rfl, ?x4_hy11⟩) (by assumption) ?x4_re11
            case x4_hy11 => (intro w hSw; (try dsimp only at hSw); go_simp; try (with_reducible rfl))
            try simp only [Act.put, List.setIfInBounds_toArray, List.set_cons_zero, List.set_cons_succ]
            refine wpAnyH_take (i := 12) (oi := { dst := some 27, op := _, type := _, pos := _, after := _, guard := _ }) (v := ?x4_v12) rfl (by kernel_rfl) (by kernel_rfl) (by kernel_rfl) (fun _ _ _ h => h) (Or.inl ⟨by rfl, ?x4_hy12⟩) (by assumption) ?x4_re12
            case x4_hy12 => (intro w hSw; (try dsimp only at hSw); go_simp; try (with_reducible rfl))
            try simp only [Act.put, List.setIfInBounds_toArray, List.set_cons_zero, List.set_cons_succ]
            refine wpAnyH_take (i := 14) (oi := { dst := some 29, op := _, type := _, pos := _, after := _, guard := _ }) (v := ?x4_v13) rfl (by kernel_rfl) (by kernel_rfl) (by kernel_rfl) (fun _ _ _ h => h) (Or.inl ⟨by rfl, ?x4_hy13⟩) (by assumption) ?x4_re13
            case x4_hy13 => (intro w hSw; (try dsimp only at hSw); go_simp; try (with_reducible rfl))
            try simp only [Act.put, List.setIfInBounds_toArray, List.set_cons_zero, List.set_cons_succ]
            refine wpAnyH_ready (rs := [13]) (by kernel_rfl) (by simp) ?_
            refine AllReadyH.cons (o := { dst := some 28, op := _, type := _, pos := _, after := _, guard := _ }) rfl (fun K hK => ?_) AllReadyH.nil
            go_simp
            go_at_call 34
            refine (C1.out _).mono ?_
            rintro e w3 ⟨rfl, hb3⟩
            have b3 : Below W1.heap.size W1 w3 := (Below.refl W1.heap.size W1).drew.trans hb3
            have f0 := (b3.cell (p := ⟨wr.heap.size, 0, none⟩) hX).trans q0
            have f1 := (b3.cell (p := ⟨wr.heap.size, 1, none⟩) hX).trans q1
            have f2 := (b3.cell (p := ⟨wr.heap.size, 2, none⟩) hX).trans q2
            have f3 := (b3.cell (p := ⟨pb, po + m * 3, none⟩) hpl1).trans y0
            have f4 := (b3.cell (p := ⟨pb, po + m * 3 + 1, none⟩) hpl1).trans y1
            have f5 := (b3.cell (p := ⟨pb, po + m * 3 + 2, none⟩) hpl1).trans y2
            go_wp2_with fail
            refine hK.out _ _ ?x4_hS14 (fun hHeld => ?x4_re14)
            case x4_hS14 => (try dsimp only); go_keep
            case x4_re14 =>
            clear hK K
            try simp only [Act.put, List.setIfInBounds_toArray, List.set_cons_zero, List.set_cons_succ]
            refine wpAnyH_ready (rs := [15]) (by kernel_rfl) (by simp) ?_
            refine AllReadyH.cons (o := { dst := some 30, op := _, type := _, pos := _, after := _, guard := _ }) rfl (fun K hK => ?_) AllReadyH.nil
            go_simp
            go_at_call 34
            refine (C2.out _).mono ?_
            rintro e w4 ⟨rfl, hb4⟩
            have b4 : Below W1.heap.size W1 w4 := b3.trans (hb4.mono b3.size)
            have g0 := (b4.cell (p := ⟨wr.heap.size, 0, none⟩) hX).trans q0
            have g1 := (b4.cell (p := ⟨wr.heap.size, 1, none⟩) hX).trans q1
            have g2 := (b4.cell (p := ⟨wr.heap.size, 2, none⟩) hX).trans q2
            have g3 := (b4.cell (p := ⟨pb, po + m * 3, none⟩) hpl1).trans y0
            have g4 := (b4.cell (p := ⟨pb, po + m * 3 + 1, none⟩) hpl1).trans y1
            have g5 := (b4.cell (p := ⟨pb, po + m * 3 + 2, none⟩) hpl1).trans y2
            go_wp2_with fail
            refine hK.out _ _ ?x4_hS15 (fun hHeld => ?x4_re15)
            case x4_hS15 => (try dsimp only); go_keep
            case x4_re15 =>
            clear hK K
            try simp only [Act.put, List.setIfInBounds_toArray, List.set_cons_zero, List.set_cons_succ]
            refine wpAnyH_ready (rs := [16]) (by kernel_rfl) (by simp) ?_
            refine AllReadyH.cons (o := { dst := some 31, op := _, type := _, pos := _, after := _, guard := _ }) rfl (fun K hK => ?_) AllReadyH.nil
            go_simp
            go_at_call 35
            refine (C3.out _).mono ?_
            rintro e w5 ⟨rfl, hb5⟩
            have b5 : Below W1.heap.size W1 w5 := b4.trans (hb5.mono b4.size)
            have h0 := (b5.cell (p := ⟨wr.heap.size, 0, none⟩) hX).trans q0
            have h1 := (b5.cell (p := ⟨wr.heap.size, 1, none⟩) hX).trans q1
            have h2 := (b5.cell (p := ⟨wr.heap.size, 2, none⟩) hX).trans q2
            have h3 := (b5.cell (p := ⟨pb, po + m * 3, none⟩) hpl1).trans y0
            have h4 := (b5.cell (p := ⟨pb, po + m * 3 + 1, none⟩) hpl1).trans y1
            have h5 := (b5.cell (p := ⟨pb, po + m * 3 + 2, none⟩) hpl1).trans y2
            go_wp2_with fail
            refine hK.out _ _ ?x4_hS16 (fun hHeld => ?x4_re16)
            case x4_hS16 => (try dsimp only); go_keep
            case x4_re16 =>
            clear hK K
            try simp only [Act.put, List.setIfInBounds_toArray, List.set_cons_zero, List.set_cons_succ]
            refine wpAnyH_take (i := 17) (oi := { dst := some 32, op := _, type := _, pos := _, after := _, guard := _ }) (v := ?x4_v17) rfl (by kernel_rfl) (by kernel_rfl) (by kernel_rfl) (fun _ _ _ h => h) (Or.inl ⟨by rfl, ?x4_hy17⟩) (by assumption) ?x4_re17
            case x4_hy17 => (intro w hSw; (try dsimp only at hSw); go_simp; try (with_reducible rfl))
            try simp only [Act.put, List.setIfInBounds_toArray, List.set_cons_zero, List.set_cons_succ]
            refine wpAnyH_take (i := 18) (oi := { dst := some 33, op := _, type := _, pos := _, after := _, guard := _ }) (v := ?x4_v18) rfl (by kernel_rfl) (by kernel_rfl) (by kernel_rfl) (fun _ _ _ h => h) (Or.inl ⟨by rfl, ?x4_hy18⟩) (by assumption) ?x4_re18
            case x4_hy18 => (intro w hSw; (try dsimp only at hSw); go_simp; try (with_reducible rfl))
            try simp only [Act.put, List.setIfInBounds_toArray, List.set_cons_zero, List.set_cons_succ]
            refine wpAnyH_take (i := 19) (oi := { dst := some 34, op := _, type := _, pos := _, after := _, guard := _ }) (v := ?x4_v19) rfl (by kernel_rfl) (by kernel_rfl) (by kernel_rfl) (fun _ _ _ h => h) (Or.inl ⟨by rfl, ?x4_hy19⟩) (by assumption) ?x4_re19
            case x4_hy19 => (intro w hSw; (try dsimp only at hSw); go_simp; try (with_reducible rfl))
            try simp only [Act.put, List.setIfInBounds_toArray, List.set_cons_zero, List.set_cons_succ]
            refine wpAnyH_done (by kernel_rfl) ?_ _
            go_wp2_with fail
            go_roundw
            case rel =>
              first
                | exact ⟨m + 1 + 1, by omega, by go_num, HNX, HX.out.trans (b5.mono hszW)⟩
                | ((repeat apply Exists.intro); exact ⟨⟨m + 1 + 1, by omega, by go_num, HNX, HX.out.trans (b5.mono hszW)⟩, rfl⟩)
            case measure => first | (simp [intOf]; done) | (simp [intOf]; omega)
    · obtain rfl : k = n := by omega
      obtain rfl : b = true := HB.out.2 ⟨by omega, HALL.out⟩
      clear hp
      go_wp2_with fail
      go_ret
      exact ⟨rfl, hB⟩
end Go.Proofs.Ytibepggakjfbcaa
