/- The model's TableOK. -/
import Derived.Test.YtelogjpjglohoaaTblI
import Derived.Deep.RegionLaw
import Derived.Deep.RegionHeld3
import Derived.RegionTactic
namespace Go.Proofs.Ytelogjpjglohoaa
open Go Go.RowKit Go.Maps
set_option linter.unusedVariables false

theorem tableP_no1 {n : Nat} {S : Nat → EntD} {k : Nat} (hk : k < n) (h : entB (S k) = false) : ¬ TableP n S := fun t => by have := t.2.1 k hk; rw [h] at this; cases this
theorem tableP_no2 {n : Nat} {S : Nat → EntD} {i k : Nat} (hi : i < k) (hk : k < n) (h : (S i).nm = (S k).nm) : ¬ TableP n S := fun t => t.2.2 i k hi hk h
theorem EntsAt.take {w : World} {p : Option Addr} {n k : Nat} {S : Nat → EntD} (h : EntsAt w p n S) (hk : k ≤ n) : EntsAt w p k S := by
  rcases h with h | ⟨b, o, e, hl, hv⟩
  · exact .inl (by omega)
  · exact .inr ⟨b, o, e, hl, fun i hi => hv i (by omega)⟩

set_option maxRecDepth 100000 in
set_option maxHeartbeats 8000000 in
theorem tblSpec (p : Option Addr) (n c : Nat) (S : Nat → EntD) (w : World) (hn : n ≤ 1048576) (hc : n ≤ c) (hw : ∀ i, i < n → (S i).wf) (hp : EntsAt w p n S) (b : Bool) (hb : b = true ↔ TableP n S) :
    Calls Try.prog 12 #[.slice p n c] w fun e w' => e = .returned (.bool b) ∧ Below w.heap.size w w' := by
  by_cases h4 : 4096 < n
  · obtain rfl : b = false := by cases b with
      | false => rfl
      | true => have := (hb.1 rfl).1; omega
    clear hb hp hw
    go_enter Try.func12, Try.ntmps12
    go_wp2_with fail
    go_ret
    exact ⟨rfl, Below.refl _ _⟩
  by_cases h64 : 64 < n
  · obtain rfl : b = false := by cases b with
      | false => rfl
      | true => have := (hb.1 rfl).1; omega
    clear hb hp hw
    go_enter Try.func12, Try.ntmps12
    go_wp2_with fail
    go_ret
    exact ⟨rfl, Below.refl _ _⟩
  have HB : Hid (b = true ↔ TableP n S) := hb
  have HW : Hid (∀ i, i < n → (S i).wf) := hw
  clear hb hw
  go_enter Try.func12, Try.ntmps12
  go_wp2_with fail
  go_loopw [3] (fun i wr => ∃ k : Nat, k ≤ n ∧ i = .int .i64 k ∧ Hid ((∀ j, j < k → entB (S j) = true) ∧ ∀ i j, i < j → j < k → (S i).nm ≠ (S j).nm) ∧ Below w.heap.size w wr) (fun i _ => n - (intOf i).toNat)
  case atStart => exact ⟨0, Nat.zero_le _, rfl, ⟨fun j hj => absurd hj (Nat.not_lt_zero _), fun i j _ hj => absurd hj (Nat.not_lt_zero _)⟩, Below.refl _ _⟩
  case round =>
    obtain ⟨k, hk, rfl, HALL, hB⟩ := hrel
    by_cases hlt : k < n
    · have hpr := hp.below hB
      rcases hp with hp | ⟨pb, po, rfl, hpl, hp⟩
      · omega
      obtain ⟨x0, x1, x2, x3, x4, x5⟩ := (hp.below hB hpl).ent hlt
      have hwk := HW.out k hlt
      obtain ⟨d, hd⟩ : ∃ d, S k = d := ⟨_, rfl⟩
      rw [hd] at x0 x1 x2 x3 x4 x5 hwk
      have HD : Hid (S k = d) := hd
      have hplr := Nat.lt_of_lt_of_le hpl hB.size
      have RC : Hid (∀ w', Calls Try.prog 28 #[entA d] w' fun e w'' => e = .returned (.bool (entB d)) ∧ Below w'.heap.size w' w'') := fun w' => entSpec d.nm d.kd d.pl d.sz d.fr d.ow w' hwk.1 hwk.2.2.1 hwk.2.2.2.2.1
      obtain ⟨r, hr⟩ := fstE_ex k S d.nm
      have FC : Hid (∀ w', Below wr.heap.size wr w' → Calls Try.prog 29 #[.slice (some ⟨pb, po, none⟩) k c, .string d.nm] w' fun e w'' => e = .returned (.int .i64 r) ∧ Below w'.heap.size w' w'') := fun w' hb' => findSpec _ k c S d.nm w' (by omega) (EntsAt.take (hpr.below hb') (by omega)) r hr
      have HR : Hid (FstE k S d.nm r) := hr
      have HX : Hid (Below w.heap.size w wr) := hB
      have hkc : (k : Int) ≤ c := by omega
      have hkn : (k : Int) < n := by omega
      obtain ⟨q, hq⟩ : ∃ q, entB d = q := ⟨_, rfl⟩
      have HQ : Hid (entB d = q) := hq
      rw [hq] at RC
      obtain ⟨nm, kd, pl, sz, fr, ow⟩ := d
      clear hp hB hd hwk hq hr hpr
      cases q with
      | false =>
        obtain rfl : b = false := by cases b with
          | false => rfl
          | true => exact absurd (HB.out.1 rfl) (tableP_no1 hlt (by rw [HD.out]; exact HQ.out))
        clear FC
        go_wp2_with fail
        refine wp_region_held_drew (S := (fun w' => w'.cell? ⟨pb, po + k * 6, none⟩ = some (.string nm) ∧ w'.cell? ⟨pb, po + k * 6 + 1, none⟩ = some (.int .i64 kd) ∧ w'.cell? ⟨pb, po + k * 6 + 2, none⟩ = some (.int .i64 pl) ∧ w'.cell? ⟨pb, po + k * 6 + 3, none⟩ = some (.int .i64 sz) ∧ w'.cell? ⟨pb, po + k * 6 + 4, none⟩ = some (.int .i64 fr) ∧ w'.cell? ⟨pb, po + k * 6 + 5, none⟩ = some (.int .i64 ow))) (by kernel_rfl) ?hS (fun hHeld => ?rest)
        case hS => (try dsimp only); go_keep
        case rest =>
        refine wpAnyH_take (i := 0) (oi := { dst := some 16, op := _, type := _, pos := _, after := _, guard := _ }) (v := ?v0) rfl (by kernel_rfl) (by kernel_rfl) (by kernel_rfl) (fun _ _ _ h => h) (Or.inl ⟨by rfl, ?hy0⟩) (by assumption) ?re0
        case hy0 => (intro w hSw; (try dsimp only at hSw); go_simp; try (with_reducible rfl))
        try simp only [Act.put, List.setIfInBounds_toArray, List.set_cons_zero, List.set_cons_succ]
        refine wpAnyH_take (i := 1) (oi := { dst := some 17, op := _, type := _, pos := _, after := _, guard := _ }) (v := ?v1) rfl (by kernel_rfl) (by kernel_rfl) (by kernel_rfl) (fun _ _ _ h => h) (Or.inl ⟨by rfl, ?hy1⟩) (by assumption) ?re1
        case hy1 => (intro w hSw; (try dsimp only at hSw); go_simp; try (with_reducible rfl))
        try simp only [Act.put, List.setIfInBounds_toArray, List.set_cons_zero, List.set_cons_succ]
        refine wpAnyH_take (i := 2) (oi := { dst := some 18, op := _, type := _, pos := _, after := _, guard := _ }) (v := ?v2) rfl (by kernel_rfl) (by kernel_rfl) (by kernel_rfl) (fun _ _ _ h => h) (Or.inl ⟨by rfl, ?hy2⟩) (by assumption) ?re2
        case hy2 => (intro w hSw; (try dsimp only at hSw); go_simp; try (with_reducible rfl))
        try simp only [Act.put, List.setIfInBounds_toArray, List.set_cons_zero, List.set_cons_succ]
        refine wpAnyH_take (i := 3) (oi := { dst := some 19, op := _, type := _, pos := _, after := _, guard := _ }) (v := ?v3) rfl (by kernel_rfl) (by kernel_rfl) (by kernel_rfl) (fun _ _ _ h => h) (Or.inl ⟨by rfl, ?hy3⟩) (by assumption) ?re3
        case hy3 => (intro w hSw; (try dsimp only at hSw); go_simp; try (with_reducible rfl))
        try simp only [Act.put, List.setIfInBounds_toArray, List.set_cons_zero, List.set_cons_succ]
        refine wpAnyH_ready (rs := [4]) (by kernel_rfl) (by simp) ?_
        refine AllReadyH.cons (o := { dst := some 20, op := _, type := _, pos := _, after := _, guard := _ }) rfl (fun K hK => ?_) AllReadyH.nil
        go_simp
        go_at_call 28
        refine (RC.out _).mono ?_
        rintro e w2 ⟨rfl, hb2⟩
        have b2 : Below wr.heap.size wr w2 := (Below.refl wr.heap.size wr).drew.trans hb2
        have y0 := (b2.cell (p := ⟨pb, po + k * 6, none⟩) hplr).trans x0
        have y1 := (b2.cell (p := ⟨pb, po + k * 6 + 1, none⟩) hplr).trans x1
        have y2 := (b2.cell (p := ⟨pb, po + k * 6 + 2, none⟩) hplr).trans x2
        have y3 := (b2.cell (p := ⟨pb, po + k * 6 + 3, none⟩) hplr).trans x3
        have y4 := (b2.cell (p := ⟨pb, po + k * 6 + 4, none⟩) hplr).trans x4
        have y5 := (b2.cell (p := ⟨pb, po + k * 6 + 5, none⟩) hplr).trans x5
        go_wp2_with fail
        refine hK.out _ _ ?hS4 (fun hHeld => ?re4)
        case hS4 => (try dsimp only); go_keep
        case re4 =>
        clear hK K
        try simp only [Act.put, List.setIfInBounds_toArray, List.set_cons_zero, List.set_cons_succ]
        refine wpAnyH_take (i := 5) (oi := { dst := some 21, op := _, type := _, pos := _, after := _, guard := _ }) (v := ?v5) rfl (by kernel_rfl) (by kernel_rfl) (by kernel_rfl) (fun _ _ _ h => h) (Or.inl ⟨by rfl, ?hy5⟩) (by assumption) ?re5
        case hy5 => (intro w hSw; (try dsimp only at hSw); go_simp; try (with_reducible rfl))
        try simp only [Act.put, List.setIfInBounds_toArray, List.set_cons_zero, List.set_cons_succ]
        refine wpAnyH_take (i := 6) (oi := { dst := some 22, op := _, type := _, pos := _, after := _, guard := _ }) (v := ?v6) rfl (by kernel_rfl) (by kernel_rfl) (by kernel_rfl) (fun _ _ _ h => h) (Or.inl ⟨by rfl, ?hy6⟩) (by assumption) ?re6
        case hy6 => (intro w hSw; (try dsimp only at hSw); go_simp; try (with_reducible rfl))
        try simp only [Act.put, List.setIfInBounds_toArray, List.set_cons_zero, List.set_cons_succ]
        refine wpAnyH_take (i := 7) (oi := { dst := some 23, op := _, type := _, pos := _, after := _, guard := _ }) (v := undef) rfl (by kernel_rfl) (by kernel_rfl) (by kernel_rfl) (fun _ _ _ h => h) (Or.inr ⟨by rfl, rfl⟩) (by assumption) ?re7
        try simp only [Act.put, List.setIfInBounds_toArray, List.set_cons_zero, List.set_cons_succ]
        refine wpAnyH_take (i := 8) (oi := { dst := some 24, op := _, type := _, pos := _, after := _, guard := _ }) (v := undef) rfl (by kernel_rfl) (by kernel_rfl) (by kernel_rfl) (fun _ _ _ h => h) (Or.inr ⟨by rfl, rfl⟩) (by assumption) ?re8
        try simp only [Act.put, List.setIfInBounds_toArray, List.set_cons_zero, List.set_cons_succ]
        refine wpAnyH_take (i := 9) (oi := { dst := some 25, op := _, type := _, pos := _, after := _, guard := _ }) (v := undef) rfl (by kernel_rfl) (by kernel_rfl) (by kernel_rfl) (fun _ _ _ h => h) (Or.inr ⟨by rfl, rfl⟩) (by assumption) ?re9
        try simp only [Act.put, List.setIfInBounds_toArray, List.set_cons_zero, List.set_cons_succ]
        refine wpAnyH_take (i := 10) (oi := { dst := some 26, op := _, type := _, pos := _, after := _, guard := _ }) (v := undef) rfl (by kernel_rfl) (by kernel_rfl) (by kernel_rfl) (fun _ _ _ h => h) (Or.inr ⟨by rfl, rfl⟩) (by assumption) ?re10
        try simp only [Act.put, List.setIfInBounds_toArray, List.set_cons_zero, List.set_cons_succ]
        refine wpAnyH_take (i := 11) (oi := { dst := some 27, op := _, type := _, pos := _, after := _, guard := _ }) (v := undef) rfl (by kernel_rfl) (by kernel_rfl) (by kernel_rfl) (fun _ _ _ h => h) (Or.inr ⟨by rfl, rfl⟩) (by assumption) ?re11
        try simp only [Act.put, List.setIfInBounds_toArray, List.set_cons_zero, List.set_cons_succ]
        refine wpAnyH_take (i := 12) (oi := { dst := some 28, op := _, type := _, pos := _, after := _, guard := _ }) (v := undef) rfl (by kernel_rfl) (by kernel_rfl) (by kernel_rfl) (fun _ _ _ h => h) (Or.inr ⟨by rfl, rfl⟩) (by assumption) ?re12
        try simp only [Act.put, List.setIfInBounds_toArray, List.set_cons_zero, List.set_cons_succ]
        refine wpAnyH_take (i := 13) (oi := { dst := some 29, op := _, type := _, pos := _, after := _, guard := _ }) (v := undef) rfl (by kernel_rfl) (by kernel_rfl) (by kernel_rfl) (fun _ _ _ h => h) (Or.inr ⟨by rfl, rfl⟩) (by assumption) ?re13
        try simp only [Act.put, List.setIfInBounds_toArray, List.set_cons_zero, List.set_cons_succ]
        refine wpAnyH_take (i := 14) (oi := { dst := some 30, op := _, type := _, pos := _, after := _, guard := _ }) (v := undef) rfl (by kernel_rfl) (by kernel_rfl) (by kernel_rfl) (fun _ _ _ h => h) (Or.inr ⟨by rfl, rfl⟩) (by assumption) ?re14
        try simp only [Act.put, List.setIfInBounds_toArray, List.set_cons_zero, List.set_cons_succ]
        refine wpAnyH_take (i := 15) (oi := { dst := some 31, op := _, type := _, pos := _, after := _, guard := _ }) (v := undef) rfl (by kernel_rfl) (by kernel_rfl) (by kernel_rfl) (fun _ _ _ h => h) (Or.inr ⟨by rfl, rfl⟩) (by assumption) ?re15
        try simp only [Act.put, List.setIfInBounds_toArray, List.set_cons_zero, List.set_cons_succ]
        refine wpAnyH_take (i := 16) (oi := { dst := some 32, op := _, type := _, pos := _, after := _, guard := _ }) (v := undef) rfl (by kernel_rfl) (by kernel_rfl) (by kernel_rfl) (fun _ _ _ h => h) (Or.inr ⟨by rfl, rfl⟩) (by assumption) ?re16
        try simp only [Act.put, List.setIfInBounds_toArray, List.set_cons_zero, List.set_cons_succ]
        refine wpAnyH_take (i := 17) (oi := { dst := some 33, op := _, type := _, pos := _, after := _, guard := _ }) (v := ?v17) rfl (by kernel_rfl) (by kernel_rfl) (by kernel_rfl) (fun _ _ _ h => h) (Or.inl ⟨by rfl, ?hy17⟩) (by assumption) ?re17
        case hy17 => (intro w hSw; (try dsimp only at hSw); go_simp; try (with_reducible rfl))
        try simp only [Act.put, List.setIfInBounds_toArray, List.set_cons_zero, List.set_cons_succ]
        refine wpAnyH_done (by kernel_rfl) ?_ _
        all_goals
          have B2 := HX.out.trans (b2.mono HX.out.size)
          go_wp2_with fail
          go_ret
          exact ⟨rfl, B2⟩
      | true =>
        by_cases hr0 : 0 ≤ r
        · obtain ⟨i, rfl⟩ := Int.eq_ofNat_of_zero_le hr0
          obtain rfl : b = false := by cases b with
            | false => rfl
            | true =>
              refine absurd (HB.out.1 rfl) ?_
              rcases HR.out with ⟨h, _⟩ | ⟨m, h1, h2, h3, _⟩
              · omega
              · exact tableP_no2 h1 hlt (by rw [HD.out]; exact h3)
          go_wp2_with fail
          go_region_held3 (fun w' => w'.cell? ⟨pb, po + k * 6, none⟩ = some (.string nm) ∧ w'.cell? ⟨pb, po + k * 6 + 1, none⟩ = some (.int .i64 kd) ∧ w'.cell? ⟨pb, po + k * 6 + 2, none⟩ = some (.int .i64 pl) ∧ w'.cell? ⟨pb, po + k * 6 + 3, none⟩ = some (.int .i64 sz) ∧ w'.cell? ⟨pb, po + k * 6 + 4, none⟩ = some (.int .i64 fr) ∧ w'.cell? ⟨pb, po + k * 6 + 5, none⟩ = some (.int .i64 ow)) (go_keep) (first | (go_at_call 28; refine (RC.out _).mono ?_; rintro e w2 ⟨rfl, hb2⟩; have b2 : Below wr.heap.size wr w2 := (by first | exact (Below.refl wr.heap.size wr).drew.trans hb2 | exact hb2); have y0 := (b2.cell (p := ⟨pb, po + k * 6, none⟩) hplr).trans x0; have y1 := (b2.cell (p := ⟨pb, po + k * 6 + 1, none⟩) hplr).trans x1; have y2 := (b2.cell (p := ⟨pb, po + k * 6 + 2, none⟩) hplr).trans x2; have y3 := (b2.cell (p := ⟨pb, po + k * 6 + 3, none⟩) hplr).trans x3; have y4 := (b2.cell (p := ⟨pb, po + k * 6 + 4, none⟩) hplr).trans x4; have y5 := (b2.cell (p := ⟨pb, po + k * 6 + 5, none⟩) hplr).trans x5) | (go_at_call 29; refine (FC.out _ b2).mono ?_; rintro e w3 ⟨rfl, hb3⟩; have b3 := b2.trans (hb3.mono b2.size); have z0 := (b3.cell (p := ⟨pb, po + k * 6, none⟩) hplr).trans x0; have z1 := (b3.cell (p := ⟨pb, po + k * 6 + 1, none⟩) hplr).trans x1; have z2 := (b3.cell (p := ⟨pb, po + k * 6 + 2, none⟩) hplr).trans x2; have z3 := (b3.cell (p := ⟨pb, po + k * 6 + 3, none⟩) hplr).trans x3; have z4 := (b3.cell (p := ⟨pb, po + k * 6 + 4, none⟩) hplr).trans x4; have z5 := (b3.cell (p := ⟨pb, po + k * 6 + 5, none⟩) hplr).trans x5))
          all_goals
            have B2 := HX.out.trans (b3.mono HX.out.size)
            go_wp2_with fail
            go_ret
            exact ⟨rfl, B2⟩
        · have hr1 : r = -1 := by
            rcases HR.out with ⟨h, _⟩ | ⟨m, h1, h2, h3, _⟩
            · exact h
            · omega
          subst hr1
          have HNX : Hid ((∀ j, j < k + 1 → entB (S j) = true) ∧ ∀ i j, i < j → j < k + 1 → (S i).nm ≠ (S j).nm) := ⟨fun j hj => by
            rcases Nat.lt_succ_iff_lt_or_eq.1 hj with h' | rfl
            · exact HALL.out.1 j h'
            · rw [HD.out, HQ.out], fun i j hij hj => by
            rcases Nat.lt_succ_iff_lt_or_eq.1 hj with h' | rfl
            · exact HALL.out.2 i j hij h'
            · rcases HR.out with ⟨_, h⟩ | ⟨m, _, h2, _⟩
              · rw [HD.out]; exact h i hij
              · omega⟩
          go_wp2_with fail
          go_region_held3 (fun w' => w'.cell? ⟨pb, po + k * 6, none⟩ = some (.string nm) ∧ w'.cell? ⟨pb, po + k * 6 + 1, none⟩ = some (.int .i64 kd) ∧ w'.cell? ⟨pb, po + k * 6 + 2, none⟩ = some (.int .i64 pl) ∧ w'.cell? ⟨pb, po + k * 6 + 3, none⟩ = some (.int .i64 sz) ∧ w'.cell? ⟨pb, po + k * 6 + 4, none⟩ = some (.int .i64 fr) ∧ w'.cell? ⟨pb, po + k * 6 + 5, none⟩ = some (.int .i64 ow)) (go_keep) (first | (go_at_call 28; refine (RC.out _).mono ?_; rintro e w2 ⟨rfl, hb2⟩; have b2 : Below wr.heap.size wr w2 := (by first | exact (Below.refl wr.heap.size wr).drew.trans hb2 | exact hb2); have y0 := (b2.cell (p := ⟨pb, po + k * 6, none⟩) hplr).trans x0; have y1 := (b2.cell (p := ⟨pb, po + k * 6 + 1, none⟩) hplr).trans x1; have y2 := (b2.cell (p := ⟨pb, po + k * 6 + 2, none⟩) hplr).trans x2; have y3 := (b2.cell (p := ⟨pb, po + k * 6 + 3, none⟩) hplr).trans x3; have y4 := (b2.cell (p := ⟨pb, po + k * 6 + 4, none⟩) hplr).trans x4; have y5 := (b2.cell (p := ⟨pb, po + k * 6 + 5, none⟩) hplr).trans x5) | (go_at_call 29; refine (FC.out _ b2).mono ?_; rintro e w3 ⟨rfl, hb3⟩; have b3 := b2.trans (hb3.mono b2.size); have z0 := (b3.cell (p := ⟨pb, po + k * 6, none⟩) hplr).trans x0; have z1 := (b3.cell (p := ⟨pb, po + k * 6 + 1, none⟩) hplr).trans x1; have z2 := (b3.cell (p := ⟨pb, po + k * 6 + 2, none⟩) hplr).trans x2; have z3 := (b3.cell (p := ⟨pb, po + k * 6 + 3, none⟩) hplr).trans x3; have z4 := (b3.cell (p := ⟨pb, po + k * 6 + 4, none⟩) hplr).trans x4; have z5 := (b3.cell (p := ⟨pb, po + k * 6 + 5, none⟩) hplr).trans x5))
          all_goals
            have B2 := HX.out.trans (b3.mono HX.out.size)
            go_wp2_with fail
            go_roundw
            case rel =>
              first
                | exact ⟨k + 1, by omega, by go_num, HNX, B2⟩
                | ((repeat apply Exists.intro); exact ⟨⟨k + 1, by omega, by go_num, HNX, B2⟩, rfl⟩)
            case measure => simp [intOf]; omega
    · obtain rfl : k = n := by omega
      obtain rfl : b = true := HB.out.2 ⟨by omega, HALL.out⟩
      clear hp
      go_wp2_with fail
      go_ret
      exact ⟨rfl, hB⟩
end Go.Proofs.Ytelogjpjglohoaa
