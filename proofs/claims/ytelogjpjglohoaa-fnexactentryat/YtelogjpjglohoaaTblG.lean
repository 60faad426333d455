/- Tables: EntryAt of both (its first half after TblF's). -/
import Derived.Test.YtelogjpjglohoaaTblF
import Derived.Test.YtelogjpjglohoaaNumS
namespace Go.Proofs.Ytelogjpjglohoaa
open Go Go.RowKit Go.Maps
set_option linter.unusedVariables false

set_option maxRecDepth 100000 in
set_option maxHeartbeats 2000000 in
theorem lookS (m : Int) (n : Nat) (S : Nat → EntD) (M : Nat) (w : World) (hs : (Lit.int .i64 m).wf = true) (hown : w.ownsMap Try.prog 68 (plainElem (H := Unit) Try.prog 3) M n (mapR (fun i => klS (S i)) n n)) (x y : Int) (hl : LookIs n (fun i => klS (S i)) (.string (keyBytes [.int .i64 1, .int .i64 m])) x y) :
    Calls Try.prog 57 #[.map (some M), .agg #[.int .i64 1, .int .i64 m]] w fun e w' => e = .returned (.tuple #[.int .i64 x, .int .i64 y]) ∧ Below w.heap.size w w' := by
  have hkey : keyOf Try.prog 68 (.agg #[.int .i64 1, .int .i64 m]) = some (.string (keyBytes [.int .i64 1, .int .i64 m])) := keyS0 1 m (by decide) hs
  have hz : ∀ w : World, (zeroValue 3).run Try.prog w = .ok (.int .i64 0) w := fun w => by kernel_rfl
  have hK : ∀ i, i < n → WideAt.IsKeyLit ((fun i => klS (S i)) i) := fun i _ => klS_key _
  obtain ⟨b, hb⟩ : ∃ b, has (mapR (H := Unit) (fun i => klS (S i)) n n) (.string (keyBytes [.int .i64 1, .int .i64 m])) = b := ⟨_, rfl⟩
  have key : (mapR (H := Unit) (fun i => klS (S i)) n n).atKey (.string (keyBytes [.int .i64 1, .int .i64 m])) (.lit (.int .i64 0)) = .lit (.int .i64 x) ∧ y = (if b = true then 0 else 23) := by
    rcases hl with ⟨rfl, rfl, h⟩ | ⟨j, hj, rfl, rfl, h1, h2⟩
    · have hno := mapR_no (H := Unit) hK (.string (keyBytes [.int .i64 1, .int .i64 m])) n (Nat.le_refl _) (fun i _ hi => h i hi)
      rw [hb] at hno
      subst hno
      exact ⟨atKey_of_not_has hb _, by simp⟩
    · have hy := mapR_yes (H := Unit) hK (.string (keyBytes [.int .i64 1, .int .i64 m])) (.lit (.int .i64 0)) j hj h1 n (Nat.le_refl _) (by omega) (fun i _ hi => h2 i hi)
      rw [hb] at hy
      exact ⟨hy.2, by rw [hy.1]; simp⟩
  obtain ⟨D, hD⟩ : ∃ D, mapR (H := Unit) (fun i => klS (S i)) n n = D := ⟨_, rfl⟩
  rw [hD] at hown hb key
  obtain ⟨k1, rfl⟩ := key
  clear hl hD hK
  have bA := grown1' w (.cells #[.int .i64 1, .int .i64 m] 68)
  have lA := Lies.new w #[.int .i64 1, .int .i64 m] 68
  have hownA := hown.alloc (.cells #[.int .i64 1, .int .i64 m] 68)
  clear hown
  go_enter Try.func57, Try.ntmps57
  have k0 := lA.cell (j := 0) rfl
  have k1' := lA.cell (j := 1) rfl
  go_wp2_with (first
    | (at_lookup; refine wpList_lookup_own_ok_int _ rfl _ _ 85 rfl 68 3 .i64 keyLawS Try.underlying85 Try.underlying3 (hz _) M n D rfl hownA _ _ rfl hkey ?_; intro cc hat hwc; rw [k1] at hat; rw [hb])
    | fail)
  obtain rfl : x = cc := by injection hat with h; injection h
  clear hat hwc hownA hkey
  cases b
  all_goals
    refine (unlessC _ 23 _).mono ?_
    rintro e2 w2 ⟨rfl, rfl⟩
    go_wp2_with fail
    go_ret2
    exact ⟨rfl, bA⟩

set_option maxRecDepth 100000 in
set_option maxHeartbeats 2000000 in
theorem byS (m : Int) (p : Option Addr) (n c : Nat) (S : Nat → EntD) (w : World) (hs : (Lit.int .i64 m).wf = true) (hn : n ≤ 1048576) (hw : ∀ i, i < n → (S i).wf) (hp : EntsAt w p n S) (b : Bool) (hb : b = true ↔ TableP n S) (x y : Int) (hl : EntIs n b (fun i => klS (S i)) (.string (keyBytes [.int .i64 1, .int .i64 m])) x y) :
    Calls Try.prog 37 #[.slice p n c, .func (.func 38) #[] #[], .agg #[.int .i64 1, .int .i64 m]] w fun e w' => e = .returned (.tuple #[.int .i64 x, .int .i64 y]) ∧ Below w.heap.size w w' := by
  have bA := grown1' w (.cells #[.int .i64 1, .int .i64 m] 68)
  have lA := Lies.new w #[.int .i64 1, .int .i64 m] 68
  have C := chkC p n c S _ hn hw (hp.below bA) b hb
  have HP : Hid (EntsAt (w.alloc (.cells #[.int .i64 1, .int .i64 m] 68)) p n S) := hp.below bA
  have HW : Hid (∀ i, i < n → (S i).wf) := hw
  obtain ⟨q, hq⟩ : ∃ q, chkT n b = q := ⟨_, rfl⟩
  unfold EntIs at hl
  rw [hq] at C hl
  clear hp hw hb hq
  go_enter Try.func37, Try.ntmps37
  go_wp2_with fail
  obtain ⟨W, hW⟩ : ∃ W, w.alloc (.cells #[.int .i64 1, .int .i64 m] 68) = W := ⟨_, rfl⟩
  rw [hW] at bA lA C HP ⊢
  clear hW
  refine C.mono ?_
  rintro e1 w1 ⟨rfl, hb1⟩
  have l1 := lA.below hb1 lA.lt
  have B1 := bA.trans (hb1.mono bA.size)
  clear C
  rcases hl with ⟨h0, rfl, rfl⟩ | ⟨rfl, hl⟩
  · have hq0 : (y != 0) = true := by simpa using h0
    clear HP HW hb1
    go_wp2_with fail
    go_ret2
    exact ⟨rfl, B1⟩
  · have HL : Hid (LookIs n _ _ x y) := hl
    have HN : Hid (∀ W' : World, Below w1.heap.size w1 W' → Calls Try.prog 58 #[.slice p n c, .func (.func 38) #[] #[]] W' _) := fun W' h => sptC p n c S hn W' HW.out ((HP.out.below hb1).below h)
    have k0 : w1.cell? ⟨w.heap.size, 0, none⟩ = some (.int .i64 1) := l1.cell (j := 0) rfl
    have k1 : w1.cell? ⟨w.heap.size, 1, none⟩ = some (.int .i64 m) := l1.cell (j := 1) rfl
    have hl1 := l1.lt
    clear hl HP HW hb1 l1 lA
    go_wp2_with fail
    go_region_held3 (fun w' => w'.cell? ⟨w.heap.size, 0, none⟩ = some (.int .i64 1) ∧ w'.cell? ⟨w.heap.size, 1, none⟩ = some (.int .i64 m)) (go_keep) (first | (go_at_call 58; refine (HN.out _ (by first | exact (Below.refl w1.heap.size w1).drew | exact Below.refl w1.heap.size w1)).mono ?_; rintro e w2 ⟨rfl, hown, hb2⟩; have b2 : Below w1.heap.size w1 w2 := (by first | exact (Below.refl w1.heap.size w1).drew.trans hb2 | exact hb2); have m0 := (b2.cell (p := ⟨w.heap.size, 0, none⟩) hl1).trans k0; have m1 := (b2.cell (p := ⟨w.heap.size, 1, none⟩) hl1).trans k1) | (go_at_call 57; refine (lookS m n S _ w2 hs hown x y HL.out).mono ?_; rintro e w3 ⟨rfl, hb3⟩; have b3 := b2.trans (hb3.mono b2.size); have o0 := (b3.cell (p := ⟨w.heap.size, 0, none⟩) hl1).trans k0; have o1 := (b3.cell (p := ⟨w.heap.size, 1, none⟩) hl1).trans k1))
    all_goals
      have B3 := B1.trans (b3.mono B1.size)
      go_wp2_with fail
      go_ret2
      exact ⟨rfl, B3⟩

theorem at_exE (n : Nat) (b : Bool) (S : Nat → EntD) (m : Int) : ∃ x y, EntIs n b (fun i => klS (S i)) (.string (keyBytes [.int .i64 1, .int .i64 m])) x y := ent_ex _ _ _ _
set_option maxHeartbeats 2000000 in
theorem atImpl (m : Int) (p : Option Addr) (n c : Nat) (S : Nat → EntD) (w : World) (hs : (Lit.int .i64 m).wf = true) (hn : n ≤ 1048576) (hw : ∀ i, i < n → (S i).wf) (hp : EntsAt w p n S) (b : Bool) (hb : b = true ↔ TableP n S) (x y : Int) (hl : EntIs n b (fun i => klS (S i)) (.string (keyBytes [.int .i64 1, .int .i64 m])) x y) :
    Calls Try.prog 19 #[.slice p n c, .int .i64 m] w fun e w' => e = .returned (.tuple #[.int .i64 x, .int .i64 y]) ∧ Below w.heap.size w w' := by
  have C := byS m p n c S w hs hn hw hp b hb x y hl
  clear hp hw hb hl
  go_enter Try.func19, Try.ntmps19
  go_wp2_with fail
  refine C.mono ?_
  rintro e1 w1 ⟨rfl, hb1⟩
  clear C
  go_wp2_with fail
  go_ret2
  exact ⟨rfl, hb1⟩

/-- The first function that begins at m; -1 if there is none. -/
def FstA (n : Nat) (S : Nat → EntD) (m r : Int) : Prop := (r = -1 ∧ ∀ i, i < n → ¬ ((S i).kd = 1 ∧ (S i).pl = m)) ∨ ∃ k : Nat, k < n ∧ r = (k : Int) ∧ ((S k).kd = 1 ∧ (S k).pl = m) ∧ ∀ i, i < k → ¬ ((S i).kd = 1 ∧ (S i).pl = m)
set_option maxRecDepth 100000 in
set_option maxHeartbeats 4000000 in
theorem atSpec (m : Int) (p : Option Addr) (n c : Nat) (S : Nat → EntD) (w : World) (hn : n ≤ 1048576) (hp : EntsAt w p n S) (r : Int) (hr : FstA n S m r) :
    Calls Try.prog 36 #[.slice p n c, .int .i64 m] w fun e w' => e = .returned (.int .i64 r) ∧ Below w.heap.size w w' := by
  have HR : Hid (FstA n S m r) := hr
  clear hr
  go_enter Try.func36, Try.ntmps36
  go_wp2_with fail
  go_loopw [5] (fun i wr => ∃ k : Nat, k ≤ n ∧ i = .int .i64 k ∧ Hid (∀ j, j < k → ¬ ((S j).kd = 1 ∧ (S j).pl = m)) ∧ Below w.heap.size w wr) (fun i _ => n - (intOf i).toNat)
  case atStart => exact ⟨0, Nat.zero_le _, rfl, fun j hj => absurd hj (Nat.not_lt_zero _), Below.refl _ _⟩
  case round =>
    obtain ⟨k, hk, rfl, HALL, hB⟩ := hrel
    by_cases hlt : k < n
    · rcases hp with hp | ⟨pb, po, rfl, hpl, hp⟩
      · omega
      obtain ⟨_, x1, x2, _, _, _⟩ := (hp.below hB hpl).ent hlt
      obtain ⟨kd, h1⟩ : ∃ s, (S k).kd = s := ⟨_, rfl⟩
      obtain ⟨pl, h2⟩ : ∃ s, (S k).pl = s := ⟨_, rfl⟩
      rw [h1] at x1
      rw [h2] at x2
      have H1 : Hid ((S k).kd = kd) := h1
      have H2 : Hid ((S k).pl = pl) := h2
      clear hp h1 h2
      by_cases he : kd = 1 ∧ pl = m
      · obtain ⟨rfl, rfl⟩ := he
        obtain rfl : (k : Int) = r := by
          rcases HR.out with ⟨_, h⟩ | ⟨q, h1, rfl, h2, h3⟩
          · exact absurd ⟨H1.out, H2.out⟩ (h k hlt)
          · have : k = q := by
              rcases Nat.lt_trichotomy k q with h | h | h
              · exact absurd ⟨H1.out, H2.out⟩ (h3 k h)
              · exact h
              · exact absurd h2 (HALL.out q h)
            rw [this]
        go_wp2_with fail
        go_ret
        exact ⟨rfl, hB⟩
      · have HNX : Hid (∀ j, j < k + 1 → ¬ ((S j).kd = 1 ∧ (S j).pl = m)) := fun j hj => by
          rcases Nat.lt_succ_iff_lt_or_eq.1 hj with h' | rfl
          · exact HALL.out j h'
          · rw [H1.out, H2.out]; exact he
        have key : (¬ kd = 1) ∨ (kd = 1 ∧ ¬ pl = m) := by
          by_cases h : kd = 1
          · exact .inr ⟨h, fun h2 => he ⟨h, h2⟩⟩
          · exact .inl h
        clear he
        rcases key with h | ⟨rfl, h⟩
        · have hd : (kd == 1) = false := by simpa using h
          go_wp2_with fail
          go_roundw
          case rel =>
            first
              | exact ⟨k + 1, by omega, by go_num, HNX, hB⟩
              | ((repeat apply Exists.intro); exact ⟨⟨k + 1, by omega, by go_num, HNX, hB⟩, rfl⟩)
          case measure => simp [intOf]; omega
        · have hd : (pl == m) = false := by simpa using h
          go_wp2_with fail
          go_roundw
          case rel =>
            first
              | exact ⟨k + 1, by omega, by go_num, HNX, hB⟩
              | ((repeat apply Exists.intro); exact ⟨⟨k + 1, by omega, by go_num, HNX, hB⟩, rfl⟩)
          case measure => simp [intOf]; omega
    · obtain rfl : k = n := by omega
      obtain rfl : (-1 : Int) = r := by
        rcases HR.out with ⟨h, _⟩ | ⟨q, h1, _, h2, _⟩
        · exact h.symm
        · exact absurd h2 (HALL.out q h1)
      clear hp
      go_wp2_with fail
      go_ret
      exact ⟨rfl, hB⟩
theorem fstA_of {n : Nat} {S : Nat → EntD} {m x y : Int} (hm : (Lit.int .i64 m).wf = true) (hw : ∀ i, i < n → (S i).wf) (h : LookIs n (fun i => klS (S i)) (.string (keyBytes [.int .i64 1, .int .i64 m])) x y) : ∃ r, FstA n S m r ∧ ((r < 0 ∧ x = 0 ∧ y = 23) ∨ (0 ≤ r ∧ x = r ∧ y = 0)) := by
  rcases h with ⟨rfl, rfl, h⟩ | ⟨j, hj, rfl, rfl, h1, h2⟩
  · exact ⟨-1, .inl ⟨rfl, fun i hi e => h i hi ((klS_iff _ (hw i hi) m hm).2 e)⟩, .inl ⟨by omega, rfl, rfl⟩⟩
  · exact ⟨j, .inr ⟨j, hj, rfl, (klS_iff _ (hw j hj) m hm).1 h1, fun i hi e => h2 i hi ((klS_iff _ (hw i (by omega)) m hm).2 e)⟩, .inr ⟨by omega, rfl, rfl⟩⟩
set_option maxRecDepth 100000 in
set_option maxHeartbeats 2000000 in
theorem atSpecE (m : Int) (p : Option Addr) (n c : Nat) (S : Nat → EntD) (w : World) (hm : (Lit.int .i64 m).wf = true) (hn : n ≤ 1048576) (hc : n ≤ c) (hw : ∀ i, i < n → (S i).wf) (hp : EntsAt w p n S) (b : Bool) (hb : b = true ↔ TableP n S) (x y : Int) (hl : EntIs n b (fun i => klS (S i)) (.string (keyBytes [.int .i64 1, .int .i64 m])) x y) :
    Calls Try.prog 18 #[.slice p n c, .int .i64 m] w fun e w' => e = .returned (.tuple #[.int .i64 x, .int .i64 y]) ∧ Below w.heap.size w w' := by
  by_cases h4 : 4096 < n
  · obtain ⟨rfl, rfl⟩ : x = 0 ∧ y = 2 := by
      rcases hl with ⟨_, h1, h2⟩ | ⟨h1, _⟩
      · exact ⟨h1, h2.trans (chkT_long h4)⟩
      · rw [chkT_long h4] at h1; cases h1
    clear hp hw hb hl
    go_enter Try.func18, Try.ntmps18
    go_wp2_with fail
    go_ret2
    exact ⟨rfl, Below.refl _ _⟩
  have T := tblSpec p n c S w hn hc hw hp b hb
  have HP : Hid (EntsAt w p n S) := hp
  have HW : Hid (∀ i, i < n → (S i).wf) := hw
  clear hp hw hb
  go_enter Try.func18, Try.ntmps18
  go_wp2_with fail
  refine T.mono ?_
  rintro e1 w1 ⟨rfl, hb1⟩
  clear T
  cases b with
  | false =>
    obtain ⟨rfl, rfl⟩ : x = 0 ∧ y = 1 := by
      rcases hl with ⟨_, h1, h2⟩ | ⟨h1, _⟩
      · exact ⟨h1, h2.trans (chkT_no h4)⟩
      · rw [chkT_no h4] at h1; cases h1
    clear HP hl HW
    go_wp2_with fail
    go_ret2
    exact ⟨rfl, hb1⟩
  | true =>
    have hl2 : LookIs n (fun i => klS (S i)) (.string (keyBytes [.int .i64 1, .int .i64 m])) x y := by
      rcases hl with ⟨h1, _⟩ | ⟨_, h1⟩
      · exact absurd (chkT_yes h4) h1
      · exact h1
    obtain ⟨r, hr, hx⟩ := fstA_of hm HW.out hl2
    have F := atSpec m p n c S w1 hn (HP.out.below hb1) r hr
    clear hl hl2 hr HP HW
    go_wp2_with fail
    refine F.mono ?_
    rintro e2 w2 ⟨rfl, hb2⟩
    have B2 := hb1.trans (hb2.mono hb1.size)
    clear F hb1 hb2
    rcases hx with ⟨h0, rfl, rfl⟩ | ⟨h0, rfl, rfl⟩
    all_goals
      go_wp2_with fail
      go_ret2
      exact ⟨rfl, B2⟩
end Go.Proofs.Ytelogjpjglohoaa
