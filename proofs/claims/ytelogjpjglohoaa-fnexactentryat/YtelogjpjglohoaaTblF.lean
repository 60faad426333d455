/- Tables: FindEntry of both. -/
import Derived.Test.YtelogjpjglohoaaTblJ
namespace Go.Proofs.Ytelogjpjglohoaa
open Go Go.RowKit Go.Maps
set_option linter.unusedVariables false

/-- The code of what is no table. -/
def chkT (n : Nat) (b : Bool) : Int := if 4096 < n then 2 else if b = true then 0 else 1
theorem chkT_long {n : Nat} {b : Bool} (h : 4096 < n) : chkT n b = 2 := if_pos h
theorem chkT_no {n : Nat} (h : ¬ 4096 < n) : chkT n false = 1 := by unfold chkT; rw [if_neg h]; simp
theorem chkT_yes {n : Nat} (h : ¬ 4096 < n) : chkT n true = 0 := by unfold chkT; rw [if_neg h]; simp
theorem unlessC (b : Bool) (c : Int) (w : World) :
    Calls Try.prog 65 #[.bool b, .int .i64 c] w fun e w' => e = .returned (.int .i64 (if b = true then 0 else c)) ∧ w' = w := by
  cases b
  all_goals
    go_enter Try.func65, Try.ntmps65
    go_wp2
    go_ret
    exact ⟨rfl, rfl⟩
set_option maxHeartbeats 2000000 in
theorem chkC (p : Option Addr) (n c : Nat) (S : Nat → EntD) (w : World) (hn : n ≤ 1048576) (hw : ∀ i, i < n → (S i).wf) (hp : EntsAt w p n S) (b : Bool) (hb : b = true ↔ TableP n S) :
    Calls Try.prog 55 #[.slice p n c] w fun e w' => e = .returned (.int .i64 (chkT n b)) ∧ Below w.heap.size w w' := by
  by_cases h4 : 4096 < n
  · rw [chkT_long h4]
    clear hb hp hw
    go_enter Try.func55, Try.ntmps55
    go_wp2_with fail
    go_ret
    exact ⟨rfl, Below.refl _ _⟩
  have T := tblImpl p n c S w hn hw hp b hb
  have e : (if b = true then 0 else 1 : Int) = chkT n b := by unfold chkT; rw [if_neg h4]
  clear hb hp hw
  go_enter Try.func55, Try.ntmps55
  go_wp2_with fail
  refine T.mono ?_
  rintro e1 w1 ⟨rfl, hb1⟩
  go_wp2_with fail
  refine (unlessC b 1 w1).mono ?_
  rintro e2 w2 ⟨rfl, rfl⟩
  rw [e]
  go_wp2_with fail
  go_ret
  exact ⟨rfl, hb1⟩

/-- What a look-up by a key answers. -/
def LookIs (n : Nat) (K : Nat → Lit) (k : Lit) (x y : Int) : Prop := (x = 0 ∧ y = 23 ∧ ∀ i, i < n → K i ≠ k) ∨ ∃ j : Nat, j < n ∧ x = (j : Int) ∧ y = 0 ∧ K j = k ∧ ∀ i, i < j → K i ≠ k
set_option maxRecDepth 100000 in
set_option maxHeartbeats 2000000 in
theorem lookC (nm : ByteArray) (n : Nat) (S : Nat → EntD) (M : Nat) (w : World) (hs : nm.size ≤ maxLen) (hown : w.ownsMap Try.prog 9 (plainElem (H := Unit) Try.prog 3) M n (mapR (fun i => klC (S i)) n n)) (x y : Int) (hl : LookIs n (fun i => klC (S i)) (.string nm.data.toList) x y) :
    Calls Try.prog 56 #[.map (some M), .string nm] w fun e w' => e = .returned (.tuple #[.int .i64 x, .int .i64 y]) ∧ w' = w := by
  have hkey : keyOf Try.prog 9 (.string nm) = some (.string nm.data.toList) := WideMaps.keyOf_string_mk Try.underlying9 hs
  have hz : ∀ w : World, (zeroValue 3).run Try.prog w = .ok (.int .i64 0) w := fun w => by kernel_rfl
  have hK : ∀ i, i < n → WideAt.IsKeyLit ((fun i => klC (S i)) i) := fun i _ => klC_key _
  obtain ⟨b, hb⟩ : ∃ b, has (mapR (H := Unit) (fun i => klC (S i)) n n) (.string nm.data.toList) = b := ⟨_, rfl⟩
  have key : (mapR (H := Unit) (fun i => klC (S i)) n n).atKey (.string nm.data.toList) (.lit (.int .i64 0)) = .lit (.int .i64 x) ∧ y = (if b = true then 0 else 23) := by
    rcases hl with ⟨rfl, rfl, h⟩ | ⟨j, hj, rfl, rfl, h1, h2⟩
    · have hno := mapR_no (H := Unit) hK (.string nm.data.toList) n (Nat.le_refl _) (fun i _ hi => h i hi)
      rw [hb] at hno
      subst hno
      exact ⟨atKey_of_not_has hb _, by simp⟩
    · have hy := mapR_yes (H := Unit) hK (.string nm.data.toList) (.lit (.int .i64 0)) j hj h1 n (Nat.le_refl _) (by omega) (fun i _ hi => h2 i hi)
      rw [hb] at hy
      exact ⟨hy.2, by rw [hy.1]; simp⟩
  obtain ⟨D, hD⟩ : ∃ D, mapR (H := Unit) (fun i => klC (S i)) n n = D := ⟨_, rfl⟩
  rw [hD] at hown hb key
  obtain ⟨k1, rfl⟩ := key
  clear hl hD hK
  go_enter Try.func56, Try.ntmps56
  go_wp2_with (first
    | (at_lookup; refine wpList_lookup_own_ok_int _ rfl _ _ 59 rfl 9 3 .i64 keyLawC Try.underlying59 Try.underlying3 (hz _) M n D rfl hown _ _ rfl hkey ?_; intro cc hat hwc; rw [k1] at hat; rw [hb])
    | fail)
  obtain rfl : x = cc := by injection hat with h; injection h
  clear hat hwc hown hkey
  cases b
  all_goals
    refine (unlessC _ 23 w).mono ?_
    rintro e2 w2 ⟨rfl, rfl⟩
    go_wp2_with fail
    go_ret2
    exact ⟨rfl, rfl⟩

/-- What a look-up in a table answers. -/
def EntIs (n : Nat) (b : Bool) (K : Nat → Lit) (k : Lit) (x y : Int) : Prop := (chkT n b ≠ 0 ∧ x = 0 ∧ y = chkT n b) ∨ (chkT n b = 0 ∧ LookIs n K k x y)
set_option maxRecDepth 100000 in
set_option maxHeartbeats 2000000 in
theorem byC (nm : ByteArray) (p : Option Addr) (n c : Nat) (S : Nat → EntD) (w : World) (hs : nm.size ≤ maxLen) (hn : n ≤ 1048576) (hw : ∀ i, i < n → (S i).wf) (hp : EntsAt w p n S) (b : Bool) (hb : b = true ↔ TableP n S) (x y : Int) (hl : EntIs n b (fun i => klC (S i)) (.string nm.data.toList) x y) :
    Calls Try.prog 35 #[.slice p n c, .func (.func 33) #[] #[], .string nm] w fun e w' => e = .returned (.tuple #[.int .i64 x, .int .i64 y]) ∧ Below w.heap.size w w' := by
  have C := chkC p n c S w hn hw hp b hb
  have HP : Hid (EntsAt w p n S) := hp
  have HW : Hid (∀ i, i < n → (S i).wf) := hw
  obtain ⟨q, hq⟩ : ∃ q, chkT n b = q := ⟨_, rfl⟩
  unfold EntIs at hl
  rw [hq] at C hl
  clear hp hw hb hq
  go_enter Try.func35, Try.ntmps35
  go_wp2_with fail
  refine C.mono ?_
  rintro e1 w1 ⟨rfl, hb1⟩
  clear C
  rcases hl with ⟨h0, rfl, rfl⟩ | ⟨rfl, hl⟩
  · have hq0 : (y != 0) = true := by simpa using h0
    clear HP HW
    go_wp2_with fail
    go_ret2
    exact ⟨rfl, hb1⟩
  · have HL : Hid (LookIs n _ _ x y) := hl
    have NC := numC p n c S hn w1 HW.out (HP.out.below hb1)
    clear hl HP HW
    go_wp2_with fail
    refine NC.mono ?_
    rintro e2 w2 ⟨rfl, hown, hb2⟩
    have B2 := hb1.trans (hb2.mono hb1.size)
    clear NC hb1 hb2
    have LC := lookC nm n S _ w2 hs hown x y HL.out
    clear hown
    go_wp2_with fail
    refine LC.mono ?_
    rintro e3 w3 ⟨rfl, rfl⟩
    clear LC
    go_wp2_with fail
    go_ret2
    exact ⟨rfl, B2⟩
def FindIs (n : Nat) (b : Bool) (S : Nat → EntD) (nm : ByteArray) (x y : Int) : Prop := (65536 < nm.size ∧ x = 0 ∧ y = 2) ∨ (nm.size ≤ 65536 ∧ EntIs n b (fun i => klC (S i)) (.string nm.data.toList) x y)
set_option maxRecDepth 100000 in
set_option maxHeartbeats 2000000 in
theorem findImpl (nm : ByteArray) (p : Option Addr) (n c : Nat) (S : Nat → EntD) (w : World) (hs : nm.size ≤ 1048576) (hn : n ≤ 1048576) (hw : ∀ i, i < n → (S i).wf) (hp : EntsAt w p n S) (b : Bool) (hb : b = true ↔ TableP n S) (x y : Int) (hl : FindIs n b S nm x y) :
    Calls Try.prog 17 #[.slice p n c, .string nm] w fun e w' => e = .returned (.tuple #[.int .i64 x, .int .i64 y]) ∧ Below w.heap.size w w' := by
  rcases hl with ⟨h, rfl, rfl⟩ | ⟨h, hl⟩
  · clear hp hw hb
    go_enter Try.func17, Try.ntmps17
    go_wp2_with fail
    go_ret2
    exact ⟨rfl, Below.refl _ _⟩
  · have C := byC nm p n c S w (by unfold maxLen; omega) hn hw hp b hb x y hl
    clear hp hw hb hl
    go_enter Try.func17, Try.ntmps17
    go_wp2_with fail
    refine C.mono ?_
    rintro e1 w1 ⟨rfl, hb1⟩
    clear C
    go_wp2_with fail
    go_ret2
    exact ⟨rfl, hb1⟩
theorem chkT_cases (n : Nat) (b : Bool) : (4096 < n ∧ chkT n b = 2) ∨ (n ≤ 4096 ∧ b = false ∧ chkT n b = 1) ∨ (n ≤ 4096 ∧ b = true ∧ chkT n b = 0) := by
  by_cases h : 4096 < n
  · exact .inl ⟨h, chkT_long h⟩
  · cases b
    · exact .inr (.inl ⟨by omega, rfl, chkT_no h⟩)
    · exact .inr (.inr ⟨by omega, rfl, chkT_yes h⟩)
theorem fstE_of {n : Nat} {S : Nat → EntD} {nm : ByteArray} {x y : Int} (h : LookIs n (fun i => klC (S i)) (.string nm.data.toList) x y) : ∃ r, FstE n S nm r ∧ ((r < 0 ∧ x = 0 ∧ y = 23) ∨ (0 ≤ r ∧ x = r ∧ y = 0)) := by
  have key : ∀ d : EntD, klC d = .string nm.data.toList ↔ d.nm = nm := fun d => ⟨fun e => by
    have h1 : d.nm.data.toList = nm.data.toList := by simpa [klC] using e
    exact ByteArray.ext (Array.toList_inj.1 h1), fun e => by unfold klC; rw [e]⟩
  rcases h with ⟨rfl, rfl, h⟩ | ⟨j, hj, rfl, rfl, h1, h2⟩
  · exact ⟨-1, .inl ⟨rfl, fun i hi e => h i hi ((key _).2 e)⟩, .inl ⟨by omega, rfl, rfl⟩⟩
  · exact ⟨j, .inr ⟨j, hj, rfl, (key _).1 h1, fun i hi e => h2 i hi ((key _).2 e)⟩, .inr ⟨by omega, rfl, rfl⟩⟩
set_option maxRecDepth 100000 in
set_option maxHeartbeats 2000000 in
theorem findSpecE (nm : ByteArray) (p : Option Addr) (n c : Nat) (S : Nat → EntD) (w : World) (hs : nm.size ≤ 1048576) (hn : n ≤ 1048576) (hc : n ≤ c) (hw : ∀ i, i < n → (S i).wf) (hp : EntsAt w p n S) (b : Bool) (hb : b = true ↔ TableP n S) (x y : Int) (hl : FindIs n b S nm x y) :
    Calls Try.prog 16 #[.slice p n c, .string nm] w fun e w' => e = .returned (.tuple #[.int .i64 x, .int .i64 y]) ∧ Below w.heap.size w w' := by
  by_cases h4 : 4096 < n
  · obtain ⟨rfl, rfl⟩ : x = 0 ∧ y = 2 := by
      rcases hl with ⟨_, h1, h2⟩ | ⟨_, ⟨_, h1, h2⟩ | ⟨h1, _⟩⟩
      · exact ⟨h1, h2⟩
      · exact ⟨h1, h2.trans (chkT_long h4)⟩
      · rw [chkT_long h4] at h1; cases h1
    clear hp hw hb hl
    go_enter Try.func16, Try.ntmps16
    go_wp2_with fail
    go_ret2
    exact ⟨rfl, Below.refl _ _⟩
  rcases hl with ⟨h, rfl, rfl⟩ | ⟨h, hl⟩
  · clear hp hw hb
    go_enter Try.func16, Try.ntmps16
    go_wp2_with fail
    go_ret2
    exact ⟨rfl, Below.refl _ _⟩
  · have T := tblSpec p n c S w hn hc hw hp b hb
    have HP : Hid (EntsAt w p n S) := hp
    clear hp hw hb
    go_enter Try.func16, Try.ntmps16
    go_wp2_with fail
    refine T.mono ?_
    rintro e1 w1 ⟨rfl, hb1⟩
    clear T
    cases b with
    | false =>
      obtain ⟨rfl, rfl⟩ : x = 0 ∧ y = 1 := by
        rcases hl with ⟨_, h1, h2⟩ | ⟨h1, _⟩
        · exact ⟨h1, h2.trans (chkT_no h4)⟩
        · rw [chkT_no h4] at h1; cases h1
      clear HP hl
      go_wp2_with fail
      go_ret2
      exact ⟨rfl, hb1⟩
    | true =>
      have hl2 : LookIs n (fun i => klC (S i)) (.string nm.data.toList) x y := by
        rcases hl with ⟨h1, _⟩ | ⟨_, h1⟩
        · exact absurd (chkT_yes h4) h1
        · exact h1
      obtain ⟨r, hr, hx⟩ := fstE_of hl2
      have F := findSpec p n c S nm w1 hn (HP.out.below hb1) r hr
      clear hl hl2 hr HP
      go_wp2_with fail
      refine F.mono ?_
      rintro e2 w2 ⟨rfl, hb2⟩
      have B2 := hb1.trans (hb2.mono hb1.size)
      clear F hb1 hb2
      rcases hx with ⟨h0, rfl, rfl⟩ | ⟨h0, rfl, rfl⟩
      all_goals
        go_wp2_with fail
        go_ret2
        exact ⟨rfl, B2⟩
theorem look_ex (n : Nat) (K : Nat → Lit) (k : Lit) : ∃ x y, LookIs n K k x y := by
  by_cases h : ∃ i, i < n ∧ K i = k
  · obtain ⟨i, hi, he⟩ := h
    obtain ⟨j, ⟨h1, h2⟩, h3, h4⟩ := least_of (P := fun i => i < n ∧ K i = k) i ⟨hi, he⟩
    exact ⟨j, 0, .inr ⟨j, h1, rfl, rfl, h2, fun i hi e => h4 i hi ⟨by omega, e⟩⟩⟩
  · exact ⟨0, 23, .inl ⟨rfl, rfl, fun i hi e => h ⟨i, hi, e⟩⟩⟩
theorem ent_ex (n : Nat) (b : Bool) (K : Nat → Lit) (k : Lit) : ∃ x y, EntIs n b K k x y := by
  by_cases h : chkT n b = 0
  · obtain ⟨x, y, hl⟩ := look_ex n K k
    exact ⟨x, y, .inr ⟨h, hl⟩⟩
  · exact ⟨0, _, .inl ⟨h, rfl, rfl⟩⟩
theorem find_ex (n : Nat) (b : Bool) (S : Nat → EntD) (nm : ByteArray) : ∃ x y, FindIs n b S nm x y := by
  by_cases h : 65536 < nm.size
  · exact ⟨0, 2, .inl ⟨h, rfl, rfl⟩⟩
  · obtain ⟨x, y, hl⟩ := ent_ex n b (fun i => klC (S i)) (.string nm.data.toList)
    exact ⟨x, y, .inr ⟨by omega, hl⟩⟩
noncomputable def tableB (n : Nat) (S : Nat → EntD) : Bool := @decide (TableP n S) (Classical.propDecidable _)
theorem tableB_iff {n : Nat} {S : Nat → EntD} : tableB n S = true ↔ TableP n S := by unfold tableB; exact @decide_eq_true_iff _ (Classical.propDecidable _)
end Go.Proofs.Ytelogjpjglohoaa
