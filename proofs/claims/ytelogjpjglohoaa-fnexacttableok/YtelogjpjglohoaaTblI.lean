/- Tables: the program's TableOK, the model's l10Find and TableOK. -/
import Derived.Test.YtelogjpjglohoaaTblC
import Derived.Test.YtelogjpjglohoaaNumC
import Derived.Deep.RegionWith
namespace Go.Proofs.Ytelogjpjglohoaa
open Go Go.RowKit Go.Maps
set_option linter.unusedVariables false

/-- A list of entries that is a table. -/
def TableP (n : Nat) (S : Nat → EntD) : Prop := n ≤ 64 ∧ (∀ i, i < n → entB (S i) = true) ∧ ∀ i j, i < j → j < n → (S i).nm ≠ (S j).nm
theorem klC_inj {a b : EntD} (h : klC a = klC b) : a.nm = b.nm := by
  have h1 : a.nm.data.toList = b.nm.data.toList := by simpa [klC] using h
  exact ByteArray.ext (Array.toList_inj.1 h1)
theorem numLen {n : Nat} {S : Nat → EntD} : size (mapR (H := Unit) (fun i => klC (S i)) n n) = n ↔ ∀ i j, i < j → j < n → (S i).nm ≠ (S j).nm := by
  constructor
  · intro h i j hij hj e
    have := mapR_alike (H := Unit) (K := fun i => klC (S i)) (n := n) (fun i _ => klC_key _) i j hij hj (by show klC (S i) = klC (S j); unfold klC; rw [e]) n (Nat.le_refl _) (by omega)
    omega
  · intro h
    exact mapR_apart (H := Unit) (fun i _ => klC_key _) n (Nat.le_refl _) (fun i j _ hij hj e => h i j hij hj (klC_inj e))
theorem numLe {n : Nat} {S : Nat → EntD} : size (mapR (H := Unit) (fun i => klC (S i)) n n) ≤ n := mapR_size_le (H := Unit) (fun i _ => klC_key _) n (Nat.le_refl _)

set_option maxRecDepth 100000 in
set_option maxHeartbeats 4000000 in
theorem tblImpl (p : Option Addr) (n c : Nat) (S : Nat → EntD) (w : World) (hn : n ≤ 1048576) (hw : ∀ i, i < n → (S i).wf) (hp : EntsAt w p n S) (b : Bool) (hb : b = true ↔ TableP n S) :
    Calls Try.prog 14 #[.slice p n c] w fun e w' => e = .returned (.bool b) ∧ Below w.heap.size w w' := by
  by_cases h64 : 64 < n
  · obtain rfl : b = false := by cases b with
      | false => rfl
      | true => have := (hb.1 rfl).1; omega
    clear hb hp hw
    go_enter Try.func14, Try.ntmps14
    go_wp2_with fail
    go_ret
    exact ⟨rfl, Below.refl _ _⟩
  have HB : Hid (b = true ↔ TableP n S) := hb
  have HW : Hid (∀ i, i < n → (S i).wf) := hw
  have HP0 : Hid (EntsAt w p n S) := hp
  clear hb hw
  go_enter Try.func14, Try.ntmps14
  go_wp2_with fail
  go_loopw [10] (fun i wr => ∃ k : Nat, k ≤ n ∧ i = .int .i64 k ∧ Hid (∀ j, j < k → entB (S j) = true) ∧ Below w.heap.size w wr) (fun i _ => n - (intOf i).toNat)
  case atStart => exact ⟨0, Nat.zero_le _, rfl, fun j hj => absurd hj (Nat.not_lt_zero _), Below.refl _ _⟩
  case round =>
    obtain ⟨k, hk, rfl, HALL, hB⟩ := hrel
    by_cases hlt : k < n
    · rcases hp with hp | ⟨pb, po, rfl, hpl, hp⟩
      · omega
      obtain ⟨x0, x1, x2, x3, x4, x5⟩ := (hp.below hB hpl).ent hlt
      have hwk := HW.out k hlt
      obtain ⟨d, hd⟩ : ∃ d, S k = d := ⟨_, rfl⟩
      rw [hd] at x0 x1 x2 x3 x4 x5 hwk
      have HD : Hid (S k = d) := hd
      have hsz := hB.size
      have bX := grown1' wr (.cells #[.string d.nm, .int .i64 d.kd, .int .i64 d.pl, .int .i64 d.sz, .int .i64 d.fr, .int .i64 d.ow] 55)
      have HX : Hid (Below w.heap.size w _) := hB.trans (bX.mono hsz)
      have RC : Hid (∀ w', Calls Try.prog 31 #[entA d] w' fun e w'' => e = .returned (.bool (entB d)) ∧ Below w'.heap.size w' w'') := fun w' => entImpl d.nm d.kd d.pl d.sz d.fr d.ow w' hwk.1 hwk.2.2.1 hwk.2.2.2.2.1
      obtain ⟨q, hq⟩ : ∃ q, entB d = q := ⟨_, rfl⟩
      have HQ : Hid (entB d = q) := hq
      rw [hq] at RC
      clear hp hB bX hd hwk hq
      go_wp2_with fail
      refine (RC.out _).mono ?_
      rintro e w2 ⟨rfl, hb2⟩
      have B2 := HX.out.trans (hb2.mono HX.out.size)
      clear HX RC hb2 x0 x1 x2 x3 x4 x5
      cases q with
      | false =>
        obtain rfl : b = false := by cases b with
          | false => rfl
          | true => have := ((HB.out).1 rfl).2.1 k hlt; rw [HD.out, HQ.out] at this; cases this
        go_wp2_with fail
        go_ret
        exact ⟨rfl, B2⟩
      | true =>
        have HNX : Hid (∀ j, j < k + 1 → entB (S j) = true) := fun j hj => by
          rcases Nat.lt_succ_iff_lt_or_eq.1 hj with h' | rfl
          · exact HALL.out j h'
          · rw [HD.out, HQ.out]
        go_wp2_with fail
        go_roundw
        case rel =>
          first
            | exact ⟨k + 1, by omega, by go_num, HNX, B2⟩
            | ((repeat apply Exists.intro); exact ⟨⟨k + 1, by omega, by go_num, HNX, B2⟩, rfl⟩)
        case measure => simp [intOf]; omega
    · obtain rfl : k = n := by omega
      have NC := numC p k c S hn wr HW.out (HP0.out.below hB)
      have hle := numLe (n := k) (S := S)
      have hll := numLen (n := k) (S := S)
      obtain ⟨D, hD⟩ : ∃ D, mapR (H := Unit) (fun i => klC (S i)) k k = D := ⟨_, rfl⟩
      rw [hD] at NC hle hll
      obtain ⟨z, hz⟩ : ∃ z, size D = z := ⟨_, rfl⟩
      have HZ : Hid (size D = z) := hz
      have hLW : Hid (∀ (W : World), W.ownsMap Try.prog 9 (plainElem (H := Unit) Try.prog 3) (wr.heap.size + 1) k D → ∀ ty, (Builtin.len_ #[59] ty #[.map (some (wr.heap.size + 1))]).run Try.prog W = .ok (.int .i64 (z : Int)) W) := fun W h ty => by rw [← hz]; exact h.len Try.underlying59 ty
      rw [hz] at hle hll
      have hbz : b = true ↔ z = k := HB.out.trans ⟨fun h => hll.2 h.2.2, fun h => ⟨by omega, HALL.out, hll.1 h⟩⟩
      have HNC : Hid (Calls Try.prog 32 _ wr _) := NC
      clear hp hD hz NC hll
      go_wp2_with fail
      refine HNC.out.mono ?_
      rintro e w2 ⟨rfl, hown, hb2⟩
      have B2 := hB.trans (hb2.mono hB.size)
      have hlen := hLW.out w2 hown
      clear hLW HNC hown hb2 hB
      by_cases hzk : z = k
      · subst hzk
        obtain rfl : b = true := hbz.2 rfl
        go_wp2
        go_ret
        exact ⟨ret_bool (by first | rfl | simp), B2⟩
      · obtain rfl : b = false := by cases b with
          | false => rfl
          | true => exact absurd (hbz.1 rfl) hzk
        have hzi : ((z : Int) == (k : Int)) = false := by rw [beq_eq_false_iff_ne]; omega
        go_wp2
        go_ret
        exact ⟨ret_bool (by first | rfl | simp [hzi] | (simp; omega)), B2⟩

/-- The first entry of a name; -1 if there is none. -/
def FstE (n : Nat) (S : Nat → EntD) (nm : ByteArray) (r : Int) : Prop := (r = -1 ∧ ∀ i, i < n → (S i).nm ≠ nm) ∨ ∃ k : Nat, k < n ∧ r = (k : Int) ∧ (S k).nm = nm ∧ ∀ i, i < k → (S i).nm ≠ nm
theorem fstE_ex (n : Nat) (S : Nat → EntD) (nm : ByteArray) : ∃ r, FstE n S nm r := by
  by_cases h : ∃ i, i < n ∧ (S i).nm = nm
  · obtain ⟨i, hi, he⟩ := h
    obtain ⟨j, ⟨h1, h2⟩, h3, h4⟩ := least_of (P := fun i => i < n ∧ (S i).nm = nm) i ⟨hi, he⟩
    exact ⟨j, .inr ⟨j, h1, rfl, h2, fun i hi e => h4 i hi ⟨by omega, e⟩⟩⟩
  · exact ⟨-1, .inl ⟨rfl, fun i hi e => h ⟨i, hi, e⟩⟩⟩
theorem nm_ne {s t : ByteArray} (h : ¬ s = t) : (s.toList == t.toList) = false := by
  rw [beq_eq_false_iff_ne]
  intro e
  rw [ByteArray.toList_eq, ByteArray.toList_eq] at e
  exact h (ByteArray.ext (Array.toList_inj.1 e))

set_option maxRecDepth 100000 in
set_option maxHeartbeats 4000000 in
theorem findSpec (p : Option Addr) (n c : Nat) (S : Nat → EntD) (nm : ByteArray) (w : World) (hn : n ≤ 1048576) (hp : EntsAt w p n S) (r : Int) (hr : FstE n S nm r) :
    Calls Try.prog 29 #[.slice p n c, .string nm] w fun e w' => e = .returned (.int .i64 r) ∧ Below w.heap.size w w' := by
  have HR : Hid (FstE n S nm r) := hr
  clear hr
  go_enter Try.func29, Try.ntmps29
  go_wp2_with fail
  go_loopw [5] (fun i wr => ∃ k : Nat, k ≤ n ∧ i = .int .i64 k ∧ Hid (∀ j, j < k → (S j).nm ≠ nm) ∧ Below w.heap.size w wr) (fun i _ => n - (intOf i).toNat)
  case atStart => exact ⟨0, Nat.zero_le _, rfl, fun j hj => absurd hj (Nat.not_lt_zero _), Below.refl _ _⟩
  case round =>
    obtain ⟨k, hk, rfl, HALL, hB⟩ := hrel
    by_cases hlt : k < n
    · rcases hp with hp | ⟨pb, po, rfl, hpl, hp⟩
      · omega
      obtain ⟨x0, _, _, _, _, _⟩ := (hp.below hB hpl).ent hlt
      obtain ⟨s, hs⟩ : ∃ s, (S k).nm = s := ⟨_, rfl⟩
      rw [hs] at x0
      have HS : Hid ((S k).nm = s) := hs
      clear hp hs
      by_cases he : s = nm
      · subst he
        obtain rfl : (k : Int) = r := by
          rcases HR.out with ⟨_, h⟩ | ⟨m, h1, rfl, h2, h3⟩
          · exact absurd HS.out (h k hlt)
          · have : k = m := by
              rcases Nat.lt_trichotomy k m with h | h | h
              · exact absurd HS.out (h3 k h)
              · exact h
              · exact absurd h2 (HALL.out m h)
            rw [this]
        go_wp2_with fail
        go_ret
        exact ⟨rfl, hB⟩
      · have z := nm_ne he
        have HNX : Hid (∀ j, j < k + 1 → (S j).nm ≠ nm) := fun j hj => by
          rcases Nat.lt_succ_iff_lt_or_eq.1 hj with h' | rfl
          · exact HALL.out j h'
          · rw [HS.out]; exact he
        go_wp2_with fail
        go_roundw
        case rel =>
          first
            | exact ⟨k + 1, by omega, by go_num, HNX, hB⟩
            | ((repeat apply Exists.intro); exact ⟨⟨k + 1, by omega, by go_num, HNX, hB⟩, rfl⟩)
        case measure => simp [intOf]; omega
    · obtain rfl : k = n := by omega
      obtain rfl : (-1 : Int) = r := by
        rcases HR.out with ⟨h, _⟩ | ⟨m, h1, _, h2, _⟩
        · exact h.symm
        · exact absurd h2 (HALL.out m h1)
      clear hp
      go_wp2_with fail
      go_ret
      exact ⟨rfl, hB⟩
end Go.Proofs.Ytelogjpjglohoaa
