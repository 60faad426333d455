/- Lists of numbers and of texts held against each other, by the library and by the model; both SameLinked (gen_same.py). -/
import Derived.Test.YtelogjpjglohoaaLnkL
namespace Go.Proofs.Ytelogjpjglohoaa
open Go Go.RowKit
set_option linter.unusedVariables false

theorem toL_injS {a b : ByteArray} (h : a.toList = b.toList) : a = b := by
  rw [ByteArray.toList_eq, ByteArray.toList_eq] at h
  cases a with
  | mk x =>
    cases b with
    | mk y => simp at h; rw [show x = y from h]

set_option maxRecDepth 100000 in
set_option maxHeartbeats 4000000 in
theorem libNum (p q : Option Addr) (n m c d : Nat) (S T : Nat → Int) (w : World) (hn : n ≤ 1048576) (hm : m ≤ 1048576) (hp : NumsAt w p n S) (hq : NumsAt w q m T) (b : Bool) (hb : b = true ↔ n = m ∧ ∀ i, i < n → S i = T i) :
    Calls Try.prog 45 #[.slice p n c, .slice q m d] w fun e w' => e = .returned (.bool b) ∧ Below w.heap.size w w' := by
  by_cases hnm : ¬ n = m
  · have hnb : ((n : Int) != (m : Int)) = true := by simpa using (fun h => hnm (by omega))
    have hbf : b = false := by cases b <;> simp_all
    subst hbf
    go_enter Try.func45, Try.ntmps45
    go_wp2_with fail
    go_ret
    exact ⟨rfl, Below.refl _ _⟩
  have hnm : n = m := Classical.byContradiction hnm
  subst hnm
  have h1 : b = true → ∀ i, i < n → S i = T i := fun h => (hb.1 h).2
  have h2 : (∀ i, i < n → S i = T i) → b = true := fun h => hb.2 ⟨rfl, h⟩
  have HB1 : Hid (b = true → ∀ i, i < n → S i = T i) := h1
  have HB2 : Hid ((∀ i, i < n → S i = T i) → b = true) := h2
  clear hb h1 h2
  go_enter Try.func45, Try.ntmps45
  go_wp2_with fail
  go_loopw [13] (fun i wr => ∃ k : Nat, k ≤ n ∧ i = .int .i64 k ∧ Hid (∀ j, j < k → S j = T j) ∧ Below w.heap.size w wr) (fun i _ => n - (intOf i).toNat)
  case atStart => exact ⟨0, Nat.zero_le _, rfl, fun j hj => absurd hj (Nat.not_lt_zero _), Below.refl _ _⟩
  case round =>
    obtain ⟨k, hk, rfl, HALL, hB⟩ := hrel
    have HB : Hid (Below w.heap.size w wr ∧ Below w.heap.size w wr.drew) := ⟨hB, hB.drew⟩
    by_cases hlt : k < n
    · rcases hp with hp | ⟨pb, po, rfl, hpl, hp⟩
      · omega
      rcases hq with hq | ⟨qb, qo, rfl, hql, hq⟩
      · omega
      have x0 := (hp.below hB hpl).num hlt
      have y0 := (hq.below hB hql).num hlt
      obtain ⟨s, es⟩ : ∃ s, S k = s := ⟨_, rfl⟩
      obtain ⟨t, et⟩ : ∃ s, T k = s := ⟨_, rfl⟩
      rw [es] at x0
      rw [et] at y0
      have ES : Hid (S k = s) := es
      have ET : Hid (T k = t) := et
      clear hp hq hB es et
      by_cases he : s = t
      · subst he
        have HNX : Hid (∀ j, j < k + 1 → S j = T j) := fun j hj => by
          rcases Nat.lt_succ_iff_lt_or_eq.1 hj with h' | rfl
          · exact HALL.out j h'
          · rw [ES.out, ET.out]
        go_wp2_with fail
        go_region
        all_goals
          go_wp2_with fail
          go_roundw
          case rel =>
            first
              | exact ⟨k + 1, by omega, by go_num, HNX, by first | exact HB.out.2 | exact HB.out.1⟩
              | ((repeat apply Exists.intro); exact ⟨⟨k + 1, by omega, by go_num, HNX, by first | exact HB.out.2 | exact HB.out.1⟩, rfl⟩)
          case measure => simp [intOf]; omega
      · have hbf : b = false := by
          cases b with
          | false => rfl
          | true => exact absurd (HB1.out rfl k hlt) (by rw [ES.out, ET.out]; exact he)
        subst hbf
        have zb : (s != t) = true := by simpa using he
        go_wp2_with fail
        go_region
        all_goals
          go_wp2_with fail
          go_ret
          exact ⟨rfl, by first | exact HB.out.2 | exact HB.out.1⟩
    · obtain rfl : k = n := by omega
      have hbt : b = true := HB2.out HALL.out
      subst hbt
      clear hp hq
      go_wp2_with fail
      go_ret
      exact ⟨rfl, hB⟩

set_option maxRecDepth 100000 in
set_option maxHeartbeats 4000000 in
theorem libStr (p q : Option Addr) (n m c d : Nat) (S T : Nat → ByteArray) (w : World) (hn : n ≤ 1048576) (hm : m ≤ 1048576) (hp : StrsAt w p n S) (hq : StrsAt w q m T) (b : Bool) (hb : b = true ↔ n = m ∧ ∀ i, i < n → S i = T i) :
    Calls Try.prog 46 #[.slice p n c, .slice q m d] w fun e w' => e = .returned (.bool b) ∧ Below w.heap.size w w' := by
  by_cases hnm : ¬ n = m
  · have hnb : ((n : Int) != (m : Int)) = true := by simpa using (fun h => hnm (by omega))
    have hbf : b = false := by cases b <;> simp_all
    subst hbf
    go_enter Try.func46, Try.ntmps46
    go_wp2_with fail
    go_ret
    exact ⟨rfl, Below.refl _ _⟩
  have hnm : n = m := Classical.byContradiction hnm
  subst hnm
  have h1 : b = true → ∀ i, i < n → S i = T i := fun h => (hb.1 h).2
  have h2 : (∀ i, i < n → S i = T i) → b = true := fun h => hb.2 ⟨rfl, h⟩
  have HB1 : Hid (b = true → ∀ i, i < n → S i = T i) := h1
  have HB2 : Hid ((∀ i, i < n → S i = T i) → b = true) := h2
  clear hb h1 h2
  go_enter Try.func46, Try.ntmps46
  go_wp2_with fail
  go_loopw [13] (fun i wr => ∃ k : Nat, k ≤ n ∧ i = .int .i64 k ∧ Hid (∀ j, j < k → S j = T j) ∧ Below w.heap.size w wr) (fun i _ => n - (intOf i).toNat)
  case atStart => exact ⟨0, Nat.zero_le _, rfl, fun j hj => absurd hj (Nat.not_lt_zero _), Below.refl _ _⟩
  case round =>
    obtain ⟨k, hk, rfl, HALL, hB⟩ := hrel
    have HB : Hid (Below w.heap.size w wr ∧ Below w.heap.size w wr.drew) := ⟨hB, hB.drew⟩
    by_cases hlt : k < n
    · rcases hp with hp | ⟨pb, po, rfl, hpl, hp⟩
      · omega
      rcases hq with hq | ⟨qb, qo, rfl, hql, hq⟩
      · omega
      have x0 := (hp.below hB hpl).str hlt
      have y0 := (hq.below hB hql).str hlt
      obtain ⟨s, es⟩ : ∃ s, S k = s := ⟨_, rfl⟩
      obtain ⟨t, et⟩ : ∃ s, T k = s := ⟨_, rfl⟩
      rw [es] at x0
      rw [et] at y0
      have ES : Hid (S k = s) := es
      have ET : Hid (T k = t) := et
      clear hp hq hB es et
      by_cases he : s = t
      · subst he
        have HNX : Hid (∀ j, j < k + 1 → S j = T j) := fun j hj => by
          rcases Nat.lt_succ_iff_lt_or_eq.1 hj with h' | rfl
          · exact HALL.out j h'
          · rw [ES.out, ET.out]
        go_wp2_with fail
        go_region
        all_goals
          go_wp2_with fail
          go_roundw
          case rel =>
            first
              | exact ⟨k + 1, by omega, by go_num, HNX, by first | exact HB.out.2 | exact HB.out.1⟩
              | ((repeat apply Exists.intro); exact ⟨⟨k + 1, by omega, by go_num, HNX, by first | exact HB.out.2 | exact HB.out.1⟩, rfl⟩)
          case measure => simp [intOf]; omega
      · have hbf : b = false := by
          cases b with
          | false => rfl
          | true => exact absurd (HB1.out rfl k hlt) (by rw [ES.out, ET.out]; exact he)
        subst hbf
        have z : ¬ s.toList = t.toList := fun h => he (toL_injS h)
        have z2 : (s.toList == t.toList) = false := by simpa using z
        have zb : (!s.toList == t.toList) = true := by rw [z2]; rfl
        clear he z
        go_wp2_with fail
        go_region
        all_goals
          go_wp2_with fail
          go_ret
          exact ⟨rfl, by first | exact HB.out.2 | exact HB.out.1⟩
    · obtain rfl : k = n := by omega
      have hbt : b = true := HB2.out HALL.out
      subst hbt
      clear hp hq
      go_wp2_with fail
      go_ret
      exact ⟨rfl, hB⟩

set_option maxRecDepth 100000 in
set_option maxHeartbeats 4000000 in
theorem modNum (p q : Option Addr) (n m c d : Nat) (S T : Nat → Int) (w : World) (hn : n ≤ 1048576) (hm : m ≤ 1048576) (hp : NumsAt w p n S) (hq : NumsAt w q m T) (b : Bool) (hb : b = true ↔ n = m ∧ ∀ i, i < n → S i = T i) :
    Calls Try.prog 41 #[.slice p n c, .slice q m d] w fun e w' => e = .returned (.bool b) ∧ Below w.heap.size w w' := by
  by_cases hnm : ¬ n = m
  · have hnb : ((n : Int) != (m : Int)) = true := by simpa using (fun h => hnm (by omega))
    have hbf : b = false := by cases b <;> simp_all
    subst hbf
    go_enter Try.func41, Try.ntmps41
    go_wp2_with fail
    go_ret
    exact ⟨rfl, Below.refl _ _⟩
  have hnm : n = m := Classical.byContradiction hnm
  subst hnm
  have h1 : b = true → ∀ i, i < n → S i = T i := fun h => (hb.1 h).2
  have h2 : (∀ i, i < n → S i = T i) → b = true := fun h => hb.2 ⟨rfl, h⟩
  have HB1 : Hid (b = true → ∀ i, i < n → S i = T i) := h1
  have HB2 : Hid ((∀ i, i < n → S i = T i) → b = true) := h2
  clear hb h1 h2
  go_enter Try.func41, Try.ntmps41
  go_wp2_with fail
  go_loopw [5] (fun i wr => ∃ k : Nat, k ≤ n ∧ i = .int .i64 k ∧ Hid (∀ j, j < k → S j = T j) ∧ Below w.heap.size w wr) (fun i _ => n - (intOf i).toNat)
  case atStart => exact ⟨0, Nat.zero_le _, rfl, fun j hj => absurd hj (Nat.not_lt_zero _), Below.refl _ _⟩
  case round =>
    obtain ⟨k, hk, rfl, HALL, hB⟩ := hrel
    have HB : Hid (Below w.heap.size w wr ∧ Below w.heap.size w wr.drew) := ⟨hB, hB.drew⟩
    by_cases hlt : k < n
    · rcases hp with hp | ⟨pb, po, rfl, hpl, hp⟩
      · omega
      rcases hq with hq | ⟨qb, qo, rfl, hql, hq⟩
      · omega
      have x0 := (hp.below hB hpl).num hlt
      have y0 := (hq.below hB hql).num hlt
      obtain ⟨s, es⟩ : ∃ s, S k = s := ⟨_, rfl⟩
      obtain ⟨t, et⟩ : ∃ s, T k = s := ⟨_, rfl⟩
      rw [es] at x0
      rw [et] at y0
      have ES : Hid (S k = s) := es
      have ET : Hid (T k = t) := et
      clear hp hq hB es et
      by_cases he : s = t
      · subst he
        have HNX : Hid (∀ j, j < k + 1 → S j = T j) := fun j hj => by
          rcases Nat.lt_succ_iff_lt_or_eq.1 hj with h' | rfl
          · exact HALL.out j h'
          · rw [ES.out, ET.out]
        go_wp2_with fail
        go_region
        all_goals
          go_wp2_with fail
          go_roundw
          case rel =>
            first
              | exact ⟨k + 1, by omega, by go_num, HNX, by first | exact HB.out.2 | exact HB.out.1⟩
              | ((repeat apply Exists.intro); exact ⟨⟨k + 1, by omega, by go_num, HNX, by first | exact HB.out.2 | exact HB.out.1⟩, rfl⟩)
          case measure => simp [intOf]; omega
      · have hbf : b = false := by
          cases b with
          | false => rfl
          | true => exact absurd (HB1.out rfl k hlt) (by rw [ES.out, ET.out]; exact he)
        subst hbf
        have zb : (s != t) = true := by simpa using he
        go_wp2_with fail
        go_region
        all_goals
          go_wp2_with fail
          go_ret
          exact ⟨rfl, by first | exact HB.out.2 | exact HB.out.1⟩
    · obtain rfl : k = n := by omega
      have hbt : b = true := HB2.out HALL.out
      subst hbt
      clear hp hq
      go_wp2_with fail
      go_ret
      exact ⟨rfl, hB⟩

set_option maxRecDepth 100000 in
set_option maxHeartbeats 4000000 in
theorem modStr (p q : Option Addr) (n m c d : Nat) (S T : Nat → ByteArray) (w : World) (hn : n ≤ 1048576) (hm : m ≤ 1048576) (hp : StrsAt w p n S) (hq : StrsAt w q m T) (b : Bool) (hb : b = true ↔ n = m ∧ ∀ i, i < n → S i = T i) :
    Calls Try.prog 42 #[.slice p n c, .slice q m d] w fun e w' => e = .returned (.bool b) ∧ Below w.heap.size w w' := by
  by_cases hnm : ¬ n = m
  · have hnb : ((n : Int) != (m : Int)) = true := by simpa using (fun h => hnm (by omega))
    have hbf : b = false := by cases b <;> simp_all
    subst hbf
    go_enter Try.func42, Try.ntmps42
    go_wp2_with fail
    go_ret
    exact ⟨rfl, Below.refl _ _⟩
  have hnm : n = m := Classical.byContradiction hnm
  subst hnm
  have h1 : b = true → ∀ i, i < n → S i = T i := fun h => (hb.1 h).2
  have h2 : (∀ i, i < n → S i = T i) → b = true := fun h => hb.2 ⟨rfl, h⟩
  have HB1 : Hid (b = true → ∀ i, i < n → S i = T i) := h1
  have HB2 : Hid ((∀ i, i < n → S i = T i) → b = true) := h2
  clear hb h1 h2
  go_enter Try.func42, Try.ntmps42
  go_wp2_with fail
  go_loopw [5] (fun i wr => ∃ k : Nat, k ≤ n ∧ i = .int .i64 k ∧ Hid (∀ j, j < k → S j = T j) ∧ Below w.heap.size w wr) (fun i _ => n - (intOf i).toNat)
  case atStart => exact ⟨0, Nat.zero_le _, rfl, fun j hj => absurd hj (Nat.not_lt_zero _), Below.refl _ _⟩
  case round =>
    obtain ⟨k, hk, rfl, HALL, hB⟩ := hrel
    have HB : Hid (Below w.heap.size w wr ∧ Below w.heap.size w wr.drew) := ⟨hB, hB.drew⟩
    by_cases hlt : k < n
    · rcases hp with hp | ⟨pb, po, rfl, hpl, hp⟩
      · omega
      rcases hq with hq | ⟨qb, qo, rfl, hql, hq⟩
      · omega
      have x0 := (hp.below hB hpl).str hlt
      have y0 := (hq.below hB hql).str hlt
      obtain ⟨s, es⟩ : ∃ s, S k = s := ⟨_, rfl⟩
      obtain ⟨t, et⟩ : ∃ s, T k = s := ⟨_, rfl⟩
      rw [es] at x0
      rw [et] at y0
      have ES : Hid (S k = s) := es
      have ET : Hid (T k = t) := et
      clear hp hq hB es et
      by_cases he : s = t
      · subst he
        have HNX : Hid (∀ j, j < k + 1 → S j = T j) := fun j hj => by
          rcases Nat.lt_succ_iff_lt_or_eq.1 hj with h' | rfl
          · exact HALL.out j h'
          · rw [ES.out, ET.out]
        go_wp2_with fail
        go_region
        all_goals
          go_wp2_with fail
          go_roundw
          case rel =>
            first
              | exact ⟨k + 1, by omega, by go_num, HNX, by first | exact HB.out.2 | exact HB.out.1⟩
              | ((repeat apply Exists.intro); exact ⟨⟨k + 1, by omega, by go_num, HNX, by first | exact HB.out.2 | exact HB.out.1⟩, rfl⟩)
          case measure => simp [intOf]; omega
      · have hbf : b = false := by
          cases b with
          | false => rfl
          | true => exact absurd (HB1.out rfl k hlt) (by rw [ES.out, ET.out]; exact he)
        subst hbf
        have z : ¬ s.toList = t.toList := fun h => he (toL_injS h)
        have z2 : (s.toList == t.toList) = false := by simpa using z
        have zb : (!s.toList == t.toList) = true := by rw [z2]; rfl
        clear he z
        go_wp2_with fail
        go_region
        all_goals
          go_wp2_with fail
          go_ret
          exact ⟨rfl, by first | exact HB.out.2 | exact HB.out.1⟩
    · obtain rfl : k = n := by omega
      have hbt : b = true := HB2.out HALL.out
      subst hbt
      clear hp hq
      go_wp2_with fail
      go_ret
      exact ⟨rfl, hB⟩

noncomputable def listB (P : Prop) : Bool := @decide P (Classical.propDecidable _)
theorem listB_iff {P : Prop} : listB P = true ↔ P := by unfold listB; exact @decide_eq_true_iff _ (Classical.propDecidable _)
noncomputable def sameLB (a b : LnkD) : Bool := listB (a.na = b.na ∧ ∀ i, i < a.na → a.A i = b.A i) && (listB (a.nc = b.nc ∧ ∀ i, i < a.nc → a.C i = b.C i) && (listB (a.nx = b.nx ∧ ∀ i, i < a.nx → a.X i = b.X i) && listB (a.nd = b.nd ∧ ∀ i, i < a.nd → a.D i = b.D i)))

set_option maxRecDepth 100000 in
set_option maxHeartbeats 8000000 in
theorem progSameL (p q : LnkPt) (a b : LnkD) (w : World) (fa : a.fits) (fb : b.fits) (hp : LnkAt w p a) (hq : LnkAt w q b) (r : Bool) (hr : sameLB a b = r) :
    Calls Try.prog 23 #[.agg (lnkC a p), .agg (lnkC b q)] w fun e w' => e = .returned (.bool r) ∧ Below w.heap.size w w' := by
  have bA : Below w.heap.size w ((w.alloc (.cells (lnkC a p) 46)).alloc (.cells (lnkC b q) 46)) := ((Below.refl _ _).alloc (Nat.le_refl _) _).alloc (by simp) _
  have l1 := (Lies.new w (lnkC a p) 46).alloc (.cells (lnkC b q) 46)
  have l2 := Lies.newAt (w.alloc (.cells (lnkC a p) 46)) (lnkC b q) 46 (g := w.heap.size + 1) (by simp)
  have HPa : Hid (∀ W : World, Below w.heap.size w W → LnkAt W p a) := fun W h => hp.below h
  have HPb : Hid (∀ W : World, Below w.heap.size w W → LnkAt W q b) := fun W h => hq.below h
  have HFa : Hid a.fits := fa
  have HFb : Hid b.fits := fb
  have hR := hr
  unfold sameLB at hR
  obtain ⟨r0, e0⟩ : ∃ x, listB (a.na = b.na ∧ ∀ i, i < a.na → a.A i = b.A i) = x := ⟨_, rfl⟩
  obtain ⟨r1, e1⟩ : ∃ x, listB (a.nc = b.nc ∧ ∀ i, i < a.nc → a.C i = b.C i) = x := ⟨_, rfl⟩
  obtain ⟨r2, e2⟩ : ∃ x, listB (a.nx = b.nx ∧ ∀ i, i < a.nx → a.X i = b.X i) = x := ⟨_, rfl⟩
  obtain ⟨r3, e3⟩ : ∃ x, listB (a.nd = b.nd ∧ ∀ i, i < a.nd → a.D i = b.D i) = x := ⟨_, rfl⟩
  rw [e0, e1, e2, e3] at hR
  have R0 : Hid (r0 = true ↔ (a.na = b.na ∧ ∀ i, i < a.na → a.A i = b.A i)) := by rw [← e0]; exact listB_iff
  have R1 : Hid (r1 = true ↔ (a.nc = b.nc ∧ ∀ i, i < a.nc → a.C i = b.C i)) := by rw [← e1]; exact listB_iff
  have R2 : Hid (r2 = true ↔ (a.nx = b.nx ∧ ∀ i, i < a.nx → a.X i = b.X i)) := by rw [← e2]; exact listB_iff
  have R3 : Hid (r3 = true ↔ (a.nd = b.nd ∧ ∀ i, i < a.nd → a.D i = b.D i)) := by rw [← e3]; exact listB_iff
  clear hp hq hr fa fb e0 e1 e2 e3
  go_enter Try.func23, Try.ntmps23
  go_wp2_with fail
  obtain ⟨V0, hW0⟩ : ∃ V, ((w.alloc (.cells #[.slice p.pa a.na p.ka, .slice p.pc a.nc p.kc, .slice p.px a.nx p.kx, .slice p.pd a.nd p.kd] 46)).alloc (.cells #[.slice q.pa b.na q.ka, .slice q.pc b.nc q.kc, .slice q.px b.nx q.kx, .slice q.pd b.nd q.kd] 46)) = V := ⟨_, rfl⟩
  rw [hW0] at bA l1 l2 ⊢
  have HA : Hid (Below w.heap.size w V0) := bA
  have HL : Hid (Lies V0 w.heap.size 46 (lnkC a p)) := l1
  have HM : Hid (Lies V0 (w.heap.size + 1) 46 (lnkC b q)) := l2
  have lL := l1.lt
  have lM := l2.lt
  clear hW0 bA l1 l2
  have fn0 : a.na ≤ 1048576 := HFa.out.na
  have fm0 : b.na ≤ 1048576 := HFb.out.na
  refine (libNum p.pa q.pa a.na b.na p.ka q.ka a.A b.A V0 fn0 fm0 (HPa.out V0 HA.out).a (HPb.out V0 HA.out).a r0 R0.out).mono ?_
  rintro e V1 ⟨rfl, hb⟩
  have nA := HA.out.trans (hb.mono HA.out.size)
  have nL := HL.out.below hb lL
  have nM := HM.out.below hb lM
  clear hb HA HL HM lL lM fn0 fm0
  have HA : Hid (Below w.heap.size w V1) := nA
  have HL : Hid (Lies V1 w.heap.size 46 (lnkC a p)) := nL
  have HM : Hid (Lies V1 (w.heap.size + 1) 46 (lnkC b q)) := nM
  have lL := nL.lt
  have lM := nM.lt
  have m0 := lnk0 nL
  have n0 := lnk0 nM
  have m1 := lnk1 nL
  have n1 := lnk1 nM
  have m2 := lnk2 nL
  have n2 := lnk2 nM
  have m3 := lnk3 nL
  have n3 := lnk3 nM
  clear nA nL nM
  cases r0 with
  | false =>
    obtain rfl : false = r := by rw [← hR]; simp
    go_wp2_with fail
    go_ret
    exact ⟨rfl, HA.out⟩
  | true =>
  go_wp2_with fail
  have fn1 : a.nc ≤ 1048576 := HFa.out.nc
  have fm1 : b.nc ≤ 1048576 := HFb.out.nc
  refine (libStr p.pc q.pc a.nc b.nc p.kc q.kc a.C b.C V1 fn1 fm1 (HPa.out V1 HA.out).c (HPb.out V1 HA.out).c r1 R1.out).mono ?_
  rintro e V2 ⟨rfl, hb⟩
  have nA := HA.out.trans (hb.mono HA.out.size)
  have nL := HL.out.below hb lL
  have nM := HM.out.below hb lM
  clear hb HA HL HM lL lM fn1 fm1 m0 n0 m1 n1 m2 n2 m3 n3
  have HA : Hid (Below w.heap.size w V2) := nA
  have HL : Hid (Lies V2 w.heap.size 46 (lnkC a p)) := nL
  have HM : Hid (Lies V2 (w.heap.size + 1) 46 (lnkC b q)) := nM
  have lL := nL.lt
  have lM := nM.lt
  have m0 := lnk0 nL
  have n0 := lnk0 nM
  have m1 := lnk1 nL
  have n1 := lnk1 nM
  have m2 := lnk2 nL
  have n2 := lnk2 nM
  have m3 := lnk3 nL
  have n3 := lnk3 nM
  clear nA nL nM
  cases r1 with
  | false =>
    obtain rfl : false = r := by rw [← hR]; simp
    go_wp2_with fail
    go_ret
    exact ⟨rfl, HA.out⟩
  | true =>
  go_wp2_with fail
  have fn2 : a.nx ≤ 1048576 := HFa.out.nx
  have fm2 : b.nx ≤ 1048576 := HFb.out.nx
  refine (libNum p.px q.px a.nx b.nx p.kx q.kx a.X b.X V2 fn2 fm2 (HPa.out V2 HA.out).x (HPb.out V2 HA.out).x r2 R2.out).mono ?_
  rintro e V3 ⟨rfl, hb⟩
  have nA := HA.out.trans (hb.mono HA.out.size)
  have nL := HL.out.below hb lL
  have nM := HM.out.below hb lM
  clear hb HA HL HM lL lM fn2 fm2 m0 n0 m1 n1 m2 n2 m3 n3
  have HA : Hid (Below w.heap.size w V3) := nA
  have HL : Hid (Lies V3 w.heap.size 46 (lnkC a p)) := nL
  have HM : Hid (Lies V3 (w.heap.size + 1) 46 (lnkC b q)) := nM
  have lL := nL.lt
  have lM := nM.lt
  have m0 := lnk0 nL
  have n0 := lnk0 nM
  have m1 := lnk1 nL
  have n1 := lnk1 nM
  have m2 := lnk2 nL
  have n2 := lnk2 nM
  have m3 := lnk3 nL
  have n3 := lnk3 nM
  clear nA nL nM
  cases r2 with
  | false =>
    obtain rfl : false = r := by rw [← hR]; simp
    go_wp2_with fail
    go_ret
    exact ⟨rfl, HA.out⟩
  | true =>
  go_wp2_with fail
  have fn3 : a.nd ≤ 1048576 := HFa.out.nd
  have fm3 : b.nd ≤ 1048576 := HFb.out.nd
  refine (libStr p.pd q.pd a.nd b.nd p.kd q.kd a.D b.D V3 fn3 fm3 (HPa.out V3 HA.out).d (HPb.out V3 HA.out).d r3 R3.out).mono ?_
  rintro e V4 ⟨rfl, hb⟩
  have nA := HA.out.trans (hb.mono HA.out.size)
  have nL := HL.out.below hb lL
  have nM := HM.out.below hb lM
  clear hb HA HL HM lL lM fn3 fm3 m0 n0 m1 n1 m2 n2 m3 n3
  have HA : Hid (Below w.heap.size w V4) := nA
  have HL : Hid (Lies V4 w.heap.size 46 (lnkC a p)) := nL
  have HM : Hid (Lies V4 (w.heap.size + 1) 46 (lnkC b q)) := nM
  have lL := nL.lt
  have lM := nM.lt
  have m0 := lnk0 nL
  have n0 := lnk0 nM
  have m1 := lnk1 nL
  have n1 := lnk1 nM
  have m2 := lnk2 nL
  have n2 := lnk2 nM
  have m3 := lnk3 nL
  have n3 := lnk3 nM
  clear nA nL nM
  obtain rfl : r3 = r := by rw [← hR]; simp
  go_wp2_with fail
  go_ret
  exact ⟨rfl, HA.out⟩

set_option maxRecDepth 100000 in
set_option maxHeartbeats 8000000 in
theorem specSameL (p q : LnkPt) (a b : LnkD) (w : World) (fa : a.fits) (fb : b.fits) (hp : LnkAt w p a) (hq : LnkAt w q b) (r : Bool) (hr : sameLB a b = r) :
    Calls Try.prog 21 #[.agg (lnkC a p), .agg (lnkC b q)] w fun e w' => e = .returned (.bool r) ∧ Below w.heap.size w w' := by
  have bA : Below w.heap.size w ((w.alloc (.cells (lnkC a p) 46)).alloc (.cells (lnkC b q) 46)) := ((Below.refl _ _).alloc (Nat.le_refl _) _).alloc (by simp) _
  have l1 := (Lies.new w (lnkC a p) 46).alloc (.cells (lnkC b q) 46)
  have l2 := Lies.newAt (w.alloc (.cells (lnkC a p) 46)) (lnkC b q) 46 (g := w.heap.size + 1) (by simp)
  have HPa : Hid (∀ W : World, Below w.heap.size w W → LnkAt W p a) := fun W h => hp.below h
  have HPb : Hid (∀ W : World, Below w.heap.size w W → LnkAt W q b) := fun W h => hq.below h
  have HFa : Hid a.fits := fa
  have HFb : Hid b.fits := fb
  have hR := hr
  unfold sameLB at hR
  obtain ⟨r0, e0⟩ : ∃ x, listB (a.na = b.na ∧ ∀ i, i < a.na → a.A i = b.A i) = x := ⟨_, rfl⟩
  obtain ⟨r1, e1⟩ : ∃ x, listB (a.nc = b.nc ∧ ∀ i, i < a.nc → a.C i = b.C i) = x := ⟨_, rfl⟩
  obtain ⟨r2, e2⟩ : ∃ x, listB (a.nx = b.nx ∧ ∀ i, i < a.nx → a.X i = b.X i) = x := ⟨_, rfl⟩
  obtain ⟨r3, e3⟩ : ∃ x, listB (a.nd = b.nd ∧ ∀ i, i < a.nd → a.D i = b.D i) = x := ⟨_, rfl⟩
  rw [e0, e1, e2, e3] at hR
  have R0 : Hid (r0 = true ↔ (a.na = b.na ∧ ∀ i, i < a.na → a.A i = b.A i)) := by rw [← e0]; exact listB_iff
  have R1 : Hid (r1 = true ↔ (a.nc = b.nc ∧ ∀ i, i < a.nc → a.C i = b.C i)) := by rw [← e1]; exact listB_iff
  have R2 : Hid (r2 = true ↔ (a.nx = b.nx ∧ ∀ i, i < a.nx → a.X i = b.X i)) := by rw [← e2]; exact listB_iff
  have R3 : Hid (r3 = true ↔ (a.nd = b.nd ∧ ∀ i, i < a.nd → a.D i = b.D i)) := by rw [← e3]; exact listB_iff
  clear hp hq hr fa fb e0 e1 e2 e3
  go_enter Try.func21, Try.ntmps21
  go_wp2_with fail
  obtain ⟨V0, hW0⟩ : ∃ V, ((w.alloc (.cells #[.slice p.pa a.na p.ka, .slice p.pc a.nc p.kc, .slice p.px a.nx p.kx, .slice p.pd a.nd p.kd] 46)).alloc (.cells #[.slice q.pa b.na q.ka, .slice q.pc b.nc q.kc, .slice q.px b.nx q.kx, .slice q.pd b.nd q.kd] 46)) = V := ⟨_, rfl⟩
  rw [hW0] at bA l1 l2 ⊢
  have HA : Hid (Below w.heap.size w V0) := bA
  have HL : Hid (Lies V0 w.heap.size 46 (lnkC a p)) := l1
  have HM : Hid (Lies V0 (w.heap.size + 1) 46 (lnkC b q)) := l2
  have lL := l1.lt
  have lM := l2.lt
  clear hW0 bA l1 l2
  have fn0 : a.na ≤ 1048576 := HFa.out.na
  have fm0 : b.na ≤ 1048576 := HFb.out.na
  refine (modNum p.pa q.pa a.na b.na p.ka q.ka a.A b.A V0 fn0 fm0 (HPa.out V0 HA.out).a (HPb.out V0 HA.out).a r0 R0.out).mono ?_
  rintro e V1 ⟨rfl, hb⟩
  have nA := HA.out.trans (hb.mono HA.out.size)
  have nL := HL.out.below hb lL
  have nM := HM.out.below hb lM
  clear hb HA HL HM lL lM fn0 fm0
  have HA : Hid (Below w.heap.size w V1) := nA
  have HL : Hid (Lies V1 w.heap.size 46 (lnkC a p)) := nL
  have HM : Hid (Lies V1 (w.heap.size + 1) 46 (lnkC b q)) := nM
  have lL := nL.lt
  have lM := nM.lt
  have m0 := lnk0 nL
  have n0 := lnk0 nM
  have m1 := lnk1 nL
  have n1 := lnk1 nM
  have m2 := lnk2 nL
  have n2 := lnk2 nM
  have m3 := lnk3 nL
  have n3 := lnk3 nM
  clear nA nL nM
  cases r0 with
  | false =>
    obtain rfl : false = r := by rw [← hR]; simp
    go_wp2_with fail
    go_ret
    exact ⟨rfl, HA.out⟩
  | true =>
  go_wp2_with fail
  have fn1 : a.nc ≤ 1048576 := HFa.out.nc
  have fm1 : b.nc ≤ 1048576 := HFb.out.nc
  refine (modStr p.pc q.pc a.nc b.nc p.kc q.kc a.C b.C V1 fn1 fm1 (HPa.out V1 HA.out).c (HPb.out V1 HA.out).c r1 R1.out).mono ?_
  rintro e V2 ⟨rfl, hb⟩
  have nA := HA.out.trans (hb.mono HA.out.size)
  have nL := HL.out.below hb lL
  have nM := HM.out.below hb lM
  clear hb HA HL HM lL lM fn1 fm1 m0 n0 m1 n1 m2 n2 m3 n3
  have HA : Hid (Below w.heap.size w V2) := nA
  have HL : Hid (Lies V2 w.heap.size 46 (lnkC a p)) := nL
  have HM : Hid (Lies V2 (w.heap.size + 1) 46 (lnkC b q)) := nM
  have lL := nL.lt
  have lM := nM.lt
  have m0 := lnk0 nL
  have n0 := lnk0 nM
  have m1 := lnk1 nL
  have n1 := lnk1 nM
  have m2 := lnk2 nL
  have n2 := lnk2 nM
  have m3 := lnk3 nL
  have n3 := lnk3 nM
  clear nA nL nM
  cases r1 with
  | false =>
    obtain rfl : false = r := by rw [← hR]; simp
    go_wp2_with fail
    go_ret
    exact ⟨rfl, HA.out⟩
  | true =>
  go_wp2_with fail
  have fn2 : a.nx ≤ 1048576 := HFa.out.nx
  have fm2 : b.nx ≤ 1048576 := HFb.out.nx
  refine (modNum p.px q.px a.nx b.nx p.kx q.kx a.X b.X V2 fn2 fm2 (HPa.out V2 HA.out).x (HPb.out V2 HA.out).x r2 R2.out).mono ?_
  rintro e V3 ⟨rfl, hb⟩
  have nA := HA.out.trans (hb.mono HA.out.size)
  have nL := HL.out.below hb lL
  have nM := HM.out.below hb lM
  clear hb HA HL HM lL lM fn2 fm2 m0 n0 m1 n1 m2 n2 m3 n3
  have HA : Hid (Below w.heap.size w V3) := nA
  have HL : Hid (Lies V3 w.heap.size 46 (lnkC a p)) := nL
  have HM : Hid (Lies V3 (w.heap.size + 1) 46 (lnkC b q)) := nM
  have lL := nL.lt
  have lM := nM.lt
  have m0 := lnk0 nL
  have n0 := lnk0 nM
  have m1 := lnk1 nL
  have n1 := lnk1 nM
  have m2 := lnk2 nL
  have n2 := lnk2 nM
  have m3 := lnk3 nL
  have n3 := lnk3 nM
  clear nA nL nM
  cases r2 with
  | false =>
    obtain rfl : false = r := by rw [← hR]; simp
    go_wp2_with fail
    go_ret
    exact ⟨rfl, HA.out⟩
  | true =>
  go_wp2_with fail
  have fn3 : a.nd ≤ 1048576 := HFa.out.nd
  have fm3 : b.nd ≤ 1048576 := HFb.out.nd
  refine (modStr p.pd q.pd a.nd b.nd p.kd q.kd a.D b.D V3 fn3 fm3 (HPa.out V3 HA.out).d (HPb.out V3 HA.out).d r3 R3.out).mono ?_
  rintro e V4 ⟨rfl, hb⟩
  have nA := HA.out.trans (hb.mono HA.out.size)
  have nL := HL.out.below hb lL
  have nM := HM.out.below hb lM
  clear hb HA HL HM lL lM fn3 fm3 m0 n0 m1 n1 m2 n2 m3 n3
  have HA : Hid (Below w.heap.size w V4) := nA
  have HL : Hid (Lies V4 w.heap.size 46 (lnkC a p)) := nL
  have HM : Hid (Lies V4 (w.heap.size + 1) 46 (lnkC b q)) := nM
  have lL := nL.lt
  have lM := nM.lt
  have m0 := lnk0 nL
  have n0 := lnk0 nM
  have m1 := lnk1 nL
  have n1 := lnk1 nM
  have m2 := lnk2 nL
  have n2 := lnk2 nM
  have m3 := lnk3 nL
  have n3 := lnk3 nM
  clear nA nL nM
  obtain rfl : r3 = r := by rw [← hR]; simp
  go_wp2_with fail
  go_ret
  exact ⟨rfl, HA.out⟩

end Go.Proofs.Ytelogjpjglohoaa
