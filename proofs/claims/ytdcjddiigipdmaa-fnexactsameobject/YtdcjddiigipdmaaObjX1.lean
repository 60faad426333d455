/- Lists of structs held against each other by the library (gen_objx.py). -/
import Derived.Test.YtdcjddiigipdmaaObjO
namespace Go.Proofs.Ytdcjddiigipdmaa
open Go Go.RowKit
set_option linter.unusedVariables false

theorem toL_inj {a b : ByteArray} (h : a.toList = b.toList) : a = b := by
  rw [ByteArray.toList_eq, ByteArray.toList_eq] at h
  cases a with
  | mk x =>
    cases b with
    | mk y => simp at h; rw [show x = y from h]


set_option maxRecDepth 100000 in
set_option maxHeartbeats 4000000 in
theorem eqlF (p q : Option Addr) (n m c d : Nat) (S T : Nat → FunD) (w : World) (hn : n ≤ 1048576) (hm : m ≤ 1048576) (hp : FunsAt w p n S) (hq : FunsAt w q m T) (b : Bool) (hb : b = true ↔ n = m ∧ ∀ i, i < n → S i = T i) :
    Calls Try.prog 64 #[.slice p n c, .slice q m d] w fun e w' => e = .returned (.bool b) ∧ Below w.heap.size w w' := by
  by_cases hnm : ¬ n = m
  · have hnb : ((n : Int) != (m : Int)) = true := by simpa using (fun h => hnm (by omega))
    have hbf : b = false := by cases b <;> simp_all
    subst hbf
    go_enter Try.func64, Try.ntmps64
    go_wp2_with fail
    go_ret
    exact ⟨rfl, Below.refl _ _⟩
  have hnm : n = m := Classical.byContradiction hnm
  subst hnm
  have h1 : b = true → ∀ i, i < n → S i = T i := fun h => (hb.1 h).2
  have h2 : (∀ i, i < n → S i = T i) → b = true := fun h => hb.2 ⟨rfl, h⟩
  have HB1 : Hid (b = true → ∀ i, i < n → S i = T i) := h1
  have HB2 : Hid ((∀ i, i < n → S i = T i) → b = true) := h2
  clear hb h1 h2
  go_enter Try.func64, Try.ntmps64
  go_wp2_with fail
  go_loopw [13] (fun i wr => ∃ k : Nat, k ≤ n ∧ i = .int .i64 k ∧ Hid (∀ j, j < k → S j = T j) ∧ Below w.heap.size w wr) (fun i _ => n - (intOf i).toNat)
  case atStart => exact ⟨0, Nat.zero_le _, rfl, fun j hj => absurd hj (Nat.not_lt_zero _), Below.refl _ _⟩
  case round =>
    obtain ⟨k, hk, rfl, HALL, hB⟩ := hrel
    have HB : Hid (Below w.heap.size w wr ∧ Below w.heap.size w wr.drew) := ⟨hB, hB.drew⟩
    by_cases hlt : k < n
    · rcases hp with hp | ⟨pb, po, rfl, hpl, hp⟩
      · omega
      rcases hq with hq | ⟨qb, qo, rfl, hql, hq⟩
      · omega
      obtain ⟨x0, x1, x2, x3⟩ := (hp.below hB hpl).fun hlt
      obtain ⟨y0, y1, y2, y3⟩ := (hq.below hB hql).fun hlt
      obtain ⟨s, es⟩ : ∃ s, S k = s := ⟨_, rfl⟩
      obtain ⟨t, et⟩ : ∃ s, T k = s := ⟨_, rfl⟩
      rw [es] at x0 x1 x2 x3
      rw [et] at y0 y1 y2 y3
      have ES : Hid (S k = s) := es
      have ET : Hid (T k = t) := et
      clear hp hq hB es et
      by_cases he : s = t
      · subst he
        have HNX : Hid (∀ j, j < k + 1 → S j = T j) := fun j hj => by
          rcases Nat.lt_succ_iff_lt_or_eq.1 hj with h' | rfl
          · exact HALL.out j h'
          · rw [ES.out, ET.out]
        go_wp2_with fail
        go_region
        all_goals
          go_wp2_with fail
          go_roundw
          case rel =>
            first
              | exact ⟨k + 1, by omega, by go_num, HNX, by first | exact HB.out.2 | exact HB.out.1⟩
              | ((repeat apply Exists.intro); exact ⟨⟨k + 1, by omega, by go_num, HNX, by first | exact HB.out.2 | exact HB.out.1⟩, rfl⟩)
          case measure => simp [intOf]; omega
      · have hbf : b = false := by
          cases b with
          | false => rfl
          | true => exact absurd (HB1.out rfl k hlt) (by rw [ES.out, ET.out]; exact he)
        have key : (¬ s.nm = t.nm) ∨ (s.nm = t.nm ∧ ¬ s.rp = t.rp) ∨ (s.nm = t.nm ∧ s.rp = t.rp ∧ ¬ s.fr = t.fr) ∨ (s.nm = t.nm ∧ s.rp = t.rp ∧ s.fr = t.fr ∧ ¬ s.cd = t.cd) := by
          cases s
          cases t
          simp only [FunD.mk.injEq] at he
          simp only
          by_cases g0 : True
          · exact Classical.byContradiction fun hc => he (by simp only [not_or, not_and, Classical.not_not] at hc; simp_all)
          · exact absurd trivial g0
        subst hbf
        rcases key with k0 | ⟨k0, k1⟩ | ⟨k0, k1, k2⟩ | ⟨k0, k1, k2, k3⟩
        · have z : ¬ s.nm.toList = t.nm.toList := fun h => k0 (toL_inj h)
          clear k0
          go_wp2_with fail
          go_region
          all_goals
            go_wp2_with fail
            go_ret
            exact ⟨rfl, by first | exact HB.out.2 | exact HB.out.1⟩
        · skip
          go_wp2_with fail
          go_region
          all_goals
            go_wp2_with fail
            go_ret
            exact ⟨rfl, by first | exact HB.out.2 | exact HB.out.1⟩
        · skip
          go_wp2_with fail
          go_region
          all_goals
            go_wp2_with fail
            go_ret
            exact ⟨rfl, by first | exact HB.out.2 | exact HB.out.1⟩
        · have z : ¬ s.cd.toList = t.cd.toList := fun h => k3 (toL_inj h)
          clear k3
          go_wp2_with fail
          go_region
          all_goals
            go_wp2_with fail
            go_ret
            exact ⟨rfl, by first | exact HB.out.2 | exact HB.out.1⟩
    · obtain rfl : k = n := by omega
      have hbt : b = true := HB2.out HALL.out
      subst hbt
      clear hp hq
      go_wp2_with fail
      go_ret
      exact ⟨rfl, hB⟩

set_option maxRecDepth 100000 in
set_option maxHeartbeats 4000000 in
theorem eqlD (p q : Option Addr) (n m c d : Nat) (S T : Nat → DatD) (w : World) (hn : n ≤ 1048576) (hm : m ≤ 1048576) (hp : DatsAt w p n S) (hq : DatsAt w q m T) (b : Bool) (hb : b = true ↔ n = m ∧ ∀ i, i < n → S i = T i) :
    Calls Try.prog 65 #[.slice p n c, .slice q m d] w fun e w' => e = .returned (.bool b) ∧ Below w.heap.size w w' := by
  by_cases hnm : ¬ n = m
  · have hnb : ((n : Int) != (m : Int)) = true := by simpa using (fun h => hnm (by omega))
    have hbf : b = false := by cases b <;> simp_all
    subst hbf
    go_enter Try.func65, Try.ntmps65
    go_wp2_with fail
    go_ret
    exact ⟨rfl, Below.refl _ _⟩
  have hnm : n = m := Classical.byContradiction hnm
  subst hnm
  have h1 : b = true → ∀ i, i < n → S i = T i := fun h => (hb.1 h).2
  have h2 : (∀ i, i < n → S i = T i) → b = true := fun h => hb.2 ⟨rfl, h⟩
  have HB1 : Hid (b = true → ∀ i, i < n → S i = T i) := h1
  have HB2 : Hid ((∀ i, i < n → S i = T i) → b = true) := h2
  clear hb h1 h2
  go_enter Try.func65, Try.ntmps65
  go_wp2_with fail
  go_loopw [13] (fun i wr => ∃ k : Nat, k ≤ n ∧ i = .int .i64 k ∧ Hid (∀ j, j < k → S j = T j) ∧ Below w.heap.size w wr) (fun i _ => n - (intOf i).toNat)
  case atStart => exact ⟨0, Nat.zero_le _, rfl, fun j hj => absurd hj (Nat.not_lt_zero _), Below.refl _ _⟩
  case round =>
    obtain ⟨k, hk, rfl, HALL, hB⟩ := hrel
    have HB : Hid (Below w.heap.size w wr ∧ Below w.heap.size w wr.drew) := ⟨hB, hB.drew⟩
    by_cases hlt : k < n
    · rcases hp with hp | ⟨pb, po, rfl, hpl, hp⟩
      · omega
      rcases hq with hq | ⟨qb, qo, rfl, hql, hq⟩
      · omega
      obtain ⟨x0, x1⟩ := (hp.below hB hpl).dat hlt
      obtain ⟨y0, y1⟩ := (hq.below hB hql).dat hlt
      obtain ⟨s, es⟩ : ∃ s, S k = s := ⟨_, rfl⟩
      obtain ⟨t, et⟩ : ∃ s, T k = s := ⟨_, rfl⟩
      rw [es] at x0 x1
      rw [et] at y0 y1
      have ES : Hid (S k = s) := es
      have ET : Hid (T k = t) := et
      clear hp hq hB es et
      by_cases he : s = t
      · subst he
        have HNX : Hid (∀ j, j < k + 1 → S j = T j) := fun j hj => by
          rcases Nat.lt_succ_iff_lt_or_eq.1 hj with h' | rfl
          · exact HALL.out j h'
          · rw [ES.out, ET.out]
        go_wp2_with fail
        go_region
        all_goals
          go_wp2_with fail
          go_roundw
          case rel =>
            first
              | exact ⟨k + 1, by omega, by go_num, HNX, by first | exact HB.out.2 | exact HB.out.1⟩
              | ((repeat apply Exists.intro); exact ⟨⟨k + 1, by omega, by go_num, HNX, by first | exact HB.out.2 | exact HB.out.1⟩, rfl⟩)
          case measure => simp [intOf]; omega
      · have hbf : b = false := by
          cases b with
          | false => rfl
          | true => exact absurd (HB1.out rfl k hlt) (by rw [ES.out, ET.out]; exact he)
        have key : (¬ s.nm = t.nm) ∨ (s.nm = t.nm ∧ ¬ s.bs = t.bs) := by
          cases s
          cases t
          simp only [DatD.mk.injEq] at he
          simp only
          by_cases g0 : True
          · exact Classical.byContradiction fun hc => he (by simp only [not_or, not_and, Classical.not_not] at hc; simp_all)
          · exact absurd trivial g0
        subst hbf
        rcases key with k0 | ⟨k0, k1⟩
        · have z : ¬ s.nm.toList = t.nm.toList := fun h => k0 (toL_inj h)
          clear k0
          go_wp2_with fail
          go_region
          all_goals
            go_wp2_with fail
            go_ret
            exact ⟨rfl, by first | exact HB.out.2 | exact HB.out.1⟩
        · have z : ¬ s.bs.toList = t.bs.toList := fun h => k1 (toL_inj h)
          clear k1
          go_wp2_with fail
          go_region
          all_goals
            go_wp2_with fail
            go_ret
            exact ⟨rfl, by first | exact HB.out.2 | exact HB.out.1⟩
    · obtain rfl : k = n := by omega
      have hbt : b = true := HB2.out HALL.out
      subst hbt
      clear hp hq
      go_wp2_with fail
      go_ret
      exact ⟨rfl, hB⟩

set_option maxRecDepth 100000 in
set_option maxHeartbeats 4000000 in
theorem eqlR (p q : Option Addr) (n m c d : Nat) (S T : Nat → RelD) (w : World) (hn : n ≤ 1048576) (hm : m ≤ 1048576) (hp : RelsAt w p n S) (hq : RelsAt w q m T) (b : Bool) (hb : b = true ↔ n = m ∧ ∀ i, i < n → S i = T i) :
    Calls Try.prog 66 #[.slice p n c, .slice q m d] w fun e w' => e = .returned (.bool b) ∧ Below w.heap.size w w' := by
  by_cases hnm : ¬ n = m
  · have hnb : ((n : Int) != (m : Int)) = true := by simpa using (fun h => hnm (by omega))
    have hbf : b = false := by cases b <;> simp_all
    subst hbf
    go_enter Try.func66, Try.ntmps66
    go_wp2_with fail
    go_ret
    exact ⟨rfl, Below.refl _ _⟩
  have hnm : n = m := Classical.byContradiction hnm
  subst hnm
  have h1 : b = true → ∀ i, i < n → S i = T i := fun h => (hb.1 h).2
  have h2 : (∀ i, i < n → S i = T i) → b = true := fun h => hb.2 ⟨rfl, h⟩
  have HB1 : Hid (b = true → ∀ i, i < n → S i = T i) := h1
  have HB2 : Hid ((∀ i, i < n → S i = T i) → b = true) := h2
  clear hb h1 h2
  go_enter Try.func66, Try.ntmps66
  go_wp2_with fail
  go_loopw [13] (fun i wr => ∃ k : Nat, k ≤ n ∧ i = .int .i64 k ∧ Hid (∀ j, j < k → S j = T j) ∧ Below w.heap.size w wr) (fun i _ => n - (intOf i).toNat)
  case atStart => exact ⟨0, Nat.zero_le _, rfl, fun j hj => absurd hj (Nat.not_lt_zero _), Below.refl _ _⟩
  case round =>
    obtain ⟨k, hk, rfl, HALL, hB⟩ := hrel
    have HB : Hid (Below w.heap.size w wr ∧ Below w.heap.size w wr.drew) := ⟨hB, hB.drew⟩
    by_cases hlt : k < n
    · rcases hp with hp | ⟨pb, po, rfl, hpl, hp⟩
      · omega
      rcases hq with hq | ⟨qb, qo, rfl, hql, hq⟩
      · omega
      obtain ⟨x0, x1, x2, x3, x4⟩ := (hp.below hB hpl).rel hlt
      obtain ⟨y0, y1, y2, y3, y4⟩ := (hq.below hB hql).rel hlt
      obtain ⟨s, es⟩ : ∃ s, S k = s := ⟨_, rfl⟩
      obtain ⟨t, et⟩ : ∃ s, T k = s := ⟨_, rfl⟩
      rw [es] at x0 x1 x2 x3 x4
      rw [et] at y0 y1 y2 y3 y4
      have ES : Hid (S k = s) := es
      have ET : Hid (T k = t) := et
      clear hp hq hB es et
      by_cases he : s = t
      · subst he
        have HNX : Hid (∀ j, j < k + 1 → S j = T j) := fun j hj => by
          rcases Nat.lt_succ_iff_lt_or_eq.1 hj with h' | rfl
          · exact HALL.out j h'
          · rw [ES.out, ET.out]
        go_wp2_with fail
        go_region
        all_goals
          go_wp2_with fail
          go_roundw
          case rel =>
            first
              | exact ⟨k + 1, by omega, by go_num, HNX, by first | exact HB.out.2 | exact HB.out.1⟩
              | ((repeat apply Exists.intro); exact ⟨⟨k + 1, by omega, by go_num, HNX, by first | exact HB.out.2 | exact HB.out.1⟩, rfl⟩)
          case measure => simp [intOf]; omega
      · have hbf : b = false := by
          cases b with
          | false => rfl
          | true => exact absurd (HB1.out rfl k hlt) (by rw [ES.out, ET.out]; exact he)
        have key : (¬ s.un = t.un) ∨ (s.un = t.un ∧ ¬ s.pl = t.pl) ∨ (s.un = t.un ∧ s.pl = t.pl ∧ ¬ s.kd = t.kd) ∨ (s.un = t.un ∧ s.pl = t.pl ∧ s.kd = t.kd ∧ ¬ s.sy = t.sy) ∨ (s.un = t.un ∧ s.pl = t.pl ∧ s.kd = t.kd ∧ s.sy = t.sy ∧ ¬ s.ad = t.ad) := by
          cases s
          cases t
          simp only [RelD.mk.injEq] at he
          simp only
          by_cases g0 : True
          · exact Classical.byContradiction fun hc => he (by simp only [not_or, not_and, Classical.not_not] at hc; simp_all)
          · exact absurd trivial g0
        subst hbf
        rcases key with k0 | ⟨k0, k1⟩ | ⟨k0, k1, k2⟩ | ⟨k0, k1, k2, k3⟩ | ⟨k0, k1, k2, k3, k4⟩
        · skip
          go_wp2_with fail
          go_region
          all_goals
            go_wp2_with fail
            go_ret
            exact ⟨rfl, by first | exact HB.out.2 | exact HB.out.1⟩
        · skip
          go_wp2_with fail
          go_region
          all_goals
            go_wp2_with fail
            go_ret
            exact ⟨rfl, by first | exact HB.out.2 | exact HB.out.1⟩
        · skip
          go_wp2_with fail
          go_region
          all_goals
            go_wp2_with fail
            go_ret
            exact ⟨rfl, by first | exact HB.out.2 | exact HB.out.1⟩
        · have z : ¬ s.sy.toList = t.sy.toList := fun h => k3 (toL_inj h)
          clear k3
          go_wp2_with fail
          go_region
          all_goals
            go_wp2_with fail
            go_ret
            exact ⟨rfl, by first | exact HB.out.2 | exact HB.out.1⟩
        · skip
          go_wp2_with fail
          go_region
          all_goals
            go_wp2_with fail
            go_ret
            exact ⟨rfl, by first | exact HB.out.2 | exact HB.out.1⟩
    · obtain rfl : k = n := by omega
      have hbt : b = true := HB2.out HALL.out
      subst hbt
      clear hp hq
      go_wp2_with fail
      go_ret
      exact ⟨rfl, hB⟩

set_option maxRecDepth 100000 in
set_option maxHeartbeats 4000000 in
theorem eqlS (p q : Option Addr) (n m c d : Nat) (S T : Nat → ShaD) (w : World) (hn : n ≤ 1048576) (hm : m ≤ 1048576) (hp : ShasAt w p n S) (hq : ShasAt w q m T) (b : Bool) (hb : b = true ↔ n = m ∧ ∀ i, i < n → S i = T i) :
    Calls Try.prog 67 #[.slice p n c, .slice q m d] w fun e w' => e = .returned (.bool b) ∧ Below w.heap.size w w' := by
  by_cases hnm : ¬ n = m
  · have hnb : ((n : Int) != (m : Int)) = true := by simpa using (fun h => hnm (by omega))
    have hbf : b = false := by cases b <;> simp_all
    subst hbf
    go_enter Try.func67, Try.ntmps67
    go_wp2_with fail
    go_ret
    exact ⟨rfl, Below.refl _ _⟩
  have hnm : n = m := Classical.byContradiction hnm
  subst hnm
  have h1 : b = true → ∀ i, i < n → S i = T i := fun h => (hb.1 h).2
  have h2 : (∀ i, i < n → S i = T i) → b = true := fun h => hb.2 ⟨rfl, h⟩
  have HB1 : Hid (b = true → ∀ i, i < n → S i = T i) := h1
  have HB2 : Hid ((∀ i, i < n → S i = T i) → b = true) := h2
  clear hb h1 h2
  go_enter Try.func67, Try.ntmps67
  go_wp2_with fail
  go_loopw [13] (fun i wr => ∃ k : Nat, k ≤ n ∧ i = .int .i64 k ∧ Hid (∀ j, j < k → S j = T j) ∧ Below w.heap.size w wr) (fun i _ => n - (intOf i).toNat)
  case atStart => exact ⟨0, Nat.zero_le _, rfl, fun j hj => absurd hj (Nat.not_lt_zero _), Below.refl _ _⟩
  case round =>
    obtain ⟨k, hk, rfl, HALL, hB⟩ := hrel
    have HB : Hid (Below w.heap.size w wr ∧ Below w.heap.size w wr.drew) := ⟨hB, hB.drew⟩
    by_cases hlt : k < n
    · rcases hp with hp | ⟨pb, po, rfl, hpl, hp⟩
      · omega
      rcases hq with hq | ⟨qb, qo, rfl, hql, hq⟩
      · omega
      obtain ⟨x0, x1⟩ := (hp.below hB hpl).sha hlt
      obtain ⟨y0, y1⟩ := (hq.below hB hql).sha hlt
      obtain ⟨s, es⟩ : ∃ s, S k = s := ⟨_, rfl⟩
      obtain ⟨t, et⟩ : ∃ s, T k = s := ⟨_, rfl⟩
      rw [es] at x0 x1
      rw [et] at y0 y1
      have ES : Hid (S k = s) := es
      have ET : Hid (T k = t) := et
      clear hp hq hB es et
      by_cases he : s = t
      · subst he
        have HNX : Hid (∀ j, j < k + 1 → S j = T j) := fun j hj => by
          rcases Nat.lt_succ_iff_lt_or_eq.1 hj with h' | rfl
          · exact HALL.out j h'
          · rw [ES.out, ET.out]
        go_wp2_with fail
        go_region
        all_goals
          go_wp2_with fail
          go_roundw
          case rel =>
            first
              | exact ⟨k + 1, by omega, by go_num, HNX, by first | exact HB.out.2 | exact HB.out.1⟩
              | ((repeat apply Exists.intro); exact ⟨⟨k + 1, by omega, by go_num, HNX, by first | exact HB.out.2 | exact HB.out.1⟩, rfl⟩)
          case measure => simp [intOf]; omega
      · have hbf : b = false := by
          cases b with
          | false => rfl
          | true => exact absurd (HB1.out rfl k hlt) (by rw [ES.out, ET.out]; exact he)
        have key : (¬ s.id = t.id) ∨ (s.id = t.id ∧ ¬ s.fe = t.fe) := by
          cases s
          cases t
          simp only [ShaD.mk.injEq] at he
          simp only
          by_cases g0 : True
          · exact Classical.byContradiction fun hc => he (by simp only [not_or, not_and, Classical.not_not] at hc; simp_all)
          · exact absurd trivial g0
        subst hbf
        rcases key with k0 | ⟨k0, k1⟩
        · skip
          go_wp2_with fail
          go_region
          all_goals
            go_wp2_with fail
            go_ret
            exact ⟨rfl, by first | exact HB.out.2 | exact HB.out.1⟩
        · skip
          go_wp2_with fail
          go_region
          all_goals
            go_wp2_with fail
            go_ret
            exact ⟨rfl, by first | exact HB.out.2 | exact HB.out.1⟩
    · obtain rfl : k = n := by omega
      have hbt : b = true := HB2.out HALL.out
      subst hbt
      clear hp hq
      go_wp2_with fail
      go_ret
      exact ⟨rfl, hB⟩
end Go.Proofs.Ytdcjddiigipdmaa
