/- Numbers and their texts: plain. The model's reading of a number: the contract. The runs of bytes of a text that are not blanks: plain. Digits of numbers, in the model: the contract. Contract of the model's test of bounds. -/
import Derived.Lib.ItoaNum
import Derived.Lib.ItoaMem
import Derived.Lib.AtoiAll
import Derived.Lib.Atoi
import Derived.Test.YtdbngfeelfgbeaaDoorChecked
import Derived.WalkKit
import Derived.WalkSpells
import Derived.LoopTactic
import Derived.Laws.IdiomStrings
import Derived.Lib.Strings
import Derived.Lib.FieldsP
import Derived.Deep.RegionHeld3
import Derived.Deep.AppendLies
import Derived.Lib.ItoaLen
import Derived.Test.YtdbngfeelfgbeaaDoorRows
import Derived.ProofKit
namespace Go.Proofs.YtdbngfeelfgbeaaDoor.Tx

theorem decFrom_snoc (acc : Nat) (b : UInt8) : ∀ l : List UInt8, Lib.decFrom acc (l ++ [b]) = (Lib.decFrom acc l).bind fun m => (Lib.digitVal b).map fun d => m * 10 + d := by
  intro l
  induction l generalizing acc with
  | nil =>
    simp only [List.nil_append, Lib.decFrom]
    cases Lib.digitVal b <;> rfl
  | cons a t ih =>
    simp only [List.cons_append, Lib.decFrom]
    cases Lib.digitVal a with
    | none => rfl
    | some e => exact ih _

theorem digitVal_dig (d : Nat) (h : d < 10) : Lib.digitVal (UInt8.ofNat (48 + d)) = some d := by
  have e : (UInt8.ofNat (48 + d)).toNat = 48 + d := UInt8.toNat_ofNat_of_lt' (by unfold UInt8.size; omega)
  unfold Lib.digitVal
  rw [e, if_pos (by omega)]
  congr 1
  omega
theorem dig_of_val {b : UInt8} {d : Nat} (h : Lib.digitVal b = some d) : d < 10 ∧ UInt8.ofNat (48 + d) = b := by
  unfold Lib.digitVal at h
  split at h
  · simp only [Option.some.injEq] at h
    subst h
    refine ⟨by omega, ?_⟩
    rw [show 48 + (b.toNat - 48) = b.toNat by omega]
    exact UInt8.ofNat_toNat
  · cases h

theorem decDigits_ne (m : Nat) : Lib.decDigits m ≠ [] := by
  rw [Lib.decDigits]
  split <;> simp

/-- A number is read back from its digits. -/
theorem dec_back (m : Nat) : Lib.decFrom 0 (Lib.decDigits m) = some m := by
  induction m using Nat.strongRecOn with
  | _ m ih =>
    rw [Lib.decDigits]
    split
    · rename_i h
      simp only [Lib.decFrom, digitVal_dig m h, Nat.zero_mul, Nat.zero_add]
    · rename_i h
      rw [decFrom_snoc, ih (m / 10) (by omega), digitVal_dig (m % 10) (by omega)]
      simp only [Option.bind_some, Option.map_some, Option.some.injEq]
      omega

theorem dec_ge (acc : Nat) : ∀ (l : List UInt8) (m : Nat), Lib.decFrom acc l = some m → acc * 10 ^ l.length ≤ m := by
  intro l
  induction l generalizing acc with
  | nil =>
    intro m h
    simp only [Lib.decFrom, Option.some.injEq] at h
    simp [h]
  | cons a t ih =>
    intro m h
    simp only [Lib.decFrom] at h
    cases hd : Lib.digitVal a with
    | none => rw [hd] at h; cases h
    | some d =>
      rw [hd] at h
      have := ih _ m h
      rw [List.length_cons, Nat.pow_succ, Nat.mul_comm (10 ^ t.length) 10, ← Nat.mul_assoc]
      exact Nat.le_trans (Nat.mul_le_mul_right _ (by omega)) this
theorem dec_lt (acc : Nat) : ∀ (l : List UInt8) (m : Nat), Lib.decFrom acc l = some m → m < (acc + 1) * 10 ^ l.length := by
  intro l
  induction l generalizing acc with
  | nil =>
    intro m h
    simp only [Lib.decFrom, Option.some.injEq] at h
    simp [h]
  | cons a t ih =>
    intro m h
    simp only [Lib.decFrom] at h
    cases hd : Lib.digitVal a with
    | none => rw [hd] at h; cases h
    | some d =>
      rw [hd] at h
      have := ih _ m h
      have hd := (dig_of_val hd).1
      rw [List.length_cons, Nat.pow_succ, Nat.mul_comm (10 ^ t.length) 10, ← Nat.mul_assoc]
      exact Nat.lt_of_lt_of_le this (Nat.mul_le_mul_right _ (by omega))

/-- Digits without a nought ahead are the digits of their number. -/
theorem dec_canon (d : List UInt8) : ∀ m, d ≠ [] → (d.head? = some 48 → d.length = 1) → Lib.decFrom 0 d = some m → Lib.decDigits m = d := by
  induction hn : d.length generalizing d with
  | zero => intro m h; exact absurd (List.length_eq_zero_iff.1 hn) h
  | succ n ih =>
    intro m _ hz hd
    obtain ⟨t, b, rfl⟩ : ∃ t b, d = t ++ [b] := ⟨d.dropLast, d.getLast (by intro h; simp [h] at hn), (List.dropLast_concat_getLast _).symm⟩
    rw [decFrom_snoc] at hd
    cases ht : Lib.decFrom 0 t with
    | none => rw [ht] at hd; cases hd
    | some q =>
      rw [ht] at hd
      cases hb : Lib.digitVal b with
      | none => rw [hb] at hd; cases hd
      | some e =>
        rw [hb] at hd
        simp only [Option.bind_some, Option.map_some, Option.some.injEq] at hd
        obtain ⟨he, hbe⟩ := dig_of_val hb
        cases t with
        | nil =>
          simp only [Lib.decFrom, Option.some.injEq] at ht
          rw [Lib.decDigits, dif_pos (by omega), show 48 + m = 48 + e by omega, hbe]
          rfl
        | cons a r =>
          have ha : a ≠ 48 := fun h => by
            have h1 := hz (by rw [h]; rfl)
            simp at hn
            omega
          have hq : 1 ≤ q := by
            simp only [Lib.decFrom] at ht
            cases hx : Lib.digitVal a with
            | none => rw [hx] at ht; cases ht
            | some x =>
              rw [hx] at ht
              obtain ⟨_, hxa⟩ := dig_of_val hx
              have hx1 : 1 ≤ x := by
                rcases Nat.eq_zero_or_pos x with h | h
                · subst h; exact absurd hxa.symm ha
                · exact h
              have h2 := dec_ge _ _ _ ht
              have h3 : 1 ≤ 10 ^ r.length := Nat.one_le_pow _ _ (by omega)
              have h4 : x ≤ x * 10 ^ r.length := Nat.le_mul_of_pos_right _ h3
              rw [Nat.zero_mul, Nat.zero_add] at h2
              omega
          have hr := ih (a :: r) (by simp at hn ⊢; omega) q (by simp) (fun h => by simp at h; exact absurd h ha) ht
          rw [Lib.decDigits, dif_neg (by omega), show m / 10 = q by omega, show m % 10 = e by omega, hr, hbe]

theorem dec_head (m : Nat) (h : 1 ≤ m) : (Lib.decDigits m).head? ≠ some 48 := by
  induction m using Nat.strongRecOn with
  | _ m ih =>
    rw [Lib.decDigits]
    split
    · rename_i h10
      have e : (UInt8.ofNat (48 + m)).toNat = 48 + m := UInt8.toNat_ofNat_of_lt' (by unfold UInt8.size; omega)
      intro hh
      simp only [List.head?_cons, Option.some.injEq] at hh
      rw [hh] at e
      have : (48 : UInt8).toNat = 48 := rfl
      omega
    · rename_i h10
      have := ih (m / 10) (by omega) (by omega)
      cases hd : Lib.decDigits (m / 10) with
      | nil => exact absurd hd (decDigits_ne _)
      | cons a r =>
        rw [hd] at this
        simpa using this

/-- The number that a text is, if it is one. -/
def numD (neg : Bool) (d : List UInt8) : Option Int :=
  if d = [] ∨ 18 < d.length ∨ (d.head? = some 48 ∧ (1 < d.length ∨ neg = true)) then none
  else (Lib.decFrom 0 d).map fun (m : Nat) => if neg then -(m : Int) else (m : Int)
def numB (t : List UInt8) : Option Int := if t.head? = some 45 then numD true t.tail else numD false t

theorem parse_of_dec (acc : Nat) : ∀ (l : List UInt8) (m : Nat), Lib.decFrom acc l = some m → m < 1000000000000000000 → Lib.parseUint10 acc l = .ok m := by
  intro l
  induction l generalizing acc with
  | nil =>
    intro m h _
    simp only [Lib.decFrom, Option.some.injEq] at h
    simp [Lib.parseUint10, h]
  | cons a t ih =>
    intro m h hm
    have hge := dec_ge acc (a :: t) m h
    simp only [Lib.decFrom] at h
    cases hd : Lib.digitVal a with
    | none => rw [hd] at h; cases h
    | some d =>
      rw [hd] at h
      have hge2 := dec_ge _ _ _ h
      have hd' := hd
      unfold Lib.digitVal at hd'
      split at hd'
      · rename_i hc
        simp only [Option.some.injEq] at hd'
        have hp : 1 ≤ 10 ^ t.length := Nat.one_le_pow _ _ (by omega)
        have h1 : acc * 10 + d ≤ m := Nat.le_trans (Nat.le_mul_of_pos_right _ hp) hge2
        have hr := ih _ m h hm
        rw [Lib.parseUint10, if_pos hc, if_neg (by omega), if_neg (by omega), hd']
        exact hr
      · cases hd'

theorem dec18 {d : List UInt8} {m : Nat} (h : Lib.decFrom 0 d = some m) (hl : d.length ≤ 18) : m < 1000000000000000000 := by
  have := dec_lt 0 d m h
  have h2 : 10 ^ d.length ≤ 10 ^ 18 := Nat.pow_le_pow_right (by omega) hl
  omega

/-- What is a number's text is read by Atoi, and is that number's text. -/
theorem num_atoi {t : List UInt8} {v : Int} (h : numB t = some v) : Lib.atoiAll t = .ok v ∧ Lib.itoa v = t ∧ -1000000000000000000 < v ∧ v < 1000000000000000000 := by
  unfold numB at h
  split at h
  · rename_i h45
    obtain ⟨d, rfl⟩ : ∃ d, t = 45 :: d := by
      cases t with
      | nil => cases h45
      | cons a r =>
        simp only [List.head?_cons, Option.some.injEq] at h45
        exact ⟨r, by rw [h45]⟩
    simp only [List.tail_cons] at h
    unfold numD at h
    split at h
    · cases h
    · rename_i hc
      obtain ⟨m, hm, hv⟩ := Option.map_eq_some_iff.1 h
      simp only [if_true] at hv
      have hd0 : d ≠ [] := fun e => hc (.inl e)
      have hd1 : d.length ≤ 18 := Nat.le_of_not_lt fun e => hc (.inr (.inl e))
      have hd2 : d.head? ≠ some 48 := fun e => hc (.inr (.inr ⟨e, .inr rfl⟩))
      have hm18 := dec18 hm hd1
      have hcan := dec_canon d m hd0 (fun e => absurd e hd2) hm
      have hm1 : 1 ≤ m := by
        rcases Nat.eq_zero_or_pos m with e | e
        · subst e
          exact absurd (by rw [← hcan, Lib.decDigits]; rfl) hd2
        · exact e
      subst hv
      refine ⟨?_, by rw [Lib.itoa_neg m hm1, hcan], by omega, by omega⟩
      have hp : Lib.parseMag d = .ok m := by
        unfold Lib.parseMag
        rw [if_neg hd0]
        exact parse_of_dec 0 d m hm hm18
      have h45' : (45 : UInt8).toNat = 45 := rfl
      simp only [Lib.atoiAll, h45']
      simp [hp]
      omega
  · rename_i h45
    unfold numD at h
    split at h
    · cases h
    · rename_i hc
      obtain ⟨m, hm, hv⟩ := Option.map_eq_some_iff.1 h
      have hv : (m : Int) = v := by simpa using hv
      have hd0 : t ≠ [] := fun e => hc (.inl e)
      have hd1 : t.length ≤ 18 := Nat.le_of_not_lt fun e => hc (.inr (.inl e))
      have hd2 : t.head? = some 48 → t.length = 1 := fun e => by
        have : ¬ 1 < t.length := fun g => hc (.inr (.inr ⟨e, .inl g⟩))
        have : t.length ≠ 0 := fun g => hd0 (List.length_eq_zero_iff.1 g)
        omega
      have hm18 := dec18 hm hd1
      have hcan := dec_canon t m hd0 hd2 hm
      subst hv
      refine ⟨?_, by rw [Lib.itoa_nonneg, hcan], by omega, by omega⟩
      cases t with
      | nil => exact absurd rfl hd0
      | cons c r =>
        have hdig : ∃ x, Lib.digitVal c = some x := Lib.digit_of_decFrom (c :: r) 0 m hm 0 c rfl
        obtain ⟨x, hx⟩ := hdig
        have hcd : 48 ≤ c.toNat ∧ c.toNat ≤ 57 := by
          unfold Lib.digitVal at hx
          split at hx
          · assumption
          · cases hx
        have hp : Lib.parseMag (c :: r) = .ok m := by
          unfold Lib.parseMag
          rw [if_neg (by simp)]
          exact parse_of_dec 0 _ m hm hm18
        simp only [Lib.atoiAll]
        rw [if_neg (show ¬ (c.toNat = 43 ∨ c.toNat = 45) by omega), hp]
        simp only
        rw [if_neg (by omega), if_neg (by omega), if_neg (by omega)]

/-- What Atoi reads, and what is the text of what it read, is a number's text. -/
theorem num_back {t : List UInt8} {v : Int} (h : Lib.itoa v = t) (hl : (if t.head? = some 45 then t.tail else t).length ≤ 18) : numB t = some v := by
  subst h
  unfold numB
  by_cases hv : v < 0
  · obtain ⟨m, rfl⟩ : ∃ m : Nat, v = -(m : Int) := ⟨v.natAbs, by omega⟩
    have hm1 : 1 ≤ m := by omega
    rw [Lib.itoa_neg m hm1] at hl ⊢
    simp only [List.head?_cons, if_true, List.tail_cons] at hl ⊢
    unfold numD
    rw [if_neg, dec_back]
    · simp
    · rintro (e | e | ⟨e, _⟩)
      · exact decDigits_ne m e
      · omega
      · exact dec_head m hm1 e
  · obtain ⟨m, rfl⟩ : ∃ m : Nat, v = (m : Int) := ⟨v.toNat, by omega⟩
    rw [Lib.itoa_nonneg] at hl ⊢
    have hne : (Lib.decDigits m).head? ≠ some 45 := fun e => by
      have hm := dec_back m
      cases hd : Lib.decDigits m with
      | nil => rw [hd] at e; cases e
      | cons a r =>
        rw [hd] at e hm
        simp only [List.head?_cons, Option.some.injEq] at e
        subst e
        have : Lib.digitVal 45 = none := by decide
        simp [Lib.decFrom, this] at hm
    rw [if_neg hne] at hl ⊢
    unfold numD
    rw [if_neg, dec_back]
    · simp
    · rintro (e | e | ⟨e, e2⟩)
      · exact decDigits_ne m e
      · omega
      · rcases Nat.eq_zero_or_pos m with h0 | h0
        · subst h0
          rcases e2 with e2 | e2
          · rw [Lib.decDigits] at e2
            simp at e2
          · cases e2
        · exact dec_head m h0 e
theorem num_small {n : Int} (h0 : -1000000000000000000 < n) (h1 : n < 1000000000000000000) : numB (Lib.itoa n) = some n := by
  apply num_back rfl
  have key : ∀ m : Nat, m < 1000000000000000000 → (Lib.decDigits m).length ≤ 18 := fun m hm => by
    rw [Lib.decDigits_eq]
    simp only [List.length_map, List.length_range]
    rcases Nat.lt_or_ge 18 (Lib.nDigits m) with h | h
    · exfalso
      obtain ⟨k, hk⟩ : ∃ k, Lib.nDigits m = k + 1 := ⟨Lib.nDigits m - 1, by omega⟩
      have hge : 10 ^ 18 ≤ m := by
        have hg : ∀ (j u : Nat), Lib.nDigits u = j + 1 → 1 ≤ j → 10 ^ j ≤ u := by
          intro j
          induction j with
          | zero => intro u _ h; omega
          | succ j ih =>
            intro u hu _
            by_cases hu10 : u < 10
            · rw [Lib.nDigits_small hu10] at hu; omega
            · rw [Lib.nDigits_big hu10] at hu
              rw [Nat.pow_succ]
              rcases Nat.eq_zero_or_pos j with h0 | h0
              · subst h0; omega
              · have := ih (u / 10) (by omega) h0
                omega
        exact Nat.le_trans (Nat.pow_le_pow_right (by omega) (by omega)) (hg k m hk (by omega))
      omega
    · exact h
  by_cases hv : n < 0
  · obtain ⟨m, rfl⟩ : ∃ m : Nat, n = -(m : Int) := ⟨n.natAbs, by omega⟩
    rw [Lib.itoa_neg m (by omega)]
    simp only [List.head?_cons, if_true, List.tail_cons]
    exact key m (by omega)
  · obtain ⟨m, rfl⟩ : ∃ m : Nat, n = (m : Int) := ⟨n.toNat, by omega⟩
    rw [Lib.itoa_nonneg]
    have := key m (by omega)
    split
    · simp; omega
    · exact this
end Go.Proofs.YtdbngfeelfgbeaaDoor.Tx

namespace Go.Proofs.YtdbngfeelfgbeaaDoor.Tx
open Go.RowKit
set_option linter.unusedVariables false

theorem len_list (s : ByteArray) : s.data.toList.length = s.size := by
  rw [Array.length_toList]
  rfl
theorem at_list (s : ByteArray) (k : Nat) (h : k < s.size) : s.data.toList[k]? = some s[k] := by
  rw [List.getElem?_eq_getElem (by rw [len_list]; exact h)]
  rfl
theorem take_next (s : ByteArray) (k : Nat) (h : k < s.size) : s.data.toList.take (k + 1) = s.data.toList.take k ++ [s[k]] := by
  rw [List.take_add_one, at_list s k h]
  rfl
theorem take_full (s : ByteArray) : s.data.toList.take s.size = s.data.toList := by
  apply List.take_of_length_le
  rw [len_list]
  exact Nat.le_refl _
def numV (t : List UInt8) : Int := (numB t).getD 0
def numK (t : List UInt8) : Bool := (numB t).isSome
theorem numD_no (neg : Bool) (d : List UInt8) (h : d = [] ∨ 18 < d.length ∨ (d.head? = some 48 ∧ (1 < d.length ∨ neg = true))) : numD neg d = none := by
  unfold numD
  rw [if_pos h]
theorem numD_bad (neg : Bool) (d : List UInt8) (h : Lib.decFrom 0 d = none) : numD neg d = none := by
  unfold numD
  rw [h]
  split <;> rfl
theorem numD_yes (neg : Bool) (d : List UInt8) (m : Nat) (h : ¬ (d = [] ∨ 18 < d.length ∨ (d.head? = some 48 ∧ (1 < d.length ∨ neg = true)))) (hm : Lib.decFrom 0 d = some m) : numD neg d = some (if neg then -(m : Int) else (m : Int)) := by
  unfold numD
  rw [if_neg h, hm]
  rfl
theorem dec_none (s : ByteArray) (k : Nat) (h : k < s.size) (hd : Lib.digitVal s[k] = none) : Lib.decFrom 0 s.data.toList = none := by
  cases e : Lib.decFrom 0 s.data.toList with
  | none => rfl
  | some m =>
    obtain ⟨x, hx⟩ := Lib.digit_of_decFrom _ _ _ e k s[k] (at_list s k h)
    rw [hx] at hd
    cases hd
theorem dec_next (s : ByteArray) (k m : Nat) (h : k < s.size) (hm : Lib.decFrom 0 (s.data.toList.take k) = some m) (h0 : 48 ≤ s[k].toNat) (h1 : s[k].toNat ≤ 57) : Lib.decFrom 0 (s.data.toList.take (k + 1)) = some (m * 10 + (s[k].toNat - 48)) := by
  rw [take_next s k h, decFrom_snoc, hm]
  have : Lib.digitVal s[k] = some (s[k].toNat - 48) := by
    unfold Lib.digitVal
    rw [if_pos ⟨h0, h1⟩]
  rw [this]
  rfl
theorem ret_nb {a b : Int} {x y : Bool} (h : a = b) (k : x = y) : Ending.returned (.tuple #[.int .i64 a, .bool x]) = .returned (.tuple #[.int .i64 b, .bool y]) := by rw [h, k]
theorem head_list (s : ByteArray) (h : 0 < s.size) : s.data.toList.head? = some s[0] := by
  rw [List.head?_eq_getElem?]
  exact at_list s 0 h
theorem u8_eq {a b : UInt8} (h : a.toNat = b.toNat) : a = b := UInt8.toNat_inj.1 h

/-- What stands behind the sign. -/
structure Rest (t d : ByteArray) (neg : Bool) : Prop where
  num : numB t.data.toList = numD neg d.data.toList
theorem ans_no {t d : ByteArray} {neg : Bool} (h : Rest t d neg) (hn : numD neg d.data.toList = none) : numV t.data.toList = 0 ∧ numK t.data.toList = false := by
  unfold numV numK
  rw [h.num, hn]
  exact ⟨rfl, rfl⟩
theorem ans_yes {t d : ByteArray} {neg : Bool} {v : Int} (h : Rest t d neg) (hn : numD neg d.data.toList = some v) : numV t.data.toList = v ∧ numK t.data.toList = true := by
  unfold numV numK
  rw [h.num, hn]
  exact ⟨rfl, rfl⟩
theorem rest_pos (t : ByteArray) (h : ¬ (0 < t.size ∧ t.data.toList.head? = some 45)) : Rest t t false := by
  refine ⟨?_⟩
  unfold numB
  rw [if_neg]
  intro e
  refine h ⟨?_, e⟩
  rcases Nat.eq_zero_or_pos t.size with h0 | h0
  · rw [← len_list] at h0
    rw [List.length_eq_zero_iff.1 h0] at e
    cases e
  · exact h0
theorem rest_neg (t : ByteArray) (h : t.data.toList.head? = some 45) : Rest t (t.extract 1 t.size) true := by
  refine ⟨?_⟩
  unfold numB
  rw [if_pos h]
  congr 1
  have : (t.extract 1 t.size).data.toList = (t.data.toList.drop 1).take (t.size - 1) := by
    rw [← ByteArray.toList_eq, Lib.extract_toList]
  rw [this, List.drop_one, List.take_of_length_le]
  rw [List.length_tail, len_list]
  exact Nat.le_refl _

set_option maxRecDepth 100000 in
set_option maxHeartbeats 4000000 in
theorem numPos (t : ByteArray) (h45 : ∀ h : 0 < t.size, t[0].toNat ≠ 45) (hR : Rest t t false) (ht : t.size ≤ 1000000) (w : World) :
    Calls Tryd.prog 44 #[.string t] w fun e w' => e = .returned (.tuple #[.int .i64 (numV t.data.toList), .bool (numK t.data.toList)]) ∧ w' = w := by
  have hdz := ht
  by_cases hz : t.size = 0
  · obtain ⟨a1, a2⟩ := ans_no hR (numD_no _ _ (.inl (List.length_eq_zero_iff.1 (by rw [len_list]; exact hz))))
    have A1 : Hid (_ = _) := a1
    have A2 : Hid (_ = _) := a2
    clear a1 a2 hR
    have h0b : ((t.size : Int) == 0) = true := by rw [hz]; rfl
    have h0c : ¬ (0 : Int) < (t.size : Int) := by omega
    clear h45
    go_enter Tryd.func44, Tryd.ntmps44
    go_wp2
    go_ret2
    exact ⟨ret_nb A1.out.symm A2.out.symm, rfl⟩
  have hz1 : 0 < t.size := by omega
  have hzb : ((t.size : Int) == 0) = false := by rw [beq_eq_false_iff_ne]; omega
  have hzi : (0 : Int) < (t.size : Int) := by omega
  have h45b : ((t[0].toNat : Int) == 45) = false := by have := h45 hz1; simp; omega
  clear h45
  by_cases hb : 18 < t.size
  · obtain ⟨a1, a2⟩ := ans_no hR (numD_no _ _ (.inr (.inl (by rw [len_list]; exact hb))))
    have A1 : Hid (_ = _) := a1
    have A2 : Hid (_ = _) := a2
    clear a1 a2 hR
    have hbi : (18 : Int) < (t.size : Int) := by omega
    go_enter Tryd.func44, Tryd.ntmps44
    go_wp2
    go_ret2
    exact ⟨ret_nb A1.out.symm A2.out.symm, rfl⟩
  have hbi : ¬ (18 : Int) < (t.size : Int) := by omega
  by_cases h48 : t[0].toNat = 48 ∧ 1 < t.size
  · obtain ⟨a1, a2⟩ := ans_no hR (numD_no _ _ (.inr (.inr ⟨by rw [head_list t hz1, u8_eq (b := 48) h48.1], .inl (by rw [len_list]; exact h48.2)⟩)))
    have A1 : Hid (_ = _) := a1
    have A2 : Hid (_ = _) := a2
    clear a1 a2 hR
    have e48 : ((t[0].toNat : Int) == 48) = true := by rw [h48.1]; rfl
    have e1 : (1 : Int) < (t.size : Int) := by have := h48.2; omega
    clear h48
    go_enter Tryd.func44, Tryd.ntmps44
    go_wp2
    all_goals
      go_ret2
      exact ⟨ret_nb A1.out.symm A2.out.symm, rfl⟩
  have hno : ¬ (t.data.toList = [] ∨ 18 < t.data.toList.length ∨ (t.data.toList.head? = some 48 ∧ (1 < t.data.toList.length ∨ false = true))) := by
    rintro (e | e | ⟨e, e2⟩)
    · rw [← len_list, e] at hz
      exact hz rfl
    · rw [len_list] at e
      omega
    · rw [head_list t hz1] at e
      injection e with e
      rcases e2 with e2 | e2
      · rw [len_list] at e2
        exact h48 ⟨by rw [e]; rfl, e2⟩
      · cases e2
  have hyes : Hid (∀ m, Lib.decFrom 0 t.data.toList = some m → numV t.data.toList = (m : Int) ∧ numK t.data.toList = true) := fun m hm => ans_yes hR (numD_yes false _ m hno hm)
  have hbad : Hid (∀ (k : Nat) (h : k < t.size), Lib.digitVal t[k] = none → numV t.data.toList = 0 ∧ numK t.data.toList = false) := fun k h e => ans_no hR (numD_bad _ _ (dec_none t k h e))
  have e48 : (((t[0].toNat : Int) == 48) = false) ∨ (((t[0].toNat : Int) == 48) = true ∧ ¬ (1 : Int) < (t.size : Int)) := by
    by_cases e : t[0].toNat = 48
    · exact .inr ⟨by rw [e]; rfl, by omega⟩
    · exact .inl (by simp; omega)
  clear h48 hno hR
  rcases e48 with e48 | ⟨e48, e1⟩
  all_goals
    go_enter Tryd.func44, Tryd.ntmps44
    go_wp2
    go_loop [5, 6] (fun n i => ∃ k m : Nat, k ≤ t.size ∧ i = .int .i64 k ∧ n = .int .i64 (m : Int) ∧ Hid (Lib.decFrom 0 (t.data.toList.take k) = some m)) (fun _ i => t.size - (intOf i).toNat)
    case atStart => exact ⟨0, 0, Nat.zero_le _, rfl, rfl, rfl⟩
    case round =>
      obtain ⟨k, m, hk, rfl, rfl, hm⟩ := hrel
      have hmb : m < 10 ^ 18 := by
        have h1 := dec_lt 0 _ m hm.out
        have h2 : (t.data.toList.take k).length ≤ 18 := by rw [List.length_take]; omega
        have h3 : 10 ^ (t.data.toList.take k).length ≤ 10 ^ 18 := Nat.pow_le_pow_right (by omega) h2
        omega
      have hmc : (m : Int) < 1000000000000000000 := by have : (10 : Nat) ^ 18 = 1000000000000000000 := rfl; omega
      clear hmb
      by_cases hlt : k < t.size
      · have hki : (k : Int) < (t.size : Int) := by omega
        have hk0 : (0 : Int) ≤ (k : Int) := by omega
        by_cases hdg : 48 ≤ t[k].toNat ∧ t[k].toNat ≤ 57
        · have hm1 : m * 10 + (t[k].toNat - 48) < 1000000000000000000 := by
            have h0 := dec_next t k m hlt hm.out hdg.1 hdg.2
            have h1 := dec_lt 0 _ _ h0
            have h2 : (t.data.toList.take (k + 1)).length ≤ 18 := by rw [List.length_take]; omega
            have h3 : 10 ^ (t.data.toList.take (k + 1)).length ≤ 10 ^ 18 := Nat.pow_le_pow_right (by omega) h2
            have : (10 : Nat) ^ 18 = 1000000000000000000 := rfl
            omega
          have HN : Hid (Lib.decFrom 0 (t.data.toList.take (k + 1)) = some (m * 10 + (t[k].toNat - 48))) := dec_next t k m hlt hm.out hdg.1 hdg.2
          obtain ⟨b, hb2⟩ : ∃ b : Nat, b = t[k].toNat := ⟨_, rfl⟩
          have hq0 : ¬ (t[k].toNat : Int) < 48 := by omega
          have hq1 : ¬ (57 : Int) < (t[k].toNat : Int) := by omega
          have w1 : wrap64 ((m : Int) * 10) = (m : Int) * 10 := by unfold wrap64; omega
          have w2 : wrap64 ((m : Int) * 10 + (t[k].toNat : Int)) = (m : Int) * 10 + (t[k].toNat : Int) := by unfold wrap64; omega
          have w3 : wrap64 ((m : Int) * 10 + (t[k].toNat : Int) - 48) = ((m * 10 + (t[k].toNat - 48) : Nat) : Int) := by unfold wrap64; omega
          clear hyes hbad
          go_wp2
          go_round
          case rel => exact ⟨k + 1, _, by omega, by go_num, congrArg (Value.int .i64) (by omega), HN⟩
          case measure => simp [intOf]; omega
        · have hdn : Lib.digitVal t[k] = none := by unfold Lib.digitVal; rw [if_neg hdg]
          obtain ⟨a1, a2⟩ := hbad.out k hlt hdn
          have A1 : Hid (_ = _) := a1
          have A2 : Hid (_ = _) := a2
          clear a1 a2 hbad hyes hdn
          rcases (show t[k].toNat < 48 ∨ (48 ≤ t[k].toNat ∧ 57 < t[k].toNat) by omega) with hq | ⟨hq, hq2⟩
          · have q0 : (t[k].toNat : Int) < 48 := by omega
            go_wp2
            go_ret2
            exact ⟨ret_nb A1.out.symm A2.out.symm, rfl⟩
          · have q0 : ¬ (t[k].toNat : Int) < 48 := by omega
            have q1 : (57 : Int) < (t[k].toNat : Int) := by omega
            go_wp2
            go_ret2
            exact ⟨ret_nb A1.out.symm A2.out.symm, rfl⟩
      · obtain rfl : k = t.size := by omega
        have hm2 := hm.out
        rw [take_full] at hm2
        obtain ⟨a1, a2⟩ := hyes.out m hm2
        have A1 : Hid (_ = _) := a1
        have A2 : Hid (_ = _) := a2
        clear a1 a2 hbad hyes hm hm2
        have ws : wrap64 (1 * (m : Int)) = (m : Int) := by unfold wrap64; omega
        have wt : wrap64 ((m : Int)) = (m : Int) := by unfold wrap64; omega
        go_wp2
        go_ret2
        exact ⟨ret_nb A1.out.symm A2.out.symm, rfl⟩

set_option maxRecDepth 100000 in
set_option maxHeartbeats 4000000 in
theorem numNeg (t d : ByteArray) (hd : t.extract 1 t.size = d) (h0 : 0 < t.size) (h45 : t[0].toNat = 45) (hR : Rest t d true) (ht : t.size ≤ 1000000) (w : World) :
    Calls Tryd.prog 44 #[.string t] w fun e w' => e = .returned (.tuple #[.int .i64 (numV t.data.toList), .bool (numK t.data.toList)]) ∧ w' = w := by
  have h45i : (t[0].toNat : Int) = 45 := by omega
  have h45b : ((t[0].toNat : Int) == 45) = true := by rw [h45i]; rfl
  have h0i : (0 : Int) < (t.size : Int) := by omega
  have h1i : (1 : Int) ≤ (t.size : Int) := by omega
  have hdz : d.size ≤ 1000000 := by rw [← hd, ByteArray.size_extract]; omega
  by_cases hz : d.size = 0
  · obtain ⟨a1, a2⟩ := ans_no hR (numD_no _ _ (.inl (List.length_eq_zero_iff.1 (by rw [len_list]; exact hz))))
    have A1 : Hid (_ = _) := a1
    have A2 : Hid (_ = _) := a2
    clear a1 a2 hR
    have h0b : ((d.size : Int) == 0) = true := by rw [hz]; rfl
    go_enter Tryd.func44, Tryd.ntmps44
    go_wp2
    go_ret2
    exact ⟨ret_nb A1.out.symm A2.out.symm, rfl⟩
  have hz1 : 0 < d.size := by omega
  have hzb : ((d.size : Int) == 0) = false := by rw [beq_eq_false_iff_ne]; omega
  have hzi : (0 : Int) < (d.size : Int) := by omega
  by_cases hb : 18 < d.size
  · obtain ⟨a1, a2⟩ := ans_no hR (numD_no _ _ (.inr (.inl (by rw [len_list]; exact hb))))
    have A1 : Hid (_ = _) := a1
    have A2 : Hid (_ = _) := a2
    clear a1 a2 hR
    have hbi : (18 : Int) < (d.size : Int) := by omega
    go_enter Tryd.func44, Tryd.ntmps44
    go_wp2
    go_ret2
    exact ⟨ret_nb A1.out.symm A2.out.symm, rfl⟩
  have hbi : ¬ (18 : Int) < (d.size : Int) := by omega
  by_cases h48 : d[0].toNat = 48
  · obtain ⟨a1, a2⟩ := ans_no hR (numD_no _ _ (.inr (.inr ⟨by rw [head_list d hz1, u8_eq (b := 48) h48], .inr rfl⟩)))
    have A1 : Hid (_ = _) := a1
    have A2 : Hid (_ = _) := a2
    clear a1 a2 hR
    have e48 : ((d[0].toNat : Int) == 48) = true := by rw [h48]; rfl
    clear h48
    go_enter Tryd.func44, Tryd.ntmps44
    go_wp2
    all_goals
      go_ret2
      exact ⟨ret_nb A1.out.symm A2.out.symm, rfl⟩
  have hno : ¬ (d.data.toList = [] ∨ 18 < d.data.toList.length ∨ (d.data.toList.head? = some 48 ∧ (1 < d.data.toList.length ∨ true = true))) := by
    rintro (e | e | ⟨e, e2⟩)
    · rw [← len_list, e] at hz
      exact hz rfl
    · rw [len_list] at e
      omega
    · rw [head_list d hz1] at e
      injection e with e
      exact h48 (by rw [e]; rfl)
  have hyes : Hid (∀ m, Lib.decFrom 0 d.data.toList = some m → numV t.data.toList = -(m : Int) ∧ numK t.data.toList = true) := fun m hm => ans_yes hR (numD_yes true _ m hno hm)
  have hbad : Hid (∀ (k : Nat) (h : k < d.size), Lib.digitVal d[k] = none → numV t.data.toList = 0 ∧ numK t.data.toList = false) := fun k h e => ans_no hR (numD_bad _ _ (dec_none d k h e))
  have e48 : ((d[0].toNat : Int) == 48) = false := by simp; omega
  clear h48 hno hR h45
  go_enter Tryd.func44, Tryd.ntmps44
  go_wp2
  go_loop [5, 6] (fun n i => ∃ k m : Nat, k ≤ d.size ∧ i = .int .i64 k ∧ n = .int .i64 (m : Int) ∧ Hid (Lib.decFrom 0 (d.data.toList.take k) = some m)) (fun _ i => d.size - (intOf i).toNat)
  case atStart => exact ⟨0, 0, Nat.zero_le _, rfl, rfl, rfl⟩
  case round =>
    obtain ⟨k, m, hk, rfl, rfl, hm⟩ := hrel
    have hmb : m < 10 ^ 18 := by
      have h1 := dec_lt 0 _ m hm.out
      have h2 : (d.data.toList.take k).length ≤ 18 := by rw [List.length_take]; omega
      have h3 : 10 ^ (d.data.toList.take k).length ≤ 10 ^ 18 := Nat.pow_le_pow_right (by omega) h2
      omega
    have hmc : (m : Int) < 1000000000000000000 := by have : (10 : Nat) ^ 18 = 1000000000000000000 := rfl; omega
    clear hmb
    by_cases hlt : k < d.size
    · have hki : (k : Int) < (d.size : Int) := by omega
      have hk0 : (0 : Int) ≤ (k : Int) := by omega
      by_cases hdg : 48 ≤ d[k].toNat ∧ d[k].toNat ≤ 57
      · have hm1 : m * 10 + (d[k].toNat - 48) < 1000000000000000000 := by
          have h0 := dec_next d k m hlt hm.out hdg.1 hdg.2
          have h1 := dec_lt 0 _ _ h0
          have h2 : (d.data.toList.take (k + 1)).length ≤ 18 := by rw [List.length_take]; omega
          have h3 : 10 ^ (d.data.toList.take (k + 1)).length ≤ 10 ^ 18 := Nat.pow_le_pow_right (by omega) h2
          have : (10 : Nat) ^ 18 = 1000000000000000000 := rfl
          omega
        have HN : Hid (Lib.decFrom 0 (d.data.toList.take (k + 1)) = some (m * 10 + (d[k].toNat - 48))) := dec_next d k m hlt hm.out hdg.1 hdg.2
        obtain ⟨b, hb2⟩ : ∃ b : Nat, b = d[k].toNat := ⟨_, rfl⟩
        have hq0 : ¬ (d[k].toNat : Int) < 48 := by omega
        have hq1 : ¬ (57 : Int) < (d[k].toNat : Int) := by omega
        have w1 : wrap64 ((m : Int) * 10) = (m : Int) * 10 := by unfold wrap64; omega
        have w2 : wrap64 ((m : Int) * 10 + (d[k].toNat : Int)) = (m : Int) * 10 + (d[k].toNat : Int) := by unfold wrap64; omega
        have w3 : wrap64 ((m : Int) * 10 + (d[k].toNat : Int) - 48) = ((m * 10 + (d[k].toNat - 48) : Nat) : Int) := by unfold wrap64; omega
        clear hyes hbad
        go_wp2
        go_round
        case rel => exact ⟨k + 1, _, by omega, by go_num, congrArg (Value.int .i64) (by omega), HN⟩
        case measure => simp [intOf]; omega
      · have hdn : Lib.digitVal d[k] = none := by unfold Lib.digitVal; rw [if_neg hdg]
        obtain ⟨a1, a2⟩ := hbad.out k hlt hdn
        have A1 : Hid (_ = _) := a1
        have A2 : Hid (_ = _) := a2
        clear a1 a2 hbad hyes hdn
        rcases (show d[k].toNat < 48 ∨ (48 ≤ d[k].toNat ∧ 57 < d[k].toNat) by omega) with hq | ⟨hq, hq2⟩
        · have q0 : (d[k].toNat : Int) < 48 := by omega
          go_wp2
          go_ret2
          exact ⟨ret_nb A1.out.symm A2.out.symm, rfl⟩
        · have q0 : ¬ (d[k].toNat : Int) < 48 := by omega
          have q1 : (57 : Int) < (d[k].toNat : Int) := by omega
          go_wp2
          go_ret2
          exact ⟨ret_nb A1.out.symm A2.out.symm, rfl⟩
    · obtain rfl : k = d.size := by omega
      have hm2 := hm.out
      rw [take_full] at hm2
      obtain ⟨a1, a2⟩ := hyes.out m hm2
      have A1 : Hid (_ = _) := a1
      have A2 : Hid (_ = _) := a2
      clear a1 a2 hbad hyes hm hm2
      have ws : wrap64 (-1 * (m : Int)) = -(m : Int) := by unfold wrap64; omega
      have wt : wrap64 (-(m : Int)) = -(m : Int) := by unfold wrap64; omega
      go_wp2
      go_ret2
      exact ⟨ret_nb A1.out.symm A2.out.symm, rfl⟩

/-- The model's reading of a number. -/
theorem numC (t : ByteArray) (ht : t.size ≤ 1000000) (w : World) :
    Calls Tryd.prog 44 #[.string t] w fun e w' => e = .returned (.tuple #[.int .i64 (numV t.data.toList), .bool (numK t.data.toList)]) ∧ w' = w := by
  by_cases h : 0 < t.size ∧ t.data.toList.head? = some 45
  · have e := h.2
    rw [head_list t h.1] at e
    injection e with e
    exact numNeg t _ rfl h.1 (by rw [e]; rfl) (rest_neg t h.2) ht w
  · exact numPos t (fun h0 e => h ⟨h0, by rw [head_list t h0, u8_eq (b := 45) e]⟩) (rest_pos t h) ht w
end Go.Proofs.YtdbngfeelfgbeaaDoor.Tx

namespace Go.Proofs.YtdbngfeelfgbeaaDoor.Tx

def bt (s : ByteArray) (i : Nat) : Nat := (s.get! i).toNat
def stepW (s : ByteArray) (st : List ByteArray × Nat) (i : Nat) : List ByteArray × Nat :=
  if i = s.size ∨ bt s i = 32 then ((if st.2 < i then st.1 ++ [s.extract st.2 i] else st.1), i + 1) else st
def wordsTo (s : ByteArray) : Nat → List ByteArray × Nat
  | 0 => ([], 0)
  | i + 1 => stepW s (wordsTo s i) i
/-- The words. -/
def wordsB (s : ByteArray) : List ByteArray := (wordsTo s (s.size + 1)).1

theorem wordsTo_le (s : ByteArray) : ∀ i, (wordsTo s i).2 ≤ i
  | 0 => Nat.le_refl _
  | i + 1 => by
    have := wordsTo_le s i
    unfold wordsTo stepW
    split
    · exact Nat.le_refl _
    · omega
theorem wordsTo_len (s : ByteArray) : ∀ i, (wordsTo s i).1.length ≤ i
  | 0 => Nat.le_refl _
  | i + 1 => by
    have := wordsTo_len s i
    unfold wordsTo stepW
    split
    · split
      · simp; omega
      · simp; omega
    · omega
theorem wordsTo_skip (s : ByteArray) (i : Nat) : ∀ n, (∀ j, i ≤ j → j < i + n → j < s.size ∧ bt s j ≠ 32) → wordsTo s (i + n) = wordsTo s i
  | 0, _ => rfl
  | n + 1, h => by
    have ih := wordsTo_skip s i n fun j h1 h2 => h j h1 (by omega)
    have hn := h (i + n) (by omega) (by omega)
    rw [← Nat.add_assoc]
    show stepW s (wordsTo s (i + n)) (i + n) = _
    unfold stepW
    rw [if_neg fun e => ?_]
    · exact ih
    · rcases e with e | e
      · omega
      · exact hn.2 e

theorem dec_facts (s : ByteArray) (pos : Nat) (h : pos < s.size) :
    1 ≤ (Utf8.decode s pos).2 ∧ pos + (Utf8.decode s pos).2 ≤ s.size ∧ ((Utf8.decode s pos).1 = 32 → (Utf8.decode s pos).2 = 1 ∧ bt s pos = 32) ∧
      ((Utf8.decode s pos).1 ≠ 32 → ∀ k, k < (Utf8.decode s pos).2 → bt s (pos + k) ≠ 32) := by
  have e0 : bt s pos = (s.get! (pos + 0)).toNat := rfl
  have e1 : bt s (pos + 1) = (s.get! (pos + 1)).toNat := rfl
  have e2 : bt s (pos + 2) = (s.get! (pos + 2)).toNat := rfl
  have e3 : bt s (pos + 3) = (s.get! (pos + 3)).toNat := rfl
  have b0 : (s.get! (pos + 0)).toNat < 256 := UInt8.toNat_lt _
  unfold Utf8.decode
  simp only [Bool.and_eq_true, decide_eq_true_eq, beq_iff_eq, ge_iff_le]
  rw [← e0, ← e1, ← e2, ← e3]
  rw [← e0] at b0
  split
  · refine ⟨by simp, by simp; omega, fun e => ⟨rfl, e⟩, fun e k hk => ?_⟩
    obtain rfl : k = 0 := by simp at hk; exact hk
    exact e
  rename_i h0
  have key : ∀ n c : Nat, 128 ≤ c → 1 ≤ n → pos + n ≤ s.size → (∀ k, k < n → bt s (pos + k) ≠ 32) → 1 ≤ (c, n).2 ∧ pos + (c, n).2 ≤ s.size ∧ ((c, n).1 = 32 → (c, n).2 = 1 ∧ bt s pos = 32) ∧ ((c, n).1 ≠ 32 → ∀ k, k < (c, n).2 → bt s (pos + k) ≠ 32) :=
    fun n c hc hn hs hk => ⟨hn, hs, fun e => by simp at e; omega, fun _ => hk⟩
  have one : ∀ k, k < 1 → bt s (pos + k) ≠ 32 := fun k hk => by
    obtain rfl : k = 0 := by omega
    intro e
    have : bt s pos = 32 := e
    omega
  have err : 128 ≤ Utf8.runeError := by decide
  split
  · rename_i hc
    split
    · rename_i hv
      refine key 2 _ hv (by omega) (by omega) fun k hk => ?_
      rcases (show k = 0 ∨ k = 1 by omega) with rfl | rfl
      · exact one 0 (by omega)
      · omega
    · exact key 1 _ err (by omega) (by omega) one
  split
  · rename_i hc
    split
    · rename_i hv
      refine key 3 _ (by omega) (by omega) (by omega) fun k hk => ?_
      rcases (show k = 0 ∨ k = 1 ∨ k = 2 by omega) with rfl | rfl | rfl
      · exact one 0 (by omega)
      · omega
      · omega
    · exact key 1 _ err (by omega) (by omega) one
  split
  · rename_i hc
    split
    · rename_i hv
      refine key 4 _ (by omega) (by omega) (by omega) fun k hk => ?_
      rcases (show k = 0 ∨ k = 1 ∨ k = 2 ∨ k = 3 by omega) with rfl | rfl | rfl | rfl
      · exact one 0 (by omega)
      · omega
      · omega
      · omega
    · exact key 1 _ err (by omega) (by omega) one
  · exact key 1 _ err (by omega) (by omega) one

def isBlank (r : Nat) : Bool := r == 32
def ext (s : ByteArray) (x : Nat × Nat) : ByteArray := s.extract x.1 x.2

theorem spans_words (s : ByteArray) : ∀ (f pos : Nat) (st : Option Nat) (acc : List (Nat × Nat)), s.size ≤ pos + f → pos ≤ s.size → (∀ a, st = some a → a < pos) → wordsTo s pos = (acc.map (ext s), st.getD pos) →
    (Lib.closeSpans s (Lib.spansFromP isBlank s f pos st acc)).map (ext s) = wordsB s
  | 0, pos, st, acc, hf, hp, ha, hw => by
    obtain rfl : pos = s.size := by omega
    unfold wordsB
    show _ = (stepW s (wordsTo s s.size) s.size).1
    rw [hw]
    unfold stepW Lib.spansFromP Lib.closeSpans
    rw [if_pos (.inl rfl)]
    cases st with
    | none => simp
    | some a =>
      have := ha a rfl
      simp [this, ext]
  | f + 1, pos, st, acc, hf, hp, ha, hw => by
    by_cases hlt : pos < s.size
    · obtain ⟨h1, h2, h3, h4⟩ := dec_facts s pos hlt
      unfold Lib.spansFromP
      rw [if_pos hlt]
      by_cases hr : (Utf8.decode s pos).1 = 32
      · obtain ⟨hn, hb⟩ := h3 hr
        have hs : wordsTo s (pos + 1) = ((if st.getD pos < pos then acc.map (ext s) ++ [s.extract (st.getD pos) pos] else acc.map (ext s)), pos + 1) := by
          show stepW s (wordsTo s pos) pos = _
          rw [hw]
          unfold stepW
          rw [if_pos (.inr hb)]
        rw [if_pos (by unfold isBlank; rw [hr]; rfl), hn]
        cases st with
        | none =>
          refine spans_words s f (pos + 1) none acc (by omega) (by omega) (fun a e => by cases e) ?_
          rw [hs]
          simp
        | some a =>
          have hap := ha a rfl
          refine spans_words s f (pos + 1) none (acc ++ [(a, pos)]) (by omega) (by omega) (fun a e => by cases e) ?_
          rw [hs]
          simp [hap, ext]
      · have hs := wordsTo_skip s pos (Utf8.decode s pos).2 fun j hj1 hj2 => ⟨by omega, by
          have := h4 hr (j - pos) (by omega)
          rwa [show pos + (j - pos) = j by omega] at this⟩
        rw [if_neg (by unfold isBlank; simpa using hr)]
        cases st with
        | none =>
          refine spans_words s f _ (some pos) acc (by omega) (by omega) (fun a e => by injection e; omega) ?_
          rw [hs, hw]
          rfl
        | some a =>
          have hap := ha a rfl
          refine spans_words s f _ (some a) acc (by omega) (by omega) (fun a e => by injection e; omega) ?_
          rw [hs, hw]
          rfl
    · rw [Lib.spansFromP_end _ _ _ _ _ _ hlt]
      have := spans_words s 0 pos st acc (by omega) hp ha hw
      rw [Lib.spansFromP_end _ _ _ _ _ _ hlt] at this
      exact this

theorem fields_words (s : ByteArray) : Lib.goFieldsP isBlank s = wordsB s :=
  spans_words s s.size 0 none [] (by omega) (Nat.zero_le _) (fun a e => by cases e) rfl
end Go.Proofs.YtdbngfeelfgbeaaDoor.Tx

namespace Go.Proofs.YtdbngfeelfgbeaaDoor.Tx
open Go.RowKit
set_option linter.unusedVariables false

theorem add_any (a b : ByteArray) (h : a.size + b.size ≤ 1000000) : ∀ w : World, (Op.stringOp .add a b).run Tryd.prog w = .ok (.string (a ++ b)) w :=
  fun w => run_string_add_sum w a b (by omega)
theorem conv_one (w : World) (x : UInt8) : (convert 59 9 (.slice (some ⟨w.heap.size, 0, none⟩) 1 1)).run Tryd.prog (w.alloc (.cells #[.int .u8 (x.toNat : Int)] 5)) = .ok (.string ⟨#[x]⟩) (w.alloc (.cells #[.int .u8 (x.toNat : Int)] 5)) :=
  run_convert_bytes_back (w.alloc (.cells #[.int .u8 (x.toNat : Int)] 5)) 59 9 5 ⟨w.heap.size, 0, none⟩ 1 [x] Tryd.underlying59 Tryd.underlying5 Tryd.underlying9 (fun j hj => by
    obtain rfl : j = 0 := by simp at hj; omega
    exact World.news_of_block (cs := #[.int .u8 (x.toNat : Int)]) (t := 5) (fr := (0, 0)) (heap_alloc_new w _) 0 _ rfl)
theorem conv_one_drew (w : World) (x : UInt8) : (convert 59 9 (.slice (some ⟨w.heap.size, 0, none⟩) 1 1)).run Tryd.prog (w.alloc (.cells #[.int .u8 (x.toNat : Int)] 5)).drew = .ok (.string ⟨#[x]⟩) (w.alloc (.cells #[.int .u8 (x.toNat : Int)] 5)).drew :=
  run_convert_bytes_back (w.alloc (.cells #[.int .u8 (x.toNat : Int)] 5)).drew 59 9 5 ⟨w.heap.size, 0, none⟩ 1 [x] Tryd.underlying59 Tryd.underlying5 Tryd.underlying9 (fun j hj => by
    obtain rfl : j = 0 := by simp at hj; omega
    exact World.news_of_block (cs := #[.int .u8 (x.toNat : Int)]) (t := 5) (fr := (0, 0)) (heap_alloc_new w _) 0 _ rfl)

theorem conv_at (b : Nat) (x : UInt8) (W : World) (h : W.cell? ⟨b, 0, none⟩ = some (.int .u8 (x.toNat : Int))) : (convert 59 9 (.slice (some ⟨b, 0, none⟩) 1 1)).run Tryd.prog W = .ok (.string ⟨#[x]⟩) W :=
  run_convert_bytes_back W 59 9 5 ⟨b, 0, none⟩ 1 [x] Tryd.underlying59 Tryd.underlying5 Tryd.underlying9 (fun j hj => by
    obtain rfl : j = 0 := by simp at hj; omega
    exact h)

def txt (l : List UInt8) : ByteArray := ⟨l.toArray⟩
theorem txt_append (a b : List UInt8) : txt a ++ txt b = txt (a ++ b) := by
  unfold txt
  apply ByteArray.ext
  simp
theorem txt_size (a : List UInt8) : (txt a).size = a.length := by
  unfold txt
  simp [ByteArray.size]
theorem dec_len (u : Nat) (h : u ≤ 9223372036854775808) : (Lib.decDigits u).length ≤ 21 := by
  have := Lib.itoa_length_le (-(u : Int)) (by omega) (by omega)
  unfold Lib.itoa at this
  split at this
  · simp at this
    omega
  · obtain rfl : u = 0 := by omega
    rw [Lib.decDigits]
    simp
def dig (u : Nat) : UInt8 := UInt8.ofNat (48 + u % 10)
theorem dig_nat (u : Nat) : ((dig u).toNat : Int) = 48 + u % 10 := by
  unfold dig
  rw [UInt8.toNat_ofNat_of_lt' (by unfold UInt8.size; omega)]
  omega

theorem wrap_dig (u : Nat) : IntKind.u8.wrap ((dig u).toNat : Int) = ((dig u).toNat : Int) := by
  rw [dig_nat]
  unfold IntKind.wrap
  simp [IntKind.bits, IntKind.signed]
  omega

set_option maxRecDepth 100000 in
theorem digits_small (u : Nat) (h : u < 10) (w : World) :
    Calls Tryd.prog 28 #[.int .i64 u] w fun e w' => e = .returned (.string (txt (Lib.decDigits u))) ∧ Below w.heap.size w w' := by
  have hv : (u : Int) + 48 = ((dig u).toNat : Int) := by rw [dig_nat]; omega
  have hv' : 48 + (u : Int) = ((dig u).toNat : Int) := by rw [dig_nat]; omega
  have hw : IntKind.u8.wrap ((dig u).toNat : Int) = ((dig u).toNat : Int) := wrap_dig u
  have hd : Lib.decDigits u = [dig u] := by
    rw [Lib.decDigits, dif_pos h]
    unfold dig
    rw [Nat.mod_eq_of_lt h]
  have hc := conv_one
  go_enter Tryd.func28, Tryd.ntmps28
  go_wp2
  go_ret
  refine ⟨by rw [hd]; rfl, ?_⟩
  exact (Below.refl _ _).alloc (Nat.le_refl _) _

theorem wrap_i64 (x : Int) (h0 : -9223372036854775808 ≤ x) (h1 : x ≤ 9223372036854775807) : IntKind.i64.wrap x = x := by
  unfold IntKind.wrap
  simp [IntKind.bits, IntKind.signed]
  omega

theorem bdrew {w wa : World} (h : Below w.drew.heap.size w.drew wa) : Below w.heap.size w wa := (Below.refl _ w).drew.trans h

set_option maxRecDepth 100000 in
set_option maxHeartbeats 2000000 in
theorem digits_step (u q r : Nat) (x : UInt8) (A T : ByteArray) (hq : (u : Int) / 10 = (q : Int)) (hqw : IntKind.i64.wrap (q : Int) = (q : Int)) (hr : (u : Int) % 10 = (r : Int)) (hrt : (u : Int).tmod 10 = (r : Int)) (hqt : (u : Int).tdiv 10 = (q : Int)) (hv : 48 + (r : Int) = (x.toNat : Int))
    (hx : IntKind.i64.wrap (x.toNat : Int) = (x.toNat : Int)) (hw : IntKind.u8.wrap (x.toNat : Int) = (x.toNat : Int)) (hm : ((u : Int) == -9223372036854775808) = false) (h0 : ¬ (u : Int) < 0) (h10 : ¬ (u : Int) < 10)
    (hadd : ∀ w : World, (Op.stringOp .add A ⟨#[x]⟩).run Tryd.prog w = .ok (.string T) w) (w : World)
    (ih : Hid (∀ w, Calls Tryd.prog 28 #[.int .i64 q] w fun e w' => e = .returned (.string A) ∧ Below w.heap.size w w')) :
    Calls Tryd.prog 28 #[.int .i64 u] w fun e w' => e = .returned (.string T) ∧ Below w.heap.size w w' := by
  have hc := conv_one
  have hcd := conv_one_drew
  have ihA : Hid (∀ w0 : World, Calls Tryd.prog 28 #[.int .i64 q] (w0.alloc (.cells #[.int .u8 (x.toNat : Int)] 5)).drew fun e w' => e = .returned (.string A) ∧ Below w0.heap.size w0 w' ∧ (convert 59 9 (.slice (some ⟨w0.heap.size, 0, none⟩) 1 1)).run Tryd.prog w' = .ok (.string ⟨#[x]⟩) w') := fun w0 =>
    (ih.out _).mono fun e w' ⟨he, hb⟩ => ⟨he, (((Below.refl _ _).alloc (Nat.le_refl _) _).drew).trans (hb.mono (by simp)), conv_at w0.heap.size x w' ((hb.cell (p := ⟨w0.heap.size, 0, none⟩) (by simp)).trans (by simp))⟩
  go_enter Tryd.func28, Tryd.ntmps28
  go_wp2
  go_region_with (first | (go_at_call 28; refine (ihA.out _).mono ?_; rintro e wa ⟨rfl, hba, hcx0⟩; have hcx : (convert 59 9 (.slice (some ⟨w.heap.size, 0, none⟩) 1 1)).run Tryd.prog wa = .ok (.string ⟨#[x]⟩) wa := hcx0) | (go_at_call 28; refine (ih.out _).mono ?_; rintro e wa ⟨rfl, hba⟩))
  all_goals
    go_wp2
    go_ret
    refine ⟨rfl, ?_⟩
    first
      | exact hba
      | exact (bdrew hba)
      | exact (bdrew hba).alloc (bdrew hba).size _
      | exact hba.alloc hba.size _
      | exact (hba.alloc hba.size _).drew
      | exact hba.drew

theorem digits_nat (n : Nat) : ∀ u : Nat, u ≤ n → u ≤ 9223372036854775807 → ∀ w, Calls Tryd.prog 28 #[.int .i64 u] w fun e w' => e = .returned (.string (txt (Lib.decDigits u))) ∧ Below w.heap.size w w' := by
  induction n with
  | zero => exact fun u h0 _ w => digits_small u (by omega) w
  | succ n ih =>
    intro u h0 h1 w
    by_cases h : u < 10
    · exact digits_small u h w
    · have hd : txt (Lib.decDigits (u / 10)) ++ ⟨#[dig u]⟩ = txt (Lib.decDigits u) := by
        rw [Lib.decDigits.eq_1 u, dif_neg h]
        exact txt_append _ [dig u]
      have hl := dec_len (u / 10) (by omega)
      have hx := dig_nat u
      exact digits_step u (u / 10) (u % 10) (dig u) (txt (Lib.decDigits (u / 10))) (txt (Lib.decDigits u)) (by omega) (wrap_i64 _ (by omega) (by omega)) (by omega) (by rw [Int.tmod_eq_emod_of_nonneg (by omega)]; omega) (by rw [Int.tdiv_eq_ediv_of_nonneg (by omega)]; omega) (by omega)
        (wrap_i64 _ (by omega) (by omega)) (wrap_dig u) (by simp <;> omega) (by omega) (by omega) (by rw [← hd]; exact add_any _ _ (by rw [txt_size]; show _ + 1 ≤ 1000000; omega)) w (ih (u / 10) (by omega) (by omega))

set_option maxRecDepth 100000 in
theorem digitsC (n : Int) (h0 : -9223372036854775808 ≤ n) (h1 : n ≤ 9223372036854775807) (w : World) :
    Calls Tryd.prog 28 #[.int .i64 n] w fun e w' => e = .returned (.string (txt (Lib.itoa n))) ∧ Below w.heap.size w w' := by
  by_cases hm : n = -9223372036854775808
  · subst hm
    go_enter Tryd.func28, Tryd.ntmps28
    go_wp2
    go_ret
    exact ⟨by kernel_rfl, Below.refl _ _⟩
  by_cases hn : n < 0
  · obtain ⟨u, rfl⟩ : ∃ u : Nat, n = -(u : Int) := ⟨n.natAbs, by omega⟩
    have hmm : ((-(u : Int)) == -9223372036854775808) = false := by simp; omega
    have hneg : wrap64 (- -(u : Int)) = (u : Int) := by unfold wrap64; omega
    have hneg' : wrap64 (u : Int) = (u : Int) := by unfold wrap64; omega
    have hl := dec_len u (by omega)
    have hadd := add_any { data := #[45] } (txt (Lib.decDigits u)) (by rw [txt_size]; show 1 + _ ≤ 1000000; omega)
    have hT : ({ data := #[45] } : ByteArray) ++ txt (Lib.decDigits u) = txt (Lib.itoa (-(u : Int))) := by
      rw [Lib.itoa_neg u (by omega)]
      exact txt_append [45] _
    rw [hT] at hadd
    go_enter Tryd.func28, Tryd.ntmps28
    go_wp2_with fail
    refine (digits_nat u u (Nat.le_refl _) (by omega) _).mono ?_
    rintro e w1 ⟨rfl, hb⟩
    go_wp2
    go_ret
    exact ⟨rfl, hb⟩
  · obtain ⟨u, rfl⟩ : ∃ u : Nat, n = (u : Int) := ⟨n.toNat, by omega⟩
    rw [Lib.itoa_nonneg]
    exact digits_nat u u (Nat.le_refl _) (by omega) w
end Go.Proofs.YtdbngfeelfgbeaaDoor.Tx

namespace Go.Proofs.YtdbngfeelfgbeaaDoor
open Go.RowKit
set_option linter.unusedVariables false

theorem spIn (x low high : Int) (w : World) (b : Bool) (h : (b = true ∧ low ≤ x ∧ x ≤ high) ∨ (b = false ∧ (x < low ∨ high < x))) :
    Calls Tryd.prog 26 #[.int .i64 x, .int .i64 low, .int .i64 high] w fun e w' => e = .returned (.bool b) ∧ w' = w := by
  rcases h with ⟨rfl, h0, h1⟩ | ⟨rfl, h⟩
  · go_enter Tryd.func26, Tryd.ntmps26
    go_wp2
    go_ret
    refine ⟨congrArg (fun x => Ending.returned (.bool x)) ?_, rfl⟩
    first | rfl | (simp; done) | (simp; omega)
  · by_cases h0 : x < low
    · go_enter Tryd.func26, Tryd.ntmps26
      go_wp2
      go_ret
      refine ⟨congrArg (fun x => Ending.returned (.bool x)) ?_, rfl⟩
      first | rfl | (simp; done) | (simp; omega)
    · have h1 : high < x := by omega
      clear h
      go_enter Tryd.func26, Tryd.ntmps26
      go_wp2
      go_ret
      refine ⟨congrArg (fun x => Ending.returned (.bool x)) ?_, rfl⟩
      first | rfl | (simp; done) | (simp; omega)

end Go.Proofs.YtdbngfeelfgbeaaDoor
