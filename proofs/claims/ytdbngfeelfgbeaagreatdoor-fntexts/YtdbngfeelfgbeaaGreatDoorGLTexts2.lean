/- What is laid on the road of reading an instruction: beside the texts' road, strconv's two errors. Numbers and their texts: plain. -/
import Derived.Test.YtdbngfeelfgbeaaGreatDoorGLTexts1
import Derived.Lib.ItoaNum
import Derived.Lib.ItoaMem
import Derived.Lib.AtoiAll
import Derived.Lib.Atoi
namespace Go.Proofs.YtdbngfeelfgbeaaGreatDoor.Rd
open Go.RowKit Go.ChangeShapes Go.WideShapes Go.ChangeAt
set_option linter.unusedVariables false

def laidList : List (String × DataW Unit) := [("math/bits.deBruijn32tab", Rows.laid_math_bits_deBruijn32tab), ("math/bits.deBruijn64tab", Rows.laid_math_bits_deBruijn64tab), ("internal/strconv.uint64pow10", Rows.laid_internal_strconv_uint64pow10), ("strconv.ErrRange", Rows.laid_strconv_ErrRange), ("strconv.ErrSyntax", Rows.laid_strconv_ErrSyntax), ("loop.example/g00654/impl.errRange", Rows.laid_loop_example_g00654_impl_errRange), ("loop.example/g00654/impl.errSize", Rows.laid_loop_example_g00654_impl_errSize), ("loop.example/g00654/impl.opNames", Rows.laid_loop_example_g00654_impl_opNames)]

def VarIs (w : World) (n : String) : Prop := ∃ tp p, w.var? Tryz.prog n = some #[.iface tp p]
theorem gR : Tryz.prog.globalNamed "strconv.ErrRange" = some 6 := by kernel_rfl
theorem gS : Tryz.prog.globalNamed "strconv.ErrSyntax" = some 5 := by kernel_rfl
theorem tR : (Tryz.prog.globals[6]?).map (·.type) = some 55 := by kernel_rfl
theorem tS : (Tryz.prog.globals[5]?).map (·.type) = some 55 := by kernel_rfl
theorem var_below {w w' : World} {n : String} {g : Nat} (hg : Tryz.prog.globalNamed n = some g) (h : VarIs w n) (hb : Below w.heap.size w w') : VarIs w' n := by
  obtain ⟨tp, p, h⟩ := h
  have h0 := World.var?_cell hg h 0
  exact ⟨tp, p, var?_below hb hg (World.block_lt_of_cell? w _ h0) h⟩

structure Laid (w : World) : Prop where
  x : Tx.Laid w
  r : VarIs w "strconv.ErrRange"
  s : VarIs w "strconv.ErrSyntax"
theorem laid_below {w w' : World} (h : Laid w) (hb : Below w.heap.size w w') : Laid w' := ⟨Tx.laid_below h.x hb, var_below gR h.r hb, var_below gS h.s hb⟩

theorem of_laid {W : World} (h : laidMetH Tryz.prog laidList W) : Laid W := by
  rw [MakeChecks.laidMetH_plain _ _ _ (by kernel_rfl)] at h
  have h3 := h.tail.tail
  have h4 := h3.tail
  obtain ⟨a0, a1, s0, s1, c0, c1, t0, t1, hv0, hv1, _⟩ := laid_sentinels2 h4 gR tR gS tS Tryz.underlying55 rowE Tryz.underlying147 Tryz.underlying149 rfl rfl Tryz.underlying9 cE cS
  exact ⟨⟨Tx.errs_of h4.tail.tail, Tx.names_of h4.tail.tail.tail.tail, Tx.pow_of h3⟩, ⟨_, _, hv0⟩, ⟨_, _, hv1⟩⟩
theorem door_met (os : Os) (args : Array Value) : laidMetH Tryz.prog laidList ((World.doorLaid Tryz.prog 400 os).forCall (fun _ _ => 0) ⟨#[], args, []⟩).memory :=
  laidMetH_of_parts3 (fuel := 8) (laidMet_of_run' 8 (by kernel_rfl) (by kernel_rfl)) (by kernel_rfl) (by kernel_rfl)
theorem vars_len3 {H : Type} {enc : TypeId × Value → H} {P : Program} {w : World} {sp : Nat → Bool} {m n o : String} {gs : List (DataW H)} {ps : List MemPlace} (h : DataW.TrodVars enc P w sp [m, n, o] gs ps) : ∃ g k l, gs = [g, k, l] := Tx.vars_len3 h
end Go.Proofs.YtdbngfeelfgbeaaGreatDoor.Rd

namespace Go.Proofs.YtdbngfeelfgbeaaGreatDoor.Tx

theorem decFrom_snoc (acc : Nat) (b : UInt8) : ∀ l : List UInt8, Lib.decFrom acc (l ++ [b]) = (Lib.decFrom acc l).bind fun m => (Lib.digitVal b).map fun d => m * 10 + d := by
  intro l
  induction l generalizing acc with
  | nil =>
    simp only [List.nil_append, Lib.decFrom]
    cases Lib.digitVal b <;> rfl
  | cons a t ih =>
    simp only [List.cons_append, Lib.decFrom]
    cases Lib.digitVal a with
    | none => rfl
    | some e => exact ih _

theorem digitVal_dig (d : Nat) (h : d < 10) : Lib.digitVal (UInt8.ofNat (48 + d)) = some d := by
  have e : (UInt8.ofNat (48 + d)).toNat = 48 + d := UInt8.toNat_ofNat_of_lt' (by unfold UInt8.size; omega)
  unfold Lib.digitVal
  rw [e, if_pos (by omega)]
  congr 1
  omega
theorem dig_of_val {b : UInt8} {d : Nat} (h : Lib.digitVal b = some d) : d < 10 ∧ UInt8.ofNat (48 + d) = b := by
  unfold Lib.digitVal at h
  split at h
  · simp only [Option.some.injEq] at h
    subst h
    refine ⟨by omega, ?_⟩
    rw [show 48 + (b.toNat - 48) = b.toNat by omega]
    exact UInt8.ofNat_toNat
  · cases h

theorem decDigits_ne (m : Nat) : Lib.decDigits m ≠ [] := by
  rw [Lib.decDigits]
  split <;> simp

/-- A number is read back from its digits. -/
theorem dec_back (m : Nat) : Lib.decFrom 0 (Lib.decDigits m) = some m := by
  induction m using Nat.strongRecOn with
  | _ m ih =>
    rw [Lib.decDigits]
    split
    · rename_i h
      simp only [Lib.decFrom, digitVal_dig m h, Nat.zero_mul, Nat.zero_add]
    · rename_i h
      rw [decFrom_snoc, ih (m / 10) (by omega), digitVal_dig (m % 10) (by omega)]
      simp only [Option.bind_some, Option.map_some, Option.some.injEq]
      omega

theorem dec_ge (acc : Nat) : ∀ (l : List UInt8) (m : Nat), Lib.decFrom acc l = some m → acc * 10 ^ l.length ≤ m := by
  intro l
  induction l generalizing acc with
  | nil =>
    intro m h
    simp only [Lib.decFrom, Option.some.injEq] at h
    simp [h]
  | cons a t ih =>
    intro m h
    simp only [Lib.decFrom] at h
    cases hd : Lib.digitVal a with
    | none => rw [hd] at h; cases h
    | some d =>
      rw [hd] at h
      have := ih _ m h
      rw [List.length_cons, Nat.pow_succ, Nat.mul_comm (10 ^ t.length) 10, ← Nat.mul_assoc]
      exact Nat.le_trans (Nat.mul_le_mul_right _ (by omega)) this
theorem dec_lt (acc : Nat) : ∀ (l : List UInt8) (m : Nat), Lib.decFrom acc l = some m → m < (acc + 1) * 10 ^ l.length := by
  intro l
  induction l generalizing acc with
  | nil =>
    intro m h
    simp only [Lib.decFrom, Option.some.injEq] at h
    simp [h]
  | cons a t ih =>
    intro m h
    simp only [Lib.decFrom] at h
    cases hd : Lib.digitVal a with
    | none => rw [hd] at h; cases h
    | some d =>
      rw [hd] at h
      have := ih _ m h
      have hd := (dig_of_val hd).1
      rw [List.length_cons, Nat.pow_succ, Nat.mul_comm (10 ^ t.length) 10, ← Nat.mul_assoc]
      exact Nat.lt_of_lt_of_le this (Nat.mul_le_mul_right _ (by omega))

/-- Digits without a nought ahead are the digits of their number. -/
theorem dec_canon (d : List UInt8) : ∀ m, d ≠ [] → (d.head? = some 48 → d.length = 1) → Lib.decFrom 0 d = some m → Lib.decDigits m = d := by
  induction hn : d.length generalizing d with
  | zero => intro m h; exact absurd (List.length_eq_zero_iff.1 hn) h
  | succ n ih =>
    intro m _ hz hd
    obtain ⟨t, b, rfl⟩ : ∃ t b, d = t ++ [b] := ⟨d.dropLast, d.getLast (by intro h; simp [h] at hn), (List.dropLast_concat_getLast _).symm⟩
    rw [decFrom_snoc] at hd
    cases ht : Lib.decFrom 0 t with
    | none => rw [ht] at hd; cases hd
    | some q =>
      rw [ht] at hd
      cases hb : Lib.digitVal b with
      | none => rw [hb] at hd; cases hd
      | some e =>
        rw [hb] at hd
        simp only [Option.bind_some, Option.map_some, Option.some.injEq] at hd
        obtain ⟨he, hbe⟩ := dig_of_val hb
        cases t with
        | nil =>
          simp only [Lib.decFrom, Option.some.injEq] at ht
          rw [Lib.decDigits, dif_pos (by omega), show 48 + m = 48 + e by omega, hbe]
          rfl
        | cons a r =>
          have ha : a ≠ 48 := fun h => by
            have h1 := hz (by rw [h]; rfl)
            simp at hn
            omega
          have hq : 1 ≤ q := by
            simp only [Lib.decFrom] at ht
            cases hx : Lib.digitVal a with
            | none => rw [hx] at ht; cases ht
            | some x =>
              rw [hx] at ht
              obtain ⟨_, hxa⟩ := dig_of_val hx
              have hx1 : 1 ≤ x := by
                rcases Nat.eq_zero_or_pos x with h | h
                · subst h; exact absurd hxa.symm ha
                · exact h
              have h2 := dec_ge _ _ _ ht
              have h3 : 1 ≤ 10 ^ r.length := Nat.one_le_pow _ _ (by omega)
              have h4 : x ≤ x * 10 ^ r.length := Nat.le_mul_of_pos_right _ h3
              rw [Nat.zero_mul, Nat.zero_add] at h2
              omega
          have hr := ih (a :: r) (by simp at hn ⊢; omega) q (by simp) (fun h => by simp at h; exact absurd h ha) ht
          rw [Lib.decDigits, dif_neg (by omega), show m / 10 = q by omega, show m % 10 = e by omega, hr, hbe]

theorem dec_head (m : Nat) (h : 1 ≤ m) : (Lib.decDigits m).head? ≠ some 48 := by
  induction m using Nat.strongRecOn with
  | _ m ih =>
    rw [Lib.decDigits]
    split
    · rename_i h10
      have e : (UInt8.ofNat (48 + m)).toNat = 48 + m := UInt8.toNat_ofNat_of_lt' (by unfold UInt8.size; omega)
      intro hh
      simp only [List.head?_cons, Option.some.injEq] at hh
      rw [hh] at e
      have : (48 : UInt8).toNat = 48 := rfl
      omega
    · rename_i h10
      have := ih (m / 10) (by omega) (by omega)
      cases hd : Lib.decDigits (m / 10) with
      | nil => exact absurd hd (decDigits_ne _)
      | cons a r =>
        rw [hd] at this
        simpa using this

/-- The number that a text is, if it is one. -/
def numD (neg : Bool) (d : List UInt8) : Option Int :=
  if d = [] ∨ 18 < d.length ∨ (d.head? = some 48 ∧ (1 < d.length ∨ neg = true)) then none
  else (Lib.decFrom 0 d).map fun (m : Nat) => if neg then -(m : Int) else (m : Int)
def numB (t : List UInt8) : Option Int := if t.head? = some 45 then numD true t.tail else numD false t

theorem parse_of_dec (acc : Nat) : ∀ (l : List UInt8) (m : Nat), Lib.decFrom acc l = some m → m < 1000000000000000000 → Lib.parseUint10 acc l = .ok m := by
  intro l
  induction l generalizing acc with
  | nil =>
    intro m h _
    simp only [Lib.decFrom, Option.some.injEq] at h
    simp [Lib.parseUint10, h]
  | cons a t ih =>
    intro m h hm
    have hge := dec_ge acc (a :: t) m h
    simp only [Lib.decFrom] at h
    cases hd : Lib.digitVal a with
    | none => rw [hd] at h; cases h
    | some d =>
      rw [hd] at h
      have hge2 := dec_ge _ _ _ h
      have hd' := hd
      unfold Lib.digitVal at hd'
      split at hd'
      · rename_i hc
        simp only [Option.some.injEq] at hd'
        have hp : 1 ≤ 10 ^ t.length := Nat.one_le_pow _ _ (by omega)
        have h1 : acc * 10 + d ≤ m := Nat.le_trans (Nat.le_mul_of_pos_right _ hp) hge2
        have hr := ih _ m h hm
        rw [Lib.parseUint10, if_pos hc, if_neg (by omega), if_neg (by omega), hd']
        exact hr
      · cases hd'

theorem dec18 {d : List UInt8} {m : Nat} (h : Lib.decFrom 0 d = some m) (hl : d.length ≤ 18) : m < 1000000000000000000 := by
  have := dec_lt 0 d m h
  have h2 : 10 ^ d.length ≤ 10 ^ 18 := Nat.pow_le_pow_right (by omega) hl
  omega

/-- What is a number's text is read by Atoi, and is that number's text. -/
theorem num_atoi {t : List UInt8} {v : Int} (h : numB t = some v) : Lib.atoiAll t = .ok v ∧ Lib.itoa v = t ∧ -1000000000000000000 < v ∧ v < 1000000000000000000 := by
  unfold numB at h
  split at h
  · rename_i h45
    obtain ⟨d, rfl⟩ : ∃ d, t = 45 :: d := by
      cases t with
      | nil => cases h45
      | cons a r =>
        simp only [List.head?_cons, Option.some.injEq] at h45
        exact ⟨r, by rw [h45]⟩
    simp only [List.tail_cons] at h
    unfold numD at h
    split at h
    · cases h
    · rename_i hc
      obtain ⟨m, hm, hv⟩ := Option.map_eq_some_iff.1 h
      simp only [if_true] at hv
      have hd0 : d ≠ [] := fun e => hc (.inl e)
      have hd1 : d.length ≤ 18 := Nat.le_of_not_lt fun e => hc (.inr (.inl e))
      have hd2 : d.head? ≠ some 48 := fun e => hc (.inr (.inr ⟨e, .inr rfl⟩))
      have hm18 := dec18 hm hd1
      have hcan := dec_canon d m hd0 (fun e => absurd e hd2) hm
      have hm1 : 1 ≤ m := by
        rcases Nat.eq_zero_or_pos m with e | e
        · subst e
          exact absurd (by rw [← hcan, Lib.decDigits]; rfl) hd2
        · exact e
      subst hv
      refine ⟨?_, by rw [Lib.itoa_neg m hm1, hcan], by omega, by omega⟩
      have hp : Lib.parseMag d = .ok m := by
        unfold Lib.parseMag
        rw [if_neg hd0]
        exact parse_of_dec 0 d m hm hm18
      have h45' : (45 : UInt8).toNat = 45 := rfl
      simp only [Lib.atoiAll, h45']
      simp [hp]
      omega
  · rename_i h45
    unfold numD at h
    split at h
    · cases h
    · rename_i hc
      obtain ⟨m, hm, hv⟩ := Option.map_eq_some_iff.1 h
      have hv : (m : Int) = v := by simpa using hv
      have hd0 : t ≠ [] := fun e => hc (.inl e)
      have hd1 : t.length ≤ 18 := Nat.le_of_not_lt fun e => hc (.inr (.inl e))
      have hd2 : t.head? = some 48 → t.length = 1 := fun e => by
        have : ¬ 1 < t.length := fun g => hc (.inr (.inr ⟨e, .inl g⟩))
        have : t.length ≠ 0 := fun g => hd0 (List.length_eq_zero_iff.1 g)
        omega
      have hm18 := dec18 hm hd1
      have hcan := dec_canon t m hd0 hd2 hm
      subst hv
      refine ⟨?_, by rw [Lib.itoa_nonneg, hcan], by omega, by omega⟩
      cases t with
      | nil => exact absurd rfl hd0
      | cons c r =>
        have hdig : ∃ x, Lib.digitVal c = some x := Lib.digit_of_decFrom (c :: r) 0 m hm 0 c rfl
        obtain ⟨x, hx⟩ := hdig
        have hcd : 48 ≤ c.toNat ∧ c.toNat ≤ 57 := by
          unfold Lib.digitVal at hx
          split at hx
          · assumption
          · cases hx
        have hp : Lib.parseMag (c :: r) = .ok m := by
          unfold Lib.parseMag
          rw [if_neg (by simp)]
          exact parse_of_dec 0 _ m hm hm18
        simp only [Lib.atoiAll]
        rw [if_neg (show ¬ (c.toNat = 43 ∨ c.toNat = 45) by omega), hp]
        simp only
        rw [if_neg (by omega), if_neg (by omega), if_neg (by omega)]

/-- What Atoi reads, and what is the text of what it read, is a number's text. -/
theorem num_back {t : List UInt8} {v : Int} (h : Lib.itoa v = t) (hl : (if t.head? = some 45 then t.tail else t).length ≤ 18) : numB t = some v := by
  subst h
  unfold numB
  by_cases hv : v < 0
  · obtain ⟨m, rfl⟩ : ∃ m : Nat, v = -(m : Int) := ⟨v.natAbs, by omega⟩
    have hm1 : 1 ≤ m := by omega
    rw [Lib.itoa_neg m hm1] at hl ⊢
    simp only [List.head?_cons, if_true, List.tail_cons] at hl ⊢
    unfold numD
    rw [if_neg, dec_back]
    · simp
    · rintro (e | e | ⟨e, _⟩)
      · exact decDigits_ne m e
      · omega
      · exact dec_head m hm1 e
  · obtain ⟨m, rfl⟩ : ∃ m : Nat, v = (m : Int) := ⟨v.toNat, by omega⟩
    rw [Lib.itoa_nonneg] at hl ⊢
    have hne : (Lib.decDigits m).head? ≠ some 45 := fun e => by
      have hm := dec_back m
      cases hd : Lib.decDigits m with
      | nil => rw [hd] at e; cases e
      | cons a r =>
        rw [hd] at e hm
        simp only [List.head?_cons, Option.some.injEq] at e
        subst e
        have : Lib.digitVal 45 = none := by decide
        simp [Lib.decFrom, this] at hm
    rw [if_neg hne] at hl ⊢
    unfold numD
    rw [if_neg, dec_back]
    · simp
    · rintro (e | e | ⟨e, e2⟩)
      · exact decDigits_ne m e
      · omega
      · rcases Nat.eq_zero_or_pos m with h0 | h0
        · subst h0
          rcases e2 with e2 | e2
          · rw [Lib.decDigits] at e2
            simp at e2
          · cases e2
        · exact dec_head m h0 e
theorem num_small {n : Int} (h0 : -1000000000000000000 < n) (h1 : n < 1000000000000000000) : numB (Lib.itoa n) = some n := by
  apply num_back rfl
  have key : ∀ m : Nat, m < 1000000000000000000 → (Lib.decDigits m).length ≤ 18 := fun m hm => by
    rw [Lib.decDigits_eq]
    simp only [List.length_map, List.length_range]
    rcases Nat.lt_or_ge 18 (Lib.nDigits m) with h | h
    · exfalso
      obtain ⟨k, hk⟩ : ∃ k, Lib.nDigits m = k + 1 := ⟨Lib.nDigits m - 1, by omega⟩
      have hge : 10 ^ 18 ≤ m := by
        have hg : ∀ (j u : Nat), Lib.nDigits u = j + 1 → 1 ≤ j → 10 ^ j ≤ u := by
          intro j
          induction j with
          | zero => intro u _ h; omega
          | succ j ih =>
            intro u hu _
            by_cases hu10 : u < 10
            · rw [Lib.nDigits_small hu10] at hu; omega
            · rw [Lib.nDigits_big hu10] at hu
              rw [Nat.pow_succ]
              rcases Nat.eq_zero_or_pos j with h0 | h0
              · subst h0; omega
              · have := ih (u / 10) (by omega) h0
                omega
        exact Nat.le_trans (Nat.pow_le_pow_right (by omega) (by omega)) (hg k m hk (by omega))
      omega
    · exact h
  by_cases hv : n < 0
  · obtain ⟨m, rfl⟩ : ∃ m : Nat, n = -(m : Int) := ⟨n.natAbs, by omega⟩
    rw [Lib.itoa_neg m (by omega)]
    simp only [List.head?_cons, if_true, List.tail_cons]
    exact key m (by omega)
  · obtain ⟨m, rfl⟩ : ∃ m : Nat, n = (m : Int) := ⟨n.toNat, by omega⟩
    rw [Lib.itoa_nonneg]
    have := key m (by omega)
    split
    · simp; omega
    · exact this
end Go.Proofs.YtdbngfeelfgbeaaGreatDoor.Tx
