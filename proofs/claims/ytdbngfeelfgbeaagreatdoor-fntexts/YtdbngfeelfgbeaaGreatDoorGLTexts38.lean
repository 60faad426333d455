/- Reading numbers, fields and words, in the program: contracts. Reading fields and words, in the program: contracts. -/
import Derived.Test.YtdbngfeelfgbeaaGreatDoorGLTexts2
import Derived.Test.YtdbngfeelfgbeaaGreatDoorGLTexts3
import Derived.Test.YtdbngfeelfgbeaaGreatDoorGLTexts22
import Derived.Test.YtdbngfeelfgbeaaGreatDoorGLTexts37
namespace Go.Proofs.YtdbngfeelfgbeaaGreatDoor.Tx
open Go.RowKit Go.Sort
set_option linter.unusedVariables false

theorem atoi_in64 {l : List UInt8} {v : Int} (h : Lib.atoiAll l = .ok v) : In64 v := by
  unfold Lib.atoiAll at h
  split at h
  · cases h
  · simp only at h
    split at h
    · cases h
    · cases h
    · split at h
      · cases h
      · split at h
        · cases h
        · rename_i h1 h2
          injection h with h
          unfold In64
          split at h <;> omega
theorem trim_list (l : List UInt8) : Lib.trimPrefix l [45] = if l.head? = some 45 then l.tail else l := by
  unfold Lib.trimPrefix Lib.hasPrefix
  cases l with
  | nil => rfl
  | cons a r =>
    by_cases h : a = 45
    · subst h
      simp
    · have h' : ¬ ((45 : UInt8) = a) := fun e => h e.symm
      simp [h, h']
theorem num_long {l : List UInt8} (h : 18 < (if l.head? = some 45 then l.tail else l).length) : numV l = 0 ∧ numK l = false := by
  have : numB l = none := by
    unfold numB
    split
    · rename_i e
      rw [if_pos e] at h
      exact numD_no _ _ (.inr (.inl h))
    · rename_i e
      rw [if_neg e] at h
      exact numD_no _ _ (.inr (.inl h))
  unfold numV numK
  rw [this]
  exact ⟨rfl, rfl⟩
theorem num_not {l : List UInt8} (h : ∀ v, Lib.atoiAll l = .ok v → Lib.itoa v ≠ l) : numV l = 0 ∧ numK l = false := by
  have : numB l = none := by
    cases e : numB l with
    | none => rfl
    | some v => exact absurd (num_atoi e).2.1 (h v (num_atoi e).1)
  unfold numV numK
  rw [this]
  exact ⟨rfl, rfl⟩
theorem num_is {l : List UInt8} {v : Int} (h : Lib.itoa v = l) (hl : (if l.head? = some 45 then l.tail else l).length ≤ 18) : numV l = v ∧ numK l = true := by
  have := num_back h hl
  unfold numV numK
  rw [this]
  exact ⟨rfl, rfl⟩
theorem txt_self (t : ByteArray) : txt t.data.toList = t := by
  unfold txt
  rw [Array.toArray_toList]
theorem below_atoi {w w' : World} {b : TypeId} (h : w' = w ∨ ∃ t, w' = Lib.bytesWorld w b t) : Below w.heap.size w w' := by
  rcases h with rfl | ⟨t, rfl⟩
  · exact Below.refl _ _
  · exact Lib.bytesWorld_below _ _ _

set_option maxRecDepth 100000 in
set_option maxHeartbeats 4000000 in
theorem numP (t : ByteArray) (ht : t.size ≤ 1000000) (w : World) (hl : Rd.Laid w) :
    Calls Tryz.prog 52 #[.string t] w fun e w' => e = .returned (.tuple #[.int .i64 (numV t.data.toList), .bool (numK t.data.toList)]) ∧ Below w.heap.size w w' := by
  obtain ⟨L, hL⟩ : ∃ L, L = Lib.trimPrefix t.data.toList [45] := ⟨_, rfl⟩
  have hsz : (⟨L.toArray⟩ : ByteArray).size = L.length := by simp [ByteArray.size]
  have hT : Hid (∀ w, Calls Tryz.prog 61 #[.string t, .string { data := #[45] }] w fun e w' => e = .returned (.string ⟨L.toArray⟩) ∧ w' = w) := fun w => by rw [hL]; exact Tryz.strings_TrimPrefix t ⟨#[45]⟩ w
  rw [trim_list] at hL
  by_cases hlen : 18 < L.length
  · obtain ⟨a1, a2⟩ := num_long (l := t.data.toList) (by rw [← hL]; exact hlen)
    have A1 : Hid (_ = _) := a1
    have A2 : Hid (_ = _) := a2
    clear a1 a2 hL hl
    have hli : (18 : Int) < ((⟨L.toArray⟩ : ByteArray).size : Int) := by rw [hsz]; omega
    clear hsz
    go_enter Tryz.func52, Tryz.ntmps52
    go_wp2_with fail
    refine (hT.out _).mono ?_
    rintro e w1 ⟨rfl, rfl⟩
    go_wp2
    go_ret2
    exact ⟨ret_nb A1.out.symm A2.out.symm, Below.refl _ _⟩
  have hli : ¬ (18 : Int) < ((⟨L.toArray⟩ : ByteArray).size : Int) := by rw [hsz]; omega
  have hlj : ¬ (18 : Int) < (L.length : Int) := by omega
  have hl18 : (if t.data.toList.head? = some 45 then t.data.toList.tail else t.data.toList).length ≤ 18 := by rw [← hL]; omega
  clear hsz hL hlen
  cases ha : Lib.atoiAll t.data.toList with
  | ok v =>
    have hv := atoi_in64 ha
    have HA : Hid (∀ w, Calls Tryz.prog 62 #[.string t] w fun e w' => e = .returned (.tuple #[.int .i64 v, .nilIface]) ∧ Below w.heap.size w w') := fun w => (Tryz.strconv_Atoi_ok t (by omega) v ha w).mono fun e w' ⟨he, hb⟩ => ⟨he, below_atoi hb⟩
    cases he : ((txt (Lib.itoa v)).toList == t.toList) with
    | true =>
      have heq : Lib.itoa v = t.data.toList := by
        have := eq_of_beq he
        rw [ByteArray.toList_eq, ByteArray.toList_eq] at this
        simpa [txt] using this
      obtain ⟨a1, a2⟩ := num_is heq hl18
      have A1 : Hid (_ = _) := a1
      have A2 : Hid (_ = _) := a2
      clear a1 a2 heq hl18 ha
      go_enter Tryz.func52, Tryz.ntmps52
      go_wp2_with fail
      refine (hT.out _).mono ?_
      rintro e w1 ⟨rfl, rfl⟩
      go_wp2_with fail
      refine (HA.out _).mono ?_
      rintro e w2 ⟨rfl, hb2⟩
      have hp : Pow w2 := pow_below hl.x.p hb2
      clear hl
      go_wp2_with fail
      refine (itoaC v hv _ hp).mono ?_
      rintro e w3 ⟨rfl, hb3⟩
      have HB : Hid (Below w1.heap.size w1 w3) := hb2.trans (hb3.mono hb2.size)
      clear hb2 hb3 hp
      go_wp2
      go_ret2
      exact ⟨ret_nb A1.out.symm A2.out.symm, HB.out⟩
    | false =>
      have hne : Lib.itoa v ≠ t.data.toList := fun e => by
        have : ((txt (Lib.itoa v)).toList == t.toList) = true := by
          rw [ByteArray.toList_eq, ByteArray.toList_eq]
          show ((Lib.itoa v).toArray.toList == t.data.toList) = true
          rw [e]
          exact beq_self_eq_true _
        rw [this] at he
        cases he
      obtain ⟨a1, a2⟩ := num_not (l := t.data.toList) (fun u hu => by rw [ha] at hu; injection hu with hu; rw [← hu]; exact hne)
      have A1 : Hid (_ = _) := a1
      have A2 : Hid (_ = _) := a2
      clear a1 a2 hne hl18 ha
      go_enter Tryz.func52, Tryz.ntmps52
      go_wp2_with fail
      refine (hT.out _).mono ?_
      rintro e w1 ⟨rfl, rfl⟩
      go_wp2_with fail
      refine (HA.out _).mono ?_
      rintro e w2 ⟨rfl, hb2⟩
      have hp : Pow w2 := pow_below hl.x.p hb2
      clear hl
      go_wp2_with fail
      refine (itoaC v hv _ hp).mono ?_
      rintro e w3 ⟨rfl, hb3⟩
      have HB : Hid (Below w1.heap.size w1 w3) := hb2.trans (hb3.mono hb2.size)
      clear hb2 hb3 hp
      go_wp2
      go_ret2
      exact ⟨ret_nb A1.out.symm A2.out.symm, HB.out⟩
  | «syntax» =>
    obtain ⟨a1, a2⟩ := num_not (l := t.data.toList) (fun u hu => by rw [ha] at hu; cases hu)
    have A1 : Hid (_ = _) := a1
    have A2 : Hid (_ = _) := a2
    obtain ⟨tp, p, hv⟩ := hl.s
    have HA := Tryz.strconv_Atoi_syntax_var t (by omega) ha tp p w hv
    clear a1 a2 hl18 ha hl hv
    go_enter Tryz.func52, Tryz.ntmps52
    go_wp2_with fail
    refine (hT.out _).mono ?_
    rintro e w1 ⟨rfl, rfl⟩
    go_wp2_with fail
    refine HA.mono ?_
    rintro e w2 ⟨N, rfl, _, _, hb⟩
    go_wp2
    go_ret2
    exact ⟨ret_nb A1.out.symm A2.out.symm, hb⟩
  | range =>
    obtain ⟨a1, a2⟩ := num_not (l := t.data.toList) (fun u hu => by rw [ha] at hu; cases hu)
    have A1 : Hid (_ = _) := a1
    have A2 : Hid (_ = _) := a2
    obtain ⟨tp, p, hv⟩ := hl.r
    have HA := Tryz.strconv_Atoi_range_var t (by omega) ha tp p w hv
    clear a1 a2 hl18 ha hl hv
    go_enter Tryz.func52, Tryz.ntmps52
    go_wp2_with fail
    refine (hT.out _).mono ?_
    rintro e w1 ⟨rfl, rfl⟩
    go_wp2_with fail
    refine HA.mono ?_
    rintro e w2 ⟨N, rfl, _, _, hb⟩
    go_wp2
    go_ret2
    exact ⟨ret_nb A1.out.symm A2.out.symm, hb⟩
end Go.Proofs.YtdbngfeelfgbeaaGreatDoor.Tx

namespace Go.Proofs.YtdbngfeelfgbeaaGreatDoor.Tx
open Go.RowKit Go.Sort
set_option linter.unusedVariables false

def fldV (l : UInt8) (t : List UInt8) : Int := if l = 105 then numV t else if t.head? = some 120 then numV t.tail else 0
def fldK (l : UInt8) (t : List UInt8) : Bool := if l = 105 then numK t else if t.head? = some 120 then numK t.tail else false
theorem cut_list (l : List UInt8) : Lib.trimPrefix l [120] = (if l.head? = some 120 then l.tail else l) ∧ Lib.hasPrefix l [120] = decide (l.head? = some 120) := by
  unfold Lib.trimPrefix Lib.hasPrefix
  cases l with
  | nil => exact ⟨rfl, rfl⟩
  | cons a r =>
    by_cases h : a = 120
    · subst h
      simp
    · have h' : ¬ ((120 : UInt8) = a) := fun e => h e.symm
      simp [h, h', List.isPrefixOf]

set_option maxRecDepth 100000 in
theorem fldP (l : UInt8) (t : ByteArray) (ht : t.size ≤ 1000000) (w : World) (hl : Rd.Laid w) :
    Calls Tryz.prog 24 #[.int .u8 (l.toNat : Int), .string t] w fun e w' => e = .returned (.tuple #[.int .i64 (fldV l t.data.toList), .bool (fldK l t.data.toList)]) ∧ Below w.heap.size w w' := by
  unfold fldV fldK
  by_cases h : l = 105
  · subst h
    rw [if_pos rfl, if_pos rfl]
    have h5 : (((105 : UInt8).toNat : Int) == 105) = true := rfl
    go_enter Tryz.func24, Tryz.ntmps24
    go_wp2_with fail
    refine (numP t ht _ hl).mono ?_
    rintro e w1 ⟨rfl, hb⟩
    go_wp2
    go_ret2
    exact ⟨rfl, hb⟩
  · rw [if_neg h, if_neg h]
    have h5 : ((l.toNat : Int) == 105) = false := by
      rw [beq_eq_false_iff_ne]
      intro e
      exact h (UInt8.toNat_inj.1 (by show l.toNat = 105; omega))
    obtain ⟨c1, c2⟩ := cut_list t.data.toList
    have hC : Hid (∀ w, Calls Tryz.prog 53 #[.string t, .string { data := #[120] }] w fun e w' => e = .returned (.tuple #[.string ⟨(Lib.trimPrefix t.data.toList [120]).toArray⟩, .bool (Lib.hasPrefix t.data.toList [120])]) ∧ w' = w) := fun w => Tryz.strings_CutPrefix t ⟨#[120]⟩ w
    rw [c1, c2] at hC
    by_cases h0 : t.data.toList.head? = some 120
    · rw [if_pos h0, decide_eq_true h0] at hC
      rw [if_pos h0, if_pos h0]
      obtain ⟨T, hT⟩ : ∃ T : ByteArray, T = ⟨t.data.toList.tail.toArray⟩ := ⟨_, rfl⟩
      rw [← hT] at hC
      have hTl : T.data.toList = t.data.toList.tail := by rw [hT]
      have hTz : T.size ≤ 1000000 := by
        rw [← len_list, hTl, List.length_tail, len_list]
        omega
      rw [← hTl]
      clear hT hTl c1 c2 h0
      go_enter Tryz.func24, Tryz.ntmps24
      go_wp2_with fail
      refine (hC.out _).mono ?_
      rintro e w1 ⟨rfl, rfl⟩
      go_wp2_with fail
      refine (numP T hTz _ hl).mono ?_
      rintro e w2 ⟨rfl, hb⟩
      go_wp2
      go_ret2
      exact ⟨rfl, hb⟩
    · rw [if_neg h0, decide_eq_false h0] at hC
      rw [if_neg h0, if_neg h0]
      clear c1 c2 h0
      go_enter Tryz.func24, Tryz.ntmps24
      go_wp2_with fail
      refine (hC.out _).mono ?_
      rintro e w1 ⟨rfl, rfl⟩
      go_wp2
      go_ret2
      exact ⟨rfl, Below.refl _ _⟩

theorem blankC (w : World) : PredAt Tryz.prog 51 #[] encR isBlank w := fun W r _ => by
  unfold FnGives
  by_cases h : r = 32
  · subst h
    go_enter Tryz.func51, Tryz.ntmps51
    go_wp2
    go_ret
    exact ⟨rfl, 0, rfl⟩
  · have hb : ((r : Int) == 32) = false := by rw [beq_eq_false_iff_ne]; omega
    have hi : isBlank r = false := by unfold isBlank; rw [beq_eq_false_iff_ne]; exact h
    rw [hi]
    go_enter Tryz.func51, Tryz.ntmps51
    go_wp2
    go_ret
    exact ⟨rfl, 0, rfl⟩

theorem blankP (t : ByteArray) (ht : t.size ≤ 1000000) (w : World) :
    Calls Tryz.prog 23 #[.string t] w fun e w' => ∃ A, e = .returned (.slice (some ⟨A, 0, none⟩) (wordsB t).length (wordsB t).length) ∧ w'.ownsRow w.heap.size 9 1 (.slice (some ⟨A, 0, none⟩) (wordsB t).length (wordsB t).length) (wordsB t).length ((wordsB t).map Value.string) ∧ Below w.heap.size w w' := by
  have hC := fun w => Tryz.strings_FieldsFunc 51 #[] (enters_of Tryz.func51 (by kernel_rfl) rfl) isBlank t w (by omega) (blankC w)
  simp only [fields_words] at hC
  have hC : Hid (∀ w, _) := hC
  go_enter Tryz.func23, Tryz.ntmps23
  go_wp2_with fail
  refine (hC.out _).mono ?_
  rintro e w1 ⟨A, rfl, hA, hown, hb⟩
  go_wp2
  go_ret
  exact ⟨A, rfl, hown, hb⟩
end Go.Proofs.YtdbngfeelfgbeaaGreatDoor.Tx
