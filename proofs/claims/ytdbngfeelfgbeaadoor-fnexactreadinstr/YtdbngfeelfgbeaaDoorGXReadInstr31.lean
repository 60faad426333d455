/- Reading numbers, fields and words, in the program: contracts. Reading fields and words, in the program: contracts. The words of a text, registers, lists of texts compared, in the model: contracts. Two lists of texts compared, in the model: the contract. The numbers of the operations' names: plain. Contracts of both OpOf. ReadInstr of the program: the walk. Reading an instruction in the model: what it finds. -/
import Derived.Test.YtdbngfeelfgbeaaDoorGXReadInstr1
import Derived.Test.YtdbngfeelfgbeaaDoorGXReadInstr2
import Derived.Test.YtdbngfeelfgbeaaDoorGXReadInstr18
import Derived.Test.YtdbngfeelfgbeaaDoorGXReadInstr30
import Derived.Test.YtdbngfeelfgbeaaDoorGXReadInstr24
import Derived.BigQuiet
import Derived.Test.YtdbngfeelfgbeaaDoorGXReadInstr10
import Derived.Maps.Own
import Derived.Maps.OwnOps
import Derived.Maps.Views
import Derived.Test.YtdbngfeelfgbeaaDoorGXReadInstr3
namespace Go.Proofs.YtdbngfeelfgbeaaDoor.Tx
open Go.RowKit Go.Sort
set_option linter.unusedVariables false

theorem atoi_in64 {l : List UInt8} {v : Int} (h : Lib.atoiAll l = .ok v) : In64 v := by
  unfold Lib.atoiAll at h
  split at h
  · cases h
  · simp only at h
    split at h
    · cases h
    · cases h
    · split at h
      · cases h
      · split at h
        · cases h
        · rename_i h1 h2
          injection h with h
          unfold In64
          split at h <;> omega
theorem trim_list (l : List UInt8) : Lib.trimPrefix l [45] = if l.head? = some 45 then l.tail else l := by
  unfold Lib.trimPrefix Lib.hasPrefix
  cases l with
  | nil => rfl
  | cons a r =>
    by_cases h : a = 45
    · subst h
      simp
    · have h' : ¬ ((45 : UInt8) = a) := fun e => h e.symm
      simp [h, h']
theorem num_long {l : List UInt8} (h : 18 < (if l.head? = some 45 then l.tail else l).length) : numV l = 0 ∧ numK l = false := by
  have : numB l = none := by
    unfold numB
    split
    · rename_i e
      rw [if_pos e] at h
      exact numD_no _ _ (.inr (.inl h))
    · rename_i e
      rw [if_neg e] at h
      exact numD_no _ _ (.inr (.inl h))
  unfold numV numK
  rw [this]
  exact ⟨rfl, rfl⟩
theorem num_not {l : List UInt8} (h : ∀ v, Lib.atoiAll l = .ok v → Lib.itoa v ≠ l) : numV l = 0 ∧ numK l = false := by
  have : numB l = none := by
    cases e : numB l with
    | none => rfl
    | some v => exact absurd (num_atoi e).2.1 (h v (num_atoi e).1)
  unfold numV numK
  rw [this]
  exact ⟨rfl, rfl⟩
theorem num_is {l : List UInt8} {v : Int} (h : Lib.itoa v = l) (hl : (if l.head? = some 45 then l.tail else l).length ≤ 18) : numV l = v ∧ numK l = true := by
  have := num_back h hl
  unfold numV numK
  rw [this]
  exact ⟨rfl, rfl⟩
theorem txt_self (t : ByteArray) : txt t.data.toList = t := by
  unfold txt
  rw [Array.toArray_toList]
theorem below_atoi {w w' : World} {b : TypeId} (h : w' = w ∨ ∃ t, w' = Lib.bytesWorld w b t) : Below w.heap.size w w' := by
  rcases h with rfl | ⟨t, rfl⟩
  · exact Below.refl _ _
  · exact Lib.bytesWorld_below _ _ _

set_option maxRecDepth 100000 in
set_option maxHeartbeats 4000000 in
theorem numP (t : ByteArray) (ht : t.size ≤ 1000000) (w : World) (hl : Rd.Laid w) :
    Calls Tryd.prog 49 #[.string t] w fun e w' => e = .returned (.tuple #[.int .i64 (numV t.data.toList), .bool (numK t.data.toList)]) ∧ Below w.heap.size w w' := by
  obtain ⟨L, hL⟩ : ∃ L, L = Lib.trimPrefix t.data.toList [45] := ⟨_, rfl⟩
  have hsz : (⟨L.toArray⟩ : ByteArray).size = L.length := by simp [ByteArray.size]
  have hT : Hid (∀ w, Calls Tryd.prog 59 #[.string t, .string { data := #[45] }] w fun e w' => e = .returned (.string ⟨L.toArray⟩) ∧ w' = w) := fun w => by rw [hL]; exact Tryd.strings_TrimPrefix t ⟨#[45]⟩ w
  rw [trim_list] at hL
  by_cases hlen : 18 < L.length
  · obtain ⟨a1, a2⟩ := num_long (l := t.data.toList) (by rw [← hL]; exact hlen)
    have A1 : Hid (_ = _) := a1
    have A2 : Hid (_ = _) := a2
    clear a1 a2 hL hl
    have hli : (18 : Int) < ((⟨L.toArray⟩ : ByteArray).size : Int) := by rw [hsz]; omega
    clear hsz
    go_enter Tryd.func49, Tryd.ntmps49
    go_wp2_with fail
    refine (hT.out _).mono ?_
    rintro e w1 ⟨rfl, rfl⟩
    go_wp2
    go_ret2
    exact ⟨ret_nb A1.out.symm A2.out.symm, Below.refl _ _⟩
  have hli : ¬ (18 : Int) < ((⟨L.toArray⟩ : ByteArray).size : Int) := by rw [hsz]; omega
  have hlj : ¬ (18 : Int) < (L.length : Int) := by omega
  have hl18 : (if t.data.toList.head? = some 45 then t.data.toList.tail else t.data.toList).length ≤ 18 := by rw [← hL]; omega
  clear hsz hL hlen
  cases ha : Lib.atoiAll t.data.toList with
  | ok v =>
    have hv := atoi_in64 ha
    have HA : Hid (∀ w, Calls Tryd.prog 60 #[.string t] w fun e w' => e = .returned (.tuple #[.int .i64 v, .nilIface]) ∧ Below w.heap.size w w') := fun w => (Tryd.strconv_Atoi_ok t (by omega) v ha w).mono fun e w' ⟨he, hb⟩ => ⟨he, below_atoi hb⟩
    cases he : ((txt (Lib.itoa v)).toList == t.toList) with
    | true =>
      have heq : Lib.itoa v = t.data.toList := by
        have := eq_of_beq he
        rw [ByteArray.toList_eq, ByteArray.toList_eq] at this
        simpa [txt] using this
      obtain ⟨a1, a2⟩ := num_is heq hl18
      have A1 : Hid (_ = _) := a1
      have A2 : Hid (_ = _) := a2
      clear a1 a2 heq hl18 ha
      go_enter Tryd.func49, Tryd.ntmps49
      go_wp2_with fail
      refine (hT.out _).mono ?_
      rintro e w1 ⟨rfl, rfl⟩
      go_wp2_with fail
      refine (HA.out _).mono ?_
      rintro e w2 ⟨rfl, hb2⟩
      have hp : Pow w2 := pow_below hl.x.p hb2
      clear hl
      go_wp2_with fail
      refine (itoaC v hv _ hp).mono ?_
      rintro e w3 ⟨rfl, hb3⟩
      have HB : Hid (Below w1.heap.size w1 w3) := hb2.trans (hb3.mono hb2.size)
      clear hb2 hb3 hp
      go_wp2
      go_ret2
      exact ⟨ret_nb A1.out.symm A2.out.symm, HB.out⟩
    | false =>
      have hne : Lib.itoa v ≠ t.data.toList := fun e => by
        have : ((txt (Lib.itoa v)).toList == t.toList) = true := by
          rw [ByteArray.toList_eq, ByteArray.toList_eq]
          show ((Lib.itoa v).toArray.toList == t.data.toList) = true
          rw [e]
          exact beq_self_eq_true _
        rw [this] at he
        cases he
      obtain ⟨a1, a2⟩ := num_not (l := t.data.toList) (fun u hu => by rw [ha] at hu; injection hu with hu; rw [← hu]; exact hne)
      have A1 : Hid (_ = _) := a1
      have A2 : Hid (_ = _) := a2
      clear a1 a2 hne hl18 ha
      go_enter Tryd.func49, Tryd.ntmps49
      go_wp2_with fail
      refine (hT.out _).mono ?_
      rintro e w1 ⟨rfl, rfl⟩
      go_wp2_with fail
      refine (HA.out _).mono ?_
      rintro e w2 ⟨rfl, hb2⟩
      have hp : Pow w2 := pow_below hl.x.p hb2
      clear hl
      go_wp2_with fail
      refine (itoaC v hv _ hp).mono ?_
      rintro e w3 ⟨rfl, hb3⟩
      have HB : Hid (Below w1.heap.size w1 w3) := hb2.trans (hb3.mono hb2.size)
      clear hb2 hb3 hp
      go_wp2
      go_ret2
      exact ⟨ret_nb A1.out.symm A2.out.symm, HB.out⟩
  | «syntax» =>
    obtain ⟨a1, a2⟩ := num_not (l := t.data.toList) (fun u hu => by rw [ha] at hu; cases hu)
    have A1 : Hid (_ = _) := a1
    have A2 : Hid (_ = _) := a2
    obtain ⟨tp, p, hv⟩ := hl.s
    have HA := Tryd.strconv_Atoi_syntax_var t (by omega) ha tp p w hv
    clear a1 a2 hl18 ha hl hv
    go_enter Tryd.func49, Tryd.ntmps49
    go_wp2_with fail
    refine (hT.out _).mono ?_
    rintro e w1 ⟨rfl, rfl⟩
    go_wp2_with fail
    refine HA.mono ?_
    rintro e w2 ⟨N, rfl, _, _, hb⟩
    go_wp2
    go_ret2
    exact ⟨ret_nb A1.out.symm A2.out.symm, hb⟩
  | range =>
    obtain ⟨a1, a2⟩ := num_not (l := t.data.toList) (fun u hu => by rw [ha] at hu; cases hu)
    have A1 : Hid (_ = _) := a1
    have A2 : Hid (_ = _) := a2
    obtain ⟨tp, p, hv⟩ := hl.r
    have HA := Tryd.strconv_Atoi_range_var t (by omega) ha tp p w hv
    clear a1 a2 hl18 ha hl hv
    go_enter Tryd.func49, Tryd.ntmps49
    go_wp2_with fail
    refine (hT.out _).mono ?_
    rintro e w1 ⟨rfl, rfl⟩
    go_wp2_with fail
    refine HA.mono ?_
    rintro e w2 ⟨N, rfl, _, _, hb⟩
    go_wp2
    go_ret2
    exact ⟨ret_nb A1.out.symm A2.out.symm, hb⟩
end Go.Proofs.YtdbngfeelfgbeaaDoor.Tx

namespace Go.Proofs.YtdbngfeelfgbeaaDoor.Tx
open Go.RowKit Go.Sort
set_option linter.unusedVariables false

def fldV (l : UInt8) (t : List UInt8) : Int := if l = 105 then numV t else if t.head? = some 120 then numV t.tail else 0
def fldK (l : UInt8) (t : List UInt8) : Bool := if l = 105 then numK t else if t.head? = some 120 then numK t.tail else false
theorem cut_list (l : List UInt8) : Lib.trimPrefix l [120] = (if l.head? = some 120 then l.tail else l) ∧ Lib.hasPrefix l [120] = decide (l.head? = some 120) := by
  unfold Lib.trimPrefix Lib.hasPrefix
  cases l with
  | nil => exact ⟨rfl, rfl⟩
  | cons a r =>
    by_cases h : a = 120
    · subst h
      simp
    · have h' : ¬ ((120 : UInt8) = a) := fun e => h e.symm
      simp [h, h', List.isPrefixOf]

set_option maxRecDepth 100000 in
theorem fldP (l : UInt8) (t : ByteArray) (ht : t.size ≤ 1000000) (w : World) (hl : Rd.Laid w) :
    Calls Tryd.prog 22 #[.int .u8 (l.toNat : Int), .string t] w fun e w' => e = .returned (.tuple #[.int .i64 (fldV l t.data.toList), .bool (fldK l t.data.toList)]) ∧ Below w.heap.size w w' := by
  unfold fldV fldK
  by_cases h : l = 105
  · subst h
    rw [if_pos rfl, if_pos rfl]
    have h5 : (((105 : UInt8).toNat : Int) == 105) = true := rfl
    go_enter Tryd.func22, Tryd.ntmps22
    go_wp2_with fail
    refine (numP t ht _ hl).mono ?_
    rintro e w1 ⟨rfl, hb⟩
    go_wp2
    go_ret2
    exact ⟨rfl, hb⟩
  · rw [if_neg h, if_neg h]
    have h5 : ((l.toNat : Int) == 105) = false := by
      rw [beq_eq_false_iff_ne]
      intro e
      exact h (UInt8.toNat_inj.1 (by show l.toNat = 105; omega))
    obtain ⟨c1, c2⟩ := cut_list t.data.toList
    have hC : Hid (∀ w, Calls Tryd.prog 50 #[.string t, .string { data := #[120] }] w fun e w' => e = .returned (.tuple #[.string ⟨(Lib.trimPrefix t.data.toList [120]).toArray⟩, .bool (Lib.hasPrefix t.data.toList [120])]) ∧ w' = w) := fun w => Tryd.strings_CutPrefix t ⟨#[120]⟩ w
    rw [c1, c2] at hC
    by_cases h0 : t.data.toList.head? = some 120
    · rw [if_pos h0, decide_eq_true h0] at hC
      rw [if_pos h0, if_pos h0]
      obtain ⟨T, hT⟩ : ∃ T : ByteArray, T = ⟨t.data.toList.tail.toArray⟩ := ⟨_, rfl⟩
      rw [← hT] at hC
      have hTl : T.data.toList = t.data.toList.tail := by rw [hT]
      have hTz : T.size ≤ 1000000 := by
        rw [← len_list, hTl, List.length_tail, len_list]
        omega
      rw [← hTl]
      clear hT hTl c1 c2 h0
      go_enter Tryd.func22, Tryd.ntmps22
      go_wp2_with fail
      refine (hC.out _).mono ?_
      rintro e w1 ⟨rfl, rfl⟩
      go_wp2_with fail
      refine (numP T hTz _ hl).mono ?_
      rintro e w2 ⟨rfl, hb⟩
      go_wp2
      go_ret2
      exact ⟨rfl, hb⟩
    · rw [if_neg h0, decide_eq_false h0] at hC
      rw [if_neg h0, if_neg h0]
      clear c1 c2 h0
      go_enter Tryd.func22, Tryd.ntmps22
      go_wp2_with fail
      refine (hC.out _).mono ?_
      rintro e w1 ⟨rfl, rfl⟩
      go_wp2
      go_ret2
      exact ⟨rfl, Below.refl _ _⟩

theorem blankC (w : World) : PredAt Tryd.prog 47 #[] encR isBlank w := fun W r _ => by
  unfold FnGives
  by_cases h : r = 32
  · subst h
    go_enter Tryd.func47, Tryd.ntmps47
    go_wp2
    go_ret
    exact ⟨rfl, 0, rfl⟩
  · have hb : ((r : Int) == 32) = false := by rw [beq_eq_false_iff_ne]; omega
    have hi : isBlank r = false := by unfold isBlank; rw [beq_eq_false_iff_ne]; exact h
    rw [hi]
    go_enter Tryd.func47, Tryd.ntmps47
    go_wp2
    go_ret
    exact ⟨rfl, 0, rfl⟩

theorem blankP (t : ByteArray) (ht : t.size ≤ 1000000) (w : World) :
    Calls Tryd.prog 20 #[.string t] w fun e w' => ∃ A, e = .returned (.slice (some ⟨A, 0, none⟩) (wordsB t).length (wordsB t).length) ∧ w'.ownsRow w.heap.size 9 1 (.slice (some ⟨A, 0, none⟩) (wordsB t).length (wordsB t).length) (wordsB t).length ((wordsB t).map Value.string) ∧ Below w.heap.size w w' := by
  have hC := fun w => Tryd.strings_FieldsFunc 47 #[] (enters_of Tryd.func47 (by kernel_rfl) rfl) isBlank t w (by omega) (blankC w)
  simp only [fields_words] at hC
  have hC : Hid (∀ w, _) := hC
  go_enter Tryd.func20, Tryd.ntmps20
  go_wp2_with fail
  refine (hC.out _).mono ?_
  rintro e w1 ⟨A, rfl, hA, hown, hb⟩
  go_wp2
  go_ret
  exact ⟨A, rfl, hown, hb⟩
end Go.Proofs.YtdbngfeelfgbeaaDoor.Tx

namespace Go.Proofs.YtdbngfeelfgbeaaDoor.Tx
open Go.RowKit
set_option linter.unusedVariables false

def strs (l : List ByteArray) : List Value := l.map Value.string
theorem strs_snoc (l : List ByteArray) (x : ByteArray) : strs (l ++ [x]) = strs l ++ strs [x] := by simp [strs]
theorem strs_len (l : List ByteArray) : (strs l).length = l.length := by simp [strs]
theorem bt_at (s : ByteArray) (k : Nat) (h : k < s.size) : bt s k = s[k].toNat := by
  have e : s.get! k = s[k] := by
    show s.data[k]! = _
    exact getElem!_pos s.data k h
  unfold bt
  rw [e]
theorem wordsTo_next (s : ByteArray) (k : Nat) : wordsTo s (k + 1) = stepW s (wordsTo s k) k := rfl

set_option maxRecDepth 100000 in
set_option maxHeartbeats 4000000 in
theorem wordsC (t : ByteArray) (ht : t.size ≤ 1000000) (w : World) :
    Calls Tryd.prog 41 #[.string t] w fun e w' => ∃ v, e = .returned v ∧ w'.ownsRow w.heap.size 9 1 v (wordsB t).length (strs (wordsB t)) ∧ Below w.heap.size w w' := by
  obtain ⟨i0, hinfo, hz0, hz1, hz2⟩ := info_parts Tryd.info_str
  have hti : (t.size : Int) ≤ 1000000 := by omega
  go_enter Tryd.func41, Tryd.ntmps41
  go_wp2
  go_loopw [3, 4, 5] (fun v f i wr => ∃ k fr : Nat, ∃ ws : List ByteArray, k ≤ t.size + 1 ∧ fr ≤ k ∧ ws.length ≤ k ∧ i = .int .i64 k ∧ f = .int .i64 fr ∧ Hid (wordsTo t k = (ws, fr)) ∧ wr.ownsRow w.heap.size 9 1 v ws.length (strs ws) ∧ Below w.heap.size w wr) (fun _ _ i _ => t.size + 1 - (intOf i).toNat)
  case atStart => exact ⟨0, 0, [], by omega, Nat.le_refl _, Nat.le_refl _, rfl, rfl, rfl, World.ownsRow_made w #[] 0 (Nat.le_refl _) (Nat.zero_le _) rfl, (Below.refl _ _).alloc (Nat.le_refl _) _⟩
  case round =>
    obtain ⟨k, fr, ws, hk, hfr, hwl, rfl, rfl, hw, hown, hbel⟩ := hrel
    by_cases hlt : k ≤ t.size
    · have hkt : (k : Int) ≤ (t.size : Int) := by omega
      have hsz := hbel.size
      by_cases hbl : k = t.size ∨ bt t k = 32
      · by_cases hfk : fr < k
        · have hn : Hid (wordsTo t (k + 1) = (ws ++ [t.extract fr k], k + 1)) := by
            show _ = _
            rw [wordsTo_next, hw.out]
            unfold stepW
            rw [if_pos hbl, if_pos hfk]
          have hfi : (fr : Int) < (k : Int) := by omega
          have hfl : (fr : Int) ≤ (k : Int) := by omega
          have hf0 : (0 : Int) ≤ (fr : Int) := by omega
          have hk0 : (0 : Int) ≤ (k : Int) := by omega
          by_cases he : k = t.size
          · subst he
            clear hbl hw
            go_wp2_with (at_builtin; refine wpList_append_lies _ rfl _ _ 36 rfl w.heap.size 9 i0 _ 1 16 Tryd.underlying36 hinfo hz0 hz1 hz2 rfl (by omega) _ _ _ rfl (hown.alloc _) ⟨wr.heap.size, 0, none⟩ 1 1 (strs [t.extract fr t.size]) rfl rfl (World.news_of_block (cs := #[.string (t.extract fr t.size)]) (t := 9) (fr := (0, 0)) (heap_alloc_new wr _)) (by simp [strs, Value.oneCell']) (by omega) (by unfold maxLen; omega) (by omega) (by simp; omega) (wr.heap.size + 1) (by simp) ?_; intro gg cap2 w2 hown1 hgrow hat hlt1)
            go_roundw
            case rel => exact ⟨t.size + 1, t.size + 1, ws ++ [t.extract fr t.size], by omega, Nat.le_refl _, by simp; omega, by go_num, by go_num, hn, by rw [strs_snoc, List.length_append]; exact hown1, (hbel.alloc hsz _).grown hgrow (by simp; omega) (fun j hj => (hown.lt j hj).1)⟩
            case measure => first | (simp [intOf]; done) | (simp [intOf]; omega)
          · have hb : bt t k = 32 := hbl.resolve_left he
            have hki : (k : Int) < (t.size : Int) := by omega
            have hkn : k < t.size := by omega
            have hke : ((k : Int) == (t.size : Int)) = false := by rw [beq_eq_false_iff_ne]; omega
            rw [bt_at t k hkn] at hb
            have hb2 : ((t[k].toNat : Int) == 32) = true := by rw [hb]; rfl
            clear hbl hw hb
            go_wp2_with (at_builtin; refine wpList_append_lies _ rfl _ _ 36 rfl w.heap.size 9 i0 _ 1 16 Tryd.underlying36 hinfo hz0 hz1 hz2 rfl (by omega) _ _ _ rfl (hown.alloc _) ⟨wr.heap.size, 0, none⟩ 1 1 (strs [t.extract fr k]) rfl rfl (World.news_of_block (cs := #[.string (t.extract fr k)]) (t := 9) (fr := (0, 0)) (heap_alloc_new wr _)) (by simp [strs, Value.oneCell']) (by omega) (by unfold maxLen; omega) (by omega) (by simp; omega) (wr.heap.size + 1) (by simp) ?_; intro gg cap2 w2 hown1 hgrow hat hlt1)
            go_roundw
            case rel => exact ⟨k + 1, k + 1, ws ++ [t.extract fr k], by omega, Nat.le_refl _, by simp; omega, by go_num, by go_num, hn, by rw [strs_snoc, List.length_append]; exact hown1, (hbel.alloc hsz _).grown hgrow (by simp; omega) (fun j hj => (hown.lt j hj).1)⟩
            case measure => first | (simp [intOf]; done) | (simp [intOf]; omega)
        · have hn : Hid (wordsTo t (k + 1) = (ws, k + 1)) := by
            show _ = _
            rw [wordsTo_next, hw.out]
            unfold stepW
            rw [if_pos hbl, if_neg hfk]
          have hfi : ¬ (fr : Int) < (k : Int) := by omega
          have hk0 : (0 : Int) ≤ (k : Int) := by omega
          by_cases he : k = t.size
          · subst he
            clear hbl hw
            go_wp2
            go_roundw
            case rel => exact ⟨t.size + 1, t.size + 1, ws, by omega, Nat.le_refl _, by omega, by go_num, by go_num, hn, hown, hbel⟩
            case measure => first | (simp [intOf]; done) | (simp [intOf]; omega)
          · have hb : bt t k = 32 := hbl.resolve_left he
            have hki : (k : Int) < (t.size : Int) := by omega
            have hkn : k < t.size := by omega
            have hke : ((k : Int) == (t.size : Int)) = false := by rw [beq_eq_false_iff_ne]; omega
            rw [bt_at t k hkn] at hb
            have hb2 : ((t[k].toNat : Int) == 32) = true := by rw [hb]; rfl
            clear hbl hw hb
            go_wp2
            go_roundw
            case rel => exact ⟨k + 1, k + 1, ws, by omega, Nat.le_refl _, by omega, by go_num, by go_num, hn, hown, hbel⟩
            case measure => first | (simp [intOf]; done) | (simp [intOf]; omega)
      · have hn : Hid (wordsTo t (k + 1) = (ws, fr)) := by
          show _ = _
          rw [wordsTo_next, hw.out]
          unfold stepW
          rw [if_neg hbl]
        have hkn : k < t.size := by omega
        have hki : (k : Int) < (t.size : Int) := by omega
        have hk0 : (0 : Int) ≤ (k : Int) := by omega
        have hke : ((k : Int) == (t.size : Int)) = false := by rw [beq_eq_false_iff_ne]; omega
        have hb : t[k].toNat ≠ 32 := fun e => hbl (.inr (by rw [bt_at t k hkn]; exact e))
        have hb2 : ((t[k].toNat : Int) == 32) = false := by rw [beq_eq_false_iff_ne]; omega
        clear hbl hw hb
        go_wp2
        go_roundw
        case rel => exact ⟨k + 1, fr, ws, by omega, by omega, by omega, by go_num, rfl, hn, hown, hbel⟩
        case measure => first | (simp [intOf]; done) | (simp [intOf]; omega)
    · obtain rfl : k = t.size + 1 := by omega
      have hws : wordsB t = ws := by unfold wordsB; rw [hw.out]
      have hke : ¬ ((t.size : Int) + 1 ≤ (t.size : Int)) := by omega
      rw [← hws] at hown
      clear hw hws
      go_wp2
      go_ret
      exact ⟨_, rfl, hown, hbel⟩

/-- A register's number, or -1. -/
def regN (l : List UInt8) : Int := if 2 ≤ l.length ∧ l.head? = some 120 ∧ numK l.tail = true ∧ regB (numV l.tail) = true then numV l.tail else -1
theorem tail_ext (t : ByteArray) : (t.extract 1 t.size).data.toList = t.data.toList.tail := by
  have : (t.extract 1 t.size).data.toList = (t.data.toList.drop 1).take (t.size - 1) := by
    rw [← ByteArray.toList_eq, Lib.extract_toList]
  rw [this, List.drop_one, List.take_of_length_le]
  rw [List.length_tail, len_list]
  exact Nat.le_refl _

theorem regC1 (t : ByteArray) (ht : t.size ≤ 1000000) (w : World) :
    Calls Tryd.prog 43 #[.string t] w fun e w' => e = .returned (.int .i64 (regN t.data.toList)) ∧ w' = w := by
  by_cases h2 : t.size < 2
  · have hR : Hid (regN t.data.toList = -1) := by
      show _ = _
      unfold regN
      rw [if_neg (fun e => by have := e.1; rw [len_list] at this; omega)]
    have h2i : (t.size : Int) < 2 := by omega
    go_enter Tryd.func43, Tryd.ntmps43
    go_wp2
    go_ret
    exact ⟨congrArg (fun x => Ending.returned (.int .i64 x)) hR.out.symm, rfl⟩
  have h2i : ¬ (t.size : Int) < 2 := by omega
  have h0 : 0 < t.size := by omega
  have h0i : (0 : Int) < (t.size : Int) := by omega
  have h1i : (1 : Int) ≤ (t.size : Int) := by omega
  by_cases hx : t[0].toNat = 120
  case neg =>
    have hR : Hid (regN t.data.toList = -1) := by
      show _ = _
      unfold regN
      rw [if_neg (fun e => by
        have := e.2.1
        rw [head_list t h0] at this
        injection this with this
        exact hx (by rw [this]; rfl))]
    have hxb : ((t[0].toNat : Int) == 120) = false := by rw [beq_eq_false_iff_ne]; omega
    have hxc : ((t[0].toNat : Int) != 120) = true := by rw [bne_iff_ne]; omega
    clear hx
    go_enter Tryd.func43, Tryd.ntmps43
    go_wp2
    go_ret
    exact ⟨congrArg (fun x => Ending.returned (.int .i64 x)) hR.out.symm, rfl⟩
  have hxb : ((t[0].toNat : Int) == 120) = true := by rw [hx]; rfl
  have hxc : ((t[0].toNat : Int) != 120) = false := by rw [hx]; rfl
  have hhd : t.data.toList.head? = some 120 := by rw [head_list t h0, u8_eq (b := 120) hx]
  have hlen : 2 ≤ t.data.toList.length := by rw [len_list]; omega
  obtain ⟨d, hd⟩ : ∃ d, t.extract 1 t.size = d := ⟨_, rfl⟩
  have hdl : t.data.toList.tail = d.data.toList := by rw [← hd, tail_ext]
  have hdz : d.size ≤ 1000000 := by rw [← hd, ByteArray.size_extract]; omega
  have hRe : regN t.data.toList = if numK d.data.toList = true ∧ regB (numV d.data.toList) = true then numV d.data.toList else -1 := by
    unfold regN
    rw [hdl]
    by_cases h : numK d.data.toList = true ∧ regB (numV d.data.toList) = true
    · rw [if_pos h, if_pos ⟨hlen, hhd, h.1, h.2⟩]
    · rw [if_neg h, if_neg (fun e => h ⟨e.2.2.1, e.2.2.2⟩)]
  have hN : Hid (∀ w, Calls Tryd.prog 44 #[.string d] w fun e w' => e = .returned (.tuple #[.int .i64 (numV d.data.toList), .bool (numK d.data.toList)]) ∧ w' = w) := numC d hdz
  rw [hRe]
  clear hRe hdl hlen hhd hx
  generalize numV d.data.toList = V at *
  generalize numK d.data.toList = K at *
  cases K with
  | false =>
    rw [if_neg (fun e => by cases e.1)]
    go_enter Tryd.func43, Tryd.ntmps43
    go_wp2_with fail
    refine (hN.out _).mono ?_
    rintro e w1 ⟨rfl, rfl⟩
    go_wp2
    go_ret
    exact ⟨rfl, rfl⟩
  | true =>
    cases hg : regB V with
    | false =>
      have hr : Hid (∀ w, Calls Tryd.prog 24 #[.int .i64 V] w fun e w' => e = .returned (.bool false) ∧ w' = w) := fun w => by rw [← hg]; exact spReg V w
      clear hg
      rw [if_neg (fun e => by cases e.2)]
      go_enter Tryd.func43, Tryd.ntmps43
      go_wp2_with fail
      refine (hN.out _).mono ?_
      rintro e w1 ⟨rfl, rfl⟩
      go_wp2_with fail
      refine (hr.out _).mono ?_
      rintro e w2 ⟨rfl, rfl⟩
      go_wp2
      all_goals first | (exfalso; omega) | (exfalso; simp_all; done) | (go_ret; exact ⟨rfl, rfl⟩)
    | true =>
      have hr : Hid (∀ w, Calls Tryd.prog 24 #[.int .i64 V] w fun e w' => e = .returned (.bool true) ∧ w' = w) := fun w => by rw [← hg]; exact spReg V w
      clear hg
      rw [if_pos ⟨rfl, rfl⟩]
      go_enter Tryd.func43, Tryd.ntmps43
      go_wp2_with fail
      refine (hN.out _).mono ?_
      rintro e w1 ⟨rfl, rfl⟩
      go_wp2_with fail
      refine (hr.out _).mono ?_
      rintro e w2 ⟨rfl, rfl⟩
      go_wp2
      all_goals first | (exfalso; omega) | (exfalso; simp_all; done) | (go_ret; exact ⟨rfl, rfl⟩)
end Go.Proofs.YtdbngfeelfgbeaaDoor.Tx

namespace Go.Proofs.YtdbngfeelfgbeaaDoor.Tx
open Go.RowKit
set_option linter.unusedVariables false

/-- A slice of texts that is there to be read. -/
structure Texts (w : World) (v : Value) (xs : List ByteArray) : Prop where
  shape : ∃ p c, v = .slice p xs.length c
  at' : 0 < xs.length → ∃ g c, v = .slice (some ⟨g, 0, none⟩) xs.length c ∧ g < w.heap.size ∧ ∀ j x, xs[j]? = some x → w.cell? ⟨g, j, none⟩ = some (.string x)
theorem texts_of {w : World} {B : Nat} {v : Value} {xs : List ByteArray} (h : w.ownsRow B 9 1 v xs.length (strs xs)) : Texts w v xs := by
  constructor
  · rcases h.2 with ⟨rfl, h0⟩ | ⟨g, cap, cur, rfl, _⟩
    · exact ⟨none, 0, by rw [h0]⟩
    · exact ⟨_, _, rfl⟩
  · intro hp
    rcases h.2 with ⟨rfl, h0⟩ | ⟨g, cap, cur, rfl, _, hh, _⟩
    · omega
    · refine ⟨g, cap, rfl, (Array.getElem?_eq_some_iff.1 hh).1, fun j x hj => ?_⟩
      have hjl : j < xs.length := (List.getElem?_eq_some_iff.1 hj).1
      rw [h.cellAt j (by omega)]
      unfold strs
      rw [List.getElem?_map, hj]
      rfl
theorem texts_below {w w' : World} {v : Value} {xs : List ByteArray} (h : Texts w v xs) (hb : Below w.heap.size w w') : Texts w' v xs :=
  ⟨h.shape, fun hp => by
    obtain ⟨g, c, e, hg, hc⟩ := h.at' hp
    exact ⟨g, c, e, Nat.lt_of_lt_of_le hg hb.size, fun j x hj => (hb.cell (p := ⟨g, j, none⟩) hg).trans (hc j x hj)⟩⟩

theorem str_ne {x y : ByteArray} (h : x ≠ y) : (x.toList == y.toList) = false := by
  rw [beq_eq_false_iff_ne]
  intro e
  rw [ByteArray.toList_eq, ByteArray.toList_eq] at e
  exact h (ByteArray.ext (Array.toList_inj.1 e))

set_option maxRecDepth 100000 in
set_option maxHeartbeats 4000000 in
theorem sameC (va vb : Value) (xs ys : List ByteArray) (hx : xs.length ≤ 2000000) (hy : ys.length ≤ 2000000) (w : World) (h1 : Texts w va xs) (h2 : Texts w vb ys) :
    Calls Tryd.prog 45 #[va, vb] w fun e w' => e = .returned (.bool (decide (xs = ys))) ∧ Below w.heap.size w w' := by
  by_cases hl : xs.length = ys.length
  case neg =>
    have hd : Hid (decide (xs = ys) = false) := decide_eq_false (fun e => hl (by rw [e]))
    obtain ⟨p, c, rfl⟩ := h1.shape
    obtain ⟨q, d, rfl⟩ := h2.shape
    have hli : ((xs.length : Int) == (ys.length : Int)) = false := by rw [beq_eq_false_iff_ne]; omega
    have hlj : ((xs.length : Int) != (ys.length : Int)) = true := by rw [bne_iff_ne]; omega
    clear h1 h2 hl
    go_enter Tryd.func45, Tryd.ntmps45
    go_wp2
    go_ret
    exact ⟨congrArg (fun x => Ending.returned (.bool x)) hd.out.symm, Below.refl _ _⟩
  by_cases h0 : xs.length = 0
  · have e1 : xs = [] := List.length_eq_zero_iff.1 h0
    have e2 : ys = [] := List.length_eq_zero_iff.1 (by omega)
    subst e1; subst e2
    obtain ⟨p, c, rfl⟩ := h1.shape
    obtain ⟨q, d, rfl⟩ := h2.shape
    clear h1 h2
    go_enter Tryd.func45, Tryd.ntmps45
    go_wp2
    go_loop [5] (fun t => t = .int .i64 0) (fun _ => 0)
    case atStart => rfl
    case round =>
      subst hrel
      go_wp2
      go_ret
      exact ⟨rfl, Below.refl _ _⟩
  obtain ⟨g, c, rfl, _, hc⟩ := h1.at' (by omega)
  obtain ⟨g', c', rfl, _, hc'⟩ := h2.at' (by omega)
  obtain ⟨n, hn⟩ : ∃ n, n = xs.length := ⟨_, rfl⟩
  have hyn : ys.length = n := by omega
  rw [hyn, ← hn]
  have hn0 : 0 < n := by omega
  have hni : (n : Int) ≤ 2000000 := by omega
  have hnx : Hid (xs.length = n ∧ ys.length = n) := ⟨hn.symm, hyn⟩
  clear h1 h2 hl h0 hn hyn hx hy
  go_enter Tryd.func45, Tryd.ntmps45
  go_wp2
  go_loopw [5] (fun t wr => ∃ k : Nat, k ≤ n ∧ t = .int .i64 k ∧ Hid (∀ j, j < k → xs[j]? = ys[j]?) ∧ (∃ q, wr = w.drewN q)) (fun t _ => n - (intOf t).toNat)
  case atStart => exact ⟨0, Nat.zero_le _, rfl, fun j h => by omega, 0, rfl⟩
  case round =>
    obtain ⟨k, hk, rfl, hall, q, rfl⟩ := hrel
    by_cases hlt : k < n
    · obtain ⟨hn1, hn2⟩ := hnx.out
      have hkx : k < xs.length := by omega
      have hky : k < ys.length := by omega
      obtain ⟨x, hx1⟩ : ∃ x, xs[k]? = some x := ⟨_, List.getElem?_eq_getElem hkx⟩
      obtain ⟨y, hy1⟩ : ∃ y, ys[k]? = some y := ⟨_, List.getElem?_eq_getElem hky⟩
      have cx : (w.drewN q).cell? ⟨g, k, none⟩ = some (.string x) := hc k x hx1
      have cy : (w.drewN q).cell? ⟨g', k, none⟩ = some (.string y) := hc' k y hy1
      have cx0 := hc k x hx1
      have cy0 := hc' k y hy1
      have hk0 : (0 : Int) ≤ (k : Int) := by omega
      have hk1 : (k : Int) < (n : Int) := by omega
      clear hn1 hn2 hkx hky
      by_cases hxy : x = y
      · subst hxy
        have HN : Hid (∀ j, j < k + 1 → xs[j]? = ys[j]?) := fun j hj => by
          by_cases e : j = k
          · subst e; rw [hx1, hy1]
          · exact hall.out j (by omega)
        clear hc hc' hall
        go_wp2_with fail
        go_quiet (fail)
        go_wp2
        go_roundw
        case rel => exact ⟨k + 1, by omega, by go_num, HN, _, rfl⟩
        case measure => simp [intOf]; omega
      · have hd : Hid (decide (xs = ys) = false) := decide_eq_false (fun e => hxy (by rw [e, hy1] at hx1; injection hx1 with hx1; exact hx1.symm))
        have hb := str_ne hxy
        clear hc hc' hall hx1 hy1 hxy
        go_wp2_with fail
        go_quiet (fail)
        go_wp2
        go_ret
        exact ⟨congrArg (fun x => Ending.returned (.bool x)) hd.out.symm, by repeat (first | exact Below.refl _ _ | refine bdN ?_ _ | refine Below.drew ?_)⟩
    · obtain rfl : k = n := by omega
      have hd : Hid (decide (xs = ys) = true) := decide_eq_true (by
        obtain ⟨hn1, hn2⟩ := hnx.out
        apply List.ext_getElem?
        intro j
        by_cases hj : j < k
        · exact hall.out j hj
        · rw [List.getElem?_eq_none (by omega), List.getElem?_eq_none (by omega)])
      clear hall hc hc' hnx
      go_wp2
      go_ret
      exact ⟨congrArg (fun x => Ending.returned (.bool x)) hd.out.symm, by repeat (first | exact Below.refl _ _ | refine bdN ?_ _ | refine Below.drew ?_)⟩
end Go.Proofs.YtdbngfeelfgbeaaDoor.Tx

namespace Go.Proofs.YtdbngfeelfgbeaaDoor.Op
open Go.RowKit Go.Maps
set_option linter.unusedVariables false

def keyAt (i : Nat) : Lit := .string (wordAt i).data.toList
/-- The map behind k rounds: the names 1 to k. -/
def mapT {H : Type} : Nat → DataW H
  | 0 => .map []
  | k + 1 => (mapT k).put (keyAt (k + 1)) (.lit (.int .i64 ((k + 1 : Nat) : Int)))
/-- The last of the names 1 to k that is s, 0 if there is none. -/
def lastT (s : ByteArray) : Nat → Nat
  | 0 => 0
  | k + 1 => if (wordAt (k + 1)).data.toList = s.data.toList then k + 1 else lastT s k

theorem mapT_isMap {H : Type} : ∀ k, IsMap (mapT (H := H) k)
  | 0 => isMap_empty
  | k + 1 => (mapT_isMap k).put _ _

theorem mapT_at {H : Type} (s : ByteArray) : ∀ k, (mapT (H := H) k).atKey (.string s.data.toList) (.lit (.int .i64 0)) = .lit (.int .i64 (lastT s k : Nat))
  | 0 => rfl
  | k + 1 => by
    rw [mapT, lastT]
    by_cases h : (wordAt (k + 1)).data.toList = s.data.toList
    · rw [if_pos h, keyAt, h]
      exact atKey_put_same (mapT_isMap k) (show WideAt.IsKeyLit (.string s.data.toList) from trivial) _ _
    · rw [if_neg h, atKey_put_other]
      · exact mapT_at s k
      · intro e
        injection e with e
        exact h e.symm

theorem wordAt_list (i : Nat) : (wordAt i).data.toList = words.getD i [] := rfl
set_option maxRecDepth 100000 in
theorem words_nodup : words.Nodup := by decide +kernel
set_option maxRecDepth 100000 in
theorem words_short : ∀ t ∈ words, t.length ≤ 8 := by decide +kernel

theorem word_inj (i j : Nat) (hi : i < 65) (hj : j < 65) (h : words.getD i [] = words.getD j []) : i = j := by
  rw [← words_at i (by rw [words_len]; exact hi), ← words_at j (by rw [words_len]; exact hj)] at h
  exact (List.getElem_inj words_nodup).1 h

theorem lastT_hit (s : ByteArray) (k : Nat) (hk : k < 65) (h : (wordAt k).data.toList = s.data.toList) : ∀ n, k ≤ n → n < 65 → 1 ≤ k → lastT s n = k
  | 0, h0, _, h1 => by omega
  | n + 1, h0, h2, h1 => by
    rw [lastT]
    by_cases e : k = n + 1
    · rw [← e, if_pos h]
    · rw [if_neg (fun h3 => e (word_inj k (n + 1) hk h2 (h.trans h3.symm))), lastT_hit s k hk h n (by omega) (by omega) h1]

theorem lastT_miss (s : ByteArray) : ∀ n, (∀ j, 1 ≤ j → j ≤ n → (wordAt j).data.toList ≠ s.data.toList) → lastT s n = 0
  | 0, _ => rfl
  | n + 1, h => by rw [lastT, if_neg (h (n + 1) (by omega) (by omega)), lastT_miss s n (fun j a b => h j a (by omega))]

theorem lastT_long (s : ByteArray) (h : 8 < s.size) : lastT s 64 = 0 := by
  apply lastT_miss
  intro j h1 h2 e
  have hm : (words.getD j []) ∈ words := by
    rw [← words_at j (by rw [words_len]; omega)]
    exact List.getElem_mem _
  have h3 := words_short _ hm
  rw [← wordAt_list, e] at h3
  have h4 : s.data.toList.length = s.size := by rw [Array.length_toList]; rfl
  omega

/-- Is a text the name of an operation? -/
def isW (s : ByteArray) (i : Nat) : Bool := (wordAt i).toList == s.toList
theorem isW_true {s : ByteArray} {i : Nat} (h : isW s i = true) : (wordAt i).data.toList = s.data.toList := by
  have := eq_of_beq h
  have e1 : ∀ t : ByteArray, t.toList = t.data.toList := fun t => ByteArray.toList_eq t
  rw [e1, e1] at this
  exact this
theorem isW_false {s : ByteArray} {i : Nat} (h : isW s i = false) : (wordAt i).data.toList ≠ s.data.toList := by
  intro e
  have e1 : ∀ t : ByteArray, t.toList = t.data.toList := fun t => ByteArray.toList_eq t
  have : isW s i = true := by
    unfold isW
    rw [e1, e1, e]
    exact beq_self_eq_true _
  rw [this] at h
  cases h
end Go.Proofs.YtdbngfeelfgbeaaDoor.Op

namespace Go.Proofs.YtdbngfeelfgbeaaDoor.Op
open Go.RowKit Go.Maps Go.WideMaps
set_option linter.unusedVariables false

theorem ret_num {a b : Int} (h : a = b) : Ending.returned (.int .i64 a) = .returned (.int .i64 b) := by rw [h]

theorem law : Keyed Tryd.prog 9 := string_keyed Tryd.underlying9
theorem zeroE (w : World) : (zeroValue 3).run Tryd.prog w = .ok (.int .i64 0) w := by kernel_rfl
theorem key_ok (i : Nat) : keyOf Tryd.prog 9 (.string (wordAt i)) = some (keyAt i) := by
  refine keyOf_string_mk Tryd.underlying9 ?_
  by_cases hi : i < 65
  · have hm : (words.getD i []) ∈ words := by
      rw [← words_at i (by rw [words_len]; omega)]
      exact List.getElem_mem _
    have h3 := words_short _ hm
    have h4 : (wordAt i).size = (words.getD i []).length := rfl
    unfold maxLen
    omega
  · have h5 : words.getD i [] = [] := by
      rw [List.getD_eq_getElem?_getD, List.getElem?_eq_none (by rw [words_len]; omega)]
      rfl
    have h4 : (wordAt i).size = (words.getD i []).length := rfl
    rw [h4, h5]
    exact Nat.zero_le _

theorem make_hint (w : World) : (Instr.makeMap 73 (some (.int .i64 65))).run Tryd.prog w = .ok (.map (some w.heap.size)) (w.alloc (.map #[] 0)) := by
  simp [Instr.makeMap, run_underlying Tryd.underlying73, asInt, asIntOf, Result.andThen]

set_option maxRecDepth 100000 in
set_option maxHeartbeats 1000000 in
theorem implNumbers {H : Type} (w : World) (hL : Laid w) :
    Calls Tryd.prog 48 #[] w fun e w' => e = .returned (.map (some w.heap.size)) ∧ w'.ownsMap Tryd.prog 9 (plainElem (H := H) Tryd.prog 3) w.heap.size 64 (mapT 64) ∧ Below w.heap.size w w' := by
  have hmm := make_hint
  go_enter Tryd.func48, Tryd.ntmps48
  go_wp2
  go_loopw [2] (fun i wr => ∃ k : Nat, k ≤ 64 ∧ i = .int .i64 ((k : Int) + 1) ∧ wr.ownsMap Tryd.prog 9 (plainElem (H := H) Tryd.prog 3) w.heap.size k (mapT k) ∧ Below w.heap.size w wr)
    (fun i _ => 65 - (intOf i).toNat)
  case atStart => exact ⟨0, Nat.zero_le _, rfl, World.ownsMap_made _ _ _ _, (Below.refl _ _).alloc (Nat.le_refl _) _⟩
  case round =>
    obtain ⟨k, hk, rfl, hown, hnx⟩ := hrel
    by_cases hlt : k < 64
    · have hc := laid_below hL hnx (k + 1) (by omega)
      have hkey := key_ok (k + 1)
      clear hL
      go_wp2_with (first
        | (at_mapUpdate; refine wpList_mapUpdate_own _ rfl _ _ _ 73 rfl 9 3 law Tryd.underlying73 _ w.heap.size k _ rfl hown (by unfold maxLen; omega) _ _ _ rfl rfl hkey _ [] (plainElem_int Tryd.underlying3 (WalkArith.wf_i64 (by omega))) ?_)
        | go_in)
      intro w1 hown1 hgrow1
      have R1 : w1.ownsMap Tryd.prog 9 (plainElem (H := H) Tryd.prog 3) w.heap.size (k + 1) (mapT (k + 1)) := hown1
      have R2 := hnx.grown hgrow1 hnx.size (fun j hj => by cases hj; exact Nat.le_refl _)
      clear hown1 hgrow1 hown hc hkey
      go_wp2
      go_roundw
      case rel => exact ⟨k + 1, by omega, by go_num, R1, R2⟩
      case measure => simp [intOf]; omega
    · obtain rfl : k = 64 := by omega
      clear hL
      go_wp2
      go_ret
      exact ⟨rfl, hown, hnx⟩

set_option maxRecDepth 100000 in
set_option maxHeartbeats 1000000 in
theorem implOf (s : ByteArray) (w : World) (hL : Laid w) (hs : s.size ≤ maxLen) :
    Calls Tryd.prog 21 #[.string s] w fun e w' => e = .returned (.int .i64 (lastT s 64 : Nat)) ∧ Below w.heap.size w w' := by
  have hkey : keyOf Tryd.prog 9 (.string s) = some (.string s.data.toList) := keyOf_string_mk Tryd.underlying9 hs
  go_enter Tryd.func21, Tryd.ntmps21
  go_wp2_with fail
  refine (implNumbers (H := Unit) w hL).mono ?_
  rintro e w1 ⟨rfl, hown, hb⟩
  clear hL
  go_wp2_with (first
    | (at_lookup; refine wpList_lookup_own_int _ rfl _ _ 73 rfl 9 3 .i64 law Tryd.underlying73 Tryd.underlying3 (zeroE _) w.heap.size 64 _ rfl hown _ _ rfl hkey ?_; intro c hat hwc)
    | go_in)
  have hc : c = (lastT s 64 : Nat) := by
    rw [mapT_at s 64] at hat
    injection hat with hat
    injection hat with _ hat
    exact hat.symm
  clear hat hwc hown
  go_wp2
  go_ret
  exact ⟨ret_num hc, hb⟩

set_option maxRecDepth 100000 in
set_option maxHeartbeats 1000000 in
theorem specOf0 (s : ByteArray) (w : World) :
    Calls Tryd.prog 42 #[.string s] w fun e w' => e = .returned (.int .i64 (lastT s 64 : Nat)) ∧ Below w.heap.size w w' := by
  go_enter Tryd.func42, Tryd.ntmps42
  go_wp2_with fail
  refine (specList w).mono ?_
  rintro e w1 ⟨rfl, rfl⟩
  have hc := cell_list w
  generalize hw : w.alloc (.cells listVals.toArray 9) = w1 at *
  have hb : Below w.heap.size w w1 := by rw [← hw]; exact (Below.refl _ _).alloc (Nat.le_refl _) _
  clear hw
  go_wp2
  go_loop [4] (fun t => ∃ k : Nat, k ≤ 64 ∧ t = .int .i64 k ∧ Hid (∀ j, 1 ≤ j → j ≤ k → isW s j = false)) (fun t => 64 - (intOf t).toNat)
  case atStart => exact ⟨0, by omega, rfl, fun j h h' => by omega⟩
  case round =>
    obtain ⟨k, hk, rfl, hall⟩ := hrel
    by_cases hlt : k < 64
    · have hck := hc k hlt
      clear hc
      cases hb0 : isW s (k + 1) with
      | true =>
        have hb' : ((wordAt (k + 1)).toList == s.toList) = true := hb0
        have HB : Hid (isW s (k + 1) = true) := hb0
        clear hb0
        go_wp2
        go_ret
        exact ⟨ret_num (by rw [lastT_hit s (k + 1) (by omega) (isW_true HB.out) 64 (by omega) (by omega) (by omega)]; go_num), hb⟩
      | false =>
        have hb' : ((wordAt (k + 1)).toList == s.toList) = false := hb0
        have HB : Hid (isW s (k + 1) = false) := hb0
        clear hb0
        go_wp2
        go_round
        case rel => exact ⟨k + 1, by omega, by go_num, fun j hj hj' => by
          by_cases e : j = k + 1
          · rw [e]; exact HB.out
          · exact hall.out j hj (by omega)⟩
        case measure => simp [intOf]; omega
    · clear hc
      go_wp2
      go_ret
      exact ⟨ret_num (by rw [lastT_miss s 64 (fun j h1 h2 => isW_false (hall.out j h1 (by omega)))]; rfl), hb⟩

end Go.Proofs.YtdbngfeelfgbeaaDoor.Op

namespace Go.Proofs.YtdbngfeelfgbeaaDoor.Tx
open Go.RowKit
set_option linter.unusedVariables false

structure Q where
  rd : Int
  r1 : Int
  r2 : Int
  im : Int
def setL (l : UInt8) (v : Int) (q : Q) : Q := if l = 100 then { q with rd := v } else if l = 49 then { q with r1 := v } else if l = 50 then { q with r2 := v } else { q with im := v }
def FiveQ (w : World) (b : Nat) (op : Int) (q : Q) : Prop := Five w b op q.rd q.r1 q.r2 q.im
theorem five_set {w : World} {b : Nat} {op : Int} {q : Q} (h : FiveQ w b op q) (l : UInt8) (hl : letterOK l) (v : Int) : FiveQ (w.setCell ⟨b, offL l, none⟩ (.int .i64 v)) b op (setL l v q) := by
  rcases hl with rfl | rfl | rfl | rfl
  · exact h.set1 v
  · exact h.set2 v
  · exact h.set3 v
  · exact h.set4 v
theorem five_free {w : World} {b : Nat} {op : Int} {q : Q} (h : FiveQ w b op q) (l : UInt8) (hl : letterOK l) : w.frozen? ⟨b, offL l, none⟩ = false ∧ ∃ u, w.cell? ⟨b, offL l, none⟩ = some u := by
  rcases hl with rfl | rfl | rfl | rfl
  · exact ⟨h.f1, _, h.c1⟩
  · exact ⟨h.f2, _, h.c2⟩
  · exact ⟨h.f3, _, h.c3⟩
  · exact ⟨h.f4, _, h.c4⟩
theorem five_oth {w : World} {b d : Nat} {v0 v1 v2 v3 v4 : Int} (h : Five w b v0 v1 v2 v3 v4) (hd : b ≠ d) (k : Nat) (u : Value) : Five (w.setCell ⟨d, k, none⟩ u) b v0 v1 v2 v3 v4 :=
  ⟨(World.cell?_setCell_other _ _ _ _ (by simp <;> omega)).trans h.c0, (World.cell?_setCell_other _ _ _ _ (by simp <;> omega)).trans h.c1, (World.cell?_setCell_other _ _ _ _ (by simp <;> omega)).trans h.c2, (World.cell?_setCell_other _ _ _ _ (by simp <;> omega)).trans h.c3, (World.cell?_setCell_other _ _ _ _ (by simp <;> omega)).trans h.c4,
   (World.frozen?_setCell _ _ _ _).trans h.f0, (World.frozen?_setCell _ _ _ _).trans h.f1, (World.frozen?_setCell _ _ _ _).trans h.f2, (World.frozen?_setCell _ _ _ _).trans h.f3, (World.frozen?_setCell _ _ _ _).trans h.f4⟩

/-- The fields that the first k words tell. -/
def readTo (told : List UInt8) (ws : List ByteArray) : Nat → Option Q
  | 0 => some ⟨0, 0, 0, 0⟩
  | k + 1 => (readTo told ws k).bind fun q => match told[k]?, ws[k]? with
    | some l, some x => if fldK l x.data.toList = true then some (setL l (fldV l x.data.toList) q) else none
    | _, _ => none
theorem readTo_none {told : List UInt8} {ws : List ByteArray} {k : Nat} (h : readTo told ws k = none) : ∀ m, k ≤ m → readTo told ws m = none
  | 0, hm => by
    obtain rfl : k = 0 := by omega
    exact h
  | m + 1, hm => by
    by_cases e : k = m + 1
    · rw [← e]; exact h
    · unfold readTo
      rw [readTo_none h m (by omega)]
      rfl

/-- What the program finds: the operation and its fields. -/
structure ToldBy (f : Int) (told : ByteArray) : Prop where
  call : ∀ w, Calls Tryd.prog 14 #[.int .i64 f] w fun e w' => e = .returned (.string told) ∧ w' = w
  ok : ∀ l ∈ told.data.toList, letterOK l
  few : told.size ≤ 3
theorem told0 (w : World) :
    Calls Tryd.prog 14 #[.int .i64 0] w fun e w' => e = .returned (.string { data := #[] }) ∧ w' = w := by
  go_enter Tryd.func14, Tryd.ntmps14
  go_wp2
  go_ret
  exact ⟨rfl, rfl⟩
theorem wordsTo_size (s : ByteArray) : ∀ i, ∀ x ∈ (wordsTo s i).1, x.size ≤ s.size
  | 0, x, hx => by cases hx
  | i + 1, x, hx => by
    unfold wordsTo stepW at hx
    split at hx
    · simp only at hx
      split at hx
      · rcases List.mem_append.1 hx with h | h
        · exact wordsTo_size s i x h
        · simp only [List.mem_singleton] at h
          subst h
          rw [ByteArray.size_extract]
          omega
      · exact wordsTo_size s i x hx
    · exact wordsTo_size s i x hx

def zero5 : Value := .agg #[.int .i64 0, .int .i64 0, .int .i64 0, .int .i64 0, .int .i64 0]
def agg5 (op : Int) (q : Q) : Value := .agg #[.int .i64 op, .int .i64 q.rd, .int .i64 q.r1, .int .i64 q.r2, .int .i64 q.im]

set_option maxRecDepth 100000 in
set_option maxHeartbeats 4000000 in
theorem readLong (t : ByteArray) (ht : 65536 < t.size) (w : World) :
    Calls Tryd.prog 9 #[.string t] w fun e w' => e = .returned (.tuple #[zero5, .int .i64 2]) ∧ Below w.heap.size w w' := by
  have hi : (65536 : Int) < (t.size : Int) := by omega
  unfold zero5
  go_enter Tryd.func9, Tryd.ntmps9
  go_wp2
  refine bodyPost_ret (v := .tuple #[zero5, .int .i64 2]) (by simp [results, Tryd.results9, go_sem]; rfl) rfl ⟨rfl, ?_⟩
  repeat (first | exact Below.refl _ _ | refine Below.setCell ?_ (by first | omega | (simp; done) | (simp; omega)) _ | refine bdN ?_ _ | refine Below.drew ?_ | refine Below.alloc ?_ (by first | omega | (simp; done) | (simp; omega)) _)

set_option maxRecDepth 100000 in
set_option maxHeartbeats 4000000 in
theorem readEmpty (t : ByteArray) (ht : t.size ≤ 65536) (h0 : (wordsB t).length = 0) (w : World) :
    Calls Tryd.prog 9 #[.string t] w fun e w' => e = .returned (.tuple #[zero5, .int .i64 3]) ∧ Below w.heap.size w w' := by
  have hi : ¬ (65536 : Int) < (t.size : Int) := by omega
  go_enter Tryd.func9, Tryd.ntmps9
  go_wp2_with fail
  refine (blankP t (by omega) _).mono ?_
  rintro e w1 ⟨A, rfl, _, hb⟩
  have F1 : Five w1 w.heap.size 0 0 0 0 0 := Five.below (by constructor <;> simp) hb (by simp <;> omega)
  have B1 : Below w.heap.size w w1 := ((Below.refl _ _).alloc (Nat.le_refl _) _).trans (hb.mono (by simp))
  clear hb
  rw [h0]
  obtain ⟨c0, c1, c2, c3, c4, f0, f1, f2, f3, f4⟩ := F1
  go_wp2
  refine bodyPost_ret (v := .tuple #[zero5, .int .i64 3]) (by simp [results, Tryd.results9, go_sem, c0, c1, c2, c3, c4]; rfl) rfl ⟨rfl, ?_⟩
  repeat (first | exact B1 | refine Below.setCell ?_ (by first | omega | (simp; done) | (simp; omega)) _ | refine bdN ?_ _ | refine Below.drew ?_ | refine Below.alloc ?_ (by first | omega | (simp; done) | (simp; omega)) _)
end Go.Proofs.YtdbngfeelfgbeaaDoor.Tx

namespace Go.Proofs.YtdbngfeelfgbeaaDoor.Tx
open Go.RowKit
set_option linter.unusedVariables false

/-- The register that word i tells. -/
def rg (rest : List ByteArray) (i : Nat) : Int := match rest[i]? with
  | some x => regN x.data.toList
  | none => 0
def ints (l : List Int) : List Value := l.map (Value.int .i64)
def rgs (rest : List ByteArray) (k : Nat) : List Int := (List.range k).map (rg rest)
theorem rgs_snoc (rest : List ByteArray) (k : Nat) : ints (rgs rest k) ++ ints [rg rest k] = ints (rgs rest (k + 1)) := by
  simp [rgs, ints, List.range_succ]
theorem rgs_len (rest : List ByteArray) (k : Nat) : (ints (rgs rest k)).length = k := by simp [rgs, ints]
def pickV (b : Bool) (x y : Value) : Value := match b with
  | true => x
  | false => y
def slLen (v : Value) : Nat := match v with
  | .slice _ n _ => n
  | _ => 0
/-- The last word. -/
def lastW (w0 : ByteArray) (rest : List ByteArray) : ByteArray := ((w0 :: rest)[rest.length]?).getD ⟨#[]⟩
def modQ (f : Int) (rest : List ByteArray) (v : Int) : Q :=
  if f = 1 ∨ f = 2 then ⟨rg rest 0, 0, 0, v⟩
  else if f = 3 ∨ f = 6 ∨ f = 7 then ⟨rg rest 0, rg rest 1, 0, v⟩
  else if f = 4 then ⟨0, rg rest 0, rg rest 1, v⟩
  else if f = 5 then ⟨0, rg rest 1, rg rest 0, v⟩
  else if f = 8 then ⟨rg rest 0, rg rest 1, rg rest 2, 0⟩
  else ⟨0, 0, 0, 0⟩
def modK (f : Int) (k : Bool) : Bool := if f = 8 ∨ f = 9 then true else k
theorem regN_bd (l : List UInt8) : -1 ≤ regN l ∧ regN l ≤ 31 := by
  unfold regN
  split
  · rename_i h
    have := regB_bd h.2.2.2
    omega
  · omega
theorem rg_bd (rest : List ByteArray) (i : Nat) : In64 (rg rest i) := by
  unfold rg In64
  split
  · rename_i x _
    have := regN_bd x.data.toList
    omega
  · omega
theorem numV_bd (l : List UInt8) : In64 (numV l) := by
  unfold numV In64
  cases h : numB l with
  | none => simp
  | some v =>
    have := num_atoi h
    simp
    omega
theorem Tryd.info_int : (Tryd.prog.info? 3).map (fun i => (i.zero, i.size, i.bytes)) = some (some (.int .i64 0), 1, 8) := by kernel_rfl
theorem modQ_in (f : Int) (rest : List ByteArray) (v : Int) (hv : In64 v) : In64 (modQ f rest v).rd ∧ In64 (modQ f rest v).r1 ∧ In64 (modQ f rest v).r2 ∧ In64 (modQ f rest v).im := by
  have z : In64 0 := by unfold In64; omega
  have h := rg_bd rest
  unfold modQ
  repeat' split
  all_goals exact ⟨by first | exact h _ | exact z, by first | exact h _ | exact z, by first | exact h _ | exact z, by first | exact hv | exact z⟩
end Go.Proofs.YtdbngfeelfgbeaaDoor.Tx
