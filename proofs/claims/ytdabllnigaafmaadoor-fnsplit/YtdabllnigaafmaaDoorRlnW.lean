/- Contracts of both RelocName and of the program's RelocOf. -/
import Derived.Test.YtdabllnigaafmaaDoorRlnL
import Derived.Test.YtdabllnigaafmaaDoorRlcS
import Derived.ChangeKeysEq
namespace Go.Proofs.YtdabllnigaafmaaDoor.Rn
open Go.RowKit Rl
set_option linter.unusedVariables false

theorem wordT_rn (c : Int) : wordT c = rnT c := by
  by_cases h : 1 ≤ c ∧ c < 10
  · obtain ⟨i, rfl⟩ : ∃ i : Nat, c = (i : Int) + 1 := ⟨(c - 1).toNat, by omega⟩
    have hi : i < 9 := by omega
    rw [rnT_in i hi]
    have h1 := wordT_in (i + 1) (by omega) (by omega)
    rw [show ((i : Int) + 1) = ((i + 1 : Nat) : Int) by omega, h1]
    match i, hi with
    | 0, _ => rfl
    | 1, _ => rfl
    | 2, _ => rfl
    | 3, _ => rfl
    | 4, _ => rfl
    | 5, _ => rfl
    | 6, _ => rfl
    | 7, _ => rfl
    | 8, _ => rfl
  · rw [wordT_out c h, rnT_out c (by omega)]
theorem word_rn (i : Nat) (h : i < 9) : wordAt (i + 1) = rnAt i := by
  match i, h with
  | 0, _ => rfl
  | 1, _ => rfl
  | 2, _ => rfl
  | 3, _ => rfl
  | 4, _ => rfl
  | 5, _ => rfl
  | 6, _ => rfl
  | 7, _ => rfl
  | 8, _ => rfl

theorem implName (c : Int) (w : World) (hL : Laid w) :
    Calls Tryd.prog 11 #[.int .i64 c] w fun e w' => e = .returned (.string (rnT c)) ∧ w' = w := by
  rw [← wordT_rn c]
  by_cases h0 : c < 0
  · go_enter Tryd.func11, Tryd.ntmps11
    go_wp2
    go_ret
    exact ⟨ret_str (wordT_out c (by omega)).symm, rfl⟩
  by_cases h1 : 10 ≤ c
  · go_enter Tryd.func11, Tryd.ntmps11
    go_wp2
    go_ret
    exact ⟨ret_str (wordT_out c (by omega)).symm, rfl⟩
  obtain ⟨i, rfl⟩ := Int.eq_ofNat_of_zero_le (show 0 ≤ c by omega)
  have hi : i < 10 := by omega
  have hc := hL i hi
  have HW : Hid (wordT (i : Int) = wordAt i) := by
    by_cases hz : 1 ≤ i
    · exact wordT_in i hz hi
    · obtain rfl : i = 0 := by omega
      exact wordT_out _ (by omega)
  clear hL
  go_enter Tryd.func11, Tryd.ntmps11
  go_wp2
  go_ret
  exact ⟨ret_str HW.out.symm, rfl⟩

/-- Is a text the name at a place of the table? -/
def isW (s : ByteArray) (i : Nat) : Bool := (wordAt i).toList == s.toList
theorem isW_rn (s : ByteArray) (i : Nat) (h : i < 9) : isW s (i + 1) = isR s i := by
  unfold isW isR
  rw [word_rn i h]
theorem relFrom_ge (s : ByteArray) (n k m : Nat) (hn : m ≤ n) (h : ∀ j, j < m → isR s (k + j) = false) : relFrom s n k = relFrom s (n - m) (k + m) := by
  induction m generalizing n k with
  | zero => rfl
  | succ m ih =>
    have h0 : isR s k = false := h 0 (by omega)
    rw [relFrom_miss s n k h0 (by omega), ih (n - 1) (k + 1) (by omega) (fun j hj => by
      have := h (j + 1) (by omega)
      rw [show k + 1 + j = k + (j + 1) by omega]
      exact this)]
    congr 1
    · omega
    · omega
theorem relT_hit (s : ByteArray) (k : Nat) (hk : k < 10) (h : isW s k = true) (ha : ∀ j, j < k → isW s j = false) : relT s = k := by
  have hm : ∀ j, j < 9 → j + 1 < k → isR s j = false := fun j hj hlt => by
    rw [← isW_rn s j hj]
    exact ha (j + 1) hlt
  cases k with
  | zero =>
    have he : s.toList = [] := by
      have : ((wordAt 0).toList == s.toList) = true := h
      rw [beq_iff_eq] at this
      rw [← this, ByteArray.toList_eq]
      rfl
    have hr : ∀ j, j < 9 → isR s j = false := fun j hj => by
      unfold isR
      rw [he, ByteArray.toList_eq]
      match j, hj with
      | 0, _ => rfl
      | 1, _ => rfl
      | 2, _ => rfl
      | 3, _ => rfl
      | 4, _ => rfl
      | 5, _ => rfl
      | 6, _ => rfl
      | 7, _ => rfl
      | 8, _ => rfl
    have := relFrom_ge s 9 0 9 (by omega) (fun j hj => by rw [Nat.zero_add]; exact hr j hj)
    unfold relT
    rw [this]
    rfl
  | succ k =>
    have := relFrom_ge s 9 0 k (by omega) (fun j hj => by rw [Nat.zero_add]; exact hm j (by omega) (by omega))
    unfold relT
    rw [this, Nat.zero_add, relFrom_hit s _ k (by rw [← isW_rn s k (by omega)]; exact h) (by omega)]
theorem relT_miss (s : ByteArray) (ha : ∀ j, j < 10 → isW s j = false) : relT s = 0 := by
  have := relFrom_ge s 9 0 9 (by omega) (fun j hj => by
    rw [Nat.zero_add, ← isW_rn s j hj]
    exact ha (j + 1) (by omega))
  unfold relT
  rw [this]
  rfl

theorem toList_len (b : ByteArray) : b.toList.length = b.size := by
  rw [ByteArray.toList_eq, Array.length_toList]
  rfl
theorem relT_long (s : ByteArray) (h : 65536 < s.size) : relT s = 0 := by
  have hr : ∀ j, j < 9 → isR s j = false := fun j hj => by
    unfold isR
    rw [beq_eq_false_iff_ne]
    intro he
    have hl := congrArg List.length he
    rw [toList_len, toList_len] at hl
    have hb : (rnAt j).size ≤ 8 := by
      match j, hj with
      | 0, _ => decide
      | 1, _ => decide
      | 2, _ => decide
      | 3, _ => decide
      | 4, _ => decide
      | 5, _ => decide
      | 6, _ => decide
      | 7, _ => decide
      | 8, _ => decide
    omega
  have := relFrom_ge s 9 0 9 (by omega) (fun j hj => by rw [Nat.zero_add]; exact hr j hj)
  unfold relT
  rw [this]
  rfl

theorem run_index_words (w : World) (i : Nat) (h : i < 10) : (Instr.index 46 (.agg wordVals.toArray) (.int .i64 i)).run Tryd.prog w = .ok (.string (wordAt i)) w := by
  have h1 : (wordVals.toArray)[i]? = some (.string (wordAt i)) := by rw [List.getElem?_toArray]; exact wordVals_at i h
  have hs : wordVals.toArray.size = 10 := rfl
  have h2 := run_part_plain (P := Tryd.prog) (w := w) (e := 9) (by kernel_rfl) h1
  simp [Instr.index, asIntOf, run_underlying Tryd.underlying46, h, h2]

set_option maxRecDepth 100000 in
set_option maxHeartbeats 1000000 in
theorem implOf (s : ByteArray) (w : World) (hL : Laid w) :
    Calls Tryd.prog 13 #[.string s] w fun e w' => e = .returned (.int .i64 (relT s : Nat)) ∧ w' = w := by
  have hr : w.rangeAt 0 0 wordVals := fun j v hv => by
    have hj : j < 10 := by
      have := (List.getElem?_eq_some_iff.1 hv).1
      simpa [wordVals, words_len] using this
    rw [wordVals_at j hj] at hv
    injection hv with hv
    rw [← hv, Nat.zero_add]
    exact hL j hj
  clear hL
  go_enter Tryd.func13, Tryd.ntmps13
  go_wp2_with (refine wpList_load_mid rfl 46 _ rfl 0 0 rfl wordVals _ hr Tryd.underlying46 rfl (by kernel_rfl) ?_)
  generalize hv : wordVals.toArray = arr
  have hix := fun (i : Nat) (h : i < 10) (w : World) => run_index_words w i h
  rw [hv] at hix
  clear hv hr
  go_loop [6] (fun t => ∃ k : Nat, k ≤ 10 ∧ t = .int .i64 k ∧ Hid (∀ j, j < k → isW s j = false)) (fun t => 10 - (intOf t).toNat)
  case atStart => exact ⟨0, by omega, rfl, fun j h => absurd h (Nat.not_lt_zero _)⟩
  case round =>
    obtain ⟨k, hk, rfl, hall⟩ := hrel
    by_cases hlt : k < 10
    · have hi := hix k hlt
      clear hix
      cases hb : isW s k with
      | true =>
        have hb' : ((wordAt k).toList == s.toList) = true := hb
        have HB : Hid (isW s k = true) := hb
        clear hb
        go_wp2
        go_ret
        exact ⟨ret_num (by rw [relT_hit s k hlt HB.out hall.out]), rfl⟩
      | false =>
        have hb' : ((wordAt k).toList == s.toList) = false := hb
        have HB : Hid (isW s k = false) := hb
        clear hb
        go_wp2
        go_round
        case rel => exact ⟨k + 1, by omega, by go_num, fun j hj => by
          by_cases e : j = k
          · rw [e]; exact HB.out
          · exact hall.out j (by omega)⟩
        case measure => simp [intOf]; omega
    · clear hix
      go_wp2
      go_ret
      exact ⟨ret_num (by rw [relT_miss s (fun j hj => hall.out j (by omega))]; rfl), rfl⟩
end Go.Proofs.YtdabllnigaafmaaDoor.Rn
