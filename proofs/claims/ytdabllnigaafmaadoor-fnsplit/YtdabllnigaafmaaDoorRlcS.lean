/- The model's SplitAddress, RelocName, RelocOf. -/
import Derived.Test.YtdabllnigaafmaaDoorSgnB
import Derived.Test.YtdabllnigaafmaaDoorSpIn
import Derived.LaidMore
import Derived.Deep.MidRow
namespace Go.Proofs.YtdabllnigaafmaaDoor.Rl
open Go Go.RowKit
set_option linter.unusedVariables false

/-! The two halves of a number. -/
def low12 (v : Int) : Int := sgn v 12
def high12 (v : Int) : Int := v - sgn v 12
theorem low12_bd (v : Int) : -2048 ≤ low12 v ∧ low12 v ≤ 2047 := by
  unfold low12 sgn
  omega
theorem low12_eq (v : Int) : low12 v = (v + 2048) % 4096 - 2048 := by
  unfold low12 sgn
  rfl

theorem specLow (v : Int) (w : World) : Calls Tryd.prog 26 #[.int .i64 v] w fun e w' => e = .returned (.int .i64 (low12 v)) ∧ w' = w := by
  have h := specSign0 v 12 w (by omega) (by omega)
  have H : Hid (Calls Tryd.prog 35 #[.int .i64 v, .int .i64 12] w fun e w' => e = .returned (.int .i64 (low12 v)) ∧ w' = w) := h
  clear h
  go_enter Tryd.func26, Tryd.ntmps26
  go_wp2_with fail
  refine H.out.mono ?_
  rintro e w1 ⟨rfl, rfl⟩
  clear H
  go_wp2
  go_ret
  exact ⟨rfl, rfl⟩
theorem specHigh (v : Int) (w : World) (h0 : -5000000000 ≤ v) (h1 : v ≤ 5000000000) : Calls Tryd.prog 25 #[.int .i64 v] w fun e w' => e = .returned (.int .i64 (v - low12 v)) ∧ w' = w := by
  have hl := low12_bd v
  have H := specLow v w
  have HH : Hid (Calls Tryd.prog 26 #[.int .i64 v] w fun e w' => e = .returned (.int .i64 (low12 v)) ∧ w' = w) := H
  clear H
  generalize low12 v = l at *
  go_enter Tryd.func25, Tryd.ntmps25
  go_wp2_with (go_at_call 26; refine HH.out.mono ?_; rintro e w1 ⟨rfl, rfl⟩)
  go_ret
  exact ⟨rfl, rfl⟩
theorem specValue (v : Int) (w : World) (b : Bool) (h : (b = true ∧ -4294967296 ≤ v ∧ v ≤ 4294967296) ∨ (b = false ∧ (v < -4294967296 ∨ 4294967296 < v))) : Calls Tryd.prog 23 #[.int .i64 v] w fun e w' => e = .returned (.bool b) ∧ w' = w := by
  go_enter Tryd.func23, Tryd.ntmps23
  go_wp2_with fail
  refine (spIn _ _ _ _ b h).mono ?_
  rintro e w1 ⟨rfl, rfl⟩
  clear h
  go_wp2
  go_ret
  exact ⟨rfl, rfl⟩
theorem specUpper (v : Int) (w : World) (b : Bool) (h : (b = true ∧ -2147483648 ≤ v ∧ v ≤ 2147479552) ∨ (b = false ∧ (v < -2147483648 ∨ 2147479552 < v))) : Calls Tryd.prog 24 #[.int .i64 v] w fun e w' => e = .returned (.bool b) ∧ w' = w := by
  go_enter Tryd.func24, Tryd.ntmps24
  go_wp2_with fail
  refine (spIn _ _ _ _ b h).mono ?_
  rintro e w1 ⟨rfl, rfl⟩
  clear h
  go_wp2
  go_ret
  exact ⟨rfl, rfl⟩
/-- What SplitAddress answers: ErrRange, ErrReach, or the halves. -/
theorem specSplit (v : Int) (w : World) (x y c : Int)
    (h : ((v < -4294967296 ∨ 4294967296 < v) ∧ x = 0 ∧ y = 0 ∧ c = 4) ∨ (-4294967296 ≤ v ∧ v ≤ 4294967296 ∧ (v - low12 v < -2147483648 ∨ 2147479552 < v - low12 v) ∧ x = 0 ∧ y = 0 ∧ c = 25) ∨ (-2147483648 ≤ v - low12 v ∧ v - low12 v ≤ 2147479552 ∧ x = v - low12 v ∧ y = low12 v ∧ c = 0)) :
    Calls Tryd.prog 9 #[.int .i64 v] w fun e w' => e = .returned (.tuple #[.int .i64 x, .int .i64 y, .int .i64 c]) ∧ w' = w := by
  have hl := low12_bd v
  rcases h with ⟨h, rfl, rfl, rfl⟩ | ⟨h0, h1, h, rfl, rfl, rfl⟩ | ⟨h0, h1, rfl, rfl, rfl⟩
  · clear hl
    go_enter Tryd.func9, Tryd.ntmps9
    go_wp2_with fail
    refine (specValue v w false (.inr ⟨rfl, h⟩)).mono ?_
    rintro e w1 ⟨rfl, rfl⟩
    clear h
    go_wp2
    go_ret3
    exact ⟨rfl, rfl⟩
  · have HU : Hid (∀ W, Calls Tryd.prog 24 #[.int .i64 (v - low12 v)] W fun e w' => e = .returned (.bool false) ∧ w' = W) := fun W => specUpper _ W false (.inr ⟨rfl, h⟩)
    have HG : Hid (∀ W, Calls Tryd.prog 25 #[.int .i64 v] W fun e w' => e = .returned (.int .i64 (v - low12 v)) ∧ w' = W) := fun W => specHigh v W (by omega) (by omega)
    clear h
    generalize low12 v = l at *
    go_enter Tryd.func9, Tryd.ntmps9
    go_wp2_with fail
    refine (specValue v w true (.inl ⟨rfl, h0, h1⟩)).mono ?_
    rintro e w1 ⟨rfl, rfl⟩
    go_wp2_with fail
    refine (HG.out _).mono ?_
    rintro e w2 ⟨rfl, rfl⟩
    go_wp2_with fail
    refine (HU.out _).mono ?_
    rintro e w3 ⟨rfl, rfl⟩
    clear HU HG
    go_wp2
    go_ret3
    exact ⟨rfl, rfl⟩
  · have HU : Hid (∀ W, Calls Tryd.prog 24 #[.int .i64 (v - low12 v)] W fun e w' => e = .returned (.bool true) ∧ w' = W) := fun W => specUpper _ W true (.inl ⟨rfl, h0, h1⟩)
    have HG : Hid (∀ W, Calls Tryd.prog 25 #[.int .i64 v] W fun e w' => e = .returned (.int .i64 (v - low12 v)) ∧ w' = W) := fun W => specHigh v W (by omega) (by omega)
    have HL : Hid (∀ W, Calls Tryd.prog 26 #[.int .i64 v] W fun e w' => e = .returned (.int .i64 (low12 v)) ∧ w' = W) := fun W => specLow v W
    generalize low12 v = l at *
    go_enter Tryd.func9, Tryd.ntmps9
    go_wp2_with fail
    refine (specValue v w true (.inl ⟨rfl, by omega, by omega⟩)).mono ?_
    rintro e w1 ⟨rfl, rfl⟩
    go_wp2_with fail
    refine (HG.out _).mono ?_
    rintro e w2 ⟨rfl, rfl⟩
    go_wp2_with fail
    refine (HU.out _).mono ?_
    rintro e w3 ⟨rfl, rfl⟩
    clear HU
    go_wp2_with (first | (go_at_call 25; (with_reducible refine (HG.out _).mono ?_); rintro e w4 ⟨rfl, rfl⟩) | (go_at_call 26; (with_reducible refine (HL.out _).mono ?_); rintro e w5 ⟨rfl, rfl⟩))
    go_ret3
    exact ⟨rfl, rfl⟩

/-! The kinds' names. -/
def rnVals : List Value := [Value.string { data := #[104, 105, 50, 48] }, Value.string { data := #[108, 111, 49, 50, 105] }, Value.string { data := #[108, 111, 49, 50, 115] }, Value.string { data := #[112, 99, 104, 105, 50, 48] }, Value.string { data := #[112, 99, 108, 111, 49, 50, 105] }, Value.string { data := #[112, 99, 108, 111, 49, 50, 115] }, Value.string { data := #[106, 97, 108] }, Value.string { data := #[98, 114, 97, 110, 99, 104] }, Value.string { data := #[119, 111, 114, 100, 54, 52] }]
def rnL : List ByteArray := [⟨#[104, 105, 50, 48]⟩, ⟨#[108, 111, 49, 50, 105]⟩, ⟨#[108, 111, 49, 50, 115]⟩, ⟨#[112, 99, 104, 105, 50, 48]⟩, ⟨#[112, 99, 108, 111, 49, 50, 105]⟩, ⟨#[112, 99, 108, 111, 49, 50, 115]⟩, ⟨#[106, 97, 108]⟩, ⟨#[98, 114, 97, 110, 99, 104]⟩, ⟨#[119, 111, 114, 100, 54, 52]⟩]
def rnAt (k : Nat) : ByteArray := rnL.getD k ⟨#[]⟩
theorem rnVals_at : ∀ k, k < 9 → rnVals[k]? = some (.string (rnAt k)) := by
  intro k hk
  match k, hk with
  | 0, _ => rfl
  | 1, _ => rfl
  | 2, _ => rfl
  | 3, _ => rfl
  | 4, _ => rfl
  | 5, _ => rfl
  | 6, _ => rfl
  | 7, _ => rfl
  | 8, _ => rfl
theorem rn_cell (w : World) (k : Nat) (h : k < 9) : (w.alloc (.cells rnVals.toArray 9)).cell? ⟨w.heap.size, k, none⟩ = some (.string (rnAt k)) := by
  rw [cell_of_row _ w.heap.size k rnVals.toArray 9 (0, 0) (heap_alloc_new w _)]
  rw [List.getElem?_toArray]
  exact rnVals_at k h
set_option maxRecDepth 100000 in
theorem specRn (w : World) :
    Calls Tryd.prog 28 #[] w fun e w' => e = .returned (.slice (some ⟨w.heap.size, 0, none⟩) 9 9) ∧ w' = w.alloc (.cells rnVals.toArray 9) := by
  have hv : rnVals.toArray = #[Value.string { data := #[104, 105, 50, 48] }, Value.string { data := #[108, 111, 49, 50, 105] }, Value.string { data := #[108, 111, 49, 50, 115] }, Value.string { data := #[112, 99, 104, 105, 50, 48] }, Value.string { data := #[112, 99, 108, 111, 49, 50, 105] }, Value.string { data := #[112, 99, 108, 111, 49, 50, 115] }, Value.string { data := #[106, 97, 108] }, Value.string { data := #[98, 114, 97, 110, 99, 104] }, Value.string { data := #[119, 111, 114, 100, 54, 52] }] := rfl
  rw [hv]
  go_enter Tryd.func28, Tryd.ntmps28
  go_wp2
  go_ret
  exact ⟨rfl, rfl⟩
def rnT (c : Int) : ByteArray := if 1 ≤ c ∧ c ≤ 9 then rnAt (c - 1).toNat else { data := #[] }
theorem rnT_in (k : Nat) (h : k < 9) : rnT ((k : Int) + 1) = rnAt k := by
  unfold rnT
  rw [if_pos (by omega)]
  congr 1
  omega
theorem rnT_out (c : Int) (h : c < 1 ∨ 9 < c) : rnT c = { data := #[] } := by
  unfold rnT
  rw [if_neg (by omega)]
theorem ret_str {a b : ByteArray} (h : a = b) : Ending.returned (.string a) = .returned (.string b) := by rw [h]
theorem ret_num {a b : Int} (h : a = b) : Ending.returned (.int .i64 a) = .returned (.int .i64 b) := by rw [h]
theorem specRelName (c : Int) (w : World) :
    Calls Tryd.prog 12 #[.int .i64 c] w fun e w' => e = .returned (.string (rnT c)) ∧ Below w.heap.size w w' := by
  by_cases h0 : c < 1 ∨ 9 < c
  · have HW : Hid (rnT c = { data := #[] }) := rnT_out c h0
    go_enter Tryd.func12, Tryd.ntmps12
    go_wp2_with fail
    refine (spIn c 1 9 _ false (.inr ⟨rfl, h0⟩)).mono ?_
    rintro e w1 ⟨rfl, rfl⟩
    clear h0
    go_wp2
    go_ret
    exact ⟨ret_str HW.out.symm, Below.refl _ _⟩
  obtain ⟨i, rfl⟩ : ∃ i : Nat, c = (i : Int) + 1 := ⟨(c - 1).toNat, by omega⟩
  have hi : i < 9 := by omega
  have HW : Hid (rnT ((i : Int) + 1) = rnAt i) := rnT_in i hi
  have hc := rn_cell w i hi
  clear h0
  go_enter Tryd.func12, Tryd.ntmps12
  go_wp2_with fail
  refine (spIn _ 1 9 _ true (.inl ⟨rfl, by omega, by omega⟩)).mono ?_
  rintro e w1 ⟨rfl, rfl⟩
  go_wp2_with (go_at_call 28; refine (specRn _).mono ?_; rintro e w1 ⟨rfl, rfl⟩)
  go_ret
  exact ⟨ret_str HW.out.symm, (Below.refl _ _).alloc (Nat.le_refl _) _⟩

def isR (s : ByteArray) (k : Nat) : Bool := (rnAt k).toList == s.toList
def relFrom (s : ByteArray) : Nat → Nat → Nat
  | 0, _ => 0
  | n + 1, k => if isR s k then k + 1 else relFrom s n (k + 1)
/-- The kind that has a name, 0 if none has it. -/
def relT (s : ByteArray) : Nat := relFrom s 9 0
theorem relFrom_hit (s : ByteArray) (n k : Nat) (h : isR s k = true) (hn : 0 < n) : relFrom s n k = k + 1 := by
  cases n with
  | zero => omega
  | succ n => simp [relFrom, h]
theorem relFrom_miss (s : ByteArray) (n k : Nat) (h : isR s k = false) (hn : 0 < n) : relFrom s n k = relFrom s (n - 1) (k + 1) := by
  cases n with
  | zero => omega
  | succ n => simp [relFrom, h]
set_option maxRecDepth 100000 in
set_option maxHeartbeats 1000000 in
theorem specRelOf (s : ByteArray) (w : World) (hs : s.size ≤ 65536) :
    Calls Tryd.prog 14 #[.string s] w fun e w' => e = .returned (.int .i64 (relT s : Nat)) ∧ Below w.heap.size w w' := by
  go_enter Tryd.func14, Tryd.ntmps14
  go_wp2_with fail
  refine (specRn w).mono ?_
  rintro e w1 ⟨rfl, rfl⟩
  have hc := rn_cell w
  generalize hw : w.alloc (.cells rnVals.toArray 9) = w1 at *
  have hb : Below w.heap.size w w1 := by rw [← hw]; exact (Below.refl _ _).alloc (Nat.le_refl _) _
  clear hw
  go_wp2
  go_loop [4] (fun t => ∃ k : Nat, k ≤ 9 ∧ t = .int .i64 k ∧ Hid (relT s = relFrom s (9 - k) k)) (fun t => 9 - (intOf t).toNat)
  case atStart => exact ⟨0, by omega, rfl, rfl⟩
  case round =>
    obtain ⟨k, hk, rfl, hall⟩ := hrel
    by_cases hlt : k < 9
    · have hck := hc k hlt
      clear hc
      cases hb0 : isR s k with
      | true =>
        have hb' : ((rnAt k).toList == s.toList) = true := hb0
        have HB : Hid (relT s = k + 1) := hall.out.trans (relFrom_hit s _ k hb0 (by omega))
        clear hb0 hall
        go_wp2
        go_ret
        exact ⟨ret_num (by rw [HB.out]; go_num), hb⟩
      | false =>
        have hb' : ((rnAt k).toList == s.toList) = false := hb0
        have HB : Hid (relT s = relFrom s (9 - (k + 1)) (k + 1)) := hall.out.trans (by rw [relFrom_miss s _ k hb0 (by omega)]; congr 1)
        clear hb0 hall
        go_wp2
        go_round
        case rel => exact ⟨k + 1, by omega, by go_num, HB⟩
        case measure => simp [intOf]; omega
    · clear hc
      obtain rfl : k = 9 := by omega
      have HB : Hid (relT s = 0) := hall.out
      clear hall
      go_wp2
      go_ret
      exact ⟨ret_num (by rw [HB.out]; rfl), hb⟩
theorem specRelOfLong (s : ByteArray) (w : World) (hs : 65536 < s.size) :
    Calls Tryd.prog 14 #[.string s] w fun e w' => e = .returned (.int .i64 0) ∧ Below w.heap.size w w' := by
  go_enter Tryd.func14, Tryd.ntmps14
  go_wp2
  go_ret
  exact ⟨rfl, Below.refl _ _⟩
end Go.Proofs.YtdabllnigaafmaaDoor.Rl
