/- The numbers of the operations' names: plain. Contracts of both OpOf. -/
import Derived.Test.YtdbngfeelfgbeaaGreatDoorGLTexts1
import Derived.Maps.Own
import Derived.Maps.OwnOps
import Derived.Maps.Views
import Derived.Test.YtdbngfeelfgbeaaGreatDoorGLTexts5
namespace Go.Proofs.YtdbngfeelfgbeaaGreatDoor.Op
open Go.RowKit Go.Maps
set_option linter.unusedVariables false

def keyAt (i : Nat) : Lit := .string (wordAt i).data.toList
/-- The map behind k rounds: the names 1 to k. -/
def mapT {H : Type} : Nat → DataW H
  | 0 => .map []
  | k + 1 => (mapT k).put (keyAt (k + 1)) (.lit (.int .i64 ((k + 1 : Nat) : Int)))
/-- The last of the names 1 to k that is s, 0 if there is none. -/
def lastT (s : ByteArray) : Nat → Nat
  | 0 => 0
  | k + 1 => if (wordAt (k + 1)).data.toList = s.data.toList then k + 1 else lastT s k

theorem mapT_isMap {H : Type} : ∀ k, IsMap (mapT (H := H) k)
  | 0 => isMap_empty
  | k + 1 => (mapT_isMap k).put _ _

theorem mapT_at {H : Type} (s : ByteArray) : ∀ k, (mapT (H := H) k).atKey (.string s.data.toList) (.lit (.int .i64 0)) = .lit (.int .i64 (lastT s k : Nat))
  | 0 => rfl
  | k + 1 => by
    rw [mapT, lastT]
    by_cases h : (wordAt (k + 1)).data.toList = s.data.toList
    · rw [if_pos h, keyAt, h]
      exact atKey_put_same (mapT_isMap k) (show WideAt.IsKeyLit (.string s.data.toList) from trivial) _ _
    · rw [if_neg h, atKey_put_other]
      · exact mapT_at s k
      · intro e
        injection e with e
        exact h e.symm

theorem wordAt_list (i : Nat) : (wordAt i).data.toList = words.getD i [] := rfl
set_option maxRecDepth 100000 in
theorem words_nodup : words.Nodup := by decide +kernel
set_option maxRecDepth 100000 in
theorem words_short : ∀ t ∈ words, t.length ≤ 8 := by decide +kernel

theorem word_inj (i j : Nat) (hi : i < 65) (hj : j < 65) (h : words.getD i [] = words.getD j []) : i = j := by
  rw [← words_at i (by rw [words_len]; exact hi), ← words_at j (by rw [words_len]; exact hj)] at h
  exact (List.getElem_inj words_nodup).1 h

theorem lastT_hit (s : ByteArray) (k : Nat) (hk : k < 65) (h : (wordAt k).data.toList = s.data.toList) : ∀ n, k ≤ n → n < 65 → 1 ≤ k → lastT s n = k
  | 0, h0, _, h1 => by omega
  | n + 1, h0, h2, h1 => by
    rw [lastT]
    by_cases e : k = n + 1
    · rw [← e, if_pos h]
    · rw [if_neg (fun h3 => e (word_inj k (n + 1) hk h2 (h.trans h3.symm))), lastT_hit s k hk h n (by omega) (by omega) h1]

theorem lastT_miss (s : ByteArray) : ∀ n, (∀ j, 1 ≤ j → j ≤ n → (wordAt j).data.toList ≠ s.data.toList) → lastT s n = 0
  | 0, _ => rfl
  | n + 1, h => by rw [lastT, if_neg (h (n + 1) (by omega) (by omega)), lastT_miss s n (fun j a b => h j a (by omega))]

theorem lastT_long (s : ByteArray) (h : 8 < s.size) : lastT s 64 = 0 := by
  apply lastT_miss
  intro j h1 h2 e
  have hm : (words.getD j []) ∈ words := by
    rw [← words_at j (by rw [words_len]; omega)]
    exact List.getElem_mem _
  have h3 := words_short _ hm
  rw [← wordAt_list, e] at h3
  have h4 : s.data.toList.length = s.size := by rw [Array.length_toList]; rfl
  omega

/-- Is a text the name of an operation? -/
def isW (s : ByteArray) (i : Nat) : Bool := (wordAt i).toList == s.toList
theorem isW_true {s : ByteArray} {i : Nat} (h : isW s i = true) : (wordAt i).data.toList = s.data.toList := by
  have := eq_of_beq h
  have e1 : ∀ t : ByteArray, t.toList = t.data.toList := fun t => ByteArray.toList_eq t
  rw [e1, e1] at this
  exact this
theorem isW_false {s : ByteArray} {i : Nat} (h : isW s i = false) : (wordAt i).data.toList ≠ s.data.toList := by
  intro e
  have e1 : ∀ t : ByteArray, t.toList = t.data.toList := fun t => ByteArray.toList_eq t
  have : isW s i = true := by
    unfold isW
    rw [e1, e1, e]
    exact beq_self_eq_true _
  rw [this] at h
  cases h
end Go.Proofs.YtdbngfeelfgbeaaGreatDoor.Op

namespace Go.Proofs.YtdbngfeelfgbeaaGreatDoor.Op
open Go.RowKit Go.Maps Go.WideMaps
set_option linter.unusedVariables false

theorem ret_num {a b : Int} (h : a = b) : Ending.returned (.int .i64 a) = .returned (.int .i64 b) := by rw [h]

theorem law : Keyed Tryz.prog 9 := string_keyed Tryz.underlying9
theorem zeroE (w : World) : (zeroValue 3).run Tryz.prog w = .ok (.int .i64 0) w := by kernel_rfl
theorem key_ok (i : Nat) : keyOf Tryz.prog 9 (.string (wordAt i)) = some (keyAt i) := by
  refine keyOf_string_mk Tryz.underlying9 ?_
  by_cases hi : i < 65
  · have hm : (words.getD i []) ∈ words := by
      rw [← words_at i (by rw [words_len]; omega)]
      exact List.getElem_mem _
    have h3 := words_short _ hm
    have h4 : (wordAt i).size = (words.getD i []).length := rfl
    unfold maxLen
    omega
  · have h5 : words.getD i [] = [] := by
      rw [List.getD_eq_getElem?_getD, List.getElem?_eq_none (by rw [words_len]; omega)]
      rfl
    have h4 : (wordAt i).size = (words.getD i []).length := rfl
    rw [h4, h5]
    exact Nat.zero_le _

theorem make_hint (w : World) : (Instr.makeMap 68 (some (.int .i64 65))).run Tryz.prog w = .ok (.map (some w.heap.size)) (w.alloc (.map #[] 0)) := by
  simp [Instr.makeMap, run_underlying Tryz.underlying68, asInt, asIntOf, Result.andThen]

set_option maxRecDepth 100000 in
set_option maxHeartbeats 1000000 in
theorem implNumbers {H : Type} (w : World) (hL : Laid w) :
    Calls Tryz.prog 32 #[] w fun e w' => e = .returned (.map (some w.heap.size)) ∧ w'.ownsMap Tryz.prog 9 (plainElem (H := H) Tryz.prog 3) w.heap.size 64 (mapT 64) ∧ Below w.heap.size w w' := by
  have hmm := make_hint
  go_enter Tryz.func32, Tryz.ntmps32
  go_wp2
  go_loopw [2] (fun i wr => ∃ k : Nat, k ≤ 64 ∧ i = .int .i64 ((k : Int) + 1) ∧ wr.ownsMap Tryz.prog 9 (plainElem (H := H) Tryz.prog 3) w.heap.size k (mapT k) ∧ Below w.heap.size w wr)
    (fun i _ => 65 - (intOf i).toNat)
  case atStart => exact ⟨0, Nat.zero_le _, rfl, World.ownsMap_made _ _ _ _, (Below.refl _ _).alloc (Nat.le_refl _) _⟩
  case round =>
    obtain ⟨k, hk, rfl, hown, hnx⟩ := hrel
    by_cases hlt : k < 64
    · have hc := laid_below hL hnx (k + 1) (by omega)
      have hkey := key_ok (k + 1)
      clear hL
      go_wp2_with (first
        | (at_mapUpdate; refine wpList_mapUpdate_own _ rfl _ _ _ 68 rfl 9 3 law Tryz.underlying68 _ w.heap.size k _ rfl hown (by unfold maxLen; omega) _ _ _ rfl rfl hkey _ [] (plainElem_int Tryz.underlying3 (WalkArith.wf_i64 (by omega))) ?_)
        | go_in)
      intro w1 hown1 hgrow1
      have R1 : w1.ownsMap Tryz.prog 9 (plainElem (H := H) Tryz.prog 3) w.heap.size (k + 1) (mapT (k + 1)) := hown1
      have R2 := hnx.grown hgrow1 hnx.size (fun j hj => by cases hj; exact Nat.le_refl _)
      clear hown1 hgrow1 hown hc hkey
      go_wp2
      go_roundw
      case rel => exact ⟨k + 1, by omega, by go_num, R1, R2⟩
      case measure => simp [intOf]; omega
    · obtain rfl : k = 64 := by omega
      clear hL
      go_wp2
      go_ret
      exact ⟨rfl, hown, hnx⟩

set_option maxRecDepth 100000 in
set_option maxHeartbeats 1000000 in
theorem implOf (s : ByteArray) (w : World) (hL : Laid w) (hs : s.size ≤ maxLen) :
    Calls Tryz.prog 12 #[.string s] w fun e w' => e = .returned (.int .i64 (lastT s 64 : Nat)) ∧ Below w.heap.size w w' := by
  have hkey : keyOf Tryz.prog 9 (.string s) = some (.string s.data.toList) := keyOf_string_mk Tryz.underlying9 hs
  go_enter Tryz.func12, Tryz.ntmps12
  go_wp2_with fail
  refine (implNumbers (H := Unit) w hL).mono ?_
  rintro e w1 ⟨rfl, hown, hb⟩
  clear hL
  go_wp2_with (first
    | (at_lookup; refine wpList_lookup_own_int _ rfl _ _ 68 rfl 9 3 .i64 law Tryz.underlying68 Tryz.underlying3 (zeroE _) w.heap.size 64 _ rfl hown _ _ rfl hkey ?_; intro c hat hwc)
    | go_in)
  have hc : c = (lastT s 64 : Nat) := by
    rw [mapT_at s 64] at hat
    injection hat with hat
    injection hat with _ hat
    exact hat.symm
  clear hat hwc hown
  go_wp2
  go_ret
  exact ⟨ret_num hc, hb⟩

end Go.Proofs.YtdbngfeelfgbeaaGreatDoor.Op
