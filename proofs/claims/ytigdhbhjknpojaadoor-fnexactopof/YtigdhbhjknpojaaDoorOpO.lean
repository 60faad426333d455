/- Contracts of both OpOf. -/
import Derived.Test.YtigdhbhjknpojaaDoorOpM
import Derived.Test.YtigdhbhjknpojaaDoorOpW
namespace Go.Proofs.YtigdhbhjknpojaaDoor.Op
open Go.RowKit Go.Maps Go.WideMaps
set_option linter.unusedVariables false

theorem ret_num {a b : Int} (h : a = b) : Ending.returned (.int .i64 a) = .returned (.int .i64 b) := by rw [h]

theorem law : Keyed Tryd.prog 9 := string_keyed Tryd.underlying9
theorem zeroE (w : World) : (zeroValue 3).run Tryd.prog w = .ok (.int .i64 0) w := by kernel_rfl
theorem key_ok (i : Nat) : keyOf Tryd.prog 9 (.string (wordAt i)) = some (keyAt i) := by
  refine keyOf_string_mk Tryd.underlying9 ?_
  by_cases hi : i < 65
  · have hm : (words.getD i []) ∈ words := by
      rw [← words_at i (by rw [words_len]; omega)]
      exact List.getElem_mem _
    have h3 := words_short _ hm
    have h4 : (wordAt i).size = (words.getD i []).length := rfl
    unfold maxLen
    omega
  · have h5 : words.getD i [] = [] := by
      rw [List.getD_eq_getElem?_getD, List.getElem?_eq_none (by rw [words_len]; omega)]
      rfl
    have h4 : (wordAt i).size = (words.getD i []).length := rfl
    rw [h4, h5]
    exact Nat.zero_le _

theorem make_hint (w : World) : (Instr.makeMap 75 (some (.int .i64 65))).run Tryd.prog w = .ok (.map (some w.heap.size)) (w.alloc (.map #[] 0)) := by
  simp [Instr.makeMap, run_underlying Tryd.underlying75, asInt, asIntOf, Result.andThen]

set_option maxRecDepth 100000 in
set_option maxHeartbeats 1000000 in
theorem implNumbers {H : Type} (w : World) (hL : Laid w) :
    Calls Tryd.prog 50 #[] w fun e w' => e = .returned (.map (some w.heap.size)) ∧ w'.ownsMap Tryd.prog 9 (plainElem (H := H) Tryd.prog 3) w.heap.size 64 (mapT 64) ∧ Below w.heap.size w w' := by
  have hmm := make_hint
  go_enter Tryd.func50, Tryd.ntmps50
  go_wp2
  go_loopw [2] (fun i wr => ∃ k : Nat, k ≤ 64 ∧ i = .int .i64 ((k : Int) + 1) ∧ wr.ownsMap Tryd.prog 9 (plainElem (H := H) Tryd.prog 3) w.heap.size k (mapT k) ∧ Below w.heap.size w wr)
    (fun i _ => 65 - (intOf i).toNat)
  case atStart => exact ⟨0, Nat.zero_le _, rfl, World.ownsMap_made _ _ _ _, (Below.refl _ _).alloc (Nat.le_refl _) _⟩
  case round =>
    obtain ⟨k, hk, rfl, hown, hnx⟩ := hrel
    by_cases hlt : k < 64
    · have hc := laid_below hL hnx (k + 1) (by omega)
      have hkey := key_ok (k + 1)
      clear hL
      go_wp2_with (first
        | (at_mapUpdate; refine wpList_mapUpdate_own _ rfl _ _ _ 75 rfl 9 3 law Tryd.underlying75 _ w.heap.size k _ rfl hown (by unfold maxLen; omega) _ _ _ rfl rfl hkey _ [] (plainElem_int Tryd.underlying3 (WalkArith.wf_i64 (by omega))) ?_)
        | go_in)
      intro w1 hown1 hgrow1
      have R1 : w1.ownsMap Tryd.prog 9 (plainElem (H := H) Tryd.prog 3) w.heap.size (k + 1) (mapT (k + 1)) := hown1
      have R2 := hnx.grown hgrow1 hnx.size (fun j hj => by cases hj; exact Nat.le_refl _)
      clear hown1 hgrow1 hown hc hkey
      go_wp2
      go_roundw
      case rel => exact ⟨k + 1, by omega, by go_num, R1, R2⟩
      case measure => simp [intOf]; omega
    · obtain rfl : k = 64 := by omega
      clear hL
      go_wp2
      go_ret
      exact ⟨rfl, hown, hnx⟩

set_option maxRecDepth 100000 in
set_option maxHeartbeats 1000000 in
theorem implOf (s : ByteArray) (w : World) (hL : Laid w) (hs : s.size ≤ maxLen) :
    Calls Tryd.prog 24 #[.string s] w fun e w' => e = .returned (.int .i64 (lastT s 64 : Nat)) ∧ Below w.heap.size w w' := by
  have hkey : keyOf Tryd.prog 9 (.string s) = some (.string s.data.toList) := keyOf_string_mk Tryd.underlying9 hs
  go_enter Tryd.func24, Tryd.ntmps24
  go_wp2_with fail
  refine (implNumbers (H := Unit) w hL).mono ?_
  rintro e w1 ⟨rfl, hown, hb⟩
  clear hL
  go_wp2_with (first
    | (at_lookup; refine wpList_lookup_own_int _ rfl _ _ 75 rfl 9 3 .i64 law Tryd.underlying75 Tryd.underlying3 (zeroE _) w.heap.size 64 _ rfl hown _ _ rfl hkey ?_; intro c hat hwc)
    | go_in)
  have hc : c = (lastT s 64 : Nat) := by
    rw [mapT_at s 64] at hat
    injection hat with hat
    injection hat with _ hat
    exact hat.symm
  clear hat hwc hown
  go_wp2
  go_ret
  exact ⟨ret_num hc, hb⟩

set_option maxRecDepth 100000 in
set_option maxHeartbeats 1000000 in
theorem specOf0 (s : ByteArray) (w : World) :
    Calls Tryd.prog 49 #[.string s] w fun e w' => e = .returned (.int .i64 (lastT s 64 : Nat)) ∧ Below w.heap.size w w' := by
  go_enter Tryd.func49, Tryd.ntmps49
  go_wp2_with fail
  refine (specList w).mono ?_
  rintro e w1 ⟨rfl, rfl⟩
  have hc := cell_list w
  generalize hw : w.alloc (.cells listVals.toArray 9) = w1 at *
  have hb : Below w.heap.size w w1 := by rw [← hw]; exact (Below.refl _ _).alloc (Nat.le_refl _) _
  clear hw
  go_wp2
  go_loop [4] (fun t => ∃ k : Nat, k ≤ 64 ∧ t = .int .i64 k ∧ Hid (∀ j, 1 ≤ j → j ≤ k → isW s j = false)) (fun t => 64 - (intOf t).toNat)
  case atStart => exact ⟨0, by omega, rfl, fun j h h' => by omega⟩
  case round =>
    obtain ⟨k, hk, rfl, hall⟩ := hrel
    by_cases hlt : k < 64
    · have hck := hc k hlt
      clear hc
      cases hb0 : isW s (k + 1) with
      | true =>
        have hb' : ((wordAt (k + 1)).toList == s.toList) = true := hb0
        have HB : Hid (isW s (k + 1) = true) := hb0
        clear hb0
        go_wp2
        go_ret
        exact ⟨ret_num (by rw [lastT_hit s (k + 1) (by omega) (isW_true HB.out) 64 (by omega) (by omega) (by omega)]; go_num), hb⟩
      | false =>
        have hb' : ((wordAt (k + 1)).toList == s.toList) = false := hb0
        have HB : Hid (isW s (k + 1) = false) := hb0
        clear hb0
        go_wp2
        go_round
        case rel => exact ⟨k + 1, by omega, by go_num, fun j hj hj' => by
          by_cases e : j = k + 1
          · rw [e]; exact HB.out
          · exact hall.out j hj (by omega)⟩
        case measure => simp [intOf]; omega
    · clear hc
      go_wp2
      go_ret
      exact ⟨ret_num (by rw [lastT_miss s 64 (fun j h1 h2 => isW_false (hall.out j h1 (by omega)))]; rfl), hb⟩

theorem specOf (s : ByteArray) (w : World) :
    Calls Tryd.prog 23 #[.string s] w fun e w' => e = .returned (.int .i64 (lastT s 64 : Nat)) ∧ Below w.heap.size w w' := by
  by_cases h : 65536 < s.size
  · have HL : Hid (lastT s 64 = 0) := lastT_long s (by omega)
    go_enter Tryd.func23, Tryd.ntmps23
    go_wp2
    go_ret
    exact ⟨ret_num (by rw [HL.out]; rfl), Below.refl _ _⟩
  · go_enter Tryd.func23, Tryd.ntmps23
    go_wp2_with fail
    refine (specOf0 s w).mono ?_
    rintro e w1 ⟨rfl, hb⟩
    go_wp2
    go_ret
    exact ⟨rfl, hb⟩
end Go.Proofs.YtigdhbhjknpojaaDoor.Op
