/- Contracts of both CodeOf. -/
import Derived.Test.YtogdaiilhiidgaaDoorCwW
import Derived.ChangeKeysEq
namespace Go.Proofs.YtogdaiilhiidgaaDoor
open Go.RowKit
set_option linter.unusedVariables false

/-- Is a text the word of a code? -/
def isW (s : ByteArray) (i : Nat) : Bool := (wordAt i).toList == s.toList
/-- The code of a word. -/
def codeT (s : ByteArray) : Int := match (List.range 32).find? (isW s) with | some i => i | none => -1
theorem codeT_hit (s : ByteArray) (k : Nat) (hk : k < 32) (h : isW s k = true) (ha : ∀ j, j < k → isW s j = false) : codeT s = k := by
  have : (List.range 32).find? (isW s) = some k := List.find?_range_eq_some.2 ⟨h, List.mem_range.2 hk, fun j hj => by rw [ha j hj]; rfl⟩
  unfold codeT
  rw [this]
theorem codeT_miss (s : ByteArray) (ha : ∀ j, j < 32 → isW s j = false) : codeT s = -1 := by
  have : (List.range 32).find? (isW s) = none := List.find?_eq_none.2 fun j hj => by rw [ha j (List.mem_range.1 hj)]; simp
  unfold codeT
  rw [this]
theorem ret_num {a b : Int} (h : a = b) : Ending.returned (.int .i64 a) = .returned (.int .i64 b) := by rw [h]

set_option maxRecDepth 100000 in
set_option maxHeartbeats 1000000 in
theorem specOf (s : ByteArray) (w : World) :
    Calls Tryd.prog 7 #[.string s] w fun e w' => e = .returned (.int .i64 (codeT s)) ∧ Below w.heap.size w w' := by
  go_enter Tryd.func7, Tryd.ntmps7
  go_wp2
  go_loopw [3] (fun t wr => ∃ k : Nat, k ≤ 32 ∧ t = .int .i64 k ∧ Below w.heap.size w wr ∧ Hid (∀ j, j < k → isW s j = false)) (fun t _ => 32 - (intOf t).toNat)
  case atStart => exact ⟨0, by omega, rfl, Below.refl _ _, fun j h => absurd h (Nat.not_lt_zero _)⟩
  case round =>
    obtain ⟨k, hk, rfl, hbel, hall⟩ := hrel
    by_cases hlt : k < 32
    · have hw := wordT_in k hlt
      cases hb : isW s k with
      | true =>
        have hb' : ((wordT (k : Int)).toList == s.toList) = true := by rw [hw]; exact hb
        have HB : Hid (isW s k = true) := hb
        clear hw hb
        go_wp2_with fail
        refine (specWord _ _).mono ?_
        rintro e w1 ⟨rfl, hb1⟩
        go_wp2
        go_ret
        exact ⟨ret_num (codeT_hit s k hlt HB.out hall.out).symm, hbel.trans (hb1.mono hbel.size)⟩
      | false =>
        have hb' : ((wordT (k : Int)).toList == s.toList) = false := by rw [hw]; exact hb
        have HB : Hid (isW s k = false) := hb
        clear hw hb
        go_wp2_with fail
        refine (specWord _ _).mono ?_
        rintro e w1 ⟨rfl, hb1⟩
        go_wp2
        go_roundw
        case rel => exact ⟨k + 1, by omega, by go_num, hbel.trans (hb1.mono hbel.size), fun j hj => by
          by_cases e : j = k
          · rw [e]; exact HB.out
          · exact hall.out j (by omega)⟩
        case measure => simp [intOf]; omega
    · go_wp2
      go_ret
      exact ⟨ret_num (codeT_miss s (fun j hj => hall.out j (by omega))).symm, hbel⟩

theorem run_index_words (w : World) (i : Nat) (h : i < 32) : (Instr.index 27 (.agg wordVals.toArray) (.int .i64 i)).run Tryd.prog w = .ok (.string (wordAt i)) w := by
  have h1 : (wordVals.toArray)[i]? = some (.string (wordAt i)) := by rw [List.getElem?_toArray]; exact wordVals_at i h
  have hs : wordVals.toArray.size = 32 := rfl
  have h2 := run_part_plain (P := Tryd.prog) (w := w) (e := 9) (by kernel_rfl) h1
  simp [Instr.index, asIntOf, run_underlying Tryd.underlying27, h, h2]

set_option maxRecDepth 100000 in
set_option maxHeartbeats 1000000 in
theorem implOf (s : ByteArray) (w : World) (hL : Laid w) :
    Calls Tryd.prog 8 #[.string s] w fun e w' => e = .returned (.int .i64 (codeT s)) ∧ w' = w := by
  have hr : w.rangeAt 0 0 wordVals := fun j v hv => by
    have hj : j < 32 := by
      have := (List.getElem?_eq_some_iff.1 hv).1
      simpa [wordVals, words_len] using this
    rw [wordVals_at j hj] at hv
    injection hv with hv
    rw [← hv, Nat.zero_add]
    exact hL j hj
  clear hL
  go_enter Tryd.func8, Tryd.ntmps8
  go_wp2_with (refine wpList_load_mid rfl 27 _ rfl 0 0 rfl wordVals _ hr Tryd.underlying27 rfl (by kernel_rfl) ?_)
  generalize hv : wordVals.toArray = arr
  have hix := fun (i : Nat) (h : i < 32) (w : World) => run_index_words w i h
  rw [hv] at hix
  clear hv hr
  go_loop [6] (fun t => ∃ k : Nat, k ≤ 32 ∧ t = .int .i64 k ∧ Hid (∀ j, j < k → isW s j = false)) (fun t => 32 - (intOf t).toNat)
  case atStart => exact ⟨0, by omega, rfl, fun j h => absurd h (Nat.not_lt_zero _)⟩
  case round =>
    obtain ⟨k, hk, rfl, hall⟩ := hrel
    by_cases hlt : k < 32
    · have hi := hix k hlt
      clear hix
      cases hb : isW s k with
      | true =>
        have hb' : ((wordAt k).toList == s.toList) = true := hb
        have HB : Hid (isW s k = true) := hb
        clear hb
        go_wp2
        go_ret
        exact ⟨ret_num (codeT_hit s k hlt HB.out hall.out).symm, rfl⟩
      | false =>
        have hb' : ((wordAt k).toList == s.toList) = false := hb
        have HB : Hid (isW s k = false) := hb
        clear hb
        go_wp2
        go_round
        case rel => exact ⟨k + 1, by omega, by go_num, fun j hj => by
          by_cases e : j = k
          · rw [e]; exact HB.out
          · exact hall.out j (by omega)⟩
        case measure => simp [intOf]; omega
    · clear hix
      go_wp2
      go_ret
      exact ⟨ret_num (codeT_miss s (fun j hj => hall.out j (by omega))).symm, rfl⟩
end Go.Proofs.YtogdaiilhiidgaaDoor
