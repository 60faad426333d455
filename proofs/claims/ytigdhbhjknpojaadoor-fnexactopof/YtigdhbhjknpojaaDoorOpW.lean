/- Contracts of both OpName. -/
import Derived.Test.YtigdhbhjknpojaaDoorOpL
import Derived.Test.YtigdhbhjknpojaaDoorSpIn
namespace Go.Proofs.YtigdhbhjknpojaaDoor.Op
open Go.RowKit
set_option linter.unusedVariables false

theorem ret_str {a b : ByteArray} (h : a = b) : Ending.returned (.string a) = .returned (.string b) := by rw [h]

theorem implName (c : Int) (w : World) (hL : Laid w) :
    Calls Tryd.prog 22 #[.int .i64 c] w fun e w' => e = .returned (.string (wordT c)) ∧ w' = w := by
  by_cases h0 : c < 0
  · go_enter Tryd.func22, Tryd.ntmps22
    go_wp2
    go_ret
    exact ⟨ret_str (wordT_out c (by omega)).symm, rfl⟩
  by_cases h1 : 65 ≤ c
  · go_enter Tryd.func22, Tryd.ntmps22
    go_wp2
    go_ret
    exact ⟨ret_str (wordT_out c (by omega)).symm, rfl⟩
  obtain ⟨i, rfl⟩ := Int.eq_ofNat_of_zero_le (show 0 ≤ c by omega)
  have hi : i < 65 := by omega
  have hc := hL i hi
  have HW : Hid (wordT (i : Int) = wordAt i) := by
    by_cases hz : 1 ≤ i
    · exact wordT_in i hz hi
    · obtain rfl : i = 0 := by omega
      exact wordT_out _ (by omega)
  clear hL
  go_enter Tryd.func22, Tryd.ntmps22
  go_wp2
  go_ret
  exact ⟨ret_str HW.out.symm, rfl⟩

set_option maxRecDepth 100000 in
set_option maxHeartbeats 1000000 in
theorem specList (w : World) :
    Calls Tryd.prog 48 #[] w fun e w' => e = .returned (.slice (some ⟨w.heap.size, 0, none⟩) 64 64) ∧ w' = w.alloc (.cells listVals.toArray 9) := by
  rw [listVals_arr]
  go_enter Tryd.func48, Tryd.ntmps48
  go_wp2
  go_ret
  exact ⟨rfl, rfl⟩

theorem spOp (c : Int) (w : World) (b : Bool) (h : (b = true ∧ 1 ≤ c ∧ c ≤ 64) ∨ (b = false ∧ (c < 1 ∨ 64 < c))) :
    Calls Tryd.prog 46 #[.int .i64 c] w fun e w' => e = .returned (.bool b) ∧ w' = w := by
  go_enter Tryd.func46, Tryd.ntmps46
  go_wp2_with fail
  refine (spIn _ _ _ _ b h).mono ?_
  rintro e w1 ⟨rfl, rfl⟩
  clear h
  go_wp2
  go_ret
  exact ⟨rfl, rfl⟩

theorem specName (c : Int) (w : World) :
    Calls Tryd.prog 21 #[.int .i64 c] w fun e w' => e = .returned (.string (wordT c)) ∧ Below w.heap.size w w' := by
  by_cases h0 : c < 1 ∨ 64 < c
  · have HW : Hid (wordT c = { data := #[] }) := wordT_out c (by omega)
    go_enter Tryd.func21, Tryd.ntmps21
    go_wp2_with fail
    refine (spOp c _ false (.inr ⟨rfl, h0⟩)).mono ?_
    rintro e w1 ⟨rfl, rfl⟩
    clear h0
    go_wp2
    go_ret
    exact ⟨ret_str HW.out.symm, Below.refl _ _⟩
  obtain ⟨i, rfl⟩ : ∃ i : Nat, c = (i : Int) + 1 := ⟨(c - 1).toNat, by omega⟩
  have hi : i < 64 := by omega
  have HW : Hid (wordT ((i : Int) + 1) = wordAt (i + 1)) := by
    have := wordT_in (i + 1) (by omega) (by omega)
    exact this
  have hc := cell_list w i hi
  clear h0
  go_enter Tryd.func21, Tryd.ntmps21
  go_wp2_with fail
  refine (spOp _ _ true (.inl ⟨rfl, by omega, by omega⟩)).mono ?_
  rintro e w1 ⟨rfl, rfl⟩
  go_wp2_with (go_at_call 48; refine (specList _).mono ?_; rintro e w1 ⟨rfl, rfl⟩)
  go_ret
  exact ⟨ret_str HW.out.symm, (Below.refl _ _).alloc (Nat.le_refl _) _⟩
end Go.Proofs.YtigdhbhjknpojaaDoor.Op
