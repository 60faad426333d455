/- Contracts of both CodeWord. -/
import Derived.Test.YtogdaiilhiidgaaDoorCwL
namespace Go.Proofs.YtogdaiilhiidgaaDoor
open Go.RowKit
set_option linter.unusedVariables false

theorem cell_lit (w : World) (i : Nat) (h : i < 32) : (w.alloc (.cells #[Value.string { data := #[111, 107] }, Value.string { data := #[98, 97, 100] }, Value.string { data := #[108, 111, 110, 103] }, Value.string { data := #[102, 111, 114, 109] }, Value.string { data := #[114, 97, 110, 103, 101] }, Value.string { data := #[110, 111, 110, 101] }, Value.string { data := #[109, 97, 110, 121] }, Value.string { data := #[102, 117, 108, 108] }, Value.string { data := #[115, 105, 122, 101] }, Value.string { data := #[115, 117, 109] }, Value.string { data := #[99, 111, 100, 101] }, Value.string { data := #[97, 108, 105, 103, 110] }, Value.string { data := #[112, 97, 103, 101] }, Value.string { data := #[112, 101, 114, 109] }, Value.string { data := #[115, 116, 97, 99, 107] }, Value.string { data := #[101, 99, 97, 108, 108] }, Value.string { data := #[98, 114, 101, 97, 107] }, Value.string { data := #[102, 114, 97, 109, 101] }, Value.string { data := #[114, 101, 116, 117, 114, 110] }, Value.string { data := #[106, 117, 109, 112] }, Value.string { data := #[99, 97, 108, 108] }, Value.string { data := #[114, 101, 103] }, Value.string { data := #[101, 110, 100] }, Value.string { data := #[115, 121, 109, 98, 111, 108] }, Value.string { data := #[99, 108, 97, 115, 104] }, Value.string { data := #[114, 101, 97, 99, 104] }, Value.string { data := #[107, 105, 110, 100] }, Value.string { data := #[100, 101, 112, 116, 104] }, Value.string { data := #[98, 117, 115, 121] }, Value.string { data := #[116, 111, 112] }, Value.string { data := #[115, 104, 97, 100, 111, 119] }, Value.string { data := #[100, 111, 110, 101] }] 9)).cell? ⟨w.heap.size, i, none⟩ = some (.string (wordAt i)) := by
  have := cell_words w i h
  rw [wordVals_arr] at this
  exact this

theorem ret_str {a b : ByteArray} (h : a = b) : Ending.returned (.string a) = .returned (.string b) := by rw [h]

theorem implWord (c : Int) (w : World) (hL : Laid w) :
    Calls Tryd.prog 6 #[.int .i64 c] w fun e w' => e = .returned (.string (wordT c)) ∧ w' = w := by
  by_cases h0 : c < 0
  · go_enter Tryd.func6, Tryd.ntmps6
    go_wp2
    go_ret
    exact ⟨ret_str (wordT_out c (by omega)).symm, rfl⟩
  by_cases h1 : 32 ≤ c
  · go_enter Tryd.func6, Tryd.ntmps6
    go_wp2
    go_ret
    exact ⟨ret_str (wordT_out c (by omega)).symm, rfl⟩
  obtain ⟨i, rfl⟩ := Int.eq_ofNat_of_zero_le (show 0 ≤ c by omega)
  have hi : i < 32 := by omega
  have hc := hL i hi
  have HW : Hid (wordT (i : Int) = wordAt i) := wordT_in i hi
  clear hL
  go_enter Tryd.func6, Tryd.ntmps6
  go_wp2
  go_ret
  exact ⟨ret_str HW.out.symm, rfl⟩

set_option maxRecDepth 100000 in
set_option maxHeartbeats 1000000 in
theorem specWord (c : Int) (w : World) :
    Calls Tryd.prog 5 #[.int .i64 c] w fun e w' => e = .returned (.string (wordT c)) ∧ Below w.heap.size w w' := by
  by_cases h0 : c < 0
  · go_enter Tryd.func5, Tryd.ntmps5
    go_wp2
    go_ret
    exact ⟨ret_str (wordT_out c (by omega)).symm, (Below.refl _ _).alloc (Nat.le_refl _) _⟩
  by_cases h1 : 32 ≤ c
  · go_enter Tryd.func5, Tryd.ntmps5
    go_wp2
    go_ret
    exact ⟨ret_str (wordT_out c (by omega)).symm, (Below.refl _ _).alloc (Nat.le_refl _) _⟩
  obtain ⟨i, rfl⟩ := Int.eq_ofNat_of_zero_le (show 0 ≤ c by omega)
  have hi : i < 32 := by omega
  have hc := cell_lit w i hi
  have HW : Hid (wordT (i : Int) = wordAt i) := wordT_in i hi
  go_enter Tryd.func5, Tryd.ntmps5
  go_wp2
  go_ret
  exact ⟨ret_str HW.out.symm, (Below.refl _ _).alloc (Nat.le_refl _) _⟩
end Go.Proofs.YtogdaiilhiidgaaDoor
