/- The table of the operations' names, as it is laid. Contract of the model's test of bounds. -/
import Derived.Test.YtjpdjalhhokghaaDoorRows
import Derived.WalkKit
import Derived.WalkSpells
import Derived.ProofKit
import Derived.OpenShut
import Derived.LaidMore
import Derived.Deep.MidRow
namespace Go.Proofs.YtjpdjalhhokghaaDoor.Op
open Go.RowKit Go.ChangeShapes Go.WideShapes Go.ChangeAt
set_option linter.unusedVariables false

def words : List (List UInt8) := [[], [108, 117, 105], [97, 117, 105, 112, 99], [106, 97, 108], [106, 97, 108, 114], [98, 101, 113], [98, 110, 101], [98, 108, 116], [98, 103, 101], [98, 108, 116, 117], [98, 103, 101, 117], [108, 98], [108, 104], [108, 119], [108, 100], [108, 98, 117], [108, 104, 117], [108, 119, 117], [115, 98], [115, 104], [115, 119], [115, 100], [97, 100, 100, 105], [115, 108, 116, 105], [115, 108, 116, 105, 117], [120, 111, 114, 105], [111, 114, 105], [97, 110, 100, 105], [115, 108, 108, 105], [115, 114, 108, 105], [115, 114, 97, 105], [97, 100, 100], [115, 117, 98], [115, 108, 108], [115, 108, 116], [115, 108, 116, 117], [120, 111, 114], [115, 114, 108], [115, 114, 97], [111, 114], [97, 110, 100], [97, 100, 100, 105, 119], [115, 108, 108, 105, 119], [115, 114, 108, 105, 119], [115, 114, 97, 105, 119], [97, 100, 100, 119], [115, 117, 98, 119], [115, 108, 108, 119], [115, 114, 108, 119], [115, 114, 97, 119], [109, 117, 108], [109, 117, 108, 104], [109, 117, 108, 104, 115, 117], [109, 117, 108, 104, 117], [100, 105, 118], [100, 105, 118, 117], [114, 101, 109], [114, 101, 109, 117], [109, 117, 108, 119], [100, 105, 118, 119], [100, 105, 118, 117, 119], [114, 101, 109, 119], [114, 101, 109, 117, 119], [101, 99, 97, 108, 108], [101, 98, 114, 101, 97, 107]]
def wordAt (i : Nat) : ByteArray := ⟨(words.getD i []).toArray⟩
def wordVals : List Value := words.map fun t => .string ⟨t.toArray⟩
theorem words_len : words.length = 65 := rfl
theorem words_at (i : Nat) (h : i < words.length) : words[i] = words.getD i [] := by
  rw [List.getD_eq_getElem?_getD, List.getElem?_eq_getElem h]
  rfl
theorem wordVals_at (i : Nat) (h : i < 65) : wordVals[i]? = some (.string (wordAt i)) := by
  unfold wordVals wordAt
  rw [List.getElem?_map, List.getElem?_eq_getElem (by rw [words_len]; exact h), words_at]
  rfl

def Laid (w : World) : Prop := ∀ i, i < 65 → w.cell? ⟨0, i, none⟩ = some (.string (wordAt i))
def laidList : List (String × DataW Unit) := [("loop.example/g00654/impl.opNames", Rows.laid_loop_example_g00654_impl_opNames)]
theorem gW : Tryd.prog.globalNamed "loop.example/g00654/impl.opNames" = some 0 := by kernel_rfl
theorem tW : (Tryd.prog.globals[0]?).map (·.type) = some 106 := by kernel_rfl
theorem c9 : Tryd.prog.cellsOf 9 = 1 := by kernel_rfl

theorem door_met (os : Os) (args : Array Value) : laidMetH Tryd.prog laidList ((World.doorLaid Tryd.prog 400 os).forCall (fun _ _ => 0) ⟨#[], args, []⟩).memory :=
  laidMetH_of_parts3 (fuel := 8) (laidMet_of_run' 8 (by kernel_rfl) (by kernel_rfl)) (by kernel_rfl) (by kernel_rfl)

theorem laid_words : (Rows.laid_loop_example_g00654_impl_opNames : DataW Unit) = .agg (words.map fun t => .lit (.string t)) := rfl

theorem bytes_ext {s : ByteArray} {l : List UInt8} (h : s.data.toList = l) : s = ⟨l.toArray⟩ := by
  rw [← h]

set_option maxRecDepth 100000 in
theorem of_laid {W : World} (h : laidMetH Tryd.prog laidList W) : Laid W := by
  rw [MakeChecks.laidMetH_plain _ _ _ (by kernel_rfl)] at h
  obtain ⟨ps, ⟨g0, t0, cs0, f0, p0, q0, hg0, ht0, hv0, hd0, _, _⟩, _, _⟩ := h
  obtain rfl := Option.some.inj (gW.symm.trans hg0)
  obtain rfl := Option.some.inj (tW.symm.trans ht0)
  obtain ⟨xs, m1, rfl, hx1, hlen, hn, hel⟩ := DataW.trod_array Tryd.underlying106 hd0
  rw [laid_words] at hx1
  simp only [Prod.mk.injEq, DataW.agg.injEq] at hx1
  intro i hi
  have hi' := hel i hi
  rw [c9, List.getElem?_eq_getElem (by omega)] at hi'
  obtain ⟨s, hs, hx, _⟩ := DataW.trod_string Tryd.underlying9 hi'
  have h1 : (words.map fun t => (DataW.lit (.string t) : DataW Unit))[i]? = (xs.map (·.1))[i]? := by rw [hx1.1]
  rw [List.getElem?_map, List.getElem?_map, List.getElem?_eq_getElem (show i < xs.length by omega), List.getElem?_eq_getElem (show i < words.length by rw [words_len]; exact hi)] at h1
  simp only [Option.map_some, Option.some.injEq, hx] at h1
  have h2 : s.data.toList = words[i]'(by rw [words_len]; exact hi) := by
    injection h1 with h1
    injection h1 with h1
    exact h1.symm
  have h3 : s = wordAt i := by
    rw [bytes_ext h2]
    unfold wordAt
    rw [words_at]
  have h4 := World.var?_cell hg0 hv0 i
  rw [h4]
  have h5 : cs0[i]? = some (.string s) := by
    have := congrArg (·[0]?) hs
    simpa [List.getElem?_take, List.getElem?_drop] using this
  rw [h5, h3]

theorem laid_below {w w' : World} (h : Laid w) (hb : Below w.heap.size w w') : Laid w' := fun i hi =>
  (hb.cell (p := ⟨0, i, none⟩) (World.block_lt_of_cell? w _ (h i hi))).trans (h i hi)

theorem vars_len1 {H : Type} {enc : TypeId × Value → H} {P : Program} {w : World} {sp : Nat → Bool} {n : String} {gs : List (DataW H)} {ps : List MemPlace} (h : DataW.TrodVars enc P w sp [n] gs ps) : ∃ g, gs = [g] := by
  obtain ⟨g, t, cs, fuel, d, p, rfl, _⟩ := trodVars_one h
  exact ⟨d, rfl⟩

/-- The model's own list: the names from 1 on. -/
def listVals : List Value := wordVals.drop 1
theorem listVals_at (i : Nat) (h : i < 64) : listVals[i]? = some (.string (wordAt (i + 1))) := by
  unfold listVals
  rw [List.getElem?_drop, Nat.add_comm]
  exact wordVals_at (i + 1) (by omega)
set_option maxRecDepth 100000 in
theorem listVals_arr : listVals.toArray = #[Value.string { data := #[108, 117, 105] }, Value.string { data := #[97, 117, 105, 112, 99] }, Value.string { data := #[106, 97, 108] }, Value.string { data := #[106, 97, 108, 114] }, Value.string { data := #[98, 101, 113] }, Value.string { data := #[98, 110, 101] }, Value.string { data := #[98, 108, 116] }, Value.string { data := #[98, 103, 101] }, Value.string { data := #[98, 108, 116, 117] }, Value.string { data := #[98, 103, 101, 117] }, Value.string { data := #[108, 98] }, Value.string { data := #[108, 104] }, Value.string { data := #[108, 119] }, Value.string { data := #[108, 100] }, Value.string { data := #[108, 98, 117] }, Value.string { data := #[108, 104, 117] }, Value.string { data := #[108, 119, 117] }, Value.string { data := #[115, 98] }, Value.string { data := #[115, 104] }, Value.string { data := #[115, 119] }, Value.string { data := #[115, 100] }, Value.string { data := #[97, 100, 100, 105] }, Value.string { data := #[115, 108, 116, 105] }, Value.string { data := #[115, 108, 116, 105, 117] }, Value.string { data := #[120, 111, 114, 105] }, Value.string { data := #[111, 114, 105] }, Value.string { data := #[97, 110, 100, 105] }, Value.string { data := #[115, 108, 108, 105] }, Value.string { data := #[115, 114, 108, 105] }, Value.string { data := #[115, 114, 97, 105] }, Value.string { data := #[97, 100, 100] }, Value.string { data := #[115, 117, 98] }, Value.string { data := #[115, 108, 108] }, Value.string { data := #[115, 108, 116] }, Value.string { data := #[115, 108, 116, 117] }, Value.string { data := #[120, 111, 114] }, Value.string { data := #[115, 114, 108] }, Value.string { data := #[115, 114, 97] }, Value.string { data := #[111, 114] }, Value.string { data := #[97, 110, 100] }, Value.string { data := #[97, 100, 100, 105, 119] }, Value.string { data := #[115, 108, 108, 105, 119] }, Value.string { data := #[115, 114, 108, 105, 119] }, Value.string { data := #[115, 114, 97, 105, 119] }, Value.string { data := #[97, 100, 100, 119] }, Value.string { data := #[115, 117, 98, 119] }, Value.string { data := #[115, 108, 108, 119] }, Value.string { data := #[115, 114, 108, 119] }, Value.string { data := #[115, 114, 97, 119] }, Value.string { data := #[109, 117, 108] }, Value.string { data := #[109, 117, 108, 104] }, Value.string { data := #[109, 117, 108, 104, 115, 117] }, Value.string { data := #[109, 117, 108, 104, 117] }, Value.string { data := #[100, 105, 118] }, Value.string { data := #[100, 105, 118, 117] }, Value.string { data := #[114, 101, 109] }, Value.string { data := #[114, 101, 109, 117] }, Value.string { data := #[109, 117, 108, 119] }, Value.string { data := #[100, 105, 118, 119] }, Value.string { data := #[100, 105, 118, 117, 119] }, Value.string { data := #[114, 101, 109, 119] }, Value.string { data := #[114, 101, 109, 117, 119] }, Value.string { data := #[101, 99, 97, 108, 108] }, Value.string { data := #[101, 98, 114, 101, 97, 107] }] := rfl
theorem cell_list (w : World) (i : Nat) (h : i < 64) : (w.alloc (.cells listVals.toArray 9)).cell? ⟨w.heap.size, i, none⟩ = some (.string (wordAt (i + 1))) := by
  rw [cell_of_row _ w.heap.size i listVals.toArray 9 (0, 0) (heap_alloc_new w _)]
  rw [List.getElem?_toArray]
  exact listVals_at i h

/-- The name of an operation. -/
def wordT (c : Int) : ByteArray := if 1 ≤ c ∧ c < 65 then wordAt c.toNat else { data := #[] }
theorem wordT_in (i : Nat) (h0 : 1 ≤ i) (h : i < 65) : wordT (i : Int) = wordAt i := by
  unfold wordT
  rw [if_pos (by omega), Int.toNat_natCast]
theorem wordT_out (c : Int) (h : ¬ (1 ≤ c ∧ c < 65)) : wordT c = { data := #[] } := by
  unfold wordT
  rw [if_neg h]
end Go.Proofs.YtjpdjalhhokghaaDoor.Op

namespace Go.Proofs.YtjpdjalhhokghaaDoor
open Go.RowKit
set_option linter.unusedVariables false

theorem spIn (x low high : Int) (w : World) (b : Bool) (h : (b = true ∧ low ≤ x ∧ x ≤ high) ∨ (b = false ∧ (x < low ∨ high < x))) :
    Calls Tryd.prog 57 #[.int .i64 x, .int .i64 low, .int .i64 high] w fun e w' => e = .returned (.bool b) ∧ w' = w := by
  rcases h with ⟨rfl, h0, h1⟩ | ⟨rfl, h⟩
  · go_enter Tryd.func57, Tryd.ntmps57
    go_wp2
    go_ret
    refine ⟨congrArg (fun x => Ending.returned (.bool x)) ?_, rfl⟩
    first | rfl | (simp; done) | (simp; omega)
  · by_cases h0 : x < low
    · go_enter Tryd.func57, Tryd.ntmps57
      go_wp2
      go_ret
      refine ⟨congrArg (fun x => Ending.returned (.bool x)) ?_, rfl⟩
      first | rfl | (simp; done) | (simp; omega)
    · have h1 : high < x := by omega
      clear h
      go_enter Tryd.func57, Tryd.ntmps57
      go_wp2
      go_ret
      refine ⟨congrArg (fun x => Ending.returned (.bool x)) ?_, rfl⟩
      first | rfl | (simp; done) | (simp; omega)

end Go.Proofs.YtjpdjalhhokghaaDoor
