/- The table of the kinds of relocation's names, as it is laid. -/
import Derived.Test.YtdabllnigaafmaaDoorRows
import Derived.WalkKit
import Derived.WalkSpells
import Derived.ProofKit
import Derived.OpenShut
import Derived.LaidMore
import Derived.Deep.MidRow
namespace Go.Proofs.YtdabllnigaafmaaDoor.Rn
open Go.RowKit Go.ChangeShapes Go.WideShapes Go.ChangeAt
set_option linter.unusedVariables false

def words : List (List UInt8) := [[], [104, 105, 50, 48], [108, 111, 49, 50, 105], [108, 111, 49, 50, 115], [112, 99, 104, 105, 50, 48], [112, 99, 108, 111, 49, 50, 105], [112, 99, 108, 111, 49, 50, 115], [106, 97, 108], [98, 114, 97, 110, 99, 104], [119, 111, 114, 100, 54, 52]]
def wordAt (i : Nat) : ByteArray := ⟨(words.getD i []).toArray⟩
def wordVals : List Value := words.map fun t => .string ⟨t.toArray⟩
theorem words_len : words.length = 10 := rfl
theorem words_at (i : Nat) (h : i < words.length) : words[i] = words.getD i [] := by
  rw [List.getD_eq_getElem?_getD, List.getElem?_eq_getElem h]
  rfl
theorem wordVals_at (i : Nat) (h : i < 10) : wordVals[i]? = some (.string (wordAt i)) := by
  unfold wordVals wordAt
  rw [List.getElem?_map, List.getElem?_eq_getElem (by rw [words_len]; exact h), words_at]
  rfl

def Laid (w : World) : Prop := ∀ i, i < 10 → w.cell? ⟨0, i, none⟩ = some (.string (wordAt i))
def laidList : List (String × DataW Unit) := [("loop.example/g00654/impl.relocNames", Rows.laid_loop_example_g00654_impl_relocNames)]
theorem gW : Tryd.prog.globalNamed "loop.example/g00654/impl.relocNames" = some 0 := by kernel_rfl
theorem tW : (Tryd.prog.globals[0]?).map (·.type) = some 46 := by kernel_rfl
theorem c9 : Tryd.prog.cellsOf 9 = 1 := by kernel_rfl

theorem door_met (os : Os) (args : Array Value) : laidMetH Tryd.prog laidList ((World.doorLaid Tryd.prog 400 os).forCall (fun _ _ => 0) ⟨#[], args, []⟩).memory :=
  laidMetH_of_parts3 (fuel := 8) (laidMet_of_run' 8 (by kernel_rfl) (by kernel_rfl)) (by kernel_rfl) (by kernel_rfl)

theorem laid_words : (Rows.laid_loop_example_g00654_impl_relocNames : DataW Unit) = .agg (words.map fun t => .lit (.string t)) := rfl

theorem bytes_ext {s : ByteArray} {l : List UInt8} (h : s.data.toList = l) : s = ⟨l.toArray⟩ := by
  rw [← h]

set_option maxRecDepth 100000 in
theorem of_laid {W : World} (h : laidMetH Tryd.prog laidList W) : Laid W := by
  rw [MakeChecks.laidMetH_plain _ _ _ (by kernel_rfl)] at h
  obtain ⟨ps, ⟨g0, t0, cs0, f0, p0, q0, hg0, ht0, hv0, hd0, _, _⟩, _, _⟩ := h
  obtain rfl := Option.some.inj (gW.symm.trans hg0)
  obtain rfl := Option.some.inj (tW.symm.trans ht0)
  obtain ⟨xs, m1, rfl, hx1, hlen, hn, hel⟩ := DataW.trod_array Tryd.underlying46 hd0
  rw [laid_words] at hx1
  simp only [Prod.mk.injEq, DataW.agg.injEq] at hx1
  intro i hi
  have hi' := hel i hi
  rw [c9, List.getElem?_eq_getElem (by omega)] at hi'
  obtain ⟨s, hs, hx, _⟩ := DataW.trod_string Tryd.underlying9 hi'
  have h1 : (words.map fun t => (DataW.lit (.string t) : DataW Unit))[i]? = (xs.map (·.1))[i]? := by rw [hx1.1]
  rw [List.getElem?_map, List.getElem?_map, List.getElem?_eq_getElem (show i < xs.length by omega), List.getElem?_eq_getElem (show i < words.length by rw [words_len]; exact hi)] at h1
  simp only [Option.map_some, Option.some.injEq, hx] at h1
  have h2 : s.data.toList = words[i]'(by rw [words_len]; exact hi) := by
    injection h1 with h1
    injection h1 with h1
    exact h1.symm
  have h3 : s = wordAt i := by
    rw [bytes_ext h2]
    unfold wordAt
    rw [words_at]
  have h4 := World.var?_cell hg0 hv0 i
  rw [h4]
  have h5 : cs0[i]? = some (.string s) := by
    have := congrArg (·[0]?) hs
    simpa [List.getElem?_take, List.getElem?_drop] using this
  rw [h5, h3]

theorem laid_below {w w' : World} (h : Laid w) (hb : Below w.heap.size w w') : Laid w' := fun i hi =>
  (hb.cell (p := ⟨0, i, none⟩) (World.block_lt_of_cell? w _ (h i hi))).trans (h i hi)

theorem vars_len1 {H : Type} {enc : TypeId × Value → H} {P : Program} {w : World} {sp : Nat → Bool} {n : String} {gs : List (DataW H)} {ps : List MemPlace} (h : DataW.TrodVars enc P w sp [n] gs ps) : ∃ g, gs = [g] := by
  obtain ⟨g, t, cs, fuel, d, p, rfl, _⟩ := trodVars_one h
  exact ⟨d, rfl⟩

/-- The name of a kind. -/
def wordT (c : Int) : ByteArray := if 1 ≤ c ∧ c < 10 then wordAt c.toNat else { data := #[] }
theorem wordT_in (i : Nat) (h0 : 1 ≤ i) (h : i < 10) : wordT (i : Int) = wordAt i := by
  unfold wordT
  rw [if_pos (by omega), Int.toNat_natCast]
theorem wordT_out (c : Int) (h : ¬ (1 ≤ c ∧ c < 10)) : wordT c = { data := #[] } := by
  unfold wordT
  rw [if_neg h]
end Go.Proofs.YtdabllnigaafmaaDoor.Rn
