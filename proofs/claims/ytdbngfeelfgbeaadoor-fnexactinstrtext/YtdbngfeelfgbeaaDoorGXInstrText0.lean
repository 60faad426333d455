/- Digits of numbers, in the model: the contract. The table of the operations' names, as it is laid. -/
import Derived.Test.YtdbngfeelfgbeaaDoorChecked
import Derived.WalkKit
import Derived.WalkSpells
import Derived.LoopTactic
import Derived.Deep.RegionHeld3
import Derived.Laws.IdiomStrings
import Derived.Deep.AppendLies
import Derived.Lib.ItoaNum
import Derived.Lib.ItoaLen
import Derived.Lib.ItoaMem
import Derived.Test.YtdbngfeelfgbeaaDoorRows
import Derived.ProofKit
import Derived.OpenShut
import Derived.LaidMore
import Derived.Deep.MidRow
namespace Go.Proofs.YtdbngfeelfgbeaaDoor.Tx
open Go.RowKit
set_option linter.unusedVariables false

theorem add_any (a b : ByteArray) (h : a.size + b.size ≤ 1000000) : ∀ w : World, (Op.stringOp .add a b).run Tryd.prog w = .ok (.string (a ++ b)) w :=
  fun w => run_string_add_sum w a b (by omega)
theorem conv_one (w : World) (x : UInt8) : (convert 59 9 (.slice (some ⟨w.heap.size, 0, none⟩) 1 1)).run Tryd.prog (w.alloc (.cells #[.int .u8 (x.toNat : Int)] 5)) = .ok (.string ⟨#[x]⟩) (w.alloc (.cells #[.int .u8 (x.toNat : Int)] 5)) :=
  run_convert_bytes_back (w.alloc (.cells #[.int .u8 (x.toNat : Int)] 5)) 59 9 5 ⟨w.heap.size, 0, none⟩ 1 [x] Tryd.underlying59 Tryd.underlying5 Tryd.underlying9 (fun j hj => by
    obtain rfl : j = 0 := by simp at hj; omega
    exact World.news_of_block (cs := #[.int .u8 (x.toNat : Int)]) (t := 5) (fr := (0, 0)) (heap_alloc_new w _) 0 _ rfl)
theorem conv_one_drew (w : World) (x : UInt8) : (convert 59 9 (.slice (some ⟨w.heap.size, 0, none⟩) 1 1)).run Tryd.prog (w.alloc (.cells #[.int .u8 (x.toNat : Int)] 5)).drew = .ok (.string ⟨#[x]⟩) (w.alloc (.cells #[.int .u8 (x.toNat : Int)] 5)).drew :=
  run_convert_bytes_back (w.alloc (.cells #[.int .u8 (x.toNat : Int)] 5)).drew 59 9 5 ⟨w.heap.size, 0, none⟩ 1 [x] Tryd.underlying59 Tryd.underlying5 Tryd.underlying9 (fun j hj => by
    obtain rfl : j = 0 := by simp at hj; omega
    exact World.news_of_block (cs := #[.int .u8 (x.toNat : Int)]) (t := 5) (fr := (0, 0)) (heap_alloc_new w _) 0 _ rfl)

theorem conv_at (b : Nat) (x : UInt8) (W : World) (h : W.cell? ⟨b, 0, none⟩ = some (.int .u8 (x.toNat : Int))) : (convert 59 9 (.slice (some ⟨b, 0, none⟩) 1 1)).run Tryd.prog W = .ok (.string ⟨#[x]⟩) W :=
  run_convert_bytes_back W 59 9 5 ⟨b, 0, none⟩ 1 [x] Tryd.underlying59 Tryd.underlying5 Tryd.underlying9 (fun j hj => by
    obtain rfl : j = 0 := by simp at hj; omega
    exact h)

def txt (l : List UInt8) : ByteArray := ⟨l.toArray⟩
theorem txt_append (a b : List UInt8) : txt a ++ txt b = txt (a ++ b) := by
  unfold txt
  apply ByteArray.ext
  simp
theorem txt_size (a : List UInt8) : (txt a).size = a.length := by
  unfold txt
  simp [ByteArray.size]
theorem dec_len (u : Nat) (h : u ≤ 9223372036854775808) : (Lib.decDigits u).length ≤ 21 := by
  have := Lib.itoa_length_le (-(u : Int)) (by omega) (by omega)
  unfold Lib.itoa at this
  split at this
  · simp at this
    omega
  · obtain rfl : u = 0 := by omega
    rw [Lib.decDigits]
    simp
def dig (u : Nat) : UInt8 := UInt8.ofNat (48 + u % 10)
theorem dig_nat (u : Nat) : ((dig u).toNat : Int) = 48 + u % 10 := by
  unfold dig
  rw [UInt8.toNat_ofNat_of_lt' (by unfold UInt8.size; omega)]
  omega

theorem wrap_dig (u : Nat) : IntKind.u8.wrap ((dig u).toNat : Int) = ((dig u).toNat : Int) := by
  rw [dig_nat]
  unfold IntKind.wrap
  simp [IntKind.bits, IntKind.signed]
  omega

set_option maxRecDepth 100000 in
theorem digits_small (u : Nat) (h : u < 10) (w : World) :
    Calls Tryd.prog 28 #[.int .i64 u] w fun e w' => e = .returned (.string (txt (Lib.decDigits u))) ∧ Below w.heap.size w w' := by
  have hv : (u : Int) + 48 = ((dig u).toNat : Int) := by rw [dig_nat]; omega
  have hv' : 48 + (u : Int) = ((dig u).toNat : Int) := by rw [dig_nat]; omega
  have hw : IntKind.u8.wrap ((dig u).toNat : Int) = ((dig u).toNat : Int) := wrap_dig u
  have hd : Lib.decDigits u = [dig u] := by
    rw [Lib.decDigits, dif_pos h]
    unfold dig
    rw [Nat.mod_eq_of_lt h]
  have hc := conv_one
  go_enter Tryd.func28, Tryd.ntmps28
  go_wp2
  go_ret
  refine ⟨by rw [hd]; rfl, ?_⟩
  exact (Below.refl _ _).alloc (Nat.le_refl _) _

theorem wrap_i64 (x : Int) (h0 : -9223372036854775808 ≤ x) (h1 : x ≤ 9223372036854775807) : IntKind.i64.wrap x = x := by
  unfold IntKind.wrap
  simp [IntKind.bits, IntKind.signed]
  omega

theorem bdrew {w wa : World} (h : Below w.drew.heap.size w.drew wa) : Below w.heap.size w wa := (Below.refl _ w).drew.trans h

set_option maxRecDepth 100000 in
set_option maxHeartbeats 2000000 in
theorem digits_step (u q r : Nat) (x : UInt8) (A T : ByteArray) (hq : (u : Int) / 10 = (q : Int)) (hqw : IntKind.i64.wrap (q : Int) = (q : Int)) (hr : (u : Int) % 10 = (r : Int)) (hrt : (u : Int).tmod 10 = (r : Int)) (hqt : (u : Int).tdiv 10 = (q : Int)) (hv : 48 + (r : Int) = (x.toNat : Int))
    (hx : IntKind.i64.wrap (x.toNat : Int) = (x.toNat : Int)) (hw : IntKind.u8.wrap (x.toNat : Int) = (x.toNat : Int)) (hm : ((u : Int) == -9223372036854775808) = false) (h0 : ¬ (u : Int) < 0) (h10 : ¬ (u : Int) < 10)
    (hadd : ∀ w : World, (Op.stringOp .add A ⟨#[x]⟩).run Tryd.prog w = .ok (.string T) w) (w : World)
    (ih : Hid (∀ w, Calls Tryd.prog 28 #[.int .i64 q] w fun e w' => e = .returned (.string A) ∧ Below w.heap.size w w')) :
    Calls Tryd.prog 28 #[.int .i64 u] w fun e w' => e = .returned (.string T) ∧ Below w.heap.size w w' := by
  have hc := conv_one
  have hcd := conv_one_drew
  have ihA : Hid (∀ w0 : World, Calls Tryd.prog 28 #[.int .i64 q] (w0.alloc (.cells #[.int .u8 (x.toNat : Int)] 5)).drew fun e w' => e = .returned (.string A) ∧ Below w0.heap.size w0 w' ∧ (convert 59 9 (.slice (some ⟨w0.heap.size, 0, none⟩) 1 1)).run Tryd.prog w' = .ok (.string ⟨#[x]⟩) w') := fun w0 =>
    (ih.out _).mono fun e w' ⟨he, hb⟩ => ⟨he, (((Below.refl _ _).alloc (Nat.le_refl _) _).drew).trans (hb.mono (by simp)), conv_at w0.heap.size x w' ((hb.cell (p := ⟨w0.heap.size, 0, none⟩) (by simp)).trans (by simp))⟩
  go_enter Tryd.func28, Tryd.ntmps28
  go_wp2
  go_region_with (first | (go_at_call 28; refine (ihA.out _).mono ?_; rintro e wa ⟨rfl, hba, hcx0⟩; have hcx : (convert 59 9 (.slice (some ⟨w.heap.size, 0, none⟩) 1 1)).run Tryd.prog wa = .ok (.string ⟨#[x]⟩) wa := hcx0) | (go_at_call 28; refine (ih.out _).mono ?_; rintro e wa ⟨rfl, hba⟩))
  all_goals
    go_wp2
    go_ret
    refine ⟨rfl, ?_⟩
    first
      | exact hba
      | exact (bdrew hba)
      | exact (bdrew hba).alloc (bdrew hba).size _
      | exact hba.alloc hba.size _
      | exact (hba.alloc hba.size _).drew
      | exact hba.drew

theorem digits_nat (n : Nat) : ∀ u : Nat, u ≤ n → u ≤ 9223372036854775807 → ∀ w, Calls Tryd.prog 28 #[.int .i64 u] w fun e w' => e = .returned (.string (txt (Lib.decDigits u))) ∧ Below w.heap.size w w' := by
  induction n with
  | zero => exact fun u h0 _ w => digits_small u (by omega) w
  | succ n ih =>
    intro u h0 h1 w
    by_cases h : u < 10
    · exact digits_small u h w
    · have hd : txt (Lib.decDigits (u / 10)) ++ ⟨#[dig u]⟩ = txt (Lib.decDigits u) := by
        rw [Lib.decDigits.eq_1 u, dif_neg h]
        exact txt_append _ [dig u]
      have hl := dec_len (u / 10) (by omega)
      have hx := dig_nat u
      exact digits_step u (u / 10) (u % 10) (dig u) (txt (Lib.decDigits (u / 10))) (txt (Lib.decDigits u)) (by omega) (wrap_i64 _ (by omega) (by omega)) (by omega) (by rw [Int.tmod_eq_emod_of_nonneg (by omega)]; omega) (by rw [Int.tdiv_eq_ediv_of_nonneg (by omega)]; omega) (by omega)
        (wrap_i64 _ (by omega) (by omega)) (wrap_dig u) (by simp <;> omega) (by omega) (by omega) (by rw [← hd]; exact add_any _ _ (by rw [txt_size]; show _ + 1 ≤ 1000000; omega)) w (ih (u / 10) (by omega) (by omega))

set_option maxRecDepth 100000 in
theorem digitsC (n : Int) (h0 : -9223372036854775808 ≤ n) (h1 : n ≤ 9223372036854775807) (w : World) :
    Calls Tryd.prog 28 #[.int .i64 n] w fun e w' => e = .returned (.string (txt (Lib.itoa n))) ∧ Below w.heap.size w w' := by
  by_cases hm : n = -9223372036854775808
  · subst hm
    go_enter Tryd.func28, Tryd.ntmps28
    go_wp2
    go_ret
    exact ⟨by kernel_rfl, Below.refl _ _⟩
  by_cases hn : n < 0
  · obtain ⟨u, rfl⟩ : ∃ u : Nat, n = -(u : Int) := ⟨n.natAbs, by omega⟩
    have hmm : ((-(u : Int)) == -9223372036854775808) = false := by simp; omega
    have hneg : wrap64 (- -(u : Int)) = (u : Int) := by unfold wrap64; omega
    have hneg' : wrap64 (u : Int) = (u : Int) := by unfold wrap64; omega
    have hl := dec_len u (by omega)
    have hadd := add_any { data := #[45] } (txt (Lib.decDigits u)) (by rw [txt_size]; show 1 + _ ≤ 1000000; omega)
    have hT : ({ data := #[45] } : ByteArray) ++ txt (Lib.decDigits u) = txt (Lib.itoa (-(u : Int))) := by
      rw [Lib.itoa_neg u (by omega)]
      exact txt_append [45] _
    rw [hT] at hadd
    go_enter Tryd.func28, Tryd.ntmps28
    go_wp2_with fail
    refine (digits_nat u u (Nat.le_refl _) (by omega) _).mono ?_
    rintro e w1 ⟨rfl, hb⟩
    go_wp2
    go_ret
    exact ⟨rfl, hb⟩
  · obtain ⟨u, rfl⟩ : ∃ u : Nat, n = (u : Int) := ⟨n.toNat, by omega⟩
    rw [Lib.itoa_nonneg]
    exact digits_nat u u (Nat.le_refl _) (by omega) w
end Go.Proofs.YtdbngfeelfgbeaaDoor.Tx

namespace Go.Proofs.YtdbngfeelfgbeaaDoor.Op
open Go.RowKit Go.ChangeShapes Go.WideShapes Go.ChangeAt
set_option linter.unusedVariables false

def words : List (List UInt8) := [[], [108, 117, 105], [97, 117, 105, 112, 99], [106, 97, 108], [106, 97, 108, 114], [98, 101, 113], [98, 110, 101], [98, 108, 116], [98, 103, 101], [98, 108, 116, 117], [98, 103, 101, 117], [108, 98], [108, 104], [108, 119], [108, 100], [108, 98, 117], [108, 104, 117], [108, 119, 117], [115, 98], [115, 104], [115, 119], [115, 100], [97, 100, 100, 105], [115, 108, 116, 105], [115, 108, 116, 105, 117], [120, 111, 114, 105], [111, 114, 105], [97, 110, 100, 105], [115, 108, 108, 105], [115, 114, 108, 105], [115, 114, 97, 105], [97, 100, 100], [115, 117, 98], [115, 108, 108], [115, 108, 116], [115, 108, 116, 117], [120, 111, 114], [115, 114, 108], [115, 114, 97], [111, 114], [97, 110, 100], [97, 100, 100, 105, 119], [115, 108, 108, 105, 119], [115, 114, 108, 105, 119], [115, 114, 97, 105, 119], [97, 100, 100, 119], [115, 117, 98, 119], [115, 108, 108, 119], [115, 114, 108, 119], [115, 114, 97, 119], [109, 117, 108], [109, 117, 108, 104], [109, 117, 108, 104, 115, 117], [109, 117, 108, 104, 117], [100, 105, 118], [100, 105, 118, 117], [114, 101, 109], [114, 101, 109, 117], [109, 117, 108, 119], [100, 105, 118, 119], [100, 105, 118, 117, 119], [114, 101, 109, 119], [114, 101, 109, 117, 119], [101, 99, 97, 108, 108], [101, 98, 114, 101, 97, 107]]
def wordAt (i : Nat) : ByteArray := ⟨(words.getD i []).toArray⟩
def wordVals : List Value := words.map fun t => .string ⟨t.toArray⟩
theorem words_len : words.length = 65 := rfl
theorem words_at (i : Nat) (h : i < words.length) : words[i] = words.getD i [] := by
  rw [List.getD_eq_getElem?_getD, List.getElem?_eq_getElem h]
  rfl
theorem wordVals_at (i : Nat) (h : i < 65) : wordVals[i]? = some (.string (wordAt i)) := by
  unfold wordVals wordAt
  rw [List.getElem?_map, List.getElem?_eq_getElem (by rw [words_len]; exact h), words_at]
  rfl

def Laid (w : World) : Prop := ∀ i, i < 65 → w.cell? ⟨0, i, none⟩ = some (.string (wordAt i))
def laidList : List (String × DataW Unit) := [("loop.example/g00654/impl.opNames", Rows.laid_loop_example_g00654_impl_opNames)]
theorem gW : Tryd.prog.globalNamed "loop.example/g00654/impl.opNames" = some 0 := by kernel_rfl
theorem tW : (Tryd.prog.globals[0]?).map (·.type) = some 35 := by kernel_rfl
theorem c9 : Tryd.prog.cellsOf 9 = 1 := by kernel_rfl

theorem door_met (os : Os) (args : Array Value) : laidMetH Tryd.prog laidList ((World.doorLaid Tryd.prog 400 os).forCall (fun _ _ => 0) ⟨#[], args, []⟩).memory :=
  laidMetH_of_parts3 (fuel := 8) (laidMet_of_run' 8 (by kernel_rfl) (by kernel_rfl)) (by kernel_rfl) (by kernel_rfl)

theorem laid_words : (Rows.laid_loop_example_g00654_impl_opNames : DataW Unit) = .agg (words.map fun t => .lit (.string t)) := rfl

theorem bytes_ext {s : ByteArray} {l : List UInt8} (h : s.data.toList = l) : s = ⟨l.toArray⟩ := by
  rw [← h]

set_option maxRecDepth 100000 in
theorem of_laid {W : World} (h : laidMetH Tryd.prog laidList W) : Laid W := by
  rw [MakeChecks.laidMetH_plain _ _ _ (by kernel_rfl)] at h
  obtain ⟨ps, ⟨g0, t0, cs0, f0, p0, q0, hg0, ht0, hv0, hd0, _, _⟩, _, _⟩ := h
  obtain rfl := Option.some.inj (gW.symm.trans hg0)
  obtain rfl := Option.some.inj (tW.symm.trans ht0)
  obtain ⟨xs, m1, rfl, hx1, hlen, hn, hel⟩ := DataW.trod_array Tryd.underlying35 hd0
  rw [laid_words] at hx1
  simp only [Prod.mk.injEq, DataW.agg.injEq] at hx1
  intro i hi
  have hi' := hel i hi
  rw [c9, List.getElem?_eq_getElem (by omega)] at hi'
  obtain ⟨s, hs, hx, _⟩ := DataW.trod_string Tryd.underlying9 hi'
  have h1 : (words.map fun t => (DataW.lit (.string t) : DataW Unit))[i]? = (xs.map (·.1))[i]? := by rw [hx1.1]
  rw [List.getElem?_map, List.getElem?_map, List.getElem?_eq_getElem (show i < xs.length by omega), List.getElem?_eq_getElem (show i < words.length by rw [words_len]; exact hi)] at h1
  simp only [Option.map_some, Option.some.injEq, hx] at h1
  have h2 : s.data.toList = words[i]'(by rw [words_len]; exact hi) := by
    injection h1 with h1
    injection h1 with h1
    exact h1.symm
  have h3 : s = wordAt i := by
    rw [bytes_ext h2]
    unfold wordAt
    rw [words_at]
  have h4 := World.var?_cell hg0 hv0 i
  rw [h4]
  have h5 : cs0[i]? = some (.string s) := by
    have := congrArg (·[0]?) hs
    simpa [List.getElem?_take, List.getElem?_drop] using this
  rw [h5, h3]

theorem laid_below {w w' : World} (h : Laid w) (hb : Below w.heap.size w w') : Laid w' := fun i hi =>
  (hb.cell (p := ⟨0, i, none⟩) (World.block_lt_of_cell? w _ (h i hi))).trans (h i hi)

theorem vars_len1 {H : Type} {enc : TypeId × Value → H} {P : Program} {w : World} {sp : Nat → Bool} {n : String} {gs : List (DataW H)} {ps : List MemPlace} (h : DataW.TrodVars enc P w sp [n] gs ps) : ∃ g, gs = [g] := by
  obtain ⟨g, t, cs, fuel, d, p, rfl, _⟩ := trodVars_one h
  exact ⟨d, rfl⟩

/-- The model's own list: the names from 1 on. -/
def listVals : List Value := wordVals.drop 1
theorem listVals_at (i : Nat) (h : i < 64) : listVals[i]? = some (.string (wordAt (i + 1))) := by
  unfold listVals
  rw [List.getElem?_drop, Nat.add_comm]
  exact wordVals_at (i + 1) (by omega)
set_option maxRecDepth 100000 in
theorem listVals_arr : listVals.toArray = #[Value.string { data := #[108, 117, 105] }, Value.string { data := #[97, 117, 105, 112, 99] }, Value.string { data := #[106, 97, 108] }, Value.string { data := #[106, 97, 108, 114] }, Value.string { data := #[98, 101, 113] }, Value.string { data := #[98, 110, 101] }, Value.string { data := #[98, 108, 116] }, Value.string { data := #[98, 103, 101] }, Value.string { data := #[98, 108, 116, 117] }, Value.string { data := #[98, 103, 101, 117] }, Value.string { data := #[108, 98] }, Value.string { data := #[108, 104] }, Value.string { data := #[108, 119] }, Value.string { data := #[108, 100] }, Value.string { data := #[108, 98, 117] }, Value.string { data := #[108, 104, 117] }, Value.string { data := #[108, 119, 117] }, Value.string { data := #[115, 98] }, Value.string { data := #[115, 104] }, Value.string { data := #[115, 119] }, Value.string { data := #[115, 100] }, Value.string { data := #[97, 100, 100, 105] }, Value.string { data := #[115, 108, 116, 105] }, Value.string { data := #[115, 108, 116, 105, 117] }, Value.string { data := #[120, 111, 114, 105] }, Value.string { data := #[111, 114, 105] }, Value.string { data := #[97, 110, 100, 105] }, Value.string { data := #[115, 108, 108, 105] }, Value.string { data := #[115, 114, 108, 105] }, Value.string { data := #[115, 114, 97, 105] }, Value.string { data := #[97, 100, 100] }, Value.string { data := #[115, 117, 98] }, Value.string { data := #[115, 108, 108] }, Value.string { data := #[115, 108, 116] }, Value.string { data := #[115, 108, 116, 117] }, Value.string { data := #[120, 111, 114] }, Value.string { data := #[115, 114, 108] }, Value.string { data := #[115, 114, 97] }, Value.string { data := #[111, 114] }, Value.string { data := #[97, 110, 100] }, Value.string { data := #[97, 100, 100, 105, 119] }, Value.string { data := #[115, 108, 108, 105, 119] }, Value.string { data := #[115, 114, 108, 105, 119] }, Value.string { data := #[115, 114, 97, 105, 119] }, Value.string { data := #[97, 100, 100, 119] }, Value.string { data := #[115, 117, 98, 119] }, Value.string { data := #[115, 108, 108, 119] }, Value.string { data := #[115, 114, 108, 119] }, Value.string { data := #[115, 114, 97, 119] }, Value.string { data := #[109, 117, 108] }, Value.string { data := #[109, 117, 108, 104] }, Value.string { data := #[109, 117, 108, 104, 115, 117] }, Value.string { data := #[109, 117, 108, 104, 117] }, Value.string { data := #[100, 105, 118] }, Value.string { data := #[100, 105, 118, 117] }, Value.string { data := #[114, 101, 109] }, Value.string { data := #[114, 101, 109, 117] }, Value.string { data := #[109, 117, 108, 119] }, Value.string { data := #[100, 105, 118, 119] }, Value.string { data := #[100, 105, 118, 117, 119] }, Value.string { data := #[114, 101, 109, 119] }, Value.string { data := #[114, 101, 109, 117, 119] }, Value.string { data := #[101, 99, 97, 108, 108] }, Value.string { data := #[101, 98, 114, 101, 97, 107] }] := rfl
theorem cell_list (w : World) (i : Nat) (h : i < 64) : (w.alloc (.cells listVals.toArray 9)).cell? ⟨w.heap.size, i, none⟩ = some (.string (wordAt (i + 1))) := by
  rw [cell_of_row _ w.heap.size i listVals.toArray 9 (0, 0) (heap_alloc_new w _)]
  rw [List.getElem?_toArray]
  exact listVals_at i h

/-- The name of an operation. -/
def wordT (c : Int) : ByteArray := if 1 ≤ c ∧ c < 65 then wordAt c.toNat else { data := #[] }
theorem wordT_in (i : Nat) (h0 : 1 ≤ i) (h : i < 65) : wordT (i : Int) = wordAt i := by
  unfold wordT
  rw [if_pos (by omega), Int.toNat_natCast]
theorem wordT_out (c : Int) (h : ¬ (1 ≤ c ∧ c < 65)) : wordT c = { data := #[] } := by
  unfold wordT
  rw [if_neg h]
end Go.Proofs.YtdbngfeelfgbeaaDoor.Op
