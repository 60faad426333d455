/- Digits of numbers, in the model: the contract. -/
import Derived.Test.YtjpdjalhhokghaaDoorChecked
import Derived.WalkKit
import Derived.WalkSpells
import Derived.LoopTactic
import Derived.Deep.RegionHeld3
import Derived.Laws.IdiomStrings
import Derived.Deep.AppendLies
import Derived.Lib.ItoaNum
import Derived.Lib.ItoaLen
import Derived.Lib.ItoaMem
namespace Go.Proofs.YtjpdjalhhokghaaDoor.Tx
open Go.RowKit
set_option linter.unusedVariables false

theorem add_any (a b : ByteArray) (h : a.size + b.size ≤ 1000000) : ∀ w : World, (Op.stringOp .add a b).run Tryd.prog w = .ok (.string (a ++ b)) w :=
  fun w => run_string_add_sum w a b (by omega)
theorem conv_one (w : World) (x : UInt8) : (convert 22 9 (.slice (some ⟨w.heap.size, 0, none⟩) 1 1)).run Tryd.prog (w.alloc (.cells #[.int .u8 (x.toNat : Int)] 5)) = .ok (.string ⟨#[x]⟩) (w.alloc (.cells #[.int .u8 (x.toNat : Int)] 5)) :=
  run_convert_bytes_back (w.alloc (.cells #[.int .u8 (x.toNat : Int)] 5)) 22 9 5 ⟨w.heap.size, 0, none⟩ 1 [x] Tryd.underlying22 Tryd.underlying5 Tryd.underlying9 (fun j hj => by
    obtain rfl : j = 0 := by simp at hj; omega
    exact World.news_of_block (cs := #[.int .u8 (x.toNat : Int)]) (t := 5) (fr := (0, 0)) (heap_alloc_new w _) 0 _ rfl)
theorem conv_one_drew (w : World) (x : UInt8) : (convert 22 9 (.slice (some ⟨w.heap.size, 0, none⟩) 1 1)).run Tryd.prog (w.alloc (.cells #[.int .u8 (x.toNat : Int)] 5)).drew = .ok (.string ⟨#[x]⟩) (w.alloc (.cells #[.int .u8 (x.toNat : Int)] 5)).drew :=
  run_convert_bytes_back (w.alloc (.cells #[.int .u8 (x.toNat : Int)] 5)).drew 22 9 5 ⟨w.heap.size, 0, none⟩ 1 [x] Tryd.underlying22 Tryd.underlying5 Tryd.underlying9 (fun j hj => by
    obtain rfl : j = 0 := by simp at hj; omega
    exact World.news_of_block (cs := #[.int .u8 (x.toNat : Int)]) (t := 5) (fr := (0, 0)) (heap_alloc_new w _) 0 _ rfl)

theorem conv_at (b : Nat) (x : UInt8) (W : World) (h : W.cell? ⟨b, 0, none⟩ = some (.int .u8 (x.toNat : Int))) : (convert 22 9 (.slice (some ⟨b, 0, none⟩) 1 1)).run Tryd.prog W = .ok (.string ⟨#[x]⟩) W :=
  run_convert_bytes_back W 22 9 5 ⟨b, 0, none⟩ 1 [x] Tryd.underlying22 Tryd.underlying5 Tryd.underlying9 (fun j hj => by
    obtain rfl : j = 0 := by simp at hj; omega
    exact h)

def txt (l : List UInt8) : ByteArray := ⟨l.toArray⟩
theorem txt_append (a b : List UInt8) : txt a ++ txt b = txt (a ++ b) := by
  unfold txt
  apply ByteArray.ext
  simp
theorem txt_size (a : List UInt8) : (txt a).size = a.length := by
  unfold txt
  simp [ByteArray.size]
theorem dec_len (u : Nat) (h : u ≤ 9223372036854775808) : (Lib.decDigits u).length ≤ 21 := by
  have := Lib.itoa_length_le (-(u : Int)) (by omega) (by omega)
  unfold Lib.itoa at this
  split at this
  · simp at this
    omega
  · obtain rfl : u = 0 := by omega
    rw [Lib.decDigits]
    simp
def dig (u : Nat) : UInt8 := UInt8.ofNat (48 + u % 10)
theorem dig_nat (u : Nat) : ((dig u).toNat : Int) = 48 + u % 10 := by
  unfold dig
  rw [UInt8.toNat_ofNat_of_lt' (by unfold UInt8.size; omega)]
  omega

theorem wrap_dig (u : Nat) : IntKind.u8.wrap ((dig u).toNat : Int) = ((dig u).toNat : Int) := by
  rw [dig_nat]
  unfold IntKind.wrap
  simp [IntKind.bits, IntKind.signed]
  omega

set_option maxRecDepth 100000 in
theorem digits_small (u : Nat) (h : u < 10) (w : World) :
    Calls Tryd.prog 109 #[.int .i64 u] w fun e w' => e = .returned (.string (txt (Lib.decDigits u))) ∧ Below w.heap.size w w' := by
  have hv : (u : Int) + 48 = ((dig u).toNat : Int) := by rw [dig_nat]; omega
  have hv' : 48 + (u : Int) = ((dig u).toNat : Int) := by rw [dig_nat]; omega
  have hw : IntKind.u8.wrap ((dig u).toNat : Int) = ((dig u).toNat : Int) := wrap_dig u
  have hd : Lib.decDigits u = [dig u] := by
    rw [Lib.decDigits, dif_pos h]
    unfold dig
    rw [Nat.mod_eq_of_lt h]
  have hc := conv_one
  go_enter Tryd.func109, Tryd.ntmps109
  go_wp2
  go_ret
  refine ⟨by rw [hd]; rfl, ?_⟩
  exact (Below.refl _ _).alloc (Nat.le_refl _) _

theorem wrap_i64 (x : Int) (h0 : -9223372036854775808 ≤ x) (h1 : x ≤ 9223372036854775807) : IntKind.i64.wrap x = x := by
  unfold IntKind.wrap
  simp [IntKind.bits, IntKind.signed]
  omega

theorem bdrew {w wa : World} (h : Below w.drew.heap.size w.drew wa) : Below w.heap.size w wa := (Below.refl _ w).drew.trans h

set_option maxRecDepth 100000 in
set_option maxHeartbeats 2000000 in
theorem digits_step (u q r : Nat) (x : UInt8) (A T : ByteArray) (hq : (u : Int) / 10 = (q : Int)) (hqw : IntKind.i64.wrap (q : Int) = (q : Int)) (hr : (u : Int) % 10 = (r : Int)) (hrt : (u : Int).tmod 10 = (r : Int)) (hqt : (u : Int).tdiv 10 = (q : Int)) (hv : 48 + (r : Int) = (x.toNat : Int))
    (hx : IntKind.i64.wrap (x.toNat : Int) = (x.toNat : Int)) (hw : IntKind.u8.wrap (x.toNat : Int) = (x.toNat : Int)) (hm : ((u : Int) == -9223372036854775808) = false) (h0 : ¬ (u : Int) < 0) (h10 : ¬ (u : Int) < 10)
    (hadd : ∀ w : World, (Op.stringOp .add A ⟨#[x]⟩).run Tryd.prog w = .ok (.string T) w) (w : World)
    (ih : Hid (∀ w, Calls Tryd.prog 109 #[.int .i64 q] w fun e w' => e = .returned (.string A) ∧ Below w.heap.size w w')) :
    Calls Tryd.prog 109 #[.int .i64 u] w fun e w' => e = .returned (.string T) ∧ Below w.heap.size w w' := by
  have hc := conv_one
  have hcd := conv_one_drew
  have ihA : Hid (∀ w0 : World, Calls Tryd.prog 109 #[.int .i64 q] (w0.alloc (.cells #[.int .u8 (x.toNat : Int)] 5)).drew fun e w' => e = .returned (.string A) ∧ Below w0.heap.size w0 w' ∧ (convert 22 9 (.slice (some ⟨w0.heap.size, 0, none⟩) 1 1)).run Tryd.prog w' = .ok (.string ⟨#[x]⟩) w') := fun w0 =>
    (ih.out _).mono fun e w' ⟨he, hb⟩ => ⟨he, (((Below.refl _ _).alloc (Nat.le_refl _) _).drew).trans (hb.mono (by simp)), conv_at w0.heap.size x w' ((hb.cell (p := ⟨w0.heap.size, 0, none⟩) (by simp)).trans (by simp))⟩
  go_enter Tryd.func109, Tryd.ntmps109
  go_wp2
  go_region_with (first | (go_at_call 109; refine (ihA.out _).mono ?_; rintro e wa ⟨rfl, hba, hcx0⟩; have hcx : (convert 22 9 (.slice (some ⟨w.heap.size, 0, none⟩) 1 1)).run Tryd.prog wa = .ok (.string ⟨#[x]⟩) wa := hcx0) | (go_at_call 109; refine (ih.out _).mono ?_; rintro e wa ⟨rfl, hba⟩))
  all_goals
    go_wp2
    go_ret
    refine ⟨rfl, ?_⟩
    first
      | exact hba
      | exact (bdrew hba)
      | exact (bdrew hba).alloc (bdrew hba).size _
      | exact hba.alloc hba.size _
      | exact (hba.alloc hba.size _).drew
      | exact hba.drew

theorem digits_nat (n : Nat) : ∀ u : Nat, u ≤ n → u ≤ 9223372036854775807 → ∀ w, Calls Tryd.prog 109 #[.int .i64 u] w fun e w' => e = .returned (.string (txt (Lib.decDigits u))) ∧ Below w.heap.size w w' := by
  induction n with
  | zero => exact fun u h0 _ w => digits_small u (by omega) w
  | succ n ih =>
    intro u h0 h1 w
    by_cases h : u < 10
    · exact digits_small u h w
    · have hd : txt (Lib.decDigits (u / 10)) ++ ⟨#[dig u]⟩ = txt (Lib.decDigits u) := by
        rw [Lib.decDigits.eq_1 u, dif_neg h]
        exact txt_append _ [dig u]
      have hl := dec_len (u / 10) (by omega)
      have hx := dig_nat u
      exact digits_step u (u / 10) (u % 10) (dig u) (txt (Lib.decDigits (u / 10))) (txt (Lib.decDigits u)) (by omega) (wrap_i64 _ (by omega) (by omega)) (by omega) (by rw [Int.tmod_eq_emod_of_nonneg (by omega)]; omega) (by rw [Int.tdiv_eq_ediv_of_nonneg (by omega)]; omega) (by omega)
        (wrap_i64 _ (by omega) (by omega)) (wrap_dig u) (by simp <;> omega) (by omega) (by omega) (by rw [← hd]; exact add_any _ _ (by rw [txt_size]; show _ + 1 ≤ 1000000; omega)) w (ih (u / 10) (by omega) (by omega))

set_option maxRecDepth 100000 in
theorem digitsC (n : Int) (h0 : -9223372036854775808 ≤ n) (h1 : n ≤ 9223372036854775807) (w : World) :
    Calls Tryd.prog 109 #[.int .i64 n] w fun e w' => e = .returned (.string (txt (Lib.itoa n))) ∧ Below w.heap.size w w' := by
  by_cases hm : n = -9223372036854775808
  · subst hm
    go_enter Tryd.func109, Tryd.ntmps109
    go_wp2
    go_ret
    exact ⟨by kernel_rfl, Below.refl _ _⟩
  by_cases hn : n < 0
  · obtain ⟨u, rfl⟩ : ∃ u : Nat, n = -(u : Int) := ⟨n.natAbs, by omega⟩
    have hmm : ((-(u : Int)) == -9223372036854775808) = false := by simp; omega
    have hneg : wrap64 (- -(u : Int)) = (u : Int) := by unfold wrap64; omega
    have hneg' : wrap64 (u : Int) = (u : Int) := by unfold wrap64; omega
    have hl := dec_len u (by omega)
    have hadd := add_any { data := #[45] } (txt (Lib.decDigits u)) (by rw [txt_size]; show 1 + _ ≤ 1000000; omega)
    have hT : ({ data := #[45] } : ByteArray) ++ txt (Lib.decDigits u) = txt (Lib.itoa (-(u : Int))) := by
      rw [Lib.itoa_neg u (by omega)]
      exact txt_append [45] _
    rw [hT] at hadd
    go_enter Tryd.func109, Tryd.ntmps109
    go_wp2_with fail
    refine (digits_nat u u (Nat.le_refl _) (by omega) _).mono ?_
    rintro e w1 ⟨rfl, hb⟩
    go_wp2
    go_ret
    exact ⟨rfl, hb⟩
  · obtain ⟨u, rfl⟩ : ∃ u : Nat, n = (u : Int) := ⟨n.toNat, by omega⟩
    rw [Lib.itoa_nonneg]
    exact digits_nat u u (Nat.le_refl _) (by omega) w
end Go.Proofs.YtjpdjalhhokghaaDoor.Tx
