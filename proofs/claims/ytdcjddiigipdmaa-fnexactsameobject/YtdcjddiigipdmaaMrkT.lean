/- Marks: a number's text. -/
import Derived.Test.YtdcjddiigipdmaaRecB
import Derived.Laws.IdiomStrings
import Derived.Deep.AppendLies
namespace Go.Proofs.Ytdcjddiigipdmaa
open Go Go.RowKit
set_option linter.unusedVariables false

theorem convOneM (w : World) (x : UInt8) : (convert 70 9 (.slice (some ⟨w.heap.size, 0, none⟩) 1 1)).run Try.prog (w.alloc (.cells #[.int .u8 (x.toNat : Int)] 5)) = .ok (.string ⟨#[x]⟩) (w.alloc (.cells #[.int .u8 (x.toNat : Int)] 5)) :=
  run_convert_bytes_back (w.alloc (.cells #[.int .u8 (x.toNat : Int)] 5)) 70 9 5 ⟨w.heap.size, 0, none⟩ 1 [x] Try.underlying70 Try.underlying5 Try.underlying9 (fun j hj => by
    obtain rfl : j = 0 := by simp at hj; omega
    exact World.news_of_block (cs := #[.int .u8 (x.toNat : Int)]) (t := 5) (fr := (0, 0)) (heap_alloc_new w _) 0 _ rfl)
def mdig (u : Nat) : UInt8 := UInt8.ofNat (48 + u % 10)
theorem mdig_nat (u : Nat) : ((mdig u).toNat : Int) = 48 + u % 10 := by
  unfold mdig
  rw [UInt8.toNat_ofNat_of_lt' (by unfold UInt8.size; omega)]
  omega
theorem mwrap8 (u : Nat) : IntKind.u8.wrap ((mdig u).toNat : Int) = ((mdig u).toNat : Int) := by
  rw [mdig_nat]
  unfold IntKind.wrap
  simp [IntKind.bits, IntKind.signed]
  omega
theorem mwrap64 (x : Int) (h0 : -9223372036854775808 ≤ x) (h1 : x ≤ 9223372036854775807) : IntKind.i64.wrap x = x := by
  unfold IntKind.wrap
  simp [IntKind.bits, IntKind.signed]
  omega
/-- The digits of k ahead of a; f rounds at most. -/
def mtGo : Nat → Nat → ByteArray → ByteArray
  | 0, _, a => a
  | f + 1, k, a => if k = 0 then a else mtGo f (k / 10) (⟨#[mdig k]⟩ ++ a)
theorem mtGo_zero (f : Nat) (a : ByteArray) : mtGo f 0 a = a := by cases f <;> simp [mtGo]
theorem mtGo_succ (f k : Nat) (a : ByteArray) (h : 0 < k) : mtGo (f + 1) k a = mtGo f (k / 10) (⟨#[mdig k]⟩ ++ a) := by
  show (if k = 0 then a else _) = _
  rw [if_neg (by omega)]
def mtS (k : Nat) : ByteArray := ⟨#[109]⟩ ++ mtGo k k ⟨#[]⟩

set_option maxRecDepth 100000 in
set_option maxHeartbeats 2000000 in
theorem markTextC (k : Nat) (w : World) (hk : 0 < k) (hK : k ≤ 90000000) :
    Calls Try.prog 63 #[.int .i64 k] w fun e w' => e = .returned (.string (mtS k)) ∧ Below w.heap.size w w' := by
  have hk0 : ¬ (k : Int) ≤ 0 := by omega
  go_enter Try.func63, Try.ntmps63
  go_wp2
  go_loopw [0, 3] (fun m o wr => ∃ (j f : Nat) (a : ByteArray), m = .int .i64 j ∧ o = .string a ∧ j ≤ f ∧ f ≤ k ∧ a.size + f ≤ k ∧ mtGo f j a = mtGo k k ⟨#[]⟩ ∧ Below w.heap.size w wr) (fun m _ _ => (intOf m).toNat)
  case atStart => exact ⟨k, k, _, rfl, rfl, Nat.le_refl _, Nat.le_refl _, Nat.le_of_eq (Nat.zero_add k), rfl, Below.refl _ _⟩
  case round =>
    obtain ⟨j, f, a, rfl, rfl, hjf, hfk, has, hgo, hB⟩ := hrel
    by_cases hj : 0 < j
    · cases f with
      | zero => omega
      | succ f =>
        rw [mtGo_succ f j a hj] at hgo
        have hx := mdig_nat j
        have hw := mwrap8 j
        obtain ⟨x, ex⟩ : ∃ x, mdig j = x := ⟨_, rfl⟩
        obtain ⟨q, eq⟩ : ∃ q, j / 10 = q := ⟨_, rfl⟩
        obtain ⟨r, er⟩ : ∃ r, j % 10 = r := ⟨_, rfl⟩
        rw [ex, eq] at hgo
        rw [ex] at hx hw
        have hv : 48 + (r : Int) = (x.toNat : Int) := by omega
        have hqd : (j : Int) / 10 = (q : Int) := by omega
        have hrd : (j : Int) % 10 = (r : Int) := by omega
        have hrt : (j : Int).tmod 10 = (r : Int) := by rw [Int.tmod_eq_emod_of_nonneg (by omega)]; exact hrd
        have hqt : (j : Int).tdiv 10 = (q : Int) := by rw [Int.tdiv_eq_ediv_of_nonneg (by omega)]; exact hqd
        have hqw : IntKind.i64.wrap (q : Int) = (q : Int) := mwrap64 _ (by omega) (by omega)
        have hxw : IntKind.i64.wrap (x.toNat : Int) = (x.toNat : Int) := mwrap64 _ (by omega) (by omega)
        have hm : ((j : Int) == -9223372036854775808) = false := by simp <;> omega
        have hqj : q < j := by omega
        have hqf : q ≤ f := by omega
        have hc := convOneM
        have hadd : ∀ w : World, (Op.stringOp .add ⟨#[x]⟩ a).run Try.prog w = .ok (.string (⟨#[x]⟩ ++ a)) w := fun w => run_string_add_sum w _ _ (by show 1 + a.size ≤ _; omega)
        have hsz : ((⟨#[x]⟩ : ByteArray) ++ a).size = 1 + a.size := by rw [ByteArray.size_append]; rfl
        clear hx ex eq er
        go_wp2
        go_roundw
        case rel => exact ⟨q, f, ⟨#[x]⟩ ++ a, rfl, rfl, hqf, by omega, by omega, hgo, hB.alloc hB.size _⟩
        case measure => simp [intOf]; omega
    · obtain rfl : j = 0 := by omega
      rw [mtGo_zero] at hgo
      subst hgo
      have hadd : ∀ w : World, (Op.stringOp .add ⟨#[109]⟩ (mtGo k k ⟨#[]⟩)).run Try.prog w = .ok (.string (⟨#[109]⟩ ++ mtGo k k ⟨#[]⟩)) w := fun w => run_string_add_sum w _ _ (by show 1 + _ ≤ _; omega)
      go_wp2
      go_ret
      exact ⟨rfl, hB⟩

end Go.Proofs.Ytdcjddiigipdmaa
