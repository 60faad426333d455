/- Numbers into bytes: contracts, beside the errors. Contracts of both PutLittle. Numbers out of bytes: plain. Numbers out of bytes: contracts. Contracts of the model's SignOf. Contracts of both TakeLittle. The iterator over a run's instructions: it hands over each word's instruction and code. -/
import Derived.Test.YtelogjpjglohoaaGreatDoorGXTabBase9
import Derived.Test.YtelogjpjglohoaaGreatDoorGXTabBase36
import Derived.Test.YtelogjpjglohoaaGreatDoorGXTabBase12
import Derived.Laws.BitsAllLaws
import Derived.Test.YtelogjpjglohoaaGreatDoorGXTabBase24
import Derived.Test.YtelogjpjglohoaaGreatDoorGXTabBase14
import Derived.Test.YtelogjpjglohoaaGreatDoorGXTabBase21
namespace Go.Proofs.YtelogjpjglohoaaGreatDoor
end Go.Proofs.YtelogjpjglohoaaGreatDoor

namespace Go.Proofs.YtelogjpjglohoaaGreatDoor
open Go.RowKit
set_option linter.unusedVariables false

def widthOK (n : Int) : Prop := n = 1 ∨ n = 2 ∨ n = 4 ∨ n = 8
theorem ret_two {a b : List UInt8} {x y : Int} (h : a = b) (k : x = y) : Ending.returned (.tuple #[.string ⟨a.toArray⟩, .int .i64 x]) = .returned (.tuple #[.string ⟨b.toArray⟩, .int .i64 y]) := by rw [h, k]

end Go.Proofs.YtelogjpjglohoaaGreatDoor

namespace Go.Proofs.YtelogjpjglohoaaGreatDoor

/-- The number that the bytes f 0, f 1 .. are, the lowest one first. -/
def valF (f : Nat → UInt8) : Nat → Nat
  | 0 => 0
  | n + 1 => valF f n + (f n).toNat * 256 ^ n

theorem valF_lt (f : Nat → UInt8) (n : Nat) : valF f n < 256 ^ n := by
  induction n with
  | zero => simp [valF]
  | succ n ih =>
    have hf := (f n).toNat_lt
    have : (f n).toNat * 256 ^ n ≤ 255 * 256 ^ n := Nat.mul_le_mul_right _ (by omega)
    rw [valF, Nat.pow_succ]
    omega

theorem valF_congr (f g : Nat → UInt8) : ∀ n, (∀ i, i < n → f i = g i) → valF f n = valF g n
  | 0, _ => rfl
  | n + 1, h => by rw [valF, valF, valF_congr f g n (fun i hi => h i (by omega)), h n (by omega)]

theorem valF_horner (f : Nat → UInt8) (n k o : Nat) (h : valF f n = valF f (k + 1) + 256 ^ (k + 1) * o) : valF f n = valF f k + 256 ^ k * (256 * o + (f k).toNat) := by
  rw [h, valF, Nat.pow_succ, Nat.mul_add, Nat.mul_comm (f k).toNat, Nat.mul_assoc]
  omega

theorem horner_bd (f : Nat → UInt8) (n k o : Nat) (hn : n ≤ 8) (h : valF f n = valF f (k + 1) + 256 ^ (k + 1) * o) : o ≤ 72057594037927935 := by
  have h1 := valF_lt f n
  have h2 : 256 ^ n ≤ 256 ^ 8 := Nat.pow_le_pow_right (by decide) hn
  have h3 : 256 ^ 1 ≤ 256 ^ (k + 1) := Nat.pow_le_pow_right (by decide) (by omega)
  have h4 : 256 * o ≤ 256 ^ (k + 1) * o := Nat.mul_le_mul_right _ (by simpa using h3)
  have h5 : (256 : Nat) ^ 8 = 18446744073709551616 := by decide
  omega

theorem or_up (v c k : Nat) (h : v < 2 ^ k) : v ||| c * 2 ^ k = v + c * 2 ^ k := by
  rw [Nat.or_comm, ← Nat.shiftLeft_eq, ← Nat.shiftLeft_add_eq_or_of_lt h]
  omega
theorem pow_256 (k : Nat) : (256 : Nat) ^ k = 2 ^ (8 * k) := by
  rw [Nat.pow_mul]

theorem or_u8 (v c k : Nat) (hk : k < 1) (hv : v < 256 ^ k) (hc : c < 256) : bits .or .u8 (v : Int) (IntKind.u8.wrap ((c : Int) * 2 ^ (8 * k))) = ((v + c * 256 ^ k : Nat) : Int) := by
  have h1 : 256 ^ k * 256 ≤ 256 ^ 1 := by rw [← Nat.pow_succ]; exact Nat.pow_le_pow_right (by decide) hk
  have h2 : c * 256 ^ k < 256 ^ k * 256 := by
    rw [Nat.mul_comm]
    exact Nat.mul_lt_mul_of_pos_left hc (Nat.pow_pos (by decide))
  have h5 : (256 : Nat) ^ 1 = 256 := by decide
  have e2 : (c : Int) * 2 ^ (8 * k) = ((c * 256 ^ k : Nat) : Int) := by
    rw [pow_256]
    simp
  have e3 : IntKind.u8.wrap ((c * 256 ^ k : Nat) : Int) = ((c * 256 ^ k : Nat) : Int) := by
    show ((c * 256 ^ k : Nat) : Int) % 256 = _
    omega
  rw [e2, e3, u8_or_nat _ _ (by omega) (by omega), pow_256, or_up v c (8 * k) (by rw [← pow_256]; exact hv)]

theorem or_u16 (v c k : Nat) (hk : k < 2) (hv : v < 256 ^ k) (hc : c < 256) : bits .or .u16 (v : Int) (IntKind.u16.wrap (IntKind.u16.wrap (c : Int) * 2 ^ (8 * k))) = ((v + c * 256 ^ k : Nat) : Int) := by
  have h1 : 256 ^ k * 256 ≤ 256 ^ 2 := by rw [← Nat.pow_succ]; exact Nat.pow_le_pow_right (by decide) hk
  have h2 : c * 256 ^ k < 256 ^ k * 256 := by
    rw [Nat.mul_comm]
    exact Nat.mul_lt_mul_of_pos_left hc (Nat.pow_pos (by decide))
  have h5 : (256 : Nat) ^ 2 = 65536 := by decide
  have e1 : IntKind.u16.wrap (c : Int) = (c : Int) := by
    show (c : Int) % 65536 = _
    omega
  have e2 : (c : Int) * 2 ^ (8 * k) = ((c * 256 ^ k : Nat) : Int) := by
    rw [pow_256]
    simp
  have e3 : IntKind.u16.wrap ((c * 256 ^ k : Nat) : Int) = ((c * 256 ^ k : Nat) : Int) := by
    show ((c * 256 ^ k : Nat) : Int) % 65536 = _
    omega
  rw [e1, e2, e3, u16_or_nat _ _ (by omega) (by omega), pow_256, or_up v c (8 * k) (by rw [← pow_256]; exact hv)]

theorem or_u32 (v c k : Nat) (hk : k < 4) (hv : v < 256 ^ k) (hc : c < 256) : bits .or .u32 (v : Int) (IntKind.u32.wrap (IntKind.u32.wrap (c : Int) * 2 ^ (8 * k))) = ((v + c * 256 ^ k : Nat) : Int) := by
  have h1 : 256 ^ k * 256 ≤ 256 ^ 4 := by rw [← Nat.pow_succ]; exact Nat.pow_le_pow_right (by decide) hk
  have h2 : c * 256 ^ k < 256 ^ k * 256 := by
    rw [Nat.mul_comm]
    exact Nat.mul_lt_mul_of_pos_left hc (Nat.pow_pos (by decide))
  have h5 : (256 : Nat) ^ 4 = 4294967296 := by decide
  have e1 : IntKind.u32.wrap (c : Int) = (c : Int) := by
    show (c : Int) % 4294967296 = _
    omega
  have e2 : (c : Int) * 2 ^ (8 * k) = ((c * 256 ^ k : Nat) : Int) := by
    rw [pow_256]
    simp
  have e3 : IntKind.u32.wrap ((c * 256 ^ k : Nat) : Int) = ((c * 256 ^ k : Nat) : Int) := by
    show ((c * 256 ^ k : Nat) : Int) % 4294967296 = _
    omega
  rw [e1, e2, e3, u32_or_nat _ _ (by omega) (by omega), pow_256, or_up v c (8 * k) (by rw [← pow_256]; exact hv)]

theorem or_u64 (v c k : Nat) (hk : k < 8) (hv : v < 256 ^ k) (hc : c < 256) : bits .or .u64 (v : Int) (IntKind.u64.wrap (IntKind.u64.wrap (c : Int) * 2 ^ (8 * k))) = ((v + c * 256 ^ k : Nat) : Int) := by
  have h1 : 256 ^ k * 256 ≤ 256 ^ 8 := by rw [← Nat.pow_succ]; exact Nat.pow_le_pow_right (by decide) hk
  have h2 : c * 256 ^ k < 256 ^ k * 256 := by
    rw [Nat.mul_comm]
    exact Nat.mul_lt_mul_of_pos_left hc (Nat.pow_pos (by decide))
  have h5 : (256 : Nat) ^ 8 = 18446744073709551616 := by decide
  have e1 : IntKind.u64.wrap (c : Int) = (c : Int) := by
    show (c : Int) % 18446744073709551616 = _
    omega
  have e2 : (c : Int) * 2 ^ (8 * k) = ((c * 256 ^ k : Nat) : Int) := by
    rw [pow_256]
    simp
  have e3 : IntKind.u64.wrap ((c * 256 ^ k : Nat) : Int) = ((c * 256 ^ k : Nat) : Int) := by
    show ((c * 256 ^ k : Nat) : Int) % 18446744073709551616 = _
    omega
  rw [e1, e2, e3, u64_or_nat _ _ (by omega) (by omega), pow_256, or_up v c (8 * k) (by rw [← pow_256]; exact hv)]
end Go.Proofs.YtelogjpjglohoaaGreatDoor

namespace Go.Proofs.YtelogjpjglohoaaGreatDoor
open Go.RowKit
set_option linter.unusedVariables false

/-- The byte at a place of a text. -/
def bt (s : ByteArray) (i : Nat) : UInt8 := s.data.toList.getD i 0
theorem bt_eq (s : ByteArray) (i : Nat) (h : i < s.size) : s[i] = bt s i := by
  have hl : s.data.toList.length = s.size := by rw [Array.length_toList]; rfl
  show s.data[i] = _
  unfold bt
  simp [List.getD, h]

set_option maxRecDepth 100000 in
set_option maxHeartbeats 1000000 in
theorem gather_u32 (s : ByteArray) (w : World) (hs : s.size ≤ 4) :
    Calls Tryz.prog 122 #[.string s] w fun e w' => e = .returned (.int .u32 (valF (bt s) s.size : Nat)) ∧ w' = w := by
  go_enter Tryz.func122, Tryz.ntmps122
  go_wp2
  go_loop [3, 7] (fun x t => ∃ k v : Nat, k ≤ s.size ∧ t = .int .i64 k ∧ x = .int .u32 v ∧ Hid (v = valF (bt s) k)) (fun _ t => s.size - (intOf t).toNat)
  case atStart => exact ⟨0, 0, Nat.zero_le _, rfl, rfl, rfl⟩
  case round =>
    obtain ⟨k, v, hk, rfl, rfl, hv⟩ := hrel
    by_cases hlt : k < s.size
    · have hor := or_u32 v s[k].toNat k (by omega) (by rw [hv.out]; exact valF_lt _ _) s[k].toNat_lt
      obtain ⟨u, hu⟩ : ∃ u, u = v + s[k].toNat * 256 ^ k := ⟨_, rfl⟩
      rw [← hu] at hor
      have hor2 : bits .or .u32 (v : Int) (((s[k].toNat : Nat) : Int) % 4294967296 * 2 ^ (8 * k) % 4294967296) = (u : Int) := hor
      have HU : Hid (u = valF (bt s) (k + 1)) := by
        show u = _
        rw [hu, hv.out, valF, bt_eq s k hlt]
      clear hu
      go_wp2
      go_round
      case rel => exact ⟨k + 1, u, by omega, by go_num, rfl, HU⟩
      case measure => simp [intOf]; omega
    · obtain rfl : k = s.size := by omega
      go_wp2
      go_ret
      exact ⟨congrArg (fun x : Nat => Ending.returned (.int .u32 (x : Int))) hv.out, rfl⟩

end Go.Proofs.YtelogjpjglohoaaGreatDoor

namespace Go.Proofs.YtelogjpjglohoaaGreatDoor
open Go.RowKit
set_option linter.unusedVariables false

theorem specIn (x low high : Int) (w : World) (b : Bool) (h : (b = true ∧ low ≤ x ∧ x ≤ high) ∨ (b = false ∧ (x < low ∨ high < x))) :
    Calls Tryz.prog 79 #[.int .i64 x, .int .i64 low, .int .i64 high] w fun e w' => e = .returned (.bool b) ∧ w' = w := by
  rcases h with ⟨rfl, h0, h1⟩ | ⟨rfl, h⟩
  · go_enter Tryz.func79, Tryz.ntmps79
    go_wp2
    go_ret
    refine ⟨congrArg (fun x => Ending.returned (.bool x)) ?_, rfl⟩
    first | rfl | (simp; done) | (simp; omega)
  · by_cases h0 : x < low
    · go_enter Tryz.func79, Tryz.ntmps79
      go_wp2
      go_ret
      refine ⟨congrArg (fun x => Ending.returned (.bool x)) ?_, rfl⟩
      first | rfl | (simp; done) | (simp; omega)
    · have h1 : high < x := by omega
      clear h
      go_enter Tryz.func79, Tryz.ntmps79
      go_wp2
      go_ret
      refine ⟨congrArg (fun x => Ending.returned (.bool x)) ?_, rfl⟩
      first | rfl | (simp; done) | (simp; omega)

end Go.Proofs.YtelogjpjglohoaaGreatDoor

namespace Go.Proofs.YtelogjpjglohoaaGreatDoor
open Go.RowKit
set_option linter.unusedVariables false

theorem cut_size (t : ByteArray) (a n : Nat) (h : a + n ≤ t.size) : (t.extract a (a + n)).size = n := by
  rw [ByteArray.size_extract]; omega
theorem cut_bt (t : ByteArray) (a n i : Nat) (h : a + n ≤ t.size) (hi : i < n) : bt (t.extract a (a + n)) i = bt t (a + i) := by
  rw [← bt_eq (t.extract a (a + n)) i (by rw [cut_size t a n h]; exact hi), ← bt_eq t (a + i) (by omega)]
  exact ByteArray.getElem_extract _
theorem cut_val (t : ByteArray) (a n : Nat) (h : a + n ≤ t.size) : valF (bt (t.extract a (a + n))) (t.extract a (a + n)).size = valF (fun i => bt t (a + i)) n := by
  rw [cut_size t a n h]
  exact valF_congr _ _ n (fun i hi => cut_bt t a n i h hi)

/-- The number that both answer. -/
def takeV (t : ByteArray) (a n : Nat) : Int := IntKind.i64.wrap (valF (fun i => bt t (a + i)) n : Nat)

theorem takeV_small (t : ByteArray) (a n : Nat) (h : n ≤ 4) : takeV t a n = (valF (fun i => bt t (a + i)) n : Nat) := by
  have h1 := valF_lt (fun i => bt t (a + i)) n
  have h2 : 256 ^ n ≤ 256 ^ 4 := Nat.pow_le_pow_right (by decide) h
  have h3 : (256 : Nat) ^ 4 = 4294967296 := by decide
  unfold takeV
  rw [IntKind.wrap_i64]
  omega

set_option maxRecDepth 100000 in
set_option maxHeartbeats 1000000 in
theorem specTake0 (t : ByteArray) (a n : Nat) (w : World) (ht : t.size ≤ 65536) (hn : n ≤ 8) (h : a + n ≤ t.size) :
    Calls Tryz.prog 96 #[.string t, .int .i64 a, .int .i64 n] w fun e w' => e = .returned (.int .i64 (takeV t a n)) ∧ w' = w := by
  go_enter Tryz.func96, Tryz.ntmps96
  go_wp2
  go_loop [7, 8] (fun x i => ∃ k o : Nat, k ≤ n ∧ i = .int .i64 ((k : Int) - 1) ∧ x = .int .u64 (o : Int) ∧ Hid (valF (fun i => bt t (a + i)) n = valF (fun i => bt t (a + i)) k + 256 ^ k * o)) (fun _ i => (intOf i + 1).toNat)
  case atStart => exact ⟨n, 0, Nat.le_refl _, rfl, rfl, by show _ = _; omega⟩
  case round =>
    obtain ⟨k, o, hk, rfl, rfl, ho⟩ := hrel
    by_cases hlt : 1 ≤ k
    · obtain ⟨j, rfl⟩ : ∃ j, k = j + 1 := ⟨k - 1, by omega⟩
      have hol := horner_bd _ n j o hn ho.out
      have HST : Hid (valF (fun i => bt t (a + i)) n = valF (fun i => bt t (a + i)) j + 256 ^ j * (256 * o + (bt t (a + j)).toNat)) := valF_horner _ n j o ho.out
      clear ho
      have ej : ((j + 1 : Nat) : Int) - 1 = (j : Int) := by omega
      have hlt2 : a + j < t.size := by omega
      rw [← bt_eq t (a + j) hlt2] at HST
      have hbyte := t[a + j].toNat_lt
      go_wp2
      go_round
      case rel => exact ⟨j, 256 * o + t[a + j].toNat, by omega, rfl, by go_num, HST⟩
      case measure => simp [intOf]
    · obtain rfl : k = 0 := by omega
      have hz : IntKind.i64.wrap (o : Int) = takeV t a n := by
        unfold takeV
        rw [ho.out]
        simp [valF]
      clear ho
      go_wp2
      go_ret
      exact ⟨rfl, rfl⟩

end Go.Proofs.YtelogjpjglohoaaGreatDoor

namespace Go.Proofs.YtelogjpjglohoaaGreatDoor
open Go Go.RowKit
set_option linter.unusedVariables false
attribute [local go_sem] Oper.semAt_some

/-- The k-th word of a run. -/
def wrd (s : ByteArray) (k : Nat) : Nat := valF (fun i => bt s (4 * k + i)) 4
theorem wrd_lt (s : ByteArray) (k : Nat) : wrd s k < 4294967296 := valF_lt _ 4
/-- What is left of a run behind k words. -/
structure Tail (s : ByteArray) (k : Nat) (t : ByteArray) : Prop where
  size : t.size + 4 * k = s.size
  byte : ∀ i, i < t.size → bt t i = bt s (4 * k + i)
theorem Tail.start (s : ByteArray) : Tail s 0 s := ⟨rfl, fun i _ => by rw [Nat.mul_zero, Nat.zero_add]⟩
theorem Tail.head {s t : ByteArray} {k : Nat} (h : Tail s k t) (h4 : 4 ≤ t.size) : valF (bt (t.extract 0 4)) (t.extract 0 4).size = wrd s k := by
  have h1 := cut_val t 0 4 (by omega)
  rw [Nat.zero_add] at h1
  rw [h1]
  exact valF_congr _ _ 4 (fun i hi => by rw [Nat.zero_add]; exact h.byte i (by omega))
theorem Tail.next {s t : ByteArray} {k : Nat} (h : Tail s k t) (h4 : 4 ≤ t.size) : Tail s (k + 1) (t.extract 4 t.size) := by
  obtain ⟨m, hm⟩ : ∃ m, t.size = 4 + m := ⟨t.size - 4, by omega⟩
  have hs : (t.extract 4 t.size).size = m := by rw [ByteArray.size_extract]; omega
  refine ⟨by rw [hs]; have := h.size; omega, fun i hi => ?_⟩
  rw [hs] at hi
  have h1 := cut_bt t 4 m i (by omega) hi
  rw [← hm] at h1
  rw [h1, h.byte (4 + i) (by omega)]
  congr 1; omega

def leftOf (Bc : Nat) (W : World) : Nat := match W.cell? ⟨Bc, 0, none⟩ with
  | some (.string t) => t.size
  | _ => 0
theorem leftOf_eq {W : World} {Bc ty : Nat} {t : ByteArray} (h : Boxed W Bc ty (.string t)) : leftOf Bc W = t.size := by
  unfold leftOf
  rw [h.cell]

/-- What a word is: an instruction and its code. -/
def DecIs (v : Nat) (R : Nat → Int) (k : Nat) (co : Int) : Prop := ∀ w, Laid w → Calls Tryz.prog 121 #[.int .i64 v] w fun e w' => e = .returned (.tuple #[.agg #[.int .i64 (R (k * 5)), .int .i64 (R (k * 5 + 1)), .int .i64 (R (k * 5 + 2)), .int .i64 (R (k * 5 + 3)), .int .i64 (R (k * 5 + 4))], .int .i64 co]) ∧ Below w.heap.size w w'

set_option maxRecDepth 100000 in
set_option maxHeartbeats 2000000 in
theorem insSeq (s : ByteArray) (N : Nat) (hs : s.size = 4 * N) (hN : N ≤ 16384) (R : Nat → Int) (co : Nat → Int) (hd : ∀ k, k < N → Hid (DecIs (wrd s k) R k (co k))) (n n₀ Bc : Nat) (w : World) (hl : Laid w) (hw0 : n₀ ≤ w.heap.size) (hL : ∀ W, Below n₀ w W → Laid W) (hB : Bc < w.heap.size) (hn : n₀ ≤ Bc)
    (hc : Boxed w Bc 9 (.string s)) :
    CellSeq Fence.wide n Tryz.prog 120 #[.pointer (some ⟨Bc, 0, none⟩)] (fun k => #[.agg #[.int .i64 (R (k * 5)), .int .i64 (R (k * 5 + 1)), .int .i64 (R (k * 5 + 2)), .int .i64 (R (k * 5 + 3)), .int .i64 (R (k * 5 + 4))], .int .i64 (co k)]) n₀ Bc N w := by
  intro l J Jx W hJ hY hK h0
  refine callsIn_of_wp Tryz.func120 rfl trivial ?_ rfl
  simp only [Tryz.ntmps120, List.size_toArray, List.length_cons, List.length_nil, Nat.reduceAdd, Nat.reduceSub, Array.replicate_succ, Array.replicate_zero, List.push_toArray, List.append_toArray, List.nil_append, List.cons_append]
  gi_wp2
  gi_loopw [3] (fun _ wr => ∃ (k : Nat) (t : ByteArray), k ≤ N ∧ Tail s k t ∧ J k wr ∧ Below n₀ w wr ∧ Boxed wr Bc 9 (.string t)) (fun _ wr => leftOf Bc wr)
  case atStart => exact ⟨0, s, Nat.zero_le _, Tail.start s, h0, hK.1, hK.2.trans hc⟩
  case round =>
    obtain ⟨k, t, hk, ht, hj, hb, hx⟩ := hrel
    have hts := ht.size
    have hxc := hx.cell
    have hxf := hx.frozen
    by_cases hlt : k < N
    · have h4 : 4 ≤ t.size := by omega
      have hsz : (t.extract 0 4).size ≤ 4 := by rw [ByteArray.size_extract]; omega
      have hv := ht.head h4
      have hv1 := wrd_lt s k
      have hdk := (hd k hlt).out
      obtain ⟨v, hvv⟩ : ∃ v, wrd s k = v := ⟨_, rfl⟩
      rw [hvv] at hv hv1 hdk
      have h4' : (4 : Int) ≤ t.size := by omega
      have hv2 : (v : Int) < 4294967296 := by omega
      gi_wp2_with (refine ⟨trivial, fun h => (by cases h), ?_⟩; gi_at_call 122; refine (callsIn_wide.2 (gather_u32 _ _ hsz)).mono ?_; rintro e w' ⟨rfl, rfl⟩; rw [hv])
      refine ⟨trivial, fun h => (by cases h), ?_⟩
      refine (callsIn_wide.2 (hdk _ (hL _ hb))).mono ?_
      rintro e w2 ⟨rfl, hb2⟩
      have hb3 := hb.trans (hb2.mono (Nat.le_trans hw0 hb.size))
      have hg2 : w'.grownBy w2 (some Bc) := ⟨hb2.os, hb2.tape, hb2.output, hb2.size, fun i hi _ => hb2.block i hi⟩
      have hj2 := hJ k w' w2 hj hg2
      have hx2 : Boxed w2 Bc 9 (.string t) := (hb2.block Bc hx.lt).trans hx
      have HL : Hid (leftOf Bc w' = t.size) := leftOf_eq hx
      clear hj hg2 hb hx hxc hxf hb2
      obtain ⟨fn, tmps, assign, body, hy, hR⟩ := hY k w2 hlt hj2
      gi_wp2
      refine ⟨fun h => (by cases h), hR.mono ?_⟩
      rintro e W3 (⟨rfl, hj3, hk3⟩ | ⟨rfl, hj3⟩)
      · have hx3 : Boxed W3 Bc 9 (.string t) := hk3.2.trans hx2
        have hxc := hx3.cell
        have hxf := hx3.frozen
        have hx4 := hx3.set (.string (t.extract 4 t.size))
        have hj4 := hJ (k + 1) W3 _ hj3 (grownBy_setCell' W3 Bc (.string (t.extract 4 t.size)))
        have hb4 := (hb3.trans hk3.1).setCell (p := ⟨Bc, 0, none⟩) hn (.string (t.extract 4 t.size))
        have hle := leftOf_eq hx4
        have hes : (t.extract 4 t.size).size = t.size - 4 := by rw [ByteArray.size_extract]; omega
        gi_wp2
        go_roundw
        case rel => exact ⟨k + 1, _, by omega, ht.next h4, hj4, hb4, hx4⟩
        case measure => rw [hle, HL.out, hes]; omega
      · gi_wp2
        refine bodyPost_ret (results_none rfl _ _ _) rfl ?_
        exact ⟨⟨_, rfl⟩, .inr hj3⟩
    · have h4 : t.size < 4 := by omega
      have h4' : (t.size : Int) < 4 := by omega
      obtain rfl : k = N := by omega
      gi_wp2
      go_end0
      exact ⟨⟨_, rfl⟩, .inl hj⟩
end Go.Proofs.YtelogjpjglohoaaGreatDoor
