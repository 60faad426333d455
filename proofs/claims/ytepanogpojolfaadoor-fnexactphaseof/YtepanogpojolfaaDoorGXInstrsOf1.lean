/- Contracts of both TakeLittle. The iterator over a run's instructions: it hands over each word's instruction and code. -/
import Derived.Test.YtepanogpojolfaaDoorGXInstrsOf0
import Derived.Test.YtepanogpojolfaaDoorGXDecode39
namespace Go.Proofs.YtepanogpojolfaaDoor
open Go.RowKit
set_option linter.unusedVariables false

theorem cut_size (t : ByteArray) (a n : Nat) (h : a + n ≤ t.size) : (t.extract a (a + n)).size = n := by
  rw [ByteArray.size_extract]; omega
theorem cut_bt (t : ByteArray) (a n i : Nat) (h : a + n ≤ t.size) (hi : i < n) : bt (t.extract a (a + n)) i = bt t (a + i) := by
  rw [← bt_eq (t.extract a (a + n)) i (by rw [cut_size t a n h]; exact hi), ← bt_eq t (a + i) (by omega)]
  exact ByteArray.getElem_extract _
theorem cut_val (t : ByteArray) (a n : Nat) (h : a + n ≤ t.size) : valF (bt (t.extract a (a + n))) (t.extract a (a + n)).size = valF (fun i => bt t (a + i)) n := by
  rw [cut_size t a n h]
  exact valF_congr _ _ n (fun i hi => cut_bt t a n i h hi)

/-- The number that both answer. -/
def takeV (t : ByteArray) (a n : Nat) : Int := IntKind.i64.wrap (valF (fun i => bt t (a + i)) n : Nat)

theorem takeV_small (t : ByteArray) (a n : Nat) (h : n ≤ 4) : takeV t a n = (valF (fun i => bt t (a + i)) n : Nat) := by
  have h1 := valF_lt (fun i => bt t (a + i)) n
  have h2 : 256 ^ n ≤ 256 ^ 4 := Nat.pow_le_pow_right (by decide) h
  have h3 : (256 : Nat) ^ 4 = 4294967296 := by decide
  unfold takeV
  rw [IntKind.wrap_i64]
  omega

set_option maxRecDepth 100000 in
set_option maxHeartbeats 1000000 in
theorem specTake0 (t : ByteArray) (a n : Nat) (w : World) (ht : t.size ≤ 65536) (hn : n ≤ 8) (h : a + n ≤ t.size) :
    Calls Tryd.prog 89 #[.string t, .int .i64 a, .int .i64 n] w fun e w' => e = .returned (.int .i64 (takeV t a n)) ∧ w' = w := by
  go_enter Tryd.func89, Tryd.ntmps89
  go_wp2
  go_loop [7, 8] (fun x i => ∃ k o : Nat, k ≤ n ∧ i = .int .i64 ((k : Int) - 1) ∧ x = .int .u64 (o : Int) ∧ Hid (valF (fun i => bt t (a + i)) n = valF (fun i => bt t (a + i)) k + 256 ^ k * o)) (fun _ i => (intOf i + 1).toNat)
  case atStart => exact ⟨n, 0, Nat.le_refl _, rfl, rfl, by show _ = _; omega⟩
  case round =>
    obtain ⟨k, o, hk, rfl, rfl, ho⟩ := hrel
    by_cases hlt : 1 ≤ k
    · obtain ⟨j, rfl⟩ : ∃ j, k = j + 1 := ⟨k - 1, by omega⟩
      have hol := horner_bd _ n j o hn ho.out
      have HST : Hid (valF (fun i => bt t (a + i)) n = valF (fun i => bt t (a + i)) j + 256 ^ j * (256 * o + (bt t (a + j)).toNat)) := valF_horner _ n j o ho.out
      clear ho
      have ej : ((j + 1 : Nat) : Int) - 1 = (j : Int) := by omega
      have hlt2 : a + j < t.size := by omega
      rw [← bt_eq t (a + j) hlt2] at HST
      have hbyte := t[a + j].toNat_lt
      go_wp2
      go_round
      case rel => exact ⟨j, 256 * o + t[a + j].toNat, by omega, rfl, by go_num, HST⟩
      case measure => simp [intOf]
    · obtain rfl : k = 0 := by omega
      have hz : IntKind.i64.wrap (o : Int) = takeV t a n := by
        unfold takeV
        rw [ho.out]
        simp [valF]
      clear ho
      go_wp2
      go_ret
      exact ⟨rfl, rfl⟩

end Go.Proofs.YtepanogpojolfaaDoor

namespace Go.Proofs.YtepanogpojolfaaDoor
open Go Go.RowKit
set_option linter.unusedVariables false
attribute [local go_sem] Oper.semAt_some

/-- The k-th word of a run. -/
def wrd (s : ByteArray) (k : Nat) : Nat := valF (fun i => bt s (4 * k + i)) 4
theorem wrd_lt (s : ByteArray) (k : Nat) : wrd s k < 4294967296 := valF_lt _ 4
/-- What is left of a run behind k words. -/
structure Tail (s : ByteArray) (k : Nat) (t : ByteArray) : Prop where
  size : t.size + 4 * k = s.size
  byte : ∀ i, i < t.size → bt t i = bt s (4 * k + i)
theorem Tail.start (s : ByteArray) : Tail s 0 s := ⟨rfl, fun i _ => by rw [Nat.mul_zero, Nat.zero_add]⟩
theorem Tail.head {s t : ByteArray} {k : Nat} (h : Tail s k t) (h4 : 4 ≤ t.size) : valF (bt (t.extract 0 4)) (t.extract 0 4).size = wrd s k := by
  have h1 := cut_val t 0 4 (by omega)
  rw [Nat.zero_add] at h1
  rw [h1]
  exact valF_congr _ _ 4 (fun i hi => by rw [Nat.zero_add]; exact h.byte i (by omega))
theorem Tail.next {s t : ByteArray} {k : Nat} (h : Tail s k t) (h4 : 4 ≤ t.size) : Tail s (k + 1) (t.extract 4 t.size) := by
  obtain ⟨m, hm⟩ : ∃ m, t.size = 4 + m := ⟨t.size - 4, by omega⟩
  have hs : (t.extract 4 t.size).size = m := by rw [ByteArray.size_extract]; omega
  refine ⟨by rw [hs]; have := h.size; omega, fun i hi => ?_⟩
  rw [hs] at hi
  have h1 := cut_bt t 4 m i (by omega) hi
  rw [← hm] at h1
  rw [h1, h.byte (4 + i) (by omega)]
  congr 1; omega

def leftOf (Bc : Nat) (W : World) : Nat := match W.cell? ⟨Bc, 0, none⟩ with
  | some (.string t) => t.size
  | _ => 0
theorem leftOf_eq {W : World} {Bc ty : Nat} {t : ByteArray} (h : Boxed W Bc ty (.string t)) : leftOf Bc W = t.size := by
  unfold leftOf
  rw [h.cell]

/-- What a word is: an instruction and its code. -/
def DecIs (v : Nat) (R : Nat → Int) (k : Nat) (co : Int) : Prop := ∀ w, Laid w → Calls Tryd.prog 12 #[.int .i64 v] w fun e w' => e = .returned (.tuple #[.agg #[.int .i64 (R (k * 5)), .int .i64 (R (k * 5 + 1)), .int .i64 (R (k * 5 + 2)), .int .i64 (R (k * 5 + 3)), .int .i64 (R (k * 5 + 4))], .int .i64 co]) ∧ Below w.heap.size w w'

set_option maxRecDepth 100000 in
set_option maxHeartbeats 2000000 in
theorem insSeq (s : ByteArray) (N : Nat) (hs : s.size = 4 * N) (hN : N ≤ 16384) (R : Nat → Int) (co : Nat → Int) (hd : ∀ k, k < N → Hid (DecIs (wrd s k) R k (co k))) (n n₀ Bc : Nat) (w : World) (hl : Laid w) (hw0 : n₀ ≤ w.heap.size) (hL : ∀ W, Below n₀ w W → Laid W) (hB : Bc < w.heap.size) (hn : n₀ ≤ Bc)
    (hc : Boxed w Bc 9 (.string s)) :
    CellSeq Fence.wide n Tryd.prog 108 #[.pointer (some ⟨Bc, 0, none⟩)] (fun k => #[.agg #[.int .i64 (R (k * 5)), .int .i64 (R (k * 5 + 1)), .int .i64 (R (k * 5 + 2)), .int .i64 (R (k * 5 + 3)), .int .i64 (R (k * 5 + 4))], .int .i64 (co k)]) n₀ Bc N w := by
  intro l J Jx W hJ hY hK h0
  refine callsIn_of_wp Tryd.func108 rfl trivial ?_ rfl
  simp only [Tryd.ntmps108, List.size_toArray, List.length_cons, List.length_nil, Nat.reduceAdd, Nat.reduceSub, Array.replicate_succ, Array.replicate_zero, List.push_toArray, List.append_toArray, List.nil_append, List.cons_append]
  gi_wp2
  gi_loopw [3] (fun _ wr => ∃ (k : Nat) (t : ByteArray), k ≤ N ∧ Tail s k t ∧ J k wr ∧ Below n₀ w wr ∧ Boxed wr Bc 9 (.string t)) (fun _ wr => leftOf Bc wr)
  case atStart => exact ⟨0, s, Nat.zero_le _, Tail.start s, h0, hK.1, hK.2.trans hc⟩
  case round =>
    obtain ⟨k, t, hk, ht, hj, hb, hx⟩ := hrel
    have hts := ht.size
    have hxc := hx.cell
    have hxf := hx.frozen
    by_cases hlt : k < N
    · have h4 : 4 ≤ t.size := by omega
      have hsz : (t.extract 0 4).size ≤ 4 := by rw [ByteArray.size_extract]; omega
      have hv := ht.head h4
      have hv1 := wrd_lt s k
      have hdk := (hd k hlt).out
      obtain ⟨v, hvv⟩ : ∃ v, wrd s k = v := ⟨_, rfl⟩
      rw [hvv] at hv hv1 hdk
      have h4' : (4 : Int) ≤ t.size := by omega
      have hv2 : (v : Int) < 4294967296 := by omega
      gi_wp2_with (refine ⟨trivial, fun h => (by cases h), ?_⟩; gi_at_call 109; refine (callsIn_wide.2 (gather_u32 _ _ hsz)).mono ?_; rintro e w' ⟨rfl, rfl⟩; rw [hv])
      refine ⟨trivial, fun h => (by cases h), ?_⟩
      refine (callsIn_wide.2 (hdk _ (hL _ hb))).mono ?_
      rintro e w2 ⟨rfl, hb2⟩
      have hb3 := hb.trans (hb2.mono (Nat.le_trans hw0 hb.size))
      have hg2 : w'.grownBy w2 (some Bc) := ⟨hb2.os, hb2.tape, hb2.output, hb2.size, fun i hi _ => hb2.block i hi⟩
      have hj2 := hJ k w' w2 hj hg2
      have hx2 : Boxed w2 Bc 9 (.string t) := (hb2.block Bc hx.lt).trans hx
      have HL : Hid (leftOf Bc w' = t.size) := leftOf_eq hx
      clear hj hg2 hb hx hxc hxf hb2
      obtain ⟨fn, tmps, assign, body, hy, hR⟩ := hY k w2 hlt hj2
      gi_wp2
      refine ⟨fun h => (by cases h), hR.mono ?_⟩
      rintro e W3 (⟨rfl, hj3, hk3⟩ | ⟨rfl, hj3⟩)
      · have hx3 : Boxed W3 Bc 9 (.string t) := hk3.2.trans hx2
        have hxc := hx3.cell
        have hxf := hx3.frozen
        have hx4 := hx3.set (.string (t.extract 4 t.size))
        have hj4 := hJ (k + 1) W3 _ hj3 (grownBy_setCell' W3 Bc (.string (t.extract 4 t.size)))
        have hb4 := (hb3.trans hk3.1).setCell (p := ⟨Bc, 0, none⟩) hn (.string (t.extract 4 t.size))
        have hle := leftOf_eq hx4
        have hes : (t.extract 4 t.size).size = t.size - 4 := by rw [ByteArray.size_extract]; omega
        gi_wp2
        go_roundw
        case rel => exact ⟨k + 1, _, by omega, ht.next h4, hj4, hb4, hx4⟩
        case measure => rw [hle, HL.out, hes]; omega
      · gi_wp2
        refine bodyPost_ret (results_none rfl _ _ _) rfl ?_
        exact ⟨⟨_, rfl⟩, .inr hj3⟩
    · have h4 : t.size < 4 := by omega
      have h4' : (t.size : Int) < 4 := by omega
      obtain rfl : k = N := by omega
      gi_wp2
      go_end0
      exact ⟨⟨_, rfl⟩, .inl hj⟩
end Go.Proofs.YtepanogpojolfaaDoor
