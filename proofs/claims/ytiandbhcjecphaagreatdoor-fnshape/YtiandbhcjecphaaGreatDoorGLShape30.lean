/- Contracts of both TakeLittle. The iterator over a run's instructions: it hands over each word's instruction and code. Lists of instructions in memory: what they hold; held against each other, marked, held against their marks. A block that is known whole: what is loaded out of a part of it, and stored into a part of it. -/
import Derived.Test.YtiandbhcjecphaaGreatDoorGLShape29
import Derived.Test.YtiandbhcjecphaaGreatDoorGLShape28
import Derived.Test.YtiandbhcjecphaaGreatDoorGLShape26
import Derived.Test.YtiandbhcjecphaaGreatDoorRows
import Derived.WalkKit
import Derived.WalkSpells
import Derived.ProofKit
import Derived.Below
import Derived.LoopTactic
import Derived.Deep.RegionHeld3
import Derived.Deep.RegionWith
import Derived.Laws.Rows
import Derived.Laws.CopyRow
import Derived.Laws.CopyOwn
import Derived.Deep.MidRow
namespace Go.Proofs.YtiandbhcjecphaaGreatDoor
open Go.RowKit
set_option linter.unusedVariables false

theorem cut_size (t : ByteArray) (a n : Nat) (h : a + n ≤ t.size) : (t.extract a (a + n)).size = n := by
  rw [ByteArray.size_extract]; omega
theorem cut_bt (t : ByteArray) (a n i : Nat) (h : a + n ≤ t.size) (hi : i < n) : bt (t.extract a (a + n)) i = bt t (a + i) := by
  rw [← bt_eq (t.extract a (a + n)) i (by rw [cut_size t a n h]; exact hi), ← bt_eq t (a + i) (by omega)]
  exact ByteArray.getElem_extract _
theorem cut_val (t : ByteArray) (a n : Nat) (h : a + n ≤ t.size) : valF (bt (t.extract a (a + n))) (t.extract a (a + n)).size = valF (fun i => bt t (a + i)) n := by
  rw [cut_size t a n h]
  exact valF_congr _ _ n (fun i hi => cut_bt t a n i h hi)

/-- The number that both answer. -/
def takeV (t : ByteArray) (a n : Nat) : Int := IntKind.i64.wrap (valF (fun i => bt t (a + i)) n : Nat)

theorem takeV_small (t : ByteArray) (a n : Nat) (h : n ≤ 4) : takeV t a n = (valF (fun i => bt t (a + i)) n : Nat) := by
  have h1 := valF_lt (fun i => bt t (a + i)) n
  have h2 : 256 ^ n ≤ 256 ^ 4 := Nat.pow_le_pow_right (by decide) h
  have h3 : (256 : Nat) ^ 4 = 4294967296 := by decide
  unfold takeV
  rw [IntKind.wrap_i64]
  omega

set_option maxRecDepth 100000 in
set_option maxHeartbeats 1000000 in
theorem specTake0 (t : ByteArray) (a n : Nat) (w : World) (ht : t.size ≤ 65536) (hn : n ≤ 8) (h : a + n ≤ t.size) :
    Calls Tryz.prog 55 #[.string t, .int .i64 a, .int .i64 n] w fun e w' => e = .returned (.int .i64 (takeV t a n)) ∧ w' = w := by
  go_enter Tryz.func55, Tryz.ntmps55
  go_wp2
  go_loop [7, 8] (fun x i => ∃ k o : Nat, k ≤ n ∧ i = .int .i64 ((k : Int) - 1) ∧ x = .int .u64 (o : Int) ∧ Hid (valF (fun i => bt t (a + i)) n = valF (fun i => bt t (a + i)) k + 256 ^ k * o)) (fun _ i => (intOf i + 1).toNat)
  case atStart => exact ⟨n, 0, Nat.le_refl _, rfl, rfl, by show _ = _; omega⟩
  case round =>
    obtain ⟨k, o, hk, rfl, rfl, ho⟩ := hrel
    by_cases hlt : 1 ≤ k
    · obtain ⟨j, rfl⟩ : ∃ j, k = j + 1 := ⟨k - 1, by omega⟩
      have hol := horner_bd _ n j o hn ho.out
      have HST : Hid (valF (fun i => bt t (a + i)) n = valF (fun i => bt t (a + i)) j + 256 ^ j * (256 * o + (bt t (a + j)).toNat)) := valF_horner _ n j o ho.out
      clear ho
      have ej : ((j + 1 : Nat) : Int) - 1 = (j : Int) := by omega
      have hlt2 : a + j < t.size := by omega
      rw [← bt_eq t (a + j) hlt2] at HST
      have hbyte := t[a + j].toNat_lt
      go_wp2
      go_round
      case rel => exact ⟨j, 256 * o + t[a + j].toNat, by omega, rfl, by go_num, HST⟩
      case measure => simp [intOf]
    · obtain rfl : k = 0 := by omega
      have hz : IntKind.i64.wrap (o : Int) = takeV t a n := by
        unfold takeV
        rw [ho.out]
        simp [valF]
      clear ho
      go_wp2
      go_ret
      exact ⟨rfl, rfl⟩

end Go.Proofs.YtiandbhcjecphaaGreatDoor

namespace Go.Proofs.YtiandbhcjecphaaGreatDoor
open Go Go.RowKit
set_option linter.unusedVariables false
attribute [local go_sem] Oper.semAt_some

/-- The k-th word of a run. -/
def wrd (s : ByteArray) (k : Nat) : Nat := valF (fun i => bt s (4 * k + i)) 4
theorem wrd_lt (s : ByteArray) (k : Nat) : wrd s k < 4294967296 := valF_lt _ 4
/-- What is left of a run behind k words. -/
structure Tail (s : ByteArray) (k : Nat) (t : ByteArray) : Prop where
  size : t.size + 4 * k = s.size
  byte : ∀ i, i < t.size → bt t i = bt s (4 * k + i)
theorem Tail.start (s : ByteArray) : Tail s 0 s := ⟨rfl, fun i _ => by rw [Nat.mul_zero, Nat.zero_add]⟩
theorem Tail.head {s t : ByteArray} {k : Nat} (h : Tail s k t) (h4 : 4 ≤ t.size) : valF (bt (t.extract 0 4)) (t.extract 0 4).size = wrd s k := by
  have h1 := cut_val t 0 4 (by omega)
  rw [Nat.zero_add] at h1
  rw [h1]
  exact valF_congr _ _ 4 (fun i hi => by rw [Nat.zero_add]; exact h.byte i (by omega))
theorem Tail.next {s t : ByteArray} {k : Nat} (h : Tail s k t) (h4 : 4 ≤ t.size) : Tail s (k + 1) (t.extract 4 t.size) := by
  obtain ⟨m, hm⟩ : ∃ m, t.size = 4 + m := ⟨t.size - 4, by omega⟩
  have hs : (t.extract 4 t.size).size = m := by rw [ByteArray.size_extract]; omega
  refine ⟨by rw [hs]; have := h.size; omega, fun i hi => ?_⟩
  rw [hs] at hi
  have h1 := cut_bt t 4 m i (by omega) hi
  rw [← hm] at h1
  rw [h1, h.byte (4 + i) (by omega)]
  congr 1; omega

def leftOf (Bc : Nat) (W : World) : Nat := match W.cell? ⟨Bc, 0, none⟩ with
  | some (.string t) => t.size
  | _ => 0
theorem leftOf_eq {W : World} {Bc ty : Nat} {t : ByteArray} (h : Boxed W Bc ty (.string t)) : leftOf Bc W = t.size := by
  unfold leftOf
  rw [h.cell]

/-- What a word is: an instruction and its code. -/
def DecIs (v : Nat) (R : Nat → Int) (k : Nat) (co : Int) : Prop := ∀ w, Laid w → Calls Tryz.prog 73 #[.int .i64 v] w fun e w' => e = .returned (.tuple #[.agg #[.int .i64 (R (k * 5)), .int .i64 (R (k * 5 + 1)), .int .i64 (R (k * 5 + 2)), .int .i64 (R (k * 5 + 3)), .int .i64 (R (k * 5 + 4))], .int .i64 co]) ∧ Below w.heap.size w w'

set_option maxRecDepth 100000 in
set_option maxHeartbeats 2000000 in
theorem insSeq (s : ByteArray) (N : Nat) (hs : s.size = 4 * N) (hN : N ≤ 16384) (R : Nat → Int) (co : Nat → Int) (hd : ∀ k, k < N → Hid (DecIs (wrd s k) R k (co k))) (n n₀ Bc : Nat) (w : World) (hl : Laid w) (hw0 : n₀ ≤ w.heap.size) (hL : ∀ W, Below n₀ w W → Laid W) (hB : Bc < w.heap.size) (hn : n₀ ≤ Bc)
    (hc : Boxed w Bc 9 (.string s)) :
    CellSeq Fence.wide n Tryz.prog 72 #[.pointer (some ⟨Bc, 0, none⟩)] (fun k => #[.agg #[.int .i64 (R (k * 5)), .int .i64 (R (k * 5 + 1)), .int .i64 (R (k * 5 + 2)), .int .i64 (R (k * 5 + 3)), .int .i64 (R (k * 5 + 4))], .int .i64 (co k)]) n₀ Bc N w := by
  intro l J Jx W hJ hY hK h0
  refine callsIn_of_wp Tryz.func72 rfl trivial ?_ rfl
  simp only [Tryz.ntmps72, List.size_toArray, List.length_cons, List.length_nil, Nat.reduceAdd, Nat.reduceSub, Array.replicate_succ, Array.replicate_zero, List.push_toArray, List.append_toArray, List.nil_append, List.cons_append]
  gi_wp2
  gi_loopw [3] (fun _ wr => ∃ (k : Nat) (t : ByteArray), k ≤ N ∧ Tail s k t ∧ J k wr ∧ Below n₀ w wr ∧ Boxed wr Bc 9 (.string t)) (fun _ wr => leftOf Bc wr)
  case atStart => exact ⟨0, s, Nat.zero_le _, Tail.start s, h0, hK.1, hK.2.trans hc⟩
  case round =>
    obtain ⟨k, t, hk, ht, hj, hb, hx⟩ := hrel
    have hts := ht.size
    have hxc := hx.cell
    have hxf := hx.frozen
    by_cases hlt : k < N
    · have h4 : 4 ≤ t.size := by omega
      have hsz : (t.extract 0 4).size ≤ 4 := by rw [ByteArray.size_extract]; omega
      have hv := ht.head h4
      have hv1 := wrd_lt s k
      have hdk := (hd k hlt).out
      obtain ⟨v, hvv⟩ : ∃ v, wrd s k = v := ⟨_, rfl⟩
      rw [hvv] at hv hv1 hdk
      have h4' : (4 : Int) ≤ t.size := by omega
      have hv2 : (v : Int) < 4294967296 := by omega
      gi_wp2_with (refine ⟨trivial, fun h => (by cases h), ?_⟩; gi_at_call 74; refine (callsIn_wide.2 (gather_u32 _ _ hsz)).mono ?_; rintro e w' ⟨rfl, rfl⟩; rw [hv])
      refine ⟨trivial, fun h => (by cases h), ?_⟩
      refine (callsIn_wide.2 (hdk _ (hL _ hb))).mono ?_
      rintro e w2 ⟨rfl, hb2⟩
      have hb3 := hb.trans (hb2.mono (Nat.le_trans hw0 hb.size))
      have hg2 : w'.grownBy w2 (some Bc) := ⟨hb2.os, hb2.tape, hb2.output, hb2.size, fun i hi _ => hb2.block i hi⟩
      have hj2 := hJ k w' w2 hj hg2
      have hx2 : Boxed w2 Bc 9 (.string t) := (hb2.block Bc hx.lt).trans hx
      have HL : Hid (leftOf Bc w' = t.size) := leftOf_eq hx
      clear hj hg2 hb hx hxc hxf hb2
      obtain ⟨fn, tmps, assign, body, hy, hR⟩ := hY k w2 hlt hj2
      gi_wp2
      refine ⟨fun h => (by cases h), hR.mono ?_⟩
      rintro e W3 (⟨rfl, hj3, hk3⟩ | ⟨rfl, hj3⟩)
      · have hx3 : Boxed W3 Bc 9 (.string t) := hk3.2.trans hx2
        have hxc := hx3.cell
        have hxf := hx3.frozen
        have hx4 := hx3.set (.string (t.extract 4 t.size))
        have hj4 := hJ (k + 1) W3 _ hj3 (grownBy_setCell' W3 Bc (.string (t.extract 4 t.size)))
        have hb4 := (hb3.trans hk3.1).setCell (p := ⟨Bc, 0, none⟩) hn (.string (t.extract 4 t.size))
        have hle := leftOf_eq hx4
        have hes : (t.extract 4 t.size).size = t.size - 4 := by rw [ByteArray.size_extract]; omega
        gi_wp2
        go_roundw
        case rel => exact ⟨k + 1, _, by omega, ht.next h4, hj4, hb4, hx4⟩
        case measure => rw [hle, HL.out, hes]; omega
      · gi_wp2
        refine bodyPost_ret (results_none rfl _ _ _) rfl ?_
        exact ⟨⟨_, rfl⟩, .inr hj3⟩
    · have h4 : t.size < 4 := by omega
      have h4' : (t.size : Int) < 4 := by omega
      obtain rfl : k = N := by omega
      gi_wp2
      go_end0
      exact ⟨⟨_, rfl⟩, .inl hj⟩
end Go.Proofs.YtiandbhcjecphaaGreatDoor

namespace Go.Proofs.YtiandbhcjecphaaGreatDoor
open Go Go.RowKit
set_option linter.unusedVariables false

/-- A row of m ints from cell o of block b on: R i at o + i. -/
def Flat (w : World) (b o m : Nat) (R : Nat → Int) : Prop := ∀ i, i < m → w.cell? ⟨b, o + i, none⟩ = some (.int .i64 (R i)) ∧ w.frozen? ⟨b, o + i, none⟩ = false
theorem Flat.below {w w' : World} {b o m B : Nat} {R : Nat → Int} (h : Flat w b o m R) (hb : Below B w w') (hlt : b < B) : Flat w' b o m R :=
  fun i hi => ⟨(hb.cell (p := ⟨b, o + i, none⟩) hlt).trans (h i hi).1, (hb.frozen (p := ⟨b, o + i, none⟩) hlt).trans (h i hi).2⟩
theorem Flat.drew {w : World} {b o m : Nat} {R : Nat → Int} (h : Flat w b o m R) : Flat w.drew b o m R := h
theorem Flat.alloc {w : World} {b o m : Nat} {R : Nat → Int} (h : Flat w b o m R) (hb : b < w.heap.size) (x : Obj) : Flat (w.alloc x) b o m R := h.below ((Below.refl w.heap.size w).alloc (Nat.le_refl _) x) hb
theorem Flat.congr {w : World} {b o m : Nat} {R S : Nat → Int} (h : Flat w b o m R) (e : ∀ i, i < m → R i = S i) : Flat w b o m S := fun i hi => by rw [← e i hi]; exact h i hi
theorem Flat.take {w : World} {b o m n : Nat} {R : Nat → Int} (h : Flat w b o m R) (hn : n ≤ m) : Flat w b o n R := fun i hi => h i (by omega)
/-- Cell j of the k-th five. -/
theorem Flat.at5 {w : World} {b o n : Nat} {R : Nat → Int} (h : Flat w b o (n * 5) R) {k : Nat} (hk : k < n) (j : Nat) (hj : j < 5) : w.cell? ⟨b, o + k * 5 + j, none⟩ = some (.int .i64 (R (k * 5 + j))) := by
  have := (h (k * 5 + j) (by omega)).1
  rwa [← Nat.add_assoc] at this
theorem Flat.fr5 {w : World} {b o n : Nat} {R : Nat → Int} (h : Flat w b o (n * 5) R) {k : Nat} (hk : k < n) (j : Nat) (hj : j < 5) : w.frozen? ⟨b, o + k * 5 + j, none⟩ = false := by
  have := (h (k * 5 + j) (by omega)).2
  rwa [← Nat.add_assoc] at this

/-- A store into one cell of it. -/
theorem Flat.set {w : World} {b o m : Nat} {R : Nat → Int} (h : Flat w b o m R) (t : Nat) (ht : t < m) {a : Nat} (ha : a = o + t) (x : Int) : Flat (w.setCell ⟨b, a, none⟩ (.int .i64 x)) b o m (fun i => if i = t then x else R i) := by
  subst ha
  intro i hi
  refine ⟨?_, by rw [World.frozen?_setCell]; exact (h i hi).2⟩
  show _ = some (Value.int .i64 (if i = t then x else R i))
  by_cases e : i = t
  · subst e
    rw [if_pos rfl]
    exact World.cell?_setCell_same' _ _ _ (by rw [(h i hi).1]; rfl)
  · rw [if_neg e, World.cell?_setCell_other _ _ _ _ (by intro c; have := congrArg Addr.off c; simp at this; omega)]
    exact (h i hi).1

/-- A row of m ints that is read alone. -/
def Rdb (w : World) (b o m : Nat) (R : Nat → Int) : Prop := ∀ i, i < m → w.cell? ⟨b, o + i, none⟩ = some (.int .i64 (R i))
theorem Flat.rd {w : World} {b o m : Nat} {R : Nat → Int} (h : Flat w b o m R) : Rdb w b o m R := fun i hi => (h i hi).1
theorem Rdb.below {w w' : World} {b o m B : Nat} {R : Nat → Int} (h : Rdb w b o m R) (hb : Below B w w') (hlt : b < B) : Rdb w' b o m R := fun i hi => (hb.cell (p := ⟨b, o + i, none⟩) hlt).trans (h i hi)
theorem Rdb.drew {w : World} {b o m : Nat} {R : Nat → Int} (h : Rdb w b o m R) : Rdb w.drew b o m R := h
theorem Rdb.at5 {w : World} {b o n : Nat} {R : Nat → Int} (h : Rdb w b o (n * 5) R) {k : Nat} (hk : k < n) (j : Nat) (hj : j < 5) : w.cell? ⟨b, o + k * 5 + j, none⟩ = some (.int .i64 (R (k * 5 + j))) := by
  have := h (k * 5 + j) (by omega)
  rwa [← Nat.add_assoc] at this
theorem Rdb.five {w : World} {b o n : Nat} {R : Nat → Int} (h : Rdb w b o (n * 5) R) {k : Nat} (hk : k < n) :
    w.cell? ⟨b, o + k * 5, none⟩ = some (.int .i64 (R (k * 5))) ∧ w.cell? ⟨b, o + k * 5 + 1, none⟩ = some (.int .i64 (R (k * 5 + 1))) ∧ w.cell? ⟨b, o + k * 5 + 2, none⟩ = some (.int .i64 (R (k * 5 + 2))) ∧
      w.cell? ⟨b, o + k * 5 + 3, none⟩ = some (.int .i64 (R (k * 5 + 3))) ∧ w.cell? ⟨b, o + k * 5 + 4, none⟩ = some (.int .i64 (R (k * 5 + 4))) :=
  ⟨h.at5 hk 0 (by omega), h.at5 hk 1 (by omega), h.at5 hk 2 (by omega), h.at5 hk 3 (by omega), h.at5 hk 4 (by omega)⟩

/-- A list of n instructions: where it is not empty its cells lie in a block. -/
def ListAt (w : World) (p : Option Addr) (n : Nat) (R : Nat → Int) : Prop := n = 0 ∨ ∃ b o, p = some ⟨b, o, none⟩ ∧ b < w.heap.size ∧ Rdb w b o (n * 5) R
theorem ListAt.below {w w' : World} {p : Option Addr} {n : Nat} {R : Nat → Int} (h : ListAt w p n R) (hb : Below w.heap.size w w') : ListAt w' p n R := by
  rcases h with h | ⟨b, o, e, hlt, hf⟩
  · exact .inl h
  · exact .inr ⟨b, o, e, Nat.lt_of_lt_of_le hlt hb.size, hf.below hb hlt⟩

end Go.Proofs.YtiandbhcjecphaaGreatDoor

namespace Go.Proofs.YtiandbhcjecphaaGreatDoor
open Go.RowKit
set_option linter.unusedVariables false
section
variable {P : Program}

/-- The block's cells. -/
def Lies (w : World) (g : Nat) (t : TypeId) (cs : Array Value) : Prop := w.heap[g]? = some (.cells cs t (0, 0))
theorem Lies.lt {w : World} {g : Nat} {t : TypeId} {cs : Array Value} (h : Lies w g t cs) : g < w.heap.size := (Array.getElem?_eq_some_iff.1 h).1
theorem Lies.cell {w : World} {g : Nat} {t : TypeId} {cs : Array Value} (h : Lies w g t cs) {j : Nat} {v : Value} (hv : cs[j]? = some v) : w.cell? ⟨g, j, none⟩ = some v := by
  rw [cell_of_row w g j cs t (0, 0) h]; exact hv
theorem Lies.fro {w : World} {g : Nat} {t : TypeId} {cs : Array Value} (h : Lies w g t cs) (j : Nat) : w.frozen? ⟨g, j, none⟩ = false := frozen_of_row w g j cs t h
theorem Lies.new (w : World) (cs : Array Value) (t : TypeId) : Lies (w.alloc (.cells cs t)) w.heap.size t cs := heap_alloc_new w _
theorem Lies.newAt (w : World) (cs : Array Value) (t : TypeId) {g : Nat} (hg : g = w.heap.size) : Lies (w.alloc (.cells cs t)) g t cs := by subst hg; exact heap_alloc_new w _
theorem Lies.alloc {w : World} {g : Nat} {t : TypeId} {cs : Array Value} (h : Lies w g t cs) (o : Obj) : Lies (w.alloc o) g t cs := by
  unfold Lies; rw [Below.heap_alloc w o g h.lt]; exact h
theorem Lies.drew {w : World} {g : Nat} {t : TypeId} {cs : Array Value} (h : Lies w g t cs) : Lies w.drew g t cs := h
theorem Lies.below {w w' : World} {g B : Nat} {t : TypeId} {cs : Array Value} (h : Lies w g t cs) (hb : Below B w w') (hg : g < B) : Lies w' g t cs := by
  unfold Lies; rw [hb.block g hg]; exact h
theorem Lies.set {w : World} {g : Nat} {t : TypeId} {cs : Array Value} (h : Lies w g t cs) (new : Array Value) : Lies (w.setRow g new) g t new := setRow_heap w g cs new t (0, 0) h
theorem Lies.other {w : World} {g : Nat} {t : TypeId} {cs : Array Value} (h : Lies w g t cs) {k : Nat} (hk : g ≠ k) (new : Array Value) : Lies (w.setRow k new) g t cs := by
  unfold Lies; rw [setRow_other w k g new hk]; exact h
theorem Lies.put {w : World} {g : Nat} {t : TypeId} {cs : Array Value} (h : Lies w g t cs) (j : Nat) (v : Value) : Lies (w.setCell ⟨g, j, none⟩ v) g t (cs.setIfInBounds j v) := by
  rw [setCell_eq_setRow w g j cs t (0, 0) v h]; exact h.set _
theorem Lies.putOther {w : World} {g : Nat} {t : TypeId} {cs : Array Value} (h : Lies w g t cs) {a : Addr} (hk : g ≠ a.block) (v : Value) : Lies (w.setCell a v) g t cs := by
  unfold Lies; rw [Below.heap_setCell w a v g hk]; exact h

/-- A part of a block is loaded. -/
theorem wpList_load_part {ops : Array Oper} {rest : List Oper} {op : Oper} {a : Act} {w : World} {Q : Exit → Act → World → Prop} (hgd : op.guard = none) (ty : TypeId) (x : Operand) (ho : op.op = .load ty x)
    (g o n : Nat) (hx : a.eval x = .pointer (some ⟨g, o, none⟩)) (t : TypeId) (cur : Array Value) (hb : Lies w g t cur) (d : TypeDesc)
    (hu : P.underlying ty = some d) (hd : d.isRow = true) (hi : (P.info? ty).map (·.size) = some n) (hn : o + n ≤ cur.size) (out : Array Value) (hout : cur.extract o (o + n) = out)
    (h : wpList P ops Q rest (a.put op.dst (.agg out)) w) : wpList P ops Q (op :: rest) a w := by
  subst hout
  have hl : (cur.extract o (o + n)).toList.length = n := by simp; omega
  have := wpList_load_mid (P := P) (ops := ops) (rest := rest) (op := op) (a := a) (w := w) (Q := Q) hgd ty x ho g o hx (cur.extract o (o + n)).toList d (World.rangeAt_of_block hb o n) hu hd (by rw [hl]; exact hi) (by rw [Array.toArray_toList]; exact h)
  exact this

/-- A value of many cells goes into a part of a block. -/
theorem run_storeVar_part (w : World) (g o : Nat) (t ty : TypeId) (cur vs : Array Value) (hb : Lies w g t cur) (hi : (P.info? ty).map (·.size) = some vs.size) (hn : o + vs.size ≤ cur.size) (h1 : vs.all (·.oneCell') = true) :
    (storeVar ty ⟨g, o, none⟩ (.agg vs)).run P w = .ok () (w.setRow g (cur.toList.take o ++ vs.toList ++ cur.toList.drop (o + vs.size)).toArray) := by
  have := run_storeCells_at (P := P) g o t vs.toList 0 cur w hb (by simpa using hn) (fun v hv => (Array.all_eq_true_iff_forall_mem.1 h1) v (by simpa using hv))
  cases hq : P.info? ty with
  | none => simp [hq] at hi
  | some i =>
    have hs : vs.size = i.size := by simp [hq] at hi; omega
    simp only [Nat.add_zero, Array.length_toList] at this
    simp [storeVar, sizeOf, typeInfo, hq, Value.cells, hs, this]

theorem wpList_store_part {ops : Array Oper} {rest : List Oper} {op : Oper} {a : Act} {w : World} {Q : Exit → Act → World → Prop} (hgd : op.guard = none) (ty : TypeId) (x y : Operand) (ho : op.op = .store ty x y)
    (g o : Nat) (vs : Array Value) (hx : a.eval x = .pointer (some ⟨g, o, none⟩)) (hy : a.eval y = .agg vs) (t : TypeId) (cur : Array Value) (hb : Lies w g t cur)
    (hi : (P.info? ty).map (·.size) = some vs.size) (hn : o + vs.size ≤ cur.size) (h1 : vs.all (·.oneCell') = true) (new : Array Value) (hnew : (cur.toList.take o ++ vs.toList ++ cur.toList.drop (o + vs.size)).toArray = new)
    (h : wpList P ops Q rest (a.put op.dst undef) (w.setRow g new)) : wpList P ops Q (op :: rest) a w := by
  subst hnew
  refine wpList_plain hgd fun _ hK => ?_
  unfold Oper.wp execOp
  simp only [ho, hx, hy, Instr.storeAt, Instr.sureAddr, Sem.run_bind, Sem.run_pure, Result.andThen_ok, run_storeVar_part w g o t ty cur vs hb hi hn h1]
  exact hK _ _ h

theorem wpList_store_all {ops : Array Oper} {rest : List Oper} {op : Oper} {a : Act} {w : World} {Q : Exit → Act → World → Prop} (hgd : op.guard = none) (ty : TypeId) (x y : Operand) (ho : op.op = .store ty x y)
    (g : Nat) (vs : Array Value) (hx : a.eval x = .pointer (some ⟨g, 0, none⟩)) (hy : a.eval y = .agg vs) (t : TypeId) (cur : Array Value) (hb : Lies w g t cur)
    (hi : (P.info? ty).map (·.size) = some vs.size) (hn : cur.size = vs.size) (h1 : vs.all (·.oneCell') = true)
    (h : wpList P ops Q rest (a.put op.dst undef) (w.setRow g vs)) : wpList P ops Q (op :: rest) a w :=
  wpList_store_row hgd ty x y ho g vs hx hy t cur hb hi hn h1 h

/-- A struct, or a row, that is the result. -/
theorem results_lies {fn : Func} {p : Tmp} {ty : TypeId} (h : fn.results = #[.cell p ty]) (tmps : Array Value) (w : World) (g : Nat) (t : TypeId) (cs : Array Value) (d : TypeDesc)
    (hp : tmps.getD p undef = .pointer (some ⟨g, 0, none⟩)) (hb : Lies w g t cs) (hu : P.underlying ty = some d) (hd : d.isRow = true) (hi : (P.info? ty).map (·.size) = some cs.size) :
    (results fn tmps).run P w = .ok (.agg cs) w :=
  results_cell_row h tmps w g t cs (0, 0) d hp hb hu (by cases d <;> simp_all) hi
end
end Go.Proofs.YtiandbhcjecphaaGreatDoor
