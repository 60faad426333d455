/- Lists of instructions in memory: what they hold; held against each other, marked, held against their marks. A block that is known whole: what is loaded out of a part of it, and stored into a part of it. Contract of the model's test of bounds. Integers of 64 bits. Frames, prologues, epilogues: of the program and of the model. What a function's instructions may be, plain: epilogues, parts, jumps, rules. -/
import Derived.Test.YtjokgiefnlpfkaaDoorRows
import Derived.WalkKit
import Derived.WalkSpells
import Derived.ProofKit
import Derived.Below
import Derived.LoopTactic
import Derived.Deep.RegionHeld3
import Derived.Deep.RegionWith
import Derived.Laws.Rows
import Derived.Laws.CopyRow
import Derived.Laws.CopyOwn
import Derived.Deep.MidRow
import Derived.DataShut
namespace Go.Proofs.YtjokgiefnlpfkaaDoor
open Go Go.RowKit
set_option linter.unusedVariables false

theorem eqI (a0 a1 a2 a3 a4 : Int) (w : World) :
    Calls Tryd.prog 32 #[.agg #[.int .i64 a0, .int .i64 a1, .int .i64 a2, .int .i64 a3, .int .i64 a4], .agg #[.int .i64 a0, .int .i64 a1, .int .i64 a2, .int .i64 a3, .int .i64 a4]] w fun e w' => e = .returned (.bool true) ∧ Below w.heap.size w w' := by
  go_enter Tryd.func32, Tryd.ntmps32
  go_wp2
  go_ret
  exact ⟨rfl, ((Below.refl _ _).alloc (Nat.le_refl _) _).alloc (by simp) _⟩

/-- A row of m ints from cell o of block b on: R i at o + i. -/
def Flat (w : World) (b o m : Nat) (R : Nat → Int) : Prop := ∀ i, i < m → w.cell? ⟨b, o + i, none⟩ = some (.int .i64 (R i)) ∧ w.frozen? ⟨b, o + i, none⟩ = false
theorem Flat.below {w w' : World} {b o m B : Nat} {R : Nat → Int} (h : Flat w b o m R) (hb : Below B w w') (hlt : b < B) : Flat w' b o m R :=
  fun i hi => ⟨(hb.cell (p := ⟨b, o + i, none⟩) hlt).trans (h i hi).1, (hb.frozen (p := ⟨b, o + i, none⟩) hlt).trans (h i hi).2⟩
theorem Flat.drew {w : World} {b o m : Nat} {R : Nat → Int} (h : Flat w b o m R) : Flat w.drew b o m R := h
theorem Flat.alloc {w : World} {b o m : Nat} {R : Nat → Int} (h : Flat w b o m R) (hb : b < w.heap.size) (x : Obj) : Flat (w.alloc x) b o m R := h.below ((Below.refl w.heap.size w).alloc (Nat.le_refl _) x) hb
theorem Flat.congr {w : World} {b o m : Nat} {R S : Nat → Int} (h : Flat w b o m R) (e : ∀ i, i < m → R i = S i) : Flat w b o m S := fun i hi => by rw [← e i hi]; exact h i hi
theorem Flat.take {w : World} {b o m n : Nat} {R : Nat → Int} (h : Flat w b o m R) (hn : n ≤ m) : Flat w b o n R := fun i hi => h i (by omega)
/-- Cell j of the k-th five. -/
theorem Flat.at5 {w : World} {b o n : Nat} {R : Nat → Int} (h : Flat w b o (n * 5) R) {k : Nat} (hk : k < n) (j : Nat) (hj : j < 5) : w.cell? ⟨b, o + k * 5 + j, none⟩ = some (.int .i64 (R (k * 5 + j))) := by
  have := (h (k * 5 + j) (by omega)).1
  rwa [← Nat.add_assoc] at this
theorem Flat.fr5 {w : World} {b o n : Nat} {R : Nat → Int} (h : Flat w b o (n * 5) R) {k : Nat} (hk : k < n) (j : Nat) (hj : j < 5) : w.frozen? ⟨b, o + k * 5 + j, none⟩ = false := by
  have := (h (k * 5 + j) (by omega)).2
  rwa [← Nat.add_assoc] at this

/-- A store into one cell of it. -/
theorem Flat.set {w : World} {b o m : Nat} {R : Nat → Int} (h : Flat w b o m R) (t : Nat) (ht : t < m) {a : Nat} (ha : a = o + t) (x : Int) : Flat (w.setCell ⟨b, a, none⟩ (.int .i64 x)) b o m (fun i => if i = t then x else R i) := by
  subst ha
  intro i hi
  refine ⟨?_, by rw [World.frozen?_setCell]; exact (h i hi).2⟩
  show _ = some (Value.int .i64 (if i = t then x else R i))
  by_cases e : i = t
  · subst e
    rw [if_pos rfl]
    exact World.cell?_setCell_same' _ _ _ (by rw [(h i hi).1]; rfl)
  · rw [if_neg e, World.cell?_setCell_other _ _ _ _ (by intro c; have := congrArg Addr.off c; simp at this; omega)]
    exact (h i hi).1

/-- A row of m ints that is read alone. -/
def Rdb (w : World) (b o m : Nat) (R : Nat → Int) : Prop := ∀ i, i < m → w.cell? ⟨b, o + i, none⟩ = some (.int .i64 (R i))
theorem Flat.rd {w : World} {b o m : Nat} {R : Nat → Int} (h : Flat w b o m R) : Rdb w b o m R := fun i hi => (h i hi).1
theorem Rdb.below {w w' : World} {b o m B : Nat} {R : Nat → Int} (h : Rdb w b o m R) (hb : Below B w w') (hlt : b < B) : Rdb w' b o m R := fun i hi => (hb.cell (p := ⟨b, o + i, none⟩) hlt).trans (h i hi)
theorem Rdb.drew {w : World} {b o m : Nat} {R : Nat → Int} (h : Rdb w b o m R) : Rdb w.drew b o m R := h
theorem Rdb.at5 {w : World} {b o n : Nat} {R : Nat → Int} (h : Rdb w b o (n * 5) R) {k : Nat} (hk : k < n) (j : Nat) (hj : j < 5) : w.cell? ⟨b, o + k * 5 + j, none⟩ = some (.int .i64 (R (k * 5 + j))) := by
  have := h (k * 5 + j) (by omega)
  rwa [← Nat.add_assoc] at this
theorem Rdb.five {w : World} {b o n : Nat} {R : Nat → Int} (h : Rdb w b o (n * 5) R) {k : Nat} (hk : k < n) :
    w.cell? ⟨b, o + k * 5, none⟩ = some (.int .i64 (R (k * 5))) ∧ w.cell? ⟨b, o + k * 5 + 1, none⟩ = some (.int .i64 (R (k * 5 + 1))) ∧ w.cell? ⟨b, o + k * 5 + 2, none⟩ = some (.int .i64 (R (k * 5 + 2))) ∧
      w.cell? ⟨b, o + k * 5 + 3, none⟩ = some (.int .i64 (R (k * 5 + 3))) ∧ w.cell? ⟨b, o + k * 5 + 4, none⟩ = some (.int .i64 (R (k * 5 + 4))) :=
  ⟨h.at5 hk 0 (by omega), h.at5 hk 1 (by omega), h.at5 hk 2 (by omega), h.at5 hk 3 (by omega), h.at5 hk 4 (by omega)⟩

/-- A list of n instructions: where it is not empty its cells lie in a block. -/
def ListAt (w : World) (p : Option Addr) (n : Nat) (R : Nat → Int) : Prop := n = 0 ∨ ∃ b o, p = some ⟨b, o, none⟩ ∧ b < w.heap.size ∧ Rdb w b o (n * 5) R
theorem ListAt.below {w w' : World} {p : Option Addr} {n : Nat} {R : Nat → Int} (h : ListAt w p n R) (hb : Below w.heap.size w w') : ListAt w' p n R := by
  rcases h with h | ⟨b, o, e, hlt, hf⟩
  · exact .inl h
  · exact .inr ⟨b, o, e, Nat.lt_of_lt_of_le hlt hb.size, hf.below hb hlt⟩

set_option maxHeartbeats 2000000 in
theorem eqList (p q : Option Addr) (n c d : Nat) (R : Nat → Int) (w : World) (hn : n ≤ 2000000) (hp : ListAt w p n R) (hq : ListAt w q n R) :
    Calls Tryd.prog 12 #[.slice p n c, .slice q n d] w fun e w' => e = .returned (.bool true) ∧ Below w.heap.size w w' := by
  go_enter Tryd.func12, Tryd.ntmps12
  go_wp2
  go_loopw [5] (fun i wr => ∃ k : Nat, k ≤ n ∧ i = .int .i64 k ∧ Below w.heap.size w wr) (fun i _ => n - (intOf i).toNat)
  case atStart => exact ⟨0, Nat.zero_le _, rfl, Below.refl _ _⟩
  case round =>
    obtain ⟨k, hk, rfl, hB⟩ := hrel
    by_cases hlt : k < n
    · rcases hp with hp | ⟨b, o, rfl, hb, hp⟩
      · omega
      rcases hq with hq | ⟨b', o', rfl, hb', hq⟩
      · omega
      have hx := hp.below hB hb
      have hy := hq.below hB hb'
      have x0 := hx.at5 hlt 0 (by omega)
      have x1 := hx.at5 hlt 1 (by omega)
      have x2 := hx.at5 hlt 2 (by omega)
      have x3 := hx.at5 hlt 3 (by omega)
      have x4 := hx.at5 hlt 4 (by omega)
      have y0 := hy.at5 hlt 0 (by omega)
      have y1 := hy.at5 hlt 1 (by omega)
      have y2 := hy.at5 hlt 2 (by omega)
      have y3 := hy.at5 hlt 3 (by omega)
      have y4 := hy.at5 hlt 4 (by omega)
      rw [Nat.add_zero] at x0 y0
      clear hx hy hp hq
      go_wp2
      go_region_with ((go_at_call 32; refine (eqI _ _ _ _ _ _).mono ?_; rintro e w1 ⟨rfl, hb1⟩))
      all_goals
        have hbw : Below w.heap.size w w1 := by
          first
            | exact hB.trans (hb1.mono (by have := hB.size; simp; omega))
            | exact hB.drew.trans (hb1.mono (by have := hB.size; simp; omega))
        go_wp2
        go_roundw
        case rel => exact ⟨k + 1, by omega, by go_num, hbw⟩
        case measure => simp [intOf]; omega
    · go_wp2
      go_ret
      exact ⟨rfl, hB⟩

set_option maxHeartbeats 2000000 in
/-- Marked: the cells count on from s; no block but b is touched. -/
theorem markList (b o n c : Nat) (s : Nat) (R : Nat → Int) (w : World) (hn : n ≤ 1000) (hs : s ≤ 1000000) (hb : b < w.heap.size) (hp : Flat w b o (n * 5) R) :
    Calls Tryd.prog 15 #[.slice (some ⟨b, o, none⟩) n c, .int .i64 s] w fun e w' => e = .returned (.int .i64 ((s + n * 5 : Nat) : Int)) ∧ Below b w w' ∧ w'.heap.size = w.heap.size ∧ Flat w' b o (n * 5) (fun i => ((s + i : Nat) : Int)) := by
  go_enter Tryd.func15, Tryd.ntmps15
  go_wp2
  go_loopw [1, 5] (fun m i wr => ∃ k : Nat, k ≤ n ∧ i = .int .i64 k ∧ m = .int .i64 ((s + k * 5 : Nat) : Int) ∧ Below b w wr ∧ wr.heap.size = w.heap.size ∧ Flat wr b o (n * 5) (fun i => if i < k * 5 then ((s + i : Nat) : Int) else R i)) (fun _ i _ => n - (intOf i).toNat)
  case atStart => exact ⟨0, Nat.zero_le _, rfl, by simp, Below.refl _ _, rfl, hp.congr (by intro i hi; simp)⟩
  case round =>
    obtain ⟨k, hk, rfl, rfl, hB, hz, hf⟩ := hrel
    by_cases hlt : k < n
    · have x0 := hf.at5 hlt 0 (by omega)
      have x1 := hf.at5 hlt 1 (by omega)
      have x2 := hf.at5 hlt 2 (by omega)
      have x3 := hf.at5 hlt 3 (by omega)
      have x4 := hf.at5 hlt 4 (by omega)
      have f0 := hf.fr5 hlt 0 (by omega)
      have f1 := hf.fr5 hlt 1 (by omega)
      have f2 := hf.fr5 hlt 2 (by omega)
      have f3 := hf.fr5 hlt 3 (by omega)
      have f4 := hf.fr5 hlt 4 (by omega)
      rw [Nat.add_zero] at x0 f0
      go_wp2
      have F5 := ((((hf.set (k * 5) (by omega) rfl ((s : Int) + (k : Int) * 5)).set (k * 5 + 1) (by omega) (a := o + k * 5 + 1) (by omega) ((s : Int) + (k : Int) * 5 + 1)).set (k * 5 + 2) (by omega) (a := o + k * 5 + 2) (by omega) ((s : Int) + (k : Int) * 5 + 1 + 1)).set (k * 5 + 3) (by omega) (a := o + k * 5 + 3) (by omega) ((s : Int) + (k : Int) * 5 + 1 + 1 + 1)).set (k * 5 + 4) (by omega) (a := o + k * 5 + 4) (by omega) ((s : Int) + (k : Int) * 5 + 1 + 1 + 1 + 1)
      have B5 := ((((hB.setCell (p := ⟨b, o + k * 5, none⟩) (Nat.le_refl _) (.int .i64 ((s : Int) + (k : Int) * 5))).setCell (p := ⟨b, o + k * 5 + 1, none⟩) (Nat.le_refl _) (.int .i64 ((s : Int) + (k : Int) * 5 + 1))).setCell (p := ⟨b, o + k * 5 + 2, none⟩) (Nat.le_refl _) (.int .i64 ((s : Int) + (k : Int) * 5 + 1 + 1))).setCell (p := ⟨b, o + k * 5 + 3, none⟩) (Nat.le_refl _) (.int .i64 ((s : Int) + (k : Int) * 5 + 1 + 1 + 1))).setCell (p := ⟨b, o + k * 5 + 4, none⟩) (Nat.le_refl _) (.int .i64 ((s : Int) + (k : Int) * 5 + 1 + 1 + 1 + 1))
      refine ⟨⟨k + 1, by omega, by go_num, ?_, B5, by simp [hz], F5.congr ?_⟩, by simp [intOf]; omega⟩
      · congr 1; omega
      · intro i hi
        repeat' split
        all_goals omega
    · go_wp2
      obtain rfl : k = n := by omega
      go_ret
      exact ⟨rfl, hB, hz, hf.congr (by intro i hi; rw [if_pos hi])⟩

set_option maxHeartbeats 2000000 in
/-- Held against its marks. -/
theorem heldList (b o n c : Nat) (s : Nat) (w : World) (hn : n ≤ 1000) (hs : s ≤ 1000000) (hp : Flat w b o (n * 5) (fun i => ((s + i : Nat) : Int))) :
    Calls Tryd.prog 16 #[.slice (some ⟨b, o, none⟩) n c, .int .i64 s] w fun e w' => e = .returned (.int .i64 ((s + n * 5 : Nat) : Int)) ∧ w' = w := by
  go_enter Tryd.func16, Tryd.ntmps16
  go_wp2
  go_loop [1, 5] (fun m i => ∃ k : Nat, k ≤ n ∧ i = .int .i64 k ∧ m = .int .i64 ((s + k * 5 : Nat) : Int)) (fun _ i => n - (intOf i).toNat)
  case atStart => exact ⟨0, Nat.zero_le _, rfl, by simp⟩
  case round =>
    obtain ⟨k, hk, rfl, rfl⟩ := hrel
    by_cases hlt : k < n
    · have x0 := hp.at5 hlt 0 (by omega)
      have x1 := hp.at5 hlt 1 (by omega)
      have x2 := hp.at5 hlt 2 (by omega)
      have x3 := hp.at5 hlt 3 (by omega)
      have x4 := hp.at5 hlt 4 (by omega)
      have e0 : ((s + (k * 5 + 0) : Nat) : Int) = (s : Int) + (k : Int) * 5 := by omega
      have e1 : ((s + (k * 5 + 1) : Nat) : Int) = (s : Int) + (k : Int) * 5 + 1 := by omega
      have e2 : ((s + (k * 5 + 2) : Nat) : Int) = (s : Int) + (k : Int) * 5 + 1 + 1 := by omega
      have e3 : ((s + (k * 5 + 3) : Nat) : Int) = (s : Int) + (k : Int) * 5 + 1 + 1 + 1 := by omega
      have e4 : ((s + (k * 5 + 4) : Nat) : Int) = (s : Int) + (k : Int) * 5 + 1 + 1 + 1 + 1 := by omega
      rw [e0, Nat.add_zero] at x0
      rw [e1] at x1
      rw [e2] at x2
      rw [e3] at x3
      rw [e4] at x4
      clear e0 e1 e2 e3 e4
      go_wp2
      go_round
      case rel => exact ⟨k + 1, by omega, by go_num, by congr 1; omega⟩
      case measure => simp [intOf]; omega
    · go_wp2
      obtain rfl : k = n := by omega
      go_ret
      exact ⟨rfl, rfl⟩

/-- An empty list: nothing is marked, nothing is held. -/
theorem markNil (p : Option Addr) (c : Nat) (s : Int) (w : World) :
    Calls Tryd.prog 15 #[.slice p 0 c, .int .i64 s] w fun e w' => e = .returned (.int .i64 s) ∧ w' = w := by
  go_enter Tryd.func15, Tryd.ntmps15
  go_wp2
  go_loop [1, 5] (fun m i => i = .int .i64 0 ∧ m = .int .i64 s) (fun _ _ => 0)
  case atStart => exact ⟨rfl, rfl⟩
  case round =>
    obtain ⟨rfl, rfl⟩ := hrel
    go_wp2
    go_ret
    exact ⟨rfl, rfl⟩
theorem heldNil (p : Option Addr) (c : Nat) (s : Int) (w : World) :
    Calls Tryd.prog 16 #[.slice p 0 c, .int .i64 s] w fun e w' => e = .returned (.int .i64 s) ∧ w' = w := by
  go_enter Tryd.func16, Tryd.ntmps16
  go_wp2
  go_loop [1, 5] (fun m i => i = .int .i64 0 ∧ m = .int .i64 s) (fun _ _ => 0)
  case atStart => exact ⟨rfl, rfl⟩
  case round =>
    obtain ⟨rfl, rfl⟩ := hrel
    go_wp2
    go_ret
    exact ⟨rfl, rfl⟩
end Go.Proofs.YtjokgiefnlpfkaaDoor

namespace Go.Proofs.YtjokgiefnlpfkaaDoor
open Go.RowKit
set_option linter.unusedVariables false
section
variable {P : Program}

/-- The block's cells. -/
def Lies (w : World) (g : Nat) (t : TypeId) (cs : Array Value) : Prop := w.heap[g]? = some (.cells cs t (0, 0))
theorem Lies.lt {w : World} {g : Nat} {t : TypeId} {cs : Array Value} (h : Lies w g t cs) : g < w.heap.size := (Array.getElem?_eq_some_iff.1 h).1
theorem Lies.cell {w : World} {g : Nat} {t : TypeId} {cs : Array Value} (h : Lies w g t cs) {j : Nat} {v : Value} (hv : cs[j]? = some v) : w.cell? ⟨g, j, none⟩ = some v := by
  rw [cell_of_row w g j cs t (0, 0) h]; exact hv
theorem Lies.fro {w : World} {g : Nat} {t : TypeId} {cs : Array Value} (h : Lies w g t cs) (j : Nat) : w.frozen? ⟨g, j, none⟩ = false := frozen_of_row w g j cs t h
theorem Lies.new (w : World) (cs : Array Value) (t : TypeId) : Lies (w.alloc (.cells cs t)) w.heap.size t cs := heap_alloc_new w _
theorem Lies.newAt (w : World) (cs : Array Value) (t : TypeId) {g : Nat} (hg : g = w.heap.size) : Lies (w.alloc (.cells cs t)) g t cs := by subst hg; exact heap_alloc_new w _
theorem Lies.alloc {w : World} {g : Nat} {t : TypeId} {cs : Array Value} (h : Lies w g t cs) (o : Obj) : Lies (w.alloc o) g t cs := by
  unfold Lies; rw [Below.heap_alloc w o g h.lt]; exact h
theorem Lies.drew {w : World} {g : Nat} {t : TypeId} {cs : Array Value} (h : Lies w g t cs) : Lies w.drew g t cs := h
theorem Lies.below {w w' : World} {g B : Nat} {t : TypeId} {cs : Array Value} (h : Lies w g t cs) (hb : Below B w w') (hg : g < B) : Lies w' g t cs := by
  unfold Lies; rw [hb.block g hg]; exact h
theorem Lies.set {w : World} {g : Nat} {t : TypeId} {cs : Array Value} (h : Lies w g t cs) (new : Array Value) : Lies (w.setRow g new) g t new := setRow_heap w g cs new t (0, 0) h
theorem Lies.other {w : World} {g : Nat} {t : TypeId} {cs : Array Value} (h : Lies w g t cs) {k : Nat} (hk : g ≠ k) (new : Array Value) : Lies (w.setRow k new) g t cs := by
  unfold Lies; rw [setRow_other w k g new hk]; exact h
theorem Lies.put {w : World} {g : Nat} {t : TypeId} {cs : Array Value} (h : Lies w g t cs) (j : Nat) (v : Value) : Lies (w.setCell ⟨g, j, none⟩ v) g t (cs.setIfInBounds j v) := by
  rw [setCell_eq_setRow w g j cs t (0, 0) v h]; exact h.set _
theorem Lies.putOther {w : World} {g : Nat} {t : TypeId} {cs : Array Value} (h : Lies w g t cs) {a : Addr} (hk : g ≠ a.block) (v : Value) : Lies (w.setCell a v) g t cs := by
  unfold Lies; rw [Below.heap_setCell w a v g hk]; exact h

/-- A part of a block is loaded. -/
theorem wpList_load_part {ops : Array Oper} {rest : List Oper} {op : Oper} {a : Act} {w : World} {Q : Exit → Act → World → Prop} (hgd : op.guard = none) (ty : TypeId) (x : Operand) (ho : op.op = .load ty x)
    (g o n : Nat) (hx : a.eval x = .pointer (some ⟨g, o, none⟩)) (t : TypeId) (cur : Array Value) (hb : Lies w g t cur) (d : TypeDesc)
    (hu : P.underlying ty = some d) (hd : d.isRow = true) (hi : (P.info? ty).map (·.size) = some n) (hn : o + n ≤ cur.size) (out : Array Value) (hout : cur.extract o (o + n) = out)
    (h : wpList P ops Q rest (a.put op.dst (.agg out)) w) : wpList P ops Q (op :: rest) a w := by
  subst hout
  have hl : (cur.extract o (o + n)).toList.length = n := by simp; omega
  have := wpList_load_mid (P := P) (ops := ops) (rest := rest) (op := op) (a := a) (w := w) (Q := Q) hgd ty x ho g o hx (cur.extract o (o + n)).toList d (World.rangeAt_of_block hb o n) hu hd (by rw [hl]; exact hi) (by rw [Array.toArray_toList]; exact h)
  exact this

/-- A value of many cells goes into a part of a block. -/
theorem run_storeVar_part (w : World) (g o : Nat) (t ty : TypeId) (cur vs : Array Value) (hb : Lies w g t cur) (hi : (P.info? ty).map (·.size) = some vs.size) (hn : o + vs.size ≤ cur.size) (h1 : vs.all (·.oneCell') = true) :
    (storeVar ty ⟨g, o, none⟩ (.agg vs)).run P w = .ok () (w.setRow g (cur.toList.take o ++ vs.toList ++ cur.toList.drop (o + vs.size)).toArray) := by
  have := run_storeCells_at (P := P) g o t vs.toList 0 cur w hb (by simpa using hn) (fun v hv => (Array.all_eq_true_iff_forall_mem.1 h1) v (by simpa using hv))
  cases hq : P.info? ty with
  | none => simp [hq] at hi
  | some i =>
    have hs : vs.size = i.size := by simp [hq] at hi; omega
    simp only [Nat.add_zero, Array.length_toList] at this
    simp [storeVar, sizeOf, typeInfo, hq, Value.cells, hs, this]

theorem wpList_store_part {ops : Array Oper} {rest : List Oper} {op : Oper} {a : Act} {w : World} {Q : Exit → Act → World → Prop} (hgd : op.guard = none) (ty : TypeId) (x y : Operand) (ho : op.op = .store ty x y)
    (g o : Nat) (vs : Array Value) (hx : a.eval x = .pointer (some ⟨g, o, none⟩)) (hy : a.eval y = .agg vs) (t : TypeId) (cur : Array Value) (hb : Lies w g t cur)
    (hi : (P.info? ty).map (·.size) = some vs.size) (hn : o + vs.size ≤ cur.size) (h1 : vs.all (·.oneCell') = true) (new : Array Value) (hnew : (cur.toList.take o ++ vs.toList ++ cur.toList.drop (o + vs.size)).toArray = new)
    (h : wpList P ops Q rest (a.put op.dst undef) (w.setRow g new)) : wpList P ops Q (op :: rest) a w := by
  subst hnew
  refine wpList_plain hgd fun _ hK => ?_
  unfold Oper.wp execOp
  simp only [ho, hx, hy, Instr.storeAt, Instr.sureAddr, Sem.run_bind, Sem.run_pure, Result.andThen_ok, run_storeVar_part w g o t ty cur vs hb hi hn h1]
  exact hK _ _ h

theorem wpList_store_all {ops : Array Oper} {rest : List Oper} {op : Oper} {a : Act} {w : World} {Q : Exit → Act → World → Prop} (hgd : op.guard = none) (ty : TypeId) (x y : Operand) (ho : op.op = .store ty x y)
    (g : Nat) (vs : Array Value) (hx : a.eval x = .pointer (some ⟨g, 0, none⟩)) (hy : a.eval y = .agg vs) (t : TypeId) (cur : Array Value) (hb : Lies w g t cur)
    (hi : (P.info? ty).map (·.size) = some vs.size) (hn : cur.size = vs.size) (h1 : vs.all (·.oneCell') = true)
    (h : wpList P ops Q rest (a.put op.dst undef) (w.setRow g vs)) : wpList P ops Q (op :: rest) a w :=
  wpList_store_row hgd ty x y ho g vs hx hy t cur hb hi hn h1 h

/-- A struct, or a row, that is the result. -/
theorem results_lies {fn : Func} {p : Tmp} {ty : TypeId} (h : fn.results = #[.cell p ty]) (tmps : Array Value) (w : World) (g : Nat) (t : TypeId) (cs : Array Value) (d : TypeDesc)
    (hp : tmps.getD p undef = .pointer (some ⟨g, 0, none⟩)) (hb : Lies w g t cs) (hu : P.underlying ty = some d) (hd : d.isRow = true) (hi : (P.info? ty).map (·.size) = some cs.size) :
    (results fn tmps).run P w = .ok (.agg cs) w :=
  results_cell_row h tmps w g t cs (0, 0) d hp hb hu (by cases d <;> simp_all) hi
end
end Go.Proofs.YtjokgiefnlpfkaaDoor

namespace Go.Proofs.YtjokgiefnlpfkaaDoor
open Go.RowKit
set_option linter.unusedVariables false

theorem spIn (x low high : Int) (w : World) (b : Bool) (h : (b = true ∧ low ≤ x ∧ x ≤ high) ∨ (b = false ∧ (x < low ∨ high < x))) :
    Calls Tryd.prog 41 #[.int .i64 x, .int .i64 low, .int .i64 high] w fun e w' => e = .returned (.bool b) ∧ w' = w := by
  rcases h with ⟨rfl, h0, h1⟩ | ⟨rfl, h⟩
  · go_enter Tryd.func41, Tryd.ntmps41
    go_wp2
    go_ret
    refine ⟨congrArg (fun x => Ending.returned (.bool x)) ?_, rfl⟩
    first | rfl | (simp; done) | (simp; omega)
  · by_cases h0 : x < low
    · go_enter Tryd.func41, Tryd.ntmps41
      go_wp2
      go_ret
      refine ⟨congrArg (fun x => Ending.returned (.bool x)) ?_, rfl⟩
      first | rfl | (simp; done) | (simp; omega)
    · have h1 : high < x := by omega
      clear h
      go_enter Tryd.func41, Tryd.ntmps41
      go_wp2
      go_ret
      refine ⟨congrArg (fun x => Ending.returned (.bool x)) ?_, rfl⟩
      first | rfl | (simp; done) | (simp; omega)

end Go.Proofs.YtjokgiefnlpfkaaDoor

namespace Go.Proofs.YtjokgiefnlpfkaaDoor
open Go.RowKit

/-- An integer of 64 bits. -/
def In64 (a : Int) : Prop := -9223372036854775808 ≤ a ∧ a ≤ 9223372036854775807
theorem in64_wrap (a : Int) : In64 (wrap64 a) := by unfold In64 wrap64; omega
theorem in64_of {a : Int} (h : (Lit.int .i64 a).wf = true) : In64 a := by
  have h := (Lit.wf_int_iff _ _).1 h
  rw [IntKind.min_i64, IntKind.max_i64] at h
  exact h
end Go.Proofs.YtjokgiefnlpfkaaDoor

namespace Go.Proofs.YtjokgiefnlpfkaaDoor
open Go Go.RowKit
set_option linter.unusedVariables false

def frB (f : Int) : Bool := decide (16 ≤ f ∧ f ≤ 128 ∧ f % 16 = 0)

theorem frImpl (f : Int) (w : World) (hw : (Lit.int .i64 f).wf = true) :
    Calls Tryd.prog 66 #[.int .i64 f] w fun e w' => e = .returned (.bool (frB f)) ∧ w' = w := by
  by_cases h0 : 16 ≤ f
  · by_cases h1 : f ≤ 128
    · by_cases h2 : f % 16 = 0
      · have e : frB f = true := by simp [frB, h0, h1, h2]
        rw [e]
        go_enter Tryd.func66, Tryd.ntmps66
        go_wp2
        go_ret
        exact ⟨rfl, rfl⟩
      · have e : frB f = false := by simp [frB, h0, h1, h2]
        rw [e]
        go_enter Tryd.func66, Tryd.ntmps66
        go_wp2
        go_ret
        exact ⟨congrArg (fun x => Ending.returned (.bool x)) (by simp [h2]), rfl⟩
    · have e : frB f = false := by simp [frB, h0, h1]
      rw [e]
      go_enter Tryd.func66, Tryd.ntmps66
      go_wp2
      go_ret
      exact ⟨rfl, rfl⟩
  · have e : frB f = false := by simp [frB, h0]
    rw [e]
    go_enter Tryd.func66, Tryd.ntmps66
    go_wp2
    go_ret
    exact ⟨rfl, rfl⟩

theorem frSpec (f : Int) (w : World) (hw : (Lit.int .i64 f).wf = true) :
    Calls Tryd.prog 63 #[.int .i64 f] w fun e w' => e = .returned (.bool (frB f)) ∧ w' = w := by
  by_cases h : 16 ≤ f ∧ f ≤ 128
  · obtain ⟨h0, h1⟩ := h
    have e : frB f = (f % 16 == 0) := by
      simp only [frB, h0, h1, true_and]
      rfl
    rw [e]
    go_enter Tryd.func63, Tryd.ntmps63
    go_wp2_with (go_at_call 41; refine (spIn _ _ _ _ true (.inl ⟨rfl, h0, h1⟩)).mono ?_; rintro e w' ⟨rfl, rfl⟩)
    go_ret
    exact ⟨rfl, rfl⟩
  · have h' : f < 16 ∨ 128 < f := by omega
    have e : frB f = false := by simp only [frB, decide_eq_false_iff_not]; omega
    rw [e]
    go_enter Tryd.func63, Tryd.ntmps63
    go_wp2_with (go_at_call 41; refine (spIn _ _ _ _ false (.inr ⟨rfl, h'⟩)).mono ?_; rintro e w' ⟨rfl, rfl⟩)
    go_ret
    exact ⟨rfl, rfl⟩

/-- Every Int as a number of 64 bits. -/
def proR (f : Int) (i : Nat) : Int := [22, 2, 2, 0, -f, 21, 0, 2, 1, f - 8].getD i 0
def epiR (f : Int) (i : Nat) : Int := [14, 1, 2, 0, f - 8, 22, 2, 2, 0, f, 4, 0, 1, 0, 0].getD i 0

/-- A block of ints that was just laid. -/
theorem Flat.new (w : World) (cs : Array Value) (t : TypeId) (m : Nat) (R : Nat → Int) (h : ∀ i, i < m → cs[i]? = some (Value.int .i64 (R i))) : Flat (w.alloc (.cells cs t)) w.heap.size 0 m R := by
  intro i hi
  have hb : (w.alloc (.cells cs t)).heap[w.heap.size]? = some (.cells cs t (0, 0)) := heap_alloc_new w _
  rw [Nat.zero_add]
  exact ⟨by rw [cell_of_row _ _ i cs t (0, 0) hb]; exact h i hi, frozen_of_row _ _ i cs t hb⟩
theorem pro_cells (f : Int) : ∀ i, i < 10 → (#[.int .i64 22, .int .i64 2, .int .i64 2, .int .i64 0, .int .i64 (-f), .int .i64 21, .int .i64 0, .int .i64 2, .int .i64 1, .int .i64 (f - 8)] : Array Value)[i]? = some (Value.int .i64 (proR f i)) := by
  intro i hi
  have : i = 0 ∨ i = 1 ∨ i = 2 ∨ i = 3 ∨ i = 4 ∨ i = 5 ∨ i = 6 ∨ i = 7 ∨ i = 8 ∨ i = 9 := by omega
  rcases this with rfl | rfl | rfl | rfl | rfl | rfl | rfl | rfl | rfl | rfl <;> rfl
theorem epi_cells (f : Int) : ∀ i, i < 15 → (#[.int .i64 14, .int .i64 1, .int .i64 2, .int .i64 0, .int .i64 (f - 8), .int .i64 22, .int .i64 2, .int .i64 2, .int .i64 0, .int .i64 f, .int .i64 4, .int .i64 0, .int .i64 1, .int .i64 0, .int .i64 0] : Array Value)[i]? = some (Value.int .i64 (epiR f i)) := by
  intro i hi
  have : i = 0 ∨ i = 1 ∨ i = 2 ∨ i = 3 ∨ i = 4 ∨ i = 5 ∨ i = 6 ∨ i = 7 ∨ i = 8 ∨ i = 9 ∨ i = 10 ∨ i = 11 ∨ i = 12 ∨ i = 13 ∨ i = 14 := by omega
  rcases this with rfl | rfl | rfl | rfl | rfl | rfl | rfl | rfl | rfl | rfl | rfl | rfl | rfl | rfl | rfl <;> rfl
theorem frB_bd {f : Int} (h : frB f = true) : 16 ≤ f ∧ f ≤ 128 ∧ (Lit.int .i64 f).wf = true := by
  have h' : 16 ≤ f ∧ f ≤ 128 := by simp only [frB, decide_eq_true_eq] at h; omega
  exact ⟨h'.1, h'.2, (Lit.wf_int_iff _ _).2 (by rw [IntKind.min_i64, IntKind.max_i64]; omega)⟩
theorem grown1 (w : World) (o : Obj) : Below w.heap.size w (w.alloc o) := (Below.refl _ _).alloc (Nat.le_refl _) _

theorem proImpl (f : Int) (w : World) (h : frB f = true) :
    Calls Tryd.prog 68 #[.int .i64 f] w fun e w' => ∃ g, e = .returned (.tuple #[.slice (some ⟨g, 0, none⟩) 2 2, .int .i64 0]) ∧ Below w.heap.size w w' ∧ w.heap.size ≤ g ∧ g < w'.heap.size ∧ Flat w' g 0 (2 * 5) (proR f) := by
  obtain ⟨h0, h1, hw⟩ := frB_bd h
  go_enter Tryd.func68, Tryd.ntmps68
  go_wp2_with (go_at_call 66; refine (frImpl f _ hw).mono ?_; rintro e w' ⟨rfl, rfl⟩; rw [h])
  go_ret2
  exact ⟨_, rfl, grown1 _ _, Nat.le_refl _, by simp, Flat.new _ _ _ _ _ (pro_cells f)⟩
theorem epiImpl (f : Int) (w : World) (h : frB f = true) :
    Calls Tryd.prog 67 #[.int .i64 f] w fun e w' => ∃ g, e = .returned (.tuple #[.slice (some ⟨g, 0, none⟩) 3 3, .int .i64 0]) ∧ Below w.heap.size w w' ∧ w.heap.size ≤ g ∧ g < w'.heap.size ∧ Flat w' g 0 (3 * 5) (epiR f) := by
  obtain ⟨h0, h1, hw⟩ := frB_bd h
  go_enter Tryd.func67, Tryd.ntmps67
  go_wp2_with (go_at_call 66; refine (frImpl f _ hw).mono ?_; rintro e w' ⟨rfl, rfl⟩; rw [h])
  go_ret2
  exact ⟨_, rfl, grown1 _ _, Nat.le_refl _, by simp, Flat.new _ _ _ _ _ (epi_cells f)⟩
theorem proNo (f : Int) (w : World) (hw : (Lit.int .i64 f).wf = true) (h : frB f = false) :
    Calls Tryd.prog 68 #[.int .i64 f] w fun e w' => e = .returned (.tuple #[.slice none 0 0, .int .i64 17]) ∧ w' = w := by
  go_enter Tryd.func68, Tryd.ntmps68
  go_wp2_with (go_at_call 66; refine (frImpl f _ hw).mono ?_; rintro e w' ⟨rfl, rfl⟩; rw [h])
  go_ret2
  exact ⟨rfl, rfl⟩
theorem epiNo (f : Int) (w : World) (hw : (Lit.int .i64 f).wf = true) (h : frB f = false) :
    Calls Tryd.prog 67 #[.int .i64 f] w fun e w' => e = .returned (.tuple #[.slice none 0 0, .int .i64 17]) ∧ w' = w := by
  go_enter Tryd.func67, Tryd.ntmps67
  go_wp2_with (go_at_call 66; refine (frImpl f _ hw).mono ?_; rintro e w' ⟨rfl, rfl⟩; rw [h])
  go_ret2
  exact ⟨rfl, rfl⟩

theorem proSpec0 (f : Int) (w : World) (h : frB f = true) :
    Calls Tryd.prog 64 #[.int .i64 f] w fun e w' => ∃ g, e = .returned (.slice (some ⟨g, 0, none⟩) 2 2) ∧ Below w.heap.size w w' ∧ w.heap.size ≤ g ∧ g < w'.heap.size ∧ Flat w' g 0 (2 * 5) (proR f) := by
  obtain ⟨h0, h1, hw⟩ := frB_bd h
  go_enter Tryd.func64, Tryd.ntmps64
  go_wp2
  go_ret
  exact ⟨_, rfl, grown1 _ _, Nat.le_refl _, by simp, Flat.new _ _ _ _ _ (pro_cells f)⟩
theorem epiSpec0 (f : Int) (w : World) (h : frB f = true) :
    Calls Tryd.prog 115 #[.int .i64 f] w fun e w' => ∃ g, e = .returned (.slice (some ⟨g, 0, none⟩) 3 3) ∧ Below w.heap.size w w' ∧ w.heap.size ≤ g ∧ g < w'.heap.size ∧ Flat w' g 0 (3 * 5) (epiR f) := by
  obtain ⟨h0, h1, hw⟩ := frB_bd h
  go_enter Tryd.func115, Tryd.ntmps115
  go_wp2
  go_ret
  exact ⟨_, rfl, grown1 _ _, Nat.le_refl _, by simp, Flat.new _ _ _ _ _ (epi_cells f)⟩
end Go.Proofs.YtjokgiefnlpfkaaDoor

namespace Go.Proofs.YtjokgiefnlpfkaaDoor
open Go Go.RowKit

/-- An epilogue of frame f begins at i. -/
def epB (R : Nat → Int) (N : Nat) (f : Int) (i : Nat) : Bool := decide (2 ≤ i ∧ i + 3 ≤ N) && (List.range 15).all fun j => R (i * 5 + j) == epiR f j
theorem epB_iff {R : Nat → Int} {N : Nat} {f : Int} {i : Nat} : epB R N f i = true ↔ (2 ≤ i ∧ i + 3 ≤ N) ∧ ∀ j, j < 15 → R (i * 5 + j) = epiR f j := by
  unfold epB
  rw [Bool.and_eq_true, decide_eq_true_eq, List.all_eq_true]
  constructor
  · exact fun ⟨h, k⟩ => ⟨h, fun j hj => by simpa using k j (by simpa using hj)⟩
  · exact fun ⟨h, k⟩ => ⟨h, fun j hj => by simpa using k j (by simpa using hj)⟩
theorem epB_low {R : Nat → Int} {N : Nat} {f : Int} {i : Nat} (h : i < 2 ∨ N < i + 3) : epB R N f i = false := by
  cases e : epB R N f i with
  | false => rfl
  | true => have := (epB_iff.1 e).1; omega
theorem epB_next {R : Nat → Int} {N : Nat} {f : Int} {i : Nat} (h : epB R N f i = true) : epB R N f (i + 1) = false := by
  cases e : epB R N f (i + 1) with
  | false => rfl
  | true =>
    have h1 := (epB_iff.1 h).2 5 (by omega)
    have h2 := (epB_iff.1 e).2 0 (by omega)
    rw [show (i + 1) * 5 + 0 = i * 5 + 5 from by omega, h1] at h2
    simp [epiR] at h2
theorem epB_next2 {R : Nat → Int} {N : Nat} {f : Int} {i : Nat} (h : epB R N f i = true) : epB R N f (i + 2) = false := by
  cases e : epB R N f (i + 2) with
  | false => rfl
  | true =>
    have h1 := (epB_iff.1 h).2 10 (by omega)
    have h2 := (epB_iff.1 e).2 0 (by omega)
    rw [show (i + 2) * 5 + 0 = i * 5 + 10 from by omega, h1] at h2
    simp [epiR] at h2

/-- Where instruction i stands in an epilogue, of those that begin ahead of m. -/
def partU (R : Nat → Int) (N : Nat) (f : Int) (m i : Nat) : Int :=
  if epB R N f i = true ∧ i < m then 1 else if epB R N f (i - 1) = true ∧ i - 1 < m then 2 else if epB R N f (i - 2) = true ∧ i - 2 < m then 3 else 0
def partI (R : Nat → Int) (N : Nat) (f : Int) (i : Nat) : Int := if epB R N f i = true then 1 else if epB R N f (i - 1) = true then 2 else if epB R N f (i - 2) = true then 3 else 0
theorem ep_at0 {R : Nat → Int} {N : Nat} {f : Int} {i : Nat} (h : epB R N f i = true) : 2 ≤ i := (epB_iff.1 h).1.1
/-- Of what begins one or two ahead, nothing begins here; .. -/
theorem ep_prev {R : Nat → Int} {N : Nat} {f : Int} {i : Nat} (h : epB R N f i = true) : epB R N f (i - 1) = false ∧ epB R N f (i - 2) = false := by
  have h2 := ep_at0 h
  constructor
  · cases e : epB R N f (i - 1) with
    | false => rfl
    | true => have := epB_next e; rw [show i - 1 + 1 = i from by omega, h] at this; cases this
  · cases e : epB R N f (i - 2) with
    | false => rfl
    | true => have := epB_next2 e; rw [show i - 2 + 2 = i from by omega, h] at this; cases this
theorem ep_prev1 {R : Nat → Int} {N : Nat} {f : Int} {i : Nat} (h : epB R N f (i - 1) = true) : epB R N f i = false ∧ epB R N f (i - 2) = false := by
  have h2 := ep_at0 h
  constructor
  · have := epB_next h; rwa [show i - 1 + 1 = i from by omega] at this
  · have := (ep_prev h).1; rwa [show i - 1 - 1 = i - 2 from by omega] at this
theorem ep_prev2 {R : Nat → Int} {N : Nat} {f : Int} {i : Nat} (h : epB R N f (i - 2) = true) : epB R N f i = false ∧ epB R N f (i - 1) = false := by
  have h2 := ep_at0 h
  constructor
  · have := epB_next2 h; rwa [show i - 2 + 2 = i from by omega] at this
  · have := epB_next h; rwa [show i - 2 + 1 = i - 1 from by omega] at this
theorem part_ret (R : Nat → Int) (N : Nat) (f : Int) (i : Nat) : (partI R N f i = 3) ↔ epB R N f (i - 2) = true := by
  unfold partI
  constructor
  · intro h
    split at h
    · omega
    · split at h
      · omega
      · split at h
        · assumption
        · omega
  · intro h
    obtain ⟨h0, h1⟩ := ep_prev2 h
    simp [h0, h1, h]
theorem part_go (R : Nat → Int) (N : Nat) (f : Int) (i : Nat) : (partI R N f i = 0 ∨ partI R N f i = 1) ↔ (epB R N f (i - 1) = false ∧ epB R N f (i - 2) = false) := by
  unfold partI
  by_cases h : epB R N f i = true
  · obtain ⟨h1, h2⟩ := ep_prev h
    simp [h, h1, h2]
  · by_cases h1 : epB R N f (i - 1) = true
    · simp [h, h1]
    · by_cases h2 : epB R N f (i - 2) = true
      · simp [h, h1, h2]
      · simp [h, h1, h2]
theorem part_one (R : Nat → Int) (N : Nat) (f : Int) (i : Nat) : partI R N f i = 1 ↔ epB R N f i = true := by
  unfold partI
  constructor
  · intro h
    split at h
    · assumption
    · split at h
      · omega
      · split at h <;> omega
  · intro h; rw [if_pos h]
theorem part_two (R : Nat → Int) (N : Nat) (f : Int) (i : Nat) : partI R N f i = 2 ↔ epB R N f (i - 1) = true := by
  unfold partI
  constructor
  · intro h
    split at h
    · omega
    · split at h
      · assumption
      · split at h <;> omega
  · intro h
    rw [(ep_prev1 h).1, if_neg (by simp), if_pos h]
theorem part_bd (R : Nat → Int) (N : Nat) (f : Int) (i : Nat) : 0 ≤ partI R N f i ∧ partI R N f i ≤ 3 := by
  unfold partI
  split
  · omega
  · split
    · omega
    · split <;> omega

/-- A jump from i by im bytes goes to where one may go. -/
def goB (R : Nat → Int) (N : Nat) (f : Int) (i : Nat) (im : Int) : Bool :=
  decide (im % 4 = 0) && (decide (2 ≤ (i : Int) + im / 4 ∧ (i : Int) + im / 4 < N) && (!epB R N f (((i : Int) + im / 4).toNat - 1) && !epB R N f (((i : Int) + im / 4).toNat - 2)))

/-- x is one of zs. -/
def hasB (zs : List Int) (x : Int) : Bool := zs.contains x
/-- The rule for instruction i behind the prologue. -/
def ruI (R : Nat → Int) (N : Nat) (f at' : Int) (zs : List Int) (wd : Int → Int) (i : Nat) : Int :=
  if R (i * 5) = 4 then (if epB R N f (i - 2) = true then 0 else 18)
  else if R (i * 5) = 3 then
    (if R (i * 5 + 1) = 1 then (if hasB zs (at' + 4 * i + R (i * 5 + 4)) = true then 0 else 20)
     else if R (i * 5 + 1) = 0 ∧ goB R N f i (R (i * 5 + 4)) = true then 0 else 19)
  else if 5 ≤ R (i * 5) ∧ R (i * 5) ≤ 10 then (if goB R N f i (R (i * 5 + 4)) = true then 0 else 19)
  else if (R (i * 5 + 1) = 1 ∧ epB R N f i = false) ∨ (R (i * 5 + 1) = 2 ∧ epB R N f (i - 1) = false) then 21
  else if (11 ≤ R (i * 5) ∧ R (i * 5) ≤ 21) ∧ R (i * 5 + 2) = 2 ∧ epB R N f i = false ∧ ¬ (0 ≤ R (i * 5 + 4) ∧ R (i * 5 + 4) ≤ f - 8 - wd (R (i * 5)) ∧ R (i * 5 + 4) % wd (R (i * 5)) = 0) then 17
  else 0
end Go.Proofs.YtjokgiefnlpfkaaDoor
