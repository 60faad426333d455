/- Lists of instructions in memory: what they hold; held against each other, marked, held against their marks. -/
import Derived.Test.YtepanogpojolfaaDoorRows
import Derived.WalkKit
import Derived.WalkSpells
import Derived.ProofKit
import Derived.Below
import Derived.LoopTactic
import Derived.Deep.RegionHeld3
import Derived.Deep.RegionWith
namespace Go.Proofs.YtepanogpojolfaaDoor
open Go Go.RowKit
set_option linter.unusedVariables false

theorem eqI (a0 a1 a2 a3 a4 : Int) (w : World) :
    Calls Tryd.prog 17 #[.agg #[.int .i64 a0, .int .i64 a1, .int .i64 a2, .int .i64 a3, .int .i64 a4], .agg #[.int .i64 a0, .int .i64 a1, .int .i64 a2, .int .i64 a3, .int .i64 a4]] w fun e w' => e = .returned (.bool true) ∧ Below w.heap.size w w' := by
  go_enter Tryd.func17, Tryd.ntmps17
  go_wp2
  go_ret
  exact ⟨rfl, ((Below.refl _ _).alloc (Nat.le_refl _) _).alloc (by simp) _⟩

/-- A row of m ints from cell o of block b on: R i at o + i. -/
def Flat (w : World) (b o m : Nat) (R : Nat → Int) : Prop := ∀ i, i < m → w.cell? ⟨b, o + i, none⟩ = some (.int .i64 (R i)) ∧ w.frozen? ⟨b, o + i, none⟩ = false
theorem Flat.below {w w' : World} {b o m B : Nat} {R : Nat → Int} (h : Flat w b o m R) (hb : Below B w w') (hlt : b < B) : Flat w' b o m R :=
  fun i hi => ⟨(hb.cell (p := ⟨b, o + i, none⟩) hlt).trans (h i hi).1, (hb.frozen (p := ⟨b, o + i, none⟩) hlt).trans (h i hi).2⟩
theorem Flat.drew {w : World} {b o m : Nat} {R : Nat → Int} (h : Flat w b o m R) : Flat w.drew b o m R := h
theorem Flat.alloc {w : World} {b o m : Nat} {R : Nat → Int} (h : Flat w b o m R) (hb : b < w.heap.size) (x : Obj) : Flat (w.alloc x) b o m R := h.below ((Below.refl w.heap.size w).alloc (Nat.le_refl _) x) hb
theorem Flat.congr {w : World} {b o m : Nat} {R S : Nat → Int} (h : Flat w b o m R) (e : ∀ i, i < m → R i = S i) : Flat w b o m S := fun i hi => by rw [← e i hi]; exact h i hi
theorem Flat.take {w : World} {b o m n : Nat} {R : Nat → Int} (h : Flat w b o m R) (hn : n ≤ m) : Flat w b o n R := fun i hi => h i (by omega)
/-- Cell j of the k-th five. -/
theorem Flat.at5 {w : World} {b o n : Nat} {R : Nat → Int} (h : Flat w b o (n * 5) R) {k : Nat} (hk : k < n) (j : Nat) (hj : j < 5) : w.cell? ⟨b, o + k * 5 + j, none⟩ = some (.int .i64 (R (k * 5 + j))) := by
  have := (h (k * 5 + j) (by omega)).1
  rwa [← Nat.add_assoc] at this
theorem Flat.fr5 {w : World} {b o n : Nat} {R : Nat → Int} (h : Flat w b o (n * 5) R) {k : Nat} (hk : k < n) (j : Nat) (hj : j < 5) : w.frozen? ⟨b, o + k * 5 + j, none⟩ = false := by
  have := (h (k * 5 + j) (by omega)).2
  rwa [← Nat.add_assoc] at this

/-- A store into one cell of it. -/
theorem Flat.set {w : World} {b o m : Nat} {R : Nat → Int} (h : Flat w b o m R) (t : Nat) (ht : t < m) {a : Nat} (ha : a = o + t) (x : Int) : Flat (w.setCell ⟨b, a, none⟩ (.int .i64 x)) b o m (fun i => if i = t then x else R i) := by
  subst ha
  intro i hi
  refine ⟨?_, by rw [World.frozen?_setCell]; exact (h i hi).2⟩
  show _ = some (Value.int .i64 (if i = t then x else R i))
  by_cases e : i = t
  · subst e
    rw [if_pos rfl]
    exact World.cell?_setCell_same' _ _ _ (by rw [(h i hi).1]; rfl)
  · rw [if_neg e, World.cell?_setCell_other _ _ _ _ (by intro c; have := congrArg Addr.off c; simp at this; omega)]
    exact (h i hi).1

/-- A row of m ints that is read alone. -/
def Rdb (w : World) (b o m : Nat) (R : Nat → Int) : Prop := ∀ i, i < m → w.cell? ⟨b, o + i, none⟩ = some (.int .i64 (R i))
theorem Flat.rd {w : World} {b o m : Nat} {R : Nat → Int} (h : Flat w b o m R) : Rdb w b o m R := fun i hi => (h i hi).1
theorem Rdb.below {w w' : World} {b o m B : Nat} {R : Nat → Int} (h : Rdb w b o m R) (hb : Below B w w') (hlt : b < B) : Rdb w' b o m R := fun i hi => (hb.cell (p := ⟨b, o + i, none⟩) hlt).trans (h i hi)
theorem Rdb.drew {w : World} {b o m : Nat} {R : Nat → Int} (h : Rdb w b o m R) : Rdb w.drew b o m R := h
theorem Rdb.at5 {w : World} {b o n : Nat} {R : Nat → Int} (h : Rdb w b o (n * 5) R) {k : Nat} (hk : k < n) (j : Nat) (hj : j < 5) : w.cell? ⟨b, o + k * 5 + j, none⟩ = some (.int .i64 (R (k * 5 + j))) := by
  have := h (k * 5 + j) (by omega)
  rwa [← Nat.add_assoc] at this
theorem Rdb.five {w : World} {b o n : Nat} {R : Nat → Int} (h : Rdb w b o (n * 5) R) {k : Nat} (hk : k < n) :
    w.cell? ⟨b, o + k * 5, none⟩ = some (.int .i64 (R (k * 5))) ∧ w.cell? ⟨b, o + k * 5 + 1, none⟩ = some (.int .i64 (R (k * 5 + 1))) ∧ w.cell? ⟨b, o + k * 5 + 2, none⟩ = some (.int .i64 (R (k * 5 + 2))) ∧
      w.cell? ⟨b, o + k * 5 + 3, none⟩ = some (.int .i64 (R (k * 5 + 3))) ∧ w.cell? ⟨b, o + k * 5 + 4, none⟩ = some (.int .i64 (R (k * 5 + 4))) :=
  ⟨h.at5 hk 0 (by omega), h.at5 hk 1 (by omega), h.at5 hk 2 (by omega), h.at5 hk 3 (by omega), h.at5 hk 4 (by omega)⟩

/-- A list of n instructions: where it is not empty its cells lie in a block. -/
def ListAt (w : World) (p : Option Addr) (n : Nat) (R : Nat → Int) : Prop := n = 0 ∨ ∃ b o, p = some ⟨b, o, none⟩ ∧ b < w.heap.size ∧ Rdb w b o (n * 5) R
theorem ListAt.below {w w' : World} {p : Option Addr} {n : Nat} {R : Nat → Int} (h : ListAt w p n R) (hb : Below w.heap.size w w') : ListAt w' p n R := by
  rcases h with h | ⟨b, o, e, hlt, hf⟩
  · exact .inl h
  · exact .inr ⟨b, o, e, Nat.lt_of_lt_of_le hlt hb.size, hf.below hb hlt⟩

set_option maxHeartbeats 2000000 in
theorem eqList (p q : Option Addr) (n c d : Nat) (R : Nat → Int) (w : World) (hn : n ≤ 2000000) (hp : ListAt w p n R) (hq : ListAt w q n R) :
    Calls Tryd.prog 20 #[.slice p n c, .slice q n d] w fun e w' => e = .returned (.bool true) ∧ Below w.heap.size w w' := by
  go_enter Tryd.func20, Tryd.ntmps20
  go_wp2
  go_loopw [5] (fun i wr => ∃ k : Nat, k ≤ n ∧ i = .int .i64 k ∧ Below w.heap.size w wr) (fun i _ => n - (intOf i).toNat)
  case atStart => exact ⟨0, Nat.zero_le _, rfl, Below.refl _ _⟩
  case round =>
    obtain ⟨k, hk, rfl, hB⟩ := hrel
    by_cases hlt : k < n
    · rcases hp with hp | ⟨b, o, rfl, hb, hp⟩
      · omega
      rcases hq with hq | ⟨b', o', rfl, hb', hq⟩
      · omega
      have hx := hp.below hB hb
      have hy := hq.below hB hb'
      have x0 := hx.at5 hlt 0 (by omega)
      have x1 := hx.at5 hlt 1 (by omega)
      have x2 := hx.at5 hlt 2 (by omega)
      have x3 := hx.at5 hlt 3 (by omega)
      have x4 := hx.at5 hlt 4 (by omega)
      have y0 := hy.at5 hlt 0 (by omega)
      have y1 := hy.at5 hlt 1 (by omega)
      have y2 := hy.at5 hlt 2 (by omega)
      have y3 := hy.at5 hlt 3 (by omega)
      have y4 := hy.at5 hlt 4 (by omega)
      rw [Nat.add_zero] at x0 y0
      clear hx hy hp hq
      go_wp2
      go_region_with ((go_at_call 17; refine (eqI _ _ _ _ _ _).mono ?_; rintro e w1 ⟨rfl, hb1⟩))
      all_goals
        have hbw : Below w.heap.size w w1 := by
          first
            | exact hB.trans (hb1.mono (by have := hB.size; simp; omega))
            | exact hB.drew.trans (hb1.mono (by have := hB.size; simp; omega))
        go_wp2
        go_roundw
        case rel => exact ⟨k + 1, by omega, by go_num, hbw⟩
        case measure => simp [intOf]; omega
    · go_wp2
      go_ret
      exact ⟨rfl, hB⟩

set_option maxHeartbeats 2000000 in
/-- Marked: the cells count on from s; no block but b is touched. -/
theorem markList (b o n c : Nat) (s : Nat) (R : Nat → Int) (w : World) (hn : n ≤ 1000) (hs : s ≤ 1000000) (hb : b < w.heap.size) (hp : Flat w b o (n * 5) R) :
    Calls Tryd.prog 21 #[.slice (some ⟨b, o, none⟩) n c, .int .i64 s] w fun e w' => e = .returned (.int .i64 ((s + n * 5 : Nat) : Int)) ∧ Below b w w' ∧ w'.heap.size = w.heap.size ∧ Flat w' b o (n * 5) (fun i => ((s + i : Nat) : Int)) := by
  go_enter Tryd.func21, Tryd.ntmps21
  go_wp2
  go_loopw [1, 5] (fun m i wr => ∃ k : Nat, k ≤ n ∧ i = .int .i64 k ∧ m = .int .i64 ((s + k * 5 : Nat) : Int) ∧ Below b w wr ∧ wr.heap.size = w.heap.size ∧ Flat wr b o (n * 5) (fun i => if i < k * 5 then ((s + i : Nat) : Int) else R i)) (fun _ i _ => n - (intOf i).toNat)
  case atStart => exact ⟨0, Nat.zero_le _, rfl, by simp, Below.refl _ _, rfl, hp.congr (by intro i hi; simp)⟩
  case round =>
    obtain ⟨k, hk, rfl, rfl, hB, hz, hf⟩ := hrel
    by_cases hlt : k < n
    · have x0 := hf.at5 hlt 0 (by omega)
      have x1 := hf.at5 hlt 1 (by omega)
      have x2 := hf.at5 hlt 2 (by omega)
      have x3 := hf.at5 hlt 3 (by omega)
      have x4 := hf.at5 hlt 4 (by omega)
      have f0 := hf.fr5 hlt 0 (by omega)
      have f1 := hf.fr5 hlt 1 (by omega)
      have f2 := hf.fr5 hlt 2 (by omega)
      have f3 := hf.fr5 hlt 3 (by omega)
      have f4 := hf.fr5 hlt 4 (by omega)
      rw [Nat.add_zero] at x0 f0
      go_wp2
      have F5 := ((((hf.set (k * 5) (by omega) rfl ((s : Int) + (k : Int) * 5)).set (k * 5 + 1) (by omega) (a := o + k * 5 + 1) (by omega) ((s : Int) + (k : Int) * 5 + 1)).set (k * 5 + 2) (by omega) (a := o + k * 5 + 2) (by omega) ((s : Int) + (k : Int) * 5 + 1 + 1)).set (k * 5 + 3) (by omega) (a := o + k * 5 + 3) (by omega) ((s : Int) + (k : Int) * 5 + 1 + 1 + 1)).set (k * 5 + 4) (by omega) (a := o + k * 5 + 4) (by omega) ((s : Int) + (k : Int) * 5 + 1 + 1 + 1 + 1)
      have B5 := ((((hB.setCell (p := ⟨b, o + k * 5, none⟩) (Nat.le_refl _) (.int .i64 ((s : Int) + (k : Int) * 5))).setCell (p := ⟨b, o + k * 5 + 1, none⟩) (Nat.le_refl _) (.int .i64 ((s : Int) + (k : Int) * 5 + 1))).setCell (p := ⟨b, o + k * 5 + 2, none⟩) (Nat.le_refl _) (.int .i64 ((s : Int) + (k : Int) * 5 + 1 + 1))).setCell (p := ⟨b, o + k * 5 + 3, none⟩) (Nat.le_refl _) (.int .i64 ((s : Int) + (k : Int) * 5 + 1 + 1 + 1))).setCell (p := ⟨b, o + k * 5 + 4, none⟩) (Nat.le_refl _) (.int .i64 ((s : Int) + (k : Int) * 5 + 1 + 1 + 1 + 1))
      refine ⟨⟨k + 1, by omega, by go_num, ?_, B5, by simp [hz], F5.congr ?_⟩, by simp [intOf]; omega⟩
      · congr 1; omega
      · intro i hi
        repeat' split
        all_goals omega
    · go_wp2
      obtain rfl : k = n := by omega
      go_ret
      exact ⟨rfl, hB, hz, hf.congr (by intro i hi; rw [if_pos hi])⟩

set_option maxHeartbeats 2000000 in
/-- Held against its marks. -/
theorem heldList (b o n c : Nat) (s : Nat) (w : World) (hn : n ≤ 1000) (hs : s ≤ 1000000) (hp : Flat w b o (n * 5) (fun i => ((s + i : Nat) : Int))) :
    Calls Tryd.prog 22 #[.slice (some ⟨b, o, none⟩) n c, .int .i64 s] w fun e w' => e = .returned (.int .i64 ((s + n * 5 : Nat) : Int)) ∧ w' = w := by
  go_enter Tryd.func22, Tryd.ntmps22
  go_wp2
  go_loop [1, 5] (fun m i => ∃ k : Nat, k ≤ n ∧ i = .int .i64 k ∧ m = .int .i64 ((s + k * 5 : Nat) : Int)) (fun _ i => n - (intOf i).toNat)
  case atStart => exact ⟨0, Nat.zero_le _, rfl, by simp⟩
  case round =>
    obtain ⟨k, hk, rfl, rfl⟩ := hrel
    by_cases hlt : k < n
    · have x0 := hp.at5 hlt 0 (by omega)
      have x1 := hp.at5 hlt 1 (by omega)
      have x2 := hp.at5 hlt 2 (by omega)
      have x3 := hp.at5 hlt 3 (by omega)
      have x4 := hp.at5 hlt 4 (by omega)
      have e0 : ((s + (k * 5 + 0) : Nat) : Int) = (s : Int) + (k : Int) * 5 := by omega
      have e1 : ((s + (k * 5 + 1) : Nat) : Int) = (s : Int) + (k : Int) * 5 + 1 := by omega
      have e2 : ((s + (k * 5 + 2) : Nat) : Int) = (s : Int) + (k : Int) * 5 + 1 + 1 := by omega
      have e3 : ((s + (k * 5 + 3) : Nat) : Int) = (s : Int) + (k : Int) * 5 + 1 + 1 + 1 := by omega
      have e4 : ((s + (k * 5 + 4) : Nat) : Int) = (s : Int) + (k : Int) * 5 + 1 + 1 + 1 + 1 := by omega
      rw [e0, Nat.add_zero] at x0
      rw [e1] at x1
      rw [e2] at x2
      rw [e3] at x3
      rw [e4] at x4
      clear e0 e1 e2 e3 e4
      go_wp2
      go_round
      case rel => exact ⟨k + 1, by omega, by go_num, by congr 1; omega⟩
      case measure => simp [intOf]; omega
    · go_wp2
      obtain rfl : k = n := by omega
      go_ret
      exact ⟨rfl, rfl⟩

/-- An empty list: nothing is marked, nothing is held. -/
theorem markNil (p : Option Addr) (c : Nat) (s : Int) (w : World) :
    Calls Tryd.prog 21 #[.slice p 0 c, .int .i64 s] w fun e w' => e = .returned (.int .i64 s) ∧ w' = w := by
  go_enter Tryd.func21, Tryd.ntmps21
  go_wp2
  go_loop [1, 5] (fun m i => i = .int .i64 0 ∧ m = .int .i64 s) (fun _ _ => 0)
  case atStart => exact ⟨rfl, rfl⟩
  case round =>
    obtain ⟨rfl, rfl⟩ := hrel
    go_wp2
    go_ret
    exact ⟨rfl, rfl⟩
theorem heldNil (p : Option Addr) (c : Nat) (s : Int) (w : World) :
    Calls Tryd.prog 22 #[.slice p 0 c, .int .i64 s] w fun e w' => e = .returned (.int .i64 s) ∧ w' = w := by
  go_enter Tryd.func22, Tryd.ntmps22
  go_wp2
  go_loop [1, 5] (fun m i => i = .int .i64 0 ∧ m = .int .i64 s) (fun _ _ => 0)
  case atStart => exact ⟨rfl, rfl⟩
  case round =>
    obtain ⟨rfl, rfl⟩ := hrel
    go_wp2
    go_ret
    exact ⟨rfl, rfl⟩
end Go.Proofs.YtepanogpojolfaaDoor
