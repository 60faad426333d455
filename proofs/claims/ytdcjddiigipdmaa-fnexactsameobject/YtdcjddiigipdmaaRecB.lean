/- Lists of structs of one-cell fields: as they lie, as they are the call's own; of the old blocks only one has changed. -/
import Derived.Test.YtdcjddiigipdmaaArgP
import Derived.Test.YtdcjddiigipdmaaBlkP
import Derived.ChangeArms
import Derived.Deep.Slices
namespace Go.Proofs.Ytdcjddiigipdmaa
open Go Go.RowKit Go.ChangeShapes Go.WideShapes Go.Deep
set_option linter.unusedVariables false

theorem grown1' (w : World) (o : Obj) : Below w.heap.size w (w.alloc o) := (Below.refl _ _).alloc (Nat.le_refl _) _
/-- A row of m cells that may be written. -/
def FRow (w : World) (b o m : Nat) (V : Nat → Value) : Prop := VRow w b o m V ∧ ∀ i, i < m → w.frozen? ⟨b, o + i, none⟩ = false
theorem FRow.below {w w' : World} {b o m B : Nat} {V : Nat → Value} (h : FRow w b o m V) (hb : Below B w w') (hlt : b < B) : FRow w' b o m V := ⟨h.1.below hb hlt, fun i hi => (hb.frozen (p := ⟨b, o + i, none⟩) hlt).trans (h.2 i hi)⟩
theorem FRow.other {w : World} {g m X : Nat} {V : Nat → Value} (h : FRow w g 0 m V) (hX : g ≠ X) (o : Nat) (v : Value) : FRow (w.setCell ⟨X, o, none⟩ v) g 0 m V :=
  ⟨fun i hi => by rw [World.cell?_setCell_other _ _ _ _ (fun c => hX (by have := congrArg Addr.block c; simp at this; exact this.symm))]; exact h.1 i hi, fun i hi => by rw [World.frozen?_setCell]; exact h.2 i hi⟩
theorem FRow.put {w : World} {g m : Nat} {V : Nat → Value} (h : FRow w g 0 m V) (t : Nat) (ht : t < m) (x : Value) : FRow (w.setCell ⟨g, t, none⟩ x) g 0 m (fun i => if i = t then x else V i) := by
  refine ⟨fun i hi => ?_, fun i hi => by rw [World.frozen?_setCell]; exact h.2 i hi⟩
  have hi0 := h.1 i hi
  have ht0 := h.1 t ht
  rw [Nat.zero_add] at hi0 ht0 ⊢
  show _ = some (if i = t then x else V i)
  by_cases e : i = t
  · subst e
    rw [if_pos rfl]
    exact World.cell?_setCell_same' _ _ _ (by rw [ht0]; rfl)
  · rw [if_neg e, World.cell?_setCell_other _ _ _ _ (fun c => e (by have := congrArg Addr.off c; simp at this; omega))]
    exact hi0
theorem FRow.congr {w : World} {g m : Nat} {V V' : Nat → Value} (h : FRow w g 0 m V) (e : ∀ i, i < m → V i = V' i) : FRow w g 0 m V' := ⟨fun i hi => (h.1 i hi).trans (by rw [e i hi]), h.2⟩

/-- A list of n structs of m cells: where it is not empty its cells lie in a block. -/
def RowsAt (w : World) (p : Option Addr) (n m : Nat) (V : Nat → Value) : Prop := n = 0 ∨ ∃ b o, p = some ⟨b, o, none⟩ ∧ b < w.heap.size ∧ VRow w b o (n * m) V
theorem RowsAt.below {w w' : World} {p : Option Addr} {n m : Nat} {V : Nat → Value} (h : RowsAt w p n m V) (hb : Below w.heap.size w w') : RowsAt w' p n m V := by
  rcases h with h | ⟨b, o, e, hlt, hf⟩
  · exact .inl h
  · exact .inr ⟨b, o, e, Nat.lt_of_lt_of_le hlt hb.size, hf.below hb hlt⟩
theorem RowsAt.drew {w : World} {p : Option Addr} {n m : Nat} {V : Nat → Value} (h : RowsAt w p n m V) : RowsAt w.drew p n m V := h
/-- Below B: its block is an old one. -/
def RowsLow (w : World) (B : Nat) (p : Option Addr) (n m : Nat) (V : Nat → Value) : Prop := n = 0 ∨ ∃ b o, p = some ⟨b, o, none⟩ ∧ b < B ∧ VRow w b o (n * m) V
theorem RowsLow.below {w w' : World} {B : Nat} {p : Option Addr} {n m : Nat} {V : Nat → Value} (h : RowsLow w B p n m V) (hb : Below B w w') : RowsLow w' B p n m V := by
  rcases h with h | ⟨b, o, e, hlt, hf⟩
  · exact .inl h
  · exact .inr ⟨b, o, e, hlt, hf.below hb hlt⟩
theorem RowsAt.low {w : World} {p : Option Addr} {n m : Nat} {V : Nat → Value} (h : RowsAt w p n m V) : RowsLow w w.heap.size p n m V := h
theorem RowsLow.at {w : World} {B : Nat} {p : Option Addr} {n m : Nat} {V : Nat → Value} (h : RowsLow w B p n m V) (hB : B ≤ w.heap.size) : RowsAt w p n m V := by
  rcases h with h | ⟨b, o, e, hlt, hf⟩
  · exact .inl h
  · exact .inr ⟨b, o, e, Nat.lt_of_lt_of_le hlt hB, hf⟩
theorem VRow.nth {w : World} {b o n m : Nat} {V : Nat → Value} (h : VRow w b o (n * m) V) {k j : Nat} (hk : k < n) (hj : j < m) : w.cell? ⟨b, o + k * m + j, none⟩ = some (V (k * m + j)) := by
  have h1 : (k + 1) * m ≤ n * m := Nat.mul_le_mul_right m hk
  rw [Nat.succ_mul] at h1
  have := h (k * m + j) (by omega)
  rwa [← Nat.add_assoc] at this
/-- A list of the call's own. -/
def OwnR (w : World) (B : Nat) (p : Option Addr) (n m : Nat) (V : Nat → Value) : Prop := n = 0 ∨ ∃ g, p = some ⟨g, 0, none⟩ ∧ B ≤ g ∧ g < w.heap.size ∧ FRow w g 0 (n * m) V
theorem OwnR.below {w w' : World} {B : Nat} {p : Option Addr} {n m : Nat} {V : Nat → Value} (h : OwnR w B p n m V) (hb : Below w.heap.size w w') : OwnR w' B p n m V := by
  rcases h with h | ⟨g, h1, h2, h3, h4⟩
  · exact .inl h
  · exact .inr ⟨g, h1, h2, Nat.lt_of_lt_of_le h3 hb.size, h4.below hb h3⟩
theorem OwnR.rows {w : World} {B : Nat} {p : Option Addr} {n m : Nat} {V : Nat → Value} (h : OwnR w B p n m V) : RowsAt w p n m V := by
  rcases h with h | ⟨g, h1, h2, h3, h4⟩
  · exact .inl h
  · exact .inr ⟨g, 0, h1, h3, h4.1⟩
theorem OwnR.low {w : World} {B B' : Nat} {p : Option Addr} {n m : Nat} {V : Nat → Value} (h : OwnR w B p n m V) (hb : B' ≤ B) : OwnR w B' p n m V := by
  rcases h with h | ⟨g, h1, h2, h3, h4⟩
  · exact .inl h
  · exact .inr ⟨g, h1, Nat.le_trans hb h2, h3, h4⟩
theorem OwnR.congr {w : World} {B : Nat} {p : Option Addr} {n m : Nat} {V V' : Nat → Value} (h : OwnR w B p n m V) (e : ∀ i, i < n * m → V i = V' i) : OwnR w B p n m V' := by
  rcases h with h | ⟨g, h1, h2, h3, h4⟩
  · exact .inl h
  · exact .inr ⟨g, h1, h2, h3, h4.congr e⟩
theorem FRow.own {w : World} {B g n m : Nat} {V : Nat → Value} (h : FRow w g 0 (n * m) V) (hB : B ≤ g) (hg : g < w.heap.size) : OwnR w B (some ⟨g, 0, none⟩) n m V := .inr ⟨g, rfl, hB, hg, h⟩
/-- A struct's cells put into a row of them. -/
theorem putRow {cur : Array Value} {V : Nat → Value} {n k m : Nat} (L : List Value) (hL : L.length = m) (hV : ∀ j, j < m → L[j]? = some (V (k * m + j))) (hs : cur.size = n * m) (hk : k < n) (hc : ∀ i, i < k * m → cur[i]? = some (V i)) :
    (cur.toList.take (k * m) ++ L ++ cur.toList.drop (k * m + m)).toArray.size = n * m ∧ ∀ i, i < (k + 1) * m → (cur.toList.take (k * m) ++ L ++ cur.toList.drop (k * m + m)).toArray[i]? = some (V i) := by
  have h1 : (k + 1) * m ≤ n * m := Nat.mul_le_mul_right m hk
  rw [Nat.succ_mul] at h1
  have hl : cur.toList.length = n * m := by simpa using hs
  have ht : (cur.toList.take (k * m)).length = k * m := by rw [List.length_take]; omega
  refine ⟨by simp [hL]; omega, fun i hi => ?_⟩
  rw [Nat.succ_mul] at hi
  rw [List.getElem?_toArray, List.append_assoc]
  by_cases h : i < k * m
  · rw [List.getElem?_append_left (by omega), List.getElem?_take, if_pos h]
    have := hc i h
    rw [Array.getElem?_toList]
    exact this
  · rw [List.getElem?_append_right (by omega), ht, List.getElem?_append_left (by omega), hV (i - k * m) (by omega)]
    rw [Nat.add_sub_cancel' (by omega)]

/-- Of the old blocks only the one that p points to may have changed. -/
structure ButO (p : Option Addr) (w w' : World) : Prop where
  os : w'.os = w.os
  tape : w'.tape = w.tape
  output : w'.output = w.output
  size : w.heap.size ≤ w'.heap.size
  block : ∀ k, k < w.heap.size → p ≠ some ⟨k, 0, none⟩ → w'.heap[k]? = w.heap[k]?
theorem ButO.refl (p : Option Addr) (w : World) : ButO p w w := ⟨rfl, rfl, rfl, Nat.le_refl _, fun _ _ _ => rfl⟩
theorem ButO.trans {p : Option Addr} {a b c : World} (h : ButO p a b) (k : ButO p b c) : ButO p a c :=
  ⟨k.os.trans h.os, k.tape.trans h.tape, k.output.trans h.output, Nat.le_trans h.size k.size, fun i hi hg => (k.block i (Nat.lt_of_lt_of_le hi h.size) hg).trans (h.block i hi hg)⟩
theorem ButO.of_below {p : Option Addr} {w w' : World} (h : Below w.heap.size w w') : ButO p w w' := ⟨h.os, h.tape, h.output, h.size, fun k hk _ => h.block k hk⟩
theorem ButO.set {g j : Nat} {w w' : World} (h : ButO (some ⟨g, 0, none⟩) w w') (v : Value) : ButO (some ⟨g, 0, none⟩) w (w'.setCell ⟨g, j, none⟩ v) :=
  h.trans ⟨rfl, rfl, rfl, by simp [World.setCell], fun k _ hg => Below.heap_setCell w' ⟨g, j, none⟩ v k (fun e => hg (by rw [e]))⟩
theorem ButO.below {p : Option Addr} {B : Nat} {w w' : World} (h : ButO p w w') (hp : ∀ k, k < B → p ≠ some ⟨k, 0, none⟩) (hw : B ≤ w.heap.size) : Below B w w' :=
  ⟨h.os, h.tape, h.output, h.size, fun k hk => h.block k (Nat.lt_of_lt_of_le hk hw) (hp k hk)⟩
theorem ButO.cell {p : Option Addr} {w w' : World} (h : ButO p w w') {k j : Nat} {v : Value} (hc : w.cell? ⟨k, j, none⟩ = some v) (hk : p ≠ some ⟨k, 0, none⟩) : w'.cell? ⟨k, j, none⟩ = some v := by
  have hlt := World.block_lt_of_cell? w _ hc
  exact (World.cell?_of_block (w := w) (h.block k hlt hk)).trans hc
/-- Where the list lies, if it has elements. -/
def qn (p : Option Addr) (n : Nat) : Option Addr := if n = 0 then none else p
theorem OwnR.not_at {w : World} {B : Nat} {p : Option Addr} {n m : Nat} {V : Nat → Value} (h : OwnR w B p n m V) (k : Nat) (hk : k < B ∨ w.heap.size ≤ k) : qn p n ≠ some ⟨k, 0, none⟩ := by
  unfold qn
  rcases h with h | ⟨g, rfl, h2, h3, _⟩
  · rw [if_pos h]; simp
  · split
    · simp
    · intro e
      have e1 : g = k := by
        have e2 := congrArg (fun o => (o.map Addr.block).getD 0) e
        exact e2
      omega
end Go.Proofs.Ytdcjddiigipdmaa
