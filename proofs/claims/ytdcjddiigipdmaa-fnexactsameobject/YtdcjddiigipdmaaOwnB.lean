/- Lists of the call's own that lie between two blocks; of the old blocks only those between two have changed. -/
import Derived.Test.YtdcjddiigipdmaaRecB
namespace Go.Proofs.Ytdcjddiigipdmaa
open Go Go.RowKit
set_option linter.unusedVariables false

/-- A list of the call's own, at a block from lo on and below hi. -/
def OwnIn (w : World) (lo hi : Nat) (p : Option Addr) (n m : Nat) (V : Nat → Value) : Prop := n = 0 ∨ ∃ g, p = some ⟨g, 0, none⟩ ∧ lo ≤ g ∧ g < hi ∧ hi ≤ w.heap.size ∧ FRow w g 0 (n * m) V
theorem OwnIn.rows {w : World} {lo hi : Nat} {p : Option Addr} {n m : Nat} {V : Nat → Value} (h : OwnIn w lo hi p n m V) : RowsAt w p n m V := by
  rcases h with h | ⟨g, h1, h2, h3, h4, h5⟩
  · exact .inl h
  · exact .inr ⟨g, 0, h1, Nat.lt_of_lt_of_le h3 h4, h5.1⟩
theorem OwnIn.own {w : World} {lo hi : Nat} {p : Option Addr} {n m : Nat} {V : Nat → Value} (h : OwnIn w lo hi p n m V) : OwnR w lo p n m V := by
  rcases h with h | ⟨g, h1, h2, h3, h4, h5⟩
  · exact .inl h
  · exact .inr ⟨g, h1, h2, Nat.lt_of_lt_of_le h3 h4, h5⟩
theorem OwnIn.below {w w' : World} {lo hi : Nat} {p : Option Addr} {n m : Nat} {V : Nat → Value} (h : OwnIn w lo hi p n m V) (hb : Below hi w w') : OwnIn w' lo hi p n m V := by
  rcases h with h | ⟨g, h1, h2, h3, h4, h5⟩
  · exact .inl h
  · exact .inr ⟨g, h1, h2, h3, Nat.le_trans h4 hb.size, h5.below hb h3⟩
/-- Of the old blocks only those from lo on and below hi may have changed. -/
structure ButR (lo hi : Nat) (w w' : World) : Prop where
  os : w'.os = w.os
  tape : w'.tape = w.tape
  output : w'.output = w.output
  size : w.heap.size ≤ w'.heap.size
  block : ∀ k, k < w.heap.size → k < lo ∨ hi ≤ k → w'.heap[k]? = w.heap[k]?
theorem ButR.of_below {lo hi : Nat} {w w' : World} (h : Below w.heap.size w w') : ButR lo hi w w' := ⟨h.os, h.tape, h.output, h.size, fun k hk _ => h.block k hk⟩
theorem ButR.trans {lo hi : Nat} {a b c : World} (h : ButR lo hi a b) (k : ButR lo hi b c) : ButR lo hi a c :=
  ⟨k.os.trans h.os, k.tape.trans h.tape, k.output.trans h.output, Nat.le_trans h.size k.size, fun i hi hg => (k.block i (Nat.lt_of_lt_of_le hi h.size) hg).trans (h.block i hi hg)⟩
theorem ButR.wide {lo hi lo' hi' : Nat} {a b : World} (h : ButR lo hi a b) (h1 : lo' ≤ lo) (h2 : hi ≤ hi') : ButR lo' hi' a b := ⟨h.os, h.tape, h.output, h.size, fun k hk hg => h.block k hk (by omega)⟩
theorem ButR.below {lo hi B : Nat} {w w' : World} (h : ButR lo hi w w') (hB : B ≤ lo) (hw : B ≤ w.heap.size) : Below B w w' := ⟨h.os, h.tape, h.output, h.size, fun k hk => h.block k (Nat.lt_of_lt_of_le hk hw) (.inl (Nat.lt_of_lt_of_le hk hB))⟩
theorem ButR.cell {lo hi : Nat} {w w' : World} (h : ButR lo hi w w') {k j : Nat} {v : Value} (hc : w.cell? ⟨k, j, none⟩ = some v) (hk : k < lo ∨ hi ≤ k) : w'.cell? ⟨k, j, none⟩ = some v :=
  (World.cell?_of_block (w := w) (h.block k (World.block_lt_of_cell? w _ hc) hk)).trans hc
theorem OwnIn.butR {w w' : World} {lo hi : Nat} {p : Option Addr} {n m : Nat} {V : Nat → Value} {a b : Nat} (h : OwnIn w lo hi p n m V) (hb : ButR a b w w') (hd : hi ≤ a ∨ b ≤ lo) : OwnIn w' lo hi p n m V := by
  rcases h with h | ⟨g, h1, h2, h3, h4, h5⟩
  · exact .inl h
  · have hbl := hb.block g (Nat.lt_of_lt_of_le h3 h4) (by omega)
    exact .inr ⟨g, h1, h2, h3, Nat.le_trans h4 hb.size, fun i hi => (World.cell?_of_block (w := w) hbl).trans (h5.1 i hi), fun i hi => (World.frozen?_of_block (w := w) hbl).trans (h5.2 i hi)⟩
theorem butR_of {lo hi : Nat} {w w' : World} {p : Option Addr} {n m : Nat} {V : Nat → Value} (h : ButO (qn p n) w w') (ho : OwnIn w lo hi p n m V) : ButR lo hi w w' := by
  refine ⟨h.os, h.tape, h.output, h.size, fun k hk hg => h.block k hk ?_⟩
  unfold qn
  rcases ho with h0 | ⟨g, rfl, h2, h3, _⟩
  · rw [if_pos h0]; simp
  · split
    · simp
    · intro e
      have e1 : g = k := congrArg (fun o => (o.map Addr.block).getD 0) e
      omega

theorem ownIn_of {w : World} {lo g n m : Nat} {V : Nat → Value} (h1 : lo ≤ g) (h2 : g < w.heap.size) (h : FRow w g 0 (n * m) V) : OwnIn w lo w.heap.size (some ⟨g, 0, none⟩) n m V := .inr ⟨g, rfl, h1, h2, Nat.le_refl _, h⟩
theorem OwnIn.put {w : World} {lo hi : Nat} {p : Option Addr} {n m : Nat} {V : Nat → Value} (h : OwnIn w lo hi p n m V) {X : Nat} (hX : X < lo) (j : Nat) (v : Value) : OwnIn (w.setCell ⟨X, j, none⟩ v) lo hi p n m V := by
  rcases h with h | ⟨g, h1, h2, h3, h4, h5⟩
  · exact .inl h
  · exact .inr ⟨g, h1, h2, h3, by simpa using h4, h5.other (by omega) j v⟩
theorem OwnIn.wide {w : World} {lo hi lo' : Nat} {p : Option Addr} {n m : Nat} {V : Nat → Value} (h : OwnIn w lo hi p n m V) (hl : lo' ≤ lo) : OwnIn w lo' hi p n m V := by
  rcases h with h | ⟨g, h1, h2, h3, h4, h5⟩
  · exact .inl h
  · exact .inr ⟨g, h1, Nat.le_trans hl h2, h3, h4, h5⟩
end Go.Proofs.Ytdcjddiigipdmaa
