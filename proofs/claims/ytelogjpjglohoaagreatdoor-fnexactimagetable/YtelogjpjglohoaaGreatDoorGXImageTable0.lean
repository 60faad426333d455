/- An image marked (as MrkL, but over lists that RecB knows). Lists of the call's own that lie between two blocks; of the old blocks only those between two have changed. -/
import Derived.Test.YtelogjpjglohoaaGreatDoorGXTabBase48
import Derived.Test.YtelogjpjglohoaaGreatDoorGXTabBase0
import Derived.Laws.IdiomStrings
namespace Go.Proofs.YtelogjpjglohoaaGreatDoor
open Go Go.RowKit
set_option linter.unusedVariables false

def mkY (s i : Nat) : SymD := ⟨mtS (s + 5 * i), ((s + 5 * i : Nat) : Int) + 1, ((s + 5 * i : Nat) : Int) + 1 + 1, ((s + 5 * i : Nat) : Int) + 1 + 1 + 1, ((s + 5 * i : Nat) : Int) + 1 + 1 + 1 + 1⟩
def mixY (s : Nat) (S : Nat → SymD) (k i : Nat) : SymD := if i < k then mkY s i else S i
theorem mixY_step (s k : Nat) (S : Nat → SymD) (i : Nat) : (if i = k * 5 + 4 then Value.int .i64 (mkY s k).fr else if i = k * 5 + 3 then .int .i64 (mkY s k).sz else if i = k * 5 + 2 then .int .i64 (mkY s k).pl else if i = k * 5 + 1 then .int .i64 (mkY s k).kd else if i = k * 5 then .string (mkY s k).nm else symV (mixY s S k) i) = symV (mixY s S (k + 1)) i := by
  have hk : mixY s S (k + 1) k = mkY s k := by unfold mixY; rw [if_pos (Nat.lt_succ_self k)]
  by_cases e4 : i = k * 5 + 4
  · rw [if_pos e4, e4, symV4, hk]
  by_cases e3 : i = k * 5 + 3
  · rw [if_neg e4, if_pos e3, e3, symV3, hk]
  by_cases e2 : i = k * 5 + 2
  · rw [if_neg e4, if_neg e3, if_pos e2, e2, symV2, hk]
  by_cases e1 : i = k * 5 + 1
  · rw [if_neg e4, if_neg e3, if_neg e2, if_pos e1, e1, symV1, hk]
  by_cases e0 : i = k * 5
  · rw [if_neg e4, if_neg e3, if_neg e2, if_neg e1, if_pos e0, e0, symV0, hk]
  · rw [if_neg e4, if_neg e3, if_neg e2, if_neg e1, if_neg e0]
    have hq : i / 5 ≠ k := by omega
    have hmx : mixY s S k (i / 5) = mixY s S (k + 1) (i / 5) := by
      unfold mixY
      by_cases h : i / 5 < k
      · rw [if_pos h, if_pos (by omega)]
      · rw [if_neg h, if_neg (by omega)]
    unfold symV
    rw [hmx]

set_option maxRecDepth 100000 in
set_option maxHeartbeats 4000000 in
/-- Marked: no block but the list's own is touched. -/
theorem markSymI (B : Nat) (p : Option Addr) (n c s : Nat) (S : Nat → SymD) (w : World) (hn : n ≤ 1048576) (hs : s ≤ 40000000) (hs0 : 0 < s) (hBw : B ≤ w.heap.size) (ho : OwnR w B p n 5 (symV S)) :
    Calls Tryz.prog 29 #[.slice p n c, .int .i64 s] w fun e w' => e = .returned (.int .i64 ((s + 5 * n : Nat) : Int)) ∧ ButO (qn p n) w w' ∧ OwnR w' B p n 5 (symV (mkY s)) := by
  go_enter Tryz.func29, Tryz.ntmps29
  go_wp2
  go_loopw [1, 5] (fun m i wr => ∃ k : Nat, k ≤ n ∧ i = .int .i64 k ∧ m = .int .i64 ((s + 5 * k : Nat) : Int) ∧ ButO (qn p n) w wr ∧ OwnR wr B p n 5 (symV (mixY s S k))) (fun _ i _ => n - (intOf i).toNat)
  case atStart => exact ⟨0, Nat.zero_le _, rfl, by simp, ButO.refl _ _, ho⟩
  case round =>
    obtain ⟨k, hk, rfl, rfl, hB, hf⟩ := hrel
    by_cases hlt : k < n
    · rcases hf with h0 | ⟨g, rfl, hg, hgl, hf⟩
      · omega
      have hqn : qn (some ⟨g, 0, none⟩) n = some ⟨g, 0, none⟩ := if_neg (by omega)
      rw [hqn] at hB
      have HQN : Hid (qn (some ⟨g, 0, none⟩) n = some ⟨g, 0, none⟩) := hqn
      clear hqn
      have hms : mkY s k = ⟨mtS (s + 5 * k), ((s + 5 * k : Nat) : Int) + 1, ((s + 5 * k : Nat) : Int) + 1 + 1, ((s + 5 * k : Nat) : Int) + 1 + 1 + 1, ((s + 5 * k : Nat) : Int) + 1 + 1 + 1 + 1⟩ := rfl
      have hnx : s + 5 * (k + 1) = s + 5 * k + 5 := by omega
      have hu1 : s + 5 * k ≤ 80000000 := by omega
      have hu0 : 0 < s + 5 * k := by omega
      obtain ⟨u, hu⟩ : ∃ u, s + 5 * k = u := ⟨_, rfl⟩
      rw [hu] at hms hnx hu1 hu0 ⊢
      have hstep := mixY_step s k S
      rw [hms] at hstep
      have HST : Hid (∀ i, _) := hstep
      have HNX : Hid (s + 5 * (k + 1) = u + 5) := hnx
      clear hms hstep hnx hu ho
      go_wp2_with fail
      refine (markTextC u _ hu0 (by omega)).mono ?_
      rintro e w1 ⟨rfl, hb1⟩
      have hB1 := hB.trans (ButO.of_below hb1)
      have hf1 := hf.below hb1 hgl
      obtain ⟨x0, x1, x2, x3, x4⟩ := hf1.1.sym hlt
      have f0 := hf1.2 (k * 5) (by omega)
      have f1 := hf1.2 (k * 5 + 1) (by omega)
      have f2 := hf1.2 (k * 5 + 2) (by omega)
      have f3 := hf1.2 (k * 5 + 3) (by omega)
      have f4 := hf1.2 (k * 5 + 4) (by omega)
      rw [Nat.zero_add] at x0 x1 x2 x3 x4 f0 f1 f2 f3 f4
      have F5 := ((((hf1.put (k * 5) (by omega) (.string (mtS u))).put (k * 5 + 1) (by omega) (.int .i64 ((u : Int) + 1))).put (k * 5 + 2) (by omega) (.int .i64 ((u : Int) + 1 + 1))).put (k * 5 + 3) (by omega) (.int .i64 ((u : Int) + 1 + 1 + 1))).put (k * 5 + 4) (by omega) (.int .i64 ((u : Int) + 1 + 1 + 1 + 1))
      have B5 := ((((hB1.set (j := k * 5) (.string (mtS u))).set (j := k * 5 + 1) (.int .i64 ((u : Int) + 1))).set (j := k * 5 + 2) (.int .i64 ((u : Int) + 1 + 1))).set (j := k * 5 + 3) (.int .i64 ((u : Int) + 1 + 1 + 1))).set (j := k * 5 + 4) (.int .i64 ((u : Int) + 1 + 1 + 1 + 1))
      have G5 := Nat.lt_of_lt_of_le hgl hb1.size
      have HF5 : Hid (FRow _ g 0 (n * 5) _) := F5
      have HB5 : Hid (ButO (some ⟨g, 0, none⟩) w _) := B5
      clear hf hf1 F5 B5 hb1 hB1 hB hBw
      go_wp2_with fail
      go_roundw
      case rel =>
        refine ⟨k + 1, by omega, by go_num, ?_, by rw [HQN.out]; exact HB5.out, .inr ⟨g, rfl, hg, by simpa using G5, HF5.out.congr (fun i _ => HST.out i)⟩⟩
        rw [HNX.out]
        first | rfl | (congr 1; omega) | go_num
      case measure => simp [intOf]; omega
    · obtain rfl : k = n := by omega
      go_wp2
      go_ret
      refine ⟨rfl, hB, ?_⟩
      rcases hf with h0 | ⟨g, h1, h2, h3, hf⟩
      · exact .inl h0
      · refine .inr ⟨g, h1, h2, h3, hf.congr (fun i hi => ?_)⟩
        unfold symV mixY
        have : i / 5 < k := by omega
        simp only [if_pos this]

set_option maxRecDepth 100000 in
set_option maxHeartbeats 2000000 in
theorem markImgI (B : Nat) (c d : ByteArray) (p : Option Addr) (n cp s : Nat) (S : Nat → SymD) (w : World) (hn : n ≤ 1048576) (hs : s ≤ 40000000) (hs0 : 0 < s) (hBw : B ≤ w.heap.size) (ho : OwnR w B p n 5 (symV S)) :
    Calls Tryz.prog 11 #[.agg #[.string c, .string d, .slice p n cp], .int .i64 s] w fun e w' => e = .returned (.int .i64 ((s + 5 * n : Nat) : Int)) ∧ ButO (qn p n) w w' ∧ OwnR w' B p n 5 (symV (mkY s)) := by
  have bA : Below w.heap.size w (w.alloc (.cells #[.string c, .string d, .slice p n cp] 31)) := (Below.refl _ _).alloc (Nat.le_refl _) _
  have ho1 := ho.below bA
  have HB : Hid (Below w.heap.size w (w.alloc (.cells #[.string c, .string d, .slice p n cp] 31))) := bA
  clear ho bA
  go_enter Tryz.func11, Tryz.ntmps11
  go_wp2_with fail
  refine (markSymI B p n cp s S _ hn hs hs0 (Nat.le_trans hBw HB.out.size) ho1).mono ?_
  rintro e w1 ⟨rfl, hb1, ho2⟩
  have hb2 := (ButO.of_below HB.out).trans hb1
  clear hb1 ho1
  go_wp2_with fail
  go_ret
  exact ⟨rfl, hb2, ho2⟩
end Go.Proofs.YtelogjpjglohoaaGreatDoor

namespace Go.Proofs.YtelogjpjglohoaaGreatDoor
open Go Go.RowKit
set_option linter.unusedVariables false

/-- A list of the call's own, at a block from lo on and below hi. -/
def OwnIn (w : World) (lo hi : Nat) (p : Option Addr) (n m : Nat) (V : Nat → Value) : Prop := n = 0 ∨ ∃ g, p = some ⟨g, 0, none⟩ ∧ lo ≤ g ∧ g < hi ∧ hi ≤ w.heap.size ∧ FRow w g 0 (n * m) V
theorem OwnIn.rows {w : World} {lo hi : Nat} {p : Option Addr} {n m : Nat} {V : Nat → Value} (h : OwnIn w lo hi p n m V) : RowsAt w p n m V := by
  rcases h with h | ⟨g, h1, h2, h3, h4, h5⟩
  · exact .inl h
  · exact .inr ⟨g, 0, h1, Nat.lt_of_lt_of_le h3 h4, h5.1⟩
theorem OwnIn.own {w : World} {lo hi : Nat} {p : Option Addr} {n m : Nat} {V : Nat → Value} (h : OwnIn w lo hi p n m V) : OwnR w lo p n m V := by
  rcases h with h | ⟨g, h1, h2, h3, h4, h5⟩
  · exact .inl h
  · exact .inr ⟨g, h1, h2, Nat.lt_of_lt_of_le h3 h4, h5⟩
theorem OwnIn.below {w w' : World} {lo hi : Nat} {p : Option Addr} {n m : Nat} {V : Nat → Value} (h : OwnIn w lo hi p n m V) (hb : Below hi w w') : OwnIn w' lo hi p n m V := by
  rcases h with h | ⟨g, h1, h2, h3, h4, h5⟩
  · exact .inl h
  · exact .inr ⟨g, h1, h2, h3, Nat.le_trans h4 hb.size, h5.below hb h3⟩
/-- Of the old blocks only those from lo on and below hi may have changed. -/
structure ButR (lo hi : Nat) (w w' : World) : Prop where
  os : w'.os = w.os
  tape : w'.tape = w.tape
  output : w'.output = w.output
  size : w.heap.size ≤ w'.heap.size
  block : ∀ k, k < w.heap.size → k < lo ∨ hi ≤ k → w'.heap[k]? = w.heap[k]?
theorem ButR.of_below {lo hi : Nat} {w w' : World} (h : Below w.heap.size w w') : ButR lo hi w w' := ⟨h.os, h.tape, h.output, h.size, fun k hk _ => h.block k hk⟩
theorem ButR.trans {lo hi : Nat} {a b c : World} (h : ButR lo hi a b) (k : ButR lo hi b c) : ButR lo hi a c :=
  ⟨k.os.trans h.os, k.tape.trans h.tape, k.output.trans h.output, Nat.le_trans h.size k.size, fun i hi hg => (k.block i (Nat.lt_of_lt_of_le hi h.size) hg).trans (h.block i hi hg)⟩
theorem ButR.wide {lo hi lo' hi' : Nat} {a b : World} (h : ButR lo hi a b) (h1 : lo' ≤ lo) (h2 : hi ≤ hi') : ButR lo' hi' a b := ⟨h.os, h.tape, h.output, h.size, fun k hk hg => h.block k hk (by omega)⟩
theorem ButR.below {lo hi B : Nat} {w w' : World} (h : ButR lo hi w w') (hB : B ≤ lo) (hw : B ≤ w.heap.size) : Below B w w' := ⟨h.os, h.tape, h.output, h.size, fun k hk => h.block k (Nat.lt_of_lt_of_le hk hw) (.inl (Nat.lt_of_lt_of_le hk hB))⟩
theorem ButR.cell {lo hi : Nat} {w w' : World} (h : ButR lo hi w w') {k j : Nat} {v : Value} (hc : w.cell? ⟨k, j, none⟩ = some v) (hk : k < lo ∨ hi ≤ k) : w'.cell? ⟨k, j, none⟩ = some v :=
  (World.cell?_of_block (w := w) (h.block k (World.block_lt_of_cell? w _ hc) hk)).trans hc
theorem OwnIn.butR {w w' : World} {lo hi : Nat} {p : Option Addr} {n m : Nat} {V : Nat → Value} {a b : Nat} (h : OwnIn w lo hi p n m V) (hb : ButR a b w w') (hd : hi ≤ a ∨ b ≤ lo) : OwnIn w' lo hi p n m V := by
  rcases h with h | ⟨g, h1, h2, h3, h4, h5⟩
  · exact .inl h
  · have hbl := hb.block g (Nat.lt_of_lt_of_le h3 h4) (by omega)
    exact .inr ⟨g, h1, h2, h3, Nat.le_trans h4 hb.size, fun i hi => (World.cell?_of_block (w := w) hbl).trans (h5.1 i hi), fun i hi => (World.frozen?_of_block (w := w) hbl).trans (h5.2 i hi)⟩
theorem butR_of {lo hi : Nat} {w w' : World} {p : Option Addr} {n m : Nat} {V : Nat → Value} (h : ButO (qn p n) w w') (ho : OwnIn w lo hi p n m V) : ButR lo hi w w' := by
  refine ⟨h.os, h.tape, h.output, h.size, fun k hk hg => h.block k hk ?_⟩
  unfold qn
  rcases ho with h0 | ⟨g, rfl, h2, h3, _⟩
  · rw [if_pos h0]; simp
  · split
    · simp
    · intro e
      have e1 : g = k := congrArg (fun o => (o.map Addr.block).getD 0) e
      omega

theorem ownIn_of {w : World} {lo g n m : Nat} {V : Nat → Value} (h1 : lo ≤ g) (h2 : g < w.heap.size) (h : FRow w g 0 (n * m) V) : OwnIn w lo w.heap.size (some ⟨g, 0, none⟩) n m V := .inr ⟨g, rfl, h1, h2, Nat.le_refl _, h⟩
theorem OwnIn.put {w : World} {lo hi : Nat} {p : Option Addr} {n m : Nat} {V : Nat → Value} (h : OwnIn w lo hi p n m V) {X : Nat} (hX : X < lo) (j : Nat) (v : Value) : OwnIn (w.setCell ⟨X, j, none⟩ v) lo hi p n m V := by
  rcases h with h | ⟨g, h1, h2, h3, h4, h5⟩
  · exact .inl h
  · exact .inr ⟨g, h1, h2, h3, by simpa using h4, h5.other (by omega) j v⟩
theorem OwnIn.wide {w : World} {lo hi lo' : Nat} {p : Option Addr} {n m : Nat} {V : Nat → Value} (h : OwnIn w lo hi p n m V) (hl : lo' ≤ lo) : OwnIn w lo' hi p n m V := by
  rcases h with h | ⟨g, h1, h2, h3, h4, h5⟩
  · exact .inl h
  · exact .inr ⟨g, h1, Nat.le_trans hl h2, h3, h4, h5⟩
end Go.Proofs.YtelogjpjglohoaaGreatDoor
