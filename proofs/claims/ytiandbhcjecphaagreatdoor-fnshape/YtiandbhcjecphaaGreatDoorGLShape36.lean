/- Lists of ints of the call's own: sorted, made compact. Both InstrsOf. Both PhaseOf. A function that holds to the rules: its instructions are right, it calls nothing that it may not, its phases. -/
import Derived.Test.YtiandbhcjecphaaGreatDoorGLShape35
import Derived.Lib.RowBridge
import Derived.Deep.AppendLies
import Derived.Maps.AppendAt
import Derived.Test.YtiandbhcjecphaaGreatDoorGLShape31
import Derived.Test.YtiandbhcjecphaaGreatDoorGLShape34
namespace Go.Proofs.YtiandbhcjecphaaGreatDoor
open Go Go.RowKit Go.Sort
set_option linter.unusedVariables false

theorem holds_of_flat {w : World} {g : Nat} {zs : List Int} (h : Flat w g 0 zs.length (fun i => zs.getD i 0)) : Holds (Value.int .i64) w g 0 zs.toArray := by
  intro j hj
  have hj' : j < zs.length := by simpa using hj
  have := h j hj'
  rw [getElem!_pos zs.toArray j hj]
  simpa [hj'] using this
theorem flat_of_holds {w : World} {g n : Nat} {zs : List Int} (h : Holds (Value.int .i64) w g 0 zs.toArray) (hn : n ≤ zs.length) : Flat w g 0 n (fun i => zs.getD i 0) := by
  intro j hj
  have hj' : j < zs.length := by omega
  have := h j (by simpa using hj')
  rw [getElem!_pos zs.toArray j (by simpa using hj')] at this
  simpa [hj'] using this
theorem put_below (w : World) (q g : Nat) (d : Array Int) (hg : g < w.heap.size) : Below g w (putRow (Value.int .i64) (Sort.ahead w q) g 0 d) := by
  refine ⟨rfl, rfl, rfl, by rw [size_putRow]; exact Nat.le_refl _, fun k hk => ?_⟩
  show (w.heap.modify g _)[k]? = w.heap[k]?
  rw [Array.getElem?_modify, if_neg (by omega)]
theorem grow_below' {w w' : World} {B : Nat} (os : Array Obj) (h : Below B w w') (hB : B ≤ w'.heap.size) : Below B w (grow w' os) := by
  refine ⟨h.os, h.tape, h.output, by show _ ≤ (w'.heap ++ os).size; rw [Array.size_append]; have := h.size; omega, fun k hk => ?_⟩
  show (w'.heap ++ os)[k]? = _
  rw [Array.getElem?_append_left (by omega)]
  exact h.block k hk
theorem holds_grow {w : World} {os : Array Obj} {g : Nat} {d : Array Int} (hg : g < w.heap.size) (h : Holds (Value.int .i64) w g 0 d) : Holds (Value.int .i64) (grow w os) g 0 d := by
  intro j hj
  have := h j hj
  have hb : (grow w os).heap[g]? = w.heap[g]? := heap_grow_old w os hg
  refine ⟨(World.cell?_of_block hb).trans this.1, (World.frozen?_of_block hb).trans this.2⟩

theorem sortedC (p : Option Addr) (c : Nat) (zs : List Int) (B : Nat) (w : World) (h : OwnI w B p zs.length (fun i => zs.getD i 0)) (hl : zs.length ≤ 1000) :
    Calls Tryz.prog 31 #[.slice p zs.length c] w fun e w' => e = .returned (.tuple #[]) ∧ Below B w w' ∧ OwnI w' B p zs.length (fun i => (zs.mergeSort fun x y => decide (x ≤ y)).getD i 0) := by
  by_cases h0 : zs.length = 0
  · rw [h0]
    refine (Tryz.slices_Sort_int_none p c w).mono ?_
    rintro e w' ⟨rfl, rfl⟩
    exact ⟨rfl, Below.refl _ _, .inl rfl⟩
  rcases h with h | ⟨g, rfl, hB, hg, hf⟩
  · exact absurd h h0
  have hH := holds_of_flat hf
  refine (Tryz.slices_Sort_int g 0 c zs w hH hg (by omega)).mono ?_
  rintro e w' ⟨rfl, q, os, rfl⟩
  have hb := put_below w q g (zs.mergeSort fun x y => decide (x ≤ y)).toArray hg
  have hs : g < (putRow (Value.int .i64) (Sort.ahead w q) g 0 (zs.mergeSort fun x y => decide (x ≤ y)).toArray).heap.size := by rw [size_putRow]; exact hg
  have h1 := holds_putRow (Value.int .i64) (Sort.ahead w q) g 0 zs.toArray (zs.mergeSort fun x y => decide (x ≤ y)).toArray hH (by simp)
  refine ⟨rfl, (grow_below' os hb (Nat.le_of_lt hs)).mono hB, .inr ⟨g, rfl, hB, ?_, flat_of_holds (holds_grow hs h1) (by simp)⟩⟩
  show g < (_ ++ os).size
  rw [Array.size_append]
  omega

theorem compactC (p : Option Addr) (c : Nat) (zs : List Int) (B : Nat) (w : World) (hc : zs.length ≤ c) (h : OwnI w B p zs.length (fun i => zs.getD i 0)) (hl : zs.length ≤ 1000) :
    Calls Tryz.prog 32 #[.slice p zs.length c] w fun e w' => e = .returned (.slice p (Lib.compact zs).length c) ∧ Below B w w' ∧ OwnI w' B p (Lib.compact zs).length (fun i => (Lib.compact zs).getD i 0) := by
  have hle := Lib.compact_length_le zs
  by_cases h0 : zs.length = 0
  · have e0 : (Lib.compact zs).length = 0 := by omega
    rw [h0, e0]
    refine (Tryz.slices_Compact_int_empty p c w).mono ?_
    rintro e w' ⟨rfl, rfl⟩
    exact ⟨rfl, Below.refl _ _, .inl rfl⟩
  rcases h with h | ⟨g, rfl, hB, hg, hf⟩
  · exact absurd h h0
  have hH := holds_of_flat hf
  refine (Tryz.slices_Compact_int g 0 c zs w hH (by omega) hc).mono ?_
  rintro e w' ⟨rfl, q, rfl⟩
  have h1 := holds_putRow (Value.int .i64) (Sort.ahead w q) g 0 zs.toArray (Lib.compact zs ++ List.replicate (zs.length - (Lib.compact zs).length) 0).toArray hH (by simp; omega)
  have h2 := flat_of_holds (n := (Lib.compact zs).length) h1 (by simp)
  refine ⟨rfl, (put_below w q g _ hg).mono hB, .inr ⟨g, rfl, hB, by rw [size_putRow]; exact hg, h2.congr fun i hi => ?_⟩⟩
  show (Lib.compact zs ++ List.replicate (zs.length - (Lib.compact zs).length) 0).getD i 0 = _
  simp [List.getD, List.getElem?_append, hi]

/-- What is called, of the first m instructions, in their order. -/
def isCl (R : Nat → Int) (i : Nat) : Bool := decide (R (i * 5) = 3 ∧ R (i * 5 + 1) = 1)
def clT (R : Nat → Int) (a : Int) (i : Nat) : Int := a + 4 * (i : Int) + R (i * 5 + 4)
def clU (R : Nat → Int) (a : Int) (m : Nat) : List Int := ((List.range m).filter (isCl R)).map (clT R a)
theorem clU_succ (R : Nat → Int) (a : Int) (m : Nat) : clU R a (m + 1) = clU R a m ++ (if isCl R m = true then [clT R a m] else []) := by
  unfold clU
  rw [List.range_succ, List.filter_append, List.map_append]
  congr 1
  by_cases h : isCl R m = true <;> simp [h]
theorem clU_len (R : Nat → Int) (a : Int) (m : Nat) : (clU R a m).length ≤ m := by
  unfold clU
  rw [List.length_map]
  exact Nat.le_trans (List.length_filter_le _ _) (by simp)

/-- An answer of a list of ints and a code. -/
def RowAns (B : Nat) (zs : List Int) (y : Int) (w : World) (e : Ending) (w' : World) : Prop := (∃ p c, e = .returned (.tuple #[.slice p zs.length c, .int .i64 y]) ∧ OwnI w' B p zs.length (fun i => zs.getD i 0)) ∧ Below w.heap.size w w'
end Go.Proofs.YtiandbhcjecphaaGreatDoor

namespace Go.Proofs.YtiandbhcjecphaaGreatDoor
open Go Go.RowKit
set_option linter.unusedVariables false

theorem crC_cases (n : Nat) : (65536 < n ∧ crC n 0 = 2) ∨ (n ≤ 65536 ∧ ¬ (n % 4 = 0 ∧ n ≤ 256) ∧ crC n 0 = 8) ∨ (n % 4 = 0 ∧ n ≤ 256 ∧ crC n 0 = 0) := by
  unfold crC
  by_cases h : 65536 < n
  · exact .inl ⟨h, by rw [if_pos h]⟩
  · by_cases h1 : n % 4 = 0 ∧ n ≤ 256
    · exact .inr (.inr ⟨h1.1, h1.2, by rw [if_neg h, if_pos ⟨h1.1, by omega, h1.2⟩]⟩)
    · exact .inr (.inl ⟨by omega, h1, by rw [if_neg h, if_neg (fun x => h1 ⟨x.1, x.2.2⟩)]⟩)

theorem instrsImplYes (s : ByteArray) (N j : Nat) (R : Nat → Int) (w : World) (hL : Laid w) (hr : Run s N R j) (hj : j = N) (h : s.size % 4 = 0 ∧ s.size ≤ 256) (hc : crC s.size 0 = 0) :
    Calls Tryz.prog 10 #[.string s] w fun e w' => ListAns w.heap.size N 0 0 R w e w' := by
  have hle : s.size ≤ 65536 := by omega
  go_enter Tryz.func10, Tryz.ntmps10
  go_wp2_with (go_at_call 23; refine (checkRunC s 0 _ (by unfold maxLen; omega) (by omega)).mono ?_; rintro e' w' ⟨rfl, rfl⟩; rw [hc])
  refine (hr.impl _ hL).mono ?_
  rintro e2 w2 ⟨⟨p, n, c, x, y, rfl, ⟨hj', rfl, rfl, rfl⟩ | ⟨hj', rfl, rfl, rfl⟩, ho⟩, hb⟩
  · go_wp2
    refine bodyPost_ret (v := .tuple #[.slice p _ c, .int .i64 0, .int .i64 0]) (by simp [results, Tryz.results10, go_sem]) rfl ⟨⟨_, _, rfl, ho⟩, hb⟩
  · exact absurd hj (by omega)
theorem instrsImplWrong (s : ByteArray) (N j : Nat) (R : Nat → Int) (w : World) (hL : Laid w) (hr : Run s N R j) (hj : j < N) (h : s.size % 4 = 0 ∧ s.size ≤ 256) (hc : crC s.size 0 = 0) :
    Calls Tryz.prog 10 #[.string s] w fun e w' => ListAns w.heap.size 0 j 10 R w e w' := by
  have hle : s.size ≤ 65536 := by omega
  go_enter Tryz.func10, Tryz.ntmps10
  go_wp2_with (go_at_call 23; refine (checkRunC s 0 _ (by unfold maxLen; omega) (by omega)).mono ?_; rintro e' w' ⟨rfl, rfl⟩; rw [hc])
  refine (hr.impl _ hL).mono ?_
  rintro e2 w2 ⟨⟨p, n, c, x, y, rfl, ⟨hj', rfl, rfl, rfl⟩ | ⟨hj', rfl, rfl, rfl⟩, ho⟩, hb⟩
  · exact absurd hj (by omega)
  · go_wp2
    refine bodyPost_ret (v := .tuple #[.slice p 0 c, .int .i64 j, .int .i64 10]) (by simp [results, Tryz.results10, go_sem]) rfl ⟨⟨_, _, rfl, .inl rfl⟩, hb⟩

end Go.Proofs.YtiandbhcjecphaaGreatDoor

namespace Go.Proofs.YtiandbhcjecphaaGreatDoor
open Go Go.RowKit
set_option linter.unusedVariables false

def phI (i op rd : Int) : Int := if i = 0 ∨ op = 4 then 0 else if i = 1 ∨ (op = 22 ∧ rd = 2) then 1 else 2

theorem phImpl (i op rd r1 r2 im : Int) (w : World) :
    Calls Tryz.prog 33 #[.int .i64 i, .agg #[.int .i64 op, .int .i64 rd, .int .i64 r1, .int .i64 r2, .int .i64 im]] w fun e w' => e = .returned (.int .i64 (phI i op rd)) ∧ Below w.heap.size w w' := by
  unfold phI
  by_cases h0 : i = 0
  · subst h0
    rw [if_pos (.inl rfl)]
    go_enter Tryz.func33, Tryz.ntmps33
    go_wp2
    go_ret
    exact ⟨rfl, (Below.refl _ _).alloc (Nat.le_refl _) _⟩
  by_cases h4 : op = 4
  · subst h4
    rw [if_pos (.inr rfl)]
    go_enter Tryz.func33, Tryz.ntmps33
    go_wp2
    go_ret
    exact ⟨rfl, (Below.refl _ _).alloc (Nat.le_refl _) _⟩
  rw [if_neg (by omega)]
  have h0b : (i == 0) = false := by simpa using h0
  have h4b : (op == 4) = false := by simpa using h4
  by_cases h1 : i = 1
  · subst h1
    rw [if_pos (.inl rfl)]
    go_enter Tryz.func33, Tryz.ntmps33
    go_wp2
    go_ret
    exact ⟨rfl, (Below.refl _ _).alloc (Nat.le_refl _) _⟩
  have h1b : (i == 1) = false := by simpa using h1
  by_cases h2 : op = 22
  · subst h2
    by_cases h3 : rd = 2
    · subst h3
      rw [if_pos (.inr ⟨rfl, rfl⟩)]
      go_enter Tryz.func33, Tryz.ntmps33
      go_wp2
      go_ret
      exact ⟨rfl, (Below.refl _ _).alloc (Nat.le_refl _) _⟩
    · rw [if_neg (by omega)]
      have h3b : (rd == 2) = false := by simpa using h3
      go_enter Tryz.func33, Tryz.ntmps33
      go_wp2
      go_ret
      exact ⟨rfl, (Below.refl _ _).alloc (Nat.le_refl _) _⟩
  · rw [if_neg (by omega)]
    have h2b : (op == 22) = false := by simpa using h2
    go_enter Tryz.func33, Tryz.ntmps33
    go_wp2
    go_ret
    exact ⟨rfl, (Below.refl _ _).alloc (Nat.le_refl _) _⟩

theorem phSpec (i op rd r1 r2 im : Int) (w : World) :
    Calls Tryz.prog 36 #[.agg #[.int .i64 op, .int .i64 rd, .int .i64 r1, .int .i64 r2, .int .i64 im], .int .i64 i] w fun e w' => e = .returned (.int .i64 (phI i op rd)) ∧ Below w.heap.size w w' := by
  unfold phI
  by_cases h0 : i = 0
  · subst h0
    rw [if_pos (.inl rfl)]
    go_enter Tryz.func36, Tryz.ntmps36
    go_wp2
    go_ret
    exact ⟨rfl, (Below.refl _ _).alloc (Nat.le_refl _) _⟩
  by_cases h4 : op = 4
  · subst h4
    rw [if_pos (.inr rfl)]
    go_enter Tryz.func36, Tryz.ntmps36
    go_wp2
    go_ret
    exact ⟨rfl, (Below.refl _ _).alloc (Nat.le_refl _) _⟩
  rw [if_neg (by omega)]
  have h0b : (i == 0) = false := by simpa using h0
  have h4b : (op == 4) = false := by simpa using h4
  by_cases h1 : i = 1
  · subst h1
    rw [if_pos (.inl rfl)]
    go_enter Tryz.func36, Tryz.ntmps36
    go_wp2
    go_ret
    exact ⟨rfl, (Below.refl _ _).alloc (Nat.le_refl _) _⟩
  have h1b : (i == 1) = false := by simpa using h1
  by_cases h2 : op = 22
  · subst h2
    by_cases h3 : rd = 2
    · subst h3
      rw [if_pos (.inr ⟨rfl, rfl⟩)]
      go_enter Tryz.func36, Tryz.ntmps36
      go_wp2
      go_ret
      exact ⟨rfl, (Below.refl _ _).alloc (Nat.le_refl _) _⟩
    · rw [if_neg (by omega)]
      have h3b : (rd == 2) = false := by simpa using h3
      go_enter Tryz.func36, Tryz.ntmps36
      go_wp2
      go_ret
      exact ⟨rfl, (Below.refl _ _).alloc (Nat.le_refl _) _⟩
  · rw [if_neg (by omega)]
    have h2b : (op == 22) = false := by simpa using h2
    go_enter Tryz.func36, Tryz.ntmps36
    go_wp2
    go_ret
    exact ⟨rfl, (Below.refl _ _).alloc (Nat.le_refl _) _⟩

/-- An answer of two numbers. -/
def TwoAns (x y : Int) (w : World) (e : Ending) (w' : World) : Prop := e = .returned (.tuple #[.int .i64 x, .int .i64 y]) ∧ Below w.heap.size w w'

theorem phaseImplNo (s : ByteArray) (i : Int) (w : World) (hs : s.size ≤ maxLen) (c : Int) (hc : crC s.size 0 = c) (h0 : c ≠ 0) :
    Calls Tryz.prog 13 #[.string s, .int .i64 i] w fun e w' => TwoAns 0 c w e w' := by
  go_enter Tryz.func13, Tryz.ntmps13
  go_wp2_with (go_at_call 23; refine (checkRunC s 0 _ hs (by omega)).mono ?_; rintro e w' ⟨rfl, rfl⟩; rw [hc])
  go_ret2
  exact ⟨rfl, Below.refl _ _⟩
theorem phaseImplRange (s : ByteArray) (i : Int) (w : World) (hi : (Lit.int .i64 i).wf = true) (hs : s.size % 4 = 0 ∧ s.size ≤ 256) (hc : crC s.size 0 = 0) (h : i < 0 ∨ (s.size : Int) / 4 ≤ i) :
    Calls Tryz.prog 13 #[.string s, .int .i64 i] w fun e w' => TwoAns 0 4 w e w' := by
  by_cases h0 : i < 0
  · go_enter Tryz.func13, Tryz.ntmps13
    go_wp2_with (go_at_call 23; refine (checkRunC s 0 _ (by unfold maxLen; omega) (by omega)).mono ?_; rintro e w' ⟨rfl, rfl⟩; rw [hc])
    go_ret2
    exact ⟨rfl, Below.refl _ _⟩
  · have h1 : (s.size : Int) / 4 ≤ i := by omega
    go_enter Tryz.func13, Tryz.ntmps13
    go_wp2_with (go_at_call 23; refine (checkRunC s 0 _ (by unfold maxLen; omega) (by omega)).mono ?_; rintro e w' ⟨rfl, rfl⟩; rw [hc])
    go_ret2
    exact ⟨rfl, Below.refl _ _⟩
theorem phaseSpecLong (s : ByteArray) (i : Int) (w : World) (hs : s.size ≤ maxLen) (h : 65536 < s.size) :
    Calls Tryz.prog 14 #[.string s, .int .i64 i] w fun e w' => TwoAns 0 2 w e w' := by
  unfold maxLen at hs
  go_enter Tryz.func14, Tryz.ntmps14
  go_wp2
  go_ret2
  exact ⟨rfl, Below.refl _ _⟩
theorem phaseSpecSize (s : ByteArray) (i : Int) (w : World) (hs : s.size ≤ 65536) (h : ¬ (s.size % 4 = 0 ∧ s.size ≤ 256)) :
    Calls Tryz.prog 14 #[.string s, .int .i64 i] w fun e w' => TwoAns 0 8 w e w' := by
  have e : decide (s.size % 4 = 0 ∧ s.size ≤ 256) = false := by simp only [decide_eq_false_iff_not]; exact h
  go_enter Tryz.func14, Tryz.ntmps14
  go_wp2_with (go_at_call 34; refine (szRun s _ (by unfold maxLen; omega)).mono ?_; rintro e' w' ⟨rfl, rfl⟩; rw [e])
  go_ret2
  exact ⟨rfl, Below.refl _ _⟩
theorem phaseSpecRange (s : ByteArray) (i : Int) (w : World) (hi : (Lit.int .i64 i).wf = true) (hs : s.size % 4 = 0 ∧ s.size ≤ 256) (h : i < 0 ∨ (s.size : Int) / 4 ≤ i) :
    Calls Tryz.prog 14 #[.string s, .int .i64 i] w fun e w' => TwoAns 0 4 w e w' := by
  have e : decide (s.size % 4 = 0 ∧ s.size ≤ 256) = true := by simp only [decide_eq_true_eq]; exact hs
  by_cases h0 : i < 0
  · go_enter Tryz.func14, Tryz.ntmps14
    go_wp2_with (go_at_call 34; refine (szRun s _ (by unfold maxLen; omega)).mono ?_; rintro e' w' ⟨rfl, rfl⟩; rw [e])
    go_ret2
    exact ⟨rfl, Below.refl _ _⟩
  · have h1 : (s.size : Int) / 4 ≤ i := by omega
    go_enter Tryz.func14, Tryz.ntmps14
    go_wp2_with (go_at_call 34; refine (szRun s _ (by unfold maxLen; omega)).mono ?_; rintro e' w' ⟨rfl, rfl⟩; rw [e])
    go_ret2
    exact ⟨rfl, Below.refl _ _⟩

theorem phaseSpecRun (s : ByteArray) (N j k : Nat) (R : Nat → Int) (w : World) (hr : Run s N R j) (h : s.size % 4 = 0 ∧ s.size ≤ 256) (hk : k < N) (x y : Int) (hx : (j = N ∧ x = phI k (R (k * 5)) (R (k * 5 + 1)) ∧ y = 0) ∨ (j < N ∧ x = 0 ∧ y = 10)) :
    Calls Tryz.prog 14 #[.string s, .int .i64 k] w fun e w' => TwoAns x y w e w' := by
  have e : decide (s.size % 4 = 0 ∧ s.size ≤ 256) = true := by simp only [decide_eq_true_eq]; exact h
  have hle : s.size ≤ 65536 := by omega
  have hq : (s.size : Int) / 4 = N := by have := hr.size; omega
  go_enter Tryz.func14, Tryz.ntmps14
  go_wp2_with (go_at_call 34; refine (szRun s _ (by unfold maxLen; omega)).mono ?_; rintro e' w' ⟨rfl, rfl⟩; rw [e])
  refine (hr.model _).mono ?_
  rintro e2 w2 ⟨⟨p, n, c, z, rfl, ⟨hj, rfl, rfl⟩ | ⟨hj, rfl, rfl⟩, ho⟩, hb⟩
  · obtain ⟨_, rfl, rfl⟩ : j = n ∧ x = phI k (R (k * 5)) (R (k * 5 + 1)) ∧ y = 0 := by
      rcases hx with hx | hx
      · exact hx
      · omega
    rcases ho with ho | ⟨g, rfl, hg, hl, hf⟩
    · omega
    obtain ⟨x0, x1, x2, x3, x4⟩ := hf.rd.five hk
    simp only [Nat.zero_add] at x0 x1 x2 x3 x4
    go_wp2_with fail
    refine (phSpec _ _ _ _ _ _ _).mono ?_
    rintro e3 w3 ⟨rfl, hb3⟩
    go_wp2
    go_ret2
    exact ⟨rfl, hb.trans (hb3.mono hb.size)⟩
  · obtain ⟨_, rfl, rfl⟩ : j < N ∧ x = 0 ∧ y = 10 := by
      rcases hx with hx | hx
      · omega
      · exact hx
    have hj0 : (0 : Int) ≤ j := by omega
    go_wp2
    go_ret2
    exact ⟨rfl, hb⟩
theorem phaseImplRun (s : ByteArray) (N j k : Nat) (R : Nat → Int) (w : World) (hL : Laid w) (hr : Run s N R j) (h : s.size % 4 = 0 ∧ s.size ≤ 256) (hc : crC s.size 0 = 0) (hk : k < N) (x y : Int) (hx : (j = N ∧ x = phI k (R (k * 5)) (R (k * 5 + 1)) ∧ y = 0) ∨ (j < N ∧ x = 0 ∧ y = 10)) :
    Calls Tryz.prog 13 #[.string s, .int .i64 k] w fun e w' => TwoAns x y w e w' := by
  have hle : s.size ≤ 65536 := by omega
  have hq : (s.size : Int) / 4 = N := by have := hr.size; omega
  go_enter Tryz.func13, Tryz.ntmps13
  go_wp2_with (go_at_call 23; refine (checkRunC s 0 _ (by unfold maxLen; omega) (by omega)).mono ?_; rintro e w' ⟨rfl, rfl⟩; rw [hc])
  refine (hr.impl _ hL).mono ?_
  rintro e2 w2 ⟨⟨p, n, c, z, z', rfl, ⟨hj, rfl, rfl, rfl⟩ | ⟨hj, rfl, rfl, rfl⟩, ho⟩, hb⟩
  · obtain ⟨_, rfl, rfl⟩ : j = n ∧ x = phI k (R (k * 5)) (R (k * 5 + 1)) ∧ y = 0 := by
      rcases hx with hx | hx
      · exact hx
      · omega
    rcases ho with ho | ⟨g, rfl, hg, hl, hf⟩
    · omega
    obtain ⟨x0, x1, x2, x3, x4⟩ := hf.rd.five hk
    simp only [Nat.zero_add] at x0 x1 x2 x3 x4
    go_wp2_with fail
    refine (phImpl _ _ _ _ _ _ _).mono ?_
    rintro e3 w3 ⟨rfl, hb3⟩
    go_wp2
    go_ret2
    exact ⟨rfl, hb.trans (hb3.mono hb.size)⟩
  · obtain ⟨_, rfl, rfl⟩ : j < N ∧ x = 0 ∧ y = 10 := by
      rcases hx with hx | hx
      · omega
      · exact hx
    go_wp2
    go_ret2
    exact ⟨rfl, hb⟩

theorem phaseBoth (s : ByteArray) (i : Int) (hs : s.size ≤ maxLen) (hi : (Lit.int .i64 i).wf = true) : ∃ x y : Int,
    (∀ w, Calls Tryz.prog 14 #[.string s, .int .i64 i] w fun e w' => TwoAns x y w e w') ∧
    (∀ w, Laid w → Calls Tryz.prog 13 #[.string s, .int .i64 i] w fun e w' => TwoAns x y w e w') := by
  rcases crC_cases s.size with ⟨h, hc⟩ | ⟨h, h', hc⟩ | ⟨h, h', hc⟩
  · exact ⟨0, 2, fun w => phaseSpecLong s i w hs h, fun w hL => phaseImplNo s i w hs 2 hc (by omega)⟩
  · exact ⟨0, 8, fun w => phaseSpecSize s i w h h', fun w hL => phaseImplNo s i w hs 8 hc (by omega)⟩
  · by_cases hb : i < 0 ∨ (s.size : Int) / 4 ≤ i
    · exact ⟨0, 4, fun w => phaseSpecRange s i w hi ⟨h, h'⟩ hb, fun w hL => phaseImplRange s i w hi ⟨h, h'⟩ hc hb⟩
    · obtain ⟨k, rfl⟩ : ∃ k : Nat, i = k := ⟨i.toNat, by omega⟩
      obtain ⟨R, j, hr⟩ := run_of s (s.size / 4) (by omega) (by omega)
      have hk : k < s.size / 4 := by omega
      by_cases e : j = s.size / 4
      · exact ⟨_, _, fun w => phaseSpecRun s _ j k R w hr ⟨h, h'⟩ hk _ _ (.inl ⟨e, rfl, rfl⟩), fun w hL => phaseImplRun s _ j k R w hL hr ⟨h, h'⟩ hc hk _ _ (.inl ⟨e, rfl, rfl⟩)⟩
      · have hj : j < s.size / 4 := by have := hr.le; omega
        exact ⟨_, _, fun w => phaseSpecRun s _ j k R w hr ⟨h, h'⟩ hk _ _ (.inr ⟨hj, rfl, rfl⟩), fun w hL => phaseImplRun s _ j k R w hL hr ⟨h, h'⟩ hc hk _ _ (.inr ⟨hj, rfl, rfl⟩)⟩
end Go.Proofs.YtiandbhcjecphaaGreatDoor

namespace Go.Proofs.YtiandbhcjecphaaGreatDoor.Fu
open Go Go.RowKit
set_option linter.unusedVariables false

section
variable {f at' : Int} {cs : List Int} {B : List I5}
def rt5 (x : I5) : Bool := rightB x.o x.d x.a x.b x.i
theorem rt_of {L : List I5} (h : ∀ x ∈ L, rt5 x = true) {k : Nat} (hk : k < L.length) : rtB (rz L) k = true := by
  obtain ⟨e0, e1, e2, e3, e4⟩ := rz_at (List.getElem?_eq_getElem hk)
  unfold rtB
  rw [e0, e1, e2, e3, e4]
  exact h _ (List.getElem_mem hk)
theorem fun_right (hf : frB f = true) (hB : Body f at' cs 2 B) : ∀ x ∈ Fun f B, rt5 x = true := by
  obtain ⟨f0, f1, _⟩ := frB_bd hf
  intro x hx
  unfold Fun at hx
  rw [List.mem_append, List.mem_append] at hx
  rcases hx with (hx | hx) | hx
  · simp only [proL, List.mem_cons, List.not_mem_nil, or_false] at hx
    rcases hx with rfl | rfl
    · exact right_22 2 2 (-f) (by omega) (by omega) (by omega)
    · exact right_st 21 2 1 (f - 8) (by omega) (by omega) (by omega) (by omega)
  · obtain ⟨k, hk, rfl⟩ := List.getElem_of_mem hx
    exact (hB k _ (List.getElem?_eq_getElem hk)).right
  · simp only [epiL, List.mem_cons, List.not_mem_nil, or_false] at hx
    rcases hx with rfl | rfl | rfl
    · exact right_ld 14 1 2 (f - 8) (by omega) (by omega) (by omega) (by omega)
    · exact right_22 2 2 f (by omega) (by omega) (by omega)
    · exact right_jr 0 1 0 (by omega) (by omega) (by omega)
/-- A function that may call nothing calls nothing. -/
theorem fun_calls (hB : Body f at' [] 2 B) (a : Int) : clU (rz (Fun f B)) a (B.length + 5) = [] := by
  unfold clU
  rw [List.map_eq_nil_iff, List.filter_eq_nil_iff]
  intro k hk
  have hk : k < B.length + 5 := by simpa using hk
  have no : ∀ x, (Fun f B)[k]? = some x → x.o ≠ 3 → ¬ isCl (rz (Fun f B)) k = true := fun x hx h3 => by
    unfold isCl
    rw [(rz_at hx).1]
    simp [h3]
  by_cases h2 : 2 ≤ k
  · rcases Fun_where hB h2 hk with ⟨x, hx, _, hl⟩ | rfl | rfl | rfl
    · exact no x hx (fun h3 => by have := (hl.jal h3).2; cases this)
    · exact no _ epi0 (by show (14 : Int) ≠ 3; decide)
    · exact no _ epi1 (by show (22 : Int) ≠ 3; decide)
    · exact no _ epi2 (by show (4 : Int) ≠ 3; decide)
  · rcases (show k = 0 ∨ k = 1 by omega) with rfl | rfl
    · exact no ⟨22, 2, 2, 0, -f⟩ (Fun_pro (by omega)) (by show (22 : Int) ≠ 3; decide)
    · exact no ⟨21, 0, 2, 1, f - 8⟩ (Fun_pro (by omega)) (by show (21 : Int) ≠ 3; decide)
/-- Outside is the first instruction, and the last one. -/
theorem fun_phase (hB : Body f at' cs 2 B) {k : Nat} (hk : k < B.length + 5) : (phI k (rz (Fun f B) (k * 5)) (rz (Fun f B) (k * 5 + 1)) = 0) ↔ (k = 0 ∨ k = B.length + 4) := by
  have key : ∀ x, (Fun f B)[k]? = some x → ((phI k (rz (Fun f B) (k * 5)) (rz (Fun f B) (k * 5 + 1)) = 0) ↔ (k = 0 ∨ x.o = 4)) := fun x hx => by
    rw [(rz_at hx).1, (rz_at hx).2.1]
    unfold phI
    constructor
    · intro h
      split at h
      · omega
      · split at h <;> omega
    · intro h
      rw [if_pos (by omega)]
  by_cases h2 : 2 ≤ k
  · rcases Fun_where hB h2 hk with ⟨x, hx, hlt, hl⟩ | rfl | rfl | rfl
    · rw [key x hx]
      have := hl.jr
      omega
    · rw [key _ epi0]
      show (_ ∨ (14 : Int) = 4) ↔ _
      omega
    · rw [key _ epi1]
      show (_ ∨ (22 : Int) = 4) ↔ _
      omega
    · rw [key _ epi2]
      show (_ ∨ (4 : Int) = 4) ↔ _
      omega
  · rcases (show k = 0 ∨ k = 1 by omega) with rfl | rfl
    · rw [key ⟨22, 2, 2, 0, -f⟩ (Fun_pro (by omega))]
      show (_ ∨ (22 : Int) = 4) ↔ _
      omega
    · rw [key ⟨21, 0, 2, 1, f - 8⟩ (Fun_pro (by omega))]
      show (_ ∨ (21 : Int) = 4) ↔ _
      omega
end
end Go.Proofs.YtiandbhcjecphaaGreatDoor.Fu
