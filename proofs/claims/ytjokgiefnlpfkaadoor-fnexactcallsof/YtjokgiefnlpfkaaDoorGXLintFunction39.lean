/- A run read: the program's readRun. Runs: what their words are; both readings of them. Both InstrsOf. The program's LintFunction. Both LintFunction. The model's check of functions, whole; both checks. Lists of ints: copied, held against each other, marked, held against their marks. -/
import Derived.Test.YtjokgiefnlpfkaaDoorGXLintFunction38
import Derived.Test.YtjokgiefnlpfkaaDoorGXLintFunction0
import Derived.Maps.OwnIn
import Derived.Deep.AppendLies
import Derived.Test.YtjokgiefnlpfkaaDoorGXLintFunction13
import Derived.Test.YtjokgiefnlpfkaaDoorGXLintFunction12
namespace Go.Proofs.YtjokgiefnlpfkaaDoor
open Go Go.RowKit
set_option linter.unusedVariables false
attribute [local go_sem] Oper.semAt_some
theorem Tryd.info_inr : (Tryd.prog.info? 47).map (fun i => (i.zero, i.size, i.bytes)) = some (some (.agg #[.int .i64 0, .int .i64 0, .int .i64 0, .int .i64 0, .int .i64 0]), 5, 40) := by kernel_rfl

/-- The cells of the first n instructions. -/
def cellsR (R : Nat → Int) (n : Nat) : List Value := (List.range (n * 5)).map fun i => .int .i64 (R i)
theorem cellsR_succ (R : Nat → Int) (n : Nat) : cellsR R (n + 1) = cellsR R n ++ [.int .i64 (R (n * 5)), .int .i64 (R (n * 5 + 1)), .int .i64 (R (n * 5 + 2)), .int .i64 (R (n * 5 + 3)), .int .i64 (R (n * 5 + 4))] := by
  unfold cellsR
  rw [show (n + 1) * 5 = n * 5 + 1 + 1 + 1 + 1 + 1 from by omega, List.range_succ, List.range_succ, List.range_succ, List.range_succ, List.range_succ]
  simp
theorem cellsR_len (R : Nat → Int) (n : Nat) : (cellsR R n).length = n * 5 := by simp [cellsR]

/-- A list of n instructions of the call's own. -/
def OwnL (w : World) (B : Nat) (p : Option Addr) (n : Nat) (R : Nat → Int) : Prop := n = 0 ∨ ∃ g, p = some ⟨g, 0, none⟩ ∧ B ≤ g ∧ g < w.heap.size ∧ Flat w g 0 (n * 5) R
theorem OwnL.list {w : World} {B : Nat} {p : Option Addr} {n : Nat} {R : Nat → Int} (h : OwnL w B p n R) : ListAt w p n R := by
  rcases h with h | ⟨g, h1, h2, h3, h4⟩
  · exact .inl h
  · exact .inr ⟨g, 0, h1, h3, h4.rd⟩
theorem OwnL.below {w w' : World} {B : Nat} {p : Option Addr} {n : Nat} {R : Nat → Int} (h : OwnL w B p n R) (hb : Below w.heap.size w w') : OwnL w' B p n R := by
  rcases h with h | ⟨g, h1, h2, h3, h4⟩
  · exact .inl h
  · exact .inr ⟨g, h1, h2, Nat.lt_of_lt_of_le h3 hb.size, h4.below hb h3⟩
theorem ownL_of_row {w : World} {B e : Nat} {v : Value} {n : Nat} {R : Nat → Int} (h : w.ownsRow B e 5 v n (cellsR R n)) : ∃ p c, v = .slice p n c ∧ OwnL w B p n R := by
  rcases h.2 with ⟨rfl, rfl⟩ | ⟨g, cap, cur, rfl, h1, h2, h3, h4, h5, h6⟩
  · exact ⟨none, 0, rfl, .inl rfl⟩
  · refine ⟨_, cap, rfl, .inr ⟨g, rfl, h1, (Array.getElem?_eq_some_iff.1 h2).1, fun i hi => ?_⟩⟩
    rw [Nat.zero_add, cell_of_row w g i cur e (0, 0) h2]
    refine ⟨?_, frozen_of_row w g i cur e h2⟩
    have h7 : (cur.toList.take (n * 5))[i]? = (cellsR R n)[i]? := by rw [h6]
    rw [List.getElem?_take, if_pos hi, Array.getElem?_toList] at h7
    rw [h7]
    simp [cellsR, hi]

theorem row_below {W W' : World} {B e size n : Nat} {v : Value} {xs : List Value} (h : W.ownsRow B e size v n xs) (hb : Below W.heap.size W W') : W'.ownsRow B e size v n xs := by
  refine ⟨h.1, ?_⟩
  rcases h.2 with hv | ⟨g, cap, cur, h1, h2, h3, h4⟩
  · exact .inl hv
  · exact .inr ⟨g, cap, cur, h1, h2, (hb.block g (Array.getElem?_eq_some_iff.1 h3).1).trans h3, h4⟩

theorem insMk (s : ByteArray) (w : World) :
    Calls Tryd.prog 62 #[.string s] w fun e w' => e = .returned (.func (.func 87) #[] #[.pointer (some ⟨w.heap.size, 0, none⟩)]) ∧ w' = w.alloc (.cells #[.string s] 9) := by
  go_enter Tryd.func62, Tryd.ntmps62
  go_wp2
  go_ret
  exact ⟨rfl, rfl⟩

/-- What the loop keeps between two rounds. (B: the heap's size when the call begins: the answers' boxes B, B + 1, B + 2, the list's box B + 3, the iterator's B + 4.) -/
def RunI (w : World) (R : Nat → Int) (j : Nat) (k : Nat) (W : World) : Prop :=
  k ≤ j ∧ (∃ v, Boxed W (w.heap.size + 1 + 1 + 1) 26 v ∧ W.ownsRow w.heap.size 47 5 v k (cellsR R k) ∧ v.ownBlock ≠ some (w.heap.size + 1 + 1 + 1 + 1)) ∧
    Boxed W w.heap.size 26 (.slice none 0 0) ∧ Boxed W (w.heap.size + 1) 3 (.int .i64 0) ∧ Boxed W (w.heap.size + 1 + 1) 3 (.int .i64 0) ∧ Below w.heap.size w W ∧ w.heap.size + 1 + 1 + 1 + 1 < W.heap.size
def RunX (w : World) (N j : Nat) (W : World) : Prop :=
  j < N ∧ Boxed W w.heap.size 26 (.slice none 0 0) ∧ Boxed W (w.heap.size + 1) 3 (.int .i64 j) ∧ Boxed W (w.heap.size + 1 + 1) 3 (.int .i64 10) ∧ Below w.heap.size w W
theorem boxed_stands {A B : World} {row : Option Nat} {Bc S X t : Nat} {v : Value} (hg : A.grownBy B row) (hrow : ∀ r, row = some r → r = Bc ∨ (S ≤ r ∧ ∃ o : Obj, A.heap[r]? = some o ∧ o.isCells = false)) (h : Boxed A X t v) (hne : X ≠ Bc) (hlt : X < S) : Boxed B X t v :=
  h.kept hg (fun e => by rcases hrow X e.symm with h' | ⟨h', _⟩ <;> omega)
theorem row_stands {A B : World} {row : Option Nat} {Bc S base e size k : Nat} {v : Value} {xs : List Value} (hg : A.grownBy B row) (hrow : ∀ r, row = some r → r = Bc ∨ (S ≤ r ∧ ∃ o : Obj, A.heap[r]? = some o ∧ o.isCells = false)) (h : A.ownsRow base e size v k xs) (hne : v.ownBlock ≠ some Bc) : B.ownsRow base e size v k xs := by
  refine h.kept hg ?_
  rcases h.2 with ⟨rfl, _⟩ | ⟨g, cap, cur, rfl, _, hgb, _⟩
  · exact .inl rfl
  · refine .inr fun e' => ?_
    rcases hrow g (by simpa [Value.ownBlock] using e'.symm) with h' | ⟨_, o, ho, hc⟩
    · exact hne (by simp [Value.ownBlock, h'])
    · rw [hgb] at ho; cases ho; cases hc
theorem runI_stands (w : World) (R : Nat → Int) (j S : Nat) (hS : S = w.heap.size + 1 + 1 + 1 + 1 + 1) : Stands (w.heap.size + 1 + 1 + 1 + 1) S (RunI w R j) := by
  rintro k A B row ⟨h0, ⟨v, hv, hr, hne⟩, h2, h3, h4, hb, hz⟩ hg hrow
  exact ⟨h0, ⟨v, boxed_stands hg hrow hv (by omega) (by omega), row_stands hg hrow hr hne, hne⟩, boxed_stands hg hrow h2 (by omega) (by omega), boxed_stands hg hrow h3 (by omega) (by omega), boxed_stands hg hrow h4 (by omega) (by omega),
    hb.grown hg hb.size (fun r e => by rcases hrow r e with h' | ⟨h', _⟩ <;> omega), Nat.lt_of_lt_of_le hz hg.size⟩
theorem runX_stands (w : World) (N j S : Nat) (hS : S = w.heap.size + 1 + 1 + 1 + 1 + 1) : Stands (w.heap.size + 1 + 1 + 1 + 1) S (fun (_ : Unit) => RunX w N j) := by
  rintro _ A B row ⟨h0, h2, h3, h4, hb⟩ hg hrow
  exact ⟨h0, boxed_stands hg hrow h2 (by omega) (by omega), boxed_stands hg hrow h3 (by omega) (by omega), boxed_stands hg hrow h4 (by omega) (by omega),
    hb.grown hg hb.size (fun r e => by rcases hrow r e with h' | ⟨h', _⟩ <;> omega)⟩

set_option maxRecDepth 100000 in
set_option maxHeartbeats 4000000 in
theorem runC (s : ByteArray) (N : Nat) (hs : s.size = 4 * N) (hN : N ≤ 16384) (R : Nat → Int) (co : Nat → Int) (hd : ∀ k, k < N → Hid (DecIs (wrd s k) R k (co k))) (j : Nat) (hj : j ≤ N) (hgo : ∀ k, k < j → co k = 0) (hst : j < N → co j = 10) (w : World) (hL : Laid w) :
    Calls Tryd.prog 36 #[.string s] w fun e w' => (∃ p n c x y, e = .returned (.tuple #[.slice p n c, .int .i64 x, .int .i64 y]) ∧ ((j = N ∧ n = N ∧ x = 0 ∧ y = 0) ∨ (j < N ∧ n = 0 ∧ x = j ∧ y = 10)) ∧ OwnL w' w.heap.size p n R) ∧ Below w.heap.size w w' := by
  obtain ⟨i0, hi, hz0, hz1, hz2⟩ := info_parts Tryd.info_inr
  refine (callsIn_wide (n := 9)).1 ?_
  refine callsIn_of_wp_marks Tryd.func36 rfl trivial ?_ rfl
  simp only [Tryd.ntmps36, List.size_toArray, List.length_cons, List.length_nil, Nat.reduceAdd, Nat.reduceSub, Array.replicate_succ, Array.replicate_zero, List.push_toArray, List.append_toArray, List.nil_append, List.cons_append]
  gi_wp2
  refine ⟨trivial, (callsIn_wide.2 (insMk _ _)).mono ?_⟩
  rintro e w' ⟨rfl, rfl⟩
  gi_wp2
  have bC := Boxed.new ((((w.alloc (.cells #[.slice none 0 0] 26)).alloc (.cells #[.int .i64 0] 3)).alloc (.cells #[.int .i64 0] 3)).alloc (.cells #[.slice none 0 0] 26)) 9 (.string s)
  have bL := (Boxed.new (((w.alloc (.cells #[.slice none 0 0] 26)).alloc (.cells #[.int .i64 0] 3)).alloc (.cells #[.int .i64 0] 3)) 26 (.slice none 0 0)).alloc (.cells #[.string s] 9)
  have bY := ((Boxed.new ((w.alloc (.cells #[.slice none 0 0] 26)).alloc (.cells #[.int .i64 0] 3)) 3 (.int .i64 0)).alloc (.cells #[.slice none 0 0] 26)).alloc (.cells #[.string s] 9)
  have bX := (((Boxed.new (w.alloc (.cells #[.slice none 0 0] 26)) 3 (.int .i64 0)).alloc (.cells #[.int .i64 0] 3)).alloc (.cells #[.slice none 0 0] 26)).alloc (.cells #[.string s] 9)
  have bA := ((((Boxed.new w 26 (.slice none 0 0)).alloc (.cells #[.int .i64 0] 3)).alloc (.cells #[.int .i64 0] 3)).alloc (.cells #[.slice none 0 0] 26)).alloc (.cells #[.string s] 9)
  simp only [World.size_alloc] at bC bL bY bX
  have hB0 : Below w.heap.size w (((((w.alloc (.cells #[.slice none 0 0] 26)).alloc (.cells #[.int .i64 0] 3)).alloc (.cells #[.int .i64 0] 3)).alloc (.cells #[.slice none 0 0] 26)).alloc (.cells #[.string s] 9)) :=
    (((((Below.refl _ w).alloc (Nat.le_refl _) _).alloc (by simp) _).alloc (by simp; omega) _).alloc (by simp; omega) _).alloc (by simp; omega) _
  have hz : (((((w.alloc (.cells #[.slice none 0 0] 26)).alloc (.cells #[.int .i64 0] 3)).alloc (.cells #[.int .i64 0] 3)).alloc (.cells #[.slice none 0 0] 26)).alloc (.cells #[.string s] 9)).heap.size = w.heap.size + 1 + 1 + 1 + 1 + 1 := by simp
  obtain ⟨W0, hW0⟩ : ∃ W0, (((((w.alloc (.cells #[.slice none 0 0] 26)).alloc (.cells #[.int .i64 0] 3)).alloc (.cells #[.int .i64 0] 3)).alloc (.cells #[.slice none 0 0] 26)).alloc (.cells #[.string s] 9)) = W0 := ⟨_, rfl⟩
  rw [hW0] at bC bL bY bX bA hB0 hz ⊢
  clear hW0
  have hL0 : Laid W0 := laid_below hL hB0
  refine rangeCell rfl (by omega) (gf := 87) (lb := #[.pointer (some ⟨w.heap.size + 1 + 1 + 1 + 1, 0, none⟩)]) rfl trivial (enters_of Tryd.func87 (by kernel_rfl) rfl)
    (insSeq s N hs hN R co hd 8 w.heap.size (w.heap.size + 1 + 1 + 1 + 1) W0 hL0 hB0.size (fun W h => laid_below hL (hB0.trans h)) (by omega) (by omega) bC) hB0.size (by omega) (fun _ => rfl)
    (RunI w R j) (RunX w N j) (runI_stands w R j _ hz) (runX_stands w N j _ hz) ⟨Nat.zero_le _, ⟨_, bL, World.ownsRow_nil _ _ _ _, by simp [Value.ownBlock]⟩, bA, bX, bY, hB0, by omega⟩
    (fun k a' W => ∃ Bx, w.heap.size + 1 + 1 + 1 + 1 < Bx ∧ Lies W Bx 47 #[.int .i64 (R (k * 5)), .int .i64 (R (k * 5 + 1)), .int .i64 (R (k * 5 + 2)), .int .i64 (R (k * 5 + 3)), .int .i64 (R (k * 5 + 4))] ∧ a' = { tmps := #[.string s, undef, .pointer (some ⟨w.heap.size, 0, none⟩), .pointer (some ⟨w.heap.size + 1, 0, none⟩), .pointer (some ⟨w.heap.size + 1 + 1, 0, none⟩), .pointer (some ⟨w.heap.size + 1 + 1 + 1, 0, none⟩), .pointer (some ⟨Bx, 0, none⟩), .int .i64 (co k), .string s, .func (.func 87) #[] #[.pointer (some ⟨w.heap.size + 1 + 1 + 1 + 1, 0, none⟩)], .agg #[.int .i64 (R (k * 5)), .int .i64 (R (k * 5 + 1)), .int .i64 (R (k * 5 + 2)), .int .i64 (R (k * 5 + 3)), .int .i64 (R (k * 5 + 4))], .int .i64 (co k), undef, undef, undef, undef, undef, undef, undef, undef, undef, undef], defers := [] })
    ?ax ?assign ?body ?done ?stop
  case ax =>
    rintro k a' _ A B row ⟨Bx, h1, h2, h3⟩ hg hrow
    refine ⟨Bx, h1, (hg.block Bx h2.lt (fun e => ?_)).trans h2, h3⟩
    rcases hrow Bx e.symm with h' | ⟨_, o, ho, hc⟩
    · omega
    · rw [show A.heap[Bx]? = _ from h2] at ho; cases ho; cases hc
  case assign =>
    rintro l k W K hI hK
    gi_wp2
    obtain ⟨q0, q1, q2, q3, q4, q5, q6⟩ := hI
    have hI2 := (runI_stands w R j _ rfl).alloc (.cells #[.int .i64 (R (k * 5)), .int .i64 (R (k * 5 + 1)), .int .i64 (R (k * 5 + 2)), .int .i64 (R (k * 5 + 3)), .int .i64 (R (k * 5 + 4))] 47) (show RunI w R j k W from ⟨q0, q1, q2, q3, q4, q5, q6⟩)
    exact hK _ _ ((KeepsOthers.alloc _ _).from _) (RKeep.new ((Below.refl _ _).alloc (Nat.le_refl _) _) q5.size q6) hI2 ⟨W.heap.size, q6, Lies.new _ _ _, rfl⟩
  case body =>
    rintro l k a' W ⟨q0, ⟨v, hv, hr, hne⟩, q2, q3, q4, q5, q6⟩ ⟨Bx, hBx, hX, rfl⟩ hk
    have cv := hv.cell
    by_cases hkj : k < j
    · have e0 := hgo k hkj
      rw [e0]
      have x0 := hX.cell (j := 0) rfl
      have x1 := hX.cell (j := 1) rfl
      have x2 := hX.cell (j := 2) rfl
      have x3 := hX.cell (j := 3) rfl
      have x4 := hX.cell (j := 4) rfl
      gi_wp2_with (gi_at_builtin; refine wpListIn_append_own_at _ rfl _ _ 26 rfl w.heap.size 47 i0 _ 5 40 Tryd.underlying26 hi hz0 hz1 hz2 rfl (by decide) v k _ rfl (hr.alloc _) ⟨W.heap.size, 0, none⟩ 1 1 [.int .i64 (R (k * 5)), .int .i64 (R (k * 5 + 1)), .int .i64 (R (k * 5 + 2)), .int .i64 (R (k * 5 + 3)), .int .i64 (R (k * 5 + 4))] rfl rfl (World.news_of_block (cs := #[.int .i64 (R (k * 5)), .int .i64 (R (k * 5 + 1)), .int .i64 (R (k * 5 + 2)), .int .i64 (R (k * 5 + 3)), .int .i64 (R (k * 5 + 4))]) (t := 47) (fr := (0, 0)) (heap_alloc_new W _)) (by simp [Value.oneCell']) (by unfold maxLen; omega) (by omega) (by have := q5.size; simp; omega) ?_; intro v' w1 hown' hgrow _ hat; obtain ⟨g', cap', rfl⟩ := ownsRow_succ hown'; obtain ⟨hv1, hv2, hr2, hk2, hb2⟩ := hv.appended (by decide) hr q5.size (by omega) hown' hgrow; have hc1 := hv1.cell; have hf1 := hv1.frozen)
      obtain ⟨V', hV'⟩ : ∃ V', Value.slice (some ⟨g', 0, none⟩) (k + 1) cap' = V' := ⟨_, rfl⟩
      rw [hV'] at hown' hat hv2 hr2 hk2 hb2 ⊢
      have keep : ∀ X, X < W.heap.size → X ≠ w.heap.size + 1 + 1 + 1 → some X ≠ v.ownBlock → (w1.setCell ⟨w.heap.size + 1 + 1 + 1, 0, none⟩ V').heap[X]? = W.heap[X]? := fun X h1 h2 h3 =>
        (Below.heap_setCell _ _ _ _ h2).trans ((hgrow.block X (by simp; omega) h3).trans (Below.heap_alloc _ _ _ h1))
      have hne' : V'.ownBlock ≠ some (w.heap.size + 1 + 1 + 1 + 1) := by
        intro e
        rcases hat with h | h
        · exact hne (h ▸ e)
        · rw [e] at h
          have := Option.some.inj h
          simp at this
          omega
      have hgs : W.heap.size ≤ w1.heap.size := by have := hgrow.size; simp at this; omega
      refine ⟨hk2.from _, ⟨hb2, keep _ q6 (by omega) hne.symm⟩, by omega, ⟨V', hv2, by rw [cellsR_succ]; exact hr2, hne'⟩, (keep _ q2.lt (by omega) (q2.not_row (by decide) hr)).trans q2, (keep _ q3.lt (by omega) (q3.not_row (by decide) hr)).trans q3, (keep _ q4.lt (by omega) (q4.not_row (by decide) hr)).trans q4, q5.trans hb2, by simp; omega⟩
    · obtain rfl : k = j := by omega
      have e0 := hst hk
      rw [e0]
      obtain ⟨p, c, rfl, ho⟩ := ownL_of_row hr
      have c2 := q2.cell
      have c3 := q3.cell
      have c4 := q4.cell
      have f2 := q2.frozen
      have f3 := q3.frozen
      have f4 := q4.frozen
      have ya := ((q2.set (.slice none 0 0)).other (B' := w.heap.size + 1) (by omega) (.int .i64 (k : Int))).other (B' := w.heap.size + 1 + 1) (by omega) (.int .i64 10)
      have yb := ((q3.other (B' := w.heap.size) (by omega) (.slice none 0 0)).set (.int .i64 (k : Int))).other (B' := w.heap.size + 1 + 1) (by omega) (.int .i64 10)
      have yc := ((q4.other (B' := w.heap.size) (by omega) (.slice none 0 0)).other (B' := w.heap.size + 1) (by omega) (.int .i64 (k : Int))).set (.int .i64 10)
      have yd := ((q5.setCell (p := ⟨w.heap.size, 0, none⟩) (Nat.le_refl _) (.slice none 0 0)).setCell (p := ⟨w.heap.size + 1, 0, none⟩) (by simp) (.int .i64 (k : Int))).setCell (p := ⟨w.heap.size + 1 + 1, 0, none⟩) (by simp; omega) (.int .i64 10)
      have ye := ((KeepsOthers.setCell W ⟨w.heap.size, 0, none⟩ (.slice none 0 0)).trans (KeepsOthers.setCell _ ⟨w.heap.size + 1, 0, none⟩ (.int .i64 (k : Int)))).trans (KeepsOthers.setCell _ ⟨w.heap.size + 1 + 1, 0, none⟩ (.int .i64 10))
      gi_wp2
      gi_region
      all_goals gi_wp2
      all_goals (try go_bits)
      all_goals exact ⟨(ye.trans (KeepsOthers.drew _)).from _, hk, ya, yb, yc, yd.drew⟩
  case done =>
    rintro D W hD ⟨q0, ⟨v, hv, hr, hne⟩, q2, q3, q4, q5, q6⟩ hDq
    obtain rfl : N = j := by omega
    obtain ⟨p, c, rfl, ho⟩ := ownL_of_row hr
    have cv := hv.cell
    have c2 := q2.cell
    have c3 := q3.cell
    have c4 := q4.cell
    have f2 := q2.frozen
    have f3 := q3.frozen
    have f4 := q4.frozen
    have n2 := q2.not_row (by decide) hr
    have n3 := q3.not_row (by decide) hr
    have n4 := q4.not_row (by decide) hr
    have ya := ((q2.set (.slice p N c)).other (B' := w.heap.size + 1) (by omega) (.int .i64 0)).other (B' := w.heap.size + 1 + 1) (by omega) (.int .i64 0)
    have yb := ((q3.other (B' := w.heap.size) (by omega) (.slice p N c)).set (.int .i64 0)).other (B' := w.heap.size + 1 + 1) (by omega) (.int .i64 0)
    have yc := ((q4.other (B' := w.heap.size) (by omega) (.slice p N c)).other (B' := w.heap.size + 1) (by omega) (.int .i64 0)).set (.int .i64 0)
    have yd := ((q5.setCell (p := ⟨w.heap.size, 0, none⟩) (Nat.le_refl _) (.slice p N c)).setCell (p := ⟨w.heap.size + 1, 0, none⟩) (by simp) (.int .i64 0)).setCell (p := ⟨w.heap.size + 1 + 1, 0, none⟩) (by simp; omega) (.int .i64 0)
    have ye := ((KeepsOthers.setCell W ⟨w.heap.size, 0, none⟩ (.slice p N c)).trans (KeepsOthers.setCell _ ⟨w.heap.size + 1, 0, none⟩ (.int .i64 0))).trans (KeepsOthers.setCell _ ⟨w.heap.size + 1 + 1, 0, none⟩ (.int .i64 0))
    have yr := ((hr.kept (grownBy_setCell' W w.heap.size (.slice p N c)) (.inr n2.symm)).kept (grownBy_setCell' _ (w.heap.size + 1) (.int .i64 0)) (.inr n3.symm)).kept (grownBy_setCell' _ (w.heap.size + 1 + 1) (.int .i64 0)) (.inr n4.symm)
    have yq := ye.same D _ hDq rfl
    gi_wp2
    obtain ⟨V, hV⟩ : ∃ V, (((W.setCell ⟨w.heap.size, 0, none⟩ (.slice p N c)).setCell ⟨w.heap.size + 1, 0, none⟩ (.int .i64 0)).setCell ⟨w.heap.size + 1 + 1, 0, none⟩ (.int .i64 0)) = V := ⟨_, rfl⟩
    rw [hV] at ya yb yc yd yr yq ⊢
    have za := (ya.kept (grownBy_putObj' V D (.deferred none)) (by intro e; have := Option.some.inj e; omega)).cell
    have zb := (yb.kept (grownBy_putObj' V D (.deferred none)) (by intro e; have := Option.some.inj e; omega)).cell
    have zc := (yc.kept (grownBy_putObj' V D (.deferred none)) (by intro e; have := Option.some.inj e; omega)).cell
    obtain ⟨p', c', e', ho'⟩ := ownL_of_row (ownsRow_putObj yr (.deferred none) yq rfl)
    cases e'
    refine ⟨by simp, .inl ⟨_, _, rfl, run_takeDeferred yq, ?_⟩⟩
    refine ⟨.tuple #[.slice p N c, .int .i64 0, .int .i64 0], by simp [results, Tryd.results36, go_sem, za, zb, zc], ⟨p, N, c, 0, 0, rfl, by simp, ho'⟩, yd.trans (belowK_b (w := w) (Nat.le_refl _) V D _ _ (by omega) yq rfl rfl)⟩
  case stop =>
    rintro D W hD ⟨q0, q2, q3, q4, q5⟩ hDq
    have za := (q2.kept (grownBy_putObj' W D (.deferred none)) (by intro e; have := Option.some.inj e; omega)).cell
    have zb := (q3.kept (grownBy_putObj' W D (.deferred none)) (by intro e; have := Option.some.inj e; omega)).cell
    have zc := (q4.kept (grownBy_putObj' W D (.deferred none)) (by intro e; have := Option.some.inj e; omega)).cell
    gi_wp2
    refine ⟨by simp, .inl ⟨_, _, rfl, run_takeDeferred hDq, ?_⟩⟩
    refine ⟨.tuple #[.slice none 0 0, .int .i64 j, .int .i64 10], by simp [results, Tryd.results36, go_sem, za, zb, zc], ⟨none, 0, 0, j, 10, rfl, .inr ⟨q0, rfl, rfl, rfl⟩, .inl rfl⟩, q5.trans (belowK_b (w := w) (Nat.le_refl _) W D _ _ (by omega) hDq rfl rfl)⟩
end Go.Proofs.YtjokgiefnlpfkaaDoor

namespace Go.Proofs.YtjokgiefnlpfkaaDoor
open Go Go.RowKit
set_option linter.unusedVariables false

/-- The model's word for a word. -/
def ModIs (v : Nat) (R : Nat → Int) (k : Nat) (b : Bool) : Prop := ∀ w, Calls Tryd.prog 60 #[.int .i64 v] w fun e w' => e = .returned (.tuple #[.agg #[.int .i64 (R (k * 5)), .int .i64 (R (k * 5 + 1)), .int .i64 (R (k * 5 + 2)), .int .i64 (R (k * 5 + 3)), .int .i64 (R (k * 5 + 4))], .bool b]) ∧ Below w.heap.size w w'
def cdOf (b : Bool) : Int := if b = true then 0 else 10

def DecOne (v : Nat) (q : Nat → Int) (b : Bool) : Prop :=
    (∀ w, Calls Tryd.prog 60 #[.int .i64 v] w fun e w' => e = .returned (.tuple #[.agg #[.int .i64 (q 0), .int .i64 (q 1), .int .i64 (q 2), .int .i64 (q 3), .int .i64 (q 4)], .bool b]) ∧ Below w.heap.size w w') ∧
    (∀ w, Laid w → Calls Tryd.prog 88 #[.int .i64 v] w fun e w' => e = .returned (.tuple #[.agg #[.int .i64 (q 0), .int .i64 (q 1), .int .i64 (q 2), .int .i64 (q 3), .int .i64 (q 4)], .int .i64 (cdOf b)]) ∧ Below w.heap.size w w') ∧
    (b = true → rightB (q 0) (q 1) (q 2) (q 3) (q 4) = true)
theorem decOne (v : Nat) (v1 : v < 4294967296) : ∃ (q : Nat → Int) (b : Bool), DecOne v q b := by
  have w0 : (0 : Int) ≤ (v : Int) := by omega
  have w1 : (v : Int) < 4294967296 := by omega
  rcases first_hit v with h | ⟨n, n0, n1, h, hh⟩
  · exact ⟨fun _ => 0, false, fun w => dmNone v w0 w1 h w, fun w hl => decNone v w0 w1 h w, fun h => by cases h⟩
  · refine ⟨fun i => [(n : Int), tkRd (shT n).1 v, tkR1 (shT n).1 v, tkR2 (shT n).1 v, takeF (shT n).1 v].getD i 0, true, fun w => dmYes v w0 w1 n n0 n1 h hh _ rfl w, fun w hl => decX v w0 w1 n n0 n1 h hh _ rfl w, fun _ => ?_⟩
    obtain ⟨f0, f1, _⟩ := sh_bounds (shT_ok n (by omega) (by omega))
    have hr := right_taken (shT (n : Int)).1 (v : Int) f0 f1
    show rightB (n : Int) (tkRd (shT n).1 v) (tkR1 (shT n).1 v) (tkR2 (shT n).1 v) (takeF (shT n).1 v) = true
    unfold rightB
    rw [hr]
    simp
    omega

theorem decRun (s : ByteArray) : ∃ (R : Nat → Int) (ok : Nat → Bool), ∀ k, ModIs (wrd s k) R k (ok k) ∧ DecIs (wrd s k) R k (cdOf (ok k)) ∧ (ok k = true → rightB (R (k * 5)) (R (k * 5 + 1)) (R (k * 5 + 2)) (R (k * 5 + 3)) (R (k * 5 + 4)) = true) := by
  have key : ∀ k, ∃ x : (Nat → Int) × Bool, DecOne (wrd s k) x.1 x.2 := fun k => by
    obtain ⟨q, b, h⟩ := decOne (wrd s k) (wrd_lt s k)
    exact ⟨(q, b), h⟩
  obtain ⟨f, hf⟩ : ∃ f : Nat → (Nat → Int) × Bool, ∀ k, DecOne (wrd s k) (f k).1 (f k).2 := ⟨fun k => Classical.choose (key k), fun k => Classical.choose_spec (key k)⟩
  have e0 : ∀ k, (k * 5) / 5 = k := fun k => by omega
  have e0' : ∀ k, (k * 5) % 5 = 0 := fun k => by omega
  have e1 : ∀ k, (k * 5 + 1) / 5 = k := fun k => by omega
  have e1' : ∀ k, (k * 5 + 1) % 5 = 1 := fun k => by omega
  have e2 : ∀ k, (k * 5 + 2) / 5 = k := fun k => by omega
  have e2' : ∀ k, (k * 5 + 2) % 5 = 2 := fun k => by omega
  have e3 : ∀ k, (k * 5 + 3) / 5 = k := fun k => by omega
  have e3' : ∀ k, (k * 5 + 3) % 5 = 3 := fun k => by omega
  have e4 : ∀ k, (k * 5 + 4) / 5 = k := fun k => by omega
  have e4' : ∀ k, (k * 5 + 4) % 5 = 4 := fun k => by omega
  refine ⟨fun i => (f (i / 5)).1 (i % 5), fun k => (f k).2, fun k => ?_⟩
  have h := hf k
  unfold ModIs DecIs
  simp only [e0, e0', e1, e1', e2, e2', e3, e3', e4, e4']
  exact h

/-- The first word that is none, or the run's length. -/
theorem first_no (ok : Nat → Bool) (N : Nat) : ∃ j, j ≤ N ∧ (∀ k, k < j → ok k = true) ∧ (j < N → ok j = false) := by
  induction N with
  | zero => exact ⟨0, Nat.le_refl _, fun k hk => absurd hk (Nat.not_lt_zero _), fun h => absurd h (Nat.lt_irrefl _)⟩
  | succ N ih =>
    obtain ⟨j, h1, h2, h3⟩ := ih
    by_cases e : j < N
    · exact ⟨j, by omega, h2, fun _ => h3 e⟩
    · obtain rfl : j = N := by omega
      cases hb : ok j with
      | true => exact ⟨j + 1, Nat.le_refl _, fun k hk => by
          rcases Nat.lt_succ_iff_lt_or_eq.1 hk with h | rfl
          · exact h2 k h
          · exact hb, fun h => absurd h (Nat.lt_irrefl _)⟩
      | false => exact ⟨j, by omega, h2, fun _ => hb⟩

/-- A run of N words whose first j are instructions. -/
structure Run (s : ByteArray) (N : Nat) (R : Nat → Int) (j : Nat) : Prop where
  size : s.size = 4 * N
  small : N ≤ 16384
  le : j ≤ N
  yes : ∀ k, k < j → Hid (ModIs (wrd s k) R k true)
  no : j < N → Hid (ModIs (wrd s j) R j false)
  dec : ∃ co : Nat → Int, (∀ k, k < N → Hid (DecIs (wrd s k) R k (co k))) ∧ (∀ k, k < j → co k = 0) ∧ (j < N → co j = 10)
  right : ∀ k, k < j → rightB (R (k * 5)) (R (k * 5 + 1)) (R (k * 5 + 2)) (R (k * 5 + 3)) (R (k * 5 + 4)) = true
theorem run_of (s : ByteArray) (N : Nat) (hs : s.size = 4 * N) (hN : N ≤ 16384) : ∃ R j, Run s N R j := by
  obtain ⟨R, ok, h⟩ := decRun s
  obtain ⟨j, h1, h2, h3⟩ := first_no ok N
  refine ⟨R, j, hs, hN, h1, fun k hk => ?_, fun hk => ?_, ⟨fun k => cdOf (ok k), fun k _ => (h k).2.1, fun k hk => by show cdOf (ok k) = 0; rw [h2 k hk]; rfl, fun hj => by show cdOf (ok j) = 10; rw [h3 hj]; rfl⟩, fun k hk => (h k).2.2 (h2 k hk)⟩
  · have := (h k).1
    rw [h2 k hk] at this
    exact this
  · have := (h j).1
    rw [h3 hk] at this
    exact this

/-- The program's reading of a run. -/
theorem Run.impl {s : ByteArray} {N j : Nat} {R : Nat → Int} (h : Run s N R j) (w : World) (hL : Laid w) :
    Calls Tryd.prog 36 #[.string s] w fun e w' => (∃ p n c x y, e = .returned (.tuple #[.slice p n c, .int .i64 x, .int .i64 y]) ∧ ((j = N ∧ n = N ∧ x = 0 ∧ y = 0) ∨ (j < N ∧ n = 0 ∧ x = j ∧ y = 10)) ∧ OwnL w' w.heap.size p n R) ∧ Below w.heap.size w w' := by
  obtain ⟨co, h1, h2, h3⟩ := h.dec
  exact runC s N h.size h.small R co h1 j h.le h2 h3 w hL

theorem szRun (s : ByteArray) (w : World) (hs : s.size ≤ maxLen) :
    Calls Tryd.prog 33 #[.string s] w fun e w' => e = .returned (.bool (decide (s.size % 4 = 0 ∧ s.size ≤ 256))) ∧ w' = w := by
  unfold maxLen at hs
  by_cases h : s.size % 4 = 0
  · by_cases h1 : s.size ≤ 256
    · have e : decide (s.size % 4 = 0 ∧ s.size ≤ 256) = true := by simp [h, h1]
      rw [e]
      go_enter Tryd.func33, Tryd.ntmps33
      go_wp2
      go_ret
      refine ⟨congrArg (fun x => Ending.returned (.bool x)) ?_, rfl⟩
      first | rfl | (simp; omega)
    · have e : decide (s.size % 4 = 0 ∧ s.size ≤ 256) = false := by simp [h, h1]
      rw [e]
      go_enter Tryd.func33, Tryd.ntmps33
      go_wp2
      go_ret
      refine ⟨congrArg (fun x => Ending.returned (.bool x)) ?_, rfl⟩
      first | rfl | (simp; omega)
  · have e : decide (s.size % 4 = 0 ∧ s.size ≤ 256) = false := by simp [h]
    rw [e]
    go_enter Tryd.func33, Tryd.ntmps33
    go_wp2
    go_ret
    refine ⟨congrArg (fun x => Ending.returned (.bool x)) ?_, rfl⟩
    first | rfl | (simp; omega)

set_option maxRecDepth 100000 in
set_option maxHeartbeats 2000000 in
/-- The model's reading of a run. -/
theorem Run.model {s : ByteArray} {N j : Nat} {R : Nat → Int} (h : Run s N R j) (w : World) :
    Calls Tryd.prog 34 #[.string s] w fun e w' => (∃ p n c x, e = .returned (.tuple #[.slice p n c, .int .i64 x]) ∧ ((j = N ∧ n = N ∧ x = -1) ∨ (j < N ∧ n = 0 ∧ x = j)) ∧ OwnL w' w.heap.size p n R) ∧ Below w.heap.size w w' := by
  obtain ⟨i0, hi, hz0, hz1, hz2⟩ := info_parts Tryd.info_inr
  have hs := h.size
  have hN := h.small
  have hle := h.le
  go_enter Tryd.func34, Tryd.ntmps34
  go_wp2
  go_loopw [4, 5] (fun v i wr => ∃ k : Nat, k ≤ j ∧ i = .int .i64 k ∧ wr.ownsRow w.heap.size 47 5 v k (cellsR R k) ∧ Below w.heap.size w wr) (fun _ i _ => N - (intOf i).toNat)
  case atStart => exact ⟨0, Nat.zero_le _, rfl, World.ownsRow_made w #[] 0 (Nat.le_refl _) (Nat.zero_le _) rfl, (Below.refl _ _).alloc (Nat.le_refl _) _⟩
  case round =>
    obtain ⟨k, hk, rfl, hown, hB⟩ := hrel
    have hv : takeV s (4 * k) 4 = (wrd s k : Nat) := takeV_small s (4 * k) 4 (by omega)
    by_cases hkj : k < j
    · have hkN : k < N := by omega
      have hy := h.yes k hkj
      have hlt : (4 : Int) * k < s.size := by omega
      go_wp2_with (go_at_call 61; refine (specTake0 s (4 * k) 4 _ (by omega) (by omega) (by omega)).mono ?_; rintro e w1 ⟨rfl, rfl⟩; rw [hv])
      refine (hy.out _).mono ?_
      rintro e w2 ⟨rfl, hb2⟩
      have own2 := row_below hown hb2
      have B2 := hB.trans (hb2.mono hB.size)
      have s2 := B2.size
      have hlen := cellsR_len R k
      clear hb2 hown hB hv hy
      go_wp2_with (at_builtin; refine wpList_append_lies _ rfl _ _ 26 rfl w.heap.size 47 i0 _ 5 40 Tryd.underlying26 hi hz0 hz1 hz2 rfl (by omega) _ k _ rfl ((own2.alloc _).alloc _) ⟨w2.heap.size + 1, 0, none⟩ 1 1 [.int .i64 (R (k * 5)), .int .i64 (R (k * 5 + 1)), .int .i64 (R (k * 5 + 2)), .int .i64 (R (k * 5 + 3)), .int .i64 (R (k * 5 + 4))] rfl rfl (World.news_of_block (cs := #[.int .i64 (R (k * 5)), .int .i64 (R (k * 5 + 1)), .int .i64 (R (k * 5 + 2)), .int .i64 (R (k * 5 + 3)), .int .i64 (R (k * 5 + 4))]) (t := 47) (fr := (0, 0)) (by first | exact heap_alloc_new _ _ | (rw [← World.size_alloc w2]; exact heap_alloc_new _ _))) (by simp [Value.oneCell']) (by omega) (by unfold maxLen; omega) (by omega) (by simp; omega) (w2.heap.size + 1 + 1) (by simp) ?_; intro gg cap2 w3 hown3 hg3 hat3 hlt3)
      go_roundw
      case rel => exact ⟨k + 1, by omega, by go_num, by rw [cellsR_succ]; exact hown3, ((B2.alloc s2 _).alloc (by simp; omega) _).grown hg3 (by simp; omega) (fun i e => (own2.lt i e).1)⟩
      case measure => simp [intOf]; omega
    · obtain rfl : k = j := by omega
      by_cases hkN : k < N
      · have hy := h.no hkN
        have hlt : (4 : Int) * k < s.size := by omega
        go_wp2_with (go_at_call 61; refine (specTake0 s (4 * k) 4 _ (by omega) (by omega) (by omega)).mono ?_; rintro e w1 ⟨rfl, rfl⟩; rw [hv])
        refine (hy.out _).mono ?_
        rintro e w2 ⟨rfl, hb2⟩
        have B2 := hB.trans (hb2.mono hB.size)
        have s2 := B2.size
        clear hb2 hown hB hv hy
        go_wp2
        go_ret2
        exact ⟨⟨_, _, _, _, rfl, .inr ⟨hkN, rfl, rfl⟩, .inl rfl⟩, (B2.alloc s2 _).alloc (by simp; omega) _⟩
      · obtain rfl : k = N := by omega
        obtain ⟨p, c, rfl, ho⟩ := ownL_of_row hown
        have hlt : ¬ ((4 : Int) * k < s.size) := by omega
        go_wp2
        go_ret2
        first | exact ⟨⟨_, _, _, _, rfl, .inl ⟨rfl, rfl, rfl⟩, ho⟩, hB⟩ | exact ⟨⟨_, _, _, _, rfl, ⟨rfl, rfl⟩, ho⟩, hB⟩

/-- The code of a run's length. -/
def crC (n few : Nat) : Int := if 65536 < n then 2 else if n % 4 = 0 ∧ 4 * few ≤ n ∧ n ≤ 256 then 0 else 8
theorem checkRunC (s : ByteArray) (few : Nat) (w : World) (hs : s.size ≤ maxLen) (hf : few ≤ 5) :
    Calls Tryd.prog 35 #[.string s, .int .i64 few] w fun e w' => e = .returned (.int .i64 (crC s.size few)) ∧ w' = w := by
  unfold maxLen at hs
  by_cases h0 : 65536 < s.size
  · have e : crC s.size few = 2 := by unfold crC; rw [if_pos h0]
    rw [e]
    go_enter Tryd.func35, Tryd.ntmps35
    go_wp2
    go_ret
    exact ⟨rfl, rfl⟩
  · by_cases h1 : s.size % 4 = 0
    · by_cases h2 : 4 * few ≤ s.size
      · by_cases h3 : s.size ≤ 256
        · have e : crC s.size few = 0 := by unfold crC; rw [if_neg h0, if_pos ⟨h1, h2, h3⟩]
          rw [e]
          have h2' : ¬ ((s.size : Int) < (few : Int) * 4) := by omega
          have h1' : (s.size : Int) % 4 = 0 := by omega
          go_enter Tryd.func35, Tryd.ntmps35
          go_wp2
          go_ret
          exact ⟨rfl, rfl⟩
        · have e : crC s.size few = 8 := by unfold crC; rw [if_neg h0, if_neg (fun h => h3 h.2.2)]
          rw [e]
          have h2' : ¬ ((s.size : Int) < (few : Int) * 4) := by omega
          have h1' : (s.size : Int) % 4 = 0 := by omega
          go_enter Tryd.func35, Tryd.ntmps35
          go_wp2
          go_ret
          exact ⟨rfl, rfl⟩
      · have e : crC s.size few = 8 := by unfold crC; rw [if_neg h0, if_neg (fun h => h2 h.2.1)]
        rw [e]
        have h2' : (s.size : Int) < (few : Int) * 4 := by omega
        have h1' : (s.size : Int) % 4 = 0 := by omega
        go_enter Tryd.func35, Tryd.ntmps35
        go_wp2
        go_ret
        exact ⟨rfl, rfl⟩
    · have e : crC s.size few = 8 := by unfold crC; rw [if_neg h0, if_neg (fun h => h1 h.1)]
      rw [e]
      have h1' : ¬ ((s.size : Int) % 4 = 0) := by omega
      go_enter Tryd.func35, Tryd.ntmps35
      go_wp2
      go_ret
      exact ⟨rfl, rfl⟩

/-- An answer of a list and two numbers. -/
def ListAns (B n : Nat) (x y : Int) (R : Nat → Int) (w : World) (e : Ending) (w' : World) : Prop := (∃ p c, e = .returned (.tuple #[.slice p n c, .int .i64 x, .int .i64 y]) ∧ OwnL w' B p n R) ∧ Below w.heap.size w w'

theorem instrsImplNo (s : ByteArray) (w : World) (hs : s.size ≤ maxLen) (c : Int) (hc : crC s.size 0 = c) (h0 : c ≠ 0) :
    Calls Tryd.prog 14 #[.string s] w fun e w' => ListAns w.heap.size 0 0 c (fun _ => 0) w e w' := by
  go_enter Tryd.func14, Tryd.ntmps14
  go_wp2_with (go_at_call 35; refine (checkRunC s 0 _ hs (by omega)).mono ?_; rintro e w' ⟨rfl, rfl⟩; rw [hc])
  refine bodyPost_ret (v := .tuple #[.slice none 0 0, .int .i64 0, .int .i64 c]) (by simp [results, Tryd.results14, go_sem]) rfl ⟨⟨none, 0, rfl, .inl rfl⟩, Below.refl _ _⟩
end Go.Proofs.YtjokgiefnlpfkaaDoor

namespace Go.Proofs.YtjokgiefnlpfkaaDoor
open Go Go.RowKit
set_option linter.unusedVariables false

theorem crC_cases (n : Nat) : (65536 < n ∧ crC n 0 = 2) ∨ (n ≤ 65536 ∧ ¬ (n % 4 = 0 ∧ n ≤ 256) ∧ crC n 0 = 8) ∨ (n % 4 = 0 ∧ n ≤ 256 ∧ crC n 0 = 0) := by
  unfold crC
  by_cases h : 65536 < n
  · exact .inl ⟨h, by rw [if_pos h]⟩
  · by_cases h1 : n % 4 = 0 ∧ n ≤ 256
    · exact .inr (.inr ⟨h1.1, h1.2, by rw [if_neg h, if_pos ⟨h1.1, by omega, h1.2⟩]⟩)
    · exact .inr (.inl ⟨by omega, h1, by rw [if_neg h, if_neg (fun x => h1 ⟨x.1, x.2.2⟩)]⟩)

theorem instrsSpecLong (s : ByteArray) (w : World) (hs : s.size ≤ maxLen) (h : 65536 < s.size) :
    Calls Tryd.prog 13 #[.string s] w fun e w' => ListAns w.heap.size 0 0 2 (fun _ => 0) w e w' := by
  unfold maxLen at hs
  go_enter Tryd.func13, Tryd.ntmps13
  go_wp2
  refine bodyPost_ret (v := .tuple #[.slice (some ⟨w.heap.size, 0, none⟩) 0 0, .int .i64 0, .int .i64 2]) (by simp [results, Tryd.results13, go_sem]) rfl ⟨⟨_, _, rfl, .inl rfl⟩, (Below.refl _ _).alloc (Nat.le_refl _) _⟩
theorem instrsSpecSize (s : ByteArray) (w : World) (hs : s.size ≤ 65536) (h : ¬ (s.size % 4 = 0 ∧ s.size ≤ 256)) :
    Calls Tryd.prog 13 #[.string s] w fun e w' => ListAns w.heap.size 0 0 8 (fun _ => 0) w e w' := by
  have e : decide (s.size % 4 = 0 ∧ s.size ≤ 256) = false := by simp only [decide_eq_false_iff_not]; exact h
  go_enter Tryd.func13, Tryd.ntmps13
  go_wp2_with (go_at_call 33; refine (szRun s _ (by unfold maxLen; omega)).mono ?_; rintro e' w' ⟨rfl, rfl⟩; rw [e])
  refine bodyPost_ret (v := .tuple #[.slice (some ⟨w'.heap.size, 0, none⟩) 0 0, .int .i64 0, .int .i64 8]) (by simp [results, Tryd.results13, go_sem]) rfl ⟨⟨_, _, rfl, .inl rfl⟩, (Below.refl _ _).alloc (Nat.le_refl _) _⟩

theorem instrsSpecYes (s : ByteArray) (N j : Nat) (R : Nat → Int) (w : World) (hr : Run s N R j) (hj : j = N) (h : s.size % 4 = 0 ∧ s.size ≤ 256) :
    Calls Tryd.prog 13 #[.string s] w fun e w' => ListAns w.heap.size N 0 0 R w e w' := by
  have e : decide (s.size % 4 = 0 ∧ s.size ≤ 256) = true := by simp only [decide_eq_true_eq]; exact h
  have hle : s.size ≤ 65536 := by omega
  go_enter Tryd.func13, Tryd.ntmps13
  go_wp2_with (go_at_call 33; refine (szRun s _ (by unfold maxLen; omega)).mono ?_; rintro e' w' ⟨rfl, rfl⟩; rw [e])
  refine (hr.model _).mono ?_
  rintro e2 w2 ⟨⟨p, n, c, x, rfl, ⟨hj', rfl, rfl⟩ | ⟨hj', rfl, rfl⟩, ho⟩, hb⟩
  · go_wp2
    refine bodyPost_ret (v := .tuple #[.slice p _ c, .int .i64 0, .int .i64 0]) (by simp [results, Tryd.results13, go_sem]) rfl ⟨⟨_, _, rfl, ho⟩, hb⟩
  · exact absurd hj (by omega)
theorem instrsSpecNo (s : ByteArray) (N j : Nat) (R : Nat → Int) (w : World) (hr : Run s N R j) (hj : j < N) (h : s.size % 4 = 0 ∧ s.size ≤ 256) :
    Calls Tryd.prog 13 #[.string s] w fun e w' => ListAns w.heap.size 0 j 10 R w e w' := by
  have e : decide (s.size % 4 = 0 ∧ s.size ≤ 256) = true := by simp only [decide_eq_true_eq]; exact h
  have hle : s.size ≤ 65536 := by omega
  go_enter Tryd.func13, Tryd.ntmps13
  go_wp2_with (go_at_call 33; refine (szRun s _ (by unfold maxLen; omega)).mono ?_; rintro e' w' ⟨rfl, rfl⟩; rw [e])
  refine (hr.model _).mono ?_
  rintro e2 w2 ⟨⟨p, n, c, x, rfl, ⟨hj', rfl, rfl⟩ | ⟨hj', rfl, rfl⟩, ho⟩, hb⟩
  · exact absurd hj (by omega)
  · have hj0 : (0 : Int) ≤ j := by omega
    go_wp2
    refine bodyPost_ret (v := .tuple #[.slice (some ⟨w2.heap.size, 0, none⟩) 0 0, .int .i64 j, .int .i64 10]) (by simp [results, Tryd.results13, go_sem]) rfl ⟨⟨_, _, rfl, .inl rfl⟩, hb.alloc hb.size _⟩
theorem instrsImplYes (s : ByteArray) (N j : Nat) (R : Nat → Int) (w : World) (hL : Laid w) (hr : Run s N R j) (hj : j = N) (h : s.size % 4 = 0 ∧ s.size ≤ 256) (hc : crC s.size 0 = 0) :
    Calls Tryd.prog 14 #[.string s] w fun e w' => ListAns w.heap.size N 0 0 R w e w' := by
  have hle : s.size ≤ 65536 := by omega
  go_enter Tryd.func14, Tryd.ntmps14
  go_wp2_with (go_at_call 35; refine (checkRunC s 0 _ (by unfold maxLen; omega) (by omega)).mono ?_; rintro e' w' ⟨rfl, rfl⟩; rw [hc])
  refine (hr.impl _ hL).mono ?_
  rintro e2 w2 ⟨⟨p, n, c, x, y, rfl, ⟨hj', rfl, rfl, rfl⟩ | ⟨hj', rfl, rfl, rfl⟩, ho⟩, hb⟩
  · go_wp2
    refine bodyPost_ret (v := .tuple #[.slice p _ c, .int .i64 0, .int .i64 0]) (by simp [results, Tryd.results14, go_sem]) rfl ⟨⟨_, _, rfl, ho⟩, hb⟩
  · exact absurd hj (by omega)
theorem instrsImplWrong (s : ByteArray) (N j : Nat) (R : Nat → Int) (w : World) (hL : Laid w) (hr : Run s N R j) (hj : j < N) (h : s.size % 4 = 0 ∧ s.size ≤ 256) (hc : crC s.size 0 = 0) :
    Calls Tryd.prog 14 #[.string s] w fun e w' => ListAns w.heap.size 0 j 10 R w e w' := by
  have hle : s.size ≤ 65536 := by omega
  go_enter Tryd.func14, Tryd.ntmps14
  go_wp2_with (go_at_call 35; refine (checkRunC s 0 _ (by unfold maxLen; omega) (by omega)).mono ?_; rintro e' w' ⟨rfl, rfl⟩; rw [hc])
  refine (hr.impl _ hL).mono ?_
  rintro e2 w2 ⟨⟨p, n, c, x, y, rfl, ⟨hj', rfl, rfl, rfl⟩ | ⟨hj', rfl, rfl, rfl⟩, ho⟩, hb⟩
  · exact absurd hj (by omega)
  · go_wp2
    refine bodyPost_ret (v := .tuple #[.slice p 0 c, .int .i64 j, .int .i64 10]) (by simp [results, Tryd.results14, go_sem]) rfl ⟨⟨_, _, rfl, .inl rfl⟩, hb⟩

/-- Both answer the same of whatever run. -/
theorem instrsBoth (s : ByteArray) (hs : s.size ≤ maxLen) : ∃ (n : Nat) (x y : Int) (R : Nat → Int), n ≤ 64 ∧
    (∀ w, Calls Tryd.prog 13 #[.string s] w fun e w' => ListAns w.heap.size n x y R w e w') ∧
    (∀ w, Laid w → Calls Tryd.prog 14 #[.string s] w fun e w' => ListAns w.heap.size n x y R w e w') := by
  rcases crC_cases s.size with ⟨h, hc⟩ | ⟨h, h', hc⟩ | ⟨h, h', hc⟩
  · exact ⟨0, 0, 2, fun _ => 0, by omega, fun w => instrsSpecLong s w hs h, fun w hL => instrsImplNo s w hs 2 hc (by omega)⟩
  · exact ⟨0, 0, 8, fun _ => 0, by omega, fun w => instrsSpecSize s w h h', fun w hL => instrsImplNo s w hs 8 hc (by omega)⟩
  · obtain ⟨R, j, hr⟩ := run_of s (s.size / 4) (by omega) (by omega)
    by_cases e : j = s.size / 4
    · exact ⟨s.size / 4, 0, 0, R, by omega, fun w => instrsSpecYes s _ j R w hr e ⟨h, h'⟩, fun w hL => instrsImplYes s _ j R w hL hr e ⟨h, h'⟩ hc⟩
    · have hj : j < s.size / 4 := by have := hr.le; omega
      exact ⟨0, j, 10, R, by omega, fun w => instrsSpecNo s _ j R w hr hj ⟨h, h'⟩, fun w hL => instrsImplWrong s _ j R w hL hr hj ⟨h, h'⟩ hc⟩
end Go.Proofs.YtjokgiefnlpfkaaDoor

namespace Go.Proofs.YtjokgiefnlpfkaaDoor
open Go Go.RowKit
set_option linter.unusedVariables false

def plB (a : Int) : Bool := decide (0 ≤ a ∧ a ≤ 1048575 ∧ a % 4 = 0)
theorem placeC (a : Int) (w : World) (hw : (Lit.int .i64 a).wf = true) :
    Calls Tryd.prog 43 #[.int .i64 a] w fun e w' => e = .returned (.bool (plB a)) ∧ w' = w := by
  by_cases h0 : 0 ≤ a
  · by_cases h1 : a ≤ 1048575
    · by_cases h2 : a % 4 = 0
      · have e : plB a = true := by simp [plB, h0, h1, h2]
        rw [e]
        go_enter Tryd.func43, Tryd.ntmps43
        go_wp2
        go_ret
        exact ⟨rfl, rfl⟩
      · have e : plB a = false := by simp [plB, h0, h1, h2]
        rw [e]
        go_enter Tryd.func43, Tryd.ntmps43
        go_wp2
        go_ret
        exact ⟨congrArg (fun x => Ending.returned (.bool x)) (by simp [h2]), rfl⟩
    · have e : plB a = false := by simp [plB, h0, h1]
      rw [e]
      go_enter Tryd.func43, Tryd.ntmps43
      go_wp2
      go_ret
      exact ⟨rfl, rfl⟩
  · have e : plB a = false := by simp [plB, h0]
    rw [e]
    go_enter Tryd.func43, Tryd.ntmps43
    go_wp2
    go_ret
    exact ⟨rfl, rfl⟩

/-- The code of arguments that no function has. -/
def cfC (n k : Nat) (a f : Int) : Int := if 65536 < n ∨ 4096 < k then 2 else if plB a = false then 4 else if frB f = false then 17 else crC n 5
theorem checkFnC (s : ByteArray) (a f : Int) (pc : Option Addr) (k cc : Nat) (w : World) (hs : s.size ≤ maxLen) (hk : k ≤ 1048576) (ha : (Lit.int .i64 a).wf = true) (hf : (Lit.int .i64 f).wf = true) :
    Calls Tryd.prog 38 #[.string s, .int .i64 a, .int .i64 f, .slice pc k cc] w fun e w' => e = .returned (.int .i64 (cfC s.size k a f)) ∧ w' = w := by
  have hs' := hs
  unfold maxLen at hs'
  unfold cfC
  by_cases h0 : 65536 < s.size
  · rw [if_pos (.inl h0)]
    go_enter Tryd.func38, Tryd.ntmps38
    go_wp2
    go_ret
    exact ⟨rfl, rfl⟩
  by_cases h1 : 4096 < k
  · rw [if_pos (.inr h1)]
    go_enter Tryd.func38, Tryd.ntmps38
    go_wp2
    go_ret
    exact ⟨rfl, rfl⟩
  rw [if_neg (by omega)]
  by_cases h2 : plB a = false
  · rw [if_pos h2]
    go_enter Tryd.func38, Tryd.ntmps38
    go_wp2_with (go_at_call 43; refine (placeC a _ ha).mono ?_; rintro e w' ⟨rfl, rfl⟩; rw [h2])
    go_ret
    exact ⟨rfl, rfl⟩
  have h2' : plB a = true := by cases e : plB a <;> simp_all
  rw [if_neg h2]
  by_cases h3 : frB f = false
  · rw [if_pos h3]
    go_enter Tryd.func38, Tryd.ntmps38
    go_wp2_with (first | (go_at_call 43; refine (placeC a _ ha).mono ?_; rintro e w' ⟨rfl, rfl⟩; rw [h2']) | (go_at_call 66; refine (frImpl f _ hf).mono ?_; rintro e w' ⟨rfl, rfl⟩; rw [h3]))
    go_ret
    exact ⟨rfl, rfl⟩
  have h3' : frB f = true := by cases e : frB f <;> simp_all
  rw [if_neg h3]
  go_enter Tryd.func38, Tryd.ntmps38
  go_wp2_with (first | (go_at_call 43; refine (placeC a _ ha).mono ?_; rintro e w' ⟨rfl, rfl⟩; rw [h2']) | (go_at_call 66; refine (frImpl f _ hf).mono ?_; rintro e w' ⟨rfl, rfl⟩; rw [h3']) | (go_at_call 35; refine (checkRunC s 5 _ hs (by omega)).mono ?_; rintro e w' ⟨rfl, rfl⟩))
  go_ret
  exact ⟨rfl, rfl⟩

theorem num_bd {f im : Int} (f0 : 1 ≤ f) (f1 : f ≤ 9) (rd r1 r2 : Int) (h : rightF f rd r1 r2 im = true) : -2147483648 ≤ im ∧ im ≤ 2147483647 := by
  have hok : ∀ g, 0 ≤ g → g ≤ 9 → okB g im = true → -2147483648 ≤ im ∧ im ≤ 2147483647 := fun g g0 g1 h => by
    have := (okB_iff g im g0 g1).1 h
    unfold okI at this
    repeat' split at this
    all_goals omega
  have hz : (im == 0) = true → -2147483648 ≤ im ∧ im ≤ 2147483647 := fun h => by have := eq_of_beq h; omega
  unfold rightF at h
  split at h
  · exact hok f (by omega) f1 (Bool.and_eq_true_iff.1 h).2
  · split at h
    · exact hok f (by omega) f1 (Bool.and_eq_true_iff.1 h).2
    · split at h
      · exact hok f (by omega) f1 (Bool.and_eq_true_iff.1 h).2
      · split at h
        · exact hz (Bool.and_eq_true_iff.1 h).2
        · exact hz (Bool.and_eq_true_iff.1 h).2
theorem small_of {R : Nat → Int} {i : Nat} (h : rightB (R (i * 5)) (R (i * 5 + 1)) (R (i * 5 + 2)) (R (i * 5 + 3)) (R (i * 5 + 4)) = true) : Small5 R i := by
  unfold rightB at h
  obtain ⟨h1, h2⟩ := Bool.and_eq_true_iff.1 h
  obtain ⟨h3, h4⟩ := of_decide_eq_true h1
  obtain ⟨f0, f1⟩ := shT_form _ h3 h4
  obtain ⟨i0, i1⟩ := num_bd f0 f1 _ _ _ h2
  exact ⟨h3, h4, i0, i1⟩

/-- An answer of two numbers. -/
def TwoN (B : Nat) (x y : Int) (w : World) (e : Ending) (w' : World) : Prop := e = .returned (.tuple #[.int .i64 x, .int .i64 y]) ∧ Below B w w'

theorem lintImplNo (s : ByteArray) (a f : Int) (pc : Option Addr) (k cc : Nat) (w : World) (hs : s.size ≤ maxLen) (hk : k ≤ 1048576) (ha : (Lit.int .i64 a).wf = true) (hf : (Lit.int .i64 f).wf = true) (c : Int) (hc : cfC s.size k a f = c) (h0 : c ≠ 0) :
    Calls Tryd.prog 19 #[.string s, .int .i64 a, .int .i64 f, .slice pc k cc] w fun e w' => TwoN w.heap.size 0 c w e w' := by
  have hb : (c == 0) = false := by simpa using h0
  go_enter Tryd.func19, Tryd.ntmps19
  go_wp2_with (go_at_call 38; refine (checkFnC s a f pc k cc _ hs hk ha hf).mono ?_; rintro e w' ⟨rfl, rfl⟩; rw [hc])
  go_ret2
  exact ⟨rfl, Below.refl _ _⟩
theorem lintImplWrong (s : ByteArray) (a f : Int) (pc : Option Addr) (k cc : Nat) (N j : Nat) (R : Nat → Int) (w : World) (hL : Laid w) (hs : s.size ≤ maxLen) (hk : k ≤ 1048576) (ha : (Lit.int .i64 a).wf = true) (hf : (Lit.int .i64 f).wf = true) (hc : cfC s.size k a f = 0) (hr : Run s N R j) (hj : j < N) :
    Calls Tryd.prog 19 #[.string s, .int .i64 a, .int .i64 f, .slice pc k cc] w fun e w' => TwoN w.heap.size j 10 w e w' := by
  go_enter Tryd.func19, Tryd.ntmps19
  go_wp2_with (go_at_call 38; refine (checkFnC s a f pc k cc _ hs hk ha hf).mono ?_; rintro e w' ⟨rfl, rfl⟩; rw [hc])
  refine (hr.impl _ hL).mono ?_
  rintro e2 w2 ⟨⟨p, n, c, x, y, rfl, ⟨hj', rfl, rfl, rfl⟩ | ⟨hj', rfl, rfl, rfl⟩, ho⟩, hb⟩
  · exact absurd hj (by omega)
  · go_wp2
    go_ret2
    exact ⟨rfl, hb⟩
set_option maxRecDepth 100000 in
set_option maxHeartbeats 4000000 in
theorem lintImplYes (s : ByteArray) (a f : Int) (pc : Option Addr) (cc : Nat) (zs : List Int) (N : Nat) (R : Nat → Int) (w : World) (hL : Laid w) (hs : s.size ≤ maxLen) (hk : zs.length ≤ 1048576) (hz : IntsAt w pc zs) (ha : (Lit.int .i64 a).wf = true) (hf : (Lit.int .i64 f).wf = true) (hc : cfC s.size zs.length a f = 0)
    (hr : Run s N R N) (h5 : 5 ≤ N) (h64 : N ≤ 64) (a0 : 0 ≤ a) (a1 : a ≤ 1048575) (hfr : frB f = true) (x y : Int) (hl : LintIs R N f a zs x y) :
    Calls Tryd.prog 19 #[.string s, .int .i64 a, .int .i64 f, .slice pc zs.length cc] w fun e w' => TwoN w.heap.size x y w e w' := by
  obtain ⟨f0, f1, _⟩ := frB_bd hfr
  have hsm : ∀ i, i < N → Small5 R i := fun i hi => small_of (hr.right i hi)
  obtain ⟨K, hK⟩ : ∃ K, zs.length = K := ⟨_, rfl⟩
  rw [hK] at hk hc ⊢
  go_enter Tryd.func19, Tryd.ntmps19
  go_wp2_with (go_at_call 38; refine (checkFnC s a f pc K cc _ hs hk ha hf).mono ?_; rintro e w' ⟨rfl, rfl⟩; rw [hc])
  refine (hr.impl _ hL).mono ?_
  rintro e2 w2 ⟨⟨p, n, c, x', y', rfl, ⟨hj', rfl, rfl, rfl⟩ | ⟨hj', rfl, rfl, rfl⟩, ho⟩, hb⟩
  · rcases ho with ho | ⟨g, rfl, hg0, hg1, hfl⟩
    · omega
    go_wp2_with fail
    refine (partsC g _ c f R _ hg1 h64 h5 hfr hfl.rd).mono ?_
    rintro e3 w3 ⟨q, rfl, hb3, hq0, hq1, hP⟩
    have B3 : Below w'.heap.size w' w3 := hb.trans (hb3.mono hb.size)
    have hfn : FnIs (w3.alloc (.cells #[.slice (some ⟨g, 0, none⟩) n c, .slice (some ⟨q, 0, none⟩) n n, .int .i64 a, .int .i64 f, .slice pc zs.length cc] 63)) w3.heap.size g q n c n pc cc a f R (partI R n f) zs := by
      have b4 : Below w3.heap.size w3 (w3.alloc (.cells #[.slice (some ⟨g, 0, none⟩) n c, .slice (some ⟨q, 0, none⟩) n n, .int .i64 a, .int .i64 f, .slice pc zs.length cc] 63)) := (Below.refl _ _).alloc (Nat.le_refl _) _
      refine ⟨by simp, by simp, by simp, by simp, by simp, ?_, ?_, ?_, by simp, ?_, ?_⟩
      · exact (hfl.rd.below hb3 hg1).below b4 (Nat.lt_of_lt_of_le hg1 hb3.size)
      · exact hP.below b4 hq1
      · exact (hz.below B3).below b4
      · exact Nat.lt_of_lt_of_le (Nat.lt_of_lt_of_le hg1 hb3.size) b4.size
      · exact Nat.lt_of_lt_of_le hq1 b4.size
    rw [hK] at hfn
    clear hb hb3 hg0 hg1 hfl hP hq0 hq1
    have B4 : Hid (Below w'.heap.size w' (w3.alloc (.cells #[.slice (some ⟨g, 0, none⟩) n c, .slice (some ⟨q, 0, none⟩) n n, .int .i64 a, .int .i64 f, .slice pc K cc] 63))) := B3.alloc B3.size _
    clear B3
    go_wp2_with fail
    refine (firstC _ hfn h64 h5 hfr f0 f1 (fun i _ => rfl) (by omega) a0 a1 hsm x y hl).mono ?_
    rintro e5 w5 ⟨rfl, hb5⟩
    have B5 := B4.out.trans (hb5.mono B4.out.size)
    clear hfn B4 hb5
    go_wp2_with fail
    go_ret2
    exact ⟨rfl, B5⟩
  · omega
end Go.Proofs.YtjokgiefnlpfkaaDoor

namespace Go.Proofs.YtjokgiefnlpfkaaDoor
open Go Go.RowKit
set_option linter.unusedVariables false

theorem plB_in (a : Int) : (decide (0 ≤ a ∧ a ≤ 1048575) = true ∧ 0 ≤ a ∧ a ≤ 1048575) ∨ (decide (0 ≤ a ∧ a ≤ 1048575) = false ∧ (a < 0 ∨ 1048575 < a)) := by
  by_cases h : 0 ≤ a ∧ a ≤ 1048575
  · exact .inl ⟨by rw [decide_eq_true_eq]; exact h, h⟩
  · exact .inr ⟨by rw [decide_eq_false_iff_not]; exact h, by omega⟩

section
variable {pc : Option Addr} {cc : Nat}
theorem specLong (s : ByteArray) (a f : Int) (k : Nat) (w : World) (hs : s.size ≤ maxLen) (hk : k ≤ 1048576) (h : 65536 < s.size ∨ 4096 < k) :
    Calls Tryd.prog 17 #[.string s, .int .i64 a, .int .i64 f, .slice pc k cc] w fun e w' => TwoN w.heap.size 0 2 w e w' := by
  unfold maxLen at hs
  by_cases h0 : 65536 < s.size
  · go_enter Tryd.func17, Tryd.ntmps17
    go_wp2
    go_ret2
    exact ⟨rfl, Below.refl _ _⟩
  · have h1 : 4096 < k := by omega
    go_enter Tryd.func17, Tryd.ntmps17
    go_wp2
    go_ret2
    exact ⟨rfl, Below.refl _ _⟩

/-- What the model's check answers ahead of the words. -/
theorem specPlace (s : ByteArray) (a f : Int) (k : Nat) (w : World) (hs : s.size ≤ 65536) (ha : (Lit.int .i64 a).wf = true) (h : plB a = false) :
    Calls Tryd.prog 37 #[.string s, .int .i64 a, .int .i64 f, .slice pc k cc] w fun e w' => TwoN w.heap.size 0 4 w e w' := by
  by_cases h0 : 0 ≤ a ∧ a ≤ 1048575
  · have h1 : ¬ a.tmod 4 = 0 := by
      rw [Int.tmod_eq_emod_of_nonneg h0.1]
      intro e
      simp [plB, h0.1, h0.2, e] at h
    have h2 : ¬ a % 4 = 0 := by
      intro e
      simp [plB, h0.1, h0.2, e] at h
    go_enter Tryd.func37, Tryd.ntmps37
    go_wp2_with (go_at_call 41; refine (spIn _ _ _ _ true (.inl ⟨rfl, h0.1, h0.2⟩)).mono ?_; rintro e w' ⟨rfl, rfl⟩)
    go_ret2
    exact ⟨rfl, Below.refl _ _⟩
  · go_enter Tryd.func37, Tryd.ntmps37
    go_wp2_with (go_at_call 41; refine (spIn _ _ _ _ false (.inr ⟨rfl, by omega⟩)).mono ?_; rintro e w' ⟨rfl, rfl⟩)
    go_ret2
    exact ⟨rfl, Below.refl _ _⟩
theorem plB_yes {a : Int} (h : plB a = true) : 0 ≤ a ∧ a ≤ 1048575 ∧ a % 4 = 0 := by simpa [plB] using h
theorem specFrame (s : ByteArray) (a f : Int) (k : Nat) (w : World) (hs : s.size ≤ 65536) (hf : (Lit.int .i64 f).wf = true) (ha : plB a = true) (h : frB f = false) :
    Calls Tryd.prog 37 #[.string s, .int .i64 a, .int .i64 f, .slice pc k cc] w fun e w' => TwoN w.heap.size 0 17 w e w' := by
  obtain ⟨a0, a1, a2⟩ := plB_yes ha
  go_enter Tryd.func37, Tryd.ntmps37
  go_wp2_with (first | (go_at_call 41; refine (spIn _ _ _ _ true (.inl ⟨rfl, a0, a1⟩)).mono ?_; rintro e w' ⟨rfl, rfl⟩) | (go_at_call 63; refine (frSpec f _ hf).mono ?_; rintro e w' ⟨rfl, rfl⟩; rw [h]))
  go_ret2
  exact ⟨rfl, Below.refl _ _⟩
theorem specSize (s : ByteArray) (a f : Int) (k : Nat) (w : World) (hs : s.size ≤ 65536) (hf : (Lit.int .i64 f).wf = true) (ha : plB a = true) (hfr : frB f = true) (h : ¬ (s.size % 4 = 0 ∧ s.size ≤ 256 ∧ 20 ≤ s.size)) :
    Calls Tryd.prog 37 #[.string s, .int .i64 a, .int .i64 f, .slice pc k cc] w fun e w' => TwoN w.heap.size 0 8 w e w' := by
  obtain ⟨a0, a1, a2⟩ := plB_yes ha
  have hs' : s.size ≤ maxLen := by unfold maxLen; omega
  by_cases h0 : s.size % 4 = 0 ∧ s.size ≤ 256
  · have e : decide (s.size % 4 = 0 ∧ s.size ≤ 256) = true := by rw [decide_eq_true_eq]; exact h0
    have h1 : s.size < 20 := by omega
    go_enter Tryd.func37, Tryd.ntmps37
    go_wp2_with (first | (go_at_call 41; refine (spIn _ _ _ _ true (.inl ⟨rfl, a0, a1⟩)).mono ?_; rintro e w' ⟨rfl, rfl⟩) | (go_at_call 63; refine (frSpec f _ hf).mono ?_; rintro e w' ⟨rfl, rfl⟩; rw [hfr]) | (go_at_call 33; refine (szRun s _ hs').mono ?_; rintro e' w' ⟨rfl, rfl⟩; rw [e]))
    go_ret2
    exact ⟨rfl, Below.refl _ _⟩
  · have e : decide (s.size % 4 = 0 ∧ s.size ≤ 256) = false := by rw [decide_eq_false_iff_not]; exact h0
    go_enter Tryd.func37, Tryd.ntmps37
    go_wp2_with (first | (go_at_call 41; refine (spIn _ _ _ _ true (.inl ⟨rfl, a0, a1⟩)).mono ?_; rintro e w' ⟨rfl, rfl⟩) | (go_at_call 63; refine (frSpec f _ hf).mono ?_; rintro e w' ⟨rfl, rfl⟩; rw [hfr]) | (go_at_call 33; refine (szRun s _ hs').mono ?_; rintro e' w' ⟨rfl, rfl⟩; rw [e]))
    go_ret2
    exact ⟨rfl, Below.refl _ _⟩
theorem specWrong (s : ByteArray) (a f : Int) (k : Nat) (N j : Nat) (R : Nat → Int) (w : World) (hf : (Lit.int .i64 f).wf = true) (ha : plB a = true) (hfr : frB f = true) (h0 : s.size % 4 = 0 ∧ s.size ≤ 256) (h1 : 20 ≤ s.size) (hr : Run s N R j) (hj : j < N) :
    Calls Tryd.prog 37 #[.string s, .int .i64 a, .int .i64 f, .slice pc k cc] w fun e w' => TwoN w.heap.size j 10 w e w' := by
  obtain ⟨a0, a1, a2⟩ := plB_yes ha
  have hs' : s.size ≤ maxLen := by unfold maxLen; omega
  have e : decide (s.size % 4 = 0 ∧ s.size ≤ 256) = true := by rw [decide_eq_true_eq]; exact h0
  go_enter Tryd.func37, Tryd.ntmps37
  go_wp2_with (first | (go_at_call 41; refine (spIn _ _ _ _ true (.inl ⟨rfl, a0, a1⟩)).mono ?_; rintro e w' ⟨rfl, rfl⟩) | (go_at_call 63; refine (frSpec f _ hf).mono ?_; rintro e w' ⟨rfl, rfl⟩; rw [hfr]) | (go_at_call 33; refine (szRun s _ hs').mono ?_; rintro e' w' ⟨rfl, rfl⟩; rw [e]))
  refine (hr.model _).mono ?_
  rintro e2 w2 ⟨⟨p, n, c, x, rfl, ⟨hj', rfl, rfl⟩ | ⟨hj', rfl, rfl⟩, ho⟩, hb⟩
  · exact absurd hj (by omega)
  · have hj0 : (0 : Int) ≤ j := by omega
    go_wp2
    go_ret2
    exact ⟨rfl, hb⟩
end
end Go.Proofs.YtjokgiefnlpfkaaDoor

namespace Go.Proofs.YtjokgiefnlpfkaaDoor
open Go Go.RowKit
set_option linter.unusedVariables false

section
variable {pc : Option Addr} {cc : Nat} {zs : List Int}
set_option maxRecDepth 100000 in
set_option maxHeartbeats 8000000 in
theorem specYes (s : ByteArray) (a f : Int) (N : Nat) (R : Nat → Int) (w : World) (hf : (Lit.int .i64 f).wf = true) (ha : plB a = true) (hfr : frB f = true) (h0 : s.size % 4 = 0 ∧ s.size ≤ 256) (h20 : 20 ≤ s.size) (hr : Run s N R N) (h5 : 5 ≤ N) (h64 : N ≤ 64)
    (hk : zs.length ≤ 1048576) (hz : IntsAt w pc zs) (x y : Int) (hl : LintIs R N f a zs x y) :
    Calls Tryd.prog 37 #[.string s, .int .i64 a, .int .i64 f, .slice pc zs.length cc] w fun e w' => TwoN w.heap.size x y w e w' := by
  obtain ⟨a0, a1, a2⟩ := plB_yes ha
  have hs' : s.size ≤ maxLen := by unfold maxLen; omega
  have e : decide (s.size % 4 = 0 ∧ s.size ≤ 256) = true := by rw [decide_eq_true_eq]; exact h0
  have hsm : ∀ i, i < N → Small5 R i := fun i hi => small_of (hr.right i hi)
  obtain ⟨K, hK⟩ : ∃ K, zs.length = K := ⟨_, rfl⟩
  rw [hK]
  go_enter Tryd.func37, Tryd.ntmps37
  go_wp2_with (first | (go_at_call 41; refine (spIn _ _ _ _ true (.inl ⟨rfl, a0, a1⟩)).mono ?_; rintro e w' ⟨rfl, rfl⟩) | (go_at_call 63; refine (frSpec f _ hf).mono ?_; rintro e w' ⟨rfl, rfl⟩; rw [hfr]) | (go_at_call 33; refine (szRun s _ hs').mono ?_; rintro e' w' ⟨rfl, rfl⟩; rw [e]))
  refine (hr.model _).mono ?_
  rintro e2 w2 ⟨⟨p, n, c, x', rfl, ⟨hj', rfl, rfl⟩ | ⟨hj', rfl, rfl⟩, ho⟩, hb⟩
  rotate_left
  · omega
  rcases ho with ho | ⟨g, rfl, hg0, hg1, hfl⟩
  · omega
  have hm : MdIs w2 g n R pc zs := ⟨hfl.rd, hg1, hz.below hb⟩
  have HB : Hid (Below w'.heap.size w' w2) := hb
  have ru := fun i w' (h : MdIs w' g n R pc zs) (hi : i < n) (h2 : 2 ≤ i) => specRule (g := g) (N := n) (c := c) (pc := pc) (cc := cc) (at' := a) (f := f) (R := R) (zs := zs) i w' h hi h2 h64 hfr a0 a1 hk (hsm i hi)
  rw [hK] at ru
  clear hfl hg0 hb hr hsm e
  go_wp2_with fail
  go_loopw [12] (fun i wr => ∃ m : Nat, m ≤ 2 ∧ i = .int .i64 m ∧ (∀ j, j < m → Eq5 R (proR f) j) ∧ Below w2.heap.size w2 wr) (fun i _ => 2 - (intOf i).toNat)
  case atStart => exact ⟨0, Nat.zero_le _, rfl, fun j h => by omega, Below.refl _ _⟩
  case round =>
    obtain ⟨m, hm2, rfl, hok, hB⟩ := hrel
    have h1 := hm.below hB
    by_cases hlt : m < 2
    · obtain ⟨x0, x1, x2, x3, x4⟩ := h1.l.five (k := m) (by omega)
      simp only [Nat.zero_add] at x0 x1 x2 x3 x4
      have lg1 := h1.lg
      obtain ⟨b0, e0⟩ : ∃ b, proR f (m * 5) = b := ⟨_, rfl⟩
      obtain ⟨b1, e1⟩ : ∃ b, proR f (m * 5 + 1) = b := ⟨_, rfl⟩
      obtain ⟨b2, e2⟩ : ∃ b, proR f (m * 5 + 2) = b := ⟨_, rfl⟩
      obtain ⟨b3, e3⟩ : ∃ b, proR f (m * 5 + 3) = b := ⟨_, rfl⟩
      obtain ⟨b4, e4⟩ : ∃ b, proR f (m * 5 + 4) = b := ⟨_, rfl⟩
      have hgu := guardIns
      have hsm : sm5 (R (m * 5)) (R (m * 5 + 1)) (R (m * 5 + 2)) (R (m * 5 + 3)) (R (m * 5 + 4)) b0 b1 b2 b3 b4 = true ↔ Eq5 R (proR f) m := by
        rw [sm5_iff, ← e0, ← e1, ← e2, ← e3, ← e4]
        unfold Eq5
        constructor
        · rintro ⟨a0, a1, a2, a3, a4⟩ j hj
          match j, hj with
          | 0, _ => exact a0
          | 1, _ => exact a1
          | 2, _ => exact a2
          | 3, _ => exact a3
          | 4, _ => exact a4
        · intro a
          exact ⟨a 0 (by omega), a 1 (by omega), a 2 (by omega), a 3 (by omega), a 4 (by omega)⟩
      have heq := fun w => eqlIns (R (m * 5)) (R (m * 5 + 1)) (R (m * 5 + 2)) (R (m * 5 + 3)) (R (m * 5 + 4)) b0 b1 b2 b3 b4 w
      have hmN : m < n := by omega
      have pro : ∀ w, Hid (Calls Tryd.prog 64 #[.int .i64 f] w fun e w' => ∃ G, e = .returned (.slice (some ⟨G, 0, none⟩) 2 2) ∧ Below w.heap.size w w' ∧ w'.cell? ⟨G, m * 5, none⟩ = some (.int .i64 b0) ∧ w'.cell? ⟨G, m * 5 + 1, none⟩ = some (.int .i64 b1) ∧ w'.cell? ⟨G, m * 5 + 2, none⟩ = some (.int .i64 b2) ∧ w'.cell? ⟨G, m * 5 + 3, none⟩ = some (.int .i64 b3) ∧ w'.cell? ⟨G, m * 5 + 4, none⟩ = some (.int .i64 b4)) := by
        intro w
        refine (proSpec0 f w hfr).mono ?_
        rintro e w1 ⟨G, rfl, hb, hG0, hG1, hfl⟩
        obtain ⟨y0, y1, y2, y3, y4⟩ := hfl.rd.five (k := m) hlt
        simp only [Nat.zero_add] at y0 y1 y2 y3 y4
        rw [e0] at y0
        rw [e1] at y1
        rw [e2] at y2
        rw [e3] at y3
        rw [e4] at y4
        exact ⟨G, rfl, hb, y0, y1, y2, y3, y4⟩
      clear e0 e1 e2 e3 e4
      by_cases hE : Eq5 R (proR f) m
      · rw [hsm.2 hE] at heq
        clear hsm h1
        go_wp2_with fail
        go_region_with ((go_at_call 64; refine ((pro _).out).mono ?_; rintro e w3 ⟨G, rfl, hb3, y0, y1, y2, y3, y4⟩; have B3 : Below wr.heap.size wr w3 := (by first | exact hb3 | exact (Below.refl wr.heap.size wr).drew.trans hb3); have z0 := (B3.cell (p := ⟨g, m * 5, none⟩) lg1).trans x0; have z1 := (B3.cell (p := ⟨g, m * 5 + 1, none⟩) lg1).trans x1; have z2 := (B3.cell (p := ⟨g, m * 5 + 2, none⟩) lg1).trans x2; have z3 := (B3.cell (p := ⟨g, m * 5 + 3, none⟩) lg1).trans x3; have z4 := (B3.cell (p := ⟨g, m * 5 + 4, none⟩) lg1).trans x4))
        all_goals
          go_wp2_with fail
          go_round
          case rel => exact ⟨m + 1, by omega, by go_num, fun j hj => by
            rcases Nat.lt_succ_iff_lt_or_eq.1 hj with h | rfl
            · exact hok j h
            · exact hE, by first | exact hB.trans (B3.mono hB.size) | exact hB.trans ((B3.drew).mono hB.size)⟩
          case measure => simp [intOf]; omega
      · have hs : sm5 (R (m * 5)) (R (m * 5 + 1)) (R (m * 5 + 2)) (R (m * 5 + 3)) (R (m * 5 + 4)) b0 b1 b2 b3 b4 = false := by
          cases e : sm5 (R (m * 5)) (R (m * 5 + 1)) (R (m * 5 + 2)) (R (m * 5 + 3)) (R (m * 5 + 4)) b0 b1 b2 b3 b4
          · rfl
          · exact absurd (hsm.1 e) hE
        obtain ⟨rfl, rfl⟩ : x = ((m : Nat) : Int) ∧ y = 17 := by
          cases hl with
          | head k hk a b =>
            by_cases h1 : k < m
            · exact absurd (hok k h1) b
            · by_cases h2 : m < k
              · exact absurd (a m h2) hE
              · obtain rfl : k = m := by omega
                exact ⟨rfl, rfl⟩
          | last a b => exact absurd (a m hlt) hE
          | rule k a b => exact absurd (a m hlt) hE
          | none a b => exact absurd (a m hlt) hE
        rw [hs] at heq
        clear hsm hs h1 hl
        go_wp2_with fail
        go_region_with ((go_at_call 64; refine ((pro _).out).mono ?_; rintro e w3 ⟨G, rfl, hb3, y0, y1, y2, y3, y4⟩; have B3 : Below wr.heap.size wr w3 := (by first | exact hb3 | exact (Below.refl wr.heap.size wr).drew.trans hb3); have z0 := (B3.cell (p := ⟨g, m * 5, none⟩) lg1).trans x0; have z1 := (B3.cell (p := ⟨g, m * 5 + 1, none⟩) lg1).trans x1; have z2 := (B3.cell (p := ⟨g, m * 5 + 2, none⟩) lg1).trans x2; have z3 := (B3.cell (p := ⟨g, m * 5 + 3, none⟩) lg1).trans x3; have z4 := (B3.cell (p := ⟨g, m * 5 + 4, none⟩) lg1).trans x4))
        all_goals
          go_wp2_with fail
          go_ret2
          exact ⟨rfl, HB.out.trans ((hB.trans (by first | exact B3.mono hB.size | exact (B3.drew).mono hB.size)).mono HB.out.size)⟩
    · obtain rfl : m = 2 := by omega
      obtain ⟨x0, x1, x2, x3, x4⟩ := h1.l.five (k := n - 1) (by omega)
      obtain ⟨l, hl1⟩ : ∃ l, n - 1 = l := ⟨_, rfl⟩
      have hNl : n = l + 1 := by omega
      rw [hl1] at x0 x1 x2 x3 x4
      simp only [Nat.zero_add] at x0 x1 x2 x3 x4
      subst hNl
      clear hl1
      have HW : Hid (Below w'.heap.size w' wr) := HB.out.trans (hB.mono HB.out.size)
      have hlast : EndOK R (l + 1) ↔ R (l * 5) = 4 ∨ (R (l * 5) = 3 ∧ R (l * 5 + 1) = 0) := Iff.rfl
      obtain ⟨op, ho⟩ : ∃ op, R (l * 5) = op := ⟨_, rfl⟩
      obtain ⟨rd, hrd⟩ : ∃ rd, R (l * 5 + 1) = rd := ⟨_, rfl⟩
      rw [ho] at x0 hlast
      rw [hrd] at x1 hlast
      have tail : EndOK R (l + 1) → ∀ (tmps : Array Value) , True := fun _ _ => trivial
      clear tail
      by_cases he : EndOK R (l + 1)
      · have hz' : ∀ m, m < l + 1 → 2 ≤ m → (∀ j, 2 ≤ j → j < m → ruI R (l + 1) f a zs wdN j = 0) → ruI R (l + 1) f a zs wdN m ≠ 0 → x = ((m : Nat) : Int) ∧ y = ruI R (l + 1) f a zs wdN m := by
          intro m hm1 hm2 hru hne
          cases hl with
          | head k hk a b => exact absurd (hok k hk) b
          | last a b => exact absurd he b
          | rule k a b h2 hk hb hn =>
            by_cases hkm : k < m
            · exact absurd (hru k h2 hkm) hn
            · by_cases hmk : m < k
              · exact absurd (hb m hm2 hmk) hne
              · obtain rfl : k = m := by omega
                exact ⟨rfl, rfl⟩
          | none a b hb => exact absurd (hb m hm2 hm1) hne
        have hzz : (∀ j, 2 ≤ j → j < l + 1 → ruI R (l + 1) f a zs wdN j = 0) → x = 0 ∧ y = 0 := by
          intro hru
          cases hl with
          | head k hk a b => exact absurd (hok k hk) b
          | last a b => exact absurd he b
          | rule k a b h2 hk hb hn => exact absurd (hru k h2 hk) hn
          | none a b => exact ⟨rfl, rfl⟩
        have hm3 : MdIs wr g (l + 1) R pc zs := h1
        clear hl h1
        obtain ⟨W1, rfl⟩ : ∃ W1, W1 = wr := ⟨_, rfl⟩
        rcases hlast.1 he with rfl | ⟨rfl, rfl⟩
        all_goals
          clear hlast he
          go_wp2_with fail
          go_loopw [14] (fun i w3 => ∃ m : Nat, 2 ≤ m ∧ m ≤ l + 1 ∧ i = .int .i64 m ∧ (∀ j, 2 ≤ j → j < m → ruI R (l + 1) f a zs wdN j = 0) ∧ Below W1.heap.size W1 w3) (fun i _ => (l + 1) - (intOf i).toNat)
          case atStart => exact ⟨2, by omega, by omega, rfl, fun j h1 h2 => by omega, Below.refl _ _⟩
          case round =>
            obtain ⟨m, hm2, hml, rfl, hru, hB3⟩ := hrel
            by_cases hlt2 : m < l + 1
            · obtain ⟨r, hr⟩ : ∃ r, ruI R (l + 1) f a zs wdN m = r := ⟨_, rfl⟩
              have hbm := ru m _ (hm3.below hB3) hlt2 hm2
              rw [hr] at hbm
              have hz2 := hz' m hlt2 hm2 hru
              rw [hr] at hz2
              clear x0 x1 x2 x3 x4
              by_cases hr0 : r = 0
              · subst hr0
                go_wp2_with fail
                refine hbm.mono ?_
                rintro e w4 ⟨rfl, hb4⟩
                have HB4 : Below W1.heap.size W1 w4 := hB3.trans (hb4.mono hB3.size)
                clear hb4 hB3 hbm
                go_wp2_with fail
                go_roundw
                case rel =>
                  refine ⟨_, _, _, _, _, _, _, _, _, _, _, _, _, _, _, _, _, _, _, ⟨m + 1, by omega, by omega, by go_num, ?_, HB4⟩, rfl⟩
                  intro j h1 h2
                  rcases Nat.lt_succ_iff_lt_or_eq.1 h2 with h' | h'
                  · exact hru j h1 h'
                  · rw [h']; exact hr
                case measure => simp [intOf]; omega
              · obtain ⟨rfl, rfl⟩ := hz2 hr0
                have hr0b : (y == 0) = false := by simpa using hr0
                go_wp2_with fail
                refine hbm.mono ?_
                rintro e w4 ⟨rfl, hb4⟩
                have HB4 : Below W1.heap.size W1 w4 := hB3.trans (hb4.mono hB3.size)
                clear hb4 hB3 hbm
                go_wp2_with fail
                go_ret2
                exact ⟨rfl, HW.out.trans (HB4.mono HW.out.size)⟩
            · obtain rfl : m = l + 1 := by omega
              obtain ⟨rfl, rfl⟩ := hzz hru
              clear x0 x1 x2 x3 x4
              go_wp2_with fail
              go_ret2
              exact ⟨rfl, HW.out.trans (hB3.mono HW.out.size)⟩
      · obtain ⟨rfl, rfl⟩ : x = ((l : Nat) : Int) ∧ y = 22 := by
          cases hl with
          | head k hk a b => exact absurd (hok k hk) b
          | last a b => exact ⟨rfl, rfl⟩
          | rule k a b => exact absurd b he
          | none a b => exact absurd b he
        have hn : ¬ (op = 4 ∨ (op = 3 ∧ rd = 0)) := fun h => he (hlast.2 h)
        have h4 : (op == 4) = false := by simp; omega
        clear hlast he h1
        by_cases h3 : op = 3
        · have hr0 : (rd == 0) = false := by simp; omega
          subst h3
          go_wp2_with fail
          go_ret2
          exact ⟨rfl, HW.out⟩
        · have h3b : (op == 3) = false := by simpa using h3
          go_wp2_with fail
          go_ret2
          exact ⟨rfl, HW.out⟩
end

set_option maxHeartbeats 2000000 in
/-- The model's LintFunction out of its check. -/
theorem specOuter (s : ByteArray) (a f x y : Int) (pc : Option Addr) (k cc : Nat) (w : World) (hs : s.size ≤ 65536) (hk : k ≤ 4096) (h : Calls Tryd.prog 37 #[.string s, .int .i64 a, .int .i64 f, .slice pc k cc] w fun e w' => TwoN w.heap.size x y w e w') :
    Calls Tryd.prog 17 #[.string s, .int .i64 a, .int .i64 f, .slice pc k cc] w fun e w' => TwoN w.heap.size x y w e w' := by
  go_enter Tryd.func17, Tryd.ntmps17
  go_wp2_with (go_at_call 37; refine h.mono ?_; rintro e w' ⟨rfl, hb⟩)
  go_ret2
  exact ⟨rfl, hb⟩

/-- Both answer the same. -/
theorem lintBoth (s : ByteArray) (a f : Int) (zs : List Int) (hs : s.size ≤ maxLen) (hk : zs.length ≤ 1048576) (ha : (Lit.int .i64 a).wf = true) (hf : (Lit.int .i64 f).wf = true) : ∃ x y : Int,
    (∀ pc cc w, IntsAt w pc zs → Calls Tryd.prog 17 #[.string s, .int .i64 a, .int .i64 f, .slice pc zs.length cc] w fun e w' => TwoN w.heap.size x y w e w') ∧
    (∀ pc cc w, Laid w → IntsAt w pc zs → Calls Tryd.prog 19 #[.string s, .int .i64 a, .int .i64 f, .slice pc zs.length cc] w fun e w' => TwoN w.heap.size x y w e w') := by
  have no : ∀ c, cfC s.size zs.length a f = c → c ≠ 0 → ∀ pc cc w, Laid w → IntsAt w pc zs → Calls Tryd.prog 19 #[.string s, .int .i64 a, .int .i64 f, .slice pc zs.length cc] w fun e w' => TwoN w.heap.size 0 c w e w' :=
    fun c hc h0 pc cc w _ _ => lintImplNo s a f pc zs.length cc w hs hk ha hf c hc h0
  by_cases h0 : 65536 < s.size ∨ 4096 < zs.length
  · exact ⟨0, 2, fun pc cc w _ => specLong s a f _ w hs hk h0, no 2 (by unfold cfC; rw [if_pos h0]) (by decide)⟩
  have hs1 : s.size ≤ 65536 := by omega
  have hk1 : zs.length ≤ 4096 := by omega
  by_cases h1 : plB a = false
  · exact ⟨0, 4, fun pc cc w _ => specOuter s a f 0 4 pc _ cc w hs1 hk1 (specPlace s a f _ w hs1 ha h1), no 4 (by unfold cfC; rw [if_neg h0, if_pos h1]) (by decide)⟩
  have h1' : plB a = true := by cases e : plB a <;> simp_all
  by_cases h2 : frB f = false
  · exact ⟨0, 17, fun pc cc w _ => specOuter s a f 0 17 pc _ cc w hs1 hk1 (specFrame s a f _ w hs1 hf h1' h2), no 17 (by unfold cfC; rw [if_neg h0, if_neg h1, if_pos h2]) (by decide)⟩
  have h2' : frB f = true := by cases e : frB f <;> simp_all
  by_cases h3 : s.size % 4 = 0 ∧ s.size ≤ 256 ∧ 20 ≤ s.size
  · have hc : cfC s.size zs.length a f = 0 := by
      unfold cfC crC
      rw [if_neg h0, if_neg h1, if_neg h2, if_neg (by omega), if_pos (by omega)]
    obtain ⟨R, j, hr⟩ := run_of s (s.size / 4) (by omega) (by omega)
    by_cases e : j = s.size / 4
    · subst e
      obtain ⟨x, y, hl⟩ := lint_ex R (s.size / 4) f a zs
      obtain ⟨a0, a1, _⟩ := plB_yes h1'
      exact ⟨x, y, fun pc cc w hz => specOuter s a f x y pc _ cc w hs1 hk1 (specYes s a f _ R w hf h1' h2' ⟨h3.1, h3.2.1⟩ h3.2.2 hr (by omega) (by omega) hk hz x y hl),
        fun pc cc w hL hz => lintImplYes s a f pc cc zs _ R w hL hs hk hz ha hf hc hr (by omega) (by omega) a0 a1 h2' x y hl⟩
    · have hj : j < s.size / 4 := by have := hr.le; omega
      exact ⟨j, 10, fun pc cc w hz => specOuter s a f j 10 pc _ cc w hs1 hk1 (specWrong s a f _ _ j R w hf h1' h2' ⟨h3.1, h3.2.1⟩ h3.2.2 hr hj),
        fun pc cc w hL hz => lintImplWrong s a f pc _ cc _ j R w hL hs hk ha hf hc hr hj⟩
  · refine ⟨0, 8, fun pc cc w _ => specOuter s a f 0 8 pc _ cc w hs1 hk1 (specSize s a f _ w hs1 hf h1' h2' h3), no 8 ?_ (by decide)⟩
    unfold cfC crC
    rw [if_neg h0, if_neg h1, if_neg h2, if_neg (by omega), if_neg (by omega)]
end Go.Proofs.YtjokgiefnlpfkaaDoor

namespace Go.Proofs.YtjokgiefnlpfkaaDoor
open Go Go.RowKit
set_option linter.unusedVariables false

/-- A list of n ints: where it is not empty its cells lie in a block. -/
def RowAt (w : World) (p : Option Addr) (n : Nat) (R : Nat → Int) : Prop := n = 0 ∨ ∃ b o, p = some ⟨b, o, none⟩ ∧ b < w.heap.size ∧ Rdb w b o n R
theorem RowAt.below {w w' : World} {p : Option Addr} {n : Nat} {R : Nat → Int} (h : RowAt w p n R) (hb : Below w.heap.size w w') : RowAt w' p n R := by
  rcases h with h | ⟨b, o, e, hlt, hf⟩
  · exact .inl h
  · exact .inr ⟨b, o, e, Nat.lt_of_lt_of_le hlt hb.size, hf.below hb hlt⟩
theorem IntsAt.row {w : World} {p : Option Addr} {zs : List Int} (h : IntsAt w p zs) : RowAt w p zs.length (fun i => zs.getD i 0) := h

set_option maxRecDepth 100000 in
set_option maxHeartbeats 2000000 in
theorem toInts (p : Option Addr) (n c : Nat) (R : Nat → Int) (w : World) (hn : n ≤ 1048576) (hp : RowAt w p n R) :
    Calls Tryd.prog 18 #[.slice p n c] w fun e w' => ∃ g, e = .returned (.slice (some ⟨g, 0, none⟩) n n) ∧ Below w.heap.size w w' ∧ w.heap.size ≤ g ∧ g < w'.heap.size ∧ Flat w' g 0 n R := by
  obtain ⟨i0, hi, hz0, hz1, hz2⟩ := info_parts Tryd.info_int5
  go_enter Tryd.func18, Tryd.ntmps18
  go_wp2_with (at_make; refine wpList_make_full _ rfl _ _ 34 rfl w.heap.size 3 i0 _ 1 Tryd.underlying34 hi hz0 hz1 .i64 .i64 _ _ n rfl rfl (by omega) (by omega) (by rw [hz2]; omega) (by unfold maxLen; omega) (Nat.le_refl _) ?_; intro wm hm hgm)
  have b0 : Below w.heap.size w wm := (Below.refl _ _).grown hgm (Nat.le_refl _) (fun _ h => by cases h)
  have hq : w.heap.size < wm.heap.size := by
    rcases hm.2 with ⟨hv, _⟩ | ⟨g, cap, cur, hv, _, hg, _, _, hcs, _⟩
    · cases hv
    · obtain ⟨rfl, rfl⟩ : w.heap.size = g ∧ n = cap := by simpa using hv
      exact (Array.getElem?_eq_some_iff.1 hg).1
  have hp00 : Flat wm w.heap.size 0 n (fun _ => 0) := fun i hi' => by
    have h1 := hm.cellAt i (by omega)
    rw [Nat.zero_add]
    exact ⟨h1.trans (by simp [Value.cells, madeCells, hi', Nat.mod_one]), hm.frozenAt i⟩
  have hp0 : Flat wm w.heap.size 0 n (fun i => if i < 0 then R i else 0) := hp00.congr (fun i _ => by rw [if_neg (Nat.not_lt_zero _)])
  go_loopw [4] (fun i wr => ∃ k : Nat, k ≤ n ∧ i = .int .i64 k ∧ Below w.heap.size w wr ∧ w.heap.size < wr.heap.size ∧ Flat wr w.heap.size 0 n (fun i => if i < k then R i else 0)) (fun i _ => n - (intOf i).toNat)
  case atStart => exact ⟨0, Nat.zero_le _, rfl, b0, hq, hp0⟩
  case round =>
    obtain ⟨k, hk, rfl, hB, hS, hf⟩ := hrel
    clear hp0 hm
    by_cases hlt : k < n
    · rcases hp with hp | ⟨b, o, rfl, hb, hp⟩
      · omega
      have x0 := (hp.below hB hb) k hlt
      have y0 := (hf k hlt).1
      have f0 := (hf k hlt).2
      rw [Nat.zero_add] at y0 f0
      have hf1 := hf.set k hlt (a := k) (by omega) (R k)
      have hb1 := hB.setCell (p := ⟨w.heap.size, k, none⟩) (Nat.le_refl _) (.int .i64 (R k))
      clear hf hp
      go_wp2
      go_roundw
      case rel => exact ⟨k + 1, by omega, by go_num, hb1, by simpa using hS, hf1.congr (fun i _ => by
        by_cases e : i = k
        · subst e; rw [if_pos rfl, if_pos (by omega)]
        · rw [if_neg e]
          by_cases e2 : i < k
          · rw [if_pos e2, if_pos (by omega)]
          · rw [if_neg e2, if_neg (by omega)])⟩
      case measure => simp [intOf]; omega
    · obtain rfl : k = n := by omega
      go_wp2
      go_ret
      exact ⟨_, rfl, hB, Nat.le_refl _, hS, hf.congr (fun i hi => by rw [if_pos hi])⟩

set_option maxHeartbeats 2000000 in
theorem eqInts (p q : Option Addr) (n c d : Nat) (R : Nat → Int) (w : World) (hn : n ≤ 2000000) (hp : RowAt w p n R) (hq : RowAt w q n R) :
    Calls Tryd.prog 20 #[.slice p n c, .slice q n d] w fun e w' => e = .returned (.bool true) ∧ Below w.heap.size w w' := by
  go_enter Tryd.func20, Tryd.ntmps20
  go_wp2
  go_loopw [5] (fun i wr => ∃ k : Nat, k ≤ n ∧ i = .int .i64 k ∧ Below w.heap.size w wr) (fun i _ => n - (intOf i).toNat)
  case atStart => exact ⟨0, Nat.zero_le _, rfl, Below.refl _ _⟩
  case round =>
    obtain ⟨k, hk, rfl, hB⟩ := hrel
    by_cases hlt : k < n
    · rcases hp with hp | ⟨b, o, rfl, hb, hp⟩
      · omega
      rcases hq with hq | ⟨b', o', rfl, hb', hq⟩
      · omega
      have x0 := hp.below hB hb k hlt
      have y0 := hq.below hB hb' k hlt
      have hB2 := hB.drew
      clear hp hq
      go_wp2
      go_region
      all_goals
        go_wp2
        go_roundw
        case rel => exact ⟨k + 1, by omega, by go_num, hB2⟩
        case measure => simp [intOf]; omega
    · go_wp2
      go_ret
      exact ⟨rfl, hB⟩

set_option maxHeartbeats 2000000 in
/-- Marked: the cells count on from s; no block but b is touched. -/
theorem markInts (b o n c : Nat) (s : Nat) (R : Nat → Int) (w : World) (hn : n ≤ 1000000) (hs : s ≤ 1000000) (hb : b < w.heap.size) (hp : Flat w b o n R) :
    Calls Tryd.prog 23 #[.slice (some ⟨b, o, none⟩) n c, .int .i64 s] w fun e w' => e = .returned (.int .i64 ((s + n : Nat) : Int)) ∧ Below b w w' ∧ w'.heap.size = w.heap.size ∧ Flat w' b o n (fun i => ((s + i : Nat) : Int)) := by
  go_enter Tryd.func23, Tryd.ntmps23
  go_wp2
  go_loopw [1, 5] (fun m i wr => ∃ k : Nat, k ≤ n ∧ i = .int .i64 k ∧ m = .int .i64 ((s + k : Nat) : Int) ∧ Below b w wr ∧ wr.heap.size = w.heap.size ∧ Flat wr b o n (fun i => if i < k then ((s + i : Nat) : Int) else R i)) (fun _ i _ => n - (intOf i).toNat)
  case atStart => exact ⟨0, Nat.zero_le _, rfl, by simp, Below.refl _ _, rfl, hp.congr (by intro i hi; simp)⟩
  case round =>
    obtain ⟨k, hk, rfl, rfl, hB, hz, hf⟩ := hrel
    by_cases hlt : k < n
    · have x0 := (hf k hlt).1
      have f0 := (hf k hlt).2
      have F5 := hf.set k hlt (a := o + k) rfl ((s : Int) + (k : Int))
      have B5 := hB.setCell (p := ⟨b, o + k, none⟩) (Nat.le_refl _) (.int .i64 ((s : Int) + (k : Int)))
      clear hf
      go_wp2
      go_roundw
      case rel =>
        refine ⟨k + 1, by omega, by go_num, by first | rfl | (congr 1; omega), B5, by simp [hz], F5.congr ?_⟩
        intro i hi
        repeat' split
        all_goals omega
      case measure => simp [intOf]; omega
    · go_wp2
      obtain rfl : k = n := by omega
      go_ret
      exact ⟨rfl, hB, hz, hf.congr (by intro i hi; rw [if_pos hi])⟩

set_option maxHeartbeats 2000000 in
/-- Held against its marks. -/
theorem heldInts (b o n c : Nat) (s : Nat) (w : World) (hn : n ≤ 1000000) (hs : s ≤ 1000000) (hp : Flat w b o n (fun i => ((s + i : Nat) : Int))) :
    Calls Tryd.prog 24 #[.slice (some ⟨b, o, none⟩) n c, .int .i64 s] w fun e w' => e = .returned (.int .i64 ((s + n : Nat) : Int)) ∧ w' = w := by
  go_enter Tryd.func24, Tryd.ntmps24
  go_wp2
  go_loop [1, 5] (fun m i => ∃ k : Nat, k ≤ n ∧ i = .int .i64 k ∧ m = .int .i64 ((s + k : Nat) : Int)) (fun _ i => n - (intOf i).toNat)
  case atStart => exact ⟨0, Nat.zero_le _, rfl, by simp⟩
  case round =>
    obtain ⟨k, hk, rfl, rfl⟩ := hrel
    by_cases hlt : k < n
    · have x0 : w.cell? ⟨b, o + k, none⟩ = some (.int .i64 ((s + k : Nat) : Int)) := (hp k hlt).1
      have e0 : ((s + k : Nat) : Int) = (s : Int) + (k : Int) := by omega
      rw [e0] at x0
      clear e0
      go_wp2
      go_round
      case rel => exact ⟨k + 1, by omega, by go_num, by first | rfl | (congr 1; omega)⟩
      case measure => simp [intOf]; omega
    · go_wp2
      obtain rfl : k = n := by omega
      go_ret
      exact ⟨rfl, rfl⟩

/-- An empty list: nothing is marked, nothing is held. -/
theorem markNil1 (p : Option Addr) (c : Nat) (s : Int) (w : World) :
    Calls Tryd.prog 23 #[.slice p 0 c, .int .i64 s] w fun e w' => e = .returned (.int .i64 s) ∧ w' = w := by
  go_enter Tryd.func23, Tryd.ntmps23
  go_wp2
  go_loop [1, 5] (fun m i => i = .int .i64 0 ∧ m = .int .i64 s) (fun _ _ => 0)
  case atStart => exact ⟨rfl, rfl⟩
  case round =>
    obtain ⟨rfl, rfl⟩ := hrel
    go_wp2
    go_ret
    exact ⟨rfl, rfl⟩
theorem heldNil1 (p : Option Addr) (c : Nat) (s : Int) (w : World) :
    Calls Tryd.prog 24 #[.slice p 0 c, .int .i64 s] w fun e w' => e = .returned (.int .i64 s) ∧ w' = w := by
  go_enter Tryd.func24, Tryd.ntmps24
  go_wp2
  go_loop [1, 5] (fun m i => i = .int .i64 0 ∧ m = .int .i64 s) (fun _ _ => 0)
  case atStart => exact ⟨rfl, rfl⟩
  case round =>
    obtain ⟨rfl, rfl⟩ := hrel
    go_wp2
    go_ret
    exact ⟨rfl, rfl⟩
end Go.Proofs.YtjokgiefnlpfkaaDoor
