/- A run read: the program's readRun. Runs: what their words are; both readings of them. Words of instructions: contracts of both WordsOf. Numbers out of the bytes that were put: plain. The words of right instructions are a run that reads back as these instructions. -/
import Derived.Test.YtiandbhcjecphaaGreatDoorGLShape30
import Derived.Maps.OwnIn
import Derived.Deep.AppendLies
import Derived.Test.YtiandbhcjecphaaGreatDoorGLShape18
import Derived.Test.YtiandbhcjecphaaGreatDoorGLShape28
import Derived.Lib.AppendStr
import Derived.Test.YtiandbhcjecphaaGreatDoorGLShape0
import Derived.Test.YtiandbhcjecphaaGreatDoorGLShape27
namespace Go.Proofs.YtiandbhcjecphaaGreatDoor
open Go Go.RowKit
set_option linter.unusedVariables false
attribute [local go_sem] Oper.semAt_some
theorem Tryz.info_inr : (Tryz.prog.info? 39).map (fun i => (i.zero, i.size, i.bytes)) = some (some (.agg #[.int .i64 0, .int .i64 0, .int .i64 0, .int .i64 0, .int .i64 0]), 5, 40) := by kernel_rfl

/-- The cells of the first n instructions. -/
def cellsR (R : Nat → Int) (n : Nat) : List Value := (List.range (n * 5)).map fun i => .int .i64 (R i)
theorem cellsR_succ (R : Nat → Int) (n : Nat) : cellsR R (n + 1) = cellsR R n ++ [.int .i64 (R (n * 5)), .int .i64 (R (n * 5 + 1)), .int .i64 (R (n * 5 + 2)), .int .i64 (R (n * 5 + 3)), .int .i64 (R (n * 5 + 4))] := by
  unfold cellsR
  rw [show (n + 1) * 5 = n * 5 + 1 + 1 + 1 + 1 + 1 from by omega, List.range_succ, List.range_succ, List.range_succ, List.range_succ, List.range_succ]
  simp
theorem cellsR_len (R : Nat → Int) (n : Nat) : (cellsR R n).length = n * 5 := by simp [cellsR]

/-- A list of n instructions of the call's own. -/
def OwnL (w : World) (B : Nat) (p : Option Addr) (n : Nat) (R : Nat → Int) : Prop := n = 0 ∨ ∃ g, p = some ⟨g, 0, none⟩ ∧ B ≤ g ∧ g < w.heap.size ∧ Flat w g 0 (n * 5) R
theorem OwnL.list {w : World} {B : Nat} {p : Option Addr} {n : Nat} {R : Nat → Int} (h : OwnL w B p n R) : ListAt w p n R := by
  rcases h with h | ⟨g, h1, h2, h3, h4⟩
  · exact .inl h
  · exact .inr ⟨g, 0, h1, h3, h4.rd⟩
theorem OwnL.below {w w' : World} {B : Nat} {p : Option Addr} {n : Nat} {R : Nat → Int} (h : OwnL w B p n R) (hb : Below w.heap.size w w') : OwnL w' B p n R := by
  rcases h with h | ⟨g, h1, h2, h3, h4⟩
  · exact .inl h
  · exact .inr ⟨g, h1, h2, Nat.lt_of_lt_of_le h3 hb.size, h4.below hb h3⟩
theorem ownL_of_row {w : World} {B e : Nat} {v : Value} {n : Nat} {R : Nat → Int} (h : w.ownsRow B e 5 v n (cellsR R n)) : ∃ p c, v = .slice p n c ∧ OwnL w B p n R := by
  rcases h.2 with ⟨rfl, rfl⟩ | ⟨g, cap, cur, rfl, h1, h2, h3, h4, h5, h6⟩
  · exact ⟨none, 0, rfl, .inl rfl⟩
  · refine ⟨_, cap, rfl, .inr ⟨g, rfl, h1, (Array.getElem?_eq_some_iff.1 h2).1, fun i hi => ?_⟩⟩
    rw [Nat.zero_add, cell_of_row w g i cur e (0, 0) h2]
    refine ⟨?_, frozen_of_row w g i cur e h2⟩
    have h7 : (cur.toList.take (n * 5))[i]? = (cellsR R n)[i]? := by rw [h6]
    rw [List.getElem?_take, if_pos hi, Array.getElem?_toList] at h7
    rw [h7]
    simp [cellsR, hi]

theorem row_below {W W' : World} {B e size n : Nat} {v : Value} {xs : List Value} (h : W.ownsRow B e size v n xs) (hb : Below W.heap.size W W') : W'.ownsRow B e size v n xs := by
  refine ⟨h.1, ?_⟩
  rcases h.2 with hv | ⟨g, cap, cur, h1, h2, h3, h4⟩
  · exact .inl hv
  · exact .inr ⟨g, cap, cur, h1, h2, (hb.block g (Array.getElem?_eq_some_iff.1 h3).1).trans h3, h4⟩

theorem insMk (s : ByteArray) (w : World) :
    Calls Tryz.prog 49 #[.string s] w fun e w' => e = .returned (.func (.func 72) #[] #[.pointer (some ⟨w.heap.size, 0, none⟩)]) ∧ w' = w.alloc (.cells #[.string s] 9) := by
  go_enter Tryz.func49, Tryz.ntmps49
  go_wp2
  go_ret
  exact ⟨rfl, rfl⟩

/-- What the loop keeps between two rounds. (B: the heap's size when the call begins: the answers' boxes B, B + 1, B + 2, the list's box B + 3, the iterator's B + 4.) -/
def RunI (w : World) (R : Nat → Int) (j : Nat) (k : Nat) (W : World) : Prop :=
  k ≤ j ∧ (∃ v, Boxed W (w.heap.size + 1 + 1 + 1) 24 v ∧ W.ownsRow w.heap.size 39 5 v k (cellsR R k) ∧ v.ownBlock ≠ some (w.heap.size + 1 + 1 + 1 + 1)) ∧
    Boxed W w.heap.size 24 (.slice none 0 0) ∧ Boxed W (w.heap.size + 1) 3 (.int .i64 0) ∧ Boxed W (w.heap.size + 1 + 1) 3 (.int .i64 0) ∧ Below w.heap.size w W ∧ w.heap.size + 1 + 1 + 1 + 1 < W.heap.size
def RunX (w : World) (N j : Nat) (W : World) : Prop :=
  j < N ∧ Boxed W w.heap.size 24 (.slice none 0 0) ∧ Boxed W (w.heap.size + 1) 3 (.int .i64 j) ∧ Boxed W (w.heap.size + 1 + 1) 3 (.int .i64 10) ∧ Below w.heap.size w W
theorem boxed_stands {A B : World} {row : Option Nat} {Bc S X t : Nat} {v : Value} (hg : A.grownBy B row) (hrow : ∀ r, row = some r → r = Bc ∨ (S ≤ r ∧ ∃ o : Obj, A.heap[r]? = some o ∧ o.isCells = false)) (h : Boxed A X t v) (hne : X ≠ Bc) (hlt : X < S) : Boxed B X t v :=
  h.kept hg (fun e => by rcases hrow X e.symm with h' | ⟨h', _⟩ <;> omega)
theorem row_stands {A B : World} {row : Option Nat} {Bc S base e size k : Nat} {v : Value} {xs : List Value} (hg : A.grownBy B row) (hrow : ∀ r, row = some r → r = Bc ∨ (S ≤ r ∧ ∃ o : Obj, A.heap[r]? = some o ∧ o.isCells = false)) (h : A.ownsRow base e size v k xs) (hne : v.ownBlock ≠ some Bc) : B.ownsRow base e size v k xs := by
  refine h.kept hg ?_
  rcases h.2 with ⟨rfl, _⟩ | ⟨g, cap, cur, rfl, _, hgb, _⟩
  · exact .inl rfl
  · refine .inr fun e' => ?_
    rcases hrow g (by simpa [Value.ownBlock] using e'.symm) with h' | ⟨_, o, ho, hc⟩
    · exact hne (by simp [Value.ownBlock, h'])
    · rw [hgb] at ho; cases ho; cases hc
theorem runI_stands (w : World) (R : Nat → Int) (j S : Nat) (hS : S = w.heap.size + 1 + 1 + 1 + 1 + 1) : Stands (w.heap.size + 1 + 1 + 1 + 1) S (RunI w R j) := by
  rintro k A B row ⟨h0, ⟨v, hv, hr, hne⟩, h2, h3, h4, hb, hz⟩ hg hrow
  exact ⟨h0, ⟨v, boxed_stands hg hrow hv (by omega) (by omega), row_stands hg hrow hr hne, hne⟩, boxed_stands hg hrow h2 (by omega) (by omega), boxed_stands hg hrow h3 (by omega) (by omega), boxed_stands hg hrow h4 (by omega) (by omega),
    hb.grown hg hb.size (fun r e => by rcases hrow r e with h' | ⟨h', _⟩ <;> omega), Nat.lt_of_lt_of_le hz hg.size⟩
theorem runX_stands (w : World) (N j S : Nat) (hS : S = w.heap.size + 1 + 1 + 1 + 1 + 1) : Stands (w.heap.size + 1 + 1 + 1 + 1) S (fun (_ : Unit) => RunX w N j) := by
  rintro _ A B row ⟨h0, h2, h3, h4, hb⟩ hg hrow
  exact ⟨h0, boxed_stands hg hrow h2 (by omega) (by omega), boxed_stands hg hrow h3 (by omega) (by omega), boxed_stands hg hrow h4 (by omega) (by omega),
    hb.grown hg hb.size (fun r e => by rcases hrow r e with h' | ⟨h', _⟩ <;> omega)⟩

set_option maxRecDepth 100000 in
set_option maxHeartbeats 4000000 in
theorem runC (s : ByteArray) (N : Nat) (hs : s.size = 4 * N) (hN : N ≤ 16384) (R : Nat → Int) (co : Nat → Int) (hd : ∀ k, k < N → Hid (DecIs (wrd s k) R k (co k))) (j : Nat) (hj : j ≤ N) (hgo : ∀ k, k < j → co k = 0) (hst : j < N → co j = 10) (w : World) (hL : Laid w) :
    Calls Tryz.prog 24 #[.string s] w fun e w' => (∃ p n c x y, e = .returned (.tuple #[.slice p n c, .int .i64 x, .int .i64 y]) ∧ ((j = N ∧ n = N ∧ x = 0 ∧ y = 0) ∨ (j < N ∧ n = 0 ∧ x = j ∧ y = 10)) ∧ OwnL w' w.heap.size p n R) ∧ Below w.heap.size w w' := by
  obtain ⟨i0, hi, hz0, hz1, hz2⟩ := info_parts Tryz.info_inr
  refine (callsIn_wide (n := 9)).1 ?_
  refine callsIn_of_wp_marks Tryz.func24 rfl trivial ?_ rfl
  simp only [Tryz.ntmps24, List.size_toArray, List.length_cons, List.length_nil, Nat.reduceAdd, Nat.reduceSub, Array.replicate_succ, Array.replicate_zero, List.push_toArray, List.append_toArray, List.nil_append, List.cons_append]
  gi_wp2
  refine ⟨trivial, (callsIn_wide.2 (insMk _ _)).mono ?_⟩
  rintro e w' ⟨rfl, rfl⟩
  gi_wp2
  have bC := Boxed.new ((((w.alloc (.cells #[.slice none 0 0] 24)).alloc (.cells #[.int .i64 0] 3)).alloc (.cells #[.int .i64 0] 3)).alloc (.cells #[.slice none 0 0] 24)) 9 (.string s)
  have bL := (Boxed.new (((w.alloc (.cells #[.slice none 0 0] 24)).alloc (.cells #[.int .i64 0] 3)).alloc (.cells #[.int .i64 0] 3)) 24 (.slice none 0 0)).alloc (.cells #[.string s] 9)
  have bY := ((Boxed.new ((w.alloc (.cells #[.slice none 0 0] 24)).alloc (.cells #[.int .i64 0] 3)) 3 (.int .i64 0)).alloc (.cells #[.slice none 0 0] 24)).alloc (.cells #[.string s] 9)
  have bX := (((Boxed.new (w.alloc (.cells #[.slice none 0 0] 24)) 3 (.int .i64 0)).alloc (.cells #[.int .i64 0] 3)).alloc (.cells #[.slice none 0 0] 24)).alloc (.cells #[.string s] 9)
  have bA := ((((Boxed.new w 24 (.slice none 0 0)).alloc (.cells #[.int .i64 0] 3)).alloc (.cells #[.int .i64 0] 3)).alloc (.cells #[.slice none 0 0] 24)).alloc (.cells #[.string s] 9)
  simp only [World.size_alloc] at bC bL bY bX
  have hB0 : Below w.heap.size w (((((w.alloc (.cells #[.slice none 0 0] 24)).alloc (.cells #[.int .i64 0] 3)).alloc (.cells #[.int .i64 0] 3)).alloc (.cells #[.slice none 0 0] 24)).alloc (.cells #[.string s] 9)) :=
    (((((Below.refl _ w).alloc (Nat.le_refl _) _).alloc (by simp) _).alloc (by simp; omega) _).alloc (by simp; omega) _).alloc (by simp; omega) _
  have hz : (((((w.alloc (.cells #[.slice none 0 0] 24)).alloc (.cells #[.int .i64 0] 3)).alloc (.cells #[.int .i64 0] 3)).alloc (.cells #[.slice none 0 0] 24)).alloc (.cells #[.string s] 9)).heap.size = w.heap.size + 1 + 1 + 1 + 1 + 1 := by simp
  obtain ⟨W0, hW0⟩ : ∃ W0, (((((w.alloc (.cells #[.slice none 0 0] 24)).alloc (.cells #[.int .i64 0] 3)).alloc (.cells #[.int .i64 0] 3)).alloc (.cells #[.slice none 0 0] 24)).alloc (.cells #[.string s] 9)) = W0 := ⟨_, rfl⟩
  rw [hW0] at bC bL bY bX bA hB0 hz ⊢
  clear hW0
  have hL0 : Laid W0 := laid_below hL hB0
  refine rangeCell rfl (by omega) (gf := 72) (lb := #[.pointer (some ⟨w.heap.size + 1 + 1 + 1 + 1, 0, none⟩)]) rfl trivial (enters_of Tryz.func72 (by kernel_rfl) rfl)
    (insSeq s N hs hN R co hd 8 w.heap.size (w.heap.size + 1 + 1 + 1 + 1) W0 hL0 hB0.size (fun W h => laid_below hL (hB0.trans h)) (by omega) (by omega) bC) hB0.size (by omega) (fun _ => rfl)
    (RunI w R j) (RunX w N j) (runI_stands w R j _ hz) (runX_stands w N j _ hz) ⟨Nat.zero_le _, ⟨_, bL, World.ownsRow_nil _ _ _ _, by simp [Value.ownBlock]⟩, bA, bX, bY, hB0, by omega⟩
    (fun k a' W => ∃ Bx, w.heap.size + 1 + 1 + 1 + 1 < Bx ∧ Lies W Bx 39 #[.int .i64 (R (k * 5)), .int .i64 (R (k * 5 + 1)), .int .i64 (R (k * 5 + 2)), .int .i64 (R (k * 5 + 3)), .int .i64 (R (k * 5 + 4))] ∧ a' = { tmps := #[.string s, undef, .pointer (some ⟨w.heap.size, 0, none⟩), .pointer (some ⟨w.heap.size + 1, 0, none⟩), .pointer (some ⟨w.heap.size + 1 + 1, 0, none⟩), .pointer (some ⟨w.heap.size + 1 + 1 + 1, 0, none⟩), .pointer (some ⟨Bx, 0, none⟩), .int .i64 (co k), .string s, .func (.func 72) #[] #[.pointer (some ⟨w.heap.size + 1 + 1 + 1 + 1, 0, none⟩)], .agg #[.int .i64 (R (k * 5)), .int .i64 (R (k * 5 + 1)), .int .i64 (R (k * 5 + 2)), .int .i64 (R (k * 5 + 3)), .int .i64 (R (k * 5 + 4))], .int .i64 (co k), undef, undef, undef, undef, undef, undef, undef, undef, undef, undef], defers := [] })
    ?ax ?assign ?body ?done ?stop
  case ax =>
    rintro k a' _ A B row ⟨Bx, h1, h2, h3⟩ hg hrow
    refine ⟨Bx, h1, (hg.block Bx h2.lt (fun e => ?_)).trans h2, h3⟩
    rcases hrow Bx e.symm with h' | ⟨_, o, ho, hc⟩
    · omega
    · rw [show A.heap[Bx]? = _ from h2] at ho; cases ho; cases hc
  case assign =>
    rintro l k W K hI hK
    gi_wp2
    obtain ⟨q0, q1, q2, q3, q4, q5, q6⟩ := hI
    have hI2 := (runI_stands w R j _ rfl).alloc (.cells #[.int .i64 (R (k * 5)), .int .i64 (R (k * 5 + 1)), .int .i64 (R (k * 5 + 2)), .int .i64 (R (k * 5 + 3)), .int .i64 (R (k * 5 + 4))] 39) (show RunI w R j k W from ⟨q0, q1, q2, q3, q4, q5, q6⟩)
    exact hK _ _ ((KeepsOthers.alloc _ _).from _) (RKeep.new ((Below.refl _ _).alloc (Nat.le_refl _) _) q5.size q6) hI2 ⟨W.heap.size, q6, Lies.new _ _ _, rfl⟩
  case body =>
    rintro l k a' W ⟨q0, ⟨v, hv, hr, hne⟩, q2, q3, q4, q5, q6⟩ ⟨Bx, hBx, hX, rfl⟩ hk
    have cv := hv.cell
    by_cases hkj : k < j
    · have e0 := hgo k hkj
      rw [e0]
      have x0 := hX.cell (j := 0) rfl
      have x1 := hX.cell (j := 1) rfl
      have x2 := hX.cell (j := 2) rfl
      have x3 := hX.cell (j := 3) rfl
      have x4 := hX.cell (j := 4) rfl
      gi_wp2_with (gi_at_builtin; refine wpListIn_append_own_at _ rfl _ _ 24 rfl w.heap.size 39 i0 _ 5 40 Tryz.underlying24 hi hz0 hz1 hz2 rfl (by decide) v k _ rfl (hr.alloc _) ⟨W.heap.size, 0, none⟩ 1 1 [.int .i64 (R (k * 5)), .int .i64 (R (k * 5 + 1)), .int .i64 (R (k * 5 + 2)), .int .i64 (R (k * 5 + 3)), .int .i64 (R (k * 5 + 4))] rfl rfl (World.news_of_block (cs := #[.int .i64 (R (k * 5)), .int .i64 (R (k * 5 + 1)), .int .i64 (R (k * 5 + 2)), .int .i64 (R (k * 5 + 3)), .int .i64 (R (k * 5 + 4))]) (t := 39) (fr := (0, 0)) (heap_alloc_new W _)) (by simp [Value.oneCell']) (by unfold maxLen; omega) (by omega) (by have := q5.size; simp; omega) ?_; intro v' w1 hown' hgrow _ hat; obtain ⟨g', cap', rfl⟩ := ownsRow_succ hown'; obtain ⟨hv1, hv2, hr2, hk2, hb2⟩ := hv.appended (by decide) hr q5.size (by omega) hown' hgrow; have hc1 := hv1.cell; have hf1 := hv1.frozen)
      obtain ⟨V', hV'⟩ : ∃ V', Value.slice (some ⟨g', 0, none⟩) (k + 1) cap' = V' := ⟨_, rfl⟩
      rw [hV'] at hown' hat hv2 hr2 hk2 hb2 ⊢
      have keep : ∀ X, X < W.heap.size → X ≠ w.heap.size + 1 + 1 + 1 → some X ≠ v.ownBlock → (w1.setCell ⟨w.heap.size + 1 + 1 + 1, 0, none⟩ V').heap[X]? = W.heap[X]? := fun X h1 h2 h3 =>
        (Below.heap_setCell _ _ _ _ h2).trans ((hgrow.block X (by simp; omega) h3).trans (Below.heap_alloc _ _ _ h1))
      have hne' : V'.ownBlock ≠ some (w.heap.size + 1 + 1 + 1 + 1) := by
        intro e
        rcases hat with h | h
        · exact hne (h ▸ e)
        · rw [e] at h
          have := Option.some.inj h
          simp at this
          omega
      have hgs : W.heap.size ≤ w1.heap.size := by have := hgrow.size; simp at this; omega
      refine ⟨hk2.from _, ⟨hb2, keep _ q6 (by omega) hne.symm⟩, by omega, ⟨V', hv2, by rw [cellsR_succ]; exact hr2, hne'⟩, (keep _ q2.lt (by omega) (q2.not_row (by decide) hr)).trans q2, (keep _ q3.lt (by omega) (q3.not_row (by decide) hr)).trans q3, (keep _ q4.lt (by omega) (q4.not_row (by decide) hr)).trans q4, q5.trans hb2, by simp; omega⟩
    · obtain rfl : k = j := by omega
      have e0 := hst hk
      rw [e0]
      obtain ⟨p, c, rfl, ho⟩ := ownL_of_row hr
      have c2 := q2.cell
      have c3 := q3.cell
      have c4 := q4.cell
      have f2 := q2.frozen
      have f3 := q3.frozen
      have f4 := q4.frozen
      have ya := ((q2.set (.slice none 0 0)).other (B' := w.heap.size + 1) (by omega) (.int .i64 (k : Int))).other (B' := w.heap.size + 1 + 1) (by omega) (.int .i64 10)
      have yb := ((q3.other (B' := w.heap.size) (by omega) (.slice none 0 0)).set (.int .i64 (k : Int))).other (B' := w.heap.size + 1 + 1) (by omega) (.int .i64 10)
      have yc := ((q4.other (B' := w.heap.size) (by omega) (.slice none 0 0)).other (B' := w.heap.size + 1) (by omega) (.int .i64 (k : Int))).set (.int .i64 10)
      have yd := ((q5.setCell (p := ⟨w.heap.size, 0, none⟩) (Nat.le_refl _) (.slice none 0 0)).setCell (p := ⟨w.heap.size + 1, 0, none⟩) (by simp) (.int .i64 (k : Int))).setCell (p := ⟨w.heap.size + 1 + 1, 0, none⟩) (by simp; omega) (.int .i64 10)
      have ye := ((KeepsOthers.setCell W ⟨w.heap.size, 0, none⟩ (.slice none 0 0)).trans (KeepsOthers.setCell _ ⟨w.heap.size + 1, 0, none⟩ (.int .i64 (k : Int)))).trans (KeepsOthers.setCell _ ⟨w.heap.size + 1 + 1, 0, none⟩ (.int .i64 10))
      gi_wp2
      gi_region
      all_goals gi_wp2
      all_goals (try go_bits)
      all_goals exact ⟨(ye.trans (KeepsOthers.drew _)).from _, hk, ya, yb, yc, yd.drew⟩
  case done =>
    rintro D W hD ⟨q0, ⟨v, hv, hr, hne⟩, q2, q3, q4, q5, q6⟩ hDq
    obtain rfl : N = j := by omega
    obtain ⟨p, c, rfl, ho⟩ := ownL_of_row hr
    have cv := hv.cell
    have c2 := q2.cell
    have c3 := q3.cell
    have c4 := q4.cell
    have f2 := q2.frozen
    have f3 := q3.frozen
    have f4 := q4.frozen
    have n2 := q2.not_row (by decide) hr
    have n3 := q3.not_row (by decide) hr
    have n4 := q4.not_row (by decide) hr
    have ya := ((q2.set (.slice p N c)).other (B' := w.heap.size + 1) (by omega) (.int .i64 0)).other (B' := w.heap.size + 1 + 1) (by omega) (.int .i64 0)
    have yb := ((q3.other (B' := w.heap.size) (by omega) (.slice p N c)).set (.int .i64 0)).other (B' := w.heap.size + 1 + 1) (by omega) (.int .i64 0)
    have yc := ((q4.other (B' := w.heap.size) (by omega) (.slice p N c)).other (B' := w.heap.size + 1) (by omega) (.int .i64 0)).set (.int .i64 0)
    have yd := ((q5.setCell (p := ⟨w.heap.size, 0, none⟩) (Nat.le_refl _) (.slice p N c)).setCell (p := ⟨w.heap.size + 1, 0, none⟩) (by simp) (.int .i64 0)).setCell (p := ⟨w.heap.size + 1 + 1, 0, none⟩) (by simp; omega) (.int .i64 0)
    have ye := ((KeepsOthers.setCell W ⟨w.heap.size, 0, none⟩ (.slice p N c)).trans (KeepsOthers.setCell _ ⟨w.heap.size + 1, 0, none⟩ (.int .i64 0))).trans (KeepsOthers.setCell _ ⟨w.heap.size + 1 + 1, 0, none⟩ (.int .i64 0))
    have yr := ((hr.kept (grownBy_setCell' W w.heap.size (.slice p N c)) (.inr n2.symm)).kept (grownBy_setCell' _ (w.heap.size + 1) (.int .i64 0)) (.inr n3.symm)).kept (grownBy_setCell' _ (w.heap.size + 1 + 1) (.int .i64 0)) (.inr n4.symm)
    have yq := ye.same D _ hDq rfl
    gi_wp2
    obtain ⟨V, hV⟩ : ∃ V, (((W.setCell ⟨w.heap.size, 0, none⟩ (.slice p N c)).setCell ⟨w.heap.size + 1, 0, none⟩ (.int .i64 0)).setCell ⟨w.heap.size + 1 + 1, 0, none⟩ (.int .i64 0)) = V := ⟨_, rfl⟩
    rw [hV] at ya yb yc yd yr yq ⊢
    have za := (ya.kept (grownBy_putObj' V D (.deferred none)) (by intro e; have := Option.some.inj e; omega)).cell
    have zb := (yb.kept (grownBy_putObj' V D (.deferred none)) (by intro e; have := Option.some.inj e; omega)).cell
    have zc := (yc.kept (grownBy_putObj' V D (.deferred none)) (by intro e; have := Option.some.inj e; omega)).cell
    obtain ⟨p', c', e', ho'⟩ := ownL_of_row (ownsRow_putObj yr (.deferred none) yq rfl)
    cases e'
    refine ⟨by simp, .inl ⟨_, _, rfl, run_takeDeferred yq, ?_⟩⟩
    refine ⟨.tuple #[.slice p N c, .int .i64 0, .int .i64 0], by simp [results, Tryz.results24, go_sem, za, zb, zc], ⟨p, N, c, 0, 0, rfl, by simp, ho'⟩, yd.trans (belowK_b (w := w) (Nat.le_refl _) V D _ _ (by omega) yq rfl rfl)⟩
  case stop =>
    rintro D W hD ⟨q0, q2, q3, q4, q5⟩ hDq
    have za := (q2.kept (grownBy_putObj' W D (.deferred none)) (by intro e; have := Option.some.inj e; omega)).cell
    have zb := (q3.kept (grownBy_putObj' W D (.deferred none)) (by intro e; have := Option.some.inj e; omega)).cell
    have zc := (q4.kept (grownBy_putObj' W D (.deferred none)) (by intro e; have := Option.some.inj e; omega)).cell
    gi_wp2
    refine ⟨by simp, .inl ⟨_, _, rfl, run_takeDeferred hDq, ?_⟩⟩
    refine ⟨.tuple #[.slice none 0 0, .int .i64 j, .int .i64 10], by simp [results, Tryz.results24, go_sem, za, zb, zc], ⟨none, 0, 0, j, 10, rfl, .inr ⟨q0, rfl, rfl, rfl⟩, .inl rfl⟩, q5.trans (belowK_b (w := w) (Nat.le_refl _) W D _ _ (by omega) hDq rfl rfl)⟩
end Go.Proofs.YtiandbhcjecphaaGreatDoor

namespace Go.Proofs.YtiandbhcjecphaaGreatDoor
open Go Go.RowKit
set_option linter.unusedVariables false

/-- The model's word for a word. -/
def ModIs (v : Nat) (R : Nat → Int) (k : Nat) (b : Bool) : Prop := ∀ w, Calls Tryz.prog 54 #[.int .i64 v] w fun e w' => e = .returned (.tuple #[.agg #[.int .i64 (R (k * 5)), .int .i64 (R (k * 5 + 1)), .int .i64 (R (k * 5 + 2)), .int .i64 (R (k * 5 + 3)), .int .i64 (R (k * 5 + 4))], .bool b]) ∧ Below w.heap.size w w'
def cdOf (b : Bool) : Int := if b = true then 0 else 10

def DecOne (v : Nat) (q : Nat → Int) (b : Bool) : Prop :=
    (∀ w, Calls Tryz.prog 54 #[.int .i64 v] w fun e w' => e = .returned (.tuple #[.agg #[.int .i64 (q 0), .int .i64 (q 1), .int .i64 (q 2), .int .i64 (q 3), .int .i64 (q 4)], .bool b]) ∧ Below w.heap.size w w') ∧
    (∀ w, Laid w → Calls Tryz.prog 73 #[.int .i64 v] w fun e w' => e = .returned (.tuple #[.agg #[.int .i64 (q 0), .int .i64 (q 1), .int .i64 (q 2), .int .i64 (q 3), .int .i64 (q 4)], .int .i64 (cdOf b)]) ∧ Below w.heap.size w w') ∧
    (b = true → rightB (q 0) (q 1) (q 2) (q 3) (q 4) = true)
theorem decOne (v : Nat) (v1 : v < 4294967296) : ∃ (q : Nat → Int) (b : Bool), DecOne v q b := by
  have w0 : (0 : Int) ≤ (v : Int) := by omega
  have w1 : (v : Int) < 4294967296 := by omega
  rcases first_hit v with h | ⟨n, n0, n1, h, hh⟩
  · exact ⟨fun _ => 0, false, fun w => dmNone v w0 w1 h w, fun w hl => decNone v w0 w1 h w, fun h => by cases h⟩
  · refine ⟨fun i => [(n : Int), tkRd (shT n).1 v, tkR1 (shT n).1 v, tkR2 (shT n).1 v, takeF (shT n).1 v].getD i 0, true, fun w => dmYes v w0 w1 n n0 n1 h hh _ rfl w, fun w hl => decX v w0 w1 n n0 n1 h hh _ rfl w, fun _ => ?_⟩
    obtain ⟨f0, f1, _⟩ := sh_bounds (shT_ok n (by omega) (by omega))
    have hr := right_taken (shT (n : Int)).1 (v : Int) f0 f1
    show rightB (n : Int) (tkRd (shT n).1 v) (tkR1 (shT n).1 v) (tkR2 (shT n).1 v) (takeF (shT n).1 v) = true
    unfold rightB
    rw [hr]
    simp
    omega

theorem decRun (s : ByteArray) : ∃ (R : Nat → Int) (ok : Nat → Bool), ∀ k, ModIs (wrd s k) R k (ok k) ∧ DecIs (wrd s k) R k (cdOf (ok k)) ∧ (ok k = true → rightB (R (k * 5)) (R (k * 5 + 1)) (R (k * 5 + 2)) (R (k * 5 + 3)) (R (k * 5 + 4)) = true) := by
  have key : ∀ k, ∃ x : (Nat → Int) × Bool, DecOne (wrd s k) x.1 x.2 := fun k => by
    obtain ⟨q, b, h⟩ := decOne (wrd s k) (wrd_lt s k)
    exact ⟨(q, b), h⟩
  obtain ⟨f, hf⟩ : ∃ f : Nat → (Nat → Int) × Bool, ∀ k, DecOne (wrd s k) (f k).1 (f k).2 := ⟨fun k => Classical.choose (key k), fun k => Classical.choose_spec (key k)⟩
  have e0 : ∀ k, (k * 5) / 5 = k := fun k => by omega
  have e0' : ∀ k, (k * 5) % 5 = 0 := fun k => by omega
  have e1 : ∀ k, (k * 5 + 1) / 5 = k := fun k => by omega
  have e1' : ∀ k, (k * 5 + 1) % 5 = 1 := fun k => by omega
  have e2 : ∀ k, (k * 5 + 2) / 5 = k := fun k => by omega
  have e2' : ∀ k, (k * 5 + 2) % 5 = 2 := fun k => by omega
  have e3 : ∀ k, (k * 5 + 3) / 5 = k := fun k => by omega
  have e3' : ∀ k, (k * 5 + 3) % 5 = 3 := fun k => by omega
  have e4 : ∀ k, (k * 5 + 4) / 5 = k := fun k => by omega
  have e4' : ∀ k, (k * 5 + 4) % 5 = 4 := fun k => by omega
  refine ⟨fun i => (f (i / 5)).1 (i % 5), fun k => (f k).2, fun k => ?_⟩
  have h := hf k
  unfold ModIs DecIs
  simp only [e0, e0', e1, e1', e2, e2', e3, e3', e4, e4']
  exact h

/-- The first word that is none, or the run's length. -/
theorem first_no (ok : Nat → Bool) (N : Nat) : ∃ j, j ≤ N ∧ (∀ k, k < j → ok k = true) ∧ (j < N → ok j = false) := by
  induction N with
  | zero => exact ⟨0, Nat.le_refl _, fun k hk => absurd hk (Nat.not_lt_zero _), fun h => absurd h (Nat.lt_irrefl _)⟩
  | succ N ih =>
    obtain ⟨j, h1, h2, h3⟩ := ih
    by_cases e : j < N
    · exact ⟨j, by omega, h2, fun _ => h3 e⟩
    · obtain rfl : j = N := by omega
      cases hb : ok j with
      | true => exact ⟨j + 1, Nat.le_refl _, fun k hk => by
          rcases Nat.lt_succ_iff_lt_or_eq.1 hk with h | rfl
          · exact h2 k h
          · exact hb, fun h => absurd h (Nat.lt_irrefl _)⟩
      | false => exact ⟨j, by omega, h2, fun _ => hb⟩

/-- A run of N words whose first j are instructions. -/
structure Run (s : ByteArray) (N : Nat) (R : Nat → Int) (j : Nat) : Prop where
  size : s.size = 4 * N
  small : N ≤ 16384
  le : j ≤ N
  yes : ∀ k, k < j → Hid (ModIs (wrd s k) R k true)
  no : j < N → Hid (ModIs (wrd s j) R j false)
  dec : ∃ co : Nat → Int, (∀ k, k < N → Hid (DecIs (wrd s k) R k (co k))) ∧ (∀ k, k < j → co k = 0) ∧ (j < N → co j = 10)
  right : ∀ k, k < j → rightB (R (k * 5)) (R (k * 5 + 1)) (R (k * 5 + 2)) (R (k * 5 + 3)) (R (k * 5 + 4)) = true
theorem run_of (s : ByteArray) (N : Nat) (hs : s.size = 4 * N) (hN : N ≤ 16384) : ∃ R j, Run s N R j := by
  obtain ⟨R, ok, h⟩ := decRun s
  obtain ⟨j, h1, h2, h3⟩ := first_no ok N
  refine ⟨R, j, hs, hN, h1, fun k hk => ?_, fun hk => ?_, ⟨fun k => cdOf (ok k), fun k _ => (h k).2.1, fun k hk => by show cdOf (ok k) = 0; rw [h2 k hk]; rfl, fun hj => by show cdOf (ok j) = 10; rw [h3 hj]; rfl⟩, fun k hk => (h k).2.2 (h2 k hk)⟩
  · have := (h k).1
    rw [h2 k hk] at this
    exact this
  · have := (h j).1
    rw [h3 hk] at this
    exact this

/-- The program's reading of a run. -/
theorem Run.impl {s : ByteArray} {N j : Nat} {R : Nat → Int} (h : Run s N R j) (w : World) (hL : Laid w) :
    Calls Tryz.prog 24 #[.string s] w fun e w' => (∃ p n c x y, e = .returned (.tuple #[.slice p n c, .int .i64 x, .int .i64 y]) ∧ ((j = N ∧ n = N ∧ x = 0 ∧ y = 0) ∨ (j < N ∧ n = 0 ∧ x = j ∧ y = 10)) ∧ OwnL w' w.heap.size p n R) ∧ Below w.heap.size w w' := by
  obtain ⟨co, h1, h2, h3⟩ := h.dec
  exact runC s N h.size h.small R co h1 j h.le h2 h3 w hL

theorem szRun (s : ByteArray) (w : World) (hs : s.size ≤ maxLen) :
    Calls Tryz.prog 34 #[.string s] w fun e w' => e = .returned (.bool (decide (s.size % 4 = 0 ∧ s.size ≤ 256))) ∧ w' = w := by
  unfold maxLen at hs
  by_cases h : s.size % 4 = 0
  · by_cases h1 : s.size ≤ 256
    · have e : decide (s.size % 4 = 0 ∧ s.size ≤ 256) = true := by simp [h, h1]
      rw [e]
      go_enter Tryz.func34, Tryz.ntmps34
      go_wp2
      go_ret
      refine ⟨congrArg (fun x => Ending.returned (.bool x)) ?_, rfl⟩
      first | rfl | (simp; omega)
    · have e : decide (s.size % 4 = 0 ∧ s.size ≤ 256) = false := by simp [h, h1]
      rw [e]
      go_enter Tryz.func34, Tryz.ntmps34
      go_wp2
      go_ret
      refine ⟨congrArg (fun x => Ending.returned (.bool x)) ?_, rfl⟩
      first | rfl | (simp; omega)
  · have e : decide (s.size % 4 = 0 ∧ s.size ≤ 256) = false := by simp [h]
    rw [e]
    go_enter Tryz.func34, Tryz.ntmps34
    go_wp2
    go_ret
    refine ⟨congrArg (fun x => Ending.returned (.bool x)) ?_, rfl⟩
    first | rfl | (simp; omega)

set_option maxRecDepth 100000 in
set_option maxHeartbeats 2000000 in
/-- The model's reading of a run. -/
theorem Run.model {s : ByteArray} {N j : Nat} {R : Nat → Int} (h : Run s N R j) (w : World) :
    Calls Tryz.prog 35 #[.string s] w fun e w' => (∃ p n c x, e = .returned (.tuple #[.slice p n c, .int .i64 x]) ∧ ((j = N ∧ n = N ∧ x = -1) ∨ (j < N ∧ n = 0 ∧ x = j)) ∧ OwnL w' w.heap.size p n R) ∧ Below w.heap.size w w' := by
  obtain ⟨i0, hi, hz0, hz1, hz2⟩ := info_parts Tryz.info_inr
  have hs := h.size
  have hN := h.small
  have hle := h.le
  go_enter Tryz.func35, Tryz.ntmps35
  go_wp2
  go_loopw [4, 5] (fun v i wr => ∃ k : Nat, k ≤ j ∧ i = .int .i64 k ∧ wr.ownsRow w.heap.size 39 5 v k (cellsR R k) ∧ Below w.heap.size w wr) (fun _ i _ => N - (intOf i).toNat)
  case atStart => exact ⟨0, Nat.zero_le _, rfl, World.ownsRow_made w #[] 0 (Nat.le_refl _) (Nat.zero_le _) rfl, (Below.refl _ _).alloc (Nat.le_refl _) _⟩
  case round =>
    obtain ⟨k, hk, rfl, hown, hB⟩ := hrel
    have hv : takeV s (4 * k) 4 = (wrd s k : Nat) := takeV_small s (4 * k) 4 (by omega)
    by_cases hkj : k < j
    · have hkN : k < N := by omega
      have hy := h.yes k hkj
      have hlt : (4 : Int) * k < s.size := by omega
      go_wp2_with (go_at_call 55; refine (specTake0 s (4 * k) 4 _ (by omega) (by omega) (by omega)).mono ?_; rintro e w1 ⟨rfl, rfl⟩; rw [hv])
      refine (hy.out _).mono ?_
      rintro e w2 ⟨rfl, hb2⟩
      have own2 := row_below hown hb2
      have B2 := hB.trans (hb2.mono hB.size)
      have s2 := B2.size
      have hlen := cellsR_len R k
      clear hb2 hown hB hv hy
      go_wp2_with (at_builtin; refine wpList_append_lies _ rfl _ _ 24 rfl w.heap.size 39 i0 _ 5 40 Tryz.underlying24 hi hz0 hz1 hz2 rfl (by omega) _ k _ rfl ((own2.alloc _).alloc _) ⟨w2.heap.size + 1, 0, none⟩ 1 1 [.int .i64 (R (k * 5)), .int .i64 (R (k * 5 + 1)), .int .i64 (R (k * 5 + 2)), .int .i64 (R (k * 5 + 3)), .int .i64 (R (k * 5 + 4))] rfl rfl (World.news_of_block (cs := #[.int .i64 (R (k * 5)), .int .i64 (R (k * 5 + 1)), .int .i64 (R (k * 5 + 2)), .int .i64 (R (k * 5 + 3)), .int .i64 (R (k * 5 + 4))]) (t := 39) (fr := (0, 0)) (by first | exact heap_alloc_new _ _ | (rw [← World.size_alloc w2]; exact heap_alloc_new _ _))) (by simp [Value.oneCell']) (by omega) (by unfold maxLen; omega) (by omega) (by simp; omega) (w2.heap.size + 1 + 1) (by simp) ?_; intro gg cap2 w3 hown3 hg3 hat3 hlt3)
      go_roundw
      case rel => exact ⟨k + 1, by omega, by go_num, by rw [cellsR_succ]; exact hown3, ((B2.alloc s2 _).alloc (by simp; omega) _).grown hg3 (by simp; omega) (fun i e => (own2.lt i e).1)⟩
      case measure => simp [intOf]; omega
    · obtain rfl : k = j := by omega
      by_cases hkN : k < N
      · have hy := h.no hkN
        have hlt : (4 : Int) * k < s.size := by omega
        go_wp2_with (go_at_call 55; refine (specTake0 s (4 * k) 4 _ (by omega) (by omega) (by omega)).mono ?_; rintro e w1 ⟨rfl, rfl⟩; rw [hv])
        refine (hy.out _).mono ?_
        rintro e w2 ⟨rfl, hb2⟩
        have B2 := hB.trans (hb2.mono hB.size)
        have s2 := B2.size
        clear hb2 hown hB hv hy
        go_wp2
        go_ret2
        exact ⟨⟨_, _, _, _, rfl, .inr ⟨hkN, rfl, rfl⟩, .inl rfl⟩, (B2.alloc s2 _).alloc (by simp; omega) _⟩
      · obtain rfl : k = N := by omega
        obtain ⟨p, c, rfl, ho⟩ := ownL_of_row hown
        have hlt : ¬ ((4 : Int) * k < s.size) := by omega
        go_wp2
        go_ret2
        first | exact ⟨⟨_, _, _, _, rfl, .inl ⟨rfl, rfl, rfl⟩, ho⟩, hB⟩ | exact ⟨⟨_, _, _, _, rfl, ⟨rfl, rfl⟩, ho⟩, hB⟩

/-- The code of a run's length. -/
def crC (n few : Nat) : Int := if 65536 < n then 2 else if n % 4 = 0 ∧ 4 * few ≤ n ∧ n ≤ 256 then 0 else 8
theorem ret_boolR {a b : Bool} (h : a = b) : Ending.returned (.bool a) = .returned (.bool b) := by rw [h]
def lenB (n few : Nat) : Bool := decide (n % 4 = 0 ∧ 4 * few ≤ n ∧ n ≤ 256)
theorem lenF (n few : Nat) (w : World) (hn : n ≤ 65536) (hf : few ≤ 5) :
    Calls Tryz.prog 48 #[.int .i64 n, .int .i64 few] w fun e w' => e = .returned (.bool (lenB n few)) ∧ w' = w := by
  have ht : (n : Int).tmod 4 = (n : Int) % 4 := Int.tmod_eq_emod_of_nonneg (by omega)
  by_cases h4 : n % 4 = 0
  · have h4' : (n : Int) % 4 = 0 := by omega
    by_cases h20 : 4 * few ≤ n
    · have h20' : (few : Int) * 4 ≤ (n : Int) := by omega
      by_cases h256 : n ≤ 256
      · rw [show lenB n few = true from by simp [lenB, h4, h20, h256]]
        go_enter Tryz.func48, Tryz.ntmps48
        go_wp2
        go_ret
        exact ⟨ret_boolR (by first | rfl | (simp; done) | (simp; omega) | omega), rfl⟩
      · rw [show lenB n few = false from by simp [lenB]; omega]
        go_enter Tryz.func48, Tryz.ntmps48
        go_wp2
        go_ret
        exact ⟨ret_boolR (by first | rfl | (simp; done) | (simp; omega) | omega), rfl⟩
    · have h20' : ¬ (few : Int) * 4 ≤ (n : Int) := by omega
      rw [show lenB n few = false from by simp [lenB]; omega]
      go_enter Tryz.func48, Tryz.ntmps48
      go_wp2
      go_ret
      exact ⟨ret_boolR (by first | rfl | (simp; done) | (simp; omega) | omega), rfl⟩
  · have h4' : ¬ (n : Int) % 4 = 0 := by omega
    have h4b : ((n : Int) % 4 == 0) = false := by simpa using h4'
    rw [show lenB n few = false from by simp [lenB, h4]]
    go_enter Tryz.func48, Tryz.ntmps48
    go_wp2
    go_ret
    exact ⟨ret_boolR (by first | rfl | (simp; done) | (simp; omega) | omega), rfl⟩
theorem checkRunC (s : ByteArray) (few : Nat) (w : World) (hs : s.size ≤ maxLen) (hf : few ≤ 5) :
    Calls Tryz.prog 23 #[.string s, .int .i64 few] w fun e w' => e = .returned (.int .i64 (crC s.size few)) ∧ w' = w := by
  unfold maxLen at hs
  by_cases h0 : 65536 < s.size
  · have e : crC s.size few = 2 := by unfold crC; rw [if_pos h0]
    rw [e]
    go_enter Tryz.func23, Tryz.ntmps23
    go_wp2
    go_ret
    exact ⟨rfl, rfl⟩
  · have HL : Hid (Calls Tryz.prog 48 #[.int .i64 s.size, .int .i64 few] w fun e w' => e = .returned (.bool (lenB s.size few)) ∧ w' = w) := lenF s.size few w (by omega) hf
    by_cases h : s.size % 4 = 0 ∧ 4 * few ≤ s.size ∧ s.size ≤ 256
    · have e : crC s.size few = 0 := by unfold crC; rw [if_neg h0, if_pos h]
      have eb : lenB s.size few = true := decide_eq_true h
      rw [e]
      rw [eb] at HL
      clear h e eb
      go_enter Tryz.func23, Tryz.ntmps23
      go_wp2_with (go_at_call 48; refine HL.out.mono ?_; rintro e w' ⟨rfl, rfl⟩)
      go_ret
      exact ⟨rfl, rfl⟩
    · have e : crC s.size few = 8 := by unfold crC; rw [if_neg h0, if_neg h]
      have eb : lenB s.size few = false := decide_eq_false h
      rw [e]
      rw [eb] at HL
      clear h e eb
      go_enter Tryz.func23, Tryz.ntmps23
      go_wp2_with (go_at_call 48; refine HL.out.mono ?_; rintro e w' ⟨rfl, rfl⟩)
      go_ret
      exact ⟨rfl, rfl⟩
/-- An answer of a list and two numbers. -/
def ListAns (B n : Nat) (x y : Int) (R : Nat → Int) (w : World) (e : Ending) (w' : World) : Prop := (∃ p c, e = .returned (.tuple #[.slice p n c, .int .i64 x, .int .i64 y]) ∧ OwnL w' B p n R) ∧ Below w.heap.size w w'

theorem instrsImplNo (s : ByteArray) (w : World) (hs : s.size ≤ maxLen) (c : Int) (hc : crC s.size 0 = c) (h0 : c ≠ 0) :
    Calls Tryz.prog 10 #[.string s] w fun e w' => ListAns w.heap.size 0 0 c (fun _ => 0) w e w' := by
  go_enter Tryz.func10, Tryz.ntmps10
  go_wp2_with (go_at_call 23; refine (checkRunC s 0 _ hs (by omega)).mono ?_; rintro e w' ⟨rfl, rfl⟩; rw [hc])
  refine bodyPost_ret (v := .tuple #[.slice none 0 0, .int .i64 0, .int .i64 c]) (by simp [results, Tryz.results10, go_sem]) rfl ⟨⟨none, 0, rfl, .inl rfl⟩, Below.refl _ _⟩
end Go.Proofs.YtiandbhcjecphaaGreatDoor

namespace Go.Proofs.YtiandbhcjecphaaGreatDoor
open Go Go.RowKit
set_option linter.unusedVariables false

def wdT (R : Nat → Int) (i : Nat) : Int := encT (R (i * 5)) (R (i * 5 + 1)) (R (i * 5 + 2)) (R (i * 5 + 3)) (R (i * 5 + 4))
def rtB (R : Nat → Int) (i : Nat) : Bool := rightB (R (i * 5)) (R (i * 5 + 1)) (R (i * 5 + 2)) (R (i * 5 + 3)) (R (i * 5 + 4))
/-- The bytes of the first n words. -/
def wL (R : Nat → Int) (n : Nat) : List UInt8 := (List.range n).flatMap fun i => leL (u64 (wdT R i)) 4
theorem wL_succ (R : Nat → Int) (n : Nat) : wL R (n + 1) = wL R n ++ leL (u64 (wdT R n)) 4 := by simp [wL, List.range_succ]
theorem wL_len (R : Nat → Int) (n : Nat) : (wL R n).length = 4 * n := by
  induction n with
  | zero => rfl
  | succ n ih => rw [wL_succ, List.length_append, ih, leL_len]; omega

theorem specEnc0 (op rd r1 r2 im : Int) (w : World) (hr : rightB op rd r1 r2 im = true) :
    Calls Tryz.prog 93 #[.agg #[.int .i64 op, .int .i64 rd, .int .i64 r1, .int .i64 r2, .int .i64 im]] w fun e w' => e = .returned (.int .i64 (encT op rd r1 r2 im)) ∧ Below w.heap.size w w' := by
  unfold encT
  rw [if_pos hr]
  exact specEncYes op rd r1 r2 im _ _ _ _ w hr rfl

set_option maxHeartbeats 2000000 in
theorem specWords0 (p : Option Addr) (n c : Nat) (R : Nat → Int) (w : World) (hn : n ≤ 64) (hp : ListAt w p n R) (hr : ∀ i, i < n → rtB R i = true) :
    Calls Tryz.prog 57 #[.slice p n c] w fun e w' => e = .returned (.string ⟨(wL R n).toArray⟩) ∧ Below w.heap.size w w' := by
  go_enter Tryz.func57, Tryz.ntmps57
  go_wp2
  go_loopw [3, 4] (fun s i wr => ∃ k : Nat, k ≤ n ∧ i = .int .i64 k ∧ s = .string ⟨(wL R k).toArray⟩ ∧ Below w.heap.size w wr) (fun _ i _ => n - (intOf i).toNat)
  case atStart => exact ⟨0, Nat.zero_le _, rfl, rfl, Below.refl _ _⟩
  case round =>
    obtain ⟨k, hk, rfl, rfl, hB⟩ := hrel
    by_cases hlt : k < n
    · rcases hp with hp | ⟨b, o, rfl, hb, hp⟩
      · omega
      obtain ⟨x0, x1, x2, x3, x4⟩ := (hp.below hB hb).five hlt
      have hrk := hr k hlt
      unfold rtB at hrk
      have HS : Hid (wL R (k + 1) = wL R k ++ leL (u64 (wdT R k)) 4) := wL_succ R k
      clear hp hr
      go_wp2_with fail
      refine (specEnc0 _ _ _ _ _ _ hrk).mono ?_
      rintro e w1 ⟨rfl, hb1⟩
      have B1 := hB.trans (hb1.mono hB.size)
      clear hb1 x0 x1 x2 x3 x4
      go_wp2_with fail
      refine (specLittle0 _ 4 _ (by omega)).mono ?_
      rintro e w2 ⟨rfl, hb2⟩
      have B2 := B1.trans (hb2.mono B1.size)
      have l1 := wL_len R k
      have l2 := fun u => leL_len u 4
      clear hb2 B1
      go_wp2
      go_roundw
      case rel => exact ⟨k + 1, by omega, by go_num, by rw [HS.out, ByteArray.mk_append_mk]; rfl, B2⟩
      case measure => simp [intOf]; omega
    · go_wp2
      obtain rfl : k = n := by omega
      go_ret
      exact ⟨rfl, hB⟩

theorem own_below {W W' : World} {B e size n : Nat} {v : Value} {xs : List Value} (h : W.ownsRow B e size v n xs) (hb : Below W.heap.size W W') : W'.ownsRow B e size v n xs := by
  refine ⟨h.1, ?_⟩
  rcases h.2 with hv | ⟨g, cap, cur, h1, h2, h3, h4⟩
  · exact .inl hv
  · exact .inr ⟨g, cap, cur, h1, h2, (hb.block g (Array.getElem?_eq_some_iff.1 h3).1).trans h3, h4⟩

theorem implWordsMany (p : Option Addr) (n c : Nat) (w : World) (hn : 64 < n) (hN : n ≤ 1048576) :
    Calls Tryz.prog 9 #[.slice p n c] w fun e w' => e = .returned (.tuple #[.string ⟨#[]⟩, .int .i64 (if 4096 < n then 2 else 6)]) ∧ w' = w := by
  by_cases h : 4096 < n
  · rw [if_pos h]
    go_enter Tryz.func9, Tryz.ntmps9
    go_wp2
    go_ret2
    exact ⟨rfl, rfl⟩
  · rw [if_neg h]
    go_enter Tryz.func9, Tryz.ntmps9
    go_wp2
    go_ret2
    exact ⟨rfl, rfl⟩

set_option maxRecDepth 100000 in
set_option maxHeartbeats 2000000 in
theorem implWords (p : Option Addr) (n c : Nat) (R : Nat → Int) (w : World) (hL : Laid w) (hn : n ≤ 64) (hp : ListAt w p n R) (hr : ∀ i, i < n → rtB R i = true) :
    Calls Tryz.prog 9 #[.slice p n c] w fun e w' => e = .returned (.tuple #[.string ⟨(wL R n).toArray⟩, .int .i64 0]) ∧ Below w.heap.size w w' := by
  obtain ⟨i0, hi, hz0, hz1, hz2⟩ := info_parts Tryz.info_u8
  go_enter Tryz.func9, Tryz.ntmps9
  go_wp2_with (at_make; refine wpList_make_own _ rfl _ _ 22 rfl w.heap.size 5 i0 _ 1 Tryz.underlying22 hi hz0 hz1 .i64 .i64 _ (4 * n) rfl rfl (by omega) (by rw [hz2]; omega) (by unfold maxLen; omega) (Nat.le_refl _) ?_; intro wm hm hgm)
  go_loopw [4, 23] (fun v i wr => ∃ k : Nat, k ≤ n ∧ i = .int .i64 k ∧ wr.ownsRow w.heap.size 5 1 v (4 * k) (byteVals (wL R k)) ∧ Below w.heap.size w wr) (fun _ i _ => n - (intOf i).toNat)
  case atStart => exact ⟨0, Nat.zero_le _, rfl, hm, (Below.refl _ _).grown hgm (Nat.le_refl _) (fun _ h => by cases h)⟩
  case round =>
    obtain ⟨k, hk, rfl, hown, hB⟩ := hrel
    by_cases hlt : k < n
    · rcases hp with hp | ⟨b, o, rfl, hb, hp⟩
      · omega
      obtain ⟨x0, x1, x2, x3, x4⟩ := (hp.below hB hb).five hlt
      have hrk := hr k hlt
      unfold rtB at hrk
      have HS : Hid (wL R (k + 1) = wL R k ++ leL (u64 (wdT R k)) 4) := wL_succ R k
      clear hp hr
      have hLr := laid_below hL hB
      go_wp2_with fail
      refine (implEnc _ _ _ _ _ _ (laid_below hLr ((Below.refl _ _).alloc (Nat.le_refl _) _))).mono ?_
      rintro e w1 ⟨rfl, hb1⟩
      have hb1' : Below wr.heap.size wr w1 := ((Below.refl _ _).alloc (Nat.le_refl _) _).trans (hb1.mono (by simp))
      have B1 := hB.trans (hb1'.mono hB.size)
      have own1 := own_below hown hb1'
      have he : encE (R (k * 5)) (R (k * 5 + 1)) (R (k * 5 + 2)) (R (k * 5 + 3)) (R (k * 5 + 4)) = 0 := by unfold encE; rw [if_pos hrk]
      rw [he]
      have hwu := wrap_u32 (wdT R k)
      have hlw : u64 (wdT R k) % 4294967296 < 4294967296 := Nat.mod_lt _ (by omega)
      have hwd : encT (R (k * 5)) (R (k * 5 + 1)) (R (k * 5 + 2)) (R (k * 5 + 3)) (R (k * 5 + 4)) = wdT R k := rfl
      rw [hwd]
      obtain ⟨V, hV⟩ : ∃ V, V = wdT R k := ⟨_, rfl⟩
      obtain ⟨U, hU⟩ : ∃ U, U = u64 (wdT R k) % 4294967296 := ⟨_, rfl⟩
      rw [← hU, ← hV] at hwu
      rw [← hU] at hlw
      have HU : Hid (leL U 4 = leL (u64 (wdT R k)) 4) := by rw [hU]; exact leL_4 _
      rw [← hV]
      clear hb1 hb1' hown x0 x1 x2 x3 x4 he hwd hV hU hLr hrk
      go_wp2_with fail
      refine (spread_u32 U 4 _ (by omega) hlw).mono ?_
      rintro e w2 ⟨rfl, hb2⟩
      have own2 := own_below own1 hb2
      have B2 := B1.trans (hb2.mono B1.size)
      have s2 := B2.size
      clear hb2 own1 B1
      have hls : (ByteArray.mk (leL U 4).toArray).size = 4 := by show (leL U 4).toArray.size = 4; rw [List.size_toArray, leL_len]
      go_wp2_with (at_builtin; refine Go.Lib.wpList_append_own_string _ rfl _ _ 22 9 rfl w.heap.size 5 i0 Tryz.underlying22 Tryz.underlying9 hi hz0 hz1 hz2 _ (4 * k) _ rfl own2 _ rfl (by unfold maxLen; omega) (by omega) s2 ?_; intro v' w3 hown3 hg3 _)
      go_roundw
      case rel =>
        refine ⟨k + 1, by omega, by go_num, ?_, B2.grown hg3 s2 (fun i e => (own2.lt i e).1)⟩
        rw [HS.out, ← HU.out]
        rw [hls] at hown3
        have e : byteVals (wL R k ++ leL U 4) = byteVals (wL R k) ++ Go.Lib.strCells (ByteArray.mk (leL U 4).toArray) := by simp [byteVals, Go.Lib.strCells]
        rw [e, show 4 * (k + 1) = 4 * k + 4 from by omega]
        exact hown3
      case measure => simp [intOf]; omega
    · obtain rfl : k = n := by omega
      have hbuf : Buf wr w.heap.size 5 u4 (wL R k) := by
        unfold Buf
        rw [wL_len]
        exact hown
      have hconv := Buf.string Tryz.underlying22 Tryz.underlying5 Tryz.underlying9 hbuf
      go_wp2
      go_ret2
      exact ⟨rfl, hB⟩

set_option maxRecDepth 100000 in
set_option maxHeartbeats 2000000 in
theorem implWordsBad (p : Option Addr) (n c : Nat) (R : Nat → Int) (w : World) (hL : Laid w) (hn : n ≤ 64) (hp : ListAt w p n R) (j : Nat) (hj : j < n) (hbad : rtB R j = false) (hr : ∀ i, i < j → rtB R i = true) :
    Calls Tryz.prog 9 #[.slice p n c] w fun e w' => e = .returned (.tuple #[.string ⟨#[]⟩, .int .i64 1]) ∧ Below w.heap.size w w' := by
  obtain ⟨i0, hi, hz0, hz1, hz2⟩ := info_parts Tryz.info_u8
  rcases hp with hp | ⟨b, o, rfl, hb, hp⟩
  · omega
  go_enter Tryz.func9, Tryz.ntmps9
  go_wp2_with (at_make; refine wpList_make_own _ rfl _ _ 22 rfl w.heap.size 5 i0 _ 1 Tryz.underlying22 hi hz0 hz1 .i64 .i64 _ (4 * n) rfl rfl (by omega) (by rw [hz2]; omega) (by unfold maxLen; omega) (Nat.le_refl _) ?_; intro wm hm hgm)
  go_loopw [4, 23] (fun v i wr => ∃ k : Nat, k ≤ j ∧ i = .int .i64 k ∧ wr.ownsRow w.heap.size 5 1 v (4 * k) (byteVals (wL R k)) ∧ Below w.heap.size w wr) (fun _ i _ => n - (intOf i).toNat)
  case atStart => exact ⟨0, Nat.zero_le _, rfl, hm, (Below.refl _ _).grown hgm (Nat.le_refl _) (fun _ h => by cases h)⟩
  case round =>
    obtain ⟨k, hk, rfl, hown, hB⟩ := hrel
    have hlt : k < n := by omega
    obtain ⟨x0, x1, x2, x3, x4⟩ := (hp.below hB hb).five hlt
    have hLr := laid_below hL hB
    clear hp
    by_cases hkj : k < j
    · have hrk := hr k hkj
      unfold rtB at hrk
      have HS : Hid (wL R (k + 1) = wL R k ++ leL (u64 (wdT R k)) 4) := wL_succ R k
      clear hr
      go_wp2_with fail
      refine (implEnc _ _ _ _ _ _ (laid_below hLr ((Below.refl _ _).alloc (Nat.le_refl _) _))).mono ?_
      rintro e w1 ⟨rfl, hb1⟩
      have hb1' : Below wr.heap.size wr w1 := ((Below.refl _ _).alloc (Nat.le_refl _) _).trans (hb1.mono (by simp))
      have B1 := hB.trans (hb1'.mono hB.size)
      have own1 := own_below hown hb1'
      have he : encE (R (k * 5)) (R (k * 5 + 1)) (R (k * 5 + 2)) (R (k * 5 + 3)) (R (k * 5 + 4)) = 0 := by unfold encE; rw [if_pos hrk]
      rw [he]
      have hwu := wrap_u32 (wdT R k)
      have hlw : u64 (wdT R k) % 4294967296 < 4294967296 := Nat.mod_lt _ (by omega)
      have hwd : encT (R (k * 5)) (R (k * 5 + 1)) (R (k * 5 + 2)) (R (k * 5 + 3)) (R (k * 5 + 4)) = wdT R k := rfl
      rw [hwd]
      obtain ⟨V, hV⟩ : ∃ V, V = wdT R k := ⟨_, rfl⟩
      obtain ⟨U, hU⟩ : ∃ U, U = u64 (wdT R k) % 4294967296 := ⟨_, rfl⟩
      rw [← hU, ← hV] at hwu
      rw [← hU] at hlw
      have HU : Hid (leL U 4 = leL (u64 (wdT R k)) 4) := by rw [hU]; exact leL_4 _
      rw [← hV]
      clear hb1 hb1' hown x0 x1 x2 x3 x4 he hwd hV hU hLr hrk
      go_wp2_with fail
      refine (spread_u32 U 4 _ (by omega) hlw).mono ?_
      rintro e w2 ⟨rfl, hb2⟩
      have own2 := own_below own1 hb2
      have B2 := B1.trans (hb2.mono B1.size)
      have s2 := B2.size
      clear hb2 own1 B1
      have hls : (ByteArray.mk (leL U 4).toArray).size = 4 := by show (leL U 4).toArray.size = 4; rw [List.size_toArray, leL_len]
      go_wp2_with (at_builtin; refine Go.Lib.wpList_append_own_string _ rfl _ _ 22 9 rfl w.heap.size 5 i0 Tryz.underlying22 Tryz.underlying9 hi hz0 hz1 hz2 _ (4 * k) _ rfl own2 _ rfl (by unfold maxLen; omega) (by omega) s2 ?_; intro v' w3 hown3 hg3 _)
      go_roundw
      case rel =>
        refine ⟨k + 1, by omega, by go_num, ?_, B2.grown hg3 s2 (fun i e => (own2.lt i e).1)⟩
        rw [HS.out, ← HU.out]
        rw [hls] at hown3
        have e : byteVals (wL R k ++ leL U 4) = byteVals (wL R k) ++ Go.Lib.strCells (ByteArray.mk (leL U 4).toArray) := by simp [byteVals, Go.Lib.strCells]
        rw [e, show 4 * (k + 1) = 4 * k + 4 from by omega]
        exact hown3
      case measure => simp [intOf]; omega
    · obtain rfl : k = j := by omega
      unfold rtB at hbad
      clear hr
      go_wp2_with fail
      refine (implEnc _ _ _ _ _ _ (laid_below hLr ((Below.refl _ _).alloc (Nat.le_refl _) _))).mono ?_
      rintro e w1 ⟨rfl, hb1⟩
      have hb1' : Below wr.heap.size wr w1 := ((Below.refl _ _).alloc (Nat.le_refl _) _).trans (hb1.mono (by simp))
      have B1 := hB.trans (hb1'.mono hB.size)
      have he : encE (R (k * 5)) (R (k * 5 + 1)) (R (k * 5 + 2)) (R (k * 5 + 3)) (R (k * 5 + 4)) = 1 := by unfold encE; rw [hbad]; rfl
      rw [he]
      clear hb1 hb1' hown x0 x1 x2 x3 x4 he hLr hbad
      go_wp2
      go_ret2
      exact ⟨rfl, B1⟩

theorem first_bad (R : Nat → Int) (n : Nat) : (∀ i, i < n → rtB R i = true) ∨ ∃ j, j < n ∧ rtB R j = false ∧ ∀ i, i < j → rtB R i = true := by
  induction n with
  | zero => exact .inl (fun i hi => absurd hi (Nat.not_lt_zero _))
  | succ n ih =>
    rcases ih with h | ⟨j, hj, hb, hr⟩
    · cases e : rtB R n with
      | true => exact .inl (fun i hi => by
          rcases Nat.lt_succ_iff_lt_or_eq.1 hi with h' | rfl
          · exact h i h'
          · exact e)
      | false => exact .inr ⟨n, Nat.lt_succ_self _, e, h⟩
    · exact .inr ⟨j, Nat.lt_succ_of_lt hj, hb, hr⟩

end Go.Proofs.YtiandbhcjecphaaGreatDoor

namespace Go.Proofs.YtiandbhcjecphaaGreatDoor
set_option linter.unusedVariables false

theorem leAt_toNat (u i : Nat) : (leAt u i).toNat = u / 256 ^ i % 256 := by
  have h := leAt_nat u i
  rw [pow_256]
  have e : (u : Int) / 2 ^ (8 * i) % 256 = ((u / 2 ^ (8 * i) % 256 : Nat) : Int) := by simp
  rw [e] at h
  omega

theorem valF_leAt (u : Nat) : ∀ n, valF (leAt u) n = u % 256 ^ n
  | 0 => by simp [valF, Nat.mod_one]
  | n + 1 => by
    rw [valF, valF_leAt u n, leAt_toNat, Nat.mod_pow_succ, Nat.mul_comm]

theorem put_size (u n : Nat) : (⟨(leL u n).toArray⟩ : ByteArray).size = n := by
  show (leL u n).toArray.size = n
  simp [leL_len]

theorem leL_get (u n i : Nat) (h : i < n) : (leL u n).getD i 0 = leAt u i := by
  simp [leL, List.getD, h]

theorem bt_put (H X : ByteArray) (u n i : Nat) (h : i < n) : bt (H ++ ⟨(leL u n).toArray⟩ ++ X) (H.size + i) = leAt u i := by
  unfold bt
  have e1 : (H ++ (⟨(leL u n).toArray⟩ : ByteArray) ++ X).data.toList = H.data.toList ++ (leL u n ++ X.data.toList) := by
    simp [ByteArray.data_append]
  have e2 : H.data.toList.length = H.size := by rw [Array.length_toList]; rfl
  rw [e1, ← leL_get u n i h]
  simp only [List.getD, ← e2]
  rw [List.getElem?_append_right (by omega), List.getElem?_append_left (by rw [leL_len]; omega)]
  simp

theorem take_put (H X : ByteArray) (u n : Nat) : takeV (H ++ ⟨(leL u n).toArray⟩ ++ X) H.size n = IntKind.i64.wrap ((u % 256 ^ n : Nat) : Int) := by
  unfold takeV
  rw [valF_congr _ (leAt u) n (fun i hi => bt_put H X u n i hi), valF_leAt]

theorem sgn_wrap (v : Int) (n : Nat) (h : n = 1 ∨ n = 2 ∨ n = 4 ∨ n = 8) : sgn (IntKind.i64.wrap ((u64 v % 256 ^ n : Nat) : Int)) (8 * n) = sgn v (8 * n) := by
  rw [IntKind.wrap_i64]
  unfold sgn u64
  rcases h with rfl | rfl | rfl | rfl <;> simp <;> omega

theorem low_pos (u n : Nat) (h : n = 1 ∨ n = 2 ∨ n = 4) : 0 ≤ IntKind.i64.wrap ((u % 256 ^ n : Nat) : Int) := by
  rw [IntKind.wrap_i64]
  rcases h with rfl | rfl | rfl <;> simp <;> omega

/-- All of it, of one number and one width. -/
structure Back (v : Int) (n : Nat) (H T X : ByteArray) : Prop where
  size : T.size = n
  first : ∀ h : 0 < T.size, T[0].toNat = u64 v % 256
  sign : sgn (takeV (H ++ T ++ X) H.size n) (8 * n) = sgn v (8 * n)
  pos : n = 8 ∨ 0 ≤ takeV (H ++ T ++ X) H.size n

theorem back_put (v : Int) (n : Nat) (H X : ByteArray) (h : n = 1 ∨ n = 2 ∨ n = 4 ∨ n = 8) : Back v n H ⟨(leL (u64 v) n).toArray⟩ X where
  size := put_size _ _
  first := fun hs => by
    rw [bt_eq _ 0 hs]
    have : bt (⟨(leL (u64 v) n).toArray⟩ : ByteArray) 0 = leAt (u64 v) 0 := by
      unfold bt
      simpa using leL_get (u64 v) n 0 (by omega)
    rw [this, leAt_toNat]
    simp
  sign := by rw [take_put]; exact sgn_wrap v n h
  pos := by
    rw [take_put]
    rcases h with h | h | h | h
    · exact .inr (low_pos _ _ (.inl h))
    · exact .inr (low_pos _ _ (.inr (.inl h)))
    · exact .inr (low_pos _ _ (.inr (.inr h)))
    · exact .inl h
end Go.Proofs.YtiandbhcjecphaaGreatDoor

namespace Go.Proofs.YtiandbhcjecphaaGreatDoor.Fu
open Go Go.RowKit
set_option linter.unusedVariables false

theorem oneBack (op rd r1 r2 im : Int) (hr : rightB op rd r1 r2 im = true) : ∃ v : Nat, v < 4294967296 ∧ encT op rd r1 r2 im = (v : Int) ∧
    (∀ w, Calls Tryz.prog 54 #[.int .i64 v] w fun e w' => e = .returned (.tuple #[.agg #[.int .i64 op, .int .i64 rd, .int .i64 r1, .int .i64 r2, .int .i64 im], .bool true]) ∧ Below w.heap.size w w') ∧
    (∀ w, Calls Tryz.prog 73 #[.int .i64 v] w fun e w' => e = .returned (.tuple #[.agg #[.int .i64 op, .int .i64 rd, .int .i64 r1, .int .i64 r2, .int .i64 im], .int .i64 0]) ∧ Below w.heap.size w w') := by
  have hr' := hr
  unfold rightB at hr
  obtain ⟨hop, hf⟩ := Bool.and_eq_true_iff.1 hr
  have hop := of_decide_eq_true hop
  obtain ⟨w0, w1, hh, e1, e2, e3, e4⟩ := back_all _ _ _ _ rd r1 r2 im (shT_ok op hop.1 hop.2) hf
  have he : encT op rd r1 r2 im = encW (shT op).1 (shT op).2.1 (shT op).2.2.1 (shT op).2.2.2 rd r1 r2 im := by unfold encT; rw [if_pos hr']
  rw [he]
  generalize encW (shT op).1 (shT op).2.1 (shT op).2.2.1 (shT op).2.2.2 rd r1 r2 im = W at *
  obtain ⟨v, rfl⟩ := Int.eq_ofNat_of_zero_le w0
  obtain ⟨n, rfl⟩ := Int.eq_ofNat_of_zero_le (show 0 ≤ op by omega)
  have hn : Hid (∀ j : Nat, 1 ≤ j → j < n → ¬ HitP j v) := fun j j0 j1 hj => hit_once j n v j0 j1 (by omega) hj hh
  refine ⟨v, by omega, rfl, fun w => ?_, fun w => ?_⟩
  · have hd := dmYes v w0 w1 n (by omega) (by omega) hn hh _ rfl w
    unfold itV at hd
    rw [e1, e2, e3, e4] at hd
    exact hd
  · have hd := decX v w0 w1 n (by omega) (by omega) hn hh _ rfl w
    unfold itV at hd
    rw [e1, e2, e3, e4] at hd
    exact hd

theorem wL_at (R : Nat → Int) (n k i : Nat) (hk : k < n) (hi : i < 4) : (wL R n).getD (4 * k + i) 0 = leAt (u64 (wdT R k)) i := by
  induction n with
  | zero => omega
  | succ n ih =>
    rw [wL_succ, List.getD_eq_getElem?_getD]
    by_cases h : k < n
    · rw [List.getElem?_append_left (by rw [wL_len]; omega), ← List.getD_eq_getElem?_getD]
      exact ih h
    · obtain rfl : k = n := by omega
      rw [List.getElem?_append_right (by rw [wL_len]; omega), wL_len, Nat.add_sub_cancel_left, ← List.getD_eq_getElem?_getD]
      exact leL_get _ 4 i hi
theorem wrd_wL (R : Nat → Int) (n k v : Nat) (hk : k < n) (hv : v < 4294967296) (he : wdT R k = (v : Int)) : wrd ⟨(wL R n).toArray⟩ k = v := by
  unfold wrd
  have hb : ∀ i, i < 4 → bt ⟨(wL R n).toArray⟩ (4 * k + i) = leAt v i := fun i hi => by
    unfold bt
    show (wL R n).toArray.toList.getD (4 * k + i) 0 = _
    rw [List.toList_toArray, wL_at R n k i hk hi, he]
    congr 1
    unfold u64
    omega
  rw [valF_congr _ (leAt v) 4 hb, valF_leAt]
  exact Nat.mod_eq_of_lt hv
/-- The run. -/
theorem run_text (R : Nat → Int) (n : Nat) (hn : n ≤ 64) (hr : ∀ k, k < n → rtB R k = true) : Run ⟨(wL R n).toArray⟩ n R n := by
  have key : ∀ k, k < n → ModIs (wrd ⟨(wL R n).toArray⟩ k) R k true ∧ DecIs (wrd ⟨(wL R n).toArray⟩ k) R k 0 := fun k hk => by
    obtain ⟨v, hv, he, h1, h2⟩ := oneBack _ _ _ _ _ (hr k hk)
    rw [wrd_wL R n k v hk hv he]
    exact ⟨h1, fun w _ => h2 w⟩
  refine ⟨?_, by omega, Nat.le_refl _, fun k hk => (key k hk).1, fun h => absurd h (Nat.lt_irrefl _), ⟨fun _ => 0, fun k hk => (key k hk).2, fun _ _ => rfl, fun h => absurd h (Nat.lt_irrefl _)⟩, hr⟩
  show (wL R n).toArray.size = 4 * n
  rw [List.size_toArray, wL_len]
end Go.Proofs.YtiandbhcjecphaaGreatDoor.Fu
