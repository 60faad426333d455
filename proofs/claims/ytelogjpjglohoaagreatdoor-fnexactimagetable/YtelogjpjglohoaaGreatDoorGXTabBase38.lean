/- A run read: the program's readRun. Lists of ints of the call's own. The program's look at an image's symbols, one by one. -/
import Derived.Test.YtelogjpjglohoaaGreatDoorGXTabBase37
import Derived.Test.YtelogjpjglohoaaGreatDoorGXTabBase0
import Derived.Maps.OwnIn
import Derived.Deep.AppendLies
import Derived.Test.YtelogjpjglohoaaGreatDoorGXTabBase21
import Derived.Maps.AppendAt
import Derived.Test.YtelogjpjglohoaaGreatDoorGXTabBase2
namespace Go.Proofs.YtelogjpjglohoaaGreatDoor
open Go Go.RowKit
set_option linter.unusedVariables false
attribute [local go_sem] Oper.semAt_some
theorem Tryz.info_inr : (Tryz.prog.info? 93).map (fun i => (i.zero, i.size, i.bytes)) = some (some (.agg #[.int .i64 0, .int .i64 0, .int .i64 0, .int .i64 0, .int .i64 0]), 5, 40) := by kernel_rfl

/-- The cells of the first n instructions. -/
def cellsR (R : Nat → Int) (n : Nat) : List Value := (List.range (n * 5)).map fun i => .int .i64 (R i)
theorem cellsR_succ (R : Nat → Int) (n : Nat) : cellsR R (n + 1) = cellsR R n ++ [.int .i64 (R (n * 5)), .int .i64 (R (n * 5 + 1)), .int .i64 (R (n * 5 + 2)), .int .i64 (R (n * 5 + 3)), .int .i64 (R (n * 5 + 4))] := by
  unfold cellsR
  rw [show (n + 1) * 5 = n * 5 + 1 + 1 + 1 + 1 + 1 from by omega, List.range_succ, List.range_succ, List.range_succ, List.range_succ, List.range_succ]
  simp
theorem cellsR_len (R : Nat → Int) (n : Nat) : (cellsR R n).length = n * 5 := by simp [cellsR]

/-- A list of n instructions of the call's own. -/
def OwnL (w : World) (B : Nat) (p : Option Addr) (n : Nat) (R : Nat → Int) : Prop := n = 0 ∨ ∃ g, p = some ⟨g, 0, none⟩ ∧ B ≤ g ∧ g < w.heap.size ∧ Flat w g 0 (n * 5) R
theorem OwnL.list {w : World} {B : Nat} {p : Option Addr} {n : Nat} {R : Nat → Int} (h : OwnL w B p n R) : ListAt w p n R := by
  rcases h with h | ⟨g, h1, h2, h3, h4⟩
  · exact .inl h
  · exact .inr ⟨g, 0, h1, h3, h4.rd⟩
theorem OwnL.below {w w' : World} {B : Nat} {p : Option Addr} {n : Nat} {R : Nat → Int} (h : OwnL w B p n R) (hb : Below w.heap.size w w') : OwnL w' B p n R := by
  rcases h with h | ⟨g, h1, h2, h3, h4⟩
  · exact .inl h
  · exact .inr ⟨g, h1, h2, Nat.lt_of_lt_of_le h3 hb.size, h4.below hb h3⟩
theorem ownL_of_row {w : World} {B e : Nat} {v : Value} {n : Nat} {R : Nat → Int} (h : w.ownsRow B e 5 v n (cellsR R n)) : ∃ p c, v = .slice p n c ∧ OwnL w B p n R := by
  rcases h.2 with ⟨rfl, rfl⟩ | ⟨g, cap, cur, rfl, h1, h2, h3, h4, h5, h6⟩
  · exact ⟨none, 0, rfl, .inl rfl⟩
  · refine ⟨_, cap, rfl, .inr ⟨g, rfl, h1, (Array.getElem?_eq_some_iff.1 h2).1, fun i hi => ?_⟩⟩
    rw [Nat.zero_add, cell_of_row w g i cur e (0, 0) h2]
    refine ⟨?_, frozen_of_row w g i cur e h2⟩
    have h7 : (cur.toList.take (n * 5))[i]? = (cellsR R n)[i]? := by rw [h6]
    rw [List.getElem?_take, if_pos hi, Array.getElem?_toList] at h7
    rw [h7]
    simp [cellsR, hi]

theorem row_below {W W' : World} {B e size n : Nat} {v : Value} {xs : List Value} (h : W.ownsRow B e size v n xs) (hb : Below W.heap.size W W') : W'.ownsRow B e size v n xs := by
  refine ⟨h.1, ?_⟩
  rcases h.2 with hv | ⟨g, cap, cur, h1, h2, h3, h4⟩
  · exact .inl hv
  · exact .inr ⟨g, cap, cur, h1, h2, (hb.block g (Array.getElem?_eq_some_iff.1 h3).1).trans h3, h4⟩

theorem insMk (s : ByteArray) (w : World) :
    Calls Tryz.prog 110 #[.string s] w fun e w' => e = .returned (.func (.func 120) #[] #[.pointer (some ⟨w.heap.size, 0, none⟩)]) ∧ w' = w.alloc (.cells #[.string s] 9) := by
  go_enter Tryz.func110, Tryz.ntmps110
  go_wp2
  go_ret
  exact ⟨rfl, rfl⟩

/-- What the loop keeps between two rounds. (B: the heap's size when the call begins: the answers' boxes B, B + 1, B + 2, the list's box B + 3, the iterator's B + 4.) -/
def RunI (w : World) (R : Nat → Int) (j : Nat) (k : Nat) (W : World) : Prop :=
  k ≤ j ∧ (∃ v, Boxed W (w.heap.size + 1 + 1 + 1) 87 v ∧ W.ownsRow w.heap.size 93 5 v k (cellsR R k) ∧ v.ownBlock ≠ some (w.heap.size + 1 + 1 + 1 + 1)) ∧
    Boxed W w.heap.size 87 (.slice none 0 0) ∧ Boxed W (w.heap.size + 1) 3 (.int .i64 0) ∧ Boxed W (w.heap.size + 1 + 1) 3 (.int .i64 0) ∧ Below w.heap.size w W ∧ w.heap.size + 1 + 1 + 1 + 1 < W.heap.size
def RunX (w : World) (N j : Nat) (W : World) : Prop :=
  j < N ∧ Boxed W w.heap.size 87 (.slice none 0 0) ∧ Boxed W (w.heap.size + 1) 3 (.int .i64 j) ∧ Boxed W (w.heap.size + 1 + 1) 3 (.int .i64 10) ∧ Below w.heap.size w W
theorem boxed_stands {A B : World} {row : Option Nat} {Bc S X t : Nat} {v : Value} (hg : A.grownBy B row) (hrow : ∀ r, row = some r → r = Bc ∨ (S ≤ r ∧ ∃ o : Obj, A.heap[r]? = some o ∧ o.isCells = false)) (h : Boxed A X t v) (hne : X ≠ Bc) (hlt : X < S) : Boxed B X t v :=
  h.kept hg (fun e => by rcases hrow X e.symm with h' | ⟨h', _⟩ <;> omega)
theorem row_stands {A B : World} {row : Option Nat} {Bc S base e size k : Nat} {v : Value} {xs : List Value} (hg : A.grownBy B row) (hrow : ∀ r, row = some r → r = Bc ∨ (S ≤ r ∧ ∃ o : Obj, A.heap[r]? = some o ∧ o.isCells = false)) (h : A.ownsRow base e size v k xs) (hne : v.ownBlock ≠ some Bc) : B.ownsRow base e size v k xs := by
  refine h.kept hg ?_
  rcases h.2 with ⟨rfl, _⟩ | ⟨g, cap, cur, rfl, _, hgb, _⟩
  · exact .inl rfl
  · refine .inr fun e' => ?_
    rcases hrow g (by simpa [Value.ownBlock] using e'.symm) with h' | ⟨_, o, ho, hc⟩
    · exact hne (by simp [Value.ownBlock, h'])
    · rw [hgb] at ho; cases ho; cases hc
theorem runI_stands (w : World) (R : Nat → Int) (j S : Nat) (hS : S = w.heap.size + 1 + 1 + 1 + 1 + 1) : Stands (w.heap.size + 1 + 1 + 1 + 1) S (RunI w R j) := by
  rintro k A B row ⟨h0, ⟨v, hv, hr, hne⟩, h2, h3, h4, hb, hz⟩ hg hrow
  exact ⟨h0, ⟨v, boxed_stands hg hrow hv (by omega) (by omega), row_stands hg hrow hr hne, hne⟩, boxed_stands hg hrow h2 (by omega) (by omega), boxed_stands hg hrow h3 (by omega) (by omega), boxed_stands hg hrow h4 (by omega) (by omega),
    hb.grown hg hb.size (fun r e => by rcases hrow r e with h' | ⟨h', _⟩ <;> omega), Nat.lt_of_lt_of_le hz hg.size⟩
theorem runX_stands (w : World) (N j S : Nat) (hS : S = w.heap.size + 1 + 1 + 1 + 1 + 1) : Stands (w.heap.size + 1 + 1 + 1 + 1) S (fun (_ : Unit) => RunX w N j) := by
  rintro _ A B row ⟨h0, h2, h3, h4, hb⟩ hg hrow
  exact ⟨h0, boxed_stands hg hrow h2 (by omega) (by omega), boxed_stands hg hrow h3 (by omega) (by omega), boxed_stands hg hrow h4 (by omega) (by omega),
    hb.grown hg hb.size (fun r e => by rcases hrow r e with h' | ⟨h', _⟩ <;> omega)⟩

set_option maxRecDepth 100000 in
set_option maxHeartbeats 4000000 in
theorem runC (s : ByteArray) (N : Nat) (hs : s.size = 4 * N) (hN : N ≤ 16384) (R : Nat → Int) (co : Nat → Int) (hd : ∀ k, k < N → Hid (DecIs (wrd s k) R k (co k))) (j : Nat) (hj : j ≤ N) (hgo : ∀ k, k < j → co k = 0) (hst : j < N → co j = 10) (w : World) (hL : Laid w) :
    Calls Tryz.prog 104 #[.string s] w fun e w' => (∃ p n c x y, e = .returned (.tuple #[.slice p n c, .int .i64 x, .int .i64 y]) ∧ ((j = N ∧ n = N ∧ x = 0 ∧ y = 0) ∨ (j < N ∧ n = 0 ∧ x = j ∧ y = 10)) ∧ OwnL w' w.heap.size p n R) ∧ Below w.heap.size w w' := by
  obtain ⟨i0, hi, hz0, hz1, hz2⟩ := info_parts Tryz.info_inr
  refine (callsIn_wide (n := 9)).1 ?_
  refine callsIn_of_wp_marks Tryz.func104 rfl trivial ?_ rfl
  simp only [Tryz.ntmps104, List.size_toArray, List.length_cons, List.length_nil, Nat.reduceAdd, Nat.reduceSub, Array.replicate_succ, Array.replicate_zero, List.push_toArray, List.append_toArray, List.nil_append, List.cons_append]
  gi_wp2
  refine ⟨trivial, (callsIn_wide.2 (insMk _ _)).mono ?_⟩
  rintro e w' ⟨rfl, rfl⟩
  gi_wp2
  have bC := Boxed.new ((((w.alloc (.cells #[.slice none 0 0] 87)).alloc (.cells #[.int .i64 0] 3)).alloc (.cells #[.int .i64 0] 3)).alloc (.cells #[.slice none 0 0] 87)) 9 (.string s)
  have bL := (Boxed.new (((w.alloc (.cells #[.slice none 0 0] 87)).alloc (.cells #[.int .i64 0] 3)).alloc (.cells #[.int .i64 0] 3)) 87 (.slice none 0 0)).alloc (.cells #[.string s] 9)
  have bY := ((Boxed.new ((w.alloc (.cells #[.slice none 0 0] 87)).alloc (.cells #[.int .i64 0] 3)) 3 (.int .i64 0)).alloc (.cells #[.slice none 0 0] 87)).alloc (.cells #[.string s] 9)
  have bX := (((Boxed.new (w.alloc (.cells #[.slice none 0 0] 87)) 3 (.int .i64 0)).alloc (.cells #[.int .i64 0] 3)).alloc (.cells #[.slice none 0 0] 87)).alloc (.cells #[.string s] 9)
  have bA := ((((Boxed.new w 87 (.slice none 0 0)).alloc (.cells #[.int .i64 0] 3)).alloc (.cells #[.int .i64 0] 3)).alloc (.cells #[.slice none 0 0] 87)).alloc (.cells #[.string s] 9)
  simp only [World.size_alloc] at bC bL bY bX
  have hB0 : Below w.heap.size w (((((w.alloc (.cells #[.slice none 0 0] 87)).alloc (.cells #[.int .i64 0] 3)).alloc (.cells #[.int .i64 0] 3)).alloc (.cells #[.slice none 0 0] 87)).alloc (.cells #[.string s] 9)) :=
    (((((Below.refl _ w).alloc (Nat.le_refl _) _).alloc (by simp) _).alloc (by simp; omega) _).alloc (by simp; omega) _).alloc (by simp; omega) _
  have hz : (((((w.alloc (.cells #[.slice none 0 0] 87)).alloc (.cells #[.int .i64 0] 3)).alloc (.cells #[.int .i64 0] 3)).alloc (.cells #[.slice none 0 0] 87)).alloc (.cells #[.string s] 9)).heap.size = w.heap.size + 1 + 1 + 1 + 1 + 1 := by simp
  obtain ⟨W0, hW0⟩ : ∃ W0, (((((w.alloc (.cells #[.slice none 0 0] 87)).alloc (.cells #[.int .i64 0] 3)).alloc (.cells #[.int .i64 0] 3)).alloc (.cells #[.slice none 0 0] 87)).alloc (.cells #[.string s] 9)) = W0 := ⟨_, rfl⟩
  rw [hW0] at bC bL bY bX bA hB0 hz ⊢
  clear hW0
  have hL0 : Laid W0 := laid_below hL hB0
  refine rangeCell rfl (by omega) (gf := 120) (lb := #[.pointer (some ⟨w.heap.size + 1 + 1 + 1 + 1, 0, none⟩)]) rfl trivial (enters_of Tryz.func120 (by kernel_rfl) rfl)
    (insSeq s N hs hN R co hd 8 w.heap.size (w.heap.size + 1 + 1 + 1 + 1) W0 hL0 hB0.size (fun W h => laid_below hL (hB0.trans h)) (by omega) (by omega) bC) hB0.size (by omega) (fun _ => rfl)
    (RunI w R j) (RunX w N j) (runI_stands w R j _ hz) (runX_stands w N j _ hz) ⟨Nat.zero_le _, ⟨_, bL, World.ownsRow_nil _ _ _ _, by simp [Value.ownBlock]⟩, bA, bX, bY, hB0, by omega⟩
    (fun k a' W => ∃ Bx, w.heap.size + 1 + 1 + 1 + 1 < Bx ∧ Lies W Bx 93 #[.int .i64 (R (k * 5)), .int .i64 (R (k * 5 + 1)), .int .i64 (R (k * 5 + 2)), .int .i64 (R (k * 5 + 3)), .int .i64 (R (k * 5 + 4))] ∧ a' = { tmps := #[.string s, undef, .pointer (some ⟨w.heap.size, 0, none⟩), .pointer (some ⟨w.heap.size + 1, 0, none⟩), .pointer (some ⟨w.heap.size + 1 + 1, 0, none⟩), .pointer (some ⟨w.heap.size + 1 + 1 + 1, 0, none⟩), .pointer (some ⟨Bx, 0, none⟩), .int .i64 (co k), .string s, .func (.func 120) #[] #[.pointer (some ⟨w.heap.size + 1 + 1 + 1 + 1, 0, none⟩)], .agg #[.int .i64 (R (k * 5)), .int .i64 (R (k * 5 + 1)), .int .i64 (R (k * 5 + 2)), .int .i64 (R (k * 5 + 3)), .int .i64 (R (k * 5 + 4))], .int .i64 (co k), undef, undef, undef, undef, undef, undef, undef, undef, undef, undef], defers := [] })
    ?ax ?assign ?body ?done ?stop
  case ax =>
    rintro k a' _ A B row ⟨Bx, h1, h2, h3⟩ hg hrow
    refine ⟨Bx, h1, (hg.block Bx h2.lt (fun e => ?_)).trans h2, h3⟩
    rcases hrow Bx e.symm with h' | ⟨_, o, ho, hc⟩
    · omega
    · rw [show A.heap[Bx]? = _ from h2] at ho; cases ho; cases hc
  case assign =>
    rintro l k W K hI hK
    gi_wp2
    obtain ⟨q0, q1, q2, q3, q4, q5, q6⟩ := hI
    have hI2 := (runI_stands w R j _ rfl).alloc (.cells #[.int .i64 (R (k * 5)), .int .i64 (R (k * 5 + 1)), .int .i64 (R (k * 5 + 2)), .int .i64 (R (k * 5 + 3)), .int .i64 (R (k * 5 + 4))] 93) (show RunI w R j k W from ⟨q0, q1, q2, q3, q4, q5, q6⟩)
    exact hK _ _ ((KeepsOthers.alloc _ _).from _) (RKeep.new ((Below.refl _ _).alloc (Nat.le_refl _) _) q5.size q6) hI2 ⟨W.heap.size, q6, Lies.new _ _ _, rfl⟩
  case body =>
    rintro l k a' W ⟨q0, ⟨v, hv, hr, hne⟩, q2, q3, q4, q5, q6⟩ ⟨Bx, hBx, hX, rfl⟩ hk
    have cv := hv.cell
    by_cases hkj : k < j
    · have e0 := hgo k hkj
      rw [e0]
      have x0 := hX.cell (j := 0) rfl
      have x1 := hX.cell (j := 1) rfl
      have x2 := hX.cell (j := 2) rfl
      have x3 := hX.cell (j := 3) rfl
      have x4 := hX.cell (j := 4) rfl
      gi_wp2_with (gi_at_builtin; refine wpListIn_append_own_at _ rfl _ _ 87 rfl w.heap.size 93 i0 _ 5 40 Tryz.underlying87 hi hz0 hz1 hz2 rfl (by decide) v k _ rfl (hr.alloc _) ⟨W.heap.size, 0, none⟩ 1 1 [.int .i64 (R (k * 5)), .int .i64 (R (k * 5 + 1)), .int .i64 (R (k * 5 + 2)), .int .i64 (R (k * 5 + 3)), .int .i64 (R (k * 5 + 4))] rfl rfl (World.news_of_block (cs := #[.int .i64 (R (k * 5)), .int .i64 (R (k * 5 + 1)), .int .i64 (R (k * 5 + 2)), .int .i64 (R (k * 5 + 3)), .int .i64 (R (k * 5 + 4))]) (t := 93) (fr := (0, 0)) (heap_alloc_new W _)) (by simp [Value.oneCell']) (by unfold maxLen; omega) (by omega) (by have := q5.size; simp; omega) ?_; intro v' w1 hown' hgrow _ hat; obtain ⟨g', cap', rfl⟩ := ownsRow_succ hown'; obtain ⟨hv1, hv2, hr2, hk2, hb2⟩ := hv.appended (by decide) hr q5.size (by omega) hown' hgrow; have hc1 := hv1.cell; have hf1 := hv1.frozen)
      obtain ⟨V', hV'⟩ : ∃ V', Value.slice (some ⟨g', 0, none⟩) (k + 1) cap' = V' := ⟨_, rfl⟩
      rw [hV'] at hown' hat hv2 hr2 hk2 hb2 ⊢
      have keep : ∀ X, X < W.heap.size → X ≠ w.heap.size + 1 + 1 + 1 → some X ≠ v.ownBlock → (w1.setCell ⟨w.heap.size + 1 + 1 + 1, 0, none⟩ V').heap[X]? = W.heap[X]? := fun X h1 h2 h3 =>
        (Below.heap_setCell _ _ _ _ h2).trans ((hgrow.block X (by simp; omega) h3).trans (Below.heap_alloc _ _ _ h1))
      have hne' : V'.ownBlock ≠ some (w.heap.size + 1 + 1 + 1 + 1) := by
        intro e
        rcases hat with h | h
        · exact hne (h ▸ e)
        · rw [e] at h
          have := Option.some.inj h
          simp at this
          omega
      have hgs : W.heap.size ≤ w1.heap.size := by have := hgrow.size; simp at this; omega
      refine ⟨hk2.from _, ⟨hb2, keep _ q6 (by omega) hne.symm⟩, by omega, ⟨V', hv2, by rw [cellsR_succ]; exact hr2, hne'⟩, (keep _ q2.lt (by omega) (q2.not_row (by decide) hr)).trans q2, (keep _ q3.lt (by omega) (q3.not_row (by decide) hr)).trans q3, (keep _ q4.lt (by omega) (q4.not_row (by decide) hr)).trans q4, q5.trans hb2, by simp; omega⟩
    · obtain rfl : k = j := by omega
      have e0 := hst hk
      rw [e0]
      obtain ⟨p, c, rfl, ho⟩ := ownL_of_row hr
      have c2 := q2.cell
      have c3 := q3.cell
      have c4 := q4.cell
      have f2 := q2.frozen
      have f3 := q3.frozen
      have f4 := q4.frozen
      have ya := ((q2.set (.slice none 0 0)).other (B' := w.heap.size + 1) (by omega) (.int .i64 (k : Int))).other (B' := w.heap.size + 1 + 1) (by omega) (.int .i64 10)
      have yb := ((q3.other (B' := w.heap.size) (by omega) (.slice none 0 0)).set (.int .i64 (k : Int))).other (B' := w.heap.size + 1 + 1) (by omega) (.int .i64 10)
      have yc := ((q4.other (B' := w.heap.size) (by omega) (.slice none 0 0)).other (B' := w.heap.size + 1) (by omega) (.int .i64 (k : Int))).set (.int .i64 10)
      have yd := ((q5.setCell (p := ⟨w.heap.size, 0, none⟩) (Nat.le_refl _) (.slice none 0 0)).setCell (p := ⟨w.heap.size + 1, 0, none⟩) (by simp) (.int .i64 (k : Int))).setCell (p := ⟨w.heap.size + 1 + 1, 0, none⟩) (by simp; omega) (.int .i64 10)
      have ye := ((KeepsOthers.setCell W ⟨w.heap.size, 0, none⟩ (.slice none 0 0)).trans (KeepsOthers.setCell _ ⟨w.heap.size + 1, 0, none⟩ (.int .i64 (k : Int)))).trans (KeepsOthers.setCell _ ⟨w.heap.size + 1 + 1, 0, none⟩ (.int .i64 10))
      gi_wp2
      gi_region
      all_goals gi_wp2
      all_goals (try go_bits)
      all_goals exact ⟨(ye.trans (KeepsOthers.drew _)).from _, hk, ya, yb, yc, yd.drew⟩
  case done =>
    rintro D W hD ⟨q0, ⟨v, hv, hr, hne⟩, q2, q3, q4, q5, q6⟩ hDq
    obtain rfl : N = j := by omega
    obtain ⟨p, c, rfl, ho⟩ := ownL_of_row hr
    have cv := hv.cell
    have c2 := q2.cell
    have c3 := q3.cell
    have c4 := q4.cell
    have f2 := q2.frozen
    have f3 := q3.frozen
    have f4 := q4.frozen
    have n2 := q2.not_row (by decide) hr
    have n3 := q3.not_row (by decide) hr
    have n4 := q4.not_row (by decide) hr
    have ya := ((q2.set (.slice p N c)).other (B' := w.heap.size + 1) (by omega) (.int .i64 0)).other (B' := w.heap.size + 1 + 1) (by omega) (.int .i64 0)
    have yb := ((q3.other (B' := w.heap.size) (by omega) (.slice p N c)).set (.int .i64 0)).other (B' := w.heap.size + 1 + 1) (by omega) (.int .i64 0)
    have yc := ((q4.other (B' := w.heap.size) (by omega) (.slice p N c)).other (B' := w.heap.size + 1) (by omega) (.int .i64 0)).set (.int .i64 0)
    have yd := ((q5.setCell (p := ⟨w.heap.size, 0, none⟩) (Nat.le_refl _) (.slice p N c)).setCell (p := ⟨w.heap.size + 1, 0, none⟩) (by simp) (.int .i64 0)).setCell (p := ⟨w.heap.size + 1 + 1, 0, none⟩) (by simp; omega) (.int .i64 0)
    have ye := ((KeepsOthers.setCell W ⟨w.heap.size, 0, none⟩ (.slice p N c)).trans (KeepsOthers.setCell _ ⟨w.heap.size + 1, 0, none⟩ (.int .i64 0))).trans (KeepsOthers.setCell _ ⟨w.heap.size + 1 + 1, 0, none⟩ (.int .i64 0))
    have yr := ((hr.kept (grownBy_setCell' W w.heap.size (.slice p N c)) (.inr n2.symm)).kept (grownBy_setCell' _ (w.heap.size + 1) (.int .i64 0)) (.inr n3.symm)).kept (grownBy_setCell' _ (w.heap.size + 1 + 1) (.int .i64 0)) (.inr n4.symm)
    have yq := ye.same D _ hDq rfl
    gi_wp2
    obtain ⟨V, hV⟩ : ∃ V, (((W.setCell ⟨w.heap.size, 0, none⟩ (.slice p N c)).setCell ⟨w.heap.size + 1, 0, none⟩ (.int .i64 0)).setCell ⟨w.heap.size + 1 + 1, 0, none⟩ (.int .i64 0)) = V := ⟨_, rfl⟩
    rw [hV] at ya yb yc yd yr yq ⊢
    have za := (ya.kept (grownBy_putObj' V D (.deferred none)) (by intro e; have := Option.some.inj e; omega)).cell
    have zb := (yb.kept (grownBy_putObj' V D (.deferred none)) (by intro e; have := Option.some.inj e; omega)).cell
    have zc := (yc.kept (grownBy_putObj' V D (.deferred none)) (by intro e; have := Option.some.inj e; omega)).cell
    obtain ⟨p', c', e', ho'⟩ := ownL_of_row (ownsRow_putObj yr (.deferred none) yq rfl)
    cases e'
    refine ⟨by simp, .inl ⟨_, _, rfl, run_takeDeferred yq, ?_⟩⟩
    refine ⟨.tuple #[.slice p N c, .int .i64 0, .int .i64 0], by simp [results, Tryz.results104, go_sem, za, zb, zc], ⟨p, N, c, 0, 0, rfl, by simp, ho'⟩, yd.trans (belowK_b (w := w) (Nat.le_refl _) V D _ _ (by omega) yq rfl rfl)⟩
  case stop =>
    rintro D W hD ⟨q0, q2, q3, q4, q5⟩ hDq
    have za := (q2.kept (grownBy_putObj' W D (.deferred none)) (by intro e; have := Option.some.inj e; omega)).cell
    have zb := (q3.kept (grownBy_putObj' W D (.deferred none)) (by intro e; have := Option.some.inj e; omega)).cell
    have zc := (q4.kept (grownBy_putObj' W D (.deferred none)) (by intro e; have := Option.some.inj e; omega)).cell
    gi_wp2
    refine ⟨by simp, .inl ⟨_, _, rfl, run_takeDeferred hDq, ?_⟩⟩
    refine ⟨.tuple #[.slice none 0 0, .int .i64 j, .int .i64 10], by simp [results, Tryz.results104, go_sem, za, zb, zc], ⟨none, 0, 0, j, 10, rfl, .inr ⟨q0, rfl, rfl, rfl⟩, .inl rfl⟩, q5.trans (belowK_b (w := w) (Nat.le_refl _) W D _ _ (by omega) hDq rfl rfl)⟩
end Go.Proofs.YtelogjpjglohoaaGreatDoor

namespace Go.Proofs.YtelogjpjglohoaaGreatDoor
open Go Go.RowKit
set_option linter.unusedVariables false

/-- A list of n ints of the call's own. -/
def OwnI (w : World) (B : Nat) (p : Option Addr) (n : Nat) (R : Nat → Int) : Prop := n = 0 ∨ ∃ g, p = some ⟨g, 0, none⟩ ∧ B ≤ g ∧ g < w.heap.size ∧ Flat w g 0 n R
theorem OwnI.below {w w' : World} {B : Nat} {p : Option Addr} {n : Nat} {R : Nat → Int} (h : OwnI w B p n R) (hb : Below w.heap.size w w') : OwnI w' B p n R := by
  rcases h with h | ⟨g, h1, h2, h3, h4⟩
  · exact .inl h
  · exact .inr ⟨g, h1, h2, Nat.lt_of_lt_of_le h3 hb.size, h4.below hb h3⟩
theorem OwnI.row {w : World} {B : Nat} {p : Option Addr} {n : Nat} {R : Nat → Int} (h : OwnI w B p n R) : RowAt w p n R := by
  rcases h with h | ⟨g, h1, h2, h3, h4⟩
  · exact .inl h
  · exact .inr ⟨g, 0, h1, h3, h4.rd⟩
theorem ownI_of_row {w : World} {B e : Nat} {v : Value} {zs : List Int} (h : w.ownsRow B e 1 v zs.length (zs.map (Value.int .i64))) : ∃ p c, v = .slice p zs.length c ∧ zs.length ≤ c ∧ OwnI w B p zs.length (fun i => zs.getD i 0) := by
  rcases h.2 with ⟨rfl, h0⟩ | ⟨g, cap, cur, rfl, h1, h2, h3, h4, h5, h6⟩
  · exact ⟨none, 0, by rw [h0], by omega, .inl h0⟩
  · refine ⟨_, cap, rfl, h3, .inr ⟨g, rfl, h1, (Array.getElem?_eq_some_iff.1 h2).1, fun i hi => ?_⟩⟩
    rw [Nat.zero_add, cell_of_row w g i cur e (0, 0) h2]
    refine ⟨?_, frozen_of_row w g i cur e h2⟩
    have h7 : (cur.toList.take (zs.length * 1))[i]? = (zs.map (Value.int .i64))[i]? := by rw [h6]
    rw [List.getElem?_take, if_pos (by omega), Array.getElem?_toList] at h7
    rw [h7]
    simp [hi]
end Go.Proofs.YtelogjpjglohoaaGreatDoor

namespace Go.Proofs.YtelogjpjglohoaaGreatDoor
open Go Go.RowKit
set_option linter.unusedVariables false

/-- Where a symbol stands in memory. -/
theorem placeImpl (nm : ByteArray) (kd pl sz fr : Int) (w : World) (h0 : 0 ≤ pl) (h1 : pl ≤ 1048576) :
    Calls Tryz.prog 26 #[.agg #[.string nm, .int .i64 kd, .int .i64 pl, .int .i64 sz, .int .i64 fr]] w fun e w' => e = .returned (.int .i64 (if kd = 1 then 4096 + pl else 16384 + pl)) ∧ Below w.heap.size w w' := by
  by_cases h : kd = 1
  · rw [if_pos h]
    subst h
    go_enter Tryz.func26, Tryz.ntmps26
    go_wp2
    go_ret
    exact ⟨rfl, grown1' _ _⟩
  · rw [if_neg h]
    have hb : (kd == 1) = false := by simpa using h
    go_enter Tryz.func26, Tryz.ntmps26
    go_wp2
    go_ret
    exact ⟨rfl, grown1' _ _⟩

/-- The first symbol of a name, or -1. -/
inductive FstNm (n : Nat) (S : Nat → SymD) (nm : ByteArray) : Int → Prop
  | yes (k : Nat) (hk : k < n) (h : ∀ j, j < k → ((S j).nm.toList == nm.toList) = false) (he : ((S k).nm.toList == nm.toList) = true) : FstNm n S nm k
  | no (h : ∀ j, j < n → ((S j).nm.toList == nm.toList) = false) : FstNm n S nm (-1)
theorem fstNm_ex (n : Nat) (S : Nat → SymD) (nm : ByteArray) : ∃ r, FstNm n S nm r := by
  rcases first_ofP (fun j => ((S j).nm.toList == nm.toList) = false) n with h | ⟨k, h1, h2, h3⟩
  · exact ⟨_, .no h⟩
  · exact ⟨_, .yes k h1 h2 (by cases e : ((S k).nm.toList == nm.toList) <;> simp_all)⟩
theorem FstNm.at {n : Nat} {S : Nat → SymD} {nm : ByteArray} {r : Int} (h : FstNm n S nm r) {k : Nat} (hk : k < n) (h0 : ∀ j, j < k → ((S j).nm.toList == nm.toList) = false) (he : ((S k).nm.toList == nm.toList) = true) : r = ((k : Nat) : Int) := by
  cases h with
  | yes j hj a b =>
    by_cases h1 : j < k
    · rw [h0 j h1] at b; cases b
    · by_cases h2 : k < j
      · have := a k h2; rw [he] at this; cases this
      · obtain rfl : j = k := by omega
        rfl
  | no a => have := a k hk; rw [he] at this; cases this
theorem FstNm.end {n : Nat} {S : Nat → SymD} {nm : ByteArray} {r : Int} (h : FstNm n S nm r) (h0 : ∀ j, j < n → ((S j).nm.toList == nm.toList) = false) : r = -1 := by
  cases h with
  | yes j hj a b => rw [h0 j hj] at b; cases b
  | no => rfl
theorem FstNm.clash {n : Nat} {S : Nat → SymD} {r : Int} (h : FstNm n S (S n).nm r) : (clashB S n = true ∧ 0 ≤ r) ∨ (clashB S n = false ∧ r = -1) := by
  cases h with
  | yes j hj a b => exact .inl ⟨clashB_iff.2 ⟨j, hj, b⟩, by omega⟩
  | no a => exact .inr ⟨clashB_no a, rfl⟩

/-- The closure that holds a symbol's name against one. -/
theorem nameEq (s nm : ByteArray) (a b c d : Int) (x : Nat) (w : World) (hx : w.cell? ⟨x, 0, none⟩ = some (.string nm)) (hlt : x < w.heap.size) :
    Calls Tryz.prog 102 #[.agg #[.string s, .int .i64 a, .int .i64 b, .int .i64 c, .int .i64 d], .pointer (some ⟨x, 0, none⟩)] w fun e w' => e = .returned (.bool (s.toList == nm.toList)) ∧ Below w.heap.size w w' := by
  have bA := grown1' w (.cells #[.string s, .int .i64 a, .int .i64 b, .int .i64 c, .int .i64 d] 49)
  have hy := (bA.cell (p := ⟨x, 0, none⟩) hlt).trans hx
  have hne : x ≠ w.heap.size := by omega
  clear hx
  go_enter Tryz.func102, Tryz.ntmps102
  go_wp2
  go_ret
  exact ⟨rfl, bA⟩

set_option maxHeartbeats 2000000 in
theorem indexFn (p : Option Addr) (n kk : Nat) (S : Nat → SymD) (nm : ByteArray) (x : Nat) (w : World) (hn : n ≤ 1048576) (hx : w.cell? ⟨x, 0, none⟩ = some (.string nm)) (hlt : x < w.heap.size) (hp : SymsAt w p n S) (r : Int) (hr : FstNm n S nm r) :
    Calls Tryz.prog 101 #[.slice p n kk, .func (.func 102) #[] #[.pointer (some ⟨x, 0, none⟩)]] w fun e w' => e = .returned (.int .i64 r) ∧ Below w.heap.size w w' := by
  go_enter Tryz.func101, Tryz.ntmps101
  go_wp2_with fail
  go_loopw [8] (fun i wr => ∃ k : Nat, k ≤ n ∧ i = .int .i64 k ∧ (∀ j, j < k → ((S j).nm.toList == nm.toList) = false) ∧ Below w.heap.size w wr) (fun i _ => n - (intOf i).toNat)
  case atStart => exact ⟨0, Nat.zero_le _, rfl, fun j hj => absurd hj (Nat.not_lt_zero _), Below.refl _ _⟩
  case round =>
    obtain ⟨k, hk, rfl, hno, hB⟩ := hrel
    by_cases hltk : k < n
    · rcases hp with hp | ⟨b, o, rfl, hb, hp⟩
      · omega
      obtain ⟨x0, x1, x2, x3, x4⟩ := (hp.below hB hb).sym hltk
      have hxw := (hB.cell (p := ⟨x, 0, none⟩) hlt).trans hx
      have hlw := Nat.lt_of_lt_of_le hlt hB.size
      have hat := fun he => hr.at hltk hno he
      obtain ⟨s0, e0⟩ : ∃ s, (S k).nm = s := ⟨_, rfl⟩
      obtain ⟨kd, e1⟩ : ∃ s, (S k).kd = s := ⟨_, rfl⟩
      obtain ⟨pl, e2⟩ : ∃ s, (S k).pl = s := ⟨_, rfl⟩
      obtain ⟨sz, e3⟩ : ∃ s, (S k).sz = s := ⟨_, rfl⟩
      obtain ⟨fr, e4⟩ : ∃ s, (S k).fr = s := ⟨_, rfl⟩
      rw [e0] at x0 hat
      rw [e1] at x1
      rw [e2] at x2
      rw [e3] at x3
      rw [e4] at x4
      have E0 : Hid (_ = s0) := e0
      have HNO : Hid (∀ j, j < k → ((S j).nm.toList == nm.toList) = false) := hno
      have hsz := hB.size
      have HB : Hid (Below w.heap.size w wr) := hB
      clear e0 e1 e2 e3 e4 hp hno hB hx
      go_wp2_with fail
      refine (nameEq s0 nm kd pl sz fr x _ hxw hlw).mono ?_
      rintro e w2 ⟨rfl, hb2⟩
      have B2 := HB.out.trans (hb2.mono hsz)
      clear hb2 x0 x1 x2 x3 x4 hxw hlw
      by_cases he : (s0.toList == nm.toList) = true
      · obtain rfl := hat he
        rw [he]
        go_wp2_with fail
        go_ret
        exact ⟨rfl, B2⟩
      · have he' : (s0.toList == nm.toList) = false := by cases e : (s0.toList == nm.toList) <;> simp_all
        rw [he']
        clear he hat
        go_wp2_with fail
        go_roundw
        case rel => exact ⟨k + 1, by omega, by go_num, fun j hj => by
          rcases Nat.lt_succ_iff_lt_or_eq.1 hj with h' | rfl
          · exact HNO.out j h'
          · rw [E0.out]; exact he', B2⟩
        case measure => simp [intOf]; omega
    · obtain rfl : k = n := by omega
      obtain rfl := hr.end hno
      clear hno hr hp
      go_wp2_with fail
      go_ret
      exact ⟨rfl, hB⟩

theorem named (p : Option Addr) (n kk : Nat) (S : Nat → SymD) (nm : ByteArray) (w : World) (hn : n ≤ 1048576) (hp : SymsAt w p n S) (r : Int) (hr : FstNm n S nm r) :
    Calls Tryz.prog 84 #[.slice p n kk, .string nm] w fun e w' => e = .returned (.int .i64 r) ∧ Below w.heap.size w w' := by
  have bA := grown1' w (.cells #[.string nm] 9)
  have hx : (w.alloc (.cells #[.string nm] 9)).cell? ⟨w.heap.size, 0, none⟩ = some (.string nm) := by simp
  have hp1 := hp.below bA
  have ix := indexFn p n kk S nm w.heap.size _ hn hx (by simp) hp1 r hr
  clear hp hp1 hx
  go_enter Tryz.func84, Tryz.ntmps84
  go_wp2_with fail
  refine ix.mono ?_
  rintro e w2 ⟨rfl, hb2⟩
  have B2 := bA.trans (hb2.mono bA.size)
  clear hb2
  go_wp2_with fail
  go_ret
  exact ⟨rfl, B2⟩
end Go.Proofs.YtelogjpjglohoaaGreatDoor
