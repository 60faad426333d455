/- A range over a function value that keeps its state in one cell of its own: a law for the caller (any program). -/
import Derived.RangeFuncNested
import Derived.RangeFuncCalls
import Derived.RangeFuncLeaves
import Derived.Shelf.Abstract
import Derived.Shelf.RegionOpen
import Derived.WalkKit
import Derived.OwnWalkIn
import Derived.TacticsInMore
import Derived.LoopNIn
import Derived.LoopIn
namespace Go.Proofs.Ytelogjpjglohoaa
open Go Go.RowKit
set_option linter.unusedVariables false
section
variable {F : Fence} {n : Nat} {P : Program}

/-- It stands where block Bc is turned, where blocks are made, and where what is no cells is turned from block B on. -/
def Stands {β : Type} (Bc B : Nat) (I : β → World → Prop) : Prop :=
  ∀ s W W' row, I s W → W.grownBy W' row → (∀ r, row = some r → r = Bc ∨ (B ≤ r ∧ ∃ o : Obj, W.heap[r]? = some o ∧ o.isCells = false)) → I s W'
/-- What a round keeps: what lay below n₀, and the state. -/
def RKeep (n₀ Bc : Nat) (W W' : World) : Prop := Below n₀ W W' ∧ W'.heap[Bc]? = W.heap[Bc]?
theorem RKeep.refl (n₀ Bc : Nat) (W : World) : RKeep n₀ Bc W W := ⟨Below.refl _ _, rfl⟩
theorem RKeep.trans {n₀ Bc : Nat} {X Y Z : World} (h : RKeep n₀ Bc X Y) (k : RKeep n₀ Bc Y Z) : RKeep n₀ Bc X Z := ⟨h.1.trans k.1, k.2.trans h.2⟩
theorem RKeep.turn {n₀ Bc : Nat} {W W' : World} {r : Nat} (hg : W.grownBy W' (some r)) (h0 : n₀ ≤ r) (h1 : Bc ≠ r) (hn : n₀ ≤ W.heap.size) (hb : Bc < W.heap.size) : RKeep n₀ Bc W W' :=
  ⟨(Below.refl n₀ W).grown hg hn (fun k e => by cases e; exact h0), hg.block Bc hb (fun e => h1 (by cases e; rfl))⟩
theorem RKeep.new {n₀ Bc : Nat} {W W' : World} (h : Below W.heap.size W W') (hn : n₀ ≤ W.heap.size) (hb : Bc < W.heap.size) : RKeep n₀ Bc W W' := ⟨h.mono hn, h.block Bc hb⟩
theorem Stands.putObj {β : Type} {Bc B : Nat} {I : β → World → Prop} (h : Stands Bc B I) {s : β} {W : World} {l : Nat} {o : Obj} (o' : Obj) (hs : I s W) (hB : B ≤ l) (hl : W.heap[l]? = some o) (ho : o.isCells = false) : I s (W.putObj l o') :=
  h s W _ (some l) hs (grownBy_putObj' W l o') (fun r e => by cases e; exact .inr ⟨hB, o, hl, ho⟩)
theorem Stands.alloc {β : Type} {Bc B : Nat} {I : β → World → Prop} (h : Stands Bc B I) {s : β} {W : World} (o : Obj) (hs : I s W) : I s (W.alloc o) :=
  h s W _ none hs (World.grownBy_alloc W o none) (fun r e => by cases e)

/-- How the body of round k may be left: it goes on, or it returns. -/
def roundWay (B n₀ Bc : Nat) (I : Nat → World → Prop) (Ix : World → Prop) (k : Nat) (W : World) : Exit → Act → World → Prop
  | .normal, _, W' => KeepsFrom B W W' ∧ RKeep n₀ Bc W W' ∧ I (k + 1) W'
  | .ret, _, W' => KeepsFrom B W W' ∧ Ix W'
  | _, _, _ => False

/-- The function value hands over N elements, one a round, whatever the caller keeps that stands; or as many as a round lets it. -/
def CellSeq (F : Fence) (n : Nat) (P : Program) (g : Nat) (lb : Array Value) (encs : Nat → Array Value) (n₀ Bc N : Nat) (w : World) : Prop :=
  ∀ (l : Nat) (J : Nat → World → Prop) (Jx : World → Prop) (W : World),
    (∀ k A B, J k A → A.grownBy B (some Bc) → J k B) →
    (∀ k W1, k < N → J k W1 → YieldAt F (n - 1) P l (encs k) W1 fun e W' => (e = .returned (.bool true) ∧ J (k + 1) W' ∧ RKeep n₀ Bc W1 W') ∨ (e = .returned (.bool false) ∧ Jx W')) →
    RKeep n₀ Bc w W → J 0 W →
    CallsIn F n P g (#[.func (.yield l) #[] #[]] ++ lb) W fun e W' => (∃ v, e = .returned v) ∧ (J N W' ∨ Jx W')

theorem rangeCell {g : Operand} {ps : Array Tmp} {assign body : Code} {Q : Exit → Act → World → Prop} {a : Act} {w : World}
    (hro : F.round = none) (h1 : 1 ≤ n) {gf : Nat} {lb : Array Value} (hg : a.eval g = .func (.func gf) #[] lb) (hFg : F.fn gf) (eg : ∀ args w, (callFunc gf args).run P w = .ok (.enter gf args) w)
    {encs : Nat → Array Value} {n₀ Bc N : Nat} (hseq : CellSeq F (n - 1) P gf lb encs n₀ Bc N w) (hn₀ : n₀ ≤ w.heap.size) (hBc : Bc < w.heap.size) (hps : ∀ k, (encs k).size = ps.size)
    (I : Nat → World → Prop) (Ix : World → Prop) (hI : Stands Bc w.heap.size I) (hIx : Stands Bc w.heap.size (fun (_ : Unit) => Ix)) (h0 : I 0 w)
    (Ax : Nat → Act → World → Prop) (hAx : ∀ k a', Stands Bc w.heap.size (fun (_ : Unit) W => Ax k a' W))
    (hassign : ∀ (l k : Nat) (W : World) (K : Act → World → Prop), I k W → (∀ a' W', KeepsFrom w.heap.size W W' → RKeep n₀ Bc W W' → I k W' → Ax k a' W' → K a' W') →
      assign.wpIn (F.inRound l) (n - 1 - 1) P (Exit.then K (fun _ _ _ => False)) { tmps := (ps.zip (encs k)).foldl (fun t (p, v) => t.setIfInBounds p v) a.tmps, defers := [] } W)
    (hbody : ∀ (l k : Nat) (a' : Act) (W : World), I k W → Ax k a' W → k < N → body.wpIn (F.inRound l) (n - 1 - 1) P (roundWay w.heap.size n₀ Bc I Ix k W) a' W)
    (hdone : ∀ (D : Nat) (W : World), w.heap.size ≤ D → I N W → W.heap[D]? = some (.deferred (some [])) → Q .normal { a with defers := { target := .collected D, args := #[] } :: a.defers } W)
    (hstop : ∀ (D : Nat) (W : World), w.heap.size ≤ D → Ix W → W.heap[D]? = some (.deferred (some [])) → Code.ret.wpIn F n P Q { a with defers := { target := .collected D, args := #[] } :: a.defers } W) :
    (Code.rangeFunc g ps assign body).wpIn F n P Q a w := by
  refine wpIn_rangeFunc ?_
  intro fn hfn
  rw [hro]
  -- the loop's record (block R) and the block for the rounds' deferred calls (block D)
  obtain ⟨R, hR⟩ : ∃ R : Nat, R = w.heap.size + 1 := ⟨_, rfl⟩
  obtain ⟨mk, hmk⟩ : ∃ mk : LoopState → Option Code → Loop, mk = fun st pe => { state := st, pending := pe, fn, tmps := a.tmps, params := ps, assign, body, defers := w.heap.size } := ⟨_, rfl⟩
  obtain ⟨W1, hW1⟩ : ∃ W1, (w.alloc (.deferred (some []))).alloc (.loop (mk .ready none)) = W1 := ⟨_, rfl⟩
  have hB1 : Below w.heap.size w W1 := by rw [← hW1]; exact ((Below.refl _ w).alloc (Nat.le_refl _) _).alloc (by simp) _
  have hl1 : W1.heap[R]? = some (.loop (mk .ready none)) := by
    rw [← hW1, hR]; have := heap_alloc_new (w.alloc (.deferred (some []))) (.loop (mk .ready none)); rwa [World.size_alloc] at this
  have hd1 : W1.heap[w.heap.size]? = some (.deferred (some [])) := by
    rw [← hW1]; exact (Below.heap_alloc _ _ _ (by simp)).trans (heap_alloc_new w _)
  have hi1 : I 0 W1 := by rw [← hW1]; exact hI.alloc _ (hI.alloc _ h0)
  refine ⟨R, [{ target := .collected w.heap.size, args := #[] }], W1, { target := .fn (.func gf) lb, args := #[.func (.yield R) #[] #[]] }, W1, gf, #[.func (.yield R) #[] #[]] ++ lb, W1, ?_, ?_, ?_, ?_, fun _ => h1, ?_⟩
  · rw [← hW1, hmk, hR]; exact run_enterLoop_outer _ _ _ _ _
  · simp only [resolve, hg]
    simp [go_sem]
  · intro f' hf'; simp [Target.leads] at hf'; subst hf'; exact hFg
  · simp [invoke, go_sem, eg]
  -- what a turn of a block below w's heap leaves of the two
  have book : ∀ {A B : World} {o : Obj} {k : Nat}, A.heap[k]? = some o → w.heap.size ≤ k → A.grownBy B (some Bc) → B.heap[k]? = some o := fun hk hge hgr =>
    (hgr.block _ (Array.getElem?_eq_some_iff.1 hk).1 (fun e => by cases e; omega)).trans hk
  refine (hseq R (fun k W => I k W ∧ W.heap[R]? = some (.loop (mk .ready none)) ∧ W.heap[w.heap.size]? = some (.deferred (some [])))
    (fun W => Ix W ∧ W.heap[R]? = some (.loop (mk .done (some .ret))) ∧ W.heap[w.heap.size]? = some (.deferred (some []))) W1
    (fun k A B ⟨hi, hl, hd⟩ hgr => ⟨hI k A B _ hi hgr (fun r e => by cases e; exact .inl rfl), book hl (by omega) hgr, book hd (Nat.le_refl _) hgr⟩) ?_ (RKeep.new hB1 hn₀ hBc) ⟨hi1, hl1, hd1⟩).mono ?_
  · rintro k W hk ⟨hi, hl, hd⟩
    have hlt : R < W.heap.size := (Array.getElem?_eq_some_iff.1 hl).1
    have hy := run_yield (P := P) (args := encs k) hl (by rw [hmk]; exact hps k)
    rw [hmk] at hy
    refine ⟨fn, _, assign, body, hy, roundIn_of_wpIn hfn (hassign _ k W _ hi ?_)⟩
    clear hy
    intro a' Wa hKa hRa hia hax
    have hla := hKa.same _ _ (by omega) hl rfl
    have hda := hKa.same _ _ (Nat.le_refl _) hd rfl
    have hlta : R < Wa.heap.size := (Array.getElem?_eq_some_iff.1 hla).1
    refine ⟨_, run_beginRound hla (by rw [hmk]), ?_⟩
    obtain ⟨Wb, hWb⟩ : ∃ Wb, Wa.putObj R (.loop { mk .ready none with state := .busy }) = Wb := ⟨_, rfl⟩
    rw [hWb]
    have hRb : RKeep n₀ Bc Wa Wb := by rw [← hWb]; exact RKeep.turn (grownBy_putObj' Wa R _) (by omega) (by omega) (by omega) (by omega)
    have hlb : Wb.heap[R]? = some (.loop { mk .ready none with state := .busy }) := by rw [← hWb]; exact World.putObj_heap_same hlta
    have hdb : Wb.heap[w.heap.size]? = some (.deferred (some [])) := by rw [← hWb]; exact (World.putObj_heap_other (by omega)).trans hda
    have hib : I k Wb := by rw [← hWb]; exact hI.putObj _ hia (by omega) hla rfl
    have hab : Ax k a' Wb := by rw [← hWb]; exact (hAx k a').putObj (s := ()) _ hax (by omega) hla rfl
    refine wpIn_mono (hbody _ k a' Wb hib hab hk) ?_
    -- the round's end, by whatever jump
    have fin : ∀ (jump : Option Code) (W3 : World), KeepsFrom w.heap.size Wb W3 →
        (Instr.endRound R jump).run P W3 = .ok (.bool jump.isNone) (W3.putObj R (.loop (mk (if jump.isNone then .ready else .done) jump))) ∧ W3.heap[R]? = some (.loop { mk .ready none with state := .busy }) ∧
        (W3.putObj R (.loop (mk (if jump.isNone then .ready else .done) jump))).heap[R]? = some (.loop (mk (if jump.isNone then .ready else .done) jump)) ∧
        (W3.putObj R (.loop (mk (if jump.isNone then .ready else .done) jump))).heap[w.heap.size]? = some (.deferred (some [])) := fun jump W3 hk3 => by
      have hl3 := hk3.same _ _ (by omega) hlb rfl
      have hr3 := run_endRound (P := P) jump hl3
      rw [hmk] at hr3 ⊢
      exact ⟨hr3, by rw [hmk] at hl3; exact hl3, World.putObj_heap_same (Array.getElem?_eq_some_iff.1 hl3).1, (World.putObj_heap_other (by omega)).trans (hk3.same _ _ (Nat.le_refl _) hdb rfl)⟩
    rintro e a3 W3 hp
    cases e with
    | normal =>
      obtain ⟨hk3, hr3, hi3⟩ := hp
      obtain ⟨hr, hl3, hl4, hd4⟩ := fin none W3 hk3
      have hs3 : w.heap.size + 1 < W3.heap.size := by have := (Array.getElem?_eq_some_iff.1 hl3).1; omega
      exact ⟨_, _, hr, .inl ⟨rfl, ⟨hI.putObj _ hi3 (by omega) hl3 rfl, hl4, hd4⟩, hRa.trans (hRb.trans (hr3.trans (RKeep.turn (grownBy_putObj' W3 R _) (by omega) (by omega) (by omega) (by omega))))⟩⟩
    | ret =>
      obtain ⟨hk3, hi3⟩ := hp
      obtain ⟨hr, hl3, hl4, hd4⟩ := fin (some .ret) W3 hk3
      exact ⟨_, _, hr, .inr ⟨rfl, hIx.putObj (s := ()) _ hi3 (by omega) hl3 rfl, hl4, hd4⟩⟩
    | exit id => exact hp.elim
    | goto t => exact hp.elim
    | panic ch => exact hp.elim
    | outgrown => exact hp.elim
  · rintro e W2 ⟨⟨v, rfl⟩, (⟨hi, hl, hd⟩ | ⟨hi, hl, hd⟩)⟩
    · exact ⟨none, _, by have := run_endLoop (P := P) hl (by rw [hmk]; simp); rw [hmk] at this; exact this, hdone _ _ (Nat.le_refl _) (hI.putObj _ hi (by omega) hl rfl) ((World.putObj_heap_other (by omega)).trans hd)⟩
    · exact ⟨some .ret, _, by have := run_endLoop (P := P) hl (by rw [hmk]; simp); rw [hmk] at this; exact this, hstop _ _ (Nat.le_refl _) (hIx.putObj (s := ()) _ hi (by omega) hl rfl) ((World.putObj_heap_other (by omega)).trans hd)⟩
end
end Go.Proofs.Ytelogjpjglohoaa
