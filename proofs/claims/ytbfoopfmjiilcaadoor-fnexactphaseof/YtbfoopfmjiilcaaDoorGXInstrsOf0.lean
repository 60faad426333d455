/- A range over a function value that keeps its state in one cell of its own: a law for the caller (any program). Which word is an instruction of which shape: plain. The bits of a word that are alike in all instructions of one Op: contracts. Which word is an instruction of which shape: plain (2). Which word is an instruction of which shape: plain (3). Which word is an instruction of which shape: plain (4). An instruction taken apart: words. A struct of five numbers in memory. What the taking apart leans on. An instruction taken apart, told fields 'di': the contract. An instruction taken apart, told fields 'd1i': the contract. An instruction taken apart, told fields '12i': the contract. -/
import Derived.RangeFuncNested
import Derived.RangeFuncCalls
import Derived.RangeFuncLeaves
import Derived.Shelf.Abstract
import Derived.Shelf.RegionOpen
import Derived.WalkKit
import Derived.OwnWalkIn
import Derived.TacticsInMore
import Derived.LoopNIn
import Derived.LoopIn
import Derived.Test.YtbfoopfmjiilcaaDoorGXWordsOf0
import Derived.Test.YtbfoopfmjiilcaaDoorGXWordsOf12
import Derived.Test.YtbfoopfmjiilcaaDoorGXWordsOf25
import Derived.Test.YtbfoopfmjiilcaaDoorGXWordsOf27
import Derived.Test.YtbfoopfmjiilcaaDoorGXWordsOf35
import Derived.Test.YtbfoopfmjiilcaaDoorGXWordsOf22
import Derived.Deep.RegionHeld3
import Derived.LoopTactic
namespace Go.Proofs.YtbfoopfmjiilcaaDoor
open Go Go.RowKit
set_option linter.unusedVariables false
section
variable {F : Fence} {n : Nat} {P : Program}

/-- It stands where block Bc is turned, where blocks are made, and where what is no cells is turned from block B on. -/
def Stands {β : Type} (Bc B : Nat) (I : β → World → Prop) : Prop :=
  ∀ s W W' row, I s W → W.grownBy W' row → (∀ r, row = some r → r = Bc ∨ (B ≤ r ∧ ∃ o : Obj, W.heap[r]? = some o ∧ o.isCells = false)) → I s W'
/-- What a round keeps: what lay below n₀, and the state. -/
def RKeep (n₀ Bc : Nat) (W W' : World) : Prop := Below n₀ W W' ∧ W'.heap[Bc]? = W.heap[Bc]?
theorem RKeep.refl (n₀ Bc : Nat) (W : World) : RKeep n₀ Bc W W := ⟨Below.refl _ _, rfl⟩
theorem RKeep.trans {n₀ Bc : Nat} {X Y Z : World} (h : RKeep n₀ Bc X Y) (k : RKeep n₀ Bc Y Z) : RKeep n₀ Bc X Z := ⟨h.1.trans k.1, k.2.trans h.2⟩
theorem RKeep.turn {n₀ Bc : Nat} {W W' : World} {r : Nat} (hg : W.grownBy W' (some r)) (h0 : n₀ ≤ r) (h1 : Bc ≠ r) (hn : n₀ ≤ W.heap.size) (hb : Bc < W.heap.size) : RKeep n₀ Bc W W' :=
  ⟨(Below.refl n₀ W).grown hg hn (fun k e => by cases e; exact h0), hg.block Bc hb (fun e => h1 (by cases e; rfl))⟩
theorem RKeep.new {n₀ Bc : Nat} {W W' : World} (h : Below W.heap.size W W') (hn : n₀ ≤ W.heap.size) (hb : Bc < W.heap.size) : RKeep n₀ Bc W W' := ⟨h.mono hn, h.block Bc hb⟩
theorem Stands.putObj {β : Type} {Bc B : Nat} {I : β → World → Prop} (h : Stands Bc B I) {s : β} {W : World} {l : Nat} {o : Obj} (o' : Obj) (hs : I s W) (hB : B ≤ l) (hl : W.heap[l]? = some o) (ho : o.isCells = false) : I s (W.putObj l o') :=
  h s W _ (some l) hs (grownBy_putObj' W l o') (fun r e => by cases e; exact .inr ⟨hB, o, hl, ho⟩)
theorem Stands.alloc {β : Type} {Bc B : Nat} {I : β → World → Prop} (h : Stands Bc B I) {s : β} {W : World} (o : Obj) (hs : I s W) : I s (W.alloc o) :=
  h s W _ none hs (World.grownBy_alloc W o none) (fun r e => by cases e)

/-- How the body of round k may be left: it goes on, or it returns. -/
def roundWay (B n₀ Bc : Nat) (I : Nat → World → Prop) (Ix : World → Prop) (k : Nat) (W : World) : Exit → Act → World → Prop
  | .normal, _, W' => KeepsFrom B W W' ∧ RKeep n₀ Bc W W' ∧ I (k + 1) W'
  | .ret, _, W' => KeepsFrom B W W' ∧ Ix W'
  | _, _, _ => False

/-- The function value hands over N elements, one a round, whatever the caller keeps that stands; or as many as a round lets it. -/
def CellSeq (F : Fence) (n : Nat) (P : Program) (g : Nat) (lb : Array Value) (encs : Nat → Array Value) (n₀ Bc N : Nat) (w : World) : Prop :=
  ∀ (l : Nat) (J : Nat → World → Prop) (Jx : World → Prop) (W : World),
    (∀ k A B, J k A → A.grownBy B (some Bc) → J k B) →
    (∀ k W1, k < N → J k W1 → YieldAt F (n - 1) P l (encs k) W1 fun e W' => (e = .returned (.bool true) ∧ J (k + 1) W' ∧ RKeep n₀ Bc W1 W') ∨ (e = .returned (.bool false) ∧ Jx W')) →
    RKeep n₀ Bc w W → J 0 W →
    CallsIn F n P g (#[.func (.yield l) #[] #[]] ++ lb) W fun e W' => (∃ v, e = .returned v) ∧ (J N W' ∨ Jx W')

theorem rangeCell {g : Operand} {ps : Array Tmp} {assign body : Code} {Q : Exit → Act → World → Prop} {a : Act} {w : World}
    (hro : F.round = none) (h1 : 1 ≤ n) {gf : Nat} {lb : Array Value} (hg : a.eval g = .func (.func gf) #[] lb) (hFg : F.fn gf) (eg : ∀ args w, (callFunc gf args).run P w = .ok (.enter gf args) w)
    {encs : Nat → Array Value} {n₀ Bc N : Nat} (hseq : CellSeq F (n - 1) P gf lb encs n₀ Bc N w) (hn₀ : n₀ ≤ w.heap.size) (hBc : Bc < w.heap.size) (hps : ∀ k, (encs k).size = ps.size)
    (I : Nat → World → Prop) (Ix : World → Prop) (hI : Stands Bc w.heap.size I) (hIx : Stands Bc w.heap.size (fun (_ : Unit) => Ix)) (h0 : I 0 w)
    (Ax : Nat → Act → World → Prop) (hAx : ∀ k a', Stands Bc w.heap.size (fun (_ : Unit) W => Ax k a' W))
    (hassign : ∀ (l k : Nat) (W : World) (K : Act → World → Prop), I k W → (∀ a' W', KeepsFrom w.heap.size W W' → RKeep n₀ Bc W W' → I k W' → Ax k a' W' → K a' W') →
      assign.wpIn (F.inRound l) (n - 1 - 1) P (Exit.then K (fun _ _ _ => False)) { tmps := (ps.zip (encs k)).foldl (fun t (p, v) => t.setIfInBounds p v) a.tmps, defers := [] } W)
    (hbody : ∀ (l k : Nat) (a' : Act) (W : World), I k W → Ax k a' W → k < N → body.wpIn (F.inRound l) (n - 1 - 1) P (roundWay w.heap.size n₀ Bc I Ix k W) a' W)
    (hdone : ∀ (D : Nat) (W : World), w.heap.size ≤ D → I N W → W.heap[D]? = some (.deferred (some [])) → Q .normal { a with defers := { target := .collected D, args := #[] } :: a.defers } W)
    (hstop : ∀ (D : Nat) (W : World), w.heap.size ≤ D → Ix W → W.heap[D]? = some (.deferred (some [])) → Code.ret.wpIn F n P Q { a with defers := { target := .collected D, args := #[] } :: a.defers } W) :
    (Code.rangeFunc g ps assign body).wpIn F n P Q a w := by
  refine wpIn_rangeFunc ?_
  intro fn hfn
  rw [hro]
  -- the loop's record (block R) and the block for the rounds' deferred calls (block D)
  obtain ⟨R, hR⟩ : ∃ R : Nat, R = w.heap.size + 1 := ⟨_, rfl⟩
  obtain ⟨mk, hmk⟩ : ∃ mk : LoopState → Option Code → Loop, mk = fun st pe => { state := st, pending := pe, fn, tmps := a.tmps, params := ps, assign, body, defers := w.heap.size } := ⟨_, rfl⟩
  obtain ⟨W1, hW1⟩ : ∃ W1, (w.alloc (.deferred (some []))).alloc (.loop (mk .ready none)) = W1 := ⟨_, rfl⟩
  have hB1 : Below w.heap.size w W1 := by rw [← hW1]; exact ((Below.refl _ w).alloc (Nat.le_refl _) _).alloc (by simp) _
  have hl1 : W1.heap[R]? = some (.loop (mk .ready none)) := by
    rw [← hW1, hR]; have := heap_alloc_new (w.alloc (.deferred (some []))) (.loop (mk .ready none)); rwa [World.size_alloc] at this
  have hd1 : W1.heap[w.heap.size]? = some (.deferred (some [])) := by
    rw [← hW1]; exact (Below.heap_alloc _ _ _ (by simp)).trans (heap_alloc_new w _)
  have hi1 : I 0 W1 := by rw [← hW1]; exact hI.alloc _ (hI.alloc _ h0)
  refine ⟨R, [{ target := .collected w.heap.size, args := #[] }], W1, { target := .fn (.func gf) lb, args := #[.func (.yield R) #[] #[]] }, W1, gf, #[.func (.yield R) #[] #[]] ++ lb, W1, ?_, ?_, ?_, ?_, fun _ => h1, ?_⟩
  · rw [← hW1, hmk, hR]; exact run_enterLoop_outer _ _ _ _ _
  · simp only [resolve, hg]
    simp [go_sem]
  · intro f' hf'; simp [Target.leads] at hf'; subst hf'; exact hFg
  · simp [invoke, go_sem, eg]
  -- what a turn of a block below w's heap leaves of the two
  have book : ∀ {A B : World} {o : Obj} {k : Nat}, A.heap[k]? = some o → w.heap.size ≤ k → A.grownBy B (some Bc) → B.heap[k]? = some o := fun hk hge hgr =>
    (hgr.block _ (Array.getElem?_eq_some_iff.1 hk).1 (fun e => by cases e; omega)).trans hk
  refine (hseq R (fun k W => I k W ∧ W.heap[R]? = some (.loop (mk .ready none)) ∧ W.heap[w.heap.size]? = some (.deferred (some [])))
    (fun W => Ix W ∧ W.heap[R]? = some (.loop (mk .done (some .ret))) ∧ W.heap[w.heap.size]? = some (.deferred (some []))) W1
    (fun k A B ⟨hi, hl, hd⟩ hgr => ⟨hI k A B _ hi hgr (fun r e => by cases e; exact .inl rfl), book hl (by omega) hgr, book hd (Nat.le_refl _) hgr⟩) ?_ (RKeep.new hB1 hn₀ hBc) ⟨hi1, hl1, hd1⟩).mono ?_
  · rintro k W hk ⟨hi, hl, hd⟩
    have hlt : R < W.heap.size := (Array.getElem?_eq_some_iff.1 hl).1
    have hy := run_yield (P := P) (args := encs k) hl (by rw [hmk]; exact hps k)
    rw [hmk] at hy
    refine ⟨fn, _, assign, body, hy, roundIn_of_wpIn hfn (hassign _ k W _ hi ?_)⟩
    clear hy
    intro a' Wa hKa hRa hia hax
    have hla := hKa.same _ _ (by omega) hl rfl
    have hda := hKa.same _ _ (Nat.le_refl _) hd rfl
    have hlta : R < Wa.heap.size := (Array.getElem?_eq_some_iff.1 hla).1
    refine ⟨_, run_beginRound hla (by rw [hmk]), ?_⟩
    obtain ⟨Wb, hWb⟩ : ∃ Wb, Wa.putObj R (.loop { mk .ready none with state := .busy }) = Wb := ⟨_, rfl⟩
    rw [hWb]
    have hRb : RKeep n₀ Bc Wa Wb := by rw [← hWb]; exact RKeep.turn (grownBy_putObj' Wa R _) (by omega) (by omega) (by omega) (by omega)
    have hlb : Wb.heap[R]? = some (.loop { mk .ready none with state := .busy }) := by rw [← hWb]; exact World.putObj_heap_same hlta
    have hdb : Wb.heap[w.heap.size]? = some (.deferred (some [])) := by rw [← hWb]; exact (World.putObj_heap_other (by omega)).trans hda
    have hib : I k Wb := by rw [← hWb]; exact hI.putObj _ hia (by omega) hla rfl
    have hab : Ax k a' Wb := by rw [← hWb]; exact (hAx k a').putObj (s := ()) _ hax (by omega) hla rfl
    refine wpIn_mono (hbody _ k a' Wb hib hab hk) ?_
    -- the round's end, by whatever jump
    have fin : ∀ (jump : Option Code) (W3 : World), KeepsFrom w.heap.size Wb W3 →
        (Instr.endRound R jump).run P W3 = .ok (.bool jump.isNone) (W3.putObj R (.loop (mk (if jump.isNone then .ready else .done) jump))) ∧ W3.heap[R]? = some (.loop { mk .ready none with state := .busy }) ∧
        (W3.putObj R (.loop (mk (if jump.isNone then .ready else .done) jump))).heap[R]? = some (.loop (mk (if jump.isNone then .ready else .done) jump)) ∧
        (W3.putObj R (.loop (mk (if jump.isNone then .ready else .done) jump))).heap[w.heap.size]? = some (.deferred (some [])) := fun jump W3 hk3 => by
      have hl3 := hk3.same _ _ (by omega) hlb rfl
      have hr3 := run_endRound (P := P) jump hl3
      rw [hmk] at hr3 ⊢
      exact ⟨hr3, by rw [hmk] at hl3; exact hl3, World.putObj_heap_same (Array.getElem?_eq_some_iff.1 hl3).1, (World.putObj_heap_other (by omega)).trans (hk3.same _ _ (Nat.le_refl _) hdb rfl)⟩
    rintro e a3 W3 hp
    cases e with
    | normal =>
      obtain ⟨hk3, hr3, hi3⟩ := hp
      obtain ⟨hr, hl3, hl4, hd4⟩ := fin none W3 hk3
      have hs3 : w.heap.size + 1 < W3.heap.size := by have := (Array.getElem?_eq_some_iff.1 hl3).1; omega
      exact ⟨_, _, hr, .inl ⟨rfl, ⟨hI.putObj _ hi3 (by omega) hl3 rfl, hl4, hd4⟩, hRa.trans (hRb.trans (hr3.trans (RKeep.turn (grownBy_putObj' W3 R _) (by omega) (by omega) (by omega) (by omega))))⟩⟩
    | ret =>
      obtain ⟨hk3, hi3⟩ := hp
      obtain ⟨hr, hl3, hl4, hd4⟩ := fin (some .ret) W3 hk3
      exact ⟨_, _, hr, .inr ⟨rfl, hIx.putObj (s := ()) _ hi3 (by omega) hl3 rfl, hl4, hd4⟩⟩
    | exit id => exact hp.elim
    | goto t => exact hp.elim
    | panic ch => exact hp.elim
    | outgrown => exact hp.elim
  · rintro e W2 ⟨⟨v, rfl⟩, (⟨hi, hl, hd⟩ | ⟨hi, hl, hd⟩)⟩
    · exact ⟨none, _, by have := run_endLoop (P := P) hl (by rw [hmk]; simp); rw [hmk] at this; exact this, hdone _ _ (Nat.le_refl _) (hI.putObj _ hi (by omega) hl rfl) ((World.putObj_heap_other (by omega)).trans hd)⟩
    · exact ⟨some .ret, _, by have := run_endLoop (P := P) hl (by rw [hmk]; simp); rw [hmk] at this; exact this, hstop _ _ (Nat.le_refl _) (hIx.putObj (s := ()) _ hi (by omega) hl rfl) ((World.putObj_heap_other (by omega)).trans hd)⟩
end
end Go.Proofs.YtbfoopfmjiilcaaDoor

namespace Go.Proofs.YtbfoopfmjiilcaaDoor

theorem and_at (w n k : Nat) : w &&& ((2 ^ n - 1) * 2 ^ k) = w / 2 ^ k % 2 ^ n * 2 ^ k := by
  apply Nat.eq_of_testBit_eq
  intro i
  rw [Nat.testBit_and, ← Nat.shiftLeft_eq, ← Nat.shiftLeft_eq, Nat.testBit_shiftLeft, Nat.testBit_shiftLeft, Nat.testBit_two_pow_sub_one, Nat.testBit_mod_two_pow, ← Nat.shiftRight_eq_div_pow, Nat.testBit_shiftRight]
  by_cases h : k ≤ i
  · have e : k + (i - k) = i := by omega
    rw [e]
    simp [h, Bool.and_comm]
  · simp [h]
theorem and_split (w a b : Nat) (h : a ||| b = a + b) : w &&& (a + b) = (w &&& a) ||| (w &&& b) := by
  rw [← h, Nat.and_or_distrib_left]
theorem i64_and_nat (a b : Nat) (ha : a < 4294967296) (hb : b < 4294967296) : bits .and .i64 (a : Int) (b : Int) = ((a &&& b : Nat) : Int) := by
  have hx : a &&& b < 2 ^ 32 := Nat.and_lt_two_pow _ (by omega)
  show IntKind.i64.wrap ((BitVec.ofInt 64 (a : Int) &&& BitVec.ofInt 64 (b : Int)).toNat : Int) = _
  rw [BitVec.toNat_and, ofInt_u64 a (by omega), ofInt_u64 b (by omega), IntWalk.i64_in _ (by omega)]

/-- The word's bits that are fixed in a form. -/
theorem and_127 (w : Nat) (_h : w < 4294967296) : bits .and .i64 (w : Int) 127 = ((w % 128 : Nat) : Int) := by
  have := i64_and_mask (w : Int) 7 (by decide)
  have e : bits .and .i64 (w : Int) 127 = (w : Int) % 128 := this
  rw [e]
  omega
theorem and_28799 (w : Nat) (h : w < 4294967296) : bits .and .i64 (w : Int) 28799 = ((w % 128 + w / 4096 % 8 * 4096 : Nat) : Int) := by
  have e := i64_and_nat w 28799 h (by decide)
  have e2 : w &&& 28799 = w % 128 + w / 4096 % 8 * 4096 := by
    rw [show 28799 = 127 + 7 * 4096 by decide, and_split w 127 (7 * 4096) (by decide)]
    have a1 : w &&& 127 = w % 128 := Nat.and_two_pow_sub_one_eq_mod w 7
    have a2 : w &&& (7 * 4096) = w / 4096 % 8 * 4096 := and_at w 3 12
    rw [a1, a2, or_gap 12 3 (w % 128) (w / 4096 % 8 * 4096) (by omega) (by omega) (by omega)]
  rw [e2] at e
  exact e
theorem and_4227887231 (w : Nat) (h : w < 4294967296) : bits .and .i64 (w : Int) 4227887231 = ((w % 128 + w / 4096 % 8 * 4096 + w / 67108864 * 67108864 : Nat) : Int) := by
  have e := i64_and_nat w 4227887231 h (by decide)
  have e2 : w &&& 4227887231 = w % 128 + w / 4096 % 8 * 4096 + w / 67108864 * 67108864 := by
    rw [show 4227887231 = 127 + 7 * 4096 + 63 * 67108864 by decide, and_split w (127 + 7 * 4096) (63 * 67108864) (by decide), and_split w 127 (7 * 4096) (by decide)]
    have a1 : w &&& 127 = w % 128 := Nat.and_two_pow_sub_one_eq_mod w 7
    have a2 : w &&& (7 * 4096) = w / 4096 % 8 * 4096 := and_at w 3 12
    have a3 : w &&& (63 * 67108864) = w / 67108864 % 64 * 67108864 := and_at w 6 26
    have a4 : w / 67108864 % 64 = w / 67108864 := by omega
    rw [a1, a2, a3, a4, or_gap 12 3 (w % 128) (w / 4096 % 8 * 4096) (by omega) (by omega) (by omega)]
    have p : w % 128 + w / 4096 % 8 * 4096 < 67108864 := by omega
    have q : w / 67108864 < 64 := by omega
    generalize w % 128 + w / 4096 % 8 * 4096 = x at *
    generalize w / 67108864 = y at *
    rw [or_gap 26 6 x (y * 67108864) (by omega) (by omega) (by omega)]
  rw [e2] at e
  exact e
theorem and_4261441663 (w : Nat) (h : w < 4294967296) : bits .and .i64 (w : Int) 4261441663 = ((w % 128 + w / 4096 % 8 * 4096 + w / 33554432 * 33554432 : Nat) : Int) := by
  have e := i64_and_nat w 4261441663 h (by decide)
  have e2 : w &&& 4261441663 = w % 128 + w / 4096 % 8 * 4096 + w / 33554432 * 33554432 := by
    rw [show 4261441663 = 127 + 7 * 4096 + 127 * 33554432 by decide, and_split w (127 + 7 * 4096) (127 * 33554432) (by decide), and_split w 127 (7 * 4096) (by decide)]
    have a1 : w &&& 127 = w % 128 := Nat.and_two_pow_sub_one_eq_mod w 7
    have a2 : w &&& (7 * 4096) = w / 4096 % 8 * 4096 := and_at w 3 12
    have a3 : w &&& (127 * 33554432) = w / 33554432 % 128 * 33554432 := and_at w 7 25
    have a4 : w / 33554432 % 128 = w / 33554432 := by omega
    rw [a1, a2, a3, a4, or_gap 12 3 (w % 128) (w / 4096 % 8 * 4096) (by omega) (by omega) (by omega)]
    have p : w % 128 + w / 4096 % 8 * 4096 < 33554432 := by omega
    have q : w / 33554432 < 128 := by omega
    generalize w % 128 + w / 4096 % 8 * 4096 = x at *
    generalize w / 33554432 = y at *
    rw [or_gap 25 7 x (y * 33554432) (by omega) (by omega) (by omega)]
  rw [e2] at e
  exact e
theorem and_all (w : Nat) (h : w < 4294967296) : bits .and .i64 (w : Int) 4294967295 = (w : Int) := by
  have := i64_and_mask (w : Int) 32 (by decide)
  have e : bits .and .i64 (w : Int) 4294967295 = (w : Int) % 4294967296 := this
  rw [e]
  omega

/-- Is a word of a shape? -/
def hitI (f c g h w : Int) : Prop :=
  if f = 1 ∨ f = 2 then w % 128 = c
  else if f = 3 ∨ f = 4 ∨ f = 5 then w % 128 = c ∧ w / 4096 % 8 = g
  else if f = 6 then w % 128 = c ∧ w / 4096 % 8 = g ∧ w / 67108864 = h / 2
  else if f = 7 ∨ f = 8 then w % 128 = c ∧ w / 4096 % 8 = g ∧ w / 33554432 = h
  else w = c + g * 4096 + h * 1048576
end Go.Proofs.YtbfoopfmjiilcaaDoor

namespace Go.Proofs.YtbfoopfmjiilcaaDoor
open Go.RowKit
set_option linter.unusedVariables false

theorem low3 (w : World) : Calls Tryd.prog 85 #[.int .i64 3] w fun e w' => e = .returned (.int .i64 7) ∧ w' = w := by
  go_enter Tryd.func85, Tryd.ntmps85
  go_wp2
  go_ret
  exact ⟨rfl, rfl⟩
theorem low32 (w : World) : Calls Tryd.prog 85 #[.int .i64 32] w fun e w' => e = .returned (.int .i64 4294967295) ∧ w' = w := by
  go_enter Tryd.func85, Tryd.ntmps85
  go_wp2
  go_ret
  exact ⟨rfl, rfl⟩
/-- The fixed bits of a form. -/
def fixB (f : Int) : Int := if f = 1 then 127 else if f = 2 then 127 else if f = 3 then 28799 else if f = 4 then 28799 else if f = 5 then 28799 else if f = 6 then 4227887231 else if f = 7 then 4261441663 else if f = 8 then 4261441663 else 4294967295
set_option maxRecDepth 100000 in
theorem fixB1 (w : World) : Calls Tryd.prog 113 #[.int .i64 1] w fun e w' => e = .returned (.int .i64 127) ∧ w' = w := by
  go_enter Tryd.func113, Tryd.ntmps113
  go_wp2_with (go_at_call 85; first | (refine (low7 _).mono ?_; rintro e w1 ⟨rfl, rfl⟩) | (refine (low3 _).mono ?_; rintro e w1 ⟨rfl, rfl⟩) | (refine (low6 _).mono ?_; rintro e w1 ⟨rfl, rfl⟩) | (refine (low32 _).mono ?_; rintro e w1 ⟨rfl, rfl⟩))
  go_ret
  exact ⟨rfl, rfl⟩
set_option maxRecDepth 100000 in
theorem fixB2 (w : World) : Calls Tryd.prog 113 #[.int .i64 2] w fun e w' => e = .returned (.int .i64 127) ∧ w' = w := by
  go_enter Tryd.func113, Tryd.ntmps113
  go_wp2_with (go_at_call 85; first | (refine (low7 _).mono ?_; rintro e w1 ⟨rfl, rfl⟩) | (refine (low3 _).mono ?_; rintro e w1 ⟨rfl, rfl⟩) | (refine (low6 _).mono ?_; rintro e w1 ⟨rfl, rfl⟩) | (refine (low32 _).mono ?_; rintro e w1 ⟨rfl, rfl⟩))
  go_ret
  exact ⟨rfl, rfl⟩
set_option maxRecDepth 100000 in
theorem fixB3 (w : World) : Calls Tryd.prog 113 #[.int .i64 3] w fun e w' => e = .returned (.int .i64 28799) ∧ w' = w := by
  go_enter Tryd.func113, Tryd.ntmps113
  go_wp2_with (go_at_call 85; first | (refine (low7 _).mono ?_; rintro e w1 ⟨rfl, rfl⟩) | (refine (low3 _).mono ?_; rintro e w1 ⟨rfl, rfl⟩) | (refine (low6 _).mono ?_; rintro e w1 ⟨rfl, rfl⟩) | (refine (low32 _).mono ?_; rintro e w1 ⟨rfl, rfl⟩))
  go_ret
  exact ⟨rfl, rfl⟩
set_option maxRecDepth 100000 in
theorem fixB4 (w : World) : Calls Tryd.prog 113 #[.int .i64 4] w fun e w' => e = .returned (.int .i64 28799) ∧ w' = w := by
  go_enter Tryd.func113, Tryd.ntmps113
  go_wp2_with (go_at_call 85; first | (refine (low7 _).mono ?_; rintro e w1 ⟨rfl, rfl⟩) | (refine (low3 _).mono ?_; rintro e w1 ⟨rfl, rfl⟩) | (refine (low6 _).mono ?_; rintro e w1 ⟨rfl, rfl⟩) | (refine (low32 _).mono ?_; rintro e w1 ⟨rfl, rfl⟩))
  go_ret
  exact ⟨rfl, rfl⟩
set_option maxRecDepth 100000 in
theorem fixB5 (w : World) : Calls Tryd.prog 113 #[.int .i64 5] w fun e w' => e = .returned (.int .i64 28799) ∧ w' = w := by
  go_enter Tryd.func113, Tryd.ntmps113
  go_wp2_with (go_at_call 85; first | (refine (low7 _).mono ?_; rintro e w1 ⟨rfl, rfl⟩) | (refine (low3 _).mono ?_; rintro e w1 ⟨rfl, rfl⟩) | (refine (low6 _).mono ?_; rintro e w1 ⟨rfl, rfl⟩) | (refine (low32 _).mono ?_; rintro e w1 ⟨rfl, rfl⟩))
  go_ret
  exact ⟨rfl, rfl⟩
set_option maxRecDepth 100000 in
theorem fixB6 (w : World) : Calls Tryd.prog 113 #[.int .i64 6] w fun e w' => e = .returned (.int .i64 4227887231) ∧ w' = w := by
  go_enter Tryd.func113, Tryd.ntmps113
  go_wp2_with (go_at_call 85; first | (refine (low7 _).mono ?_; rintro e w1 ⟨rfl, rfl⟩) | (refine (low3 _).mono ?_; rintro e w1 ⟨rfl, rfl⟩) | (refine (low6 _).mono ?_; rintro e w1 ⟨rfl, rfl⟩) | (refine (low32 _).mono ?_; rintro e w1 ⟨rfl, rfl⟩))
  go_ret
  exact ⟨rfl, rfl⟩
set_option maxRecDepth 100000 in
theorem fixB7 (w : World) : Calls Tryd.prog 113 #[.int .i64 7] w fun e w' => e = .returned (.int .i64 4261441663) ∧ w' = w := by
  go_enter Tryd.func113, Tryd.ntmps113
  go_wp2_with (go_at_call 85; first | (refine (low7 _).mono ?_; rintro e w1 ⟨rfl, rfl⟩) | (refine (low3 _).mono ?_; rintro e w1 ⟨rfl, rfl⟩) | (refine (low6 _).mono ?_; rintro e w1 ⟨rfl, rfl⟩) | (refine (low32 _).mono ?_; rintro e w1 ⟨rfl, rfl⟩))
  go_ret
  exact ⟨rfl, rfl⟩
set_option maxRecDepth 100000 in
theorem fixB8 (w : World) : Calls Tryd.prog 113 #[.int .i64 8] w fun e w' => e = .returned (.int .i64 4261441663) ∧ w' = w := by
  go_enter Tryd.func113, Tryd.ntmps113
  go_wp2_with (go_at_call 85; first | (refine (low7 _).mono ?_; rintro e w1 ⟨rfl, rfl⟩) | (refine (low3 _).mono ?_; rintro e w1 ⟨rfl, rfl⟩) | (refine (low6 _).mono ?_; rintro e w1 ⟨rfl, rfl⟩) | (refine (low32 _).mono ?_; rintro e w1 ⟨rfl, rfl⟩))
  go_ret
  exact ⟨rfl, rfl⟩
set_option maxRecDepth 100000 in
theorem fixB9 (w : World) : Calls Tryd.prog 113 #[.int .i64 9] w fun e w' => e = .returned (.int .i64 4294967295) ∧ w' = w := by
  go_enter Tryd.func113, Tryd.ntmps113
  go_wp2_with (go_at_call 85; first | (refine (low7 _).mono ?_; rintro e w1 ⟨rfl, rfl⟩) | (refine (low3 _).mono ?_; rintro e w1 ⟨rfl, rfl⟩) | (refine (low6 _).mono ?_; rintro e w1 ⟨rfl, rfl⟩) | (refine (low32 _).mono ?_; rintro e w1 ⟨rfl, rfl⟩))
  go_ret
  exact ⟨rfl, rfl⟩
theorem fixBC (f : Int) (h0 : 1 ≤ f) (h1 : f ≤ 9) (w : World) : Calls Tryd.prog 113 #[.int .i64 f] w fun e w' => e = .returned (.int .i64 (fixB f)) ∧ w' = w := by
  rcases (show f = 1 ∨ f = 2 ∨ f = 3 ∨ f = 4 ∨ f = 5 ∨ f = 6 ∨ f = 7 ∨ f = 8 ∨ f = 9 by omega) with rfl | rfl | rfl | rfl | rfl | rfl | rfl | rfl | rfl
  · exact fixB1 w
  · exact fixB2 w
  · exact fixB3 w
  · exact fixB4 w
  · exact fixB5 w
  · exact fixB6 w
  · exact fixB7 w
  · exact fixB8 w
  · exact fixB9 w
end Go.Proofs.YtbfoopfmjiilcaaDoor

namespace Go.Proofs.YtbfoopfmjiilcaaDoor
set_option linter.unusedVariables false

/-- What a word's fields are, if it is of a form. -/
def tkRd (f w : Int) : Int := if f = 4 ∨ f = 5 ∨ f = 9 then 0 else w / 128 % 32
def tkR1 (f w : Int) : Int := if f = 1 ∨ f = 2 ∨ f = 9 then 0 else w / 32768 % 32
def tkR2 (f w : Int) : Int := if f = 4 ∨ f = 5 ∨ f = 8 then w / 1048576 % 32 else 0

theorem regB_mod (x : Int) : regB (x % 32) = true := by
  unfold regB
  exact decide_eq_true (by omega)

theorem right_taken (f w : Int) (h0 : 1 ≤ f) (h1 : f ≤ 9) : rightF f (tkRd f w) (tkR1 f w) (tkR2 f w) (takeF f w) = true := by
  have hk : okB f (takeF f w) = true := by
    apply okB_t (by omega) (by omega)
    rcases (show f = 1 ∨ f = 2 ∨ f = 3 ∨ f = 4 ∨ f = 5 ∨ f = 6 ∨ f = 7 ∨ f = 8 ∨ f = 9 by omega) with rfl | rfl | rfl | rfl | rfl | rfl | rfl | rfl | rfl
    · show -2147483648 ≤ sgn (w / 4096 % 1048576 * 4096) 32 ∧ sgn (w / 4096 % 1048576 * 4096) 32 ≤ 2147479552 ∧ sgn (w / 4096 % 1048576 * 4096) 32 % 4096 = 0
      rw [sgn_num _ 32 2147483648 4294967296 (by decide) (by decide)]
      omega
    · show -1048576 ≤ sgn (w / 4096 % 256 * 4096 + w / 1048576 % 2 * 2048 + w / 2097152 % 1024 * 2 + w / 2147483648 % 2 * 1048576) 21 ∧ sgn (w / 4096 % 256 * 4096 + w / 1048576 % 2 * 2048 + w / 2097152 % 1024 * 2 + w / 2147483648 % 2 * 1048576) 21 ≤ 1048574 ∧ sgn (w / 4096 % 256 * 4096 + w / 1048576 % 2 * 2048 + w / 2097152 % 1024 * 2 + w / 2147483648 % 2 * 1048576) 21 % 2 = 0
      rw [sgn_num _ 21 1048576 2097152 (by decide) (by decide)]
      generalize w / 4096 % 256 = x
      generalize w / 1048576 % 2 = y
      generalize w / 2097152 % 1024 = z
      generalize w / 2147483648 % 2 = u
      omega
    · show -2048 ≤ sgn (w / 1048576 % 4096) 12 ∧ sgn (w / 1048576 % 4096) 12 ≤ 2047
      rw [sgn_num _ 12 2048 4096 (by decide) (by decide)]
      omega
    · show -4096 ≤ sgn (w / 128 % 2 * 2048 + w / 256 % 16 * 2 + w / 33554432 % 64 * 32 + w / 2147483648 % 2 * 4096) 13 ∧ sgn (w / 128 % 2 * 2048 + w / 256 % 16 * 2 + w / 33554432 % 64 * 32 + w / 2147483648 % 2 * 4096) 13 ≤ 4094 ∧ sgn (w / 128 % 2 * 2048 + w / 256 % 16 * 2 + w / 33554432 % 64 * 32 + w / 2147483648 % 2 * 4096) 13 % 2 = 0
      rw [sgn_num _ 13 4096 8192 (by decide) (by decide)]
      generalize w / 128 % 2 = x
      generalize w / 256 % 16 = y
      generalize w / 33554432 % 64 = z
      generalize w / 2147483648 % 2 = u
      omega
    · show -2048 ≤ sgn (w / 128 % 32 + w / 33554432 % 128 * 32) 12 ∧ sgn (w / 128 % 32 + w / 33554432 % 128 * 32) 12 ≤ 2047
      rw [sgn_num _ 12 2048 4096 (by decide) (by decide)]
      omega
    · show 0 ≤ w / 1048576 % 64 ∧ w / 1048576 % 64 ≤ 63
      omega
    · show 0 ≤ w / 1048576 % 32 ∧ w / 1048576 % 32 ≤ 31
      omega
    · rfl
    · rfl
  rcases (show f = 1 ∨ f = 2 ∨ f = 3 ∨ f = 4 ∨ f = 5 ∨ f = 6 ∨ f = 7 ∨ f = 8 ∨ f = 9 by omega) with rfl | rfl | rfl | rfl | rfl | rfl | rfl | rfl | rfl
  · show (regB (w / 128 % 32) && (0 : Int) == 0 && (0 : Int) == 0 && okB 1 (takeF 1 w)) = true
    rw [regB_mod, hk]; rfl
  · show (regB (w / 128 % 32) && (0 : Int) == 0 && (0 : Int) == 0 && okB 2 (takeF 2 w)) = true
    rw [regB_mod, hk]; rfl
  · show (regB (w / 128 % 32) && regB (w / 32768 % 32) && (0 : Int) == 0 && okB 3 (takeF 3 w)) = true
    rw [regB_mod, regB_mod, hk]; rfl
  · show ((0 : Int) == 0 && regB (w / 32768 % 32) && regB (w / 1048576 % 32) && okB 4 (takeF 4 w)) = true
    rw [regB_mod, regB_mod, hk]; rfl
  · show ((0 : Int) == 0 && regB (w / 32768 % 32) && regB (w / 1048576 % 32) && okB 5 (takeF 5 w)) = true
    rw [regB_mod, regB_mod, hk]; rfl
  · show (regB (w / 128 % 32) && regB (w / 32768 % 32) && (0 : Int) == 0 && okB 6 (takeF 6 w)) = true
    rw [regB_mod, regB_mod, hk]; rfl
  · show (regB (w / 128 % 32) && regB (w / 32768 % 32) && (0 : Int) == 0 && okB 7 (takeF 7 w)) = true
    rw [regB_mod, regB_mod, hk]; rfl
  · show (regB (w / 128 % 32) && regB (w / 32768 % 32) && regB (w / 1048576 % 32) && (0 : Int) == 0) = true
    rw [regB_mod, regB_mod, regB_mod]; rfl
  · rfl
end Go.Proofs.YtbfoopfmjiilcaaDoor

namespace Go.Proofs.YtbfoopfmjiilcaaDoor
set_option linter.unusedVariables false

set_option maxHeartbeats 1000000 in
theorem fix_hit (f c g h w : Int) (hs : shOK f c g h = true) (w0 : 0 ≤ w) (w1 : w < 4294967296) : bits .and .i64 w (fixB f) = fixW f c g h ↔ hitI f c g h w := by
  obtain ⟨f0, f1, k0, k1, g0, g1, h0, h1⟩ := sh_bounds hs
  obtain ⟨m1, m2, m3, m4, m5, m9⟩ := sh_more hs
  obtain ⟨n, rfl⟩ := Int.eq_ofNat_of_zero_le w0
  have hn : n < 4294967296 := by omega
  rcases (show f = 1 ∨ f = 2 ∨ f = 3 ∨ f = 4 ∨ f = 5 ∨ f = 6 ∨ f = 7 ∨ f = 8 ∨ f = 9 by omega) with rfl | rfl | rfl | rfl | rfl | rfl | rfl | rfl | rfl
  · obtain ⟨rfl, rfl⟩ := m1 rfl
    show bits .and .i64 (n : Int) 127 = c + 0 * 4096 + 0 * 33554432 ↔ (n : Int) % 128 = c
    rw [and_127 n hn]
    omega
  · obtain ⟨rfl, rfl⟩ := m2 rfl
    show bits .and .i64 (n : Int) 127 = c + 0 * 4096 + 0 * 33554432 ↔ (n : Int) % 128 = c
    rw [and_127 n hn]
    omega
  · obtain rfl := m3 rfl
    show bits .and .i64 (n : Int) 28799 = c + g * 4096 + 0 * 33554432 ↔ (n : Int) % 128 = c ∧ (n : Int) / 4096 % 8 = g
    rw [and_28799 n hn]
    omega
  · obtain rfl := m4 rfl
    show bits .and .i64 (n : Int) 28799 = c + g * 4096 + 0 * 33554432 ↔ (n : Int) % 128 = c ∧ (n : Int) / 4096 % 8 = g
    rw [and_28799 n hn]
    omega
  · obtain rfl := m5 rfl
    show bits .and .i64 (n : Int) 28799 = c + g * 4096 + 0 * 33554432 ↔ (n : Int) % 128 = c ∧ (n : Int) / 4096 % 8 = g
    rw [and_28799 n hn]
    omega
  · show bits .and .i64 (n : Int) 4227887231 = c + g * 4096 + h / 2 * 67108864 ↔ (n : Int) % 128 = c ∧ (n : Int) / 4096 % 8 = g ∧ (n : Int) / 67108864 = h / 2
    rw [and_4227887231 n hn]
    have e : ((n % 128 + n / 4096 % 8 * 4096 + n / 67108864 * 67108864 : Nat) : Int) = (n : Int) % 128 + (n : Int) / 4096 % 8 * 4096 + (n : Int) / 67108864 * 67108864 := by omega
    rw [e]
    have p : 0 ≤ (n : Int) % 128 ∧ (n : Int) % 128 < 128 := by omega
    have q : 0 ≤ (n : Int) / 4096 % 8 ∧ (n : Int) / 4096 % 8 < 8 := by omega
    have r : 0 ≤ h / 2 := by omega
    generalize (n : Int) % 128 = x at *
    generalize (n : Int) / 4096 % 8 = y at *
    generalize (n : Int) / 67108864 = z at *
    generalize h / 2 = u at *
    omega
  · show bits .and .i64 (n : Int) 4261441663 = c + g * 4096 + h * 33554432 ↔ (n : Int) % 128 = c ∧ (n : Int) / 4096 % 8 = g ∧ (n : Int) / 33554432 = h
    rw [and_4261441663 n hn]
    have e : ((n % 128 + n / 4096 % 8 * 4096 + n / 33554432 * 33554432 : Nat) : Int) = (n : Int) % 128 + (n : Int) / 4096 % 8 * 4096 + (n : Int) / 33554432 * 33554432 := by omega
    rw [e]
    have p : 0 ≤ (n : Int) % 128 ∧ (n : Int) % 128 < 128 := by omega
    have q : 0 ≤ (n : Int) / 4096 % 8 ∧ (n : Int) / 4096 % 8 < 8 := by omega
    generalize (n : Int) % 128 = x at *
    generalize (n : Int) / 4096 % 8 = y at *
    generalize (n : Int) / 33554432 = z at *
    omega
  · show bits .and .i64 (n : Int) 4261441663 = c + g * 4096 + h * 33554432 ↔ (n : Int) % 128 = c ∧ (n : Int) / 4096 % 8 = g ∧ (n : Int) / 33554432 = h
    rw [and_4261441663 n hn]
    have e : ((n % 128 + n / 4096 % 8 * 4096 + n / 33554432 * 33554432 : Nat) : Int) = (n : Int) % 128 + (n : Int) / 4096 % 8 * 4096 + (n : Int) / 33554432 * 33554432 := by omega
    rw [e]
    have p : 0 ≤ (n : Int) % 128 ∧ (n : Int) % 128 < 128 := by omega
    have q : 0 ≤ (n : Int) / 4096 % 8 ∧ (n : Int) / 4096 % 8 < 8 := by omega
    generalize (n : Int) % 128 = x at *
    generalize (n : Int) / 4096 % 8 = y at *
    generalize (n : Int) / 33554432 = z at *
    omega
  · show bits .and .i64 (n : Int) 4294967295 = c + g * 4096 + h * 1048576 ↔ (n : Int) = c + g * 4096 + h * 1048576
    rw [and_all n hn]

theorem lay_take2 (a b c d : Int) (ha : 0 ≤ a ∧ a < 256) (hb : 0 ≤ b ∧ b < 2) (hc : 0 ≤ c ∧ c < 1024) (hd : 0 ≤ d ∧ d < 2) :
    layF 2 (sgn (a * 4096 + b * 2048 + c * 2 + d * 1048576) 21) = a * 4096 + b * 1048576 + c * 2097152 + d * 2147483648 := by
  rw [sgn_num _ 21 1048576 2097152 (by decide) (by decide)]
  have e : (a * 4096 + b * 2048 + c * 2 + d * 1048576 + 1048576) % 2097152 - 1048576 = a * 4096 + b * 2048 + c * 2 - d * 1048576 := by
    rcases (show d = 0 ∨ d = 1 by omega) with rfl | rfl <;> omega
  rw [e]
  generalize hv : a * 4096 + b * 2048 + c * 2 - d * 1048576 = v
  show v / 4096 % 256 * 4096 + v / 2048 % 2 * 1048576 + v / 2 % 1024 * 2097152 + v / 1048576 % 2 * 2147483648 = _
  have e1 : v / 4096 = a - 256 * d := by omega
  have e2 : v / 2048 = a * 2 + b - 512 * d := by omega
  have e3 : v / 2 = a * 2048 + b * 1024 + c - 524288 * d := by omega
  have e4 : v / 1048576 = -d := by omega
  rw [e1, e2, e3, e4]
  have p1 : (a - 256 * d) % 256 = a := by omega
  have p2 : (a * 2 + b - 512 * d) % 2 = b := by omega
  have p3 : (a * 2048 + b * 1024 + c - 524288 * d) % 1024 = c := by omega
  have p4 : (-d) % 2 = d := by omega
  rw [p1, p2, p3, p4]
theorem lay_take4 (a b c d : Int) (ha : 0 ≤ a ∧ a < 2) (hb : 0 ≤ b ∧ b < 16) (hc : 0 ≤ c ∧ c < 64) (hd : 0 ≤ d ∧ d < 2) :
    layF 4 (sgn (a * 2048 + b * 2 + c * 32 + d * 4096) 13) = a * 128 + b * 256 + c * 33554432 + d * 2147483648 := by
  rw [sgn_num _ 13 4096 8192 (by decide) (by decide)]
  have e : (a * 2048 + b * 2 + c * 32 + d * 4096 + 4096) % 8192 - 4096 = a * 2048 + b * 2 + c * 32 - d * 4096 := by
    rcases (show d = 0 ∨ d = 1 by omega) with rfl | rfl <;> omega
  rw [e]
  generalize hv : a * 2048 + b * 2 + c * 32 - d * 4096 = v
  show v / 2048 % 2 * 128 + v / 2 % 16 * 256 + v / 32 % 64 * 33554432 + v / 4096 % 2 * 2147483648 = _
  have e1 : v / 2048 = a - 2 * d := by omega
  have e2 : v / 2 = a * 1024 + b + c * 16 - 2048 * d := by omega
  have e3 : v / 32 = a * 64 + c - 128 * d := by omega
  have e4 : v / 4096 = -d := by omega
  rw [e1, e2, e3, e4]
  have p1 : (a - 2 * d) % 2 = a := by omega
  have p2 : (a * 1024 + b + c * 16 - 2048 * d) % 16 = b := by omega
  have p3 : (a * 64 + c - 128 * d) % 64 = c := by omega
  have p4 : (-d) % 2 = d := by omega
  rw [p1, p2, p3, p4]
theorem lay_take5 (a c : Int) (ha : 0 ≤ a ∧ a < 32) (hc : 0 ≤ c ∧ c < 128) : layF 5 (sgn (a + c * 32) 12) = a * 128 + c * 33554432 := by
  rw [sgn_num _ 12 2048 4096 (by decide) (by decide)]
  generalize hv : (a + c * 32 + 2048) % 4096 - 2048 = v
  show v % 32 * 128 + v / 32 % 128 * 33554432 = _
  have p1 : v % 32 = a := by omega
  have p2 : v / 32 % 128 = c := by omega
  rw [p1, p2]
end Go.Proofs.YtbfoopfmjiilcaaDoor

namespace Go.Proofs.YtbfoopfmjiilcaaDoor
set_option linter.unusedVariables false

theorem chain (w : Int) (a b : Nat) (A B C : Int) (hA : A = 2 ^ a) (hB : B = 2 ^ b) (hC : C = 2 ^ (a + b)) : w / A = w / A % B + B * (w / C) := by
  have h := Int.emod_add_mul_ediv (w / A) B
  have e : w / A / B = w / C := by
    rw [hA, hB, hC, dd _ _ (Int.le_of_lt (pow_pos a)), ← Int.pow_add]
  rw [e] at h
  exact h.symm

theorem hit1 (c w : Int) (w0 : 0 ≤ w) (w1 : w < 4294967296) : (w % 128 = c ∧ encW 1 c 0 0 (w / 128 % 32) (0) (0) (takeF 1 w) = w) ↔ (w % 128 = c) := by
  have l : layF 1 (takeF 1 w) = w / 4096 % 1048576 * 4096 := by
    show sgn (w / 4096 % 1048576 * 4096) 32 / 4096 % 1048576 * 4096 = _
    rw [sgn_num _ 32 2147483648 4294967296 (by decide) (by decide)]
    omega
  have e : encW 1 c 0 0 (w / 128 % 32) (0) (0) (takeF 1 w) = c + 0 * 4096 + 0 * 33554432 + w / 128 % 32 * 128 + 0 * 32768 + 0 * 1048576 + (w / 4096 % 1048576 * 4096) := by
    rw [← l]
    rfl
  rw [e]
  clear e l
  have d0 : w = w % 128 + 128 * (w / 128) := by omega
  have p0 : 0 ≤ w % 128 ∧ w % 128 < 128 := by omega
  have d7 : w / 128 = w / 128 % 32 + 32 * (w / 4096) := chain w 7 5 128 32 4096 (by decide) (by decide) (by decide)
  have p7 : 0 ≤ w / 128 % 32 ∧ w / 128 % 32 < 32 := by omega
  have d12 : w / 4096 = w / 4096 % 1048576 := by omega
  have p12 : 0 ≤ w / 4096 % 1048576 ∧ w / 4096 % 1048576 < 1048576 := by omega
  generalize w % 128 = x0 at *
  generalize w / 128 % 32 = x7 at *
  generalize w / 4096 % 1048576 = x12 at *
  generalize w / 128 = q7 at *
  generalize w / 4096 = q12 at *
  omega
theorem hit2 (c w : Int) (w0 : 0 ≤ w) (w1 : w < 4294967296) : (w % 128 = c ∧ encW 2 c 0 0 (w / 128 % 32) (0) (0) (takeF 2 w) = w) ↔ (w % 128 = c) := by
  have l : layF 2 (takeF 2 w) = w / 4096 % 256 * 4096 + w / 1048576 % 2 * 1048576 + w / 2097152 % 1024 * 2097152 + w / 2147483648 % 2 * 2147483648 :=
    lay_take2 (w / 4096 % 256) (w / 1048576 % 2) (w / 2097152 % 1024) (w / 2147483648 % 2) (by omega) (by omega) (by omega) (by omega)
  have e : encW 2 c 0 0 (w / 128 % 32) (0) (0) (takeF 2 w) = c + 0 * 4096 + 0 * 33554432 + w / 128 % 32 * 128 + 0 * 32768 + 0 * 1048576 + (w / 4096 % 256 * 4096 + w / 1048576 % 2 * 1048576 + w / 2097152 % 1024 * 2097152 + w / 2147483648 % 2 * 2147483648) := by
    rw [← l]
    rfl
  rw [e]
  clear e l
  have d0 : w = w % 128 + 128 * (w / 128) := by omega
  have p0 : 0 ≤ w % 128 ∧ w % 128 < 128 := by omega
  have d7 : w / 128 = w / 128 % 32 + 32 * (w / 4096) := chain w 7 5 128 32 4096 (by decide) (by decide) (by decide)
  have p7 : 0 ≤ w / 128 % 32 ∧ w / 128 % 32 < 32 := by omega
  have d12 : w / 4096 = w / 4096 % 256 + 256 * (w / 1048576) := chain w 12 8 4096 256 1048576 (by decide) (by decide) (by decide)
  have p12 : 0 ≤ w / 4096 % 256 ∧ w / 4096 % 256 < 256 := by omega
  have d20 : w / 1048576 = w / 1048576 % 2 + 2 * (w / 2097152) := chain w 20 1 1048576 2 2097152 (by decide) (by decide) (by decide)
  have p20 : 0 ≤ w / 1048576 % 2 ∧ w / 1048576 % 2 < 2 := by omega
  have d21 : w / 2097152 = w / 2097152 % 1024 + 1024 * (w / 2147483648) := chain w 21 10 2097152 1024 2147483648 (by decide) (by decide) (by decide)
  have p21 : 0 ≤ w / 2097152 % 1024 ∧ w / 2097152 % 1024 < 1024 := by omega
  have d31 : w / 2147483648 = w / 2147483648 % 2 := by omega
  have p31 : 0 ≤ w / 2147483648 % 2 ∧ w / 2147483648 % 2 < 2 := by omega
  generalize w % 128 = x0 at *
  generalize w / 128 % 32 = x7 at *
  generalize w / 4096 % 256 = x12 at *
  generalize w / 1048576 % 2 = x20 at *
  generalize w / 2097152 % 1024 = x21 at *
  generalize w / 2147483648 % 2 = x31 at *
  generalize w / 128 = q7 at *
  generalize w / 4096 = q12 at *
  generalize w / 1048576 = q20 at *
  generalize w / 2097152 = q21 at *
  generalize w / 2147483648 = q31 at *
  omega
theorem hit3 (c g w : Int) (w0 : 0 ≤ w) (w1 : w < 4294967296) : (w % 128 = c ∧ w / 4096 % 8 = g ∧ encW 3 c g 0 (w / 128 % 32) (w / 32768 % 32) (0) (takeF 3 w) = w) ↔ (w % 128 = c ∧ w / 4096 % 8 = g) := by
  have l : layF 3 (takeF 3 w) = w / 1048576 % 4096 * 1048576 := by
    show sgn (w / 1048576 % 4096) 12 % 4096 * 1048576 = _
    rw [sgn_num _ 12 2048 4096 (by decide) (by decide)]
    omega
  have e : encW 3 c g 0 (w / 128 % 32) (w / 32768 % 32) (0) (takeF 3 w) = c + g * 4096 + 0 * 33554432 + w / 128 % 32 * 128 + w / 32768 % 32 * 32768 + 0 * 1048576 + (w / 1048576 % 4096 * 1048576) := by
    rw [← l]
    rfl
  rw [e]
  clear e l
  have d0 : w = w % 128 + 128 * (w / 128) := by omega
  have p0 : 0 ≤ w % 128 ∧ w % 128 < 128 := by omega
  have d7 : w / 128 = w / 128 % 32 + 32 * (w / 4096) := chain w 7 5 128 32 4096 (by decide) (by decide) (by decide)
  have p7 : 0 ≤ w / 128 % 32 ∧ w / 128 % 32 < 32 := by omega
  have d12 : w / 4096 = w / 4096 % 8 + 8 * (w / 32768) := chain w 12 3 4096 8 32768 (by decide) (by decide) (by decide)
  have p12 : 0 ≤ w / 4096 % 8 ∧ w / 4096 % 8 < 8 := by omega
  have d15 : w / 32768 = w / 32768 % 32 + 32 * (w / 1048576) := chain w 15 5 32768 32 1048576 (by decide) (by decide) (by decide)
  have p15 : 0 ≤ w / 32768 % 32 ∧ w / 32768 % 32 < 32 := by omega
  have d20 : w / 1048576 = w / 1048576 % 4096 := by omega
  have p20 : 0 ≤ w / 1048576 % 4096 ∧ w / 1048576 % 4096 < 4096 := by omega
  generalize w % 128 = x0 at *
  generalize w / 128 % 32 = x7 at *
  generalize w / 4096 % 8 = x12 at *
  generalize w / 32768 % 32 = x15 at *
  generalize w / 1048576 % 4096 = x20 at *
  generalize w / 128 = q7 at *
  generalize w / 4096 = q12 at *
  generalize w / 32768 = q15 at *
  generalize w / 1048576 = q20 at *
  omega
theorem hit4 (c g w : Int) (w0 : 0 ≤ w) (w1 : w < 4294967296) : (w % 128 = c ∧ w / 4096 % 8 = g ∧ encW 4 c g 0 (0) (w / 32768 % 32) (w / 1048576 % 32) (takeF 4 w) = w) ↔ (w % 128 = c ∧ w / 4096 % 8 = g) := by
  have l : layF 4 (takeF 4 w) = w / 128 % 2 * 128 + w / 256 % 16 * 256 + w / 33554432 % 64 * 33554432 + w / 2147483648 % 2 * 2147483648 :=
    lay_take4 (w / 128 % 2) (w / 256 % 16) (w / 33554432 % 64) (w / 2147483648 % 2) (by omega) (by omega) (by omega) (by omega)
  have e : encW 4 c g 0 (0) (w / 32768 % 32) (w / 1048576 % 32) (takeF 4 w) = c + g * 4096 + 0 * 33554432 + 0 * 128 + w / 32768 % 32 * 32768 + w / 1048576 % 32 * 1048576 + (w / 128 % 2 * 128 + w / 256 % 16 * 256 + w / 33554432 % 64 * 33554432 + w / 2147483648 % 2 * 2147483648) := by
    rw [← l]
    rfl
  rw [e]
  clear e l
  have d0 : w = w % 128 + 128 * (w / 128) := by omega
  have p0 : 0 ≤ w % 128 ∧ w % 128 < 128 := by omega
  have d7 : w / 128 = w / 128 % 2 + 2 * (w / 256) := chain w 7 1 128 2 256 (by decide) (by decide) (by decide)
  have p7 : 0 ≤ w / 128 % 2 ∧ w / 128 % 2 < 2 := by omega
  have d8 : w / 256 = w / 256 % 16 + 16 * (w / 4096) := chain w 8 4 256 16 4096 (by decide) (by decide) (by decide)
  have p8 : 0 ≤ w / 256 % 16 ∧ w / 256 % 16 < 16 := by omega
  have d12 : w / 4096 = w / 4096 % 8 + 8 * (w / 32768) := chain w 12 3 4096 8 32768 (by decide) (by decide) (by decide)
  have p12 : 0 ≤ w / 4096 % 8 ∧ w / 4096 % 8 < 8 := by omega
  have d15 : w / 32768 = w / 32768 % 32 + 32 * (w / 1048576) := chain w 15 5 32768 32 1048576 (by decide) (by decide) (by decide)
  have p15 : 0 ≤ w / 32768 % 32 ∧ w / 32768 % 32 < 32 := by omega
  have d20 : w / 1048576 = w / 1048576 % 32 + 32 * (w / 33554432) := chain w 20 5 1048576 32 33554432 (by decide) (by decide) (by decide)
  have p20 : 0 ≤ w / 1048576 % 32 ∧ w / 1048576 % 32 < 32 := by omega
  have d25 : w / 33554432 = w / 33554432 % 64 + 64 * (w / 2147483648) := chain w 25 6 33554432 64 2147483648 (by decide) (by decide) (by decide)
  have p25 : 0 ≤ w / 33554432 % 64 ∧ w / 33554432 % 64 < 64 := by omega
  have d31 : w / 2147483648 = w / 2147483648 % 2 := by omega
  have p31 : 0 ≤ w / 2147483648 % 2 ∧ w / 2147483648 % 2 < 2 := by omega
  generalize w % 128 = x0 at *
  generalize w / 128 % 2 = x7 at *
  generalize w / 256 % 16 = x8 at *
  generalize w / 4096 % 8 = x12 at *
  generalize w / 32768 % 32 = x15 at *
  generalize w / 1048576 % 32 = x20 at *
  generalize w / 33554432 % 64 = x25 at *
  generalize w / 2147483648 % 2 = x31 at *
  generalize w / 128 = q7 at *
  generalize w / 256 = q8 at *
  generalize w / 4096 = q12 at *
  generalize w / 32768 = q15 at *
  generalize w / 1048576 = q20 at *
  generalize w / 33554432 = q25 at *
  generalize w / 2147483648 = q31 at *
  omega
theorem hit5 (c g w : Int) (w0 : 0 ≤ w) (w1 : w < 4294967296) : (w % 128 = c ∧ w / 4096 % 8 = g ∧ encW 5 c g 0 (0) (w / 32768 % 32) (w / 1048576 % 32) (takeF 5 w) = w) ↔ (w % 128 = c ∧ w / 4096 % 8 = g) := by
  have l : layF 5 (takeF 5 w) = w / 128 % 32 * 128 + w / 33554432 % 128 * 33554432 := lay_take5 (w / 128 % 32) (w / 33554432 % 128) (by omega) (by omega)
  have e : encW 5 c g 0 (0) (w / 32768 % 32) (w / 1048576 % 32) (takeF 5 w) = c + g * 4096 + 0 * 33554432 + 0 * 128 + w / 32768 % 32 * 32768 + w / 1048576 % 32 * 1048576 + (w / 128 % 32 * 128 + w / 33554432 % 128 * 33554432) := by
    rw [← l]
    rfl
  rw [e]
  clear e l
  have d0 : w = w % 128 + 128 * (w / 128) := by omega
  have p0 : 0 ≤ w % 128 ∧ w % 128 < 128 := by omega
  have d7 : w / 128 = w / 128 % 32 + 32 * (w / 4096) := chain w 7 5 128 32 4096 (by decide) (by decide) (by decide)
  have p7 : 0 ≤ w / 128 % 32 ∧ w / 128 % 32 < 32 := by omega
  have d12 : w / 4096 = w / 4096 % 8 + 8 * (w / 32768) := chain w 12 3 4096 8 32768 (by decide) (by decide) (by decide)
  have p12 : 0 ≤ w / 4096 % 8 ∧ w / 4096 % 8 < 8 := by omega
  have d15 : w / 32768 = w / 32768 % 32 + 32 * (w / 1048576) := chain w 15 5 32768 32 1048576 (by decide) (by decide) (by decide)
  have p15 : 0 ≤ w / 32768 % 32 ∧ w / 32768 % 32 < 32 := by omega
  have d20 : w / 1048576 = w / 1048576 % 32 + 32 * (w / 33554432) := chain w 20 5 1048576 32 33554432 (by decide) (by decide) (by decide)
  have p20 : 0 ≤ w / 1048576 % 32 ∧ w / 1048576 % 32 < 32 := by omega
  have d25 : w / 33554432 = w / 33554432 % 128 := by omega
  have p25 : 0 ≤ w / 33554432 % 128 ∧ w / 33554432 % 128 < 128 := by omega
  generalize w % 128 = x0 at *
  generalize w / 128 % 32 = x7 at *
  generalize w / 4096 % 8 = x12 at *
  generalize w / 32768 % 32 = x15 at *
  generalize w / 1048576 % 32 = x20 at *
  generalize w / 33554432 % 128 = x25 at *
  generalize w / 128 = q7 at *
  generalize w / 4096 = q12 at *
  generalize w / 32768 = q15 at *
  generalize w / 1048576 = q20 at *
  generalize w / 33554432 = q25 at *
  omega
theorem hit6 (c g h w : Int) (w0 : 0 ≤ w) (w1 : w < 4294967296) (h0 : 0 ≤ h) (h1 : h < 64) : (w % 128 = c ∧ w / 4096 % 8 = g ∧ encW 6 c g h (w / 128 % 32) (w / 32768 % 32) (0) (takeF 6 w) = w) ↔ (w % 128 = c ∧ w / 4096 % 8 = g ∧ w / 67108864 = h / 2) := by
  have l : layF 6 (takeF 6 w) = w / 1048576 % 64 * 1048576 := by
    show w / 1048576 % 64 % 64 * 1048576 = _
    omega
  have e : encW 6 c g h (w / 128 % 32) (w / 32768 % 32) (0) (takeF 6 w) = c + g * 4096 + h / 2 * 67108864 + w / 128 % 32 * 128 + w / 32768 % 32 * 32768 + 0 * 1048576 + (w / 1048576 % 64 * 1048576) := by
    rw [← l]
    rfl
  rw [e]
  clear e l
  have ph : 0 ≤ h / 2 ∧ h / 2 < 32 := by omega
  generalize h / 2 = y at *
  have d0 : w = w % 128 + 128 * (w / 128) := by omega
  have p0 : 0 ≤ w % 128 ∧ w % 128 < 128 := by omega
  have d7 : w / 128 = w / 128 % 32 + 32 * (w / 4096) := chain w 7 5 128 32 4096 (by decide) (by decide) (by decide)
  have p7 : 0 ≤ w / 128 % 32 ∧ w / 128 % 32 < 32 := by omega
  have d12 : w / 4096 = w / 4096 % 8 + 8 * (w / 32768) := chain w 12 3 4096 8 32768 (by decide) (by decide) (by decide)
  have p12 : 0 ≤ w / 4096 % 8 ∧ w / 4096 % 8 < 8 := by omega
  have d15 : w / 32768 = w / 32768 % 32 + 32 * (w / 1048576) := chain w 15 5 32768 32 1048576 (by decide) (by decide) (by decide)
  have p15 : 0 ≤ w / 32768 % 32 ∧ w / 32768 % 32 < 32 := by omega
  have d20 : w / 1048576 = w / 1048576 % 64 + 64 * (w / 67108864) := chain w 20 6 1048576 64 67108864 (by decide) (by decide) (by decide)
  have p20 : 0 ≤ w / 1048576 % 64 ∧ w / 1048576 % 64 < 64 := by omega
  have d26 : w / 67108864 = w / 67108864 % 64 := by omega
  have p26 : 0 ≤ w / 67108864 % 64 ∧ w / 67108864 % 64 < 64 := by omega
  generalize w % 128 = x0 at *
  generalize w / 128 % 32 = x7 at *
  generalize w / 4096 % 8 = x12 at *
  generalize w / 32768 % 32 = x15 at *
  generalize w / 1048576 % 64 = x20 at *
  generalize w / 67108864 % 64 = x26 at *
  generalize w / 128 = q7 at *
  generalize w / 4096 = q12 at *
  generalize w / 32768 = q15 at *
  generalize w / 1048576 = q20 at *
  generalize w / 67108864 = q26 at *
  omega
theorem hit7 (c g h w : Int) (w0 : 0 ≤ w) (w1 : w < 4294967296) (h0 : 0 ≤ h) (h1 : h < 64) : (w % 128 = c ∧ w / 4096 % 8 = g ∧ encW 7 c g h (w / 128 % 32) (w / 32768 % 32) (0) (takeF 7 w) = w) ↔ (w % 128 = c ∧ w / 4096 % 8 = g ∧ w / 33554432 = h) := by
  have l : layF 7 (takeF 7 w) = w / 1048576 % 32 * 1048576 := by
    show w / 1048576 % 32 % 32 * 1048576 = _
    omega
  have e : encW 7 c g h (w / 128 % 32) (w / 32768 % 32) (0) (takeF 7 w) = c + g * 4096 + h * 33554432 + w / 128 % 32 * 128 + w / 32768 % 32 * 32768 + 0 * 1048576 + (w / 1048576 % 32 * 1048576) := by
    rw [← l]
    rfl
  rw [e]
  clear e l
  have d0 : w = w % 128 + 128 * (w / 128) := by omega
  have p0 : 0 ≤ w % 128 ∧ w % 128 < 128 := by omega
  have d7 : w / 128 = w / 128 % 32 + 32 * (w / 4096) := chain w 7 5 128 32 4096 (by decide) (by decide) (by decide)
  have p7 : 0 ≤ w / 128 % 32 ∧ w / 128 % 32 < 32 := by omega
  have d12 : w / 4096 = w / 4096 % 8 + 8 * (w / 32768) := chain w 12 3 4096 8 32768 (by decide) (by decide) (by decide)
  have p12 : 0 ≤ w / 4096 % 8 ∧ w / 4096 % 8 < 8 := by omega
  have d15 : w / 32768 = w / 32768 % 32 + 32 * (w / 1048576) := chain w 15 5 32768 32 1048576 (by decide) (by decide) (by decide)
  have p15 : 0 ≤ w / 32768 % 32 ∧ w / 32768 % 32 < 32 := by omega
  have d20 : w / 1048576 = w / 1048576 % 32 + 32 * (w / 33554432) := chain w 20 5 1048576 32 33554432 (by decide) (by decide) (by decide)
  have p20 : 0 ≤ w / 1048576 % 32 ∧ w / 1048576 % 32 < 32 := by omega
  have d25 : w / 33554432 = w / 33554432 % 128 := by omega
  have p25 : 0 ≤ w / 33554432 % 128 ∧ w / 33554432 % 128 < 128 := by omega
  generalize w % 128 = x0 at *
  generalize w / 128 % 32 = x7 at *
  generalize w / 4096 % 8 = x12 at *
  generalize w / 32768 % 32 = x15 at *
  generalize w / 1048576 % 32 = x20 at *
  generalize w / 33554432 % 128 = x25 at *
  generalize w / 128 = q7 at *
  generalize w / 4096 = q12 at *
  generalize w / 32768 = q15 at *
  generalize w / 1048576 = q20 at *
  generalize w / 33554432 = q25 at *
  omega
theorem hit8 (c g h w : Int) (w0 : 0 ≤ w) (w1 : w < 4294967296) (h0 : 0 ≤ h) (h1 : h < 64) : (w % 128 = c ∧ w / 4096 % 8 = g ∧ encW 8 c g h (w / 128 % 32) (w / 32768 % 32) (w / 1048576 % 32) (takeF 8 w) = w) ↔ (w % 128 = c ∧ w / 4096 % 8 = g ∧ w / 33554432 = h) := by
  have l : layF 8 (takeF 8 w) = 0 := rfl
  have e : encW 8 c g h (w / 128 % 32) (w / 32768 % 32) (w / 1048576 % 32) (takeF 8 w) = c + g * 4096 + h * 33554432 + w / 128 % 32 * 128 + w / 32768 % 32 * 32768 + w / 1048576 % 32 * 1048576 + (0) := by
    rw [← l]
    rfl
  rw [e]
  clear e l
  have d0 : w = w % 128 + 128 * (w / 128) := by omega
  have p0 : 0 ≤ w % 128 ∧ w % 128 < 128 := by omega
  have d7 : w / 128 = w / 128 % 32 + 32 * (w / 4096) := chain w 7 5 128 32 4096 (by decide) (by decide) (by decide)
  have p7 : 0 ≤ w / 128 % 32 ∧ w / 128 % 32 < 32 := by omega
  have d12 : w / 4096 = w / 4096 % 8 + 8 * (w / 32768) := chain w 12 3 4096 8 32768 (by decide) (by decide) (by decide)
  have p12 : 0 ≤ w / 4096 % 8 ∧ w / 4096 % 8 < 8 := by omega
  have d15 : w / 32768 = w / 32768 % 32 + 32 * (w / 1048576) := chain w 15 5 32768 32 1048576 (by decide) (by decide) (by decide)
  have p15 : 0 ≤ w / 32768 % 32 ∧ w / 32768 % 32 < 32 := by omega
  have d20 : w / 1048576 = w / 1048576 % 32 + 32 * (w / 33554432) := chain w 20 5 1048576 32 33554432 (by decide) (by decide) (by decide)
  have p20 : 0 ≤ w / 1048576 % 32 ∧ w / 1048576 % 32 < 32 := by omega
  have d25 : w / 33554432 = w / 33554432 % 128 := by omega
  have p25 : 0 ≤ w / 33554432 % 128 ∧ w / 33554432 % 128 < 128 := by omega
  generalize w % 128 = x0 at *
  generalize w / 128 % 32 = x7 at *
  generalize w / 4096 % 8 = x12 at *
  generalize w / 32768 % 32 = x15 at *
  generalize w / 1048576 % 32 = x20 at *
  generalize w / 33554432 % 128 = x25 at *
  generalize w / 128 = q7 at *
  generalize w / 4096 = q12 at *
  generalize w / 32768 = q15 at *
  generalize w / 1048576 = q20 at *
  generalize w / 33554432 = q25 at *
  omega
end Go.Proofs.YtbfoopfmjiilcaaDoor

namespace Go.Proofs.YtbfoopfmjiilcaaDoor
open Go.RowKit
set_option linter.unusedVariables false

def ToldIt (f : Int) (t : ByteArray) : Prop := ∀ w, Calls Tryd.prog 77 #[.int .i64 f] w fun e w' => e = .returned (.string t) ∧ w' = w
/-- What ruleOf and take answer of a form and a word. -/
def RuleIt (f : Int) (R : Value) : Prop := ∀ w, Calls Tryd.prog 58 #[.int .i64 f] w fun e w' => e = .returned R ∧ Below w.heap.size w w'
def TakeIt (R : Value) (v N : Int) : Prop := ∀ w, Calls Tryd.prog 126 #[R, .int .i64 v] w fun e w' => e = .returned (.int .i64 N) ∧ Below w.heap.size w w'
theorem ra100 (w : World) : Calls Tryd.prog 127 #[.int .u8 100] w fun e w' => e = .returned (.int .i64 7) ∧ w' = w := by
  go_enter Tryd.func127, Tryd.ntmps127
  go_wp2
  go_ret
  exact ⟨rfl, rfl⟩
theorem ra49 (w : World) : Calls Tryd.prog 127 #[.int .u8 49] w fun e w' => e = .returned (.int .i64 15) ∧ w' = w := by
  go_enter Tryd.func127, Tryd.ntmps127
  go_wp2
  go_ret
  exact ⟨rfl, rfl⟩
theorem ra50 (w : World) : Calls Tryd.prog 127 #[.int .u8 50] w fun e w' => e = .returned (.int .i64 20) ∧ w' = w := by
  go_enter Tryd.func127, Tryd.ntmps127
  go_wp2
  go_ret
  exact ⟨rfl, rfl⟩
end Go.Proofs.YtbfoopfmjiilcaaDoor

namespace Go.Proofs.YtbfoopfmjiilcaaDoor
open Go.RowKit
set_option linter.unusedVariables false

/-- Five numbers at block b, to be written. -/
structure Five (w : World) (b : Nat) (v0 v1 v2 v3 v4 : Int) : Prop where
  c0 : w.cell? ⟨b, 0, none⟩ = some (.int .i64 v0)
  c1 : w.cell? ⟨b, 1, none⟩ = some (.int .i64 v1)
  c2 : w.cell? ⟨b, 2, none⟩ = some (.int .i64 v2)
  c3 : w.cell? ⟨b, 3, none⟩ = some (.int .i64 v3)
  c4 : w.cell? ⟨b, 4, none⟩ = some (.int .i64 v4)
  f0 : w.frozen? ⟨b, 0, none⟩ = false
  f1 : w.frozen? ⟨b, 1, none⟩ = false
  f2 : w.frozen? ⟨b, 2, none⟩ = false
  f3 : w.frozen? ⟨b, 3, none⟩ = false
  f4 : w.frozen? ⟨b, 4, none⟩ = false
theorem Five.set0 {w : World} {b : Nat} {v0 v1 v2 v3 v4 : Int} (h : Five w b v0 v1 v2 v3 v4) (x : Int) : Five (w.setCell ⟨b, 0, none⟩ (.int .i64 x)) b x v1 v2 v3 v4 :=
  ⟨World.cell?_setCell_same _ _ _ h.c0, (World.cell?_setCell_other _ _ _ _ (by simp)).trans h.c1, (World.cell?_setCell_other _ _ _ _ (by simp)).trans h.c2, (World.cell?_setCell_other _ _ _ _ (by simp)).trans h.c3, (World.cell?_setCell_other _ _ _ _ (by simp)).trans h.c4,
   (World.frozen?_setCell _ _ _ _).trans h.f0, (World.frozen?_setCell _ _ _ _).trans h.f1, (World.frozen?_setCell _ _ _ _).trans h.f2, (World.frozen?_setCell _ _ _ _).trans h.f3, (World.frozen?_setCell _ _ _ _).trans h.f4⟩
theorem Five.oth0 {w : World} {b d : Nat} {v0 v1 v2 v3 v4 : Int} (h : Five w b v0 v1 v2 v3 v4) (hd : b ≠ d) (u : Value) : Five (w.setCell ⟨d, 0, none⟩ u) b v0 v1 v2 v3 v4 :=
  ⟨(World.cell?_setCell_other _ _ _ _ (by simp <;> omega)).trans h.c0, (World.cell?_setCell_other _ _ _ _ (by simp <;> omega)).trans h.c1, (World.cell?_setCell_other _ _ _ _ (by simp <;> omega)).trans h.c2, (World.cell?_setCell_other _ _ _ _ (by simp <;> omega)).trans h.c3, (World.cell?_setCell_other _ _ _ _ (by simp <;> omega)).trans h.c4,
   (World.frozen?_setCell _ _ _ _).trans h.f0, (World.frozen?_setCell _ _ _ _).trans h.f1, (World.frozen?_setCell _ _ _ _).trans h.f2, (World.frozen?_setCell _ _ _ _).trans h.f3, (World.frozen?_setCell _ _ _ _).trans h.f4⟩
theorem Five.set1 {w : World} {b : Nat} {v0 v1 v2 v3 v4 : Int} (h : Five w b v0 v1 v2 v3 v4) (x : Int) : Five (w.setCell ⟨b, 1, none⟩ (.int .i64 x)) b v0 x v2 v3 v4 :=
  ⟨(World.cell?_setCell_other _ _ _ _ (by simp)).trans h.c0, World.cell?_setCell_same _ _ _ h.c1, (World.cell?_setCell_other _ _ _ _ (by simp)).trans h.c2, (World.cell?_setCell_other _ _ _ _ (by simp)).trans h.c3, (World.cell?_setCell_other _ _ _ _ (by simp)).trans h.c4,
   (World.frozen?_setCell _ _ _ _).trans h.f0, (World.frozen?_setCell _ _ _ _).trans h.f1, (World.frozen?_setCell _ _ _ _).trans h.f2, (World.frozen?_setCell _ _ _ _).trans h.f3, (World.frozen?_setCell _ _ _ _).trans h.f4⟩
theorem Five.oth1 {w : World} {b d : Nat} {v0 v1 v2 v3 v4 : Int} (h : Five w b v0 v1 v2 v3 v4) (hd : b ≠ d) (u : Value) : Five (w.setCell ⟨d, 1, none⟩ u) b v0 v1 v2 v3 v4 :=
  ⟨(World.cell?_setCell_other _ _ _ _ (by simp <;> omega)).trans h.c0, (World.cell?_setCell_other _ _ _ _ (by simp <;> omega)).trans h.c1, (World.cell?_setCell_other _ _ _ _ (by simp <;> omega)).trans h.c2, (World.cell?_setCell_other _ _ _ _ (by simp <;> omega)).trans h.c3, (World.cell?_setCell_other _ _ _ _ (by simp <;> omega)).trans h.c4,
   (World.frozen?_setCell _ _ _ _).trans h.f0, (World.frozen?_setCell _ _ _ _).trans h.f1, (World.frozen?_setCell _ _ _ _).trans h.f2, (World.frozen?_setCell _ _ _ _).trans h.f3, (World.frozen?_setCell _ _ _ _).trans h.f4⟩
theorem Five.set2 {w : World} {b : Nat} {v0 v1 v2 v3 v4 : Int} (h : Five w b v0 v1 v2 v3 v4) (x : Int) : Five (w.setCell ⟨b, 2, none⟩ (.int .i64 x)) b v0 v1 x v3 v4 :=
  ⟨(World.cell?_setCell_other _ _ _ _ (by simp)).trans h.c0, (World.cell?_setCell_other _ _ _ _ (by simp)).trans h.c1, World.cell?_setCell_same _ _ _ h.c2, (World.cell?_setCell_other _ _ _ _ (by simp)).trans h.c3, (World.cell?_setCell_other _ _ _ _ (by simp)).trans h.c4,
   (World.frozen?_setCell _ _ _ _).trans h.f0, (World.frozen?_setCell _ _ _ _).trans h.f1, (World.frozen?_setCell _ _ _ _).trans h.f2, (World.frozen?_setCell _ _ _ _).trans h.f3, (World.frozen?_setCell _ _ _ _).trans h.f4⟩
theorem Five.oth2 {w : World} {b d : Nat} {v0 v1 v2 v3 v4 : Int} (h : Five w b v0 v1 v2 v3 v4) (hd : b ≠ d) (u : Value) : Five (w.setCell ⟨d, 2, none⟩ u) b v0 v1 v2 v3 v4 :=
  ⟨(World.cell?_setCell_other _ _ _ _ (by simp <;> omega)).trans h.c0, (World.cell?_setCell_other _ _ _ _ (by simp <;> omega)).trans h.c1, (World.cell?_setCell_other _ _ _ _ (by simp <;> omega)).trans h.c2, (World.cell?_setCell_other _ _ _ _ (by simp <;> omega)).trans h.c3, (World.cell?_setCell_other _ _ _ _ (by simp <;> omega)).trans h.c4,
   (World.frozen?_setCell _ _ _ _).trans h.f0, (World.frozen?_setCell _ _ _ _).trans h.f1, (World.frozen?_setCell _ _ _ _).trans h.f2, (World.frozen?_setCell _ _ _ _).trans h.f3, (World.frozen?_setCell _ _ _ _).trans h.f4⟩
theorem Five.set3 {w : World} {b : Nat} {v0 v1 v2 v3 v4 : Int} (h : Five w b v0 v1 v2 v3 v4) (x : Int) : Five (w.setCell ⟨b, 3, none⟩ (.int .i64 x)) b v0 v1 v2 x v4 :=
  ⟨(World.cell?_setCell_other _ _ _ _ (by simp)).trans h.c0, (World.cell?_setCell_other _ _ _ _ (by simp)).trans h.c1, (World.cell?_setCell_other _ _ _ _ (by simp)).trans h.c2, World.cell?_setCell_same _ _ _ h.c3, (World.cell?_setCell_other _ _ _ _ (by simp)).trans h.c4,
   (World.frozen?_setCell _ _ _ _).trans h.f0, (World.frozen?_setCell _ _ _ _).trans h.f1, (World.frozen?_setCell _ _ _ _).trans h.f2, (World.frozen?_setCell _ _ _ _).trans h.f3, (World.frozen?_setCell _ _ _ _).trans h.f4⟩
theorem Five.oth3 {w : World} {b d : Nat} {v0 v1 v2 v3 v4 : Int} (h : Five w b v0 v1 v2 v3 v4) (hd : b ≠ d) (u : Value) : Five (w.setCell ⟨d, 3, none⟩ u) b v0 v1 v2 v3 v4 :=
  ⟨(World.cell?_setCell_other _ _ _ _ (by simp <;> omega)).trans h.c0, (World.cell?_setCell_other _ _ _ _ (by simp <;> omega)).trans h.c1, (World.cell?_setCell_other _ _ _ _ (by simp <;> omega)).trans h.c2, (World.cell?_setCell_other _ _ _ _ (by simp <;> omega)).trans h.c3, (World.cell?_setCell_other _ _ _ _ (by simp <;> omega)).trans h.c4,
   (World.frozen?_setCell _ _ _ _).trans h.f0, (World.frozen?_setCell _ _ _ _).trans h.f1, (World.frozen?_setCell _ _ _ _).trans h.f2, (World.frozen?_setCell _ _ _ _).trans h.f3, (World.frozen?_setCell _ _ _ _).trans h.f4⟩
theorem Five.set4 {w : World} {b : Nat} {v0 v1 v2 v3 v4 : Int} (h : Five w b v0 v1 v2 v3 v4) (x : Int) : Five (w.setCell ⟨b, 4, none⟩ (.int .i64 x)) b v0 v1 v2 v3 x :=
  ⟨(World.cell?_setCell_other _ _ _ _ (by simp)).trans h.c0, (World.cell?_setCell_other _ _ _ _ (by simp)).trans h.c1, (World.cell?_setCell_other _ _ _ _ (by simp)).trans h.c2, (World.cell?_setCell_other _ _ _ _ (by simp)).trans h.c3, World.cell?_setCell_same _ _ _ h.c4,
   (World.frozen?_setCell _ _ _ _).trans h.f0, (World.frozen?_setCell _ _ _ _).trans h.f1, (World.frozen?_setCell _ _ _ _).trans h.f2, (World.frozen?_setCell _ _ _ _).trans h.f3, (World.frozen?_setCell _ _ _ _).trans h.f4⟩
theorem Five.oth4 {w : World} {b d : Nat} {v0 v1 v2 v3 v4 : Int} (h : Five w b v0 v1 v2 v3 v4) (hd : b ≠ d) (u : Value) : Five (w.setCell ⟨d, 4, none⟩ u) b v0 v1 v2 v3 v4 :=
  ⟨(World.cell?_setCell_other _ _ _ _ (by simp <;> omega)).trans h.c0, (World.cell?_setCell_other _ _ _ _ (by simp <;> omega)).trans h.c1, (World.cell?_setCell_other _ _ _ _ (by simp <;> omega)).trans h.c2, (World.cell?_setCell_other _ _ _ _ (by simp <;> omega)).trans h.c3, (World.cell?_setCell_other _ _ _ _ (by simp <;> omega)).trans h.c4,
   (World.frozen?_setCell _ _ _ _).trans h.f0, (World.frozen?_setCell _ _ _ _).trans h.f1, (World.frozen?_setCell _ _ _ _).trans h.f2, (World.frozen?_setCell _ _ _ _).trans h.f3, (World.frozen?_setCell _ _ _ _).trans h.f4⟩
theorem Five.below {w w' : World} {b B : Nat} {v0 v1 v2 v3 v4 : Int} (h : Five w b v0 v1 v2 v3 v4) (hb : Below B w w') (hB : b < B) : Five w' b v0 v1 v2 v3 v4 :=
  ⟨(hb.cell (p := ⟨b, 0, none⟩) hB).trans h.c0, (hb.cell (p := ⟨b, 1, none⟩) hB).trans h.c1, (hb.cell (p := ⟨b, 2, none⟩) hB).trans h.c2, (hb.cell (p := ⟨b, 3, none⟩) hB).trans h.c3, (hb.cell (p := ⟨b, 4, none⟩) hB).trans h.c4,
   (hb.frozen (p := ⟨b, 0, none⟩) hB).trans h.f0, (hb.frozen (p := ⟨b, 1, none⟩) hB).trans h.f1, (hb.frozen (p := ⟨b, 2, none⟩) hB).trans h.f2, (hb.frozen (p := ⟨b, 3, none⟩) hB).trans h.f3, (hb.frozen (p := ⟨b, 4, none⟩) hB).trans h.f4⟩
theorem Five.drew {w : World} {b : Nat} {v0 v1 v2 v3 v4 : Int} (h : Five w b v0 v1 v2 v3 v4) : Five w.drew b v0 v1 v2 v3 v4 := ⟨h.c0, h.c1, h.c2, h.c3, h.c4, h.f0, h.f1, h.f2, h.f3, h.f4⟩
end Go.Proofs.YtbfoopfmjiilcaaDoor

namespace Go.Proofs.YtbfoopfmjiilcaaDoor
end Go.Proofs.YtbfoopfmjiilcaaDoor

namespace Go.Proofs.YtbfoopfmjiilcaaDoor
open Go.RowKit
set_option linter.unusedVariables false

set_option maxRecDepth 100000 in
set_option maxHeartbeats 8000000 in
theorem tapA (op f v : Int) (R : Value) (N : Int) (v0 : 0 ≤ v) (v1 : v < 4294967296) (ht : Hid (ToldIt f { data := #[100, 105] })) (hr : Hid (RuleIt f R)) (hn : Hid (TakeIt R v N)) (w : World) :
    Calls Tryd.prog 114 #[.int .i64 op, .int .i64 f, .int .i64 v] w fun e w' => e = .returned (.agg #[.int .i64 op, .int .i64 (v / 128 % 32), .int .i64 0, .int .i64 0, .int .i64 N]) ∧ Below w.heap.size w w' := by
  have hA100 : bits .and .i64 (v / 128) 31 = v / 128 % 32 := and_5 _
  go_enter Tryd.func114, Tryd.ntmps114
  go_wp2_with fail
  refine (ht.out _).mono ?_
  rintro e w2 ⟨rfl, rfl⟩
  clear ht
  go_wp2
  go_loopw [16] (fun t wr => ∃ k : Nat, t = .int .i64 k ∧ Below w.heap.size w wr ∧ w.heap.size + 2 ≤ wr.heap.size ∧ Five wr w.heap.size 0 0 0 0 0 ∧ Hid ((k = 0 ∧ Five wr (w.heap.size + 1) op 0 0 0 0) ∨ (k = 1 ∧ Five wr (w.heap.size + 1) op (v / 128 % 32) 0 0 0) ∨ (k = 2 ∧ Five wr (w.heap.size + 1) op (v / 128 % 32) 0 0 N))) (fun t _ => 2 - (intOf t).toNat)
  case atStart =>
    refine ⟨0, rfl, ?_, by simp, ?_, .inl ⟨rfl, ?_⟩⟩
    · repeat (first | exact Below.refl _ _ | refine Below.setCell ?_ (by first | omega | (simp; done) | (simp; omega)) _ | refine bdN ?_ _ | refine Below.drew ?_ | refine Below.alloc ?_ (by first | omega | (simp; done) | (simp; omega)) _)
    · constructor <;> simp
    · constructor <;> simp
  case round =>
    obtain ⟨k, rfl, hbel, hsz, hR, hX⟩ := hrel
    have hX' := hX.out
    clear hX
    rcases hX' with ⟨rfl, hX⟩ | ⟨rfl, hX⟩ | ⟨rfl, hX⟩
    · obtain ⟨c0, c1, c2, c3, c4, f0, f1, f2, f3, f4⟩ := hX
      have hX : Hid (Five wr (w.heap.size + 1) op 0 0 0 0) := ⟨c0, c1, c2, c3, c4, f0, f1, f2, f3, f4⟩
      clear hr hn 
      go_wp2_with fail
      go_region_held3 (fun _ => True) (trivial) (first | (go_at_call 78; refine (fld100 _ _).mono ?_; rintro e wa ⟨rfl, rfl⟩) | (go_at_call 127; refine (ra100 _).mono ?_; rintro e wa ⟨rfl, rfl⟩) | (go_at_call 85; refine (low5 _).mono ?_; rintro e wa ⟨rfl, rfl⟩))
      all_goals
        go_wp2
        go_roundw
        case rel =>
          exact ⟨1, rfl, by repeat (first | exact hbel | refine Below.setCell ?_ (by first | omega | (simp; done) | (simp; omega)) _ | refine bdN ?_ _ | refine Below.drew ?_), by first | omega | (simp; omega), by repeat (first | exact hR | refine Five.oth1 ?_ (by omega) _ | refine Five.drew ?_), .inr (.inl ⟨rfl, by first | exact hX.out.set1 _ | exact hX.out.drew.set1 _ | (exact (hX.out.set1 _).drew) | (refine Five.drew ?_; exact hX.out.drew.set1 _)⟩)⟩
        case measure => simp [intOf]
    · obtain ⟨c0, c1, c2, c3, c4, f0, f1, f2, f3, f4⟩ := hX
      have hX : Hid (Five wr (w.heap.size + 1) op (v / 128 % 32) 0 0 0) := ⟨c0, c1, c2, c3, c4, f0, f1, f2, f3, f4⟩
      go_wp2_with fail
      refine (hr.out _).mono ?_
      rintro e w3 ⟨rfl, hb3⟩
      have X3 := hX.out.below hb3 (by omega)
      have R3 := hR.below hb3 (by omega)
      have B3 := hbel.trans (hb3.mono (by omega))
      have z3 : w.heap.size + 2 ≤ w3.heap.size := Nat.le_trans hsz hb3.size
      clear hb3 hX hR hbel hsz c0 c1 c2 c3 c4 f0 f1 f2 f3 f4 hr
      go_wp2_with fail
      refine (hn.out _).mono ?_
      rintro e w4 ⟨rfl, hb4⟩
      have X4 := X3.below hb4 (by omega)
      have R4 := R3.below hb4 (by omega)
      have B4 := B3.trans (hb4.mono (by omega))
      have z4 : w.heap.size + 2 ≤ w4.heap.size := Nat.le_trans z3 hb4.size
      clear hb4 X3 R3 B3 z3 hn
      obtain ⟨c0, c1, c2, c3, c4, f0, f1, f2, f3, f4⟩ := X4
      have hX : Hid (Five w4 (w.heap.size + 1) op (v / 128 % 32) 0 0 0) := ⟨c0, c1, c2, c3, c4, f0, f1, f2, f3, f4⟩
      go_wp2
      go_roundw
      case rel =>
        exact ⟨2, rfl, by exact B4.setCell (by show w.heap.size ≤ w.heap.size + 1; omega) _, by first | omega | (simp; omega), by exact R4.oth4 (by omega) _, .inr (.inr (⟨rfl, by exact hX.out.set4 _⟩))⟩
      case measure => simp [intOf]
    · obtain ⟨c0, c1, c2, c3, c4, f0, f1, f2, f3, f4⟩ := hX
      obtain ⟨d0, d1, d2, d3, d4, g0, g1, g2, g3, g4⟩ := hR
      clear hr hn
      go_wp2
      refine bodyPost_ret (v := .agg #[.int .i64 op, .int .i64 (v / 128 % 32), .int .i64 0, .int .i64 0, .int .i64 N]) (by simp [results, Tryd.results114, go_sem, d0, d1, d2, d3, d4]) rfl ⟨rfl, ?_⟩
      repeat (first | exact hbel | refine Below.setCell ?_ (by first | omega | (simp; done) | (simp; omega)) _ | refine bdN ?_ _ | refine Below.drew ?_)
end Go.Proofs.YtbfoopfmjiilcaaDoor

namespace Go.Proofs.YtbfoopfmjiilcaaDoor
open Go.RowKit
set_option linter.unusedVariables false

set_option maxRecDepth 100000 in
set_option maxHeartbeats 8000000 in
theorem tapB (op f v : Int) (R : Value) (N : Int) (v0 : 0 ≤ v) (v1 : v < 4294967296) (ht : Hid (ToldIt f { data := #[100, 49, 105] })) (hr : Hid (RuleIt f R)) (hn : Hid (TakeIt R v N)) (w : World) :
    Calls Tryd.prog 114 #[.int .i64 op, .int .i64 f, .int .i64 v] w fun e w' => e = .returned (.agg #[.int .i64 op, .int .i64 (v / 128 % 32), .int .i64 (v / 32768 % 32), .int .i64 0, .int .i64 N]) ∧ Below w.heap.size w w' := by
  have hA100 : bits .and .i64 (v / 128) 31 = v / 128 % 32 := and_5 _
  have hA49 : bits .and .i64 (v / 32768) 31 = v / 32768 % 32 := and_5 _
  go_enter Tryd.func114, Tryd.ntmps114
  go_wp2_with fail
  refine (ht.out _).mono ?_
  rintro e w2 ⟨rfl, rfl⟩
  clear ht
  go_wp2
  go_loopw [16] (fun t wr => ∃ k : Nat, t = .int .i64 k ∧ Below w.heap.size w wr ∧ w.heap.size + 2 ≤ wr.heap.size ∧ Five wr w.heap.size 0 0 0 0 0 ∧ Hid ((k = 0 ∧ Five wr (w.heap.size + 1) op 0 0 0 0) ∨ (k = 1 ∧ Five wr (w.heap.size + 1) op (v / 128 % 32) 0 0 0) ∨ (k = 2 ∧ Five wr (w.heap.size + 1) op (v / 128 % 32) (v / 32768 % 32) 0 0) ∨ (k = 3 ∧ Five wr (w.heap.size + 1) op (v / 128 % 32) (v / 32768 % 32) 0 N))) (fun t _ => 3 - (intOf t).toNat)
  case atStart =>
    refine ⟨0, rfl, ?_, by simp, ?_, .inl ⟨rfl, ?_⟩⟩
    · repeat (first | exact Below.refl _ _ | refine Below.setCell ?_ (by first | omega | (simp; done) | (simp; omega)) _ | refine bdN ?_ _ | refine Below.drew ?_ | refine Below.alloc ?_ (by first | omega | (simp; done) | (simp; omega)) _)
    · constructor <;> simp
    · constructor <;> simp
  case round =>
    obtain ⟨k, rfl, hbel, hsz, hR, hX⟩ := hrel
    have hX' := hX.out
    clear hX
    rcases hX' with ⟨rfl, hX⟩ | ⟨rfl, hX⟩ | ⟨rfl, hX⟩ | ⟨rfl, hX⟩
    · obtain ⟨c0, c1, c2, c3, c4, f0, f1, f2, f3, f4⟩ := hX
      have hX : Hid (Five wr (w.heap.size + 1) op 0 0 0 0) := ⟨c0, c1, c2, c3, c4, f0, f1, f2, f3, f4⟩
      clear hr hn 
      go_wp2_with fail
      go_region_held3 (fun _ => True) (trivial) (first | (go_at_call 78; refine (fld100 _ _).mono ?_; rintro e wa ⟨rfl, rfl⟩) | (go_at_call 127; refine (ra100 _).mono ?_; rintro e wa ⟨rfl, rfl⟩) | (go_at_call 85; refine (low5 _).mono ?_; rintro e wa ⟨rfl, rfl⟩))
      all_goals
        go_wp2
        go_roundw
        case rel =>
          exact ⟨1, rfl, by repeat (first | exact hbel | refine Below.setCell ?_ (by first | omega | (simp; done) | (simp; omega)) _ | refine bdN ?_ _ | refine Below.drew ?_), by first | omega | (simp; omega), by repeat (first | exact hR | refine Five.oth1 ?_ (by omega) _ | refine Five.drew ?_), .inr (.inl ⟨rfl, by first | exact hX.out.set1 _ | exact hX.out.drew.set1 _ | (exact (hX.out.set1 _).drew) | (refine Five.drew ?_; exact hX.out.drew.set1 _)⟩)⟩
        case measure => simp [intOf]
    · obtain ⟨c0, c1, c2, c3, c4, f0, f1, f2, f3, f4⟩ := hX
      have hX : Hid (Five wr (w.heap.size + 1) op (v / 128 % 32) 0 0 0) := ⟨c0, c1, c2, c3, c4, f0, f1, f2, f3, f4⟩
      clear hr hn 
      go_wp2_with fail
      go_region_held3 (fun _ => True) (trivial) (first | (go_at_call 78; refine (fld49 _ _).mono ?_; rintro e wa ⟨rfl, rfl⟩) | (go_at_call 127; refine (ra49 _).mono ?_; rintro e wa ⟨rfl, rfl⟩) | (go_at_call 85; refine (low5 _).mono ?_; rintro e wa ⟨rfl, rfl⟩))
      all_goals
        go_wp2
        go_roundw
        case rel =>
          exact ⟨2, rfl, by repeat (first | exact hbel | refine Below.setCell ?_ (by first | omega | (simp; done) | (simp; omega)) _ | refine bdN ?_ _ | refine Below.drew ?_), by first | omega | (simp; omega), by repeat (first | exact hR | refine Five.oth2 ?_ (by omega) _ | refine Five.drew ?_), .inr (.inr (.inl ⟨rfl, by first | exact hX.out.set2 _ | exact hX.out.drew.set2 _ | (exact (hX.out.set2 _).drew) | (refine Five.drew ?_; exact hX.out.drew.set2 _)⟩))⟩
        case measure => simp [intOf]
    · obtain ⟨c0, c1, c2, c3, c4, f0, f1, f2, f3, f4⟩ := hX
      have hX : Hid (Five wr (w.heap.size + 1) op (v / 128 % 32) (v / 32768 % 32) 0 0) := ⟨c0, c1, c2, c3, c4, f0, f1, f2, f3, f4⟩
      go_wp2_with fail
      refine (hr.out _).mono ?_
      rintro e w3 ⟨rfl, hb3⟩
      have X3 := hX.out.below hb3 (by omega)
      have R3 := hR.below hb3 (by omega)
      have B3 := hbel.trans (hb3.mono (by omega))
      have z3 : w.heap.size + 2 ≤ w3.heap.size := Nat.le_trans hsz hb3.size
      clear hb3 hX hR hbel hsz c0 c1 c2 c3 c4 f0 f1 f2 f3 f4 hr
      go_wp2_with fail
      refine (hn.out _).mono ?_
      rintro e w4 ⟨rfl, hb4⟩
      have X4 := X3.below hb4 (by omega)
      have R4 := R3.below hb4 (by omega)
      have B4 := B3.trans (hb4.mono (by omega))
      have z4 : w.heap.size + 2 ≤ w4.heap.size := Nat.le_trans z3 hb4.size
      clear hb4 X3 R3 B3 z3 hn
      obtain ⟨c0, c1, c2, c3, c4, f0, f1, f2, f3, f4⟩ := X4
      have hX : Hid (Five w4 (w.heap.size + 1) op (v / 128 % 32) (v / 32768 % 32) 0 0) := ⟨c0, c1, c2, c3, c4, f0, f1, f2, f3, f4⟩
      go_wp2
      go_roundw
      case rel =>
        exact ⟨3, rfl, by exact B4.setCell (by show w.heap.size ≤ w.heap.size + 1; omega) _, by first | omega | (simp; omega), by exact R4.oth4 (by omega) _, .inr (.inr (.inr (⟨rfl, by exact hX.out.set4 _⟩)))⟩
      case measure => simp [intOf]
    · obtain ⟨c0, c1, c2, c3, c4, f0, f1, f2, f3, f4⟩ := hX
      obtain ⟨d0, d1, d2, d3, d4, g0, g1, g2, g3, g4⟩ := hR
      clear hr hn
      go_wp2
      refine bodyPost_ret (v := .agg #[.int .i64 op, .int .i64 (v / 128 % 32), .int .i64 (v / 32768 % 32), .int .i64 0, .int .i64 N]) (by simp [results, Tryd.results114, go_sem, d0, d1, d2, d3, d4]) rfl ⟨rfl, ?_⟩
      repeat (first | exact hbel | refine Below.setCell ?_ (by first | omega | (simp; done) | (simp; omega)) _ | refine bdN ?_ _ | refine Below.drew ?_)
end Go.Proofs.YtbfoopfmjiilcaaDoor

namespace Go.Proofs.YtbfoopfmjiilcaaDoor
open Go.RowKit
set_option linter.unusedVariables false

set_option maxRecDepth 100000 in
set_option maxHeartbeats 8000000 in
theorem tapC (op f v : Int) (R : Value) (N : Int) (v0 : 0 ≤ v) (v1 : v < 4294967296) (ht : Hid (ToldIt f { data := #[49, 50, 105] })) (hr : Hid (RuleIt f R)) (hn : Hid (TakeIt R v N)) (w : World) :
    Calls Tryd.prog 114 #[.int .i64 op, .int .i64 f, .int .i64 v] w fun e w' => e = .returned (.agg #[.int .i64 op, .int .i64 0, .int .i64 (v / 32768 % 32), .int .i64 (v / 1048576 % 32), .int .i64 N]) ∧ Below w.heap.size w w' := by
  have hA49 : bits .and .i64 (v / 32768) 31 = v / 32768 % 32 := and_5 _
  have hA50 : bits .and .i64 (v / 1048576) 31 = v / 1048576 % 32 := and_5 _
  go_enter Tryd.func114, Tryd.ntmps114
  go_wp2_with fail
  refine (ht.out _).mono ?_
  rintro e w2 ⟨rfl, rfl⟩
  clear ht
  go_wp2
  go_loopw [16] (fun t wr => ∃ k : Nat, t = .int .i64 k ∧ Below w.heap.size w wr ∧ w.heap.size + 2 ≤ wr.heap.size ∧ Five wr w.heap.size 0 0 0 0 0 ∧ Hid ((k = 0 ∧ Five wr (w.heap.size + 1) op 0 0 0 0) ∨ (k = 1 ∧ Five wr (w.heap.size + 1) op 0 (v / 32768 % 32) 0 0) ∨ (k = 2 ∧ Five wr (w.heap.size + 1) op 0 (v / 32768 % 32) (v / 1048576 % 32) 0) ∨ (k = 3 ∧ Five wr (w.heap.size + 1) op 0 (v / 32768 % 32) (v / 1048576 % 32) N))) (fun t _ => 3 - (intOf t).toNat)
  case atStart =>
    refine ⟨0, rfl, ?_, by simp, ?_, .inl ⟨rfl, ?_⟩⟩
    · repeat (first | exact Below.refl _ _ | refine Below.setCell ?_ (by first | omega | (simp; done) | (simp; omega)) _ | refine bdN ?_ _ | refine Below.drew ?_ | refine Below.alloc ?_ (by first | omega | (simp; done) | (simp; omega)) _)
    · constructor <;> simp
    · constructor <;> simp
  case round =>
    obtain ⟨k, rfl, hbel, hsz, hR, hX⟩ := hrel
    have hX' := hX.out
    clear hX
    rcases hX' with ⟨rfl, hX⟩ | ⟨rfl, hX⟩ | ⟨rfl, hX⟩ | ⟨rfl, hX⟩
    · obtain ⟨c0, c1, c2, c3, c4, f0, f1, f2, f3, f4⟩ := hX
      have hX : Hid (Five wr (w.heap.size + 1) op 0 0 0 0) := ⟨c0, c1, c2, c3, c4, f0, f1, f2, f3, f4⟩
      clear hr hn 
      go_wp2_with fail
      go_region_held3 (fun _ => True) (trivial) (first | (go_at_call 78; refine (fld49 _ _).mono ?_; rintro e wa ⟨rfl, rfl⟩) | (go_at_call 127; refine (ra49 _).mono ?_; rintro e wa ⟨rfl, rfl⟩) | (go_at_call 85; refine (low5 _).mono ?_; rintro e wa ⟨rfl, rfl⟩))
      all_goals
        go_wp2
        go_roundw
        case rel =>
          exact ⟨1, rfl, by repeat (first | exact hbel | refine Below.setCell ?_ (by first | omega | (simp; done) | (simp; omega)) _ | refine bdN ?_ _ | refine Below.drew ?_), by first | omega | (simp; omega), by repeat (first | exact hR | refine Five.oth2 ?_ (by omega) _ | refine Five.drew ?_), .inr (.inl ⟨rfl, by first | exact hX.out.set2 _ | exact hX.out.drew.set2 _ | (exact (hX.out.set2 _).drew) | (refine Five.drew ?_; exact hX.out.drew.set2 _)⟩)⟩
        case measure => simp [intOf]
    · obtain ⟨c0, c1, c2, c3, c4, f0, f1, f2, f3, f4⟩ := hX
      have hX : Hid (Five wr (w.heap.size + 1) op 0 (v / 32768 % 32) 0 0) := ⟨c0, c1, c2, c3, c4, f0, f1, f2, f3, f4⟩
      clear hr hn 
      go_wp2_with fail
      go_region_held3 (fun _ => True) (trivial) (first | (go_at_call 78; refine (fld50 _ _).mono ?_; rintro e wa ⟨rfl, rfl⟩) | (go_at_call 127; refine (ra50 _).mono ?_; rintro e wa ⟨rfl, rfl⟩) | (go_at_call 85; refine (low5 _).mono ?_; rintro e wa ⟨rfl, rfl⟩))
      all_goals
        go_wp2
        go_roundw
        case rel =>
          exact ⟨2, rfl, by repeat (first | exact hbel | refine Below.setCell ?_ (by first | omega | (simp; done) | (simp; omega)) _ | refine bdN ?_ _ | refine Below.drew ?_), by first | omega | (simp; omega), by repeat (first | exact hR | refine Five.oth3 ?_ (by omega) _ | refine Five.drew ?_), .inr (.inr (.inl ⟨rfl, by first | exact hX.out.set3 _ | exact hX.out.drew.set3 _ | (exact (hX.out.set3 _).drew) | (refine Five.drew ?_; exact hX.out.drew.set3 _)⟩))⟩
        case measure => simp [intOf]
    · obtain ⟨c0, c1, c2, c3, c4, f0, f1, f2, f3, f4⟩ := hX
      have hX : Hid (Five wr (w.heap.size + 1) op 0 (v / 32768 % 32) (v / 1048576 % 32) 0) := ⟨c0, c1, c2, c3, c4, f0, f1, f2, f3, f4⟩
      go_wp2_with fail
      refine (hr.out _).mono ?_
      rintro e w3 ⟨rfl, hb3⟩
      have X3 := hX.out.below hb3 (by omega)
      have R3 := hR.below hb3 (by omega)
      have B3 := hbel.trans (hb3.mono (by omega))
      have z3 : w.heap.size + 2 ≤ w3.heap.size := Nat.le_trans hsz hb3.size
      clear hb3 hX hR hbel hsz c0 c1 c2 c3 c4 f0 f1 f2 f3 f4 hr
      go_wp2_with fail
      refine (hn.out _).mono ?_
      rintro e w4 ⟨rfl, hb4⟩
      have X4 := X3.below hb4 (by omega)
      have R4 := R3.below hb4 (by omega)
      have B4 := B3.trans (hb4.mono (by omega))
      have z4 : w.heap.size + 2 ≤ w4.heap.size := Nat.le_trans z3 hb4.size
      clear hb4 X3 R3 B3 z3 hn
      obtain ⟨c0, c1, c2, c3, c4, f0, f1, f2, f3, f4⟩ := X4
      have hX : Hid (Five w4 (w.heap.size + 1) op 0 (v / 32768 % 32) (v / 1048576 % 32) 0) := ⟨c0, c1, c2, c3, c4, f0, f1, f2, f3, f4⟩
      go_wp2
      go_roundw
      case rel =>
        exact ⟨3, rfl, by exact B4.setCell (by show w.heap.size ≤ w.heap.size + 1; omega) _, by first | omega | (simp; omega), by exact R4.oth4 (by omega) _, .inr (.inr (.inr (⟨rfl, by exact hX.out.set4 _⟩)))⟩
      case measure => simp [intOf]
    · obtain ⟨c0, c1, c2, c3, c4, f0, f1, f2, f3, f4⟩ := hX
      obtain ⟨d0, d1, d2, d3, d4, g0, g1, g2, g3, g4⟩ := hR
      clear hr hn
      go_wp2
      refine bodyPost_ret (v := .agg #[.int .i64 op, .int .i64 0, .int .i64 (v / 32768 % 32), .int .i64 (v / 1048576 % 32), .int .i64 N]) (by simp [results, Tryd.results114, go_sem, d0, d1, d2, d3, d4]) rfl ⟨rfl, ?_⟩
      repeat (first | exact hbel | refine Below.setCell ?_ (by first | omega | (simp; done) | (simp; omega)) _ | refine bdN ?_ _ | refine Below.drew ?_)
end Go.Proofs.YtbfoopfmjiilcaaDoor
