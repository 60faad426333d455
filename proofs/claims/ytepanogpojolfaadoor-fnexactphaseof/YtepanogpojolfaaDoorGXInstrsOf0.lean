/- A range over a function value that keeps its state in one cell of its own: a law for the caller (any program). Byte slices that the call itself made, as lists of bytes: any program. Numbers into bytes: contracts (without the errors). Contracts of both PutLittle. Numbers out of bytes: plain. Numbers out of bytes: contracts. Contracts of the model's SignOf. -/
import Derived.RangeFuncNested
import Derived.RangeFuncCalls
import Derived.RangeFuncLeaves
import Derived.Shelf.Abstract
import Derived.Shelf.RegionOpen
import Derived.WalkKit
import Derived.OwnWalkIn
import Derived.TacticsInMore
import Derived.LoopNIn
import Derived.LoopIn
import Derived.Deep.AppendLies
import Derived.Laws.IdiomStrings
import Derived.Test.YtepanogpojolfaaDoorGXDecode0
import Derived.Test.YtepanogpojolfaaDoorRows
import Derived.WalkSpells
import Derived.ProofKit
import Derived.Below
import Derived.Laws.BitsLemmas
import Derived.Test.YtepanogpojolfaaDoorGXDecode33
import Derived.Laws.BitsAllLaws
import Derived.Test.YtepanogpojolfaaDoorGXDecode22
import Derived.Test.YtepanogpojolfaaDoorGXDecode13
namespace Go.Proofs.YtepanogpojolfaaDoor
open Go Go.RowKit
set_option linter.unusedVariables false
section
variable {F : Fence} {n : Nat} {P : Program}

/-- It stands where block Bc is turned, where blocks are made, and where what is no cells is turned from block B on. -/
def Stands {β : Type} (Bc B : Nat) (I : β → World → Prop) : Prop :=
  ∀ s W W' row, I s W → W.grownBy W' row → (∀ r, row = some r → r = Bc ∨ (B ≤ r ∧ ∃ o : Obj, W.heap[r]? = some o ∧ o.isCells = false)) → I s W'
/-- What a round keeps: what lay below n₀, and the state. -/
def RKeep (n₀ Bc : Nat) (W W' : World) : Prop := Below n₀ W W' ∧ W'.heap[Bc]? = W.heap[Bc]?
theorem RKeep.refl (n₀ Bc : Nat) (W : World) : RKeep n₀ Bc W W := ⟨Below.refl _ _, rfl⟩
theorem RKeep.trans {n₀ Bc : Nat} {X Y Z : World} (h : RKeep n₀ Bc X Y) (k : RKeep n₀ Bc Y Z) : RKeep n₀ Bc X Z := ⟨h.1.trans k.1, k.2.trans h.2⟩
theorem RKeep.turn {n₀ Bc : Nat} {W W' : World} {r : Nat} (hg : W.grownBy W' (some r)) (h0 : n₀ ≤ r) (h1 : Bc ≠ r) (hn : n₀ ≤ W.heap.size) (hb : Bc < W.heap.size) : RKeep n₀ Bc W W' :=
  ⟨(Below.refl n₀ W).grown hg hn (fun k e => by cases e; exact h0), hg.block Bc hb (fun e => h1 (by cases e; rfl))⟩
theorem RKeep.new {n₀ Bc : Nat} {W W' : World} (h : Below W.heap.size W W') (hn : n₀ ≤ W.heap.size) (hb : Bc < W.heap.size) : RKeep n₀ Bc W W' := ⟨h.mono hn, h.block Bc hb⟩
theorem Stands.putObj {β : Type} {Bc B : Nat} {I : β → World → Prop} (h : Stands Bc B I) {s : β} {W : World} {l : Nat} {o : Obj} (o' : Obj) (hs : I s W) (hB : B ≤ l) (hl : W.heap[l]? = some o) (ho : o.isCells = false) : I s (W.putObj l o') :=
  h s W _ (some l) hs (grownBy_putObj' W l o') (fun r e => by cases e; exact .inr ⟨hB, o, hl, ho⟩)
theorem Stands.alloc {β : Type} {Bc B : Nat} {I : β → World → Prop} (h : Stands Bc B I) {s : β} {W : World} (o : Obj) (hs : I s W) : I s (W.alloc o) :=
  h s W _ none hs (World.grownBy_alloc W o none) (fun r e => by cases e)

/-- How the body of round k may be left: it goes on, or it returns. -/
def roundWay (B n₀ Bc : Nat) (I : Nat → World → Prop) (Ix : World → Prop) (k : Nat) (W : World) : Exit → Act → World → Prop
  | .normal, _, W' => KeepsFrom B W W' ∧ RKeep n₀ Bc W W' ∧ I (k + 1) W'
  | .ret, _, W' => KeepsFrom B W W' ∧ Ix W'
  | _, _, _ => False

/-- The function value hands over N elements, one a round, whatever the caller keeps that stands; or as many as a round lets it. -/
def CellSeq (F : Fence) (n : Nat) (P : Program) (g : Nat) (lb : Array Value) (encs : Nat → Array Value) (n₀ Bc N : Nat) (w : World) : Prop :=
  ∀ (l : Nat) (J : Nat → World → Prop) (Jx : World → Prop) (W : World),
    (∀ k A B, J k A → A.grownBy B (some Bc) → J k B) →
    (∀ k W1, k < N → J k W1 → YieldAt F (n - 1) P l (encs k) W1 fun e W' => (e = .returned (.bool true) ∧ J (k + 1) W' ∧ RKeep n₀ Bc W1 W') ∨ (e = .returned (.bool false) ∧ Jx W')) →
    RKeep n₀ Bc w W → J 0 W →
    CallsIn F n P g (#[.func (.yield l) #[] #[]] ++ lb) W fun e W' => (∃ v, e = .returned v) ∧ (J N W' ∨ Jx W')

theorem rangeCell {g : Operand} {ps : Array Tmp} {assign body : Code} {Q : Exit → Act → World → Prop} {a : Act} {w : World}
    (hro : F.round = none) (h1 : 1 ≤ n) {gf : Nat} {lb : Array Value} (hg : a.eval g = .func (.func gf) #[] lb) (hFg : F.fn gf) (eg : ∀ args w, (callFunc gf args).run P w = .ok (.enter gf args) w)
    {encs : Nat → Array Value} {n₀ Bc N : Nat} (hseq : CellSeq F (n - 1) P gf lb encs n₀ Bc N w) (hn₀ : n₀ ≤ w.heap.size) (hBc : Bc < w.heap.size) (hps : ∀ k, (encs k).size = ps.size)
    (I : Nat → World → Prop) (Ix : World → Prop) (hI : Stands Bc w.heap.size I) (hIx : Stands Bc w.heap.size (fun (_ : Unit) => Ix)) (h0 : I 0 w)
    (Ax : Nat → Act → World → Prop) (hAx : ∀ k a', Stands Bc w.heap.size (fun (_ : Unit) W => Ax k a' W))
    (hassign : ∀ (l k : Nat) (W : World) (K : Act → World → Prop), I k W → (∀ a' W', KeepsFrom w.heap.size W W' → RKeep n₀ Bc W W' → I k W' → Ax k a' W' → K a' W') →
      assign.wpIn (F.inRound l) (n - 1 - 1) P (Exit.then K (fun _ _ _ => False)) { tmps := (ps.zip (encs k)).foldl (fun t (p, v) => t.setIfInBounds p v) a.tmps, defers := [] } W)
    (hbody : ∀ (l k : Nat) (a' : Act) (W : World), I k W → Ax k a' W → k < N → body.wpIn (F.inRound l) (n - 1 - 1) P (roundWay w.heap.size n₀ Bc I Ix k W) a' W)
    (hdone : ∀ (D : Nat) (W : World), w.heap.size ≤ D → I N W → W.heap[D]? = some (.deferred (some [])) → Q .normal { a with defers := { target := .collected D, args := #[] } :: a.defers } W)
    (hstop : ∀ (D : Nat) (W : World), w.heap.size ≤ D → Ix W → W.heap[D]? = some (.deferred (some [])) → Code.ret.wpIn F n P Q { a with defers := { target := .collected D, args := #[] } :: a.defers } W) :
    (Code.rangeFunc g ps assign body).wpIn F n P Q a w := by
  refine wpIn_rangeFunc ?_
  intro fn hfn
  rw [hro]
  -- the loop's record (block R) and the block for the rounds' deferred calls (block D)
  obtain ⟨R, hR⟩ : ∃ R : Nat, R = w.heap.size + 1 := ⟨_, rfl⟩
  obtain ⟨mk, hmk⟩ : ∃ mk : LoopState → Option Code → Loop, mk = fun st pe => { state := st, pending := pe, fn, tmps := a.tmps, params := ps, assign, body, defers := w.heap.size } := ⟨_, rfl⟩
  obtain ⟨W1, hW1⟩ : ∃ W1, (w.alloc (.deferred (some []))).alloc (.loop (mk .ready none)) = W1 := ⟨_, rfl⟩
  have hB1 : Below w.heap.size w W1 := by rw [← hW1]; exact ((Below.refl _ w).alloc (Nat.le_refl _) _).alloc (by simp) _
  have hl1 : W1.heap[R]? = some (.loop (mk .ready none)) := by
    rw [← hW1, hR]; have := heap_alloc_new (w.alloc (.deferred (some []))) (.loop (mk .ready none)); rwa [World.size_alloc] at this
  have hd1 : W1.heap[w.heap.size]? = some (.deferred (some [])) := by
    rw [← hW1]; exact (Below.heap_alloc _ _ _ (by simp)).trans (heap_alloc_new w _)
  have hi1 : I 0 W1 := by rw [← hW1]; exact hI.alloc _ (hI.alloc _ h0)
  refine ⟨R, [{ target := .collected w.heap.size, args := #[] }], W1, { target := .fn (.func gf) lb, args := #[.func (.yield R) #[] #[]] }, W1, gf, #[.func (.yield R) #[] #[]] ++ lb, W1, ?_, ?_, ?_, ?_, fun _ => h1, ?_⟩
  · rw [← hW1, hmk, hR]; exact run_enterLoop_outer _ _ _ _ _
  · simp only [resolve, hg]
    simp [go_sem]
  · intro f' hf'; simp [Target.leads] at hf'; subst hf'; exact hFg
  · simp [invoke, go_sem, eg]
  -- what a turn of a block below w's heap leaves of the two
  have book : ∀ {A B : World} {o : Obj} {k : Nat}, A.heap[k]? = some o → w.heap.size ≤ k → A.grownBy B (some Bc) → B.heap[k]? = some o := fun hk hge hgr =>
    (hgr.block _ (Array.getElem?_eq_some_iff.1 hk).1 (fun e => by cases e; omega)).trans hk
  refine (hseq R (fun k W => I k W ∧ W.heap[R]? = some (.loop (mk .ready none)) ∧ W.heap[w.heap.size]? = some (.deferred (some [])))
    (fun W => Ix W ∧ W.heap[R]? = some (.loop (mk .done (some .ret))) ∧ W.heap[w.heap.size]? = some (.deferred (some []))) W1
    (fun k A B ⟨hi, hl, hd⟩ hgr => ⟨hI k A B _ hi hgr (fun r e => by cases e; exact .inl rfl), book hl (by omega) hgr, book hd (Nat.le_refl _) hgr⟩) ?_ (RKeep.new hB1 hn₀ hBc) ⟨hi1, hl1, hd1⟩).mono ?_
  · rintro k W hk ⟨hi, hl, hd⟩
    have hlt : R < W.heap.size := (Array.getElem?_eq_some_iff.1 hl).1
    have hy := run_yield (P := P) (args := encs k) hl (by rw [hmk]; exact hps k)
    rw [hmk] at hy
    refine ⟨fn, _, assign, body, hy, roundIn_of_wpIn hfn (hassign _ k W _ hi ?_)⟩
    clear hy
    intro a' Wa hKa hRa hia hax
    have hla := hKa.same _ _ (by omega) hl rfl
    have hda := hKa.same _ _ (Nat.le_refl _) hd rfl
    have hlta : R < Wa.heap.size := (Array.getElem?_eq_some_iff.1 hla).1
    refine ⟨_, run_beginRound hla (by rw [hmk]), ?_⟩
    obtain ⟨Wb, hWb⟩ : ∃ Wb, Wa.putObj R (.loop { mk .ready none with state := .busy }) = Wb := ⟨_, rfl⟩
    rw [hWb]
    have hRb : RKeep n₀ Bc Wa Wb := by rw [← hWb]; exact RKeep.turn (grownBy_putObj' Wa R _) (by omega) (by omega) (by omega) (by omega)
    have hlb : Wb.heap[R]? = some (.loop { mk .ready none with state := .busy }) := by rw [← hWb]; exact World.putObj_heap_same hlta
    have hdb : Wb.heap[w.heap.size]? = some (.deferred (some [])) := by rw [← hWb]; exact (World.putObj_heap_other (by omega)).trans hda
    have hib : I k Wb := by rw [← hWb]; exact hI.putObj _ hia (by omega) hla rfl
    have hab : Ax k a' Wb := by rw [← hWb]; exact (hAx k a').putObj (s := ()) _ hax (by omega) hla rfl
    refine wpIn_mono (hbody _ k a' Wb hib hab hk) ?_
    -- the round's end, by whatever jump
    have fin : ∀ (jump : Option Code) (W3 : World), KeepsFrom w.heap.size Wb W3 →
        (Instr.endRound R jump).run P W3 = .ok (.bool jump.isNone) (W3.putObj R (.loop (mk (if jump.isNone then .ready else .done) jump))) ∧ W3.heap[R]? = some (.loop { mk .ready none with state := .busy }) ∧
        (W3.putObj R (.loop (mk (if jump.isNone then .ready else .done) jump))).heap[R]? = some (.loop (mk (if jump.isNone then .ready else .done) jump)) ∧
        (W3.putObj R (.loop (mk (if jump.isNone then .ready else .done) jump))).heap[w.heap.size]? = some (.deferred (some [])) := fun jump W3 hk3 => by
      have hl3 := hk3.same _ _ (by omega) hlb rfl
      have hr3 := run_endRound (P := P) jump hl3
      rw [hmk] at hr3 ⊢
      exact ⟨hr3, by rw [hmk] at hl3; exact hl3, World.putObj_heap_same (Array.getElem?_eq_some_iff.1 hl3).1, (World.putObj_heap_other (by omega)).trans (hk3.same _ _ (Nat.le_refl _) hdb rfl)⟩
    rintro e a3 W3 hp
    cases e with
    | normal =>
      obtain ⟨hk3, hr3, hi3⟩ := hp
      obtain ⟨hr, hl3, hl4, hd4⟩ := fin none W3 hk3
      have hs3 : w.heap.size + 1 < W3.heap.size := by have := (Array.getElem?_eq_some_iff.1 hl3).1; omega
      exact ⟨_, _, hr, .inl ⟨rfl, ⟨hI.putObj _ hi3 (by omega) hl3 rfl, hl4, hd4⟩, hRa.trans (hRb.trans (hr3.trans (RKeep.turn (grownBy_putObj' W3 R _) (by omega) (by omega) (by omega) (by omega))))⟩⟩
    | ret =>
      obtain ⟨hk3, hi3⟩ := hp
      obtain ⟨hr, hl3, hl4, hd4⟩ := fin (some .ret) W3 hk3
      exact ⟨_, _, hr, .inr ⟨rfl, hIx.putObj (s := ()) _ hi3 (by omega) hl3 rfl, hl4, hd4⟩⟩
    | exit id => exact hp.elim
    | goto t => exact hp.elim
    | panic ch => exact hp.elim
    | outgrown => exact hp.elim
  · rintro e W2 ⟨⟨v, rfl⟩, (⟨hi, hl, hd⟩ | ⟨hi, hl, hd⟩)⟩
    · exact ⟨none, _, by have := run_endLoop (P := P) hl (by rw [hmk]; simp); rw [hmk] at this; exact this, hdone _ _ (Nat.le_refl _) (hI.putObj _ hi (by omega) hl rfl) ((World.putObj_heap_other (by omega)).trans hd)⟩
    · exact ⟨some .ret, _, by have := run_endLoop (P := P) hl (by rw [hmk]; simp); rw [hmk] at this; exact this, hstop _ _ (Nat.le_refl _) (hIx.putObj (s := ()) _ hi (by omega) hl rfl) ((World.putObj_heap_other (by omega)).trans hd)⟩
end
end Go.Proofs.YtepanogpojolfaaDoor

namespace Go.Proofs.YtepanogpojolfaaDoor
open Go.RowKit

def byteVals (l : List UInt8) : List Value := l.map fun c => .int .u8 (c.toNat : Int)
/-- v is a slice of the call's own, its elements are the bytes l. -/
def Buf (w : World) (B : Nat) (E : TypeId) (v : Value) (l : List UInt8) : Prop := w.ownsRow B E 1 v l.length (byteVals l)

theorem Buf.put {w : World} {B : Nat} {E : TypeId} {v : Value} {l m : List UInt8} {n : Nat} (hn : n = m.length) (h : w.ownsRow B E 1 v (l.length + n) (byteVals l ++ byteVals m)) : Buf w B E v (l ++ m) := by
  subst hn
  unfold Buf byteVals
  rw [List.length_append, List.map_append]
  exact h

theorem Buf.below {w wr wx w1 : World} {B : Nat} {E : TypeId} {v : Value} {l : List UInt8} (h : Buf wr B E v l) (hb : Below B w wx) (hg : wx.grownBy w1 v.ownBlock) (hB : B ≤ wx.heap.size) : Below B w w1 :=
  hb.grown hg hB (fun k hk => (h.lt k hk).1)

theorem Buf.string {P : Program} {w : World} {B : Nat} {E : TypeId} {v : Value} {l : List UInt8} {src dst : TypeId} (hs : P.underlying src = some (.slice E)) (he : P.underlying E = some (.int .u8)) (hd : P.underlying dst = some .string)
    (h : Buf w B E v l) : (convert src dst v).run P w = .ok (.string ⟨l.toArray⟩) w := by
  rcases h.2 with ⟨hv, hn⟩ | ⟨g, cap, cur, hv, _⟩
  · obtain rfl : l = [] := List.length_eq_zero_iff.1 hn
    rw [hv]
    show (convert src dst (.slice none 0 0)).run P w = .ok (.string ⟨#[]⟩) w
    rw [run_convert_bytes_string w src dst E none 0 0 hs he hd]
    simp [Conv.bytesToString]
    rfl
  · have h' := h
    unfold Buf at h'
    rw [hv] at h' ⊢
    refine run_convert_bytes_back w src dst E _ cap l hs he hd fun j hj => ?_
    have := h'.cells (g := g) rfl j _ (List.getElem?_eq_getElem (by simpa [byteVals] using hj))
    rw [this]
    simp [byteVals]
end Go.Proofs.YtepanogpojolfaaDoor

namespace Go.Proofs.YtepanogpojolfaaDoor
open Go.RowKit
set_option linter.unusedVariables false
theorem Tryd.info_u8 : (Tryd.prog.info? 5).map (fun i => (i.zero, i.size, i.bytes)) = some (some (.int .u8 0), 1, 1) := by kernel_rfl

theorem zero_cells (n : Nat) : (madeCells (Value.cells (.int .u8 0)) (n * 1)).toList = byteVals (List.replicate n 0) := by
  rw [show Value.cells (.int .u8 0) = #[.int .u8 0] from rfl, Nat.mul_one, toList_madeCells_one]
  simp [byteVals]
theorem zero_le (x k m : Nat) (h : k < m) : (byteVals (leL x k ++ List.replicate (m - k) 0))[k]? = some (.int .u8 0) := by
  unfold byteVals
  rw [List.map_append, List.getElem?_append_right (by rw [List.length_map, leL_len]; exact Nat.le_refl _), List.length_map, leL_len, Nat.sub_self]
  obtain ⟨r, hr⟩ : ∃ r, m - k = r + 1 := ⟨m - k - 1, by omega⟩
  rw [hr, List.replicate_succ]
  rfl
theorem set_le (x k m : Nat) (h : k < m) :
    (byteVals (leL x k ++ List.replicate (m - k) 0)).set k (.int .u8 ((leAt x k).toNat : Int)) = byteVals (leL x (k + 1) ++ List.replicate (m - (k + 1)) 0) := by
  unfold byteVals
  rw [leL_succ, List.map_append, List.set_append_right _ _ (by rw [List.length_map, leL_len]; exact Nat.le_refl _), List.length_map, leL_len, Nat.sub_self]
  obtain ⟨r, hr⟩ : ∃ r, m - k = r + 1 := ⟨m - k - 1, by omega⟩
  rw [hr, show m - (k + 1) = r from by omega, List.replicate_succ]
  simp

end Go.Proofs.YtepanogpojolfaaDoor

namespace Go.Proofs.YtepanogpojolfaaDoor
open Go.RowKit
set_option linter.unusedVariables false

def widthOK (n : Int) : Prop := n = 1 ∨ n = 2 ∨ n = 4 ∨ n = 8
theorem ret_two {a b : List UInt8} {x y : Int} (h : a = b) (k : x = y) : Ending.returned (.tuple #[.string ⟨a.toArray⟩, .int .i64 x]) = .returned (.tuple #[.string ⟨b.toArray⟩, .int .i64 y]) := by rw [h, k]

end Go.Proofs.YtepanogpojolfaaDoor

namespace Go.Proofs.YtepanogpojolfaaDoor

/-- The number that the bytes f 0, f 1 .. are, the lowest one first. -/
def valF (f : Nat → UInt8) : Nat → Nat
  | 0 => 0
  | n + 1 => valF f n + (f n).toNat * 256 ^ n

theorem valF_lt (f : Nat → UInt8) (n : Nat) : valF f n < 256 ^ n := by
  induction n with
  | zero => simp [valF]
  | succ n ih =>
    have hf := (f n).toNat_lt
    have : (f n).toNat * 256 ^ n ≤ 255 * 256 ^ n := Nat.mul_le_mul_right _ (by omega)
    rw [valF, Nat.pow_succ]
    omega

theorem valF_congr (f g : Nat → UInt8) : ∀ n, (∀ i, i < n → f i = g i) → valF f n = valF g n
  | 0, _ => rfl
  | n + 1, h => by rw [valF, valF, valF_congr f g n (fun i hi => h i (by omega)), h n (by omega)]

theorem valF_horner (f : Nat → UInt8) (n k o : Nat) (h : valF f n = valF f (k + 1) + 256 ^ (k + 1) * o) : valF f n = valF f k + 256 ^ k * (256 * o + (f k).toNat) := by
  rw [h, valF, Nat.pow_succ, Nat.mul_add, Nat.mul_comm (f k).toNat, Nat.mul_assoc]
  omega

theorem horner_bd (f : Nat → UInt8) (n k o : Nat) (hn : n ≤ 8) (h : valF f n = valF f (k + 1) + 256 ^ (k + 1) * o) : o ≤ 72057594037927935 := by
  have h1 := valF_lt f n
  have h2 : 256 ^ n ≤ 256 ^ 8 := Nat.pow_le_pow_right (by decide) hn
  have h3 : 256 ^ 1 ≤ 256 ^ (k + 1) := Nat.pow_le_pow_right (by decide) (by omega)
  have h4 : 256 * o ≤ 256 ^ (k + 1) * o := Nat.mul_le_mul_right _ (by simpa using h3)
  have h5 : (256 : Nat) ^ 8 = 18446744073709551616 := by decide
  omega

theorem or_up (v c k : Nat) (h : v < 2 ^ k) : v ||| c * 2 ^ k = v + c * 2 ^ k := by
  rw [Nat.or_comm, ← Nat.shiftLeft_eq, ← Nat.shiftLeft_add_eq_or_of_lt h]
  omega
theorem pow_256 (k : Nat) : (256 : Nat) ^ k = 2 ^ (8 * k) := by
  rw [Nat.pow_mul]

theorem or_u8 (v c k : Nat) (hk : k < 1) (hv : v < 256 ^ k) (hc : c < 256) : bits .or .u8 (v : Int) (IntKind.u8.wrap ((c : Int) * 2 ^ (8 * k))) = ((v + c * 256 ^ k : Nat) : Int) := by
  have h1 : 256 ^ k * 256 ≤ 256 ^ 1 := by rw [← Nat.pow_succ]; exact Nat.pow_le_pow_right (by decide) hk
  have h2 : c * 256 ^ k < 256 ^ k * 256 := by
    rw [Nat.mul_comm]
    exact Nat.mul_lt_mul_of_pos_left hc (Nat.pow_pos (by decide))
  have h5 : (256 : Nat) ^ 1 = 256 := by decide
  have e2 : (c : Int) * 2 ^ (8 * k) = ((c * 256 ^ k : Nat) : Int) := by
    rw [pow_256]
    simp
  have e3 : IntKind.u8.wrap ((c * 256 ^ k : Nat) : Int) = ((c * 256 ^ k : Nat) : Int) := by
    show ((c * 256 ^ k : Nat) : Int) % 256 = _
    omega
  rw [e2, e3, u8_or_nat _ _ (by omega) (by omega), pow_256, or_up v c (8 * k) (by rw [← pow_256]; exact hv)]

theorem or_u16 (v c k : Nat) (hk : k < 2) (hv : v < 256 ^ k) (hc : c < 256) : bits .or .u16 (v : Int) (IntKind.u16.wrap (IntKind.u16.wrap (c : Int) * 2 ^ (8 * k))) = ((v + c * 256 ^ k : Nat) : Int) := by
  have h1 : 256 ^ k * 256 ≤ 256 ^ 2 := by rw [← Nat.pow_succ]; exact Nat.pow_le_pow_right (by decide) hk
  have h2 : c * 256 ^ k < 256 ^ k * 256 := by
    rw [Nat.mul_comm]
    exact Nat.mul_lt_mul_of_pos_left hc (Nat.pow_pos (by decide))
  have h5 : (256 : Nat) ^ 2 = 65536 := by decide
  have e1 : IntKind.u16.wrap (c : Int) = (c : Int) := by
    show (c : Int) % 65536 = _
    omega
  have e2 : (c : Int) * 2 ^ (8 * k) = ((c * 256 ^ k : Nat) : Int) := by
    rw [pow_256]
    simp
  have e3 : IntKind.u16.wrap ((c * 256 ^ k : Nat) : Int) = ((c * 256 ^ k : Nat) : Int) := by
    show ((c * 256 ^ k : Nat) : Int) % 65536 = _
    omega
  rw [e1, e2, e3, u16_or_nat _ _ (by omega) (by omega), pow_256, or_up v c (8 * k) (by rw [← pow_256]; exact hv)]

theorem or_u32 (v c k : Nat) (hk : k < 4) (hv : v < 256 ^ k) (hc : c < 256) : bits .or .u32 (v : Int) (IntKind.u32.wrap (IntKind.u32.wrap (c : Int) * 2 ^ (8 * k))) = ((v + c * 256 ^ k : Nat) : Int) := by
  have h1 : 256 ^ k * 256 ≤ 256 ^ 4 := by rw [← Nat.pow_succ]; exact Nat.pow_le_pow_right (by decide) hk
  have h2 : c * 256 ^ k < 256 ^ k * 256 := by
    rw [Nat.mul_comm]
    exact Nat.mul_lt_mul_of_pos_left hc (Nat.pow_pos (by decide))
  have h5 : (256 : Nat) ^ 4 = 4294967296 := by decide
  have e1 : IntKind.u32.wrap (c : Int) = (c : Int) := by
    show (c : Int) % 4294967296 = _
    omega
  have e2 : (c : Int) * 2 ^ (8 * k) = ((c * 256 ^ k : Nat) : Int) := by
    rw [pow_256]
    simp
  have e3 : IntKind.u32.wrap ((c * 256 ^ k : Nat) : Int) = ((c * 256 ^ k : Nat) : Int) := by
    show ((c * 256 ^ k : Nat) : Int) % 4294967296 = _
    omega
  rw [e1, e2, e3, u32_or_nat _ _ (by omega) (by omega), pow_256, or_up v c (8 * k) (by rw [← pow_256]; exact hv)]

theorem or_u64 (v c k : Nat) (hk : k < 8) (hv : v < 256 ^ k) (hc : c < 256) : bits .or .u64 (v : Int) (IntKind.u64.wrap (IntKind.u64.wrap (c : Int) * 2 ^ (8 * k))) = ((v + c * 256 ^ k : Nat) : Int) := by
  have h1 : 256 ^ k * 256 ≤ 256 ^ 8 := by rw [← Nat.pow_succ]; exact Nat.pow_le_pow_right (by decide) hk
  have h2 : c * 256 ^ k < 256 ^ k * 256 := by
    rw [Nat.mul_comm]
    exact Nat.mul_lt_mul_of_pos_left hc (Nat.pow_pos (by decide))
  have h5 : (256 : Nat) ^ 8 = 18446744073709551616 := by decide
  have e1 : IntKind.u64.wrap (c : Int) = (c : Int) := by
    show (c : Int) % 18446744073709551616 = _
    omega
  have e2 : (c : Int) * 2 ^ (8 * k) = ((c * 256 ^ k : Nat) : Int) := by
    rw [pow_256]
    simp
  have e3 : IntKind.u64.wrap ((c * 256 ^ k : Nat) : Int) = ((c * 256 ^ k : Nat) : Int) := by
    show ((c * 256 ^ k : Nat) : Int) % 18446744073709551616 = _
    omega
  rw [e1, e2, e3, u64_or_nat _ _ (by omega) (by omega), pow_256, or_up v c (8 * k) (by rw [← pow_256]; exact hv)]
end Go.Proofs.YtepanogpojolfaaDoor

namespace Go.Proofs.YtepanogpojolfaaDoor
open Go.RowKit
set_option linter.unusedVariables false

/-- The byte at a place of a text. -/
def bt (s : ByteArray) (i : Nat) : UInt8 := s.data.toList.getD i 0
theorem bt_eq (s : ByteArray) (i : Nat) (h : i < s.size) : s[i] = bt s i := by
  have hl : s.data.toList.length = s.size := by rw [Array.length_toList]; rfl
  show s.data[i] = _
  unfold bt
  simp [List.getD, h]

set_option maxRecDepth 100000 in
set_option maxHeartbeats 1000000 in
theorem gather_u32 (s : ByteArray) (w : World) (hs : s.size ≤ 4) :
    Calls Tryd.prog 109 #[.string s] w fun e w' => e = .returned (.int .u32 (valF (bt s) s.size : Nat)) ∧ w' = w := by
  go_enter Tryd.func109, Tryd.ntmps109
  go_wp2
  go_loop [3, 7] (fun x t => ∃ k v : Nat, k ≤ s.size ∧ t = .int .i64 k ∧ x = .int .u32 v ∧ Hid (v = valF (bt s) k)) (fun _ t => s.size - (intOf t).toNat)
  case atStart => exact ⟨0, 0, Nat.zero_le _, rfl, rfl, rfl⟩
  case round =>
    obtain ⟨k, v, hk, rfl, rfl, hv⟩ := hrel
    by_cases hlt : k < s.size
    · have hor := or_u32 v s[k].toNat k (by omega) (by rw [hv.out]; exact valF_lt _ _) s[k].toNat_lt
      obtain ⟨u, hu⟩ : ∃ u, u = v + s[k].toNat * 256 ^ k := ⟨_, rfl⟩
      rw [← hu] at hor
      have hor2 : bits .or .u32 (v : Int) (((s[k].toNat : Nat) : Int) % 4294967296 * 2 ^ (8 * k) % 4294967296) = (u : Int) := hor
      have HU : Hid (u = valF (bt s) (k + 1)) := by
        show u = _
        rw [hu, hv.out, valF, bt_eq s k hlt]
      clear hu
      go_wp2
      go_round
      case rel => exact ⟨k + 1, u, by omega, by go_num, rfl, HU⟩
      case measure => simp [intOf]; omega
    · obtain rfl : k = s.size := by omega
      go_wp2
      go_ret
      exact ⟨congrArg (fun x : Nat => Ending.returned (.int .u32 (x : Int))) hv.out, rfl⟩

end Go.Proofs.YtepanogpojolfaaDoor

namespace Go.Proofs.YtepanogpojolfaaDoor
open Go.RowKit
set_option linter.unusedVariables false

theorem specIn (x low high : Int) (w : World) (b : Bool) (h : (b = true ∧ low ≤ x ∧ x ≤ high) ∨ (b = false ∧ (x < low ∨ high < x))) :
    Calls Tryd.prog 60 #[.int .i64 x, .int .i64 low, .int .i64 high] w fun e w' => e = .returned (.bool b) ∧ w' = w := by
  rcases h with ⟨rfl, h0, h1⟩ | ⟨rfl, h⟩
  · go_enter Tryd.func60, Tryd.ntmps60
    go_wp2
    go_ret
    refine ⟨congrArg (fun x => Ending.returned (.bool x)) ?_, rfl⟩
    first | rfl | (simp; done) | (simp; omega)
  · by_cases h0 : x < low
    · go_enter Tryd.func60, Tryd.ntmps60
      go_wp2
      go_ret
      refine ⟨congrArg (fun x => Ending.returned (.bool x)) ?_, rfl⟩
      first | rfl | (simp; done) | (simp; omega)
    · have h1 : high < x := by omega
      clear h
      go_enter Tryd.func60, Tryd.ntmps60
      go_wp2
      go_ret
      refine ⟨congrArg (fun x => Ending.returned (.bool x)) ?_, rfl⟩
      first | rfl | (simp; done) | (simp; omega)

end Go.Proofs.YtepanogpojolfaaDoor
