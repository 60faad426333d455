/- Where each instruction stands in an epilogue: the program's partsOf. Lists of ints: copied, held against each other, marked, held against their marks. A range over a function value that keeps its state in one cell of its own: a law for the caller (any program). An instruction's word: plain. Which word is an instruction of which shape: plain. The bits of a word that are alike in all instructions of one Op: contracts. Which word is an instruction of which shape: plain (2). -/
import Derived.Test.YtelogjpjglohoaaGreatDoorGXTabBase20
import Derived.Deep.OwnRows
import Derived.WalkMore
import Derived.ChangeArms
import Derived.Deep.Slices
import Derived.RangeFuncNested
import Derived.RangeFuncCalls
import Derived.RangeFuncLeaves
import Derived.Shelf.Abstract
import Derived.Shelf.RegionOpen
import Derived.WalkKit
import Derived.OwnWalkIn
import Derived.TacticsInMore
import Derived.LoopNIn
import Derived.LoopIn
import Derived.Test.YtelogjpjglohoaaGreatDoorGXTabBase12
import Derived.Test.YtelogjpjglohoaaGreatDoorGXTabBase14
import Derived.Test.YtelogjpjglohoaaGreatDoorGXTabBase13
namespace Go.Proofs.YtelogjpjglohoaaGreatDoor
open Go Go.RowKit
set_option linter.unusedVariables false
theorem Tryz.info_int5 : (Tryz.prog.info? 3).map (fun i => (i.zero, i.size, i.bytes)) = some (some (.int .i64 0), 1, 8) := by kernel_rfl

/-- The k-th instruction of an epilogue stands at s + k. -/
def EqE (R : Nat → Int) (f : Int) (s k : Nat) : Prop := ∀ j, j < 5 → R ((s + k) * 5 + j) = epiR f (k * 5 + j)
theorem epB_of {R : Nat → Int} {N : Nat} {f : Int} {s : Nat} (h2 : 2 ≤ s) (hN : s + 3 ≤ N) (h : ∀ k, k < 3 → EqE R f s k) : epB R N f s = true := by
  refine epB_iff.2 ⟨⟨h2, hN⟩, fun j hj => ?_⟩
  have := h (j / 5) (by omega) (j % 5) (by omega)
  rwa [show (s + j / 5) * 5 + j % 5 = s * 5 + j from by omega, show j / 5 * 5 + j % 5 = j from by omega] at this
theorem epB_not {R : Nat → Int} {N : Nat} {f : Int} {s k : Nat} (hk : k < 3) (h : ¬ EqE R f s k) : epB R N f s = false := by
  cases e : epB R N f s with
  | false => rfl
  | true =>
    refine absurd (fun j hj => ?_) h
    have := (epB_iff.1 e).2 (k * 5 + j) (by omega)
    rwa [show s * 5 + (k * 5 + j) = (s + k) * 5 + j from by omega] at this
theorem partU_zero (R : Nat → Int) (N : Nat) (f : Int) (i : Nat) : partU R N f 2 i = 0 := by
  have h : ∀ j, epB R N f j = true → 2 ≤ j := fun j h => ep_at0 h
  unfold partU
  rw [if_neg (fun c => by have := h _ c.1; omega), if_neg (fun c => by have := h _ c.1; omega), if_neg (fun c => by have := h _ c.1; omega)]
theorem partU_last (R : Nat → Int) (N : Nat) (f : Int) (s i : Nat) (hs : N < s + 3) : partU R N f s i = partI R N f i := by
  have h : ∀ j, (epB R N f j = true ∧ j < s) ↔ epB R N f j = true := fun j => ⟨fun h => h.1, fun h => ⟨h, by have := (epB_iff.1 h).1.2; omega⟩⟩
  unfold partU partI
  simp only [h]
theorem partU_not (R : Nat → Int) (N : Nat) (f : Int) (s i : Nat) (hs : epB R N f s = false) : partU R N f s i = partU R N f (s + 1) i := by
  have h : ∀ j, (epB R N f j = true ∧ j < s) ↔ (epB R N f j = true ∧ j < s + 1) := fun j => ⟨fun h => ⟨h.1, by omega⟩, fun h => ⟨h.1, by
    have : j ≠ s := fun e => by rw [e, hs] at h; cases h.1
    omega⟩⟩
  unfold partU
  simp only [h]
theorem partU_yes (R : Nat → Int) (N : Nat) (f : Int) (s i : Nat) (hs : epB R N f s = true) : (if i = s + 2 then 3 else if i = s + 1 then 2 else if i = s then 1 else partU R N f s i) = partU R N f (s + 1) i := by
  have h1 := epB_next hs
  have h2 := epB_next2 hs
  have h3 := ep_at0 hs
  unfold partU
  by_cases e0 : i = s
  · subst e0
    rw [if_neg (by omega), if_neg (by omega), if_pos rfl, if_pos ⟨hs, by omega⟩]
  · by_cases e1 : i = s + 1
    · subst e1
      rw [if_neg (by omega), if_pos rfl, h1, if_neg (by simp), show s + 1 - 1 = s from by omega, if_pos ⟨hs, by omega⟩]
    · by_cases e2 : i = s + 2
      · subst e2
        rw [if_pos rfl, h2, if_neg (by simp), show s + 2 - 1 = s + 1 from by omega, h1, if_neg (by simp), show s + 2 - 2 = s from by omega, if_pos ⟨hs, by omega⟩]
      · rw [if_neg e2, if_neg e1, if_neg e0]
        have a0 : (epB R N f i = true ∧ i < s) ↔ (epB R N f i = true ∧ i < s + 1) := ⟨fun h => ⟨h.1, by omega⟩, fun h => ⟨h.1, by omega⟩⟩
        have a1 : (epB R N f (i - 1) = true ∧ i - 1 < s) ↔ (epB R N f (i - 1) = true ∧ i - 1 < s + 1) := ⟨fun h => ⟨h.1, by omega⟩, fun h => ⟨h.1, by omega⟩⟩
        have a2 : (epB R N f (i - 2) = true ∧ i - 2 < s) ↔ (epB R N f (i - 2) = true ∧ i - 2 < s + 1) := ⟨fun h => ⟨h.1, by omega⟩, fun h => ⟨h.1, by omega⟩⟩
        simp only [a0, a1, a2]

/-- The tail and the parts, at a round of the loop over starts. -/
structure PtIs (w0 w : World) (g q G N : Nat) (R S T : Nat → Int) : Prop where
  b : Below w0.heap.size w0 w
  lg : g < w0.heap.size
  lq : w0.heap.size ≤ q
  qG : q < G
  lG : G < w.heap.size
  l : Rdb w g 0 (N * 5) R
  t : Rdb w G 0 (3 * 5) S
  p : Flat w q 0 N T
theorem PtIs.to {w0 w w' : World} {g q G N : Nat} {R S T : Nat → Int} (h : PtIs w0 w g q G N R S T) (hb : Below w.heap.size w w') : PtIs w0 w' g q G N R S T :=
  ⟨h.b.trans (hb.mono h.b.size), h.lg, h.lq, h.qG, Nat.lt_of_lt_of_le h.lG hb.size, h.l.below hb (Nat.lt_of_lt_of_le h.lg h.b.size), h.t.below hb h.lG, h.p.below hb (Nat.lt_trans h.qG h.lG)⟩
theorem PtIs.drew {w0 w : World} {g q G N : Nat} {R S T : Nat → Int} (h : PtIs w0 w g q G N R S T) : PtIs w0 w.drew g q G N R S T := h.to (Below.refl _ _).drew
theorem PtIs.congr {w0 w : World} {g q G N : Nat} {R S T T' : Nat → Int} (h : PtIs w0 w g q G N R S T) (e : ∀ i, i < N → T i = T' i) : PtIs w0 w g q G N R S T' := ⟨h.b, h.lg, h.lq, h.qG, h.lG, h.l, h.t, h.p.congr e⟩
theorem PtIs.set {w0 w : World} {g q G N : Nat} {R S T : Nat → Int} (h : PtIs w0 w g q G N R S T) (t : Nat) (ht : t < N) (x : Int) : PtIs w0 (w.setCell ⟨q, t, none⟩ (.int .i64 x)) g q G N R S (fun i => if i = t then x else T i) := by
  have ne : ∀ b i, b ≠ q → (w.setCell ⟨q, t, none⟩ (.int .i64 x)).cell? ⟨b, i, none⟩ = w.cell? ⟨b, i, none⟩ := fun b i hb => World.cell?_setCell_other _ _ _ _ (fun c => hb (by have := congrArg Addr.block c; simp at this; omega))
  refine ⟨h.b.setCell (p := ⟨q, t, none⟩) h.lq _, h.lg, h.lq, h.qG, by simpa using h.lG, fun i hi => ?_, fun i hi => ?_, ?_⟩
  · rw [ne _ _ (by have := h.lg; have := h.lq; omega)]; exact h.l i hi
  · rw [ne _ _ (by have := h.qG; omega)]; exact h.t i hi
  · have := h.p.set t ht (a := t) (by omega) x
    exact this

set_option maxRecDepth 100000 in
set_option maxHeartbeats 16000000 in
theorem partsC (g N cl : Nat) (f : Int) (R : Nat → Int) (w : World) (hg : g < w.heap.size) (hN : N ≤ 64) (h5 : 5 ≤ N) (hf : frB f = true) (hl : Rdb w g 0 (N * 5) R) :
    Calls Tryz.prog 105 #[.slice (some ⟨g, 0, none⟩) N cl, .int .i64 f] w fun e w' => ∃ q, e = .returned (.slice (some ⟨q, 0, none⟩) N N) ∧ Below w.heap.size w w' ∧ w.heap.size ≤ q ∧ q < w'.heap.size ∧ Rdb w' q 0 N (partI R N f) := by
  obtain ⟨i0, hi, hz0, hz1, hz2⟩ := info_parts Tryz.info_int5
  go_enter Tryz.func105, Tryz.ntmps105
  go_wp2
  go_step3
  go_wp2_with (at_make; refine wpList_make_full _ rfl _ _ 85 rfl w.heap.size 3 i0 _ 1 Tryz.underlying85 hi hz0 hz1 .i64 .i64 _ _ N rfl rfl (by omega) (by omega) (by rw [hz2]; omega) (by unfold maxLen; omega) (Nat.le_refl _) ?_; intro wm hm hgm)
  go_wp2_with fail
  refine (epiImpl f _ hf).mono ?_
  rintro e w1 ⟨G, rfl, hb, hG, hlt, hfl⟩
  go_wp2_with fail
  have hst : PtIs w w1 g w.heap.size G N R (epiR f) (partU R N f 2) := by
    have b0 : Below w.heap.size w wm := (Below.refl _ _).grown hgm (Nat.le_refl _) (fun _ h => by cases h)
    have hp0 : Flat wm w.heap.size 0 N (partU R N f 2) := fun i hi => by
      have h1 := hm.cellAt i (by omega)
      rw [partU_zero, Nat.zero_add]
      exact ⟨h1.trans (by simp [Value.cells, madeCells, hi, Nat.mod_one]), hm.frozenAt i⟩
    have hq : w.heap.size < wm.heap.size := by
      rcases Nat.lt_or_ge w.heap.size wm.heap.size with h | h
      · exact h
      · have := (hp0 0 (by omega)).1
        simp [World.cell?, Array.getElem?_eq_none h] at this
    exact ⟨b0.trans (hb.mono b0.size), hg, Nat.le_refl _, Nat.lt_of_lt_of_le hq hG, hlt, (hl.below b0 hg).below hb (Nat.lt_of_lt_of_le hg b0.size), hfl.rd, hp0.below hb hq⟩
  clear hb hG hlt hfl
  go_step3
  go_wp2_with fail
  go_loopw [8] (fun i wr => ∃ s : Nat, 2 ≤ s ∧ s ≤ N ∧ i = .int .i64 s ∧ PtIs w wr g w.heap.size G N R (epiR f) (partU R N f s)) (fun i _ => (N + 1) - (intOf i).toNat)
  case atStart => exact ⟨2, by omega, by omega, rfl, hst⟩
  case round =>
    obtain ⟨s, hs2, hsN, rfl, hp⟩ := hrel
    clear hst
    by_cases hlt : s + 3 ≤ N
    · go_wp2_with fail
      go_loopw [31] (fun i wr => ∃ m : Nat, m ≤ 3 ∧ i = .int .i64 m ∧ (∀ j, j < m → EqE R f s j) ∧ PtIs w wr g w.heap.size G N R (epiR f) (partU R N f s)) (fun i _ => 3 - (intOf i).toNat)
      case atStart => exact ⟨0, by omega, rfl, fun j h => by omega, hp⟩
      case round =>
        obtain ⟨m, hm3, rfl, hok, hp⟩ := hrel
        by_cases hm : m < 3
        · obtain ⟨y0, y1, y2, y3, y4⟩ := hp.t.five (k := m) hm
          obtain ⟨b0, e0⟩ : ∃ b, epiR f (m * 5) = b := ⟨_, rfl⟩
          obtain ⟨b1, e1⟩ : ∃ b, epiR f (m * 5 + 1) = b := ⟨_, rfl⟩
          obtain ⟨b2, e2⟩ : ∃ b, epiR f (m * 5 + 2) = b := ⟨_, rfl⟩
          obtain ⟨b3, e3⟩ : ∃ b, epiR f (m * 5 + 3) = b := ⟨_, rfl⟩
          obtain ⟨b4, e4⟩ : ∃ b, epiR f (m * 5 + 4) = b := ⟨_, rfl⟩
          simp only [Nat.zero_add] at y0 y1 y2 y3 y4
          rw [e0] at y0
          rw [e1] at y1
          rw [e2] at y2
          rw [e3] at y3
          rw [e4] at y4
          have B1 : Below wr.heap.size wr (wr.alloc (.cells #[.int .i64 b0, .int .i64 b1, .int .i64 b2, .int .i64 b3, .int .i64 b4] 93)) := (Below.refl _ _).alloc (Nat.le_refl _) _
          have hp1 := hp.to B1
          obtain ⟨x0, x1, x2, x3, x4⟩ := hp1.l.five (k := s + m) (by omega)
          simp only [Nat.zero_add] at x0 x1 x2 x3 x4
          have hgu := guardIns
          have hsm : sm5 (R ((s + m) * 5)) (R ((s + m) * 5 + 1)) (R ((s + m) * 5 + 2)) (R ((s + m) * 5 + 3)) (R ((s + m) * 5 + 4)) b0 b1 b2 b3 b4 = true ↔ EqE R f s m := by
            rw [sm5_iff, ← e0, ← e1, ← e2, ← e3, ← e4]
            unfold EqE
            constructor
            · rintro ⟨a0, a1, a2, a3, a4⟩ j hj
              match j, hj with
              | 0, _ => exact a0
              | 1, _ => exact a1
              | 2, _ => exact a2
              | 3, _ => exact a3
              | 4, _ => exact a4
            · intro a
              exact ⟨a 0 (by omega), a 1 (by omega), a 2 (by omega), a 3 (by omega), a 4 (by omega)⟩
          have heq := fun w => eqlIns (R ((s + m) * 5)) (R ((s + m) * 5 + 1)) (R ((s + m) * 5 + 2)) (R ((s + m) * 5 + 3)) (R ((s + m) * 5 + 4)) b0 b1 b2 b3 b4 w
          have hmN : s + m < N := by omega
          by_cases hE : EqE R f s m
          · rw [hsm.2 hE] at heq
            clear hsm e0 e1 e2 e3 e4
            go_wp2_with fail
            go_region
            go_wp2_with fail
            go_round
            case rel => exact ⟨m + 1, by omega, by go_num, fun j hj => by
              rcases Nat.lt_succ_iff_lt_or_eq.1 hj with h | rfl
              · exact hok j h
              · exact hE, hp1.drew⟩
            case measure => simp [intOf]; omega
          · have hs : sm5 (R ((s + m) * 5)) (R ((s + m) * 5 + 1)) (R ((s + m) * 5 + 2)) (R ((s + m) * 5 + 3)) (R ((s + m) * 5 + 4)) b0 b1 b2 b3 b4 = false := by
              cases e : sm5 (R ((s + m) * 5)) (R ((s + m) * 5 + 1)) (R ((s + m) * 5 + 2)) (R ((s + m) * 5 + 3)) (R ((s + m) * 5 + 4)) b0 b1 b2 b3 b4
              · rfl
              · exact absurd (hsm.1 e) hE
            rw [hs] at heq
            clear hsm hs e0 e1 e2 e3 e4
            go_wp2_with fail
            go_region
            go_wp2_with fail
            go_round
            case rel => exact ⟨s + 1, by omega, by omega, by go_num, hp1.drew.congr (fun i _ => partU_not R N f s i (epB_not hm hE))⟩
            case measure => simp [intOf]; omega
        · obtain rfl : m = 3 := by omega
          have hyes := epB_of hs2 hlt hok
          go_wp2_with fail
          go_loopw [47] (fun i wr => ∃ m : Nat, m ≤ 3 ∧ i = .int .i64 m ∧ PtIs w wr g w.heap.size G N R (epiR f) (fun i => if s ≤ i ∧ i < s + m then ((i : Int) - s + 1) else partU R N f s i)) (fun i _ => 3 - (intOf i).toNat)
          case atStart => exact ⟨0, by omega, rfl, hp.congr (fun i _ => by rw [if_neg (by omega)])⟩
          case round =>
            obtain ⟨m, hm3, rfl, hp⟩ := hrel
            by_cases hm : m < 3
            · have hmN : s + m < N := by omega
              have y0 := (hp.p (s + m) hmN).1
              have y1 := (hp.p (s + m) hmN).2
              rw [Nat.zero_add] at y0 y1
              have hp1 := hp.set (s + m) hmN (1 + (m : Int))
              go_wp2_with fail
              go_round
              case rel => exact ⟨m + 1, by omega, by go_num, hp1.congr (fun i _ => by
                by_cases e : i = s + m
                · subst e; rw [if_pos rfl, if_pos (by omega)]; omega
                · rw [if_neg e]
                  by_cases e2 : s ≤ i ∧ i < s + m
                  · rw [if_pos e2, if_pos (by omega)]
                  · rw [if_neg e2, if_neg (by omega)])⟩
              case measure => simp [intOf]; omega
            · obtain rfl : m = 3 := by omega
              have hp2 := hp.congr (T' := partU R N f (s + 1)) (fun i _ => by
                rw [← partU_yes R N f s i hyes]
                by_cases e2 : i = s + 2
                · subst e2; rw [if_pos (by omega), if_pos rfl]; omega
                · rw [if_neg e2]
                  by_cases e1 : i = s + 1
                  · subst e1; rw [if_pos (by omega), if_pos rfl]; omega
                  · rw [if_neg e1]
                    by_cases e0 : i = s
                    · subst e0; rw [if_pos (by omega), if_pos rfl]; omega
                    · rw [if_neg e0, if_neg (by omega)])
              clear hp
              go_wp2_with fail
              go_round
              case rel => exact ⟨s + 1, by omega, by omega, by go_num, hp2⟩
              case measure => simp [intOf]; omega
    · go_wp2_with fail
      simp only [Exit.noGoto_ret]
      go_ret
      exact ⟨_, rfl, hp.b, hp.lq, Nat.lt_trans hp.qG hp.lG, (hp.p.congr (fun i hi => partU_last R N f s i (by omega))).rd⟩
end Go.Proofs.YtelogjpjglohoaaGreatDoor

namespace Go.Proofs.YtelogjpjglohoaaGreatDoor
open Go Go.RowKit
set_option linter.unusedVariables false

/-- A list of n ints: where it is not empty its cells lie in a block. -/
def RowAt (w : World) (p : Option Addr) (n : Nat) (R : Nat → Int) : Prop := n = 0 ∨ ∃ b o, p = some ⟨b, o, none⟩ ∧ b < w.heap.size ∧ Rdb w b o n R
theorem RowAt.below {w w' : World} {p : Option Addr} {n : Nat} {R : Nat → Int} (h : RowAt w p n R) (hb : Below w.heap.size w w') : RowAt w' p n R := by
  rcases h with h | ⟨b, o, e, hlt, hf⟩
  · exact .inl h
  · exact .inr ⟨b, o, e, Nat.lt_of_lt_of_le hlt hb.size, hf.below hb hlt⟩
theorem IntsAt.row {w : World} {p : Option Addr} {zs : List Int} (h : IntsAt w p zs) : RowAt w p zs.length (fun i => zs.getD i 0) := h

end Go.Proofs.YtelogjpjglohoaaGreatDoor

namespace Go.Proofs.YtelogjpjglohoaaGreatDoor
open Go Go.RowKit
set_option linter.unusedVariables false
section
variable {F : Fence} {n : Nat} {P : Program}

/-- It stands where block Bc is turned, where blocks are made, and where what is no cells is turned from block B on. -/
def Stands {β : Type} (Bc B : Nat) (I : β → World → Prop) : Prop :=
  ∀ s W W' row, I s W → W.grownBy W' row → (∀ r, row = some r → r = Bc ∨ (B ≤ r ∧ ∃ o : Obj, W.heap[r]? = some o ∧ o.isCells = false)) → I s W'
/-- What a round keeps: what lay below n₀, and the state. -/
def RKeep (n₀ Bc : Nat) (W W' : World) : Prop := Below n₀ W W' ∧ W'.heap[Bc]? = W.heap[Bc]?
theorem RKeep.refl (n₀ Bc : Nat) (W : World) : RKeep n₀ Bc W W := ⟨Below.refl _ _, rfl⟩
theorem RKeep.trans {n₀ Bc : Nat} {X Y Z : World} (h : RKeep n₀ Bc X Y) (k : RKeep n₀ Bc Y Z) : RKeep n₀ Bc X Z := ⟨h.1.trans k.1, k.2.trans h.2⟩
theorem RKeep.turn {n₀ Bc : Nat} {W W' : World} {r : Nat} (hg : W.grownBy W' (some r)) (h0 : n₀ ≤ r) (h1 : Bc ≠ r) (hn : n₀ ≤ W.heap.size) (hb : Bc < W.heap.size) : RKeep n₀ Bc W W' :=
  ⟨(Below.refl n₀ W).grown hg hn (fun k e => by cases e; exact h0), hg.block Bc hb (fun e => h1 (by cases e; rfl))⟩
theorem RKeep.new {n₀ Bc : Nat} {W W' : World} (h : Below W.heap.size W W') (hn : n₀ ≤ W.heap.size) (hb : Bc < W.heap.size) : RKeep n₀ Bc W W' := ⟨h.mono hn, h.block Bc hb⟩
theorem Stands.putObj {β : Type} {Bc B : Nat} {I : β → World → Prop} (h : Stands Bc B I) {s : β} {W : World} {l : Nat} {o : Obj} (o' : Obj) (hs : I s W) (hB : B ≤ l) (hl : W.heap[l]? = some o) (ho : o.isCells = false) : I s (W.putObj l o') :=
  h s W _ (some l) hs (grownBy_putObj' W l o') (fun r e => by cases e; exact .inr ⟨hB, o, hl, ho⟩)
theorem Stands.alloc {β : Type} {Bc B : Nat} {I : β → World → Prop} (h : Stands Bc B I) {s : β} {W : World} (o : Obj) (hs : I s W) : I s (W.alloc o) :=
  h s W _ none hs (World.grownBy_alloc W o none) (fun r e => by cases e)

/-- How the body of round k may be left: it goes on, or it returns. -/
def roundWay (B n₀ Bc : Nat) (I : Nat → World → Prop) (Ix : World → Prop) (k : Nat) (W : World) : Exit → Act → World → Prop
  | .normal, _, W' => KeepsFrom B W W' ∧ RKeep n₀ Bc W W' ∧ I (k + 1) W'
  | .ret, _, W' => KeepsFrom B W W' ∧ Ix W'
  | _, _, _ => False

/-- The function value hands over N elements, one a round, whatever the caller keeps that stands; or as many as a round lets it. -/
def CellSeq (F : Fence) (n : Nat) (P : Program) (g : Nat) (lb : Array Value) (encs : Nat → Array Value) (n₀ Bc N : Nat) (w : World) : Prop :=
  ∀ (l : Nat) (J : Nat → World → Prop) (Jx : World → Prop) (W : World),
    (∀ k A B, J k A → A.grownBy B (some Bc) → J k B) →
    (∀ k W1, k < N → J k W1 → YieldAt F (n - 1) P l (encs k) W1 fun e W' => (e = .returned (.bool true) ∧ J (k + 1) W' ∧ RKeep n₀ Bc W1 W') ∨ (e = .returned (.bool false) ∧ Jx W')) →
    RKeep n₀ Bc w W → J 0 W →
    CallsIn F n P g (#[.func (.yield l) #[] #[]] ++ lb) W fun e W' => (∃ v, e = .returned v) ∧ (J N W' ∨ Jx W')

theorem rangeCell {g : Operand} {ps : Array Tmp} {assign body : Code} {Q : Exit → Act → World → Prop} {a : Act} {w : World}
    (hro : F.round = none) (h1 : 1 ≤ n) {gf : Nat} {lb : Array Value} (hg : a.eval g = .func (.func gf) #[] lb) (hFg : F.fn gf) (eg : ∀ args w, (callFunc gf args).run P w = .ok (.enter gf args) w)
    {encs : Nat → Array Value} {n₀ Bc N : Nat} (hseq : CellSeq F (n - 1) P gf lb encs n₀ Bc N w) (hn₀ : n₀ ≤ w.heap.size) (hBc : Bc < w.heap.size) (hps : ∀ k, (encs k).size = ps.size)
    (I : Nat → World → Prop) (Ix : World → Prop) (hI : Stands Bc w.heap.size I) (hIx : Stands Bc w.heap.size (fun (_ : Unit) => Ix)) (h0 : I 0 w)
    (Ax : Nat → Act → World → Prop) (hAx : ∀ k a', Stands Bc w.heap.size (fun (_ : Unit) W => Ax k a' W))
    (hassign : ∀ (l k : Nat) (W : World) (K : Act → World → Prop), I k W → (∀ a' W', KeepsFrom w.heap.size W W' → RKeep n₀ Bc W W' → I k W' → Ax k a' W' → K a' W') →
      assign.wpIn (F.inRound l) (n - 1 - 1) P (Exit.then K (fun _ _ _ => False)) { tmps := (ps.zip (encs k)).foldl (fun t (p, v) => t.setIfInBounds p v) a.tmps, defers := [] } W)
    (hbody : ∀ (l k : Nat) (a' : Act) (W : World), I k W → Ax k a' W → k < N → body.wpIn (F.inRound l) (n - 1 - 1) P (roundWay w.heap.size n₀ Bc I Ix k W) a' W)
    (hdone : ∀ (D : Nat) (W : World), w.heap.size ≤ D → I N W → W.heap[D]? = some (.deferred (some [])) → Q .normal { a with defers := { target := .collected D, args := #[] } :: a.defers } W)
    (hstop : ∀ (D : Nat) (W : World), w.heap.size ≤ D → Ix W → W.heap[D]? = some (.deferred (some [])) → Code.ret.wpIn F n P Q { a with defers := { target := .collected D, args := #[] } :: a.defers } W) :
    (Code.rangeFunc g ps assign body).wpIn F n P Q a w := by
  refine wpIn_rangeFunc ?_
  intro fn hfn
  rw [hro]
  -- the loop's record (block R) and the block for the rounds' deferred calls (block D)
  obtain ⟨R, hR⟩ : ∃ R : Nat, R = w.heap.size + 1 := ⟨_, rfl⟩
  obtain ⟨mk, hmk⟩ : ∃ mk : LoopState → Option Code → Loop, mk = fun st pe => { state := st, pending := pe, fn, tmps := a.tmps, params := ps, assign, body, defers := w.heap.size } := ⟨_, rfl⟩
  obtain ⟨W1, hW1⟩ : ∃ W1, (w.alloc (.deferred (some []))).alloc (.loop (mk .ready none)) = W1 := ⟨_, rfl⟩
  have hB1 : Below w.heap.size w W1 := by rw [← hW1]; exact ((Below.refl _ w).alloc (Nat.le_refl _) _).alloc (by simp) _
  have hl1 : W1.heap[R]? = some (.loop (mk .ready none)) := by
    rw [← hW1, hR]; have := heap_alloc_new (w.alloc (.deferred (some []))) (.loop (mk .ready none)); rwa [World.size_alloc] at this
  have hd1 : W1.heap[w.heap.size]? = some (.deferred (some [])) := by
    rw [← hW1]; exact (Below.heap_alloc _ _ _ (by simp)).trans (heap_alloc_new w _)
  have hi1 : I 0 W1 := by rw [← hW1]; exact hI.alloc _ (hI.alloc _ h0)
  refine ⟨R, [{ target := .collected w.heap.size, args := #[] }], W1, { target := .fn (.func gf) lb, args := #[.func (.yield R) #[] #[]] }, W1, gf, #[.func (.yield R) #[] #[]] ++ lb, W1, ?_, ?_, ?_, ?_, fun _ => h1, ?_⟩
  · rw [← hW1, hmk, hR]; exact run_enterLoop_outer _ _ _ _ _
  · simp only [resolve, hg]
    simp [go_sem]
  · intro f' hf'; simp [Target.leads] at hf'; subst hf'; exact hFg
  · simp [invoke, go_sem, eg]
  -- what a turn of a block below w's heap leaves of the two
  have book : ∀ {A B : World} {o : Obj} {k : Nat}, A.heap[k]? = some o → w.heap.size ≤ k → A.grownBy B (some Bc) → B.heap[k]? = some o := fun hk hge hgr =>
    (hgr.block _ (Array.getElem?_eq_some_iff.1 hk).1 (fun e => by cases e; omega)).trans hk
  refine (hseq R (fun k W => I k W ∧ W.heap[R]? = some (.loop (mk .ready none)) ∧ W.heap[w.heap.size]? = some (.deferred (some [])))
    (fun W => Ix W ∧ W.heap[R]? = some (.loop (mk .done (some .ret))) ∧ W.heap[w.heap.size]? = some (.deferred (some []))) W1
    (fun k A B ⟨hi, hl, hd⟩ hgr => ⟨hI k A B _ hi hgr (fun r e => by cases e; exact .inl rfl), book hl (by omega) hgr, book hd (Nat.le_refl _) hgr⟩) ?_ (RKeep.new hB1 hn₀ hBc) ⟨hi1, hl1, hd1⟩).mono ?_
  · rintro k W hk ⟨hi, hl, hd⟩
    have hlt : R < W.heap.size := (Array.getElem?_eq_some_iff.1 hl).1
    have hy := run_yield (P := P) (args := encs k) hl (by rw [hmk]; exact hps k)
    rw [hmk] at hy
    refine ⟨fn, _, assign, body, hy, roundIn_of_wpIn hfn (hassign _ k W _ hi ?_)⟩
    clear hy
    intro a' Wa hKa hRa hia hax
    have hla := hKa.same _ _ (by omega) hl rfl
    have hda := hKa.same _ _ (Nat.le_refl _) hd rfl
    have hlta : R < Wa.heap.size := (Array.getElem?_eq_some_iff.1 hla).1
    refine ⟨_, run_beginRound hla (by rw [hmk]), ?_⟩
    obtain ⟨Wb, hWb⟩ : ∃ Wb, Wa.putObj R (.loop { mk .ready none with state := .busy }) = Wb := ⟨_, rfl⟩
    rw [hWb]
    have hRb : RKeep n₀ Bc Wa Wb := by rw [← hWb]; exact RKeep.turn (grownBy_putObj' Wa R _) (by omega) (by omega) (by omega) (by omega)
    have hlb : Wb.heap[R]? = some (.loop { mk .ready none with state := .busy }) := by rw [← hWb]; exact World.putObj_heap_same hlta
    have hdb : Wb.heap[w.heap.size]? = some (.deferred (some [])) := by rw [← hWb]; exact (World.putObj_heap_other (by omega)).trans hda
    have hib : I k Wb := by rw [← hWb]; exact hI.putObj _ hia (by omega) hla rfl
    have hab : Ax k a' Wb := by rw [← hWb]; exact (hAx k a').putObj (s := ()) _ hax (by omega) hla rfl
    refine wpIn_mono (hbody _ k a' Wb hib hab hk) ?_
    -- the round's end, by whatever jump
    have fin : ∀ (jump : Option Code) (W3 : World), KeepsFrom w.heap.size Wb W3 →
        (Instr.endRound R jump).run P W3 = .ok (.bool jump.isNone) (W3.putObj R (.loop (mk (if jump.isNone then .ready else .done) jump))) ∧ W3.heap[R]? = some (.loop { mk .ready none with state := .busy }) ∧
        (W3.putObj R (.loop (mk (if jump.isNone then .ready else .done) jump))).heap[R]? = some (.loop (mk (if jump.isNone then .ready else .done) jump)) ∧
        (W3.putObj R (.loop (mk (if jump.isNone then .ready else .done) jump))).heap[w.heap.size]? = some (.deferred (some [])) := fun jump W3 hk3 => by
      have hl3 := hk3.same _ _ (by omega) hlb rfl
      have hr3 := run_endRound (P := P) jump hl3
      rw [hmk] at hr3 ⊢
      exact ⟨hr3, by rw [hmk] at hl3; exact hl3, World.putObj_heap_same (Array.getElem?_eq_some_iff.1 hl3).1, (World.putObj_heap_other (by omega)).trans (hk3.same _ _ (Nat.le_refl _) hdb rfl)⟩
    rintro e a3 W3 hp
    cases e with
    | normal =>
      obtain ⟨hk3, hr3, hi3⟩ := hp
      obtain ⟨hr, hl3, hl4, hd4⟩ := fin none W3 hk3
      have hs3 : w.heap.size + 1 < W3.heap.size := by have := (Array.getElem?_eq_some_iff.1 hl3).1; omega
      exact ⟨_, _, hr, .inl ⟨rfl, ⟨hI.putObj _ hi3 (by omega) hl3 rfl, hl4, hd4⟩, hRa.trans (hRb.trans (hr3.trans (RKeep.turn (grownBy_putObj' W3 R _) (by omega) (by omega) (by omega) (by omega))))⟩⟩
    | ret =>
      obtain ⟨hk3, hi3⟩ := hp
      obtain ⟨hr, hl3, hl4, hd4⟩ := fin (some .ret) W3 hk3
      exact ⟨_, _, hr, .inr ⟨rfl, hIx.putObj (s := ()) _ hi3 (by omega) hl3 rfl, hl4, hd4⟩⟩
    | exit id => exact hp.elim
    | goto t => exact hp.elim
    | panic ch => exact hp.elim
    | outgrown => exact hp.elim
  · rintro e W2 ⟨⟨v, rfl⟩, (⟨hi, hl, hd⟩ | ⟨hi, hl, hd⟩)⟩
    · exact ⟨none, _, by have := run_endLoop (P := P) hl (by rw [hmk]; simp); rw [hmk] at this; exact this, hdone _ _ (Nat.le_refl _) (hI.putObj _ hi (by omega) hl rfl) ((World.putObj_heap_other (by omega)).trans hd)⟩
    · exact ⟨some .ret, _, by have := run_endLoop (P := P) hl (by rw [hmk]; simp); rw [hmk] at this; exact this, hstop _ _ (Nat.le_refl _) (hIx.putObj (s := ()) _ hi (by omega) hl rfl) ((World.putObj_heap_other (by omega)).trans hd)⟩
end
end Go.Proofs.YtelogjpjglohoaaGreatDoor

namespace Go.Proofs.YtelogjpjglohoaaGreatDoor

/-- The fixed bits of a shape. -/
def fixW (f c g h : Int) : Int := if f = 6 then c + g * 4096 + h / 2 * 67108864 else if f = 9 then c + g * 4096 + h * 1048576 else c + g * 4096 + h * 33554432
/-- An instruction's word. -/
def encW (f c g h rd r1 r2 im : Int) : Int := fixW f c g h + rd * 128 + r1 * 32768 + r2 * 1048576 + layF f im

theorem regs_or (rd r1 r2 : Int) (a0 : 0 ≤ rd) (a1 : rd ≤ 31) (b0 : 0 ≤ r1) (b1 : r1 ≤ 31) (c0 : 0 ≤ r2) (c1 : r2 ≤ 31) :
    bits .or .i64 (bits .or .i64 (rd * 128) (r1 * 32768)) (r2 * 1048576) = rd * 128 + r1 * 32768 + r2 * 1048576 := by
  rw [i64_or_gap 15 5 32768 1048576 (by decide) (by decide) (rd * 128) (r1 * 32768) (by omega) (by omega) (by omega) (by omega) (by omega) (by omega) (by decide)]
  rw [i64_or_gap 20 5 1048576 33554432 (by decide) (by decide) (rd * 128 + r1 * 32768) (r2 * 1048576) (by omega) (by omega) (by omega) (by omega) (by omega) (by omega) (by decide)]

theorem or_assoc_i (x y z : Int) (x0 : 0 ≤ x) (x1 : x < 4294967296) (y0 : 0 ≤ y) (y1 : y < 4294967296) (z0 : 0 ≤ z) (z1 : z < 4294967296) :
    bits .or .i64 x (bits .or .i64 y z) = bits .or .i64 (bits .or .i64 x y) z := by
  obtain ⟨x, rfl⟩ := Int.eq_ofNat_of_zero_le x0
  obtain ⟨y, rfl⟩ := Int.eq_ofNat_of_zero_le y0
  obtain ⟨z, rfl⟩ := Int.eq_ofNat_of_zero_le z0
  have h1 : x ||| y < 2 ^ 32 := Nat.or_lt_two_pow (by omega) (by omega)
  have h2 : y ||| z < 2 ^ 32 := Nat.or_lt_two_pow (by omega) (by omega)
  rw [i64_or_nat y z (by omega) (by omega), i64_or_nat x y (by omega) (by omega), i64_or_nat x (y ||| z) (by omega) (by omega), i64_or_nat (x ||| y) z (by omega) (by omega), Nat.or_assoc]

/-- Fixed bits (none of 7 to 11, 15 to 24) and the registers. -/
theorem fix_regs (c g H rd r1 r2 : Int) (k0 : 0 ≤ c) (k1 : c < 128) (g0 : 0 ≤ g) (g1 : g < 8) (h0 : 0 ≤ H) (h1 : H < 128) (a0 : 0 ≤ rd) (a1 : rd ≤ 31) (b0 : 0 ≤ r1) (b1 : r1 ≤ 31) (c0 : 0 ≤ r2) (c1 : r2 ≤ 31) :
    bits .or .i64 (c + g * 4096 + H * 33554432) (rd * 128 + r1 * 32768 + r2 * 1048576) = c + g * 4096 + H * 33554432 + rd * 128 + r1 * 32768 + r2 * 1048576 := by
  rw [← i64_or_gap 20 5 1048576 33554432 (by decide) (by decide) (rd * 128 + r1 * 32768) (r2 * 1048576) (by omega) (by omega) (by omega) (by omega) (by omega) (by omega) (by decide)]
  rw [or_assoc_i _ _ _ (by omega) (by omega) (by omega) (by omega) (by omega) (by omega)]
  rw [← i64_or_gap 15 5 32768 1048576 (by decide) (by decide) (rd * 128) (r1 * 32768) (by omega) (by omega) (by omega) (by omega) (by omega) (by omega) (by decide)]
  rw [or_assoc_i _ _ _ (by omega) (by omega) (by omega) (by omega) (by omega) (by omega)]
  rw [i64_or_gap 7 5 128 4096 (by decide) (by decide) (c + g * 4096 + H * 33554432) (rd * 128) (by omega) (by omega) (by omega) (by omega) (by omega) (by omega) (by decide)]
  rw [i64_or_gap 15 5 32768 1048576 (by decide) (by decide) (c + g * 4096 + H * 33554432 + rd * 128) (r1 * 32768) (by omega) (by omega) (by omega) (by omega) (by omega) (by omega) (by decide)]
  rw [i64_or_gap 20 5 1048576 33554432 (by decide) (by decide) (c + g * 4096 + H * 33554432 + rd * 128 + r1 * 32768) (r2 * 1048576) (by omega) (by omega) (by omega) (by omega) (by omega) (by omega) (by decide)]

/-- What a shape's numbers keep to. -/
def shOK (f c g h : Int) : Bool := decide (1 ≤ f) && decide (f ≤ 9) && decide (0 ≤ c) && decide (c < 128) && decide (0 ≤ g) && decide (g < 8) && decide (0 ≤ h) && decide (h < 64) &&
  (decide (f ≠ 1) || (decide (g = 0) && decide (h = 0))) && (decide (f ≠ 2) || (decide (g = 0) && decide (h = 0))) && (decide (f ≠ 3) || decide (h = 0)) && (decide (f ≠ 4) || decide (h = 0)) && (decide (f ≠ 5) || decide (h = 0)) && (decide (f ≠ 9) || decide (g = 0))

theorem lay_or (f c g h rd r1 r2 im : Int) (hs : shOK f c g h = true) (a0 : 0 ≤ rd) (a1 : rd ≤ 31) (b0 : 0 ≤ r1) (b1 : r1 ≤ 31) (c0 : 0 ≤ r2) (c1 : r2 ≤ 31)
    (hrd : f = 4 ∨ f = 5 ∨ f = 9 → rd = 0) (hr1 : f = 1 ∨ f = 2 ∨ f = 9 → r1 = 0) (hr2 : ¬ (f = 4 ∨ f = 5 ∨ f = 8) → r2 = 0) :
    bits .or .i64 (bits .or .i64 (fixW f c g h) (rd * 128 + r1 * 32768 + r2 * 1048576)) (layF f im) = encW f c g h rd r1 r2 im := by
  simp only [shOK, Bool.and_eq_true, Bool.or_eq_true, decide_eq_true_eq] at hs
  obtain ⟨⟨⟨⟨⟨⟨⟨⟨⟨⟨⟨⟨⟨f0, f1⟩, k0⟩, k1⟩, g0⟩, g1⟩, h0⟩, h1⟩, s1⟩, s2⟩, s3⟩, s4⟩, s5⟩, s9⟩ := hs
  unfold encW
  rcases (show f = 1 ∨ f = 2 ∨ f = 3 ∨ f = 4 ∨ f = 5 ∨ f = 6 ∨ f = 7 ∨ f = 8 ∨ f = 9 by omega) with rfl | rfl | rfl | rfl | rfl | rfl | rfl | rfl | rfl
  · have e : fixW 1 c g h = c + g * 4096 + h * 33554432 := rfl
    have l : layF 1 im = im / 4096 % 1048576 * 4096 := rfl
    rw [e, l, fix_regs c g h rd r1 r2 k0 k1 g0 g1 h0 (by omega) a0 a1 b0 b1 c0 c1]
    have p : 0 ≤ im / 4096 % 1048576 ∧ im / 4096 % 1048576 < 1048576 := by omega
    generalize im / 4096 % 1048576 = x at *
    exact i64_or_gap 12 20 4096 4294967296 (by decide) (by decide) _ _ (by omega) (by omega) (by omega) (by omega) (by omega) (by omega) (by decide)
  · have e : fixW 2 c g h = c + g * 4096 + h * 33554432 := rfl
    have l : layF 2 im = im / 4096 % 256 * 4096 + im / 2048 % 2 * 1048576 + im / 2 % 1024 * 2097152 + im / 1048576 % 2 * 2147483648 := rfl
    rw [e, l, fix_regs c g h rd r1 r2 k0 k1 g0 g1 h0 (by omega) a0 a1 b0 b1 c0 c1]
    have p : 0 ≤ im / 4096 % 256 ∧ im / 4096 % 256 < 256 := by omega
    have q : 0 ≤ im / 2048 % 2 ∧ im / 2048 % 2 < 2 := by omega
    have r : 0 ≤ im / 2 % 1024 ∧ im / 2 % 1024 < 1024 := by omega
    have s : 0 ≤ im / 1048576 % 2 ∧ im / 1048576 % 2 < 2 := by omega
    generalize im / 4096 % 256 = x at *
    generalize im / 2048 % 2 = y at *
    generalize im / 2 % 1024 = z at *
    generalize im / 1048576 % 2 = u at *
    exact i64_or_gap 12 20 4096 4294967296 (by decide) (by decide) _ _ (by omega) (by omega) (by omega) (by omega) (by omega) (by omega) (by decide)
  · have e : fixW 3 c g h = c + g * 4096 + h * 33554432 := rfl
    have l : layF 3 im = im % 4096 * 1048576 := rfl
    rw [e, l, fix_regs c g h rd r1 r2 k0 k1 g0 g1 h0 (by omega) a0 a1 b0 b1 c0 c1]
    have p : 0 ≤ im % 4096 ∧ im % 4096 < 4096 := by omega
    generalize im % 4096 = x at *
    exact i64_or_gap 20 12 1048576 4294967296 (by decide) (by decide) _ _ (by omega) (by omega) (by omega) (by omega) (by omega) (by omega) (by decide)
  · have e : fixW 4 c g h = c + g * 4096 + h * 33554432 := rfl
    have l : layF 4 im = (im / 2048 % 2 * 128 + im / 2 % 16 * 256) + (im / 32 % 64 * 33554432 + im / 4096 % 2 * 2147483648) := by
      show im / 2048 % 2 * 128 + im / 2 % 16 * 256 + im / 32 % 64 * 33554432 + im / 4096 % 2 * 2147483648 = _
      omega
    rw [e, l, fix_regs c g h rd r1 r2 k0 k1 g0 g1 h0 (by omega) a0 a1 b0 b1 c0 c1]
    have p : 0 ≤ im / 2048 % 2 * 128 + im / 2 % 16 * 256 ∧ im / 2048 % 2 * 128 + im / 2 % 16 * 256 < 4096 ∧ (im / 2048 % 2 * 128 + im / 2 % 16 * 256) % 128 = 0 := by omega
    have q : 0 ≤ im / 32 % 64 * 33554432 + im / 4096 % 2 * 2147483648 ∧ im / 32 % 64 * 33554432 + im / 4096 % 2 * 2147483648 < 4294967296 ∧ (im / 32 % 64 * 33554432 + im / 4096 % 2 * 2147483648) % 33554432 = 0 := by omega
    generalize im / 2048 % 2 * 128 + im / 2 % 16 * 256 = x at *
    generalize im / 32 % 64 * 33554432 + im / 4096 % 2 * 2147483648 = y at *
    obtain ⟨p0, p1, p2⟩ := p
    obtain ⟨q0, q1, q2⟩ := q
    have hrd0 := hrd (by omega)
    have hh := s4.resolve_left (by omega)
    rw [← i64_or_gap 25 7 33554432 4294967296 (by decide) (by decide) x y (by omega) (by omega) (by omega) (by omega) (by omega) (by omega) (by decide)]
    rw [or_assoc_i _ _ _ (by omega) (by omega) (by omega) (by omega) (by omega) (by omega)]
    rw [i64_or_gap 7 5 128 4096 (by decide) (by decide) _ x (by omega) (by omega) (by omega) (by omega) (by omega) (by omega) (by decide)]
    rw [i64_or_gap 25 7 33554432 4294967296 (by decide) (by decide) _ y (by omega) (by omega) (by omega) (by omega) (by omega) (by omega) (by decide)]
    rw [i64_or_gap 25 7 33554432 4294967296 (by decide) (by decide) x y (by omega) (by omega) (by omega) (by omega) (by omega) (by omega) (by decide)]
    omega
  · have e : fixW 5 c g h = c + g * 4096 + h * 33554432 := rfl
    have l : layF 5 im = im % 32 * 128 + im / 32 % 128 * 33554432 := rfl
    rw [e, l, fix_regs c g h rd r1 r2 k0 k1 g0 g1 h0 (by omega) a0 a1 b0 b1 c0 c1]
    have p : 0 ≤ im % 32 ∧ im % 32 < 32 := by omega
    have q : 0 ≤ im / 32 % 128 ∧ im / 32 % 128 < 128 := by omega
    generalize im % 32 = x at *
    generalize im / 32 % 128 = y at *
    have hrd0 := hrd (by omega)
    have hh := s5.resolve_left (by omega)
    rw [← i64_or_gap 25 7 33554432 4294967296 (by decide) (by decide) (x * 128) (y * 33554432) (by omega) (by omega) (by omega) (by omega) (by omega) (by omega) (by decide)]
    rw [or_assoc_i _ _ _ (by omega) (by omega) (by omega) (by omega) (by omega) (by omega)]
    rw [i64_or_gap 7 5 128 4096 (by decide) (by decide) _ (x * 128) (by omega) (by omega) (by omega) (by omega) (by omega) (by omega) (by decide)]
    rw [i64_or_gap 25 7 33554432 4294967296 (by decide) (by decide) _ (y * 33554432) (by omega) (by omega) (by omega) (by omega) (by omega) (by omega) (by decide)]
    rw [i64_or_gap 25 7 33554432 4294967296 (by decide) (by decide) (x * 128) (y * 33554432) (by omega) (by omega) (by omega) (by omega) (by omega) (by omega) (by decide)]
    omega
  · have e : fixW 6 c g h = c + g * 4096 + (h / 2 * 2) * 33554432 := by
      show c + g * 4096 + h / 2 * 67108864 = _
      omega
    have l : layF 6 im = im % 64 * 1048576 := rfl
    rw [e, l, fix_regs c g (h / 2 * 2) rd r1 r2 k0 k1 g0 g1 (by omega) (by omega) a0 a1 b0 b1 c0 c1]
    have p : 0 ≤ im % 64 ∧ im % 64 < 64 := by omega
    generalize im % 64 = x at *
    have q : 0 ≤ h / 2 ∧ h / 2 < 32 := by omega
    generalize h / 2 = y at *
    exact i64_or_gap 20 6 1048576 67108864 (by decide) (by decide) _ _ (by omega) (by omega) (by omega) (by omega) (by omega) (by omega) (by decide)
  · have e : fixW 7 c g h = c + g * 4096 + h * 33554432 := rfl
    have l : layF 7 im = im % 32 * 1048576 := rfl
    rw [e, l, fix_regs c g h rd r1 r2 k0 k1 g0 g1 h0 (by omega) a0 a1 b0 b1 c0 c1]
    have p : 0 ≤ im % 32 ∧ im % 32 < 32 := by omega
    generalize im % 32 = x at *
    exact i64_or_gap 20 5 1048576 33554432 (by decide) (by decide) _ _ (by omega) (by omega) (by omega) (by omega) (by omega) (by omega) (by decide)
  · have e : fixW 8 c g h = c + g * 4096 + h * 33554432 := rfl
    have l : layF 8 im = 0 := rfl
    rw [e, l, fix_regs c g h rd r1 r2 k0 k1 g0 g1 h0 (by omega) a0 a1 b0 b1 c0 c1, or_z _ (by omega) (by omega)]
    omega
  · have e : fixW 9 c g h = c + g * 4096 + h * 1048576 := rfl
    have l : layF 9 im = 0 := rfl
    have z0 := hrd (by omega)
    have z1 := hr1 (by omega)
    have z2 := hr2 (by omega)
    subst z0 z1 z2
    rw [e, l, show (0 : Int) * 128 + 0 * 32768 + 0 * 1048576 = 0 by decide, or_z (c + g * 4096 + h * 1048576) (by omega) (by omega), or_z (c + g * 4096 + h * 1048576) (by omega) (by omega)]
    omega
end Go.Proofs.YtelogjpjglohoaaGreatDoor

namespace Go.Proofs.YtelogjpjglohoaaGreatDoor

theorem and_at (w n k : Nat) : w &&& ((2 ^ n - 1) * 2 ^ k) = w / 2 ^ k % 2 ^ n * 2 ^ k := by
  apply Nat.eq_of_testBit_eq
  intro i
  rw [Nat.testBit_and, ← Nat.shiftLeft_eq, ← Nat.shiftLeft_eq, Nat.testBit_shiftLeft, Nat.testBit_shiftLeft, Nat.testBit_two_pow_sub_one, Nat.testBit_mod_two_pow, ← Nat.shiftRight_eq_div_pow, Nat.testBit_shiftRight]
  by_cases h : k ≤ i
  · have e : k + (i - k) = i := by omega
    rw [e]
    simp [h, Bool.and_comm]
  · simp [h]
theorem and_split (w a b : Nat) (h : a ||| b = a + b) : w &&& (a + b) = (w &&& a) ||| (w &&& b) := by
  rw [← h, Nat.and_or_distrib_left]
theorem i64_and_nat (a b : Nat) (ha : a < 4294967296) (hb : b < 4294967296) : bits .and .i64 (a : Int) (b : Int) = ((a &&& b : Nat) : Int) := by
  have hx : a &&& b < 2 ^ 32 := Nat.and_lt_two_pow _ (by omega)
  show IntKind.i64.wrap ((BitVec.ofInt 64 (a : Int) &&& BitVec.ofInt 64 (b : Int)).toNat : Int) = _
  rw [BitVec.toNat_and, ofInt_u64 a (by omega), ofInt_u64 b (by omega), IntWalk.i64_in _ (by omega)]

/-- The word's bits that are fixed in a form. -/
theorem and_127 (w : Nat) (_h : w < 4294967296) : bits .and .i64 (w : Int) 127 = ((w % 128 : Nat) : Int) := by
  have := i64_and_mask (w : Int) 7 (by decide)
  have e : bits .and .i64 (w : Int) 127 = (w : Int) % 128 := this
  rw [e]
  omega
theorem and_28799 (w : Nat) (h : w < 4294967296) : bits .and .i64 (w : Int) 28799 = ((w % 128 + w / 4096 % 8 * 4096 : Nat) : Int) := by
  have e := i64_and_nat w 28799 h (by decide)
  have e2 : w &&& 28799 = w % 128 + w / 4096 % 8 * 4096 := by
    rw [show 28799 = 127 + 7 * 4096 by decide, and_split w 127 (7 * 4096) (by decide)]
    have a1 : w &&& 127 = w % 128 := Nat.and_two_pow_sub_one_eq_mod w 7
    have a2 : w &&& (7 * 4096) = w / 4096 % 8 * 4096 := and_at w 3 12
    rw [a1, a2, or_gap 12 3 (w % 128) (w / 4096 % 8 * 4096) (by omega) (by omega) (by omega)]
  rw [e2] at e
  exact e
theorem and_4227887231 (w : Nat) (h : w < 4294967296) : bits .and .i64 (w : Int) 4227887231 = ((w % 128 + w / 4096 % 8 * 4096 + w / 67108864 * 67108864 : Nat) : Int) := by
  have e := i64_and_nat w 4227887231 h (by decide)
  have e2 : w &&& 4227887231 = w % 128 + w / 4096 % 8 * 4096 + w / 67108864 * 67108864 := by
    rw [show 4227887231 = 127 + 7 * 4096 + 63 * 67108864 by decide, and_split w (127 + 7 * 4096) (63 * 67108864) (by decide), and_split w 127 (7 * 4096) (by decide)]
    have a1 : w &&& 127 = w % 128 := Nat.and_two_pow_sub_one_eq_mod w 7
    have a2 : w &&& (7 * 4096) = w / 4096 % 8 * 4096 := and_at w 3 12
    have a3 : w &&& (63 * 67108864) = w / 67108864 % 64 * 67108864 := and_at w 6 26
    have a4 : w / 67108864 % 64 = w / 67108864 := by omega
    rw [a1, a2, a3, a4, or_gap 12 3 (w % 128) (w / 4096 % 8 * 4096) (by omega) (by omega) (by omega)]
    have p : w % 128 + w / 4096 % 8 * 4096 < 67108864 := by omega
    have q : w / 67108864 < 64 := by omega
    generalize w % 128 + w / 4096 % 8 * 4096 = x at *
    generalize w / 67108864 = y at *
    rw [or_gap 26 6 x (y * 67108864) (by omega) (by omega) (by omega)]
  rw [e2] at e
  exact e
theorem and_4261441663 (w : Nat) (h : w < 4294967296) : bits .and .i64 (w : Int) 4261441663 = ((w % 128 + w / 4096 % 8 * 4096 + w / 33554432 * 33554432 : Nat) : Int) := by
  have e := i64_and_nat w 4261441663 h (by decide)
  have e2 : w &&& 4261441663 = w % 128 + w / 4096 % 8 * 4096 + w / 33554432 * 33554432 := by
    rw [show 4261441663 = 127 + 7 * 4096 + 127 * 33554432 by decide, and_split w (127 + 7 * 4096) (127 * 33554432) (by decide), and_split w 127 (7 * 4096) (by decide)]
    have a1 : w &&& 127 = w % 128 := Nat.and_two_pow_sub_one_eq_mod w 7
    have a2 : w &&& (7 * 4096) = w / 4096 % 8 * 4096 := and_at w 3 12
    have a3 : w &&& (127 * 33554432) = w / 33554432 % 128 * 33554432 := and_at w 7 25
    have a4 : w / 33554432 % 128 = w / 33554432 := by omega
    rw [a1, a2, a3, a4, or_gap 12 3 (w % 128) (w / 4096 % 8 * 4096) (by omega) (by omega) (by omega)]
    have p : w % 128 + w / 4096 % 8 * 4096 < 33554432 := by omega
    have q : w / 33554432 < 128 := by omega
    generalize w % 128 + w / 4096 % 8 * 4096 = x at *
    generalize w / 33554432 = y at *
    rw [or_gap 25 7 x (y * 33554432) (by omega) (by omega) (by omega)]
  rw [e2] at e
  exact e
theorem and_all (w : Nat) (h : w < 4294967296) : bits .and .i64 (w : Int) 4294967295 = (w : Int) := by
  have := i64_and_mask (w : Int) 32 (by decide)
  have e : bits .and .i64 (w : Int) 4294967295 = (w : Int) % 4294967296 := this
  rw [e]
  omega

/-- Is a word of a shape? -/
def hitI (f c g h w : Int) : Prop :=
  if f = 1 ∨ f = 2 then w % 128 = c
  else if f = 3 ∨ f = 4 ∨ f = 5 then w % 128 = c ∧ w / 4096 % 8 = g
  else if f = 6 then w % 128 = c ∧ w / 4096 % 8 = g ∧ w / 67108864 = h / 2
  else if f = 7 ∨ f = 8 then w % 128 = c ∧ w / 4096 % 8 = g ∧ w / 33554432 = h
  else w = c + g * 4096 + h * 1048576
end Go.Proofs.YtelogjpjglohoaaGreatDoor

namespace Go.Proofs.YtelogjpjglohoaaGreatDoor
open Go.RowKit
set_option linter.unusedVariables false

theorem low3 (w : World) : Calls Tryz.prog 144 #[.int .i64 3] w fun e w' => e = .returned (.int .i64 7) ∧ w' = w := by
  go_enter Tryz.func144, Tryz.ntmps144
  go_wp2
  go_ret
  exact ⟨rfl, rfl⟩
theorem low32 (w : World) : Calls Tryz.prog 144 #[.int .i64 32] w fun e w' => e = .returned (.int .i64 4294967295) ∧ w' = w := by
  go_enter Tryz.func144, Tryz.ntmps144
  go_wp2
  go_ret
  exact ⟨rfl, rfl⟩
/-- The fixed bits of a form. -/
def fixB (f : Int) : Int := if f = 1 then 127 else if f = 2 then 127 else if f = 3 then 28799 else if f = 4 then 28799 else if f = 5 then 28799 else if f = 6 then 4227887231 else if f = 7 then 4261441663 else if f = 8 then 4261441663 else 4294967295
set_option maxRecDepth 100000 in
theorem fixB1 (w : World) : Calls Tryz.prog 130 #[.int .i64 1] w fun e w' => e = .returned (.int .i64 127) ∧ w' = w := by
  go_enter Tryz.func130, Tryz.ntmps130
  go_wp2_with (go_at_call 144; first | (refine (low7 _).mono ?_; rintro e w1 ⟨rfl, rfl⟩) | (refine (low3 _).mono ?_; rintro e w1 ⟨rfl, rfl⟩) | (refine (low6 _).mono ?_; rintro e w1 ⟨rfl, rfl⟩) | (refine (low32 _).mono ?_; rintro e w1 ⟨rfl, rfl⟩))
  go_ret
  exact ⟨rfl, rfl⟩
set_option maxRecDepth 100000 in
theorem fixB2 (w : World) : Calls Tryz.prog 130 #[.int .i64 2] w fun e w' => e = .returned (.int .i64 127) ∧ w' = w := by
  go_enter Tryz.func130, Tryz.ntmps130
  go_wp2_with (go_at_call 144; first | (refine (low7 _).mono ?_; rintro e w1 ⟨rfl, rfl⟩) | (refine (low3 _).mono ?_; rintro e w1 ⟨rfl, rfl⟩) | (refine (low6 _).mono ?_; rintro e w1 ⟨rfl, rfl⟩) | (refine (low32 _).mono ?_; rintro e w1 ⟨rfl, rfl⟩))
  go_ret
  exact ⟨rfl, rfl⟩
set_option maxRecDepth 100000 in
theorem fixB3 (w : World) : Calls Tryz.prog 130 #[.int .i64 3] w fun e w' => e = .returned (.int .i64 28799) ∧ w' = w := by
  go_enter Tryz.func130, Tryz.ntmps130
  go_wp2_with (go_at_call 144; first | (refine (low7 _).mono ?_; rintro e w1 ⟨rfl, rfl⟩) | (refine (low3 _).mono ?_; rintro e w1 ⟨rfl, rfl⟩) | (refine (low6 _).mono ?_; rintro e w1 ⟨rfl, rfl⟩) | (refine (low32 _).mono ?_; rintro e w1 ⟨rfl, rfl⟩))
  go_ret
  exact ⟨rfl, rfl⟩
set_option maxRecDepth 100000 in
theorem fixB4 (w : World) : Calls Tryz.prog 130 #[.int .i64 4] w fun e w' => e = .returned (.int .i64 28799) ∧ w' = w := by
  go_enter Tryz.func130, Tryz.ntmps130
  go_wp2_with (go_at_call 144; first | (refine (low7 _).mono ?_; rintro e w1 ⟨rfl, rfl⟩) | (refine (low3 _).mono ?_; rintro e w1 ⟨rfl, rfl⟩) | (refine (low6 _).mono ?_; rintro e w1 ⟨rfl, rfl⟩) | (refine (low32 _).mono ?_; rintro e w1 ⟨rfl, rfl⟩))
  go_ret
  exact ⟨rfl, rfl⟩
set_option maxRecDepth 100000 in
theorem fixB5 (w : World) : Calls Tryz.prog 130 #[.int .i64 5] w fun e w' => e = .returned (.int .i64 28799) ∧ w' = w := by
  go_enter Tryz.func130, Tryz.ntmps130
  go_wp2_with (go_at_call 144; first | (refine (low7 _).mono ?_; rintro e w1 ⟨rfl, rfl⟩) | (refine (low3 _).mono ?_; rintro e w1 ⟨rfl, rfl⟩) | (refine (low6 _).mono ?_; rintro e w1 ⟨rfl, rfl⟩) | (refine (low32 _).mono ?_; rintro e w1 ⟨rfl, rfl⟩))
  go_ret
  exact ⟨rfl, rfl⟩
set_option maxRecDepth 100000 in
theorem fixB6 (w : World) : Calls Tryz.prog 130 #[.int .i64 6] w fun e w' => e = .returned (.int .i64 4227887231) ∧ w' = w := by
  go_enter Tryz.func130, Tryz.ntmps130
  go_wp2_with (go_at_call 144; first | (refine (low7 _).mono ?_; rintro e w1 ⟨rfl, rfl⟩) | (refine (low3 _).mono ?_; rintro e w1 ⟨rfl, rfl⟩) | (refine (low6 _).mono ?_; rintro e w1 ⟨rfl, rfl⟩) | (refine (low32 _).mono ?_; rintro e w1 ⟨rfl, rfl⟩))
  go_ret
  exact ⟨rfl, rfl⟩
set_option maxRecDepth 100000 in
theorem fixB7 (w : World) : Calls Tryz.prog 130 #[.int .i64 7] w fun e w' => e = .returned (.int .i64 4261441663) ∧ w' = w := by
  go_enter Tryz.func130, Tryz.ntmps130
  go_wp2_with (go_at_call 144; first | (refine (low7 _).mono ?_; rintro e w1 ⟨rfl, rfl⟩) | (refine (low3 _).mono ?_; rintro e w1 ⟨rfl, rfl⟩) | (refine (low6 _).mono ?_; rintro e w1 ⟨rfl, rfl⟩) | (refine (low32 _).mono ?_; rintro e w1 ⟨rfl, rfl⟩))
  go_ret
  exact ⟨rfl, rfl⟩
set_option maxRecDepth 100000 in
theorem fixB8 (w : World) : Calls Tryz.prog 130 #[.int .i64 8] w fun e w' => e = .returned (.int .i64 4261441663) ∧ w' = w := by
  go_enter Tryz.func130, Tryz.ntmps130
  go_wp2_with (go_at_call 144; first | (refine (low7 _).mono ?_; rintro e w1 ⟨rfl, rfl⟩) | (refine (low3 _).mono ?_; rintro e w1 ⟨rfl, rfl⟩) | (refine (low6 _).mono ?_; rintro e w1 ⟨rfl, rfl⟩) | (refine (low32 _).mono ?_; rintro e w1 ⟨rfl, rfl⟩))
  go_ret
  exact ⟨rfl, rfl⟩
set_option maxRecDepth 100000 in
theorem fixB9 (w : World) : Calls Tryz.prog 130 #[.int .i64 9] w fun e w' => e = .returned (.int .i64 4294967295) ∧ w' = w := by
  go_enter Tryz.func130, Tryz.ntmps130
  go_wp2_with (go_at_call 144; first | (refine (low7 _).mono ?_; rintro e w1 ⟨rfl, rfl⟩) | (refine (low3 _).mono ?_; rintro e w1 ⟨rfl, rfl⟩) | (refine (low6 _).mono ?_; rintro e w1 ⟨rfl, rfl⟩) | (refine (low32 _).mono ?_; rintro e w1 ⟨rfl, rfl⟩))
  go_ret
  exact ⟨rfl, rfl⟩
theorem fixBC (f : Int) (h0 : 1 ≤ f) (h1 : f ≤ 9) (w : World) : Calls Tryz.prog 130 #[.int .i64 f] w fun e w' => e = .returned (.int .i64 (fixB f)) ∧ w' = w := by
  rcases (show f = 1 ∨ f = 2 ∨ f = 3 ∨ f = 4 ∨ f = 5 ∨ f = 6 ∨ f = 7 ∨ f = 8 ∨ f = 9 by omega) with rfl | rfl | rfl | rfl | rfl | rfl | rfl | rfl | rfl
  · exact fixB1 w
  · exact fixB2 w
  · exact fixB3 w
  · exact fixB4 w
  · exact fixB5 w
  · exact fixB6 w
  · exact fixB7 w
  · exact fixB8 w
  · exact fixB9 w
end Go.Proofs.YtelogjpjglohoaaGreatDoor

namespace Go.Proofs.YtelogjpjglohoaaGreatDoor
set_option linter.unusedVariables false

/-- What a word's fields are, if it is of a form. -/
def tkRd (f w : Int) : Int := if f = 4 ∨ f = 5 ∨ f = 9 then 0 else w / 128 % 32
def tkR1 (f w : Int) : Int := if f = 1 ∨ f = 2 ∨ f = 9 then 0 else w / 32768 % 32
def tkR2 (f w : Int) : Int := if f = 4 ∨ f = 5 ∨ f = 8 then w / 1048576 % 32 else 0

theorem regB_mod (x : Int) : regB (x % 32) = true := by
  unfold regB
  exact decide_eq_true (by omega)

theorem right_taken (f w : Int) (h0 : 1 ≤ f) (h1 : f ≤ 9) : rightF f (tkRd f w) (tkR1 f w) (tkR2 f w) (takeF f w) = true := by
  have hk : okB f (takeF f w) = true := by
    apply okB_t (by omega) (by omega)
    rcases (show f = 1 ∨ f = 2 ∨ f = 3 ∨ f = 4 ∨ f = 5 ∨ f = 6 ∨ f = 7 ∨ f = 8 ∨ f = 9 by omega) with rfl | rfl | rfl | rfl | rfl | rfl | rfl | rfl | rfl
    · show -2147483648 ≤ sgn (w / 4096 % 1048576 * 4096) 32 ∧ sgn (w / 4096 % 1048576 * 4096) 32 ≤ 2147479552 ∧ sgn (w / 4096 % 1048576 * 4096) 32 % 4096 = 0
      rw [sgn_num _ 32 2147483648 4294967296 (by decide) (by decide)]
      omega
    · show -1048576 ≤ sgn (w / 4096 % 256 * 4096 + w / 1048576 % 2 * 2048 + w / 2097152 % 1024 * 2 + w / 2147483648 % 2 * 1048576) 21 ∧ sgn (w / 4096 % 256 * 4096 + w / 1048576 % 2 * 2048 + w / 2097152 % 1024 * 2 + w / 2147483648 % 2 * 1048576) 21 ≤ 1048574 ∧ sgn (w / 4096 % 256 * 4096 + w / 1048576 % 2 * 2048 + w / 2097152 % 1024 * 2 + w / 2147483648 % 2 * 1048576) 21 % 2 = 0
      rw [sgn_num _ 21 1048576 2097152 (by decide) (by decide)]
      generalize w / 4096 % 256 = x
      generalize w / 1048576 % 2 = y
      generalize w / 2097152 % 1024 = z
      generalize w / 2147483648 % 2 = u
      omega
    · show -2048 ≤ sgn (w / 1048576 % 4096) 12 ∧ sgn (w / 1048576 % 4096) 12 ≤ 2047
      rw [sgn_num _ 12 2048 4096 (by decide) (by decide)]
      omega
    · show -4096 ≤ sgn (w / 128 % 2 * 2048 + w / 256 % 16 * 2 + w / 33554432 % 64 * 32 + w / 2147483648 % 2 * 4096) 13 ∧ sgn (w / 128 % 2 * 2048 + w / 256 % 16 * 2 + w / 33554432 % 64 * 32 + w / 2147483648 % 2 * 4096) 13 ≤ 4094 ∧ sgn (w / 128 % 2 * 2048 + w / 256 % 16 * 2 + w / 33554432 % 64 * 32 + w / 2147483648 % 2 * 4096) 13 % 2 = 0
      rw [sgn_num _ 13 4096 8192 (by decide) (by decide)]
      generalize w / 128 % 2 = x
      generalize w / 256 % 16 = y
      generalize w / 33554432 % 64 = z
      generalize w / 2147483648 % 2 = u
      omega
    · show -2048 ≤ sgn (w / 128 % 32 + w / 33554432 % 128 * 32) 12 ∧ sgn (w / 128 % 32 + w / 33554432 % 128 * 32) 12 ≤ 2047
      rw [sgn_num _ 12 2048 4096 (by decide) (by decide)]
      omega
    · show 0 ≤ w / 1048576 % 64 ∧ w / 1048576 % 64 ≤ 63
      omega
    · show 0 ≤ w / 1048576 % 32 ∧ w / 1048576 % 32 ≤ 31
      omega
    · rfl
    · rfl
  rcases (show f = 1 ∨ f = 2 ∨ f = 3 ∨ f = 4 ∨ f = 5 ∨ f = 6 ∨ f = 7 ∨ f = 8 ∨ f = 9 by omega) with rfl | rfl | rfl | rfl | rfl | rfl | rfl | rfl | rfl
  · show (regB (w / 128 % 32) && (0 : Int) == 0 && (0 : Int) == 0 && okB 1 (takeF 1 w)) = true
    rw [regB_mod, hk]; rfl
  · show (regB (w / 128 % 32) && (0 : Int) == 0 && (0 : Int) == 0 && okB 2 (takeF 2 w)) = true
    rw [regB_mod, hk]; rfl
  · show (regB (w / 128 % 32) && regB (w / 32768 % 32) && (0 : Int) == 0 && okB 3 (takeF 3 w)) = true
    rw [regB_mod, regB_mod, hk]; rfl
  · show ((0 : Int) == 0 && regB (w / 32768 % 32) && regB (w / 1048576 % 32) && okB 4 (takeF 4 w)) = true
    rw [regB_mod, regB_mod, hk]; rfl
  · show ((0 : Int) == 0 && regB (w / 32768 % 32) && regB (w / 1048576 % 32) && okB 5 (takeF 5 w)) = true
    rw [regB_mod, regB_mod, hk]; rfl
  · show (regB (w / 128 % 32) && regB (w / 32768 % 32) && (0 : Int) == 0 && okB 6 (takeF 6 w)) = true
    rw [regB_mod, regB_mod, hk]; rfl
  · show (regB (w / 128 % 32) && regB (w / 32768 % 32) && (0 : Int) == 0 && okB 7 (takeF 7 w)) = true
    rw [regB_mod, regB_mod, hk]; rfl
  · show (regB (w / 128 % 32) && regB (w / 32768 % 32) && regB (w / 1048576 % 32) && (0 : Int) == 0) = true
    rw [regB_mod, regB_mod, regB_mod]; rfl
  · rfl
end Go.Proofs.YtelogjpjglohoaaGreatDoor
