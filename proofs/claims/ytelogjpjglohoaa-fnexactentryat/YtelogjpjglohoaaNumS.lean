/- The program's numbers of keys: numbersBy over a list of entries, key: spot (gen_num.py). -/
import Derived.Test.YtelogjpjglohoaaBwdC
import Derived.Test.YtelogjpjglohoaaMapP
import Derived.Maps.OwnIn
import Derived.Stop.RegionWithIn
import Derived.DeepKeys4
namespace Go.Proofs.Ytelogjpjglohoaa
open Go Go.RowKit Go.Maps Go.WideMaps
set_option linter.unusedVariables false
attribute [local go_sem] Oper.semAt_some

abbrev kvS (d : EntD) : Value := .agg #[.int .i64 d.kd, .int .i64 d.pl]
def klS (d : EntD) : Lit := .string (keyBytes [.int .i64 d.kd, .int .i64 d.pl])
theorem laidOutS : laidOutB Try.prog = true := by kernel_rfl
theorem cellsS2 : Try.prog.cellsOf 68 = 2 := by kernel_rfl
theorem cellsS1 : Try.prog.cellsOf 3 = 1 := by kernel_rfl
theorem keyTypeS : Try.prog.keyType 68 = true := by kernel_rfl
theorem sizeS : 1 ≤ Try.prog.types.size := of_decide_eq_true (by kernel_rfl)
theorem litsS (m : Nat) (a b : Int) (ha : (Lit.int .i64 a).wf = true) (hb : (Lit.int .i64 b).wf = true) : Try.prog.keyLits (m + 2) 68 [.int .i64 a, .int .i64 b] = some [.int .i64 a, .int .i64 b] := by
  simp [Program.keyLits, Try.underlying68, Try.underlying3, cellsS2, cellsS1, ha, hb]
theorem keyS0 (a b : Int) (ha : (Lit.int .i64 a).wf = true) (hb : (Lit.int .i64 b).wf = true) : keyOf Try.prog 68 (.agg #[.int .i64 a, .int .i64 b]) = some (.string (keyBytes [.int .i64 a, .int .i64 b])) := by
  have hf : (Value.agg #[.int .i64 a, .int .i64 b]).formed Try.prog 68 = true := by
    simp [Value.formed, Try.underlying68, cellsS2]
  have hl := litsS (Try.prog.types.size - 1) a b ha hb
  have he : Try.prog.types.size - 1 + 2 = Try.prog.types.size + 1 := by have := sizeS; omega
  rw [he] at hl
  unfold keyOf
  rw [Try.underlying68]
  simp only [keyTypeS, hf, Value.cells, hl, Bool.and_true, if_true, Option.map_some]
theorem keyLawS : Keyed Try.prog 68 := Keyed.of_law (deep_law_laid laidOutS (m := 2) (by omega) (of_decide_eq_true (by kernel_rfl)) (by kernel_rfl) (by kernel_rfl))
theorem keyS (d : EntD) (h : d.wf) : keyOf Try.prog 68 (kvS d) = some (klS d) := keyS0 d.kd d.pl h.2.1 h.2.2.1
theorem klS_key (d : EntD) : WideAt.IsKeyLit (klS d) := trivial
theorem klS_iff (d : EntD) (h : d.wf) (a : Int) (ha : (Lit.int .i64 a).wf = true) : klS d = .string (keyBytes [.int .i64 1, .int .i64 a]) ↔ d.kd = 1 ∧ d.pl = a := by
  constructor
  · intro e
    have h1 := keyS d h
    rw [e] at h1
    have := keyLawS.inj h1 (keyS0 1 a (by decide) ha)
    simpa using this
  · rintro ⟨h1, h2⟩
    unfold klS
    rw [h1, h2]
theorem methS (d : EntD) (w : World) :
    Calls Try.prog 38 #[entA d] w fun e w' => e = .returned (kvS d) ∧ Below w.heap.size w w' := by
  go_enter Try.func38, Try.ntmps38
  go_wp2
  refine bodyPost_ret (v := kvS d) (by simp [results, Try.results38, go_sem]) rfl ⟨rfl, ?_⟩
  first | exact (((Below.refl _ _).alloc (Nat.le_refl _) _).alloc (by simp) _) | exact (((Below.refl _ _).alloc (Nat.le_refl _) _).alloc (by simp) _).alloc (by simp; omega) _ | exact ((Below.refl _ _).alloc (Nat.le_refl _) _)

theorem make_spt (w : World) (n : Nat) : (Instr.makeMap 85 (some (.int .i64 (n : Int)))).run Try.prog w = .ok (.map (some w.heap.size)) (w.alloc (.map #[] 0)) := by
  simp [Instr.makeMap, run_underlying Try.underlying85, asInt, asIntOf, Result.andThen]
theorem bwdMk_spt (p : Option Addr) (n c : Nat) (w : World) :
    Calls Try.prog 54 #[.slice p n c] w fun e w' => e = .returned (.func (.func 64) #[] #[.pointer (some ⟨w.heap.size, 0, none⟩)]) ∧ w' = w.alloc (.cells #[.slice p n c] 31) := by
  go_enter Try.func54, Try.ntmps54
  go_wp2
  go_ret
  exact ⟨rfl, rfl⟩

/-- What the loop keeps between two rounds. (B: the heap's size when the call begins: the function's box B, the map B + 1, its box B + 2, the list's box B + 3.) -/
def NumSI (w : World) (S : Nat → EntD) (n : Nat) (k : Nat) (W : World) : Prop :=
  k ≤ n ∧ W.ownsMap Try.prog 68 (plainElem (H := Unit) Try.prog 3) (w.heap.size + 1) k (mapR (fun i => klS (S i)) n k) ∧ Boxed W w.heap.size 69 (.func (.func 38) #[] #[]) ∧
    Boxed W (w.heap.size + 1 + 1) 85 (.map (some (w.heap.size + 1))) ∧ Below w.heap.size w W ∧ w.heap.size + 1 + 1 + 1 < W.heap.size
theorem numSI_stands (w : World) (S : Nat → EntD) (n Sz : Nat) (hS : Sz = w.heap.size + 1 + 1 + 1 + 1) : Stands (w.heap.size + 1 + 1 + 1) Sz (NumSI w S n) := by
  rintro k A B row ⟨h0, h1, h2, h3, hb, hz⟩ hg hrow
  exact ⟨h0, h1.kept hg (fun e => by rcases hrow _ e.symm with h' | ⟨h', _⟩ <;> omega), boxed_standsN hg hrow h2 (by omega) (by omega), boxed_standsN hg hrow h3 (by omega) (by omega),
    hb.grown hg hb.size (fun r e => by rcases hrow r e with h' | ⟨h', _⟩ <;> omega), Nat.lt_of_lt_of_le hz hg.size⟩

set_option maxRecDepth 100000 in
set_option maxHeartbeats 4000000 in
theorem sptC (p : Option Addr) (n c : Nat) (S : Nat → EntD) (hn : n ≤ 1048576) (w : World) (hw : ∀ i, i < n → (S i).wf) (hp : EntsAt w p n S) :
    Calls Try.prog 58 #[.slice p n c, .func (.func 38) #[] #[]] w fun e w' => e = .returned (.map (some (w.heap.size + 1))) ∧ w'.ownsMap Try.prog 68 (plainElem (H := Unit) Try.prog 3) (w.heap.size + 1) n (mapR (fun i => klS (S i)) n n) ∧ Below w.heap.size w w' := by
  have hmm := make_spt
  refine (callsIn_wide (n := 9)).1 ?_
  refine callsIn_of_wp_marks Try.func58 rfl trivial ?_ rfl
  simp only [Try.ntmps58, List.size_toArray, List.length_cons, List.length_nil, Nat.reduceAdd, Nat.reduceSub, Array.replicate_succ, Array.replicate_zero, List.push_toArray, List.append_toArray, List.nil_append, List.cons_append]
  gi_wp2
  refine ⟨trivial, (callsIn_wide.2 (bwdMk_spt _ _ _ _)).mono ?_⟩
  rintro e w' ⟨rfl, rfl⟩
  gi_wp2
  have WA := ((((w.alloc (.cells #[.func (.func 38) #[] #[]] 69)).alloc (.map #[] 0)).alloc (.cells #[.map (some (w.heap.size + 1))] 85)).alloc (.cells #[.slice p n c] 31))
  clear WA
  have bF := (((Boxed.new w 69 (.func (.func 38) #[] #[])).alloc (.map #[] 0)).alloc (.cells #[.map (some (w.heap.size + 1))] 85)).alloc (.cells #[.slice p n c] 31)
  have bM := (Boxed.new ((w.alloc (.cells #[.func (.func 38) #[] #[]] 69)).alloc (.map #[] 0)) 85 (.map (some (w.heap.size + 1)))).alloc (.cells #[.slice p n c] 31)
  have bL := Boxed.new (((w.alloc (.cells #[.func (.func 38) #[] #[]] 69)).alloc (.map #[] 0)).alloc (.cells #[.map (some (w.heap.size + 1))] 85)) 31 (.slice p n c)
  have hown := ((World.ownsMap_made (w.alloc (.cells #[.func (.func 38) #[] #[]] 69)) Try.prog 68 (plainElem (H := Unit) Try.prog 3)).alloc (.cells #[.map (some (w.heap.size + 1))] 85)).alloc (.cells #[.slice p n c] 31)
  simp only [World.size_alloc] at bF bM bL hown
  have hB0 : Below w.heap.size w ((((w.alloc (.cells #[.func (.func 38) #[] #[]] 69)).alloc (.map #[] 0)).alloc (.cells #[.map (some (w.heap.size + 1))] 85)).alloc (.cells #[.slice p n c] 31)) :=
    ((((Below.refl _ w).alloc (Nat.le_refl _) _).alloc (by simp) _).alloc (by simp; omega) _).alloc (by simp; omega) _
  have hz : ((((w.alloc (.cells #[.func (.func 38) #[] #[]] 69)).alloc (.map #[] 0)).alloc (.cells #[.map (some (w.heap.size + 1))] 85)).alloc (.cells #[.slice p n c] 31)).heap.size = w.heap.size + 1 + 1 + 1 + 1 := by simp
  obtain ⟨W0, hW0⟩ : ∃ W0, ((((w.alloc (.cells #[.func (.func 38) #[] #[]] 69)).alloc (.map #[] 0)).alloc (.cells #[.map (some (w.heap.size + 1))] 85)).alloc (.cells #[.slice p n c] 31)) = W0 := ⟨_, rfl⟩
  rw [hW0] at bF bM bL hown hB0 hz ⊢
  clear hW0
  refine rangeCell rfl (by omega) (gf := 64) (lb := #[.pointer (some ⟨w.heap.size + 1 + 1 + 1, 0, none⟩)]) rfl trivial (enters_of Try.func64 (by kernel_rfl) rfl)
    (bwdSeq p n c S hn 8 w.heap.size (w.heap.size + 1 + 1 + 1) W0 hB0.size (by omega) (by omega) bL (hp.low.below hB0)) hB0.size (by omega) (fun _ => rfl)
    (NumSI w S n) (fun _ => False) (numSI_stands w S n _ hz) (fun _ _ _ _ h _ _ => h) ⟨Nat.zero_le _, hown, bF, bM, hB0, by omega⟩
    (fun k a' W => ∃ Bx, w.heap.size + 1 + 1 + 1 < Bx ∧ Lies W Bx 55 #[.string (S (n - 1 - k)).nm, .int .i64 (S (n - 1 - k)).kd, .int .i64 (S (n - 1 - k)).pl, .int .i64 (S (n - 1 - k)).sz, .int .i64 (S (n - 1 - k)).fr, .int .i64 (S (n - 1 - k)).ow] ∧ a' = { tmps := #[.slice p n c, .func (.func 38) #[] #[], undef, .pointer (some ⟨w.heap.size, 0, none⟩), .map none, .pointer (some ⟨w.heap.size + 1 + 1, 0, none⟩), .int .i64 ((n - 1 - k : Nat) : Int), .pointer (some ⟨Bx, 0, none⟩), .slice p n c, .int .i64 n, .map (some (w.heap.size + 1)), .slice p n c, .func (.func 64) #[] #[.pointer (some ⟨w.heap.size + 1 + 1 + 1, 0, none⟩)], .int .i64 ((n - 1 - k : Nat) : Int), entA (S (n - 1 - k)), undef, undef, undef, undef, undef, undef], defers := [] })
    ?ax ?assign ?body ?done ?stop
  case ax =>
    rintro k a' _ A B row ⟨Bx, h1, h2, h3⟩ hg hrow
    refine ⟨Bx, h1, (hg.block Bx h2.lt (fun e => ?_)).trans h2, h3⟩
    rcases hrow Bx e.symm with h' | ⟨_, o, ho, hc⟩
    · omega
    · rw [show A.heap[Bx]? = _ from h2] at ho; cases ho; cases hc
  case assign =>
    rintro l k W K hI hK
    gi_wp2
    obtain ⟨q0, q1, q2, q3, q4, q5⟩ := hI
    have hI2 := (numSI_stands w S n _ rfl).alloc (.cells #[.string (S (n - 1 - k)).nm, .int .i64 (S (n - 1 - k)).kd, .int .i64 (S (n - 1 - k)).pl, .int .i64 (S (n - 1 - k)).sz, .int .i64 (S (n - 1 - k)).fr, .int .i64 (S (n - 1 - k)).ow] 55) (show NumSI w S n k W from ⟨q0, q1, q2, q3, q4, q5⟩)
    exact hK _ _ ((KeepsOthers.alloc _ _).from _) (RKeep.new ((Below.refl _ _).alloc (Nat.le_refl _) _) q4.size q5) hI2 ⟨W.heap.size, q5, Lies.new _ _ _, rfl⟩
  case body =>
    rintro l k a' W ⟨q0, q1, q2, q3, q4, q5⟩ ⟨Bx, hBx, hX, rfl⟩ hk
    have hwd := hw (n - 1 - k) (by omega)
    have hstep : mapR (H := Unit) (fun i => klS (S i)) n (k + 1) = (mapR (fun i => klS (S i)) n k).put (klS (S (n - 1 - k))) (.lit (.int .i64 ((n - 1 - k : Nat) : Int))) := rfl
    have hjn : n - 1 - k < n := by omega
    obtain ⟨j, hj⟩ : ∃ j, n - 1 - k = j := ⟨_, rfl⟩
    rw [hj] at hX hwd hstep hjn ⊢
    obtain ⟨d, hd⟩ : ∃ d, S j = d := ⟨_, rfl⟩
    rw [hd] at hX hwd hstep
    try rw [hd]
    obtain ⟨D0, hD0⟩ : ∃ D, mapR (H := Unit) (fun i => klS (S i)) n k = D := ⟨_, rfl⟩
    rw [hD0] at q1 hstep
    have hkey := keyS d hwd
    have hval := plainElem_int (H := Unit) Try.underlying3 (a := (j : Int)) (WalkArith.wf_i64 (by omega))
    have HU : Hid (∀ W2 : World, Below W.heap.size W W2 → ∃ w3, (Instr.mapUpdate 85 (.map (some (w.heap.size + 1))) (kvS d) (.int .i64 (j : Int))).run Try.prog W2 = .ok () w3 ∧ w3.ownsMap Try.prog 68 (plainElem (H := Unit) Try.prog 3) (w.heap.size + 1) (k + 1) (D0.put (klS d) (.lit (.int .i64 (j : Int)))) ∧ W2.grownBy w3 (some (w.heap.size + 1))) := by
      intro W2 hb2
      exact (q1.kept (row := none) ⟨hb2.os, hb2.tape, hb2.output, hb2.size, fun i hi _ => hb2.block i hi⟩ (by simp)).update keyLawS Try.underlying85 (by unfold maxLen; omega) hkey hval
    have FIN : ∀ w2 w3 : World, Below W.heap.size W w2 → w3.ownsMap Try.prog 68 (plainElem (H := Unit) Try.prog 3) (w.heap.size + 1) (k + 1) (D0.put (klS d) (.lit (.int .i64 (j : Int)))) → w2.grownBy w3 (some (w.heap.size + 1)) → KeepsFrom W0.heap.size W w3 ∧ RKeep w.heap.size (w.heap.size + 1 + 1 + 1) W w3 ∧ NumSI w S n (k + 1) w3 := by
      intro w2 w3 b2 ho3 hg3
      have g2 : W.grownBy w2 none := ⟨b2.os, b2.tape, b2.output, b2.size, fun i hi _ => b2.block i hi⟩
      have hs2 := b2.size
      have hs3 := hg3.size
      have hs4 := q4.size
      have kp : ∀ X, X < W.heap.size → X ≠ w.heap.size + 1 → w3.heap[X]? = W.heap[X]? := fun X h1 h2 => (hg3.block X (by omega) (fun e => h2 (Option.some.inj e))).trans (b2.block X h1)
      have B3 : Below w.heap.size W w3 := (b2.mono (by omega)).grown hg3 (by omega) (fun r e => by cases e; omega)
      refine ⟨(KeepsFrom.of_grownBy g2 (fun j e => by cases e)).trans (KeepsFrom.of_grownBy hg3 (fun j e => by cases e; omega)), ⟨B3, kp _ q5 (by omega)⟩, by omega, by rw [hstep]; exact ho3, (kp _ q2.lt (by omega)).trans q2, (kp _ q3.lt (by omega)).trans q3, q4.trans B3, by omega⟩
    have HFIN : Hid (∀ w2 w3 : World, Below W.heap.size W w2 → _) := FIN
    clear FIN
    have c2 := q2.cell
    have c3 := q3.cell
    have x0 := hX.cell (j := 0) rfl
    have x1 := hX.cell (j := 1) rfl
    have x2 := hX.cell (j := 2) rfl
    have x3 := hX.cell (j := 3) rfl
    have x4 := hX.cell (j := 4) rfl
    have x5 := hX.cell (j := 5) rfl
    have hl2 := q2.lt
    have hl3 := q3.lt
    have hlX := hX.lt
    obtain ⟨nm, kd, pl, sz, fr, ow⟩ := d
    clear hD0 hd hj hkey hval hwd q1 q2 q3 q4 hstep hX hw hp bL bM bF hown hB0
    gi_wp2_with fail
    gi_region_with ((refine ⟨trivial, ?_⟩; refine (CallsIn.inRound l (callsIn_wide.2 (methS ⟨nm, kd, pl, sz, fr, ow⟩ _))).mono ?_; rintro e w2 ⟨rfl, hb2⟩; have b2 : Below W.heap.size W w2 := (Below.refl W.heap.size W).drew.trans hb2; obtain ⟨w3, hrun, ho3, hg3⟩ := HU.out w2 b2; have d2 := (b2.cell (p := ⟨w.heap.size, 0, none⟩) hl2).trans c2; have d3 := (b2.cell (p := ⟨w.heap.size + 1 + 1, 0, none⟩) hl3).trans c3; have y0 := (b2.cell (p := ⟨Bx, 0, none⟩) hlX).trans x0; have y1 := (b2.cell (p := ⟨Bx, 1, none⟩) hlX).trans x1; have y2 := (b2.cell (p := ⟨Bx, 2, none⟩) hlX).trans x2; have y3 := (b2.cell (p := ⟨Bx, 3, none⟩) hlX).trans x3; have y4 := (b2.cell (p := ⟨Bx, 4, none⟩) hlX).trans x4; have y5 := (b2.cell (p := ⟨Bx, 5, none⟩) hlX).trans x5))
    all_goals
      clear hrun d2 d3 y0 y1 y2 y3 y4 y5 c2 c3 x0 x1 x2 x3 x4 x5
      gi_wp2
    all_goals exact HFIN.out _ _ b2 ho3 hg3
  case done =>
    rintro D W hD ⟨q0, q1, q2, q3, q4, q5⟩ hDq
    have c3 := q3.cell
    have q1' := q1.kept (grownBy_putObj' W D (.deferred none)) (by intro e; have := Option.some.inj e; omega)
    gi_wp2
    refine ⟨by simp, .inl ⟨_, _, rfl, run_takeDeferred hDq, ?_⟩⟩
    refine ⟨.map (some (w.heap.size + 1)), by simp [results, Try.results58, go_sem], rfl, q1', q4.trans (belowK_b (w := w) (Nat.le_refl _) W D _ _ (by omega) hDq rfl rfl)⟩
  case stop => rintro D W hD h; exact h.elim
end Go.Proofs.Ytelogjpjglohoaa
