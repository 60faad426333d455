/- LintFunction answers at every text, place, frame and list of places as its model does: the first instruction that is wrong, and why; the list is left as it was (the tie is given). -/
import Derived.Test.YtjokgiefnlpfkaaDoorCards
import Derived.Test.YtjokgiefnlpfkaaDoorTie
import Derived.Test.YtjokgiefnlpfkaaDoorGXLintFunction39
import Derived.WalkKit
import Derived.ProofKit
import Derived.OpenShut
import Derived.ShutString
import Derived.ChangeOld
import Derived.Below
import Derived.LaidMore
import Derived.Stop.Joined
import Derived.SevenTiedAt
import Derived.OpenVars
namespace Go.Proofs.YtjokgiefnlpfkaaDoor.fnExactLintFunction
open Go.RowKit Go.ChangeShapes Go.WideShapes Go.ChangeAt
open Go.ChangeMaps (open_string shut_string)
set_option linter.unusedVariables false

theorem own : ownKnob Tryd.prog.godebug = none := by kernel_rfl
theorem laidOut : laidOutB Tryd.prog = true := by kernel_rfl

def IsRow (k : IntKind) (w : World) (a : Option Addr) (len cap : Nat) (zs : List Int) : Prop :=
  (a = none ∧ len = 0 ∧ cap = 0 ∧ zs = []) ∨
  ∃ x, a = some x ∧ len ≤ cap ∧ cap ≤ maxLen ∧ zs.length = cap ∧ (∀ i, i < zs.length → w.cell? (x.add i) = some (.int k (zs.getD i 0))) ∧ ∀ n ∈ zs, (Lit.int k n).wf = true

set_option maxRecDepth 100000 in
set_option maxHeartbeats 4000000 in
theorem walk (a0 : ByteArray) (a1 : Int) (a2 : Int) (a3 : Option Addr) (len3 cap3 : Nat) (z3 : List Int) (w : World) (w0 : a0.size ≤ maxLen) (w1 : (Lit.int .i64 a1).wf = true) (w2 : (Lit.int .i64 a2).wf = true) (w3 : IsRow .i64 w a3 len3 cap3 z3) (hL : Laid w) :
    Calls Tryd.prog 5 #[.string a0, .int .i64 a1, .int .i64 a2, .slice a3 len3 cap3] w fun e w' => e = .returned (.bool true) ∧ Below w.heap.size w w' := by
  unfold maxLen at w0
  by_cases hlong : 1048576 < a0.size
  · clear hL w3
    go_enter Tryd.func5, Tryd.ntmps5
    go_wp2
    go_ret
    exact ⟨rfl, Below.refl _ _⟩
  have hR0 : RowAt w a3 len3 (fun i => z3.getD i 0) ∧ len3 ≤ 9223372036854775807 ∧ (z3.take len3).length = len3 := by
    rcases w3 with ⟨rfl, rfl, rfl, rfl⟩ | ⟨x, rfl, hl, hm, hz, hcell, hwz⟩
    · exact ⟨.inl rfl, by omega, rfl⟩
    · unfold maxLen at hm
      refine ⟨?_, by omega, by rw [List.length_take]; omega⟩
      by_cases h0 : len3 = 0
      · exact .inl h0
      · obtain ⟨b, off, spot⟩ := x
        have hspot : spot = none := by have hc := hcell 0 (by omega); simpa [Addr.add] using World.cell?_spot hc
        subst hspot
        have hc : ∀ i, i < len3 → w.cell? ⟨b, off + i, none⟩ = some (.int .i64 (z3.getD i 0)) := fun i hi => by
          have := hcell i (by omega)
          by_cases hi0 : i = 0
          · subst hi0; simpa [Addr.add] using this
          · simpa [Addr.add, hi0] using this
        exact .inr ⟨b, off, rfl, World.block_lt_of_cell? w _ (hc 0 (by omega)), hc⟩
  obtain ⟨hR, hmx, hzl⟩ := hR0
  clear w3
  by_cases hN : 1048576 < len3
  · clear hL hR
    go_enter Tryd.func5, Tryd.ntmps5
    go_wp2
    go_ret
    exact ⟨rfl, Below.refl _ _⟩
  have hN' : len3 ≤ 1048576 := by omega
  obtain ⟨R, hRe⟩ : ∃ R : Nat → Int, (fun i => z3.getD i 0) = R := ⟨_, rfl⟩
  obtain ⟨zs, hzs⟩ : ∃ zs, z3.take len3 = zs := ⟨_, rfl⟩
  have hg : ∀ i, i < len3 → R i = zs.getD i 0 := fun i hi => by
    rw [← hRe, ← hzs]
    simp [hi]
  rw [hRe] at hR
  rw [hzs] at hzl
  have toZ : ∀ pc (w : World), RowAt w pc len3 R → IntsAt w pc zs := fun pc w h => by
    unfold IntsAt
    rw [hzl]
    rcases h with h | ⟨b, o, h1, h2, h3⟩
    · exact .inl h
    · exact .inr ⟨b, o, h1, h2, fun i hi => by show _ = some (Value.int .i64 (zs.getD i 0)); rw [← hg i hi]; exact h3 i hi⟩
  obtain ⟨x, y, hs, hi⟩ := lintBoth a0 a1 a2 zs (by unfold maxLen; omega) (by omega) w1 w2
  rw [hzl] at hs hi
  have HS : Hid (∀ pc cc w, RowAt w pc len3 R → Calls Tryd.prog 17 #[.string a0, .int .i64 a1, .int .i64 a2, .slice pc len3 cc] w fun e w' => TwoN w.heap.size x y w e w') := fun pc cc w h => hs pc cc w (toZ pc w h)
  have HI : Hid (∀ pc cc w, Laid w → RowAt w pc len3 R → Calls Tryd.prog 19 #[.string a0, .int .i64 a1, .int .i64 a2, .slice pc len3 cc] w fun e w' => TwoN w.heap.size x y w e w') := fun pc cc w hl h => hi pc cc w hl (toZ pc w h)
  clear hs hi toZ hg hzl hzs hRe hN hmx
  go_enter Tryd.func5, Tryd.ntmps5
  go_wp2_with fail
  refine (toInts _ _ _ R _ hN' hR).mono ?_
  rintro e w4 ⟨g1, rfl, b1, _, l1, f1⟩
  go_wp2_with fail
  refine (HS.out _ _ _ (.inr ⟨g1, 0, rfl, l1, f1.rd⟩)).mono ?_
  rintro e w5 ⟨rfl, b2⟩
  have B2 := b1.trans (b2.mono b1.size)
  clear b1 b2 l1 f1
  go_wp2_with fail
  refine (toInts _ _ _ R _ hN' (hR.below B2)).mono ?_
  rintro e w6 ⟨g3, rfl, b3, _, l3, f3⟩
  have B3 := B2.trans (b3.mono B2.size)
  clear b3 B2
  go_wp2_with fail
  refine (HI.out _ _ _ (laid_below hL B3) (.inr ⟨g3, 0, rfl, l3, f3.rd⟩)).mono ?_
  rintro e w7 ⟨rfl, b4⟩
  have B4 := B3.trans (b4.mono B3.size)
  have f4 := f3.below b4 l3
  have l4 := Nat.lt_of_lt_of_le l3 b4.size
  clear b4 B3 f3 l3
  go_wp2_with fail
  refine (toInts _ _ _ R _ hN' (hR.below B4)).mono ?_
  rintro e w8 ⟨g5, rfl, b5, _, l5, f5⟩
  have B5 := B4.trans (b5.mono B4.size)
  have f6 := f4.below b5 l4
  have l6 := Nat.lt_of_lt_of_le l4 b5.size
  clear b5 B4 f4 l4
  go_wp2_with (go_at_call 20; refine (eqInts _ _ _ _ _ R _ (by omega) (.inr ⟨g3, 0, rfl, l6, f6.rd⟩) (.inr ⟨g5, 0, rfl, l5, f5.rd⟩)).mono ?_; rintro e w9 ⟨rfl, b9⟩)
  go_ret
  exact ⟨rfl, B5.trans (b9.mono B5.size)⟩

set_option maxRecDepth 100000 in
theorem lifted (os : Os) (started : os.Started) (H : Type) (enc : TypeId × Value → H) :
    ReturnsInHanded {} Tryd.checked os 5 .any (fun w args => (Rows.fnExactLintFunctionSpec.pre enc Tryd.prog Tryd.f5 [] false w args ∧ laidMetH Tryd.prog laidList w) ∧ sizedMet enc Tryd.prog Tryd.f5 (OpenSpec.ofChange Rows.fnExactLintFunctionSpec) false w args)
      (Rows.fnExactLintFunctionSpec.post enc Tryd.prog Tryd.f5 false true false false) := by
  refine returnsInHanded_of_change_and (C := Tryd.checked) (X := fun w _ => laidMetH Tryd.prog laidList w) (fun _ _ _ hh h => h.of_heap hh) own started (by kernel_rfl) Tryd.func5
    (ChangeSpec.witness_shaped (enc := enc) (C := Tryd.checked) (os := os) (X := fun w _ => laidMetH Tryd.prog laidList w) false (World.doorLaid Tryd.prog 400 os) #[.string ByteArray.empty, .int .i64 0, .int .i64 0, .slice none 0 0] 8 rfl (World.shaped_of_RefB (by kernel_rfl) (by kernel_rfl)) (by kernel_rfl) (by kernel_rfl) (by kernel_rfl) (door_met os _)) ?_
  intro W base args ds gs before hval0 hW _ _ hL0 _
  have hval : ∀ (j : Nat) t v, Tryd.f5.params[j]? = some t → args[j]? = some v → Value.okWide Tryd.prog W .any base t v := hval0
  have hW' := hW
  obtain ⟨p, q, hA0, hV, rfl, hfz, hnd⟩ := hW
  have hA : DataW.TrodAll enc Tryd.prog W 0 (fun _ => true) true Tryd.f5.params.toList args.toList ds p := hA0
  rw [Tryd.params5] at hA hval
  obtain ⟨v0, vs0, d0, ds0, p0, q0, hargs, rfl, rfl, h0, r0⟩ := trodAll_cons hA
  obtain ⟨v1, vs1, d1, ds1, p1, q1, rfl, rfl, rfl, h1, r1⟩ := trodAll_cons r0
  obtain ⟨v2, vs2, d2, ds2, p2, q2, rfl, rfl, rfl, h2, r2⟩ := trodAll_cons r1
  obtain ⟨v3, vs3, d3, ds3, p3, q3, rfl, rfl, rfl, h3, r3⟩ := trodAll_cons r2
  obtain ⟨rfl, rfl, rfl⟩ := trodAll_nil r3
  obtain rfl : args = #[v0, v1, v2, v3] := by cases args; simp_all
  obtain ⟨g0, g1, rfl⟩ := vars_len2 hV
  have hL : Laid W := of_laid hL0
  clear hL0
  obtain ⟨a0, rfl, rfl, rfl, w0⟩ := open_string Tryd.underlying9 (hval 0 9 v0 rfl rfl) h0
  obtain ⟨a1, rfl, rfl, rfl, w1⟩ := open_int Tryd.underlying3 (hval 1 3 v1 rfl rfl) h1
  obtain ⟨a2, rfl, rfl, rfl, w2⟩ := open_int Tryd.underlying3 (hval 2 3 v2 rfl rfl) h2
  obtain ⟨a3, len3, cap3, rfl⟩ := okWide_slice Tryd.underlying34 (hval 3 34 v3 rfl rfl)
  have k3 := h3
  have lt3 : ∀ x ∈ p3, x.block < W.heap.size := by obtain ⟨m, hm⟩ := k3; exact DataW.trod_lt m _ _ _ hm
  obtain ⟨z3, w3⟩ : ∃ zs, IsRow .i64 W a3 len3 cap3 zs := by
    obtain ⟨fuel, hf⟩ := h3
    rcases open_ints Tryd.underlying34 Tryd.underlying3 (by kernel_rfl) hf with ⟨hcs, _⟩ | ⟨x, l, c, zs, hcs, _, hl, hm, hz, _, hcell, hwz⟩
    · simp [Value.cells] at hcs
      obtain ⟨rfl, rfl, rfl⟩ := hcs
      exact ⟨[], .inl ⟨rfl, rfl, rfl, rfl⟩⟩
    · simp [Value.cells] at hcs
      obtain ⟨rfl, rfl, rfl⟩ := hcs
      exact ⟨zs, .inr ⟨_, rfl, hl, hm, by simpa using hz, hcell, hwz⟩⟩
  clear hA0 hval0
  refine (walk a0 a1 a2 a3 len3 cap3 z3 W w0 w1 w2 w3 hL).mono fun e W' ⟨he, bel⟩ => ?_
  subst he
  exact ⟨_, rfl, _, _, _, [], _, q, hW', trodAll_mk1 (shut_bool Tryd.underlying4 _), (trodAll_cons_mk (shut_string Tryd.underlying9 w0) (trodAll_cons_mk (shut_int Tryd.underlying3 w1) (trodAll_cons_mk (shut_int Tryd.underlying3 w2) (trodAll_cons_mk (Below.trod laidOut (by kernel_rfl) (of_decide_eq_true (by kernel_rfl)) k3 bel lt3) trodAll_mk0)))), Below.trodVars laidOut bel (by kernel_rfl) hV, bel.frame _, fun h => by cases h⟩

theorem over : Rows.FnExactLintFunctionSaid :=
  OpenClaim.holds_of_wide 5 Tryd.f5 rfl rfl rfl rfl rfl rfl rfl ⟨rfl, rfl, rfl, rfl, rfl⟩ rfl rfl rfl rfl rfl (by kernel_rfl) Tryd.func5 (by kernel_rfl)
    (of_decide_eq_true (by kernel_rfl)) (by unfold Func.isWrapper; first | (rw [if_pos (by decide +kernel)]; kernel_rfl) | (rw [if_neg (by decide +kernel)]; exact ⟨rfl, rfl⟩))
    (fun os started H enc _ => lifted os started H enc)

theorem plain (f : FuncId) (fn : Func) (hf : Tryd.pinned.checked.prog.funcNamed "loop.example/g00654/laws.FnExactLintFunction" = some f) (hfn : Tryd.pinned.checked.prog.funcs[f]? = some fn) :
    true = Tryd.pinned.checked.prog.looks [] ∧ ∀ (j : Nat) t, fn.params[j]? = some t → Tryd.pinned.checked.prog.wantsStandIn t = false := by
  obtain rfl : f = 5 := Option.some.inj ((show Tryd.prog.funcNamed "loop.example/g00654/laws.FnExactLintFunction" = some 5 by kernel_rfl).symm.trans hf) |>.symm
  obtain rfl : fn = Tryd.f5 := (Option.some.inj (Tryd.func5.symm.trans hfn)).symm
  refine ⟨by kernel_rfl, fun j t ht => ?_⟩
  rw [Tryd.params5] at ht
  have hm : t ∈ [3, 9, 34] := by
    have := Array.mem_of_getElem? ht
    simp at this ⊢
    first | omega | exact this | exact this.symm | (rcases this with h | h <;> simp [h]) | (rcases this with h | h | h <;> simp [h]) | (rcases this with h | h | h | h <;> simp [h])
  have hall : ([3, 9, 34].all fun u => !Tryd.prog.wantsStandIn u) = true := by kernel_rfl
  exact (show Tryd.prog.wantsStandIn t = false by simpa using List.all_eq_true.1 hall t hm)

theorem card : Rows.FnExactLintFunctionCardSaid :=
  Claim7.holds_tied_plain_at .later [] _ _ _ _ over (fun _ h => by cases h) (by kernel_rfl) (fun _ h => by cases h) fnExactLintFunction_row_tie rfl ⟨rfl, rfl⟩ (by kernel_rfl) rfl plain (by kernel_rfl)
end Go.Proofs.YtjokgiefnlpfkaaDoor.fnExactLintFunction
theorem Go.Proofs.YtjokgiefnlpfkaaDoor.lintFunction_holds : Go.Proofs.YtjokgiefnlpfkaaDoor.Rows.FnExactLintFunctionCardSaid := Go.Proofs.YtjokgiefnlpfkaaDoor.fnExactLintFunction.card
