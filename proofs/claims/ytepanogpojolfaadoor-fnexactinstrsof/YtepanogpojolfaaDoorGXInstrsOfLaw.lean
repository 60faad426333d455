/- InstrsOf answers at every text as its model does: the instructions of its words, or a code; its list is its own (the tie is given). -/
import Derived.Test.YtepanogpojolfaaDoorCards
import Derived.Test.YtepanogpojolfaaDoorTie
import Derived.Test.YtepanogpojolfaaDoorGXInstrsOf5
import Derived.WalkKit
import Derived.ProofKit
import Derived.OpenShut
import Derived.ShutString
import Derived.ChangeOld
import Derived.Below
import Derived.LaidMore
import Derived.Stop.Joined
import Derived.SevenTiedAt
import Derived.OpenVars
namespace Go.Proofs.YtepanogpojolfaaDoor.fnExactInstrsOf
open Go.RowKit Go.ChangeShapes Go.WideShapes Go.ChangeAt
open Go.ChangeMaps (open_string shut_string)
set_option linter.unusedVariables false

theorem own : ownKnob Tryd.prog.godebug = none := by kernel_rfl
theorem laidOut : laidOutB Tryd.prog = true := by kernel_rfl

set_option maxRecDepth 100000 in
set_option maxHeartbeats 2000000 in
theorem walk (a0 : ByteArray) (w0 : a0.size ≤ maxLen) (w : World) (hL : Laid w) :
    Calls Tryd.prog 5 #[.string a0] w fun e w' => e = .returned (.bool true) ∧ Below w.heap.size w w' := by
  obtain ⟨n, x, y, R, hn, hs, hi⟩ := instrsBoth a0 w0
  unfold maxLen at w0
  have HS : Hid (∀ w, Calls Tryd.prog 18 #[.string a0] w fun e w' => ListAns w.heap.size n x y R w e w') := hs
  have HI : Hid (∀ w, Laid w → Calls Tryd.prog 19 #[.string a0] w fun e w' => ListAns w.heap.size n x y R w e w') := hi
  clear hs hi
  by_cases hlong : 1048576 < a0.size
  · clear hL HS HI
    go_enter Tryd.func5, Tryd.ntmps5
    go_wp2
    go_ret
    exact ⟨rfl, Below.refl _ _⟩
  by_cases hn0 : n = 0
  · subst hn0
    go_enter Tryd.func5, Tryd.ntmps5
    go_wp2_with fail
    refine (HS.out _).mono ?_
    rintro e w1 ⟨⟨p1, c1, rfl, o1⟩, b1⟩
    go_wp2_with fail
    refine (HI.out _ (laid_below hL b1)).mono ?_
    rintro e w2 ⟨⟨p2, c2, rfl, o2⟩, b2⟩
    have B2 := b1.trans (b2.mono b1.size)
    clear b1 b2 o1 o2
    go_wp2_with fail
    refine (eqList p2 p1 0 c2 c1 (fun _ => 0) _ (by omega) (.inl rfl) (.inl rfl)).mono ?_
    rintro e w3 ⟨rfl, b3⟩
    have B3 := B2.trans (b3.mono B2.size)
    clear b3 B2
    go_wp2_with (first | (go_at_call 21; refine (markNil _ _ _ _).mono ?_; rintro e w' ⟨rfl, rfl⟩) | (go_at_call 22; refine (heldNil _ _ _ _).mono ?_; rintro e w' ⟨rfl, rfl⟩))
    refine (HI.out _ (laid_below hL B3)).mono ?_
    rintro e w4 ⟨⟨p4, c4, rfl, o4⟩, b4⟩
    have B4 := B3.trans (b4.mono B3.size)
    clear b4 B3 o4
    go_wp2_with (first | (go_at_call 22; refine (heldNil _ _ _ _).mono ?_; rintro e w' ⟨rfl, rfl⟩) | (go_at_call 20; refine (eqList p4 p1 0 c4 c1 (fun _ => 0) _ (by omega) (.inl rfl) (.inl rfl)).mono ?_; rintro e w5 ⟨rfl, b5⟩))
    go_ret
    exact ⟨rfl, B4.trans (b5.mono B4.size)⟩
  · go_enter Tryd.func5, Tryd.ntmps5
    go_wp2_with fail
    refine (HS.out _).mono ?_
    rintro e w1 ⟨⟨p1, c1, rfl, o1⟩, b1⟩
    rcases o1 with o1 | ⟨g1, rfl, hg1, hl1, f1⟩
    · exact absurd o1 hn0
    go_wp2_with fail
    refine (HI.out _ (laid_below hL b1)).mono ?_
    rintro e w2 ⟨⟨p2, c2, rfl, o2⟩, b2⟩
    rcases o2 with o2 | ⟨g2, rfl, hg2, hl2, r2⟩
    · exact absurd o2 hn0
    have f2 := f1.below b2 hl1
    have B2 := b1.trans (b2.mono b1.size)
    have s1 := b1.size
    have s2 := b2.size
    clear f1 b1 b2
    go_wp2_with fail
    refine (eqList (some ⟨g2, 0, none⟩) (some ⟨g1, 0, none⟩) n c2 c1 R _ (by omega) (.inr ⟨g2, 0, rfl, hl2, r2.rd⟩) (.inr ⟨g1, 0, rfl, by omega, f2.rd⟩)).mono ?_
    rintro e w3 ⟨rfl, hb3⟩
    have f3 := f2.below hb3 (by omega)
    have r3 := r2.below hb3 hl2
    have B3 := B2.trans (hb3.mono B2.size)
    have s3 := hb3.size
    clear f2 r2 hb3 B2
    go_wp2_with fail
    refine (markList g2 0 n c2 1 R _ (by omega) (by omega) (by omega) r3).mono ?_
    rintro e w4 ⟨rfl, hb4, z4, r4⟩
    have f4 := f3.below hb4 (by omega)
    have B4 := B3.trans (hb4.mono (by omega))
    clear f3 r3 hb4 B3
    go_wp2_with fail
    refine (heldList g2 0 n c2 1 _ (by omega) (by omega) r4).mono ?_
    rintro e w5 ⟨rfl, rfl⟩
    go_wp2_with fail
    refine (HI.out _ (laid_below hL B4)).mono ?_
    rintro e w6 ⟨⟨p6, c6, rfl, o6⟩, b6⟩
    rcases o6 with o6 | ⟨g6, rfl, hg6, hl6, r6⟩
    · exact absurd o6 hn0
    have f6 := f4.below b6 (by omega)
    have k6 := r4.below b6 (by omega)
    have B6 := B4.trans (b6.mono B4.size)
    have s6 := b6.size
    clear f4 r4 b6 B4
    go_wp2_with fail
    refine (eqList (some ⟨g6, 0, none⟩) (some ⟨g1, 0, none⟩) n c6 c1 R _ (by omega) (.inr ⟨g6, 0, rfl, hl6, r6.rd⟩) (.inr ⟨g1, 0, rfl, by omega, f6.rd⟩)).mono ?_
    rintro e w7 ⟨rfl, hb7⟩
    have k7 := k6.below hb7 (by omega)
    have B7 := B6.trans (hb7.mono B6.size)
    clear f6 k6 hb7 B6 r6
    go_wp2_with (go_at_call 22; refine (heldList g2 0 n c2 1 _ (by omega) (by omega) k7).mono ?_; rintro e w8 ⟨rfl, rfl⟩)
    go_ret
    exact ⟨rfl, B7⟩

set_option maxRecDepth 100000 in
theorem lifted (os : Os) (started : os.Started) (H : Type) (enc : TypeId × Value → H) :
    ReturnsInHanded {} Tryd.checked os 5 .any (fun w args => (Rows.fnExactInstrsOfSpec.pre enc Tryd.prog Tryd.f5 [] false w args ∧ laidMetH Tryd.prog laidList w) ∧ sizedMet enc Tryd.prog Tryd.f5 (OpenSpec.ofChange Rows.fnExactInstrsOfSpec) false w args)
      (Rows.fnExactInstrsOfSpec.post enc Tryd.prog Tryd.f5 false true false false) := by
  refine returnsInHanded_of_change_and (C := Tryd.checked) (X := fun w _ => laidMetH Tryd.prog laidList w) (fun _ _ _ hh h => h.of_heap hh) own started (by kernel_rfl) Tryd.func5
    (ChangeSpec.witness_shaped (enc := enc) (C := Tryd.checked) (os := os) (X := fun w _ => laidMetH Tryd.prog laidList w) false (World.doorLaid Tryd.prog 400 os) #[.string ByteArray.empty] 8 rfl (World.shaped_of_RefB (by kernel_rfl) (by kernel_rfl)) (by kernel_rfl) (by kernel_rfl) (by kernel_rfl) (door_met os _)) ?_
  intro W base args ds gs before hval0 hW _ _ hL0 _
  have hval : ∀ (j : Nat) t v, Tryd.f5.params[j]? = some t → args[j]? = some v → Value.okWide Tryd.prog W .any base t v := hval0
  have hW' := hW
  obtain ⟨p, q, hA0, hV, rfl, hfz, hnd⟩ := hW
  have hA : DataW.TrodAll enc Tryd.prog W 0 (fun _ => true) true Tryd.f5.params.toList args.toList ds p := hA0
  rw [Tryd.params5] at hA hval
  obtain ⟨v0, vs0, d0, ds0, p0, q0, hargs, rfl, rfl, h0, r0⟩ := trodAll_cons hA
  obtain ⟨rfl, rfl, rfl⟩ := trodAll_nil r0
  obtain rfl : args = #[v0] := by cases args; simp_all
  obtain ⟨g0, g1, g2, g3, g4, rfl⟩ := vars_len5 hV
  have hL : Laid W := of_laid hL0
  clear hL0
  obtain ⟨a0, rfl, rfl, rfl, w0⟩ := open_string Tryd.underlying9 (hval 0 9 v0 rfl rfl) h0
  clear hA0 hval0
  refine (walk a0 w0 W hL).mono fun e W' ⟨he, hg⟩ => ?_
  subst he
  exact ⟨_, rfl, _, _, _, [], _, q, hW', trodAll_mk1 (shut_bool Tryd.underlying4 _), (trodAll_cons_mk (shut_string Tryd.underlying9 w0) trodAll_mk0), Below.trodVars laidOut hg (by kernel_rfl) hV, hg.frame _, fun h => by cases h⟩

theorem over : Rows.FnExactInstrsOfSaid :=
  OpenClaim.holds_of_wide 5 Tryd.f5 rfl rfl rfl rfl rfl rfl rfl ⟨rfl, rfl, rfl, rfl, rfl⟩ rfl rfl rfl rfl rfl (by kernel_rfl) Tryd.func5 (by kernel_rfl)
    (of_decide_eq_true (by kernel_rfl)) (by unfold Func.isWrapper; first | (rw [if_pos (by decide +kernel)]; kernel_rfl) | (rw [if_neg (by decide +kernel)]; exact ⟨rfl, rfl⟩))
    (fun os started H enc _ => lifted os started H enc)

theorem plain (f : FuncId) (fn : Func) (hf : Tryd.pinned.checked.prog.funcNamed "loop.example/g00654/laws.FnExactInstrsOf" = some f) (hfn : Tryd.pinned.checked.prog.funcs[f]? = some fn) :
    true = Tryd.pinned.checked.prog.looks [] ∧ ∀ (j : Nat) t, fn.params[j]? = some t → Tryd.pinned.checked.prog.wantsStandIn t = false := by
  obtain rfl : f = 5 := Option.some.inj ((show Tryd.prog.funcNamed "loop.example/g00654/laws.FnExactInstrsOf" = some 5 by kernel_rfl).symm.trans hf) |>.symm
  obtain rfl : fn = Tryd.f5 := (Option.some.inj (Tryd.func5.symm.trans hfn)).symm
  refine ⟨by kernel_rfl, fun j t ht => ?_⟩
  rw [Tryd.params5] at ht
  have hm : t ∈ [9] := by
    have := Array.mem_of_getElem? ht
    simp at this ⊢
    first | omega | exact this | exact this.symm | (rcases this with h | h <;> simp [h]) | (rcases this with h | h | h <;> simp [h]) | (rcases this with h | h | h | h <;> simp [h])
  have hall : ([9].all fun u => !Tryd.prog.wantsStandIn u) = true := by kernel_rfl
  exact (show Tryd.prog.wantsStandIn t = false by simpa using List.all_eq_true.1 hall t hm)

theorem card : Rows.FnExactInstrsOfCardSaid :=
  Claim7.holds_tied_plain_at .later [] _ _ _ _ over (fun _ h => by cases h) (by kernel_rfl) (fun _ h => by cases h) fnExactInstrsOf_row_tie rfl ⟨rfl, rfl⟩ (by kernel_rfl) rfl plain (by kernel_rfl)
end Go.Proofs.YtepanogpojolfaaDoor.fnExactInstrsOf
theorem Go.Proofs.YtepanogpojolfaaDoor.instrsOf_holds : Go.Proofs.YtepanogpojolfaaDoor.Rows.FnExactInstrsOfCardSaid := Go.Proofs.YtepanogpojolfaaDoor.fnExactInstrsOf.card
