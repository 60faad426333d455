/- ImageText answers at every image as its model does: its text, or that it is not right; the image is left as it was (the tie is given). -/
import Derived.Test.YthihlbfmpkjhpaaGreatDoorCards
import Derived.Test.YthihlbfmpkjhpaaGreatDoorTie
import Derived.Test.YthihlbfmpkjhpaaGreatDoorGXImageText1
import Derived.Test.YthihlbfmpkjhpaaGreatDoorGXLintImage1
import Derived.WalkKit
import Derived.ProofKit
import Derived.OpenShut
import Derived.ShutString
import Derived.ChangeOld
import Derived.Below
import Derived.LaidMore
import Derived.Stop.Joined
import Derived.SevenTiedAt
import Derived.OpenVars
namespace Go.Proofs.YthihlbfmpkjhpaaGreatDoor.fnExactImageText
open Go.RowKit Go.ChangeShapes Go.WideShapes Go.ChangeAt
open Go.ChangeMaps (open_string shut_string)
set_option linter.unusedVariables false

theorem own : ownKnob Tryz.prog.godebug = none := by kernel_rfl
theorem laidOut : laidOutB Tryz.prog = true := by kernel_rfl

set_option maxRecDepth 100000 in
set_option maxHeartbeats 4000000 in
theorem walk (c0 s0 : ByteArray) (a0 : Option Addr) (len0 cap0 : Nat) (S0 : Nat → SymD) (w : World) (w0 : IsImage w c0 s0 a0 len0 cap0 S0) (hL : Laid w) :
    Calls Tryz.prog 5 #[.agg #[.string c0, .string s0, .slice a0 len0 cap0]] w fun e w' => e = .returned (.bool true) ∧ Below w.heap.size w w' := by
  obtain ⟨hc0, hs0, hp, hwf, hlen, hcap⟩ := w0
  have hl0 : len0 ≤ maxLen := Nat.le_trans hlen hcap
  have bA := grown1' w (.cells #[.string c0, .string s0, .slice a0 len0 cap0] 24)
  have i0 : (w.alloc (.cells #[.string c0, .string s0, .slice a0 len0 cap0] 24)).cell? ⟨w.heap.size, 0, none⟩ = some (.string c0) := by simp
  have i1 : (w.alloc (.cells #[.string c0, .string s0, .slice a0 len0 cap0] 24)).cell? ⟨w.heap.size, 1, none⟩ = some (.string s0) := by simp
  have i2 : (w.alloc (.cells #[.string c0, .string s0, .slice a0 len0 cap0] 24)).cell? ⟨w.heap.size, 2, none⟩ = some (.slice a0 len0 cap0) := by simp
  have hlx : w.heap.size < (w.alloc (.cells #[.string c0, .string s0, .slice a0 len0 cap0] 24)).heap.size := by simp
  have hp1 := hp.below bA
  have hL1 := laid_below hL bA
  have sz := szImg c0 s0 a0 len0 cap0 S0 _ hc0 hs0 hl0 (fun i hi => (hwf i hi).1) hp1
  have HA : Hid (Below w.heap.size w (w.alloc (.cells #[.string c0, .string s0, .slice a0 len0 cap0] 24))) := bA
  have HWF : Hid (∀ i, i < len0 → (S0 i).wf) := hwf
  clear hp hwf hlen hcap bA hL hc0 hs0 hl0
  go_enter Tryz.func5, Tryz.ntmps5
  go_wp2_with fail
  refine sz.mono ?_
  rintro e w1 ⟨⟨r, rfl, hr⟩, hb1⟩
  have B1 := HA.out.trans (hb1.mono HA.out.size)
  have j0 := (hb1.cell (p := ⟨w.heap.size, 0, none⟩) hlx).trans i0
  have j1 := (hb1.cell (p := ⟨w.heap.size, 1, none⟩) hlx).trans i1
  have j2 := (hb1.cell (p := ⟨w.heap.size, 2, none⟩) hlx).trans i2
  have hlx1 := Nat.lt_of_lt_of_le hlx hb1.size
  have hp2 := hp1.below hb1
  have hL2 := laid_below hL1 hb1
  clear sz hb1 i0 i1 i2 hp1 hL1 hlx HA
  rcases hr with rfl | ⟨r0, r1, hc, hs, hn, _⟩
  · go_wp2_with fail
    go_ret
    exact ⟨rfl, B1⟩
  obtain ⟨x, y, hS, hI⟩ := txtBoth c0 s0 len0 S0 hc hs hn HWF.out
  have HS : Hid (∀ p kk w, SymsAt w p len0 S0 → Calls Tryz.prog 17 #[.agg #[.string c0, .string s0, .slice p len0 kk]] w fun e w' => TxtAns w.heap.size x y w e w') := hS
  have HI : Hid (∀ p kk w, len0 ≤ kk → Laid w → SymsAt w p len0 S0 → Calls Tryz.prog 18 #[.agg #[.string c0, .string s0, .slice p len0 kk]] w fun e w' => TxtAns w.heap.size x y w e w') := hI
  clear hS hI
  go_wp2_with fail
  refine (toImg c0 s0 a0 len0 cap0 S0 _ hn hp2).mono ?_
  rintro e w3 ⟨g, rfl, hb3, _, l3, f3⟩
  have hy3 := f3.syms l3
  have hp3 := hp2.below hb3
  have hL3 := laid_below hL2 hb3
  have B3 := B1.trans (hb3.mono B1.size)
  have k0 := (hb3.cell (p := ⟨w.heap.size, 0, none⟩) hlx1).trans j0
  have k1 := (hb3.cell (p := ⟨w.heap.size, 1, none⟩) hlx1).trans j1
  have k2 := (hb3.cell (p := ⟨w.heap.size, 2, none⟩) hlx1).trans j2
  have hlx3 := Nat.lt_of_lt_of_le hlx1 hb3.size
  clear hb3 j0 j1 j2 hp2 hL2 B1 f3 l3 hlx1
  go_wp2_with fail
  refine (HS.out _ _ _ hy3).mono ?_
  rintro e w4 ⟨rfl, hb4⟩
  have hp4 := hp3.below hb4
  have hL4 := laid_below hL3 hb4
  have B4 := B3.trans (hb4.mono B3.size)
  have m0 := (hb4.cell (p := ⟨w.heap.size, 0, none⟩) hlx3).trans k0
  have m1 := (hb4.cell (p := ⟨w.heap.size, 1, none⟩) hlx3).trans k1
  have m2 := (hb4.cell (p := ⟨w.heap.size, 2, none⟩) hlx3).trans k2
  have hlx4 := Nat.lt_of_lt_of_le hlx3 hb4.size
  clear hb4 k0 k1 k2 hp3 hL3 B3 hy3 hlx3
  go_wp2_with fail
  refine (toImg c0 s0 a0 len0 cap0 S0 _ hn hp4).mono ?_
  rintro e w5 ⟨g5, rfl, hb5, _, l5, f5⟩
  have hy5 := f5.syms l5
  have hp5 := hp4.below hb5
  have hL5 := laid_below hL4 hb5
  have B5 := B4.trans (hb5.mono B4.size)
  have n0 := (hb5.cell (p := ⟨w.heap.size, 0, none⟩) hlx4).trans m0
  have n1 := (hb5.cell (p := ⟨w.heap.size, 1, none⟩) hlx4).trans m1
  have n2 := (hb5.cell (p := ⟨w.heap.size, 2, none⟩) hlx4).trans m2
  have hlx5 := Nat.lt_of_lt_of_le hlx4 hb5.size
  clear hb5 m0 m1 m2 hp4 hL4 B4 hlx4 f5 l5
  have bX := grown1' w5 (.cells #[.string c0, .string s0, .slice (some ⟨g5, 0, none⟩) len0 len0] 30)
  have x0 : (w5.alloc (.cells #[.string c0, .string s0, .slice (some ⟨g5, 0, none⟩) len0 len0] 30)).cell? ⟨w5.heap.size, 0, none⟩ = some (.string c0) := by simp
  have x1 : (w5.alloc (.cells #[.string c0, .string s0, .slice (some ⟨g5, 0, none⟩) len0 len0] 30)).cell? ⟨w5.heap.size, 1, none⟩ = some (.string s0) := by simp
  have x2 : (w5.alloc (.cells #[.string c0, .string s0, .slice (some ⟨g5, 0, none⟩) len0 len0] 30)).cell? ⟨w5.heap.size, 2, none⟩ = some (.slice (some ⟨g5, 0, none⟩) len0 len0) := by simp
  have xl : w5.heap.size < (w5.alloc (.cells #[.string c0, .string s0, .slice (some ⟨g5, 0, none⟩) len0 len0] 30)).heap.size := by simp
  have hy6 := hy5.below bX
  have hp6 := hp5.below bX
  have hL6 := laid_below hL5 bX
  have B6 : Hid (Below w.heap.size w (w5.alloc (.cells #[.string c0, .string s0, .slice (some ⟨g5, 0, none⟩) len0 len0] 30))) := B5.trans (bX.mono B5.size)
  have o0 := (bX.cell (p := ⟨w.heap.size, 0, none⟩) hlx5).trans n0
  have o1 := (bX.cell (p := ⟨w.heap.size, 1, none⟩) hlx5).trans n1
  have o2 := (bX.cell (p := ⟨w.heap.size, 2, none⟩) hlx5).trans n2
  have hlx6 := Nat.lt_of_lt_of_le hlx5 bX.size
  clear n0 n1 n2 hy5 hp5 hL5 B5 hlx5 bX
  go_wp2_with fail
  refine (HI.out _ _ _ (Nat.le_refl _) hL6 hy6).mono ?_
  rintro e w7 ⟨rfl, hb7⟩
  have hp7 := hp6.below hb7
  have hy7 := hy6.below hb7
  have B7 : Hid (Below w.heap.size w w7) := B6.out.trans (hb7.mono B6.out.size)
  have q0 := (hb7.cell (p := ⟨w.heap.size, 0, none⟩) hlx6).trans o0
  have q1 := (hb7.cell (p := ⟨w.heap.size, 1, none⟩) hlx6).trans o1
  have q2 := (hb7.cell (p := ⟨w.heap.size, 2, none⟩) hlx6).trans o2
  have y0 := (hb7.cell (p := ⟨w5.heap.size, 0, none⟩) xl).trans x0
  have y1 := (hb7.cell (p := ⟨w5.heap.size, 1, none⟩) xl).trans x1
  have y2 := (hb7.cell (p := ⟨w5.heap.size, 2, none⟩) xl).trans x2
  have hlxA := Nat.lt_of_lt_of_le hlx6 hb7.size
  have xlA := Nat.lt_of_lt_of_le xl hb7.size
  clear hb7 o0 o1 o2 x0 x1 x2 hp6 hy6 hL6 B6 HS HI
  go_wp2_with fail
  have hlx7 : w.heap.size < w7.heap.size := hlxA
  have xl7 : w5.heap.size < w7.heap.size := xlA
  go_region_held3 (fun w' => w'.cell? ⟨w.heap.size, 0, none⟩ = some (.string c0) ∧ w'.cell? ⟨w.heap.size, 1, none⟩ = some (.string s0) ∧ w'.cell? ⟨w.heap.size, 2, none⟩ = some (.slice a0 len0 cap0) ∧ w'.cell? ⟨w5.heap.size, 0, none⟩ = some (.string c0) ∧ w'.cell? ⟨w5.heap.size, 1, none⟩ = some (.string s0) ∧ w'.cell? ⟨w5.heap.size, 2, none⟩ = some (.slice (some ⟨g5, 0, none⟩) len0 len0)) (go_keep) (first | (go_at_call 12; refine (toImg c0 s0 a0 len0 cap0 S0 _ hn (by first | exact hp7 | exact hp7.below (Below.refl _ _).drew)).mono ?_; rintro e w8 ⟨g8, rfl, hb8, _, l8, f8⟩; have b8 : Below w7.heap.size w7 w8 := (by first | exact hb8 | exact (Below.refl w7.heap.size w7).drew.trans hb8); have hy8 := f8.syms l8; have hz8 := hy7.below b8; have r0 := (b8.cell (p := ⟨w.heap.size, 0, none⟩) hlx7).trans q0; have r1 := (b8.cell (p := ⟨w.heap.size, 1, none⟩) hlx7).trans q1; have r2 := (b8.cell (p := ⟨w.heap.size, 2, none⟩) hlx7).trans q2; have r3 := (b8.cell (p := ⟨w5.heap.size, 0, none⟩) xl7).trans y0; have r4 := (b8.cell (p := ⟨w5.heap.size, 1, none⟩) xl7).trans y1; have r5 := (b8.cell (p := ⟨w5.heap.size, 2, none⟩) xl7).trans y2) | (go_at_call 14; refine (eqImg c0 s0 _ _ len0 _ _ S0 _ (by omega) hz8 hy8).mono ?_; rintro e w9 ⟨rfl, hb9⟩; have b9 : Below w7.heap.size w7 w9 := b8.trans (hb9.mono b8.size); have t0 := (b9.cell (p := ⟨w.heap.size, 0, none⟩) hlx7).trans q0; have t1 := (b9.cell (p := ⟨w.heap.size, 1, none⟩) hlx7).trans q1; have t2 := (b9.cell (p := ⟨w.heap.size, 2, none⟩) hlx7).trans q2; have t3 := (b9.cell (p := ⟨w5.heap.size, 0, none⟩) xl7).trans y0; have t4 := (b9.cell (p := ⟨w5.heap.size, 1, none⟩) xl7).trans y1; have t5 := (b9.cell (p := ⟨w5.heap.size, 2, none⟩) xl7).trans y2))
  all_goals
    have B9 : Below w.heap.size w w9 := B7.out.trans (b9.mono B7.out.size)
    clear hb8 hb9 b8 b9 hy8 hz8 hy7 hp7
    go_wp2_with fail
    go_ret
    exact ⟨rfl, B9⟩

set_option maxRecDepth 100000 in
theorem lifted (os : Os) (started : os.Started) (H : Type) (enc : TypeId × Value → H) :
    ReturnsInHanded {} Tryz.checked os 5 .any (fun w args => (Rows.fnExactImageTextSpec.pre enc Tryz.prog Tryz.f5 [] false w args ∧ laidMetH Tryz.prog laidList w) ∧ sizedMet enc Tryz.prog Tryz.f5 (OpenSpec.ofChange Rows.fnExactImageTextSpec) false w args)
      (Rows.fnExactImageTextSpec.post enc Tryz.prog Tryz.f5 false true false false) := by
  refine returnsInHanded_of_change_and (C := Tryz.checked) (X := fun w _ => laidMetH Tryz.prog laidList w) (fun _ _ _ hh h => h.of_heap hh) own started (by kernel_rfl) Tryz.func5
    (ChangeSpec.witness_shaped (enc := enc) (C := Tryz.checked) (os := os) (X := fun w _ => laidMetH Tryz.prog laidList w) false (World.doorLaid Tryz.prog 400 os) #[.agg #[.string ByteArray.empty, .string ByteArray.empty, .slice none 0 0]] 8 rfl (World.shaped_of_RefB (by kernel_rfl) (by kernel_rfl)) (by kernel_rfl) (by kernel_rfl) (by kernel_rfl) (door_met os _)) ?_
  intro W base args ds gs before hval0 hW _ _ hL0 _
  have hval : ∀ (j : Nat) t v, Tryz.f5.params[j]? = some t → args[j]? = some v → Value.okWide Tryz.prog W .any base t v := hval0
  have hW' := hW
  obtain ⟨p, q, hA0, hV, rfl, hfz, hnd⟩ := hW
  have hA : DataW.TrodAll enc Tryz.prog W 0 (fun _ => true) true Tryz.f5.params.toList args.toList ds p := hA0
  rw [Tryz.params5] at hA hval
  obtain ⟨v0, vs0, d0, ds0, p0, q0, hargs, rfl, rfl, h0, r0⟩ := trodAll_cons hA
  obtain ⟨rfl, rfl, rfl⟩ := trodAll_nil r0
  obtain rfl : args = #[v0] := by cases args; simp_all
  obtain ⟨g0, g1, g2, g3, g4, rfl⟩ := vars_len5 hV
  have hL : Laid W := of_laid hL0
  clear hL0
  have k0 := h0
  have lt0 : ∀ x ∈ p0, x.block < W.heap.size := by obtain ⟨m, hm⟩ := k0; exact DataW.trod_lt m _ _ _ hm
  obtain ⟨c0, s0, a0, len0, cap0, S0, rfl, w0⟩ := open_image Tryz.underlying24 (by kernel_rfl) (by kernel_rfl) Tryz.underlying9 Tryz.underlying9 Tryz.underlying22 Tryz.underlying89 (by kernel_rfl) (by kernel_rfl) Tryz.underlying9 Tryz.underlying3 Tryz.underlying3 Tryz.underlying3 Tryz.underlying3 (hval 0 24 v0 rfl rfl) h0
  clear hA0 hval0
  refine (walk c0 s0 a0 len0 cap0 S0 W w0 hL).mono fun e W' ⟨he, bel⟩ => ?_
  subst he
  exact ⟨_, rfl, _, _, _, [], _, q, hW', trodAll_mk1 (shut_bool Tryz.underlying4 _), (trodAll_cons_mk (Below.trod laidOut (by kernel_rfl) (of_decide_eq_true (by kernel_rfl)) k0 bel lt0) trodAll_mk0), Below.trodVars laidOut bel (by kernel_rfl) hV, bel.frame _, fun h => by cases h⟩

theorem over : Rows.FnExactImageTextSaid :=
  OpenClaim.holds_of_wide 5 Tryz.f5 rfl rfl rfl rfl rfl rfl rfl ⟨rfl, rfl, rfl, rfl, rfl⟩ rfl rfl rfl rfl rfl (by kernel_rfl) Tryz.func5 (by kernel_rfl)
    (of_decide_eq_true (by kernel_rfl)) (by unfold Func.isWrapper; first | (rw [if_pos (by decide +kernel)]; kernel_rfl) | (rw [if_neg (by decide +kernel)]; exact ⟨rfl, rfl⟩))
    (fun os started H enc _ => lifted os started H enc)

theorem plain (f : FuncId) (fn : Func) (hf : Tryz.pinned.checked.prog.funcNamed "loop.example/g00654/laws.FnExactImageText" = some f) (hfn : Tryz.pinned.checked.prog.funcs[f]? = some fn) :
    true = Tryz.pinned.checked.prog.looks [] ∧ ∀ (j : Nat) t, fn.params[j]? = some t → Tryz.pinned.checked.prog.wantsStandIn t = false := by
  obtain rfl : f = 5 := Option.some.inj ((show Tryz.prog.funcNamed "loop.example/g00654/laws.FnExactImageText" = some 5 by kernel_rfl).symm.trans hf) |>.symm
  obtain rfl : fn = Tryz.f5 := (Option.some.inj (Tryz.func5.symm.trans hfn)).symm
  refine ⟨by kernel_rfl, fun j t ht => ?_⟩
  rw [Tryz.params5] at ht
  have hm : t ∈ [24] := by
    have := Array.mem_of_getElem? ht
    simp at this ⊢
    first | omega | exact this | exact this.symm | (rcases this with h | h <;> simp [h]) | (rcases this with h | h | h <;> simp [h]) | (rcases this with h | h | h | h <;> simp [h])
  have hall : ([24].all fun u => !Tryz.prog.wantsStandIn u) = true := by kernel_rfl
  exact (show Tryz.prog.wantsStandIn t = false by simpa using List.all_eq_true.1 hall t hm)

theorem card : Rows.FnExactImageTextCardSaid :=
  Claim7.holds_tied_plain_at .later [] _ _ _ _ over (fun _ h => by cases h) (by kernel_rfl) (fun _ h => by cases h) fnExactImageText_row_tie rfl ⟨rfl, rfl⟩ (by kernel_rfl) rfl plain (by kernel_rfl)
end Go.Proofs.YthihlbfmpkjhpaaGreatDoor.fnExactImageText
theorem Go.Proofs.YthihlbfmpkjhpaaGreatDoor.imageText_holds : Go.Proofs.YthihlbfmpkjhpaaGreatDoor.Rows.FnExactImageTextCardSaid := Go.Proofs.YthihlbfmpkjhpaaGreatDoor.fnExactImageText.card
