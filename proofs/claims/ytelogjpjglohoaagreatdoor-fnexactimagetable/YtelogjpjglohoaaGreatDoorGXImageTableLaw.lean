/- ImageTable answers at every image as its model does: its symbols as entries, in new memory; the image is left as it was (the tie is given). -/
import Derived.Test.YtelogjpjglohoaaGreatDoorCards
import Derived.Test.YtelogjpjglohoaaGreatDoorTie
import Derived.Test.YtelogjpjglohoaaGreatDoorGXTabBase49
import Derived.Test.YtelogjpjglohoaaGreatDoorGXImageTable0
import Derived.Test.YtelogjpjglohoaaGreatDoorGXTabBase0
import Derived.WalkKit
import Derived.ProofKit
import Derived.OpenShut
import Derived.ShutString
import Derived.ChangeOld
import Derived.Below
import Derived.LaidMore
import Derived.Stop.Joined
import Derived.SevenTiedAt
import Derived.OpenVars
namespace Go.Proofs.YtelogjpjglohoaaGreatDoor.fnExactImageTable
open Go.RowKit Go.ChangeShapes Go.WideShapes Go.ChangeAt
open Go.ChangeMaps (open_string shut_string)
set_option linter.unusedVariables false

theorem own : ownKnob Tryz.prog.godebug = none := by kernel_rfl
theorem laidOut : laidOutB Tryz.prog = true := by kernel_rfl

set_option maxRecDepth 100000 in
set_option maxHeartbeats 8000000 in
theorem walk (c0 s0 : ByteArray) (a0 : Option Addr) (len0 cap0 : Nat) (S0 : Nat → SymD) (w : World) (w0 : IsImage w c0 s0 a0 len0 cap0 S0) (hL : Laid w) :
    Calls Tryz.prog 3 #[.agg #[.string c0, .string s0, .slice a0 len0 cap0]] w fun e w' => e = .returned (.bool true) ∧ Below w.heap.size w w' := by
  obtain ⟨hc0, hs0, hp, hwf, hlen, hcap⟩ := w0
  have hl0 : len0 ≤ maxLen := Nat.le_trans hlen hcap
  have bA := grown1' w (.cells #[.string c0, .string s0, .slice a0 len0 cap0] 24)
  have lA := Lies.new w #[.string c0, .string s0, .slice a0 len0 cap0] 24
  have sz := szImg c0 s0 a0 len0 cap0 S0 _ hc0 hs0 hl0 (fun i hi => (hwf i hi).1) (hp.below bA)
  have HP : Hid (∀ W : World, Below w.heap.size w W → SymsAt W a0 len0 S0) := fun W h => hp.below h
  have HLD : Hid (∀ W : World, Below w.heap.size w W → Laid W) := fun W h => laid_below hL h
  have HA : Hid (Below w.heap.size w _) := bA
  have HL : Hid (Lies _ w.heap.size 24 #[.string c0, .string s0, .slice a0 len0 cap0]) := lA
  have hlt0 := lA.lt
  have HWF : Hid (∀ i, i < len0 → (S0 i).wf) := hwf
  clear bA lA hp hwf hlen hcap hL hc0 hs0 hl0
  go_enter Tryz.func3, Tryz.ntmps3
  go_wp2_with fail
  refine sz.mono ?_
  rintro e w1 ⟨⟨r, rfl, hr⟩, hb1⟩
  have B1 := HA.out.trans (hb1.mono HA.out.size)
  have L1 := HL.out.below hb1 hlt0
  clear sz hb1 HA HL hlt0
  have HA : Hid (Below w.heap.size w w1) := B1
  have HL : Hid (Lies w1 w.heap.size 24 #[.string c0, .string s0, .slice a0 len0 cap0]) := L1
  have lHL := L1.lt
  clear B1 L1
  have i0 := HL.out.cell (j := 0) rfl
  have i1 := HL.out.cell (j := 1) rfl
  have i2 := HL.out.cell (j := 2) rfl
  rcases hr with rfl | ⟨r0, r1, hc, hs, hn, _⟩
  · go_wp2_with fail
    go_ret
    exact ⟨rfl, HA.out⟩
  obtain ⟨N, E, y, hN, hS, hI⟩ := tabBoth c0 s0 len0 S0 hc hs hn HWF.out
  have HS : Hid (∀ p kk W, SymsAt W p len0 S0 → Calls Tryz.prog 6 #[.agg #[.string c0, .string s0, .slice p len0 kk]] W fun e w' => TabOne W.heap.size N E y W e w') := hS
  have HI : Hid (∀ p kk W, len0 ≤ kk → Laid W → SymsAt W p len0 S0 → Calls Tryz.prog 8 #[.agg #[.string c0, .string s0, .slice p len0 kk]] W fun e w' => TabOne W.heap.size N E y W e w') := hI
  clear hS hI hc hs
  have hz : 0 ≤ w1.heap.size := Nat.zero_le _
  go_wp2_with fail
  refine (toImg c0 s0 a0 len0 cap0 S0 w1 hn (HP.out w1 HA.out)).mono ?_
  rintro e w2 ⟨g1, rfl, hb, _, hg1, hf1⟩
  have HO : Hid (SymsAt w2 (some ⟨g1, 0, none⟩) len0 S0) := hf1.syms hg1
  clear hf1 hg1
  clear i0 i1 i2
  have hz' := hb.size
  have nHA := HA.out.trans (hb.mono HA.out.size)
  have nHL := HL.out.below hb lHL
  have nz : 0 ≤ w2.heap.size := by omega
  clear HA HL hb hz hz'
  have HA : Hid (Below w.heap.size w w2) := nHA
  have HL : Hid (Lies w2 w.heap.size 24 #[.string c0, .string s0, .slice a0 len0 cap0]) := nHL
  clear lHL
  have lHL := nHL.lt
  have hz := nz
  clear nz nHA nHL
  have i0 := HL.out.cell (j := 0) rfl
  have i1 := HL.out.cell (j := 1) rfl
  have i2 := HL.out.cell (j := 2) rfl
  obtain ⟨M2, hM2⟩ : ∃ M, w2.heap.size = M := ⟨_, rfl⟩
  go_wp2_with fail
  refine (HS.out _ _ w2 HO.out).mono ?_
  rintro e w3 ⟨pw, cw, rfl, _, how, hb⟩
  obtain ⟨M3, hM3⟩ : ∃ M, w3.heap.size = M := ⟨_, rfl⟩
  have HW : Hid (OwnIn w3 M2 M3 pw N 6 (entV E)) := by
    rcases how with h | ⟨g, h1, h2, h3, h4⟩
    · exact .inl h
    · exact .inr ⟨g, h1, by omega, by omega, by omega, h4⟩
  have hM0 : w.heap.size < M2 := by omega
  have hM23 : M2 ≤ M3 := by have := hb.size; omega
  clear how HO
  clear i0 i1 i2
  have hz' := hb.size
  have nHA := HA.out.trans (hb.mono HA.out.size)
  have nHL := HL.out.below hb lHL
  have nz : 0 ≤ w3.heap.size := by omega
  clear HA HL hb hz hz'
  have HA : Hid (Below w.heap.size w w3) := nHA
  have HL : Hid (Lies w3 w.heap.size 24 #[.string c0, .string s0, .slice a0 len0 cap0]) := nHL
  clear lHL
  have lHL := nHL.lt
  have hz := nz
  clear nz nHA nHL
  have hz : M3 ≤ w3.heap.size := by omega
  have i0 := HL.out.cell (j := 0) rfl
  have i1 := HL.out.cell (j := 1) rfl
  have i2 := HL.out.cell (j := 2) rfl
  go_wp2_with fail
  refine (toImg c0 s0 a0 len0 cap0 S0 w3 hn (HP.out w3 HA.out)).mono ?_
  rintro e w4 ⟨g, rfl, hb, hg0, hg1, hf1⟩
  rw [hM3] at hg0
  have ho := ownIn_of hg0 hg1 hf1
  obtain ⟨M4, hM4⟩ : ∃ M, w4.heap.size = M := ⟨_, rfl⟩
  rw [hM4] at ho
  have HB : Hid (OwnIn w4 M3 M4 (some ⟨g, 0, none⟩) len0 5 (symV S0)) := ho
  have hb4 : M4 ≤ w4.heap.size := by omega
  have hb3 : M3 ≤ M4 := by omega
  clear ho hg0 hg1 hf1 hM4
  clear i0 i1 i2
  have hz' := hb.size
  have nHA := HA.out.trans (hb.mono HA.out.size)
  have nHL := HL.out.below hb lHL
  have nHW := HW.out.below (hb.mono (show M3 ≤ w3.heap.size by omega))
  have nz : M3 ≤ w4.heap.size := by omega
  clear HA HL HW hb hz hz'
  have HA : Hid (Below w.heap.size w w4) := nHA
  have HL : Hid (Lies w4 w.heap.size 24 #[.string c0, .string s0, .slice a0 len0 cap0]) := nHL
  clear lHL
  have lHL := nHL.lt
  have HW : Hid (OwnIn w4 M2 M3 pw N 6 (entV E)) := nHW
  have hz := nz
  clear nz nHA nHL nHW
  have hz : M4 ≤ w4.heap.size := hb4
  have bX := grown1' w4 (.cells #[.string c0, .string s0, .slice (some ⟨g, 0, none⟩) len0 len0] 31)
  have lX := Lies.new w4 #[.string c0, .string s0, .slice (some ⟨g, 0, none⟩) len0 len0] 31
  go_wp2_with fail
  obtain ⟨W5, hW5⟩ : ∃ W, w4.alloc (.cells #[.string c0, .string s0, .slice (some ⟨g, 0, none⟩) len0 len0] 31) = W := ⟨_, rfl⟩
  obtain ⟨X, hX⟩ : ∃ X, w4.heap.size = X := ⟨_, rfl⟩
  rw [hW5] at bX lX ⊢
  rw [hX] at lX ⊢
  have HX : Hid (Lies W5 X 31 #[.string c0, .string s0, .slice (some ⟨g, 0, none⟩) len0 len0]) := lX
  have lHX := lX.lt
  have hb4X : M4 ≤ X := by omega
  clear lX hW5
  have hz' := bX.size
  have nHA := HA.out.trans (bX.mono HA.out.size)
  have nHL := HL.out.below bX lHL
  have nHW := HW.out.below (bX.mono (show M3 ≤ w4.heap.size by omega))
  have nHB := HB.out.below (bX.mono (show M4 ≤ w4.heap.size by omega))
  have nz : M4 ≤ W5.heap.size := by omega
  clear HA HL HW HB bX hz hz'
  have HA : Hid (Below w.heap.size w W5) := nHA
  have HL : Hid (Lies W5 w.heap.size 24 #[.string c0, .string s0, .slice a0 len0 cap0]) := nHL
  clear lHL
  have lHL := nHL.lt
  have HW : Hid (OwnIn W5 M2 M3 pw N 6 (entV E)) := nHW
  have HB : Hid (OwnIn W5 M3 M4 (some ⟨g, 0, none⟩) len0 5 (symV S0)) := nHB
  have hz := nz
  clear nz nHA nHL nHW nHB
  obtain ⟨M5, hM5⟩ : ∃ M, W5.heap.size = M := ⟨_, rfl⟩
  refine (HI.out _ _ W5 (Nat.le_refl _) (HLD.out W5 HA.out) HB.out.rows).mono ?_
  rintro e w7 ⟨pg, cg, rfl, _, hog, hb⟩
  obtain ⟨M7, hM7⟩ : ∃ M, w7.heap.size = M := ⟨_, rfl⟩
  have HG : Hid (OwnIn w7 M5 M7 pg N 6 (entV E)) := by
    rcases hog with h | ⟨g, h1, h2, h3, h4⟩
    · exact .inl h
    · exact .inr ⟨g, h1, by omega, by omega, by omega, h4⟩
  have hXM : X < M5 := by omega
  have hM57 : M5 ≤ M7 := by have := hb.size; omega
  clear hog
  have hz' := hb.size
  have nHA := HA.out.trans (hb.mono HA.out.size)
  have nHL := HL.out.below hb lHL
  have nHW := HW.out.below (hb.mono (show M3 ≤ W5.heap.size by omega))
  have nHB := HB.out.below (hb.mono (show M4 ≤ W5.heap.size by omega))
  have nHX := HX.out.below hb lHX
  have nz : M4 ≤ w7.heap.size := by omega
  clear HA HL HW HB HX hb hz hz'
  have HA : Hid (Below w.heap.size w w7) := nHA
  have HL : Hid (Lies w7 w.heap.size 24 #[.string c0, .string s0, .slice a0 len0 cap0]) := nHL
  clear lHL
  have lHL := nHL.lt
  have HW : Hid (OwnIn w7 M2 M3 pw N 6 (entV E)) := nHW
  have HB : Hid (OwnIn w7 M3 M4 (some ⟨g, 0, none⟩) len0 5 (symV S0)) := nHB
  have HX : Hid (Lies w7 X 31 #[.string c0, .string s0, .slice (some ⟨g, 0, none⟩) len0 len0]) := nHX
  clear lHX
  have lHX := nHX.lt
  have hz := nz
  clear nz nHA nHL nHW nHB nHX
  have hz : M7 ≤ w7.heap.size := by omega
  have hyy : (y != y) = false := by simp
  go_wp2_with fail
  refine (eqEnts pg pw N cg cw E w7 (by omega) HG.out.rows HW.out.rows).mono ?_
  rintro e w8 ⟨rfl, hb⟩
  have hz' := hb.size
  have nHA := HA.out.trans (hb.mono HA.out.size)
  have nHL := HL.out.below hb lHL
  have nHW := HW.out.below (hb.mono (show M3 ≤ w7.heap.size by omega))
  have nHB := HB.out.below (hb.mono (show M4 ≤ w7.heap.size by omega))
  have nHX := HX.out.below hb lHX
  have nHG := HG.out.below (hb.mono (show M7 ≤ w7.heap.size by omega))
  have nz : M7 ≤ w8.heap.size := by omega
  clear HA HL HW HB HX HG hb hz hz'
  have HA : Hid (Below w.heap.size w w8) := nHA
  have HL : Hid (Lies w8 w.heap.size 24 #[.string c0, .string s0, .slice a0 len0 cap0]) := nHL
  clear lHL
  have lHL := nHL.lt
  have HW : Hid (OwnIn w8 M2 M3 pw N 6 (entV E)) := nHW
  have HB : Hid (OwnIn w8 M3 M4 (some ⟨g, 0, none⟩) len0 5 (symV S0)) := nHB
  have HX : Hid (Lies w8 X 31 #[.string c0, .string s0, .slice (some ⟨g, 0, none⟩) len0 len0]) := nHX
  clear lHX
  have lHX := nHX.lt
  have HG : Hid (OwnIn w8 M5 M7 pg N 6 (entV E)) := nHG
  have hz := nz
  clear nz nHA nHL nHW nHB nHX nHG
  have i0 := HL.out.cell (j := 0) rfl
  have i1 := HL.out.cell (j := 1) rfl
  have i2 := HL.out.cell (j := 2) rfl
  have j0 := HX.out.cell (j := 0) rfl
  have j1 := HX.out.cell (j := 1) rfl
  have j2 := HX.out.cell (j := 2) rfl
  go_wp2_with fail
  have HOx : Hid (SymsAt w8 (some ⟨g, 0, none⟩) len0 S0) := HB.out.rows
  go_region_held3 (fun w' => w'.cell? ⟨w.heap.size, 0, none⟩ = some (.string c0) ∧ w'.cell? ⟨w.heap.size, 1, none⟩ = some (.string s0) ∧ w'.cell? ⟨w.heap.size, 2, none⟩ = some (.slice a0 len0 cap0) ∧ w'.cell? ⟨X, 0, none⟩ = some (.string c0) ∧ w'.cell? ⟨X, 1, none⟩ = some (.string s0) ∧ w'.cell? ⟨X, 2, none⟩ = some (.slice (some ⟨g, 0, none⟩) len0 len0)) (go_keep) (first | (go_at_call 7; refine (toImg c0 s0 a0 len0 cap0 S0 _ hn (HP.out _ (by first | exact HA.out.drew | exact HA.out))).mono ?_; rintro e w9 ⟨g9, rfl, hb8, _, hg9, hf9⟩; have b8 : Below w8.heap.size w8 w9 := (by first | exact (Below.refl w8.heap.size w8).drew.trans hb8 | exact hb8); have hO8 := hf9.syms hg9; have la := HL.out.below b8 lHL; have lb := HX.out.below b8 lHX; have m0 := la.cell (j := 0) rfl; have m1 := la.cell (j := 1) rfl; have m2 := la.cell (j := 2) rfl; have n0 := lb.cell (j := 0) rfl; have n1 := lb.cell (j := 1) rfl; have n2 := lb.cell (j := 2) rfl) | (go_at_call 10; refine (eqImg c0 s0 _ _ len0 _ _ S0 _ (by omega) (HOx.out.below b8) hO8).mono ?_; rintro e w10 ⟨rfl, hb9⟩; have b8 : Below w8.heap.size w8 w10 := b8.trans (hb9.mono b8.size); have la := HL.out.below b8 lHL; have lb := HX.out.below b8 lHX; have m0 := la.cell (j := 0) rfl; have m1 := la.cell (j := 1) rfl; have m2 := la.cell (j := 2) rfl; have n0 := lb.cell (j := 0) rfl; have n1 := lb.cell (j := 1) rfl; have n2 := lb.cell (j := 2) rfl))
  clear m0 m1 m2 n0 n1 n2 hO8 hb8 hb9 la lb hg9 hf9 HOx
  clear i0 i1 i2
  clear j0 j1 j2
  have hz' := b8.size
  have nHA := HA.out.trans (b8.mono HA.out.size)
  have nHL := HL.out.below b8 lHL
  have nHW := HW.out.below (b8.mono (show M3 ≤ w8.heap.size by omega))
  have nHB := HB.out.below (b8.mono (show M4 ≤ w8.heap.size by omega))
  have nHX := HX.out.below b8 lHX
  have nHG := HG.out.below (b8.mono (show M7 ≤ w8.heap.size by omega))
  have nz : M7 ≤ w10.heap.size := by omega
  clear HA HL HW HB HX HG b8 hz hz'
  have HA : Hid (Below w.heap.size w w10) := nHA
  have HL : Hid (Lies w10 w.heap.size 24 #[.string c0, .string s0, .slice a0 len0 cap0]) := nHL
  clear lHL
  have lHL := nHL.lt
  have HW : Hid (OwnIn w10 M2 M3 pw N 6 (entV E)) := nHW
  have HB : Hid (OwnIn w10 M3 M4 (some ⟨g, 0, none⟩) len0 5 (symV S0)) := nHB
  have HX : Hid (Lies w10 X 31 #[.string c0, .string s0, .slice (some ⟨g, 0, none⟩) len0 len0]) := nHX
  clear lHX
  have lHX := nHX.lt
  have HG : Hid (OwnIn w10 M5 M7 pg N 6 (entV E)) := nHG
  have hz := nz
  clear nz nHA nHL nHW nHB nHX nHG
  have j0 := HX.out.cell (j := 0) rfl
  have j1 := HX.out.cell (j := 1) rfl
  have j2 := HX.out.cell (j := 2) rfl
  go_wp2_with fail
  refine (markImgI M3 c0 s0 _ len0 len0 1 S0 w10 (by omega) (by omega) (by omega) (by omega) HB.out.own).mono ?_
  rintro e w11 ⟨rfl, hbO, _⟩
  have hR := butR_of hbO HB.out
  obtain ⟨r, hr⟩ : ∃ r, 1 + 5 * len0 = r := ⟨_, rfl⟩
  rw [hr]
  have hrn : ¬ ((r : Int) < 0) := by omega
  clear HB hbO hr
  clear j0 j1 j2
  have hz' := hR.size
  have nHA : Below w.heap.size w w11 := HA.out.trans (hR.below (by omega) HA.out.size)
  have nHL : Lies w11 w.heap.size 24 #[.string c0, .string s0, .slice a0 len0 cap0] := (hR.block _ lHL (by omega)).trans HL.out
  have nHW := HW.out.butR hR (by omega)
  have nHG := HG.out.butR hR (by omega)
  have nz : M7 ≤ w11.heap.size := by omega
  clear HA HL HW HG hR hz hz'
  have HA : Hid (Below w.heap.size w w11) := nHA
  have HL : Hid (Lies w11 w.heap.size 24 #[.string c0, .string s0, .slice a0 len0 cap0]) := nHL
  clear lHL
  have lHL := nHL.lt
  have HW : Hid (OwnIn w11 M2 M3 pw N 6 (entV E)) := nHW
  have HG : Hid (OwnIn w11 M5 M7 pg N 6 (entV E)) := nHG
  have hz := nz
  clear nz nHA nHL nHW nHG
  clear HX lHX
  go_wp2_with fail
  refine (eqEnts pg pw N cg cw E w11 (by omega) HG.out.rows HW.out.rows).mono ?_
  rintro e w12 ⟨rfl, hb⟩
  have hz' := hb.size
  have nHA := HA.out.trans (hb.mono HA.out.size)
  have nHL := HL.out.below hb lHL
  have nHW := HW.out.below (hb.mono (show M3 ≤ w11.heap.size by omega))
  have nHG := HG.out.below (hb.mono (show M7 ≤ w11.heap.size by omega))
  have nz : M7 ≤ w12.heap.size := by omega
  clear HA HL HW HG hb hz hz'
  have HA : Hid (Below w.heap.size w w12) := nHA
  have HL : Hid (Lies w12 w.heap.size 24 #[.string c0, .string s0, .slice a0 len0 cap0]) := nHL
  clear lHL
  have lHL := nHL.lt
  have HW : Hid (OwnIn w12 M2 M3 pw N 6 (entV E)) := nHW
  have HG : Hid (OwnIn w12 M5 M7 pg N 6 (entV E)) := nHG
  have hz := nz
  clear nz nHA nHL nHW nHG
  go_wp2_with fail
  refine (markEnts M5 pg N cg 1 E w12 (by omega) (by omega) (by omega) (by omega) HG.out.own).mono ?_
  rintro e w13 ⟨rfl, hbO, hOM⟩
  have hR := butR_of hbO HG.out
  have HM : Hid (OwnIn w13 M5 M7 pg N 6 (entV (mkEnt 1))) := by
    rcases HG.out with h' | ⟨g', h1', _, h3', _⟩
    · exact .inl h'
    rcases hOM with h | ⟨g, h1, h2, h3, h4⟩
    · exact .inl h
    · have e1 : g' = g := by
        rw [h1'] at h1
        simpa using h1
      subst e1
      exact .inr ⟨g', h1, h2, h3', by have := hR.size; omega, h4⟩
  clear hbO hOM
  have hz7 : M7 ≤ w13.heap.size := by have := hR.size; omega
  have hz' := hR.size
  have nHA : Below w.heap.size w w13 := HA.out.trans (hR.below (by omega) HA.out.size)
  have nHL : Lies w13 w.heap.size 24 #[.string c0, .string s0, .slice a0 len0 cap0] := (hR.block _ lHL (by omega)).trans HL.out
  have nHW := HW.out.butR hR (by omega)
  have nz : M3 ≤ w13.heap.size := by omega
  clear HA HL HW hR hz hz'
  have HA : Hid (Below w.heap.size w w13) := nHA
  have HL : Hid (Lies w13 w.heap.size 24 #[.string c0, .string s0, .slice a0 len0 cap0]) := nHL
  clear lHL
  have lHL := nHL.lt
  have HW : Hid (OwnIn w13 M2 M3 pw N 6 (entV E)) := nHW
  have hz := nz
  clear nz nHA nHL nHW
  clear HG hz
  have hz := hz7
  clear hz7
  obtain ⟨t, ht⟩ : ∃ t, 1 + 6 * N = t := ⟨_, rfl⟩
  rw [ht]
  have htt : ¬ ((t : Int) < 0) := by omega
  have hte : ((t : Int) != (t : Int)) = false := by simp
  go_wp2_with fail
  refine (heldEnts pg N cg 1 w13 (by omega) (by omega) (by omega) HM.out.rows).mono ?_
  rintro e w14 ⟨rfl, hb⟩
  rw [ht]
  have hz' := hb.size
  have nHA := HA.out.trans (hb.mono HA.out.size)
  have nHL := HL.out.below hb lHL
  have nHW := HW.out.below (hb.mono (show M3 ≤ w13.heap.size by omega))
  have nHM := HM.out.below (hb.mono (show M7 ≤ w13.heap.size by omega))
  have nz : M7 ≤ w14.heap.size := by omega
  clear HA HL HW HM hb hz hz'
  have HA : Hid (Below w.heap.size w w14) := nHA
  have HL : Hid (Lies w14 w.heap.size 24 #[.string c0, .string s0, .slice a0 len0 cap0]) := nHL
  clear lHL
  have lHL := nHL.lt
  have HW : Hid (OwnIn w14 M2 M3 pw N 6 (entV E)) := nHW
  have HM : Hid (OwnIn w14 M5 M7 pg N 6 (entV (mkEnt 1))) := nHM
  have hz := nz
  clear nz nHA nHL nHW nHM
  have i0 := HL.out.cell (j := 0) rfl
  have i1 := HL.out.cell (j := 1) rfl
  have i2 := HL.out.cell (j := 2) rfl
  go_wp2_with fail
  refine (toImg c0 s0 a0 len0 cap0 S0 w14 hn (HP.out w14 HA.out)).mono ?_
  rintro e w15 ⟨g5, rfl, hb, _, hg5, hf5⟩
  have HO : Hid (SymsAt w15 (some ⟨g5, 0, none⟩) len0 S0) := hf5.syms hg5
  clear hg5 hf5
  clear i0 i1 i2
  have hz' := hb.size
  have nHA := HA.out.trans (hb.mono HA.out.size)
  have nHL := HL.out.below hb lHL
  have nHW := HW.out.below (hb.mono (show M3 ≤ w14.heap.size by omega))
  have nHM := HM.out.below (hb.mono (show M7 ≤ w14.heap.size by omega))
  have nz : M7 ≤ w15.heap.size := by omega
  clear HA HL HW HM hb hz hz'
  have HA : Hid (Below w.heap.size w w15) := nHA
  have HL : Hid (Lies w15 w.heap.size 24 #[.string c0, .string s0, .slice a0 len0 cap0]) := nHL
  clear lHL
  have lHL := nHL.lt
  have HW : Hid (OwnIn w15 M2 M3 pw N 6 (entV E)) := nHW
  have HM : Hid (OwnIn w15 M5 M7 pg N 6 (entV (mkEnt 1))) := nHM
  have hz := nz
  clear nz nHA nHL nHW nHM
  go_wp2_with fail
  refine (HI.out _ _ w15 (Nat.le_refl _) (HLD.out w15 HA.out) HO.out).mono ?_
  rintro e w16 ⟨ph, ch, rfl, _, hoh, hb⟩
  have HH : Hid (EntsAt w16 ph N E) := hoh.rows
  clear hoh HO
  have hz' := hb.size
  have nHA := HA.out.trans (hb.mono HA.out.size)
  have nHL := HL.out.below hb lHL
  have nHW := HW.out.below (hb.mono (show M3 ≤ w15.heap.size by omega))
  have nHM := HM.out.below (hb.mono (show M7 ≤ w15.heap.size by omega))
  have nz : M7 ≤ w16.heap.size := by omega
  clear HA HL HW HM hb hz hz'
  have HA : Hid (Below w.heap.size w w16) := nHA
  have HL : Hid (Lies w16 w.heap.size 24 #[.string c0, .string s0, .slice a0 len0 cap0]) := nHL
  clear lHL
  have lHL := nHL.lt
  have HW : Hid (OwnIn w16 M2 M3 pw N 6 (entV E)) := nHW
  have HM : Hid (OwnIn w16 M5 M7 pg N 6 (entV (mkEnt 1))) := nHM
  have hz := nz
  clear nz nHA nHL nHW nHM
  go_wp2_with fail
  refine (eqEnts ph pw N ch cw E w16 (by omega) HH.out HW.out.rows).mono ?_
  rintro e w17 ⟨rfl, hb⟩
  clear HH
  have hz' := hb.size
  have nHA := HA.out.trans (hb.mono HA.out.size)
  have nHL := HL.out.below hb lHL
  have nHM := HM.out.below (hb.mono (show M7 ≤ w16.heap.size by omega))
  have nz : M7 ≤ w17.heap.size := by omega
  clear HA HL HM hb hz hz'
  have HA : Hid (Below w.heap.size w w17) := nHA
  have HL : Hid (Lies w17 w.heap.size 24 #[.string c0, .string s0, .slice a0 len0 cap0]) := nHL
  clear lHL
  have lHL := nHL.lt
  have HM : Hid (OwnIn w17 M5 M7 pg N 6 (entV (mkEnt 1))) := nHM
  have hz := nz
  clear nz nHA nHL nHM
  go_wp2_with fail
  refine (heldEnts pg N cg 1 w17 (by omega) (by omega) (by omega) HM.out.rows).mono ?_
  rintro e w18 ⟨rfl, hb⟩
  rw [ht]
  have B := HA.out.trans (hb.mono HA.out.size)
  clear hb
  go_wp2_with fail
  go_ret
  exact ⟨rfl, B⟩

set_option maxRecDepth 100000 in
theorem lifted (os : Os) (started : os.Started) (H : Type) (enc : TypeId × Value → H) :
    ReturnsInHanded {} Tryz.checked os 3 .any (fun w args => (Rows.fnExactImageTableSpec.pre enc Tryz.prog Tryz.f3 [] false w args ∧ laidMetH Tryz.prog laidList w) ∧ sizedMet enc Tryz.prog Tryz.f3 (OpenSpec.ofChange Rows.fnExactImageTableSpec) false w args)
      (Rows.fnExactImageTableSpec.post enc Tryz.prog Tryz.f3 false true false false) := by
  refine returnsInHanded_of_change_and (C := Tryz.checked) (X := fun w _ => laidMetH Tryz.prog laidList w) (fun _ _ _ hh h => h.of_heap hh) own started (by kernel_rfl) Tryz.func3
    (ChangeSpec.witness_shaped (enc := enc) (C := Tryz.checked) (os := os) (X := fun w _ => laidMetH Tryz.prog laidList w) false (World.doorLaid Tryz.prog 400 os) #[.agg #[.string ByteArray.empty, .string ByteArray.empty, .slice none 0 0]] 8 rfl (World.shaped_of_RefB (by kernel_rfl) (by kernel_rfl)) (by kernel_rfl) (by kernel_rfl) (by kernel_rfl) (door_met os _)) ?_
  intro W base args ds gs before hval0 hW _ _ hL0 _
  have hval : ∀ (j : Nat) t v, Tryz.f3.params[j]? = some t → args[j]? = some v → Value.okWide Tryz.prog W .any base t v := hval0
  have hW' := hW
  obtain ⟨p, q, hA0, hV, rfl, hfz, hnd⟩ := hW
  have hA : DataW.TrodAll enc Tryz.prog W 0 (fun _ => true) true Tryz.f3.params.toList args.toList ds p := hA0
  rw [Tryz.params3] at hA hval
  obtain ⟨v0, vs0, d0, ds0, p0, q0, hargs, rfl, rfl, h0, r0⟩ := trodAll_cons hA
  obtain ⟨rfl, rfl, rfl⟩ := trodAll_nil r0
  obtain rfl : args = #[v0] := by cases args; simp_all
  obtain ⟨g0, g1, g2, g3, g4, rfl⟩ := vars_len5 hV
  have hL : Laid W := of_laid hL0
  clear hL0
  have k0 := h0
  have lt0 : ∀ x ∈ p0, x.block < W.heap.size := by obtain ⟨m, hm⟩ := k0; exact DataW.trod_lt m _ _ _ hm
  obtain ⟨c0, s0, a0, len0, cap0, S0, rfl, w0⟩ := open_image Tryz.underlying24 (by kernel_rfl) (by kernel_rfl) Tryz.underlying9 Tryz.underlying9 Tryz.underlying22 Tryz.underlying76 (by kernel_rfl) (by kernel_rfl) Tryz.underlying9 Tryz.underlying3 Tryz.underlying3 Tryz.underlying3 Tryz.underlying3 (hval 0 24 v0 rfl rfl) h0
  clear hA0 hval0
  refine (walk c0 s0 a0 len0 cap0 S0 W w0 hL).mono fun e W' ⟨he, bel⟩ => ?_
  subst he
  exact ⟨_, rfl, _, _, _, [], _, q, hW', trodAll_mk1 (shut_bool Tryz.underlying4 _), (trodAll_cons_mk (Below.trod laidOut (by kernel_rfl) (of_decide_eq_true (by kernel_rfl)) k0 bel lt0) trodAll_mk0), Below.trodVars laidOut bel (by kernel_rfl) hV, bel.frame _, fun h => by cases h⟩

theorem over : Rows.FnExactImageTableSaid :=
  OpenClaim.holds_of_wide 3 Tryz.f3 rfl rfl rfl rfl rfl rfl rfl ⟨rfl, rfl, rfl, rfl, rfl⟩ rfl rfl rfl rfl rfl (by kernel_rfl) Tryz.func3 (by kernel_rfl)
    (of_decide_eq_true (by kernel_rfl)) (by unfold Func.isWrapper; first | (rw [if_pos (by decide +kernel)]; kernel_rfl) | (rw [if_neg (by decide +kernel)]; exact ⟨rfl, rfl⟩))
    (fun os started H enc _ => lifted os started H enc)

theorem plain (f : FuncId) (fn : Func) (hf : Tryz.pinned.checked.prog.funcNamed "loop.example/g00654/laws.FnExactImageTable" = some f) (hfn : Tryz.pinned.checked.prog.funcs[f]? = some fn) :
    true = Tryz.pinned.checked.prog.looks [] ∧ ∀ (j : Nat) t, fn.params[j]? = some t → Tryz.pinned.checked.prog.wantsStandIn t = false := by
  obtain rfl : f = 3 := Option.some.inj ((show Tryz.prog.funcNamed "loop.example/g00654/laws.FnExactImageTable" = some 3 by kernel_rfl).symm.trans hf) |>.symm
  obtain rfl : fn = Tryz.f3 := (Option.some.inj (Tryz.func3.symm.trans hfn)).symm
  refine ⟨by kernel_rfl, fun j t ht => ?_⟩
  rw [Tryz.params3] at ht
  have hm : t ∈ [24] := by
    have := Array.mem_of_getElem? ht
    simp at this ⊢
    first | omega | exact this | exact this.symm | (rcases this with h | h <;> simp [h]) | (rcases this with h | h | h <;> simp [h]) | (rcases this with h | h | h | h <;> simp [h])
  have hall : ([24].all fun u => !Tryz.prog.wantsStandIn u) = true := by kernel_rfl
  exact (show Tryz.prog.wantsStandIn t = false by simpa using List.all_eq_true.1 hall t hm)

theorem card : Rows.FnExactImageTableCardSaid :=
  Claim7.holds_tied_plain_at .later [] _ _ _ _ over (fun _ h => by cases h) (by kernel_rfl) (fun _ h => by cases h) fnExactImageTable_row_tie rfl ⟨rfl, rfl⟩ (by kernel_rfl) rfl plain (by kernel_rfl)
end Go.Proofs.YtelogjpjglohoaaGreatDoor.fnExactImageTable
theorem Go.Proofs.YtelogjpjglohoaaGreatDoor.imageTable_holds : Go.Proofs.YtelogjpjglohoaaGreatDoor.Rows.FnExactImageTableCardSaid := Go.Proofs.YtelogjpjglohoaaGreatDoor.fnExactImageTable.card
