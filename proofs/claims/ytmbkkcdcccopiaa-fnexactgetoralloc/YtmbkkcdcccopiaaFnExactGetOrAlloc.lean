/- GetOrAlloc answers at every list, object, number and value as its model does, in new memory; the list is left as it was. -/
import Derived.Test.YtmbkkcdcccopiaaShwR
import Derived.Test.YtmbkkcdcccopiaaShwL
import Derived.Test.YtmbkkcdcccopiaaOwnB
import Derived.WalkKit
import Derived.ProofKit
import Derived.OpenShut
import Derived.ShutString
namespace Go.Proofs.Ytmbkkcdcccopiaa.fnExactGetOrAlloc
open Go.RowKit Go.ChangeShapes Go.WideShapes Go.ChangeAt Go.RowKit
open Go.ChangeMaps (open_string shut_string)
set_option linter.unusedVariables false

theorem laidOut : laidOutB Try.prog = true := by kernel_rfl
theorem own : ownKnob Try.prog.godebug = none := by kernel_rfl

set_option maxRecDepth 100000 in
set_option maxHeartbeats 8000000 in
theorem walk (p0 : Option Addr) (n0 c0 : Nat) (S0 : Nat → ShwD) (a1 : Int) (a2 : Int) (a3 : Int) (w : World) (w0 : IsShws w p0 n0 c0 S0) (w1 : (Lit.int .i64 a1).wf = true) (w2 : (Lit.int .i64 a2).wf = true) (w3 : (Lit.int .i64 a3).wf = true) :
    Calls Try.prog 6 #[.slice p0 n0 c0, .int .i64 a1, .int .i64 a2, .int .i64 a3] w fun e w' => e = .returned (.bool true) ∧ Below w.heap.size w w' := by
  obtain ⟨hp, hwf, hnc, hcm⟩ := w0
  have hnm : n0 ≤ maxLen := Nat.le_trans hnc hcm
  have sz := szShws p0 n0 c0 1048576 w (by omega) (by omega) hnm
  have HWF : Hid (∀ i, i < n0 → (S0 i).wf) := hwf
  have HP : Hid (∀ W : World, Below w.heap.size w W → ShwsAt W p0 n0 S0) := fun W h => hp.below h
  clear hp hwf hnc hcm hnm
  go_enter Try.func6, Try.ntmps6
  go_wp2_with fail
  refine sz.mono ?_
  rintro e v1 ⟨⟨r, rfl, hr⟩, B1⟩
  clear sz
  rcases hr with rfl | ⟨r0, r1, hn⟩
  · go_wp2_with fail
    go_ret
    exact ⟨rfl, B1⟩
  have hn' : n0 ≤ 1048576 := by omega
  obtain ⟨L, f, hr⟩ := resIs_ex n0 S0 a2 (alcL (lstS n0 S0) ⟨a1, a2, a3⟩) (if alcF (lstS n0 S0) (a1, a2) = 24 then 0 else alcF (lstS n0 S0) (a1, a2))
  obtain ⟨y, hy⟩ : ∃ y, y = getV L (a1, a2) := ⟨_, rfl⟩
  have HS : Hid (∀ p kk W, n0 ≤ kk → ShwsAt W p n0 S0 → Calls Try.prog 22 #[.slice p n0 kk, .int .i64 a1, .int .i64 a2, .int .i64 a3] W fun e w' => LstAns3 W.heap.size L y f W e w') := fun p kk W hk h => gooS p n0 kk S0 a1 a2 a3 L y f W hn' hk h hr hy (fun h' => by rw [hy, h']; rfl)
  have HI : Hid (∀ p kk W, ShwsAt W p n0 S0 → Calls Try.prog 23 #[.slice p n0 kk, .int .i64 a1, .int .i64 a2, .int .i64 a3] W fun e w' => LstAns3 W.heap.size L y f W e w') := fun p kk W h => gooI p n0 kk S0 a1 a2 a3 L y f W hn' HWF.out w1 w3 h hr hy
  have hN1 := resIs_len0 (alcL_len _ _ _) hr
  clear hr hy
  obtain ⟨N, hN⟩ : ∃ N, L.length = N := ⟨_, rfl⟩
  obtain ⟨E, hE⟩ : ∃ E, nthD L = E := ⟨_, rfl⟩
  rw [hN] at hN1
  unfold LstAns3 at HS HI
  rw [hN, hE] at HS HI
  clear hN hE
  have HA : Hid (Below w.heap.size w v1) := B1
  have hz : 0 ≤ v1.heap.size := Nat.zero_le _
  clear B1
  go_wp2_with fail
  refine (toShws p0 n0 c0 S0 v1 hn' (HP.out v1 HA.out)).mono ?_
  rintro e w2 ⟨g1, rfl, hb, _, hg1, hf1⟩
  have HO : Hid (ShwsAt w2 (some ⟨g1, 0, none⟩) n0 S0) := .inr ⟨g1, 0, rfl, hg1, hf1.1⟩
  clear hf1 hg1
  have hz' := hb.size
  have nHA := HA.out.trans (hb.mono HA.out.size)
  have nz : 0 ≤ w2.heap.size := by omega
  clear HA hb hz hz'
  have HA : Hid (Below w.heap.size w w2) := nHA
  have hz := nz
  clear nz nHA
  obtain ⟨M2, hM2⟩ : ∃ M, w2.heap.size = M := ⟨_, rfl⟩
  go_wp2_with fail
  refine (HS.out _ _ w2 (Nat.le_refl _) HO.out).mono ?_
  rintro e w3 ⟨pw, cw, rfl, _, how, hb⟩
  obtain ⟨M3, hM3⟩ : ∃ M, w3.heap.size = M := ⟨_, rfl⟩
  have HW : Hid (OwnIn w3 M2 M3 pw N 3 (shwV E)) := by
    rcases how with h | ⟨g, h1, h2, h3, h4⟩
    · exact .inl h
    · exact .inr ⟨g, h1, by omega, by omega, by omega, h4⟩
  have hM0 : w.heap.size ≤ M2 := by have := HA.out.size; omega
  have hM23 : M2 ≤ M3 := by have := hb.size; omega
  clear how HO
  have hz' := hb.size
  have nHA := HA.out.trans (hb.mono HA.out.size)
  have nz : 0 ≤ w3.heap.size := by omega
  clear HA hb hz hz'
  have HA : Hid (Below w.heap.size w w3) := nHA
  have hz := nz
  clear nz nHA
  have hz : M3 ≤ w3.heap.size := by omega
  go_wp2_with fail
  refine (toShws p0 n0 c0 S0 w3 hn' (HP.out w3 HA.out)).mono ?_
  rintro e w4 ⟨g, rfl, hb, hg0, hg1, hf1⟩
  rw [hM3] at hg0
  have ho := ownIn_of hg0 hg1 hf1
  obtain ⟨M4, hM4⟩ : ∃ M, w4.heap.size = M := ⟨_, rfl⟩
  rw [hM4] at ho
  have HB : Hid (OwnIn w4 M3 M4 (some ⟨g, 0, none⟩) n0 3 (shwV S0)) := ho
  have hb4 : M4 ≤ w4.heap.size := by omega
  have hb3 : M3 ≤ M4 := by omega
  clear ho hg0 hg1 hf1 hM4
  have hz' := hb.size
  have nHA := HA.out.trans (hb.mono HA.out.size)
  have nHW := HW.out.below (hb.mono (show M3 ≤ w3.heap.size by omega))
  have nz : M3 ≤ w4.heap.size := by omega
  clear HA HW hb hz hz'
  have HA : Hid (Below w.heap.size w w4) := nHA
  have HW : Hid (OwnIn w4 M2 M3 pw N 3 (shwV E)) := nHW
  have hz := nz
  clear nz nHA nHW
  have hz : M4 ≤ w4.heap.size := hb4
  go_wp2_with fail
  obtain ⟨M5, hM5⟩ : ∃ M, w4.heap.size = M := ⟨_, rfl⟩
  refine (HI.out _ _ w4 HB.out.rows).mono ?_
  rintro e w7 ⟨pg, cg, rfl, _, hog, hb⟩
  obtain ⟨M7, hM7⟩ : ∃ M, w7.heap.size = M := ⟨_, rfl⟩
  have HG : Hid (OwnIn w7 M5 M7 pg N 3 (shwV E)) := by
    rcases hog with h | ⟨g, h1, h2, h3, h4⟩
    · exact .inl h
    · exact .inr ⟨g, h1, by omega, by omega, by omega, h4⟩
  have hM57 : M5 ≤ M7 := by have := hb.size; omega
  clear hog
  have hz' := hb.size
  have nHA := HA.out.trans (hb.mono HA.out.size)
  have nHW := HW.out.below (hb.mono (show M3 ≤ w4.heap.size by omega))
  have nHB := HB.out.below (hb.mono (show M4 ≤ w4.heap.size by omega))
  have nz : M4 ≤ w7.heap.size := by omega
  clear HA HW HB hb hz hz'
  have HA : Hid (Below w.heap.size w w7) := nHA
  have HW : Hid (OwnIn w7 M2 M3 pw N 3 (shwV E)) := nHW
  have HB : Hid (OwnIn w7 M3 M4 (some ⟨g, 0, none⟩) n0 3 (shwV S0)) := nHB
  have hz := nz
  clear nz nHA nHW nHB
  have hz : M7 ≤ w7.heap.size := by omega
  have hff : (f != f) = false := by simp
  have hyy : (y != y) = false := by simp
  go_wp2_with fail
  refine (eqShws pg pw N cg cw E w7 (by omega) HG.out.rows HW.out.rows).mono ?_
  rintro e w8 ⟨rfl, hb⟩
  have hz' := hb.size
  have nHA := HA.out.trans (hb.mono HA.out.size)
  have nHW := HW.out.below (hb.mono (show M3 ≤ w7.heap.size by omega))
  have nHB := HB.out.below (hb.mono (show M4 ≤ w7.heap.size by omega))
  have nHG := HG.out.below (hb.mono (show M7 ≤ w7.heap.size by omega))
  have nz : M7 ≤ w8.heap.size := by omega
  clear HA HW HB HG hb hz hz'
  have HA : Hid (Below w.heap.size w w8) := nHA
  have HW : Hid (OwnIn w8 M2 M3 pw N 3 (shwV E)) := nHW
  have HB : Hid (OwnIn w8 M3 M4 (some ⟨g, 0, none⟩) n0 3 (shwV S0)) := nHB
  have HG : Hid (OwnIn w8 M5 M7 pg N 3 (shwV E)) := nHG
  have hz := nz
  clear nz nHA nHW nHB nHG
  go_wp2_with fail
  refine (toShws p0 n0 c0 S0 w8 hn' (HP.out w8 HA.out)).mono ?_
  rintro e w9 ⟨g9, rfl, hb, _, hg9, hf9⟩
  have HO : Hid (ShwsAt w9 (some ⟨g9, 0, none⟩) n0 S0) := .inr ⟨g9, 0, rfl, hg9, hf9.1⟩
  clear hg9 hf9
  have hz' := hb.size
  have nHA := HA.out.trans (hb.mono HA.out.size)
  have nHW := HW.out.below (hb.mono (show M3 ≤ w8.heap.size by omega))
  have nHB := HB.out.below (hb.mono (show M4 ≤ w8.heap.size by omega))
  have nHG := HG.out.below (hb.mono (show M7 ≤ w8.heap.size by omega))
  have nz : M7 ≤ w9.heap.size := by omega
  clear HA HW HB HG hb hz hz'
  have HA : Hid (Below w.heap.size w w9) := nHA
  have HW : Hid (OwnIn w9 M2 M3 pw N 3 (shwV E)) := nHW
  have HB : Hid (OwnIn w9 M3 M4 (some ⟨g, 0, none⟩) n0 3 (shwV S0)) := nHB
  have HG : Hid (OwnIn w9 M5 M7 pg N 3 (shwV E)) := nHG
  have hz := nz
  clear nz nHA nHW nHB nHG
  go_wp2_with fail
  refine (eqShws _ _ n0 n0 n0 S0 w9 (by omega) HB.out.rows HO.out).mono ?_
  rintro e w10 ⟨rfl, hb⟩
  clear HO
  have hz' := hb.size
  have nHA := HA.out.trans (hb.mono HA.out.size)
  have nHW := HW.out.below (hb.mono (show M3 ≤ w9.heap.size by omega))
  have nHB := HB.out.below (hb.mono (show M4 ≤ w9.heap.size by omega))
  have nHG := HG.out.below (hb.mono (show M7 ≤ w9.heap.size by omega))
  have nz : M7 ≤ w10.heap.size := by omega
  clear HA HW HB HG hb hz hz'
  have HA : Hid (Below w.heap.size w w10) := nHA
  have HW : Hid (OwnIn w10 M2 M3 pw N 3 (shwV E)) := nHW
  have HB : Hid (OwnIn w10 M3 M4 (some ⟨g, 0, none⟩) n0 3 (shwV S0)) := nHB
  have HG : Hid (OwnIn w10 M5 M7 pg N 3 (shwV E)) := nHG
  have hz := nz
  clear nz nHA nHW nHB nHG
  go_wp2_with fail
  refine (markShws M3 _ n0 n0 1 S0 w10 (by omega) (by omega) (by omega) (by omega) HB.out.own).mono ?_
  rintro e w11 ⟨rfl, hbO, _⟩
  have hR := butR_of hbO HB.out
  obtain ⟨r, hr⟩ : ∃ r, 1 + 3 * n0 = r := ⟨_, rfl⟩
  rw [hr]
  have hrn : ¬ ((r : Int) < 0) := by omega
  clear HB hbO hr
  have hz' := hR.size
  have nHA : Below w.heap.size w w11 := HA.out.trans (hR.below (by omega) HA.out.size)
  have nHW := HW.out.butR hR (by omega)
  have nHG := HG.out.butR hR (by omega)
  have nz : M7 ≤ w11.heap.size := by omega
  clear HA HW HG hR hz hz'
  have HA : Hid (Below w.heap.size w w11) := nHA
  have HW : Hid (OwnIn w11 M2 M3 pw N 3 (shwV E)) := nHW
  have HG : Hid (OwnIn w11 M5 M7 pg N 3 (shwV E)) := nHG
  have hz := nz
  clear nz nHA nHW nHG
  go_wp2_with fail
  refine (eqShws pg pw N cg cw E w11 (by omega) HG.out.rows HW.out.rows).mono ?_
  rintro e w12 ⟨rfl, hb⟩
  have hz' := hb.size
  have nHA := HA.out.trans (hb.mono HA.out.size)
  have nHW := HW.out.below (hb.mono (show M3 ≤ w11.heap.size by omega))
  have nHG := HG.out.below (hb.mono (show M7 ≤ w11.heap.size by omega))
  have nz : M7 ≤ w12.heap.size := by omega
  clear HA HW HG hb hz hz'
  have HA : Hid (Below w.heap.size w w12) := nHA
  have HW : Hid (OwnIn w12 M2 M3 pw N 3 (shwV E)) := nHW
  have HG : Hid (OwnIn w12 M5 M7 pg N 3 (shwV E)) := nHG
  have hz := nz
  clear nz nHA nHW nHG
  go_wp2_with fail
  refine (markShws M5 pg N cg 1 E w12 (by omega) (by omega) (by omega) (by omega) HG.out.own).mono ?_
  rintro e w13 ⟨rfl, hbO, hOM⟩
  have hR := butR_of hbO HG.out
  have HM : Hid (OwnIn w13 M5 M7 pg N 3 (shwV (mkShw 1))) := by
    rcases HG.out with h' | ⟨g', h1', _, h3', _⟩
    · exact .inl h'
    rcases hOM with h | ⟨g, h1, h2, h3, h4⟩
    · exact .inl h
    · have e1 : g' = g := by
        rw [h1'] at h1
        simpa using h1
      subst e1
      exact .inr ⟨g', h1, h2, h3', by have := hR.size; omega, h4⟩
  clear hbO hOM
  have hz7 : M7 ≤ w13.heap.size := by have := hR.size; omega
  have hz' := hR.size
  have nHA : Below w.heap.size w w13 := HA.out.trans (hR.below (by omega) HA.out.size)
  have nHW := HW.out.butR hR (by omega)
  have nz : M3 ≤ w13.heap.size := by omega
  clear HA HW hR hz hz'
  have HA : Hid (Below w.heap.size w w13) := nHA
  have HW : Hid (OwnIn w13 M2 M3 pw N 3 (shwV E)) := nHW
  have hz := nz
  clear nz nHA nHW
  clear HG hz
  have hz := hz7
  clear hz7
  obtain ⟨t, ht⟩ : ∃ t, 1 + 3 * N = t := ⟨_, rfl⟩
  rw [ht]
  have htt : ¬ ((t : Int) < 0) := by omega
  have hte : ((t : Int) != (t : Int)) = false := by simp
  go_wp2_with fail
  refine (heldShws pg N cg 1 w13 (by omega) (by omega) (by omega) HM.out.rows).mono ?_
  rintro e w14 ⟨rfl, hb⟩
  rw [ht]
  have hz' := hb.size
  have nHA := HA.out.trans (hb.mono HA.out.size)
  have nHW := HW.out.below (hb.mono (show M3 ≤ w13.heap.size by omega))
  have nHM := HM.out.below (hb.mono (show M7 ≤ w13.heap.size by omega))
  have nz : M7 ≤ w14.heap.size := by omega
  clear HA HW HM hb hz hz'
  have HA : Hid (Below w.heap.size w w14) := nHA
  have HW : Hid (OwnIn w14 M2 M3 pw N 3 (shwV E)) := nHW
  have HM : Hid (OwnIn w14 M5 M7 pg N 3 (shwV (mkShw 1))) := nHM
  have hz := nz
  clear nz nHA nHW nHM
  go_wp2_with fail
  refine (toShws p0 n0 c0 S0 w14 hn' (HP.out w14 HA.out)).mono ?_
  rintro e w15 ⟨g5, rfl, hb, _, hg5, hf5⟩
  have HO : Hid (ShwsAt w15 (some ⟨g5, 0, none⟩) n0 S0) := .inr ⟨g5, 0, rfl, hg5, hf5.1⟩
  clear hg5 hf5
  have hz' := hb.size
  have nHA := HA.out.trans (hb.mono HA.out.size)
  have nHW := HW.out.below (hb.mono (show M3 ≤ w14.heap.size by omega))
  have nHM := HM.out.below (hb.mono (show M7 ≤ w14.heap.size by omega))
  have nz : M7 ≤ w15.heap.size := by omega
  clear HA HW HM hb hz hz'
  have HA : Hid (Below w.heap.size w w15) := nHA
  have HW : Hid (OwnIn w15 M2 M3 pw N 3 (shwV E)) := nHW
  have HM : Hid (OwnIn w15 M5 M7 pg N 3 (shwV (mkShw 1))) := nHM
  have hz := nz
  clear nz nHA nHW nHM
  go_wp2_with fail
  refine (HI.out _ _ w15 HO.out).mono ?_
  rintro e w16 ⟨ph, ch, rfl, _, hoh, hb⟩
  have HH : Hid (ShwsAt w16 ph N E) := hoh.rows
  clear hoh HO
  have hz' := hb.size
  have nHA := HA.out.trans (hb.mono HA.out.size)
  have nHW := HW.out.below (hb.mono (show M3 ≤ w15.heap.size by omega))
  have nHM := HM.out.below (hb.mono (show M7 ≤ w15.heap.size by omega))
  have nz : M7 ≤ w16.heap.size := by omega
  clear HA HW HM hb hz hz'
  have HA : Hid (Below w.heap.size w w16) := nHA
  have HW : Hid (OwnIn w16 M2 M3 pw N 3 (shwV E)) := nHW
  have HM : Hid (OwnIn w16 M5 M7 pg N 3 (shwV (mkShw 1))) := nHM
  have hz := nz
  clear nz nHA nHW nHM
  go_wp2_with fail
  refine (eqShws ph pw N ch cw E w16 (by omega) HH.out HW.out.rows).mono ?_
  rintro e w17 ⟨rfl, hb⟩
  clear HH
  have hz' := hb.size
  have nHA := HA.out.trans (hb.mono HA.out.size)
  have nHM := HM.out.below (hb.mono (show M7 ≤ w16.heap.size by omega))
  have nz : M7 ≤ w17.heap.size := by omega
  clear HA HM hb hz hz'
  have HA : Hid (Below w.heap.size w w17) := nHA
  have HM : Hid (OwnIn w17 M5 M7 pg N 3 (shwV (mkShw 1))) := nHM
  have hz := nz
  clear nz nHA nHM
  go_wp2_with fail
  refine (heldShws pg N cg 1 w17 (by omega) (by omega) (by omega) HM.out.rows).mono ?_
  rintro e w18 ⟨rfl, hb⟩
  rw [ht]
  have B := HA.out.trans (hb.mono HA.out.size)
  clear hb
  go_wp2_with fail
  go_ret
  exact ⟨rfl, B⟩

set_option maxRecDepth 100000 in
theorem lifted (os : Os) (started : os.Started) (H : Type) (enc : TypeId × Value → H) :
    ReturnsInHanded {} Try.checked os 6 .any (Rows.fnExactGetOrAllocSpec.pre6 enc Try.prog Try.f6 Rows.fnExactGetOrAllocRow.domain false) (Rows.fnExactGetOrAllocSpec.post enc Try.prog Try.f6 false true false false) := by
  refine returnsInHanded_of_change (C := Try.checked) own started (by kernel_rfl) Try.func6
    (ChangeSpec.witness6 (enc := enc) (C := Try.checked) false ⟨#[], #[.slice none 0 0, .int .i64 0, .int .i64 0, .int .i64 0], []⟩ 8 (by kernel_rfl) (by kernel_rfl) (by kernel_rfl) (by kernel_rfl)) ?_
  intro W base args ds gs before hval0 hW hcnd _
  have hval : ∀ (j : Nat) t v, Try.f6.params[j]? = some t → args[j]? = some v → Value.okWide Try.prog W .any base t v := hval0
  have hW' := hW
  obtain ⟨p, q, hA0, hV, rfl, hfz, hnd⟩ := hW
  have hA : DataW.TrodAll enc Try.prog W 0 (fun _ => true) true Try.f6.params.toList args.toList ds p := hA0
  rw [Try.params6] at hA hval
  obtain ⟨v0, vs0, d0, ds0, p0, q0, hargs, rfl, rfl, h0, r0⟩ := trodAll_cons hA
  obtain ⟨v1, vs1, d1, ds1, p1, q1, rfl, rfl, rfl, h1, r1⟩ := trodAll_cons r0
  obtain ⟨v2, vs2, d2, ds2, p2, q2, rfl, rfl, rfl, h2, r2⟩ := trodAll_cons r1
  obtain ⟨v3, vs3, d3, ds3, p3, q3, rfl, rfl, rfl, h3, r3⟩ := trodAll_cons r2
  obtain ⟨rfl, rfl, rfl⟩ := trodAll_nil r3
  obtain rfl : args = #[v0, v1, v2, v3] := by cases args; simp_all
  obtain ⟨rfl, rfl⟩ := trodVars_none hV
  have k0 := h0
  have lt0 : ∀ x ∈ p0, x.block < W.heap.size := by obtain ⟨m, hm⟩ := k0; exact DataW.trod_lt m _ _ _ hm
  obtain ⟨q0, n0, c0, rfl⟩ := okWide_slice Try.underlying22 (hval 0 22 v0 rfl rfl)
  obtain ⟨S0, w0⟩ : ∃ S, IsShws W q0 n0 c0 S := by
    obtain ⟨fuel, hf⟩ := h0
    exact open_shws Try.underlying22 Try.underlying48 (by kernel_rfl) (by kernel_rfl) Try.underlying3 Try.underlying3 Try.underlying3 (by simpa [Value.cells] using hf)
  obtain ⟨a1, rfl, rfl, rfl, w1⟩ := open_int Try.underlying3 (hval 1 3 v1 rfl rfl) h1
  obtain ⟨a2, rfl, rfl, rfl, w2⟩ := open_int Try.underlying3 (hval 2 3 v2 rfl rfl) h2
  obtain ⟨a3, rfl, rfl, rfl, w3⟩ := open_int Try.underlying3 (hval 3 3 v3 rfl rfl) h3
  clear hA0 hval0
  refine (walk q0 n0 c0 S0 a1 a2 a3 W w0 w1 w2 w3).mono fun e W' ⟨he, bel⟩ => ?_
  subst he
  exact ⟨_, rfl, _, _, _, [], _, [], hW', trodAll_mk1 (shut_bool Try.underlying4 _), (trodAll_cons_mk (Below.trod laidOut (by kernel_rfl) (of_decide_eq_true (by kernel_rfl)) k0 bel lt0) (trodAll_cons_mk (shut_int Try.underlying3 w1) (trodAll_cons_mk (shut_int Try.underlying3 w2) (trodAll_cons_mk (shut_int Try.underlying3 w3) trodAll_mk0)))), rfl, bel.frame _, fun h => by cases h⟩

theorem over : Rows.fnExactGetOrAllocRow.holds Try.pinned (OpenSpec.ofChange Rows.fnExactGetOrAllocSpec) :=
  OpenClaim.holds_of_wide 6 Try.f6 rfl rfl rfl rfl rfl rfl rfl ⟨rfl, rfl, rfl, rfl, rfl⟩ rfl rfl rfl rfl rfl (by kernel_rfl) Try.func6 (by kernel_rfl)
    (of_decide_eq_true (by kernel_rfl)) (by unfold Func.isWrapper; first | (rw [if_pos (by decide +kernel)]; kernel_rfl) | (rw [if_neg (by decide +kernel)]; exact ⟨rfl, rfl⟩))
    (fun os started H enc _ => lifted os started H enc)

theorem proved : Rows.FnExactGetOrAllocSaid :=
  over
end Go.Proofs.Ytmbkkcdcccopiaa.fnExactGetOrAlloc
theorem Go.Proofs.Ytmbkkcdcccopiaa.getOrAlloc_holds : Go.Proofs.Ytmbkkcdcccopiaa.Rows.FnExactGetOrAllocSaid := Go.Proofs.Ytmbkkcdcccopiaa.fnExactGetOrAlloc.proved
