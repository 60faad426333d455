/- The program's look at objects: names and places of units. -/
import Derived.Test.YtdcjddiigipdmaaObjP
import Derived.Test.YtdcjddiigipdmaaObjL
import Derived.Test.YtdcjddiigipdmaaNameOK
import Derived.Test.YtdcjddiigipdmaaIn64
import Derived.Deep.RegionHeld3
namespace Go.Proofs.Ytdcjddiigipdmaa
open Go Go.RowKit
set_option linter.unusedVariables false

theorem isFnI (q : ObjPt) (o : ObjD) (u : Int) (w : World) :
    Calls Try.prog 110 #[.agg (objC o q), .int .i64 u] w fun e w' => e = .returned (.bool (decide (u < o.nf))) ∧ Below w.heap.size w w' := by
  have bA := grown1' w (.cells (objC o q) 36)
  go_enter Try.func110, Try.ntmps110
  go_wp2
  go_ret
  exact ⟨rfl, bA⟩

set_option maxRecDepth 100000 in
set_option maxHeartbeats 2000000 in
theorem nameI (q : ObjPt) (o : ObjD) (u : Nat) (w : World) (hf : o.nf ≤ 2000000) (hu : u < o.nf + o.nd) (hd : o.nd ≤ 2000000) (hp : ObjAt w q o) :
    Calls Try.prog 119 #[.agg (objC o q), .int .i64 u] w fun e w' => e = .returned (.string (unitNm o u)) ∧ Below w.heap.size w w' := by
  obtain ⟨pf, cf, pd, cd, pr, cr, ps, cs⟩ := q
  have bA := grown1' w (.cells (objC o ⟨pf, cf, pd, cd, pr, cr, ps, cs⟩) 36)
  have lA := Lies.new w (objC o ⟨pf, cf, pd, cd, pr, cr, ps, cs⟩) 36
  have hpA := hp.below bA
  have HA : Hid (Below w.heap.size w _) := bA
  have HL : Hid (Lies _ w.heap.size 36 _) := lA
  have hlt := lA.lt
  clear bA hp lA
  by_cases h1 : u < o.nf
  · rw [unitNm_f h1]
    rcases hpA.f with h | ⟨b, oo, hpf, hb, hv⟩
    · omega
    have hpf' : pf = some (⟨b, oo, none⟩ : Addr) := hpf
    clear hpf
    subst hpf'
    have HV : Hid (VRow _ b oo (o.nf * 4) (funV o.F)) := hv
    obtain ⟨s, es⟩ : ∃ s, (o.F u).nm = s := ⟨_, rfl⟩
    rw [es]
    have HES : Hid (_ = s) := es
    have ub : decide ((u : Int) < o.nf) = true := by simpa using h1
    clear hpA hv es
    go_enter Try.func119, Try.ntmps119
    go_wp2_with fail
    refine (isFnI ⟨some ⟨b, oo, none⟩, cf, pd, cd, pr, cr, ps, cs⟩ o u _).mono ?_
    rintro e w1 ⟨rfl, hb1⟩
    have x0 := ((HV.out.below hb1 hb).fun h1).1
    rw [HES.out] at x0
    have l1 := HL.out.below hb1 hlt
    have i2 := obj2 l1
    have HB : Hid (Below w.heap.size w w1) := HA.out.trans (hb1.mono HA.out.size)
    clear hb1 hb l1 HA HL HV
    rw [ub]
    go_wp2_with fail
    go_ret
    exact ⟨rfl, HB.out⟩
  · obtain ⟨k, rfl⟩ : ∃ k, u = o.nf + k := ⟨u - o.nf, by omega⟩
    rw [unitNm_d]
    have hk : k < o.nd := by omega
    rcases hpA.d with h | ⟨b, oo, hpf, hb, hv⟩
    · omega
    have hpf' : pd = some (⟨b, oo, none⟩ : Addr) := hpf
    clear hpf
    subst hpf'
    have HV : Hid (VRow _ b oo (o.nd * 2) (datV o.D)) := hv
    obtain ⟨s, es⟩ : ∃ s, (o.D k).nm = s := ⟨_, rfl⟩
    rw [es]
    have HES : Hid (_ = s) := es
    have ub : decide ((o.nf : Int) + (k : Int) < (o.nf : Int)) = false := decide_eq_false (by omega)
    have hsub : IntKind.i64.wrap (((o.nf + k : Nat) : Int) - o.nf) = k := by rw [IntKind.wrap_i64]; omega
    have hsub2 : IntKind.i64.wrap (((o.nf : Int) + k) - o.nf) = k := by rw [IntKind.wrap_i64]; omega
    have hk2 : IntKind.i64.wrap (k : Int) = k := by rw [IntKind.wrap_i64]; omega
    clear hpA hv es
    go_enter Try.func119, Try.ntmps119
    go_wp2_with fail
    refine (isFnI ⟨pf, cf, some ⟨b, oo, none⟩, cd, pr, cr, ps, cs⟩ o _ _).mono ?_
    rintro e w1 ⟨rfl, hb1⟩
    have x0 := ((HV.out.below hb1 hb).dat hk).1
    rw [HES.out] at x0
    have l1 := HL.out.below hb1 hlt
    have i2 := obj2 l1
    have i3 := obj3 l1
    have HB : Hid (Below w.heap.size w w1) := HA.out.trans (hb1.mono HA.out.size)
    clear hb1 hb l1 HA HL HV
    rw [ub]
    go_wp2_with fail
    go_ret
    exact ⟨rfl, HB.out⟩

set_option maxRecDepth 100000 in
set_option maxHeartbeats 2000000 in
theorem takenI (q : ObjPt) (o : ObjD) (u : Nat) (w : World) (hf : o.nf ≤ 2000000) (hu : u < o.nf + o.nd) (hd : o.nd ≤ 2000000) (hp : ObjAt w q o) :
    Calls Try.prog 82 #[.agg (objC o q), .int .i64 u] w fun e w' => e = .returned (.bool (takenB o u)) ∧ Below w.heap.size w w' := by
  have bA := grown1' w (.cells (objC o q) 36)
  have lA := Lies.new w (objC o q) 36
  have hBase : ∀ W : World, Below w.heap.size w W → ObjAt W q o := fun W h => hp.below h
  go_enter Try.func82, Try.ntmps82
  go_wp2_with fail
  obtain ⟨W0, hW0⟩ : ∃ W0, w.alloc (.cells #[.string o.nm, .int .i64 o.dp, .slice q.pf o.nf q.kf, .slice q.pd o.nd q.kd, .slice q.pr o.nr q.kr, .slice q.ps o.ns q.ks] 36) = W0 := ⟨_, rfl⟩
  rw [hW0] at bA lA ⊢
  obtain ⟨X0, hX0⟩ : ∃ X, w.heap.size = X := ⟨_, rfl⟩
  rw [hX0] at bA lA hBase ⊢
  have HX0 : Hid (w.heap.size = X0) := hX0
  have HP : Hid (∀ W : World, Below X0 w W → ObjAt W q o) := hBase
  have HA : Hid (Below X0 w W0) := bA
  have HL0 : Hid (Lies W0 X0 36 (objC o q)) := lA
  have hlt0 := lA.lt
  clear hW0 hX0 hp bA lA hBase
  go_loopw [7] (fun i wr => ∃ k : Nat, k ≤ u ∧ i = .int .i64 k ∧ (∀ j, j < k → ((unitNm o j).toList == (unitNm o u).toList) = false) ∧ Below W0.heap.size W0 wr) (fun i _ => u - (intOf i).toNat)
  case atStart => exact ⟨0, Nat.zero_le _, rfl, fun j hj => absurd hj (Nat.not_lt_zero _), Below.refl _ _⟩
  case round =>
    obtain ⟨k, hk, rfl, hno, hB⟩ := hrel
    obtain ⟨W1, rfl⟩ : ∃ W1, W1 = wr := ⟨_, rfl⟩
    have hlw : X0 < W1.heap.size := Nat.lt_of_lt_of_le hlt0 hB.size
    have HB : Hid (Below W0.heap.size W0 W1) := hB
    have HF : Hid (Below X0 w W1) := HA.out.trans (hB.mono (Nat.le_of_lt hlt0))
    have HL : Hid (Lies W1 X0 36 (objC o q)) := HL0.out.below hB hlt0
    by_cases hku : k < u
    · have n1 : ∀ v W, v < o.nf + o.nd → Below W1.heap.size W1 W → Calls Try.prog 119 #[.agg (objC o q), .int .i64 (v : Nat)] W fun e w' => e = .returned (.string (unitNm o v)) ∧ Below W1.heap.size W1 w' := fun v W hv hb => (nameI q o v W hf hv hd (HP.out W (HF.out.trans (hb.mono (Nat.le_of_lt hlw))))).mono (fun e w' h => ⟨h.1, hb.trans (h.2.mono hb.size)⟩)
      have HN : Hid (∀ v W, v < o.nf + o.nd → Below W1.heap.size W1 W → _) := n1
      have HNO : Hid (∀ j, j < k → ((unitNm o j).toList == (unitNm o u).toList) = false) := hno
      have l1 := HL.out
      have i0 := obj0 l1
      have i1 := obj1 l1
      have i2 := obj2 l1
      have i3 := obj3 l1
      have i4 := obj4 l1
      have i5 := obj5 l1
      have NKU : Hid (takenB o u = true ∨ True) := .inr trivial
      clear hno hB n1 l1 NKU
      go_wp2_with fail
      go_region_held3 (fun w' => w'.cell? ⟨X0, 0, none⟩ = some (.string o.nm) ∧ w'.cell? ⟨X0, 1, none⟩ = some (.int .i64 o.dp) ∧ w'.cell? ⟨X0, 2, none⟩ = some (.slice q.pf o.nf q.kf) ∧ w'.cell? ⟨X0, 3, none⟩ = some (.slice q.pd o.nd q.kd) ∧ w'.cell? ⟨X0, 4, none⟩ = some (.slice q.pr o.nr q.kr) ∧ w'.cell? ⟨X0, 5, none⟩ = some (.slice q.ps o.ns q.ks)) (go_keep) ((go_at_call 119; refine (HN.out _ _ (by omega) (by first | assumption | exact (Below.refl _ _).drew)).mono ?_; rintro e w4 ⟨rfl, hb4⟩; have l4 := HL.out.below hb4 hlw; have e0 := obj0 l4; have e1 := obj1 l4; have e2 := obj2 l4; have e3 := obj3 l4; have e4 := obj4 l4; have e5 := obj5 l4))
      have HB4 : Hid (Below W0.heap.size W0 w4) := HB.out.trans (hb4.mono HB.out.size)
      have HF4 : Hid (Below w.heap.size w w4) := by rw [HX0.out]; exact HF.out.trans (hb4.mono (Nat.le_of_lt hlw))
      clear e0 e1 e2 e3 e4 e5 i0 i1 i2 i3 i4 i5 l4 hb4 HN
      obtain ⟨nk, hnk⟩ : ∃ s, unitNm o k = s := ⟨_, rfl⟩
      obtain ⟨nu, hnu⟩ : ∃ s, unitNm o u = s := ⟨_, rfl⟩
      rw [hnk, hnu]
      have NK : Hid (_ = nk) := hnk
      have NU : Hid (_ = nu) := hnu
      clear hnk hnu
      by_cases he : (nk.toList == nu.toList) = true
      · have ht : takenB o u = true := takenB_iff.2 ⟨k, hku, by rw [NK.out, NU.out]; exact he⟩
        rw [he]
        go_wp2_with fail
        go_ret
        exact ⟨ret_bool ht.symm, HF4.out⟩
      · have he' : (nk.toList == nu.toList) = false := by cases e : (nk.toList == nu.toList) <;> simp_all
        clear he
        rw [he']
        go_wp2_with fail
        go_roundw
        case rel => exact ⟨k + 1, by omega, by go_num, fun j hj => by
          rcases Nat.lt_succ_iff_lt_or_eq.1 hj with h' | rfl
          · exact HNO.out j h'
          · rw [NK.out, NU.out]; exact he', HB4.out⟩
        case measure => simp [intOf]; omega
    · obtain rfl : k = u := by omega
      have ht : takenB o k = false := takenB_no hno
      have HF4 : Hid (Below w.heap.size w W1) := by rw [HX0.out]; exact HF.out
      clear hno hB
      go_wp2_with fail
      go_ret
      exact ⟨ret_bool ht.symm, HF4.out⟩
end Go.Proofs.Ytdcjddiigipdmaa
