/- The model's look at an object's declarations. -/
import Derived.Test.YtdcjddiigipdmaaObjS2
namespace Go.Proofs.Ytdcjddiigipdmaa
open Go Go.RowKit
set_option linter.unusedVariables false

set_option maxRecDepth 100000 in
set_option maxHeartbeats 8000000 in
theorem specDecls (q : ObjPt) (o : ObjD) (w : World) (hn : o.ns ≤ 2000000) (hw : o.wf) (hp : ObjAt w q o) (x y : Int) (hl : FstIs o.ns (fltS o) x y) :
    Calls Try.prog 76 #[.agg (objC o q)] w fun e w' => e = .returned (.tuple #[.int .i64 x, .int .i64 y]) ∧ Below w.heap.size w w' := by
  have bA := grown1' w (.cells (objC o q) 36)
  have lA := Lies.new w (objC o q) 36
  have hp1 := (hp.below bA).s
  go_enter Try.func76, Try.ntmps76
  go_wp2_with fail
  obtain ⟨W0, hW0⟩ : ∃ W0, w.alloc (.cells #[.string o.nm, .int .i64 o.dp, .slice q.pf o.nf q.kf, .slice q.pd o.nd q.kd, .slice q.pr o.nr q.kr, .slice q.ps o.ns q.ks] 36) = W0 := ⟨_, rfl⟩
  rw [hW0] at bA lA hp1 ⊢
  obtain ⟨X0, hX0⟩ : ∃ X, w.heap.size = X := ⟨_, rfl⟩
  rw [hX0] at bA lA ⊢
  have HX0 : Hid (w.heap.size = X0) := hX0
  have HA : Hid (Below X0 w W0) := bA
  have HL0 : Hid (Lies W0 X0 36 (objC o q)) := lA
  have hlt0 := lA.lt
  clear hW0 hX0 hp bA lA
  go_loopw [4] (fun i wr => ∃ m : Nat, m ≤ o.ns ∧ i = .int .i64 m ∧ (∀ j, j < m → fltS o j = 0) ∧ Below W0.heap.size W0 wr) (fun i _ => o.ns - (intOf i).toNat)
  case atStart => exact ⟨0, Nat.zero_le _, rfl, fun j hj => absurd hj (Nat.not_lt_zero _), Below.refl _ _⟩
  case round =>
    obtain ⟨m, hm, rfl, hok, hB⟩ := hrel
    have j5 := obj5 (HL0.out.below hB hlt0)
    have HF : Hid (Below w.heap.size w wr) := by rw [HX0.out]; exact HA.out.trans (hB.mono (Nat.le_of_lt hlt0))
    by_cases hlt : m < o.ns
    · rcases hp1 with hp1 | ⟨b, oo, hpf, hb, hp1⟩
      · omega
      have hrow := hp1.below hB hb
      obtain ⟨x0, x1⟩ := hrow.sha hlt
      have HAT : Hid (fltS o m ≠ 0 → x = ((m : Nat) : Int) ∧ y = fltS o m) := fun hne => hl.at hlt hok hne
      have HOK : Hid (∀ j, j < m → fltS o j = 0) := hok
      have hfl : fltS o m = if (o.S m).id < 0 ∨ 255 < (o.S m).id then 4 else if 0 < m ∧ (o.S m).id ≤ (o.S (m - 1)).id then 24 else 0 := rfl
      obtain ⟨id, e0⟩ : ∃ s, (o.S m).id = s := ⟨_, rfl⟩
      rw [e0] at x0 hfl
      rw [hpf] at j5
      have HFL : Hid (fltS o m = _) := hfl
      clear hfl x1
      by_cases h1 : id < 0 ∨ 255 < id
      · have hf := HFL.out
        rw [if_pos h1] at hf
        obtain ⟨rfl, hy⟩ := HAT.out (by rw [hf]; decide)
        rw [hf] at hy
        subst hy
        clear hf hok hrow hp1 hw e0 hB
        go_wp2_with fail
        refine (spIn id 0 255 _ false (.inr ⟨rfl, by omega⟩)).mono ?_
        rintro e w3' ⟨rfl, rfl⟩
        go_wp2_with fail
        go_ret2
        exact ⟨rfl, HF.out⟩
      by_cases h0 : m = 0
      · have hf := HFL.out
        rw [if_neg h1, if_neg (by omega)] at hf
        subst h0
        simp only [Nat.zero_mul, Nat.add_zero] at x0
        have HALL : Hid (∀ j, j < 0 + 1 → fltS o j = 0) := FstIs.more HOK.out hf
        have HB : Hid (Below W0.heap.size W0 wr ∧ Below W0.heap.size W0 wr.drew) := ⟨hB, hB.drew⟩
        clear hf hok hrow hp1 hw e0 hB
        go_wp2_with fail
        refine (spIn id 0 255 _ true (.inl ⟨rfl, by omega, by omega⟩)).mono ?_
        rintro e w3' ⟨rfl, rfl⟩
        go_wp2_with fail
        go_region
        all_goals
          go_wp2_with fail
          go_roundw
          case rel => exact ⟨0 + 1, by omega, by go_num, HALL.out, by first | exact HB.out.2 | exact HB.out.1⟩
          case measure => simp [intOf]; omega
      obtain ⟨p, rfl⟩ : ∃ p, m = p + 1 := ⟨m - 1, by omega⟩
      have y0 := (hrow.sha (k := p) (by omega)).1
      obtain ⟨ip, e1⟩ : ∃ s, (o.S p).id = s := ⟨_, rfl⟩
      rw [e1] at y0
      have hpl : p < o.ns := by omega
      have hsub : IntKind.i64.wrap (((p + 1 : Nat) : Int) - 1) = (p : Int) := by rw [IntKind.wrap_i64]; omega
      by_cases h2 : id ≤ ip
      · have hf := HFL.out
        rw [if_neg h1, if_pos ⟨by omega, by rw [Nat.add_sub_cancel, e1]; exact h2⟩] at hf
        obtain ⟨rfl, hy⟩ := HAT.out (by rw [hf]; decide)
        rw [hf] at hy
        subst hy
        have bd := HF.out.drew
        clear hf hok hrow hp1 hw e0 e1 hB
        go_wp2_with fail
        refine (spIn id 0 255 _ true (.inl ⟨rfl, by omega, by omega⟩)).mono ?_
        rintro e w3' ⟨rfl, rfl⟩
        go_wp2_with fail
        go_region
        all_goals
          go_wp2_with fail
          go_ret2
          exact ⟨rfl, bd⟩
      · have hf := HFL.out
        rw [if_neg h1, if_neg (by rw [Nat.add_sub_cancel, e1]; omega)] at hf
        have HALL : Hid (∀ j, j < p + 1 + 1 → fltS o j = 0) := FstIs.more HOK.out hf
        have HB : Hid (Below W0.heap.size W0 wr ∧ Below W0.heap.size W0 wr.drew) := ⟨hB, hB.drew⟩
        clear hf hok hrow hp1 hw e0 e1 hB
        go_wp2_with fail
        refine (spIn id 0 255 _ true (.inl ⟨rfl, by omega, by omega⟩)).mono ?_
        rintro e w3' ⟨rfl, rfl⟩
        go_wp2_with fail
        go_region
        all_goals
          go_wp2_with fail
          go_roundw
          case rel => exact ⟨p + 1 + 1, by omega, by go_num, HALL.out, by first | exact HB.out.2 | exact HB.out.1⟩
          case measure => simp [intOf]; omega
    · obtain rfl : m = o.ns := by omega
      obtain ⟨rfl, rfl⟩ := hl.end hok
      clear hp1 hw hl hok
      go_wp2_with fail
      go_ret2
      exact ⟨rfl, HF.out⟩
end Go.Proofs.Ytdcjddiigipdmaa
