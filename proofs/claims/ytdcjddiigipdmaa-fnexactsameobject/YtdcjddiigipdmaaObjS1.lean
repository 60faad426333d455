/- The model's look at objects: lengths of code, places of units, two numbers ahead of two. -/
import Derived.Test.YtdcjddiigipdmaaObjP
import Derived.Test.YtdcjddiigipdmaaObjL
import Derived.Test.YtdcjddiigipdmaaNameOK
import Derived.Test.YtdcjddiigipdmaaSpIn
import Derived.Test.YtdcjddiigipdmaaIn64
import Derived.Deep.RegionHeld3
namespace Go.Proofs.Ytdcjddiigipdmaa
open Go Go.RowKit
set_option linter.unusedVariables false

theorem codeSpec (s : ByteArray) (w : World) (hs : s.size ≤ maxLen) :
    Calls Try.prog 115 #[.string s] w fun e w' => e = .returned (.bool (codeB s.size)) ∧ w' = w := by
  unfold maxLen at hs
  by_cases h4 : s.size % 4 = 0
  · by_cases h20 : 20 ≤ s.size
    · by_cases h256 : s.size ≤ 256
      · rw [show codeB s.size = true from by simp [codeB, h4, h20, h256]]
        go_enter Try.func115, Try.ntmps115
        go_wp2
        go_ret
        exact ⟨ret_bool (by first | rfl | (simp; done) | (simp; omega) | omega), rfl⟩
      · rw [show codeB s.size = false from by simp [codeB]; omega]
        go_enter Try.func115, Try.ntmps115
        go_wp2
        go_ret
        exact ⟨ret_bool (by first | rfl | (simp; done) | (simp; omega) | omega), rfl⟩
    · rw [show codeB s.size = false from by simp [codeB]; omega]
      go_enter Try.func115, Try.ntmps115
      go_wp2
      go_ret
      exact ⟨ret_bool (by first | rfl | (simp; done) | (simp; omega) | omega), rfl⟩
  · rw [show codeB s.size = false from by simp [codeB, h4]]
    go_enter Try.func115, Try.ntmps115
    go_wp2
    go_ret
    exact ⟨ret_bool (by first | rfl | (simp; done) | (simp; omega) | omega), rfl⟩

/-- How many places a unit has; -1: there is none. -/
def unitS (o : ObjD) (u : Int) : Int := if u < 0 ∨ (o.nf + o.nd : Nat) ≤ u then -1 else unitN o u
theorem unitS_f {o : ObjD} {k : Nat} (h : k < o.nf) : unitS o k = ((o.F k).cd.size : Int) / 4 := by
  unfold unitS unitN
  rw [if_neg (by omega), if_neg (by omega), if_pos (by omega)]
  simp
theorem unitS_d {o : ObjD} {k : Nat} (h : k < o.nd) : unitS o ((o.nf : Int) + k) = ((o.D k).bs.size : Int) / 8 := by
  unfold unitS unitN
  rw [if_neg (by omega), if_neg (by omega), if_neg (by omega)]
  have e : ((o.nf : Int) + k).toNat - o.nf = k := by omega
  rw [e]
theorem unitS_no {o : ObjD} {u : Int} (h : u < 0 ∨ (o.nf + o.nd : Nat) ≤ u) : unitS o u = -1 := by unfold unitS; rw [if_pos h]

set_option maxRecDepth 100000 in
set_option maxHeartbeats 1000000 in
theorem unitSpec (q : ObjPt) (o : ObjD) (u : Int) (w : World) (hu : (Lit.int .i64 u).wf = true) (hf : o.nf ≤ 2000000) (hd : o.nd ≤ 2000000) (hw : o.wf) (hp : ObjAt w q o) :
    Calls Try.prog 54 #[.agg (objC o q), .int .i64 u] w fun e w' => e = .returned (.int .i64 (unitS o u)) ∧ Below w.heap.size w w' := by
  obtain ⟨pf, kf, pd, kd, pr, kr, ps, ks⟩ := q
  have bA := grown1' w (.cells (objC o ⟨pf, kf, pd, kd, pr, kr, ps, ks⟩) 36)
  have hpA := hp.below bA
  have hu' := in64_of hu
  unfold In64 at hu'
  have HU : Hid (_ ∧ _) := hu'
  clear hu hu'
  have HA : Hid (Below w.heap.size w _) := bA
  clear bA hp
  by_cases h1 : 0 ≤ u ∧ u < o.nf
  · obtain ⟨k, rfl⟩ : ∃ k : Nat, u = k := ⟨u.toNat, by omega⟩
    have hk : k < o.nf := by omega
    rw [unitS_f hk]
    have hwk := (hw.f k hk).2.2
    unfold maxLen at hwk
    rcases hpA.f with h | ⟨b, oo, hpf, hb, hv⟩
    · omega
    obtain ⟨x0, x1, x2, x3⟩ := hv.fun hk
    obtain ⟨s, es⟩ : ∃ s, (o.F k).cd = s := ⟨_, rfl⟩
    rw [es] at x3 hwk ⊢
    have hq : ((s.size : Int)).tdiv 4 = (s.size : Int) / 4 := Int.tdiv_eq_ediv_of_nonneg (by omega)
    clear hpA hv x0 x1 x2 hw
    have hpf' : _ = some (⟨b, oo, none⟩ : Addr) := hpf
    clear hpf
    subst hpf'
    clear es
    go_enter Try.func54, Try.ntmps54
    go_wp2
    go_ret
    exact ⟨by first | rfl | (congr 2; omega), HA.out⟩
  by_cases h2 : 0 ≤ u ∧ u < (o.nf + o.nd : Nat)
  · obtain ⟨k, rfl⟩ : ∃ k : Nat, u = (o.nf : Int) + k := ⟨(u - o.nf).toNat, by omega⟩
    have hk : k < o.nd := by omega
    rw [unitS_d hk]
    have hwk := (hw.d k hk).2
    unfold maxLen at hwk
    rcases hpA.d with h | ⟨b, oo, hpf, hb, hv⟩
    · omega
    obtain ⟨x0, x1⟩ := hv.dat hk
    obtain ⟨s, es⟩ : ∃ s, (o.D k).bs = s := ⟨_, rfl⟩
    rw [es] at x1 hwk ⊢
    have hq : ((s.size : Int)).tdiv 8 = (s.size : Int) / 8 := Int.tdiv_eq_ediv_of_nonneg (by omega)
    have hsub : IntKind.i64.wrap ((o.nf : Int) + k - o.nf) = k := by rw [IntKind.wrap_i64]; omega
    clear hpA hv x0 hw
    have hpf' : _ = some (⟨b, oo, none⟩ : Addr) := hpf
    clear hpf
    subst hpf'
    clear es
    go_enter Try.func54, Try.ntmps54
    go_wp2
    go_ret
    exact ⟨by first | rfl | (congr 2; omega), HA.out⟩
  · rw [unitS_no (by omega)]
    clear hpA hw
    have key : u < 0 ∨ (0 ≤ u ∧ (o.nf + o.nd : Nat) ≤ u) := by omega
    have hsub : 0 ≤ u → IntKind.i64.wrap (u - o.nf) = u - o.nf := fun h => by have := HU.out; rw [IntKind.wrap_i64]; omega
    clear h1 h2
    rcases key with k | ⟨k, l⟩
    · clear hsub
      go_enter Try.func54, Try.ntmps54
      go_wp2
      go_ret
      exact ⟨rfl, HA.out⟩
    · have hs2 := hsub k
      have h3 : ¬ u < 0 := by omega
      have h4 : (o.nd : Int) ≤ u - o.nf := by omega
      have h5 : (o.nf : Int) ≤ u := by omega
      clear hsub
      go_enter Try.func54, Try.ntmps54
      go_wp2
      go_ret
      exact ⟨rfl, HA.out⟩

theorem lessSpec (g h : Nat) (a b c d : Int) (w : World) (a0 : w.cell? ⟨g, 0, none⟩ = some (.int .i64 a)) (a1 : w.cell? ⟨g, 0 + 1, none⟩ = some (.int .i64 b)) (b0 : w.cell? ⟨h, 0, none⟩ = some (.int .i64 c)) (b1 : w.cell? ⟨h, 0 + 1, none⟩ = some (.int .i64 d)) :
    Calls Try.prog 116 #[.slice (some ⟨g, 0, none⟩) 2 2, .slice (some ⟨h, 0, none⟩) 2 2] w fun e w' => e = .returned (.bool (decide (a < c ∨ (a = c ∧ b < d)))) ∧ Below w.heap.size w w' := by
  go_enter Try.func116, Try.ntmps116
  go_wp2
  go_loopw [5] (fun i wr => ∃ k : Nat, k ≤ 2 ∧ i = .int .i64 k ∧ (0 < k → a = c) ∧ (1 < k → b = d) ∧ Below w.heap.size w wr) (fun i _ => 2 - (intOf i).toNat)
  case atStart => exact ⟨0, by omega, rfl, by omega, by omega, Below.refl _ _⟩
  case round =>
    obtain ⟨k, hk, rfl, h0, h1, hB⟩ := hrel
    have hlg : g < w.heap.size := World.block_lt_of_cell? w _ a0
    have hlh : h < w.heap.size := World.block_lt_of_cell? w _ b0
    have c0 := (hB.cell (p := ⟨g, 0, none⟩) hlg).trans a0
    have c1 := (hB.cell (p := ⟨g, 0 + 1, none⟩) hlg).trans a1
    have d0 := (hB.cell (p := ⟨h, 0, none⟩) hlh).trans b0
    have d1 := (hB.cell (p := ⟨h, 0 + 1, none⟩) hlh).trans b1
    have hB' := hB.drew
    have hB'' := hB'.drew
    have HB : Hid (Below w.heap.size w wr ∧ Below w.heap.size w wr.drew ∧ Below w.heap.size w wr.drew.drew) := ⟨hB, hB', hB''⟩
    clear hB hB' hB'' a0 a1 b0 b1
    have hk' : k = 0 ∨ k = 1 ∨ k = 2 := by omega
    rcases hk' with rfl | rfl | rfl
    · by_cases e : a = c
      · subst e
        go_wp2
        go_region
        all_goals
          go_wp2
          go_roundw
          case rel => exact ⟨1, by omega, by go_num, by simp, by simp, by first | exact HB.out.2.1 | exact HB.out.1 | exact HB.out.2.2⟩
          case measure => simp [intOf]
      · have eb : (a != c) = true := by simpa using e
        go_wp2
        go_region
        all_goals
          go_wp2
          go_region
          all_goals
            go_wp2
            go_ret
            exact ⟨ret_bool (by first | (simp; done) | simp [e]), by first | exact HB.out.2.2 | exact HB.out.2.1 | exact HB.out.1⟩
    · obtain rfl := h0 (by omega)
      by_cases e : b = d
      · subst e
        go_wp2
        go_region
        all_goals
          go_wp2
          go_roundw
          case rel => exact ⟨2, by omega, by go_num, by simp, by simp, by first | exact HB.out.2.1 | exact HB.out.1 | exact HB.out.2.2⟩
          case measure => simp [intOf]
      · have eb : (b != d) = true := by simpa using e
        go_wp2
        go_region
        all_goals
          go_wp2
          go_region
          all_goals
            go_wp2
            go_ret
            exact ⟨ret_bool (by first | (simp; done) | simp [e]), by first | exact HB.out.2.2 | exact HB.out.2.1 | exact HB.out.1⟩
    · obtain rfl := h0 (by omega)
      obtain rfl := h1 (by omega)
      go_wp2
      go_ret
      exact ⟨ret_bool (by simp), HB.out.1⟩
end Go.Proofs.Ytdcjddiigipdmaa
