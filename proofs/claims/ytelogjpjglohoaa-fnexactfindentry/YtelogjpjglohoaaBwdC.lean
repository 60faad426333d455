/- slices.Backward over a list of entries, as a sequence for a range: the last element first. -/
import Derived.Test.YtelogjpjglohoaaRngP
import Derived.Test.YtelogjpjglohoaaRecEnt
namespace Go.Proofs.Ytelogjpjglohoaa
open Go Go.RowKit
set_option linter.unusedVariables false
attribute [local go_sem] Oper.semAt_some

abbrev entA (d : EntD) : Value := .agg #[.string d.nm, .int .i64 d.kd, .int .i64 d.pl, .int .i64 d.sz, .int .i64 d.fr, .int .i64 d.ow]
theorem boxed_standsN {A B : World} {row : Option Nat} {Bc S X t : Nat} {v : Value} (hg : A.grownBy B row) (hrow : ∀ r, row = some r → r = Bc ∨ (S ≤ r ∧ ∃ o : Obj, A.heap[r]? = some o ∧ o.isCells = false)) (h : Boxed A X t v) (hne : X ≠ Bc) (hlt : X < S) : Boxed B X t v :=
  h.kept hg (fun e => by rcases hrow X e.symm with h' | ⟨h', _⟩ <;> omega)
set_option maxRecDepth 100000 in
set_option maxHeartbeats 2000000 in
theorem bwdSeq (p : Option Addr) (n c : Nat) (S : Nat → EntD) (hn : n ≤ 1048576) (f n₀ Bc : Nat) (w : World) (hw0 : n₀ ≤ w.heap.size) (hB : Bc < w.heap.size) (hnB : n₀ ≤ Bc) (hc : Boxed w Bc 31 (.slice p n c)) (hp : RowsLow w n₀ p n 6 (entV S)) :
    CellSeq Fence.wide f Try.prog 64 #[.pointer (some ⟨Bc, 0, none⟩)] (fun k => #[.int .i64 ((n - 1 - k : Nat) : Int), entA (S (n - 1 - k))]) n₀ Bc n w := by
  intro l J Jx W hJ hY hK h0
  have hbx : Boxed W Bc 31 (.slice p n c) := hK.2.trans hc
  have hcell := hbx.cell
  refine callsIn_of_wp Try.func64 rfl trivial ?_ rfl
  simp only [Try.ntmps64, List.size_toArray, List.length_cons, List.length_nil, Nat.reduceAdd, Nat.reduceSub, Array.replicate_succ, Array.replicate_zero, List.push_toArray, List.append_toArray, List.nil_append, List.cons_append]
  have HY : Hid (∀ k W1, k < n → J k W1 → _) := hY
  clear hY
  gi_wp2
  gi_loopw [3] (fun i wr => ∃ k : Nat, k ≤ n ∧ i = .int .i64 ((n : Int) - 1 - k) ∧ J k wr ∧ RKeep n₀ Bc w wr) (fun i _ => (intOf i + 1).toNat)
  case atStart => exact ⟨0, Nat.zero_le _, by first | rfl | go_num | simp, h0, hK⟩
  case round =>
    obtain ⟨k, hk, rfl, hj, hkeep⟩ := hrel
    have hb1 : Boxed wr Bc 31 (.slice p n c) := hkeep.2.trans hc
    have hcl := hb1.cell
    by_cases hlt : k < n
    · obtain ⟨j, hjj⟩ : ∃ j, n - 1 - k = j := ⟨_, rfl⟩
      have ej : (n : Int) - 1 - k = (j : Int) := by omega
      have ejn : (j : Int) < n := by omega
      have ejn' : j < n := by omega
      rcases (hp.below (hkeep.1.mono (Nat.le_refl _))) with hp0 | ⟨b, o, rfl, hb, hp0⟩
      · omega
      obtain ⟨x0, x1, x2, x3, x4, x5⟩ := hp0.ent ejn'
      have hy := HY.out k wr hlt hj
      rw [hjj] at hy
      rw [ej]
      clear hcell hbx hb1 hp hp0 hj
      obtain ⟨fn, tmps, assign, body, hy, hR⟩ := hy
      gi_wp2
      refine ⟨fun h => (by cases h), hR.mono ?_⟩
      rintro e W3 (⟨rfl, hj3, hk3⟩ | ⟨rfl, hj3⟩)
      · gi_wp2
        go_roundw
        case rel => exact ⟨k + 1, by omega, by first | go_num | (congr 1; omega), hj3, hkeep.trans hk3⟩
        case measure => first | (simp [intOf]; done) | (simp [intOf]; omega)
      · gi_wp2
        refine bodyPost_ret (results_none rfl _ _ _) rfl ?_
        exact ⟨⟨_, rfl⟩, .inr hj3⟩
    · obtain rfl : k = n := by omega
      have ej : (k : Int) - 1 - k = -1 := by omega
      rw [ej]
      gi_wp2
      go_end0
      exact ⟨⟨_, rfl⟩, .inl hj⟩
end Go.Proofs.Ytelogjpjglohoaa
