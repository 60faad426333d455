/- slices.AppendSeq and slices.Collect over an iterator of keys. -/
import Derived.Test.YtibepggakjfbcaaKitC
import Derived.Test.YtibepggakjfbcaaSqlP
import Derived.RangeFuncBox
import Derived.Maps.AppendAt
namespace Go.Proofs.Ytibepggakjfbcaa
open Go Go.RowKit Go.Maps
set_option linter.unusedVariables false
attribute [local go_sem] Oper.semAt_some

abbrev kL (x : Int × Int) : List Value := [.int .i64 x.1, .int .i64 x.2]
def cellsKs (ss : List (Int × Int)) : List Value := ss.flatMap kL
theorem cellsKs_snoc (ss : List (Int × Int)) (x : Int × Int) : cellsKs (ss ++ [x]) = cellsKs ss ++ kL x := by simp [cellsKs]
theorem new2_of (W : World) (v0 v1 : Value) (t : TypeId) : ∀ (j : Nat) (u : Value), [v0, v1][j]? = some u → (W.alloc (.cells #[v0, v1] t)).cell? ((⟨W.heap.size, 0, none⟩ : Addr).add j) = some u := by
  intro j u h
  match j, h with
  | 0, h => simp at h; subst h; simp [Addr.add]
  | 1, h => simp at h; subst h; simp [Addr.add]
  | j + 2, h => simp at h
theorem Try.info_skey : (Try.prog.info? 51).map (fun i => (i.zero, i.size, i.bytes)) = some (some (.agg #[.int .i64 0, .int .i64 0]), 2, 16) := by kernel_rfl

set_option maxRecDepth 100000 in
set_option maxHeartbeats 4000000 in
theorem appC (g : Nat) (lb : Array Value) (eg : ∀ args w, (callFunc g args).run Try.prog w = .ok (.enter g args) w) (S : List (Int × Int) → Prop) (N : Nat) (hN : N ≤ 1048576) (w : World) (hseq : SeqGives Fence.wide 8 Try.prog g lb kA S N w) :
    Calls Try.prog 58 #[.slice none 0 0, .func (.func g) #[] lb] w fun e w' => ∃ (v : Value) (ss : List (Int × Int)), e = .returned v ∧ S ss ∧ w'.ownsRow w.heap.size 51 2 v ss.length (cellsKs ss) ∧ (v = .slice none 0 0 ↔ ss = []) ∧ Below w.heap.size w w' := by
  obtain ⟨i0, hi, hz0, hz1, hz2⟩ := info_parts Try.info_skey
  have hte : (63 : TypeId) ≠ 51 := by decide
  refine (callsIn_wide (n := 9)).1 ?_
  refine callsIn_of_wp_marks Try.func58 rfl trivial ?_ rfl
  simp only [Try.ntmps58, List.size_toArray, List.length_cons, List.length_nil, Nat.reduceAdd, Nat.reduceSub, Array.replicate_succ, Array.replicate_zero, List.push_toArray, List.append_toArray, List.nil_append, List.cons_append]
  gi_wp2
  have bx := Boxed.new w 63 (.slice none 0 0)
  have hB0 := (Below.refl _ w).alloc (Nat.le_refl _) (.cells #[.slice none 0 0] 63)
  have hz : (w.alloc (.cells #[.slice none 0 0] 63)).heap.size = w.heap.size + 1 := by simp
  obtain ⟨W0, hW0⟩ : ∃ W0, w.alloc (.cells #[.slice none 0 0] 63) = W0 := ⟨_, rfl⟩
  rw [hW0] at bx hB0 hz ⊢
  clear hW0
  refine rangeSeq rfl (by omega) (gf := g) (lb := lb) rfl trivial eg (hseq.later hB0) rfl
    (fun pre W => (∃ v, Boxed W w.heap.size 63 v ∧ W.ownsRow w.heap.size 51 2 v pre.length (cellsKs pre) ∧ (v = .slice none 0 0 ↔ pre = [])) ∧ Below w.heap.size w W)
    (OwnFrom.and (Own.from (holdsRow_own w.heap.size w.heap.size 63 51 2 List.length cellsKs (fun pre v => (v = .slice none 0 0 ↔ pre = []))) _) (ownFrom_below (Nat.le_refl _) (by omega)))
    ⟨⟨_, bx, ⟨rfl, .inl ⟨rfl, rfl⟩⟩, by simp⟩, hB0⟩
    (fun pre x a' W => ∃ Bx, (∃ v, Boxed W w.heap.size 63 v ∧ v.ownBlock ≠ some Bx) ∧ w.heap.size < Bx ∧ Lies W Bx 51 #[.int .i64 x.1, .int .i64 x.2] ∧
      a' = { tmps := #[.slice none 0 0, .func (.func g) #[] lb, .pointer (some ⟨w.heap.size, 0, none⟩), undef, .slice none 0 0, .pointer (some ⟨Bx, 0, none⟩), .func (.func g) #[] lb, .agg #[.int .i64 x.1, .int .i64 x.2], undef, undef, undef, undef, undef], defers := [] })
    ?ax ?assign ?body ?done
  case ax =>
    rintro pre x a' _ A B row ⟨Bx, ⟨v, hv, hne⟩, h1, h2, h3⟩ hg hrow
    have hrow' : ∀ r, row = some r → ∃ o : Obj, A.heap[r]? = some o ∧ o.isCells = false := fun r e => (hrow r e).2
    exact ⟨Bx, ⟨v, (grownBy_keeps_cells hg hrow' hv rfl).trans hv, hne⟩, h1, (grownBy_keeps_cells hg hrow' h2 rfl).trans h2, h3⟩
  case assign =>
    rintro l pre x W K ⟨⟨v, hv, hr, hn⟩, hB⟩ hlen hK
    gi_wp2
    exact hK _ _ (KeepsOthers.alloc _ _) ⟨⟨v, hv.alloc _, hr.alloc _, hn⟩, hB.alloc hB.size _⟩ ⟨W.heap.size, ⟨v, hv.alloc _, fun e => absurd (hr.lt _ e).2 (Nat.lt_irrefl _)⟩, hv.lt, Lies.new _ _ _, rfl⟩
  case body =>
    rintro l pre x a' W ⟨⟨v, hv, hr, hn⟩, hB⟩ ⟨Bx, ⟨v2, hv2, hne⟩, hBx, hX, rfl⟩ hlen
    obtain rfl : v = v2 := by
      have h := hv.symm.trans hv2
      simpa using h
    have c0 := hv.cell
    have f0 := hv.frozen
    have x0 := hX.cell (j := 0) rfl
    have x1 := hX.cell (j := 1) rfl
    have hbs := hB.size
    gi_wp2_with (gi_at_builtin; refine wpListIn_append_own _ rfl _ _ 63 rfl w.heap.size 51 i0 (.agg #[.int .i64 0, .int .i64 0]) 2 16 Try.underlying63 hi hz0 hz1 hz2 rfl (by decide) _ _ _ rfl (hr.alloc _) ⟨W.heap.size, 0, none⟩ 1 1 (kL x) rfl rfl (new2_of W _ _ _) (by simp [Value.oneCell']) (by unfold maxLen; omega) (by omega) (by simp; omega) ?_; intro v' w3 hown' hg3 hnil3; obtain ⟨k1, k2, k3, k4, k5⟩ := Boxed.appended hv hte hr hbs (Nat.le_refl _) hown' hg3; have c3 := k1.cell; have f3 := k1.frozen; obtain ⟨g', cap', rfl⟩ := ownsRow_succ hown'; go_frame)
    refine ⟨k4, ⟨⟨_, k2, ?_, by simp⟩, hB.trans k5⟩⟩
    rw [cellsKs_snoc, List.length_append]
    exact k3
  case done =>
    rintro D xs W hD hS ⟨⟨v, hv, hr, hn⟩, hB⟩ hDq
    have c0 := hv.cell
    gi_wp2
    refine ⟨by simp, .inl ⟨_, _, rfl, run_takeDeferred hDq, ?_⟩⟩
    exact ⟨v, by simp [results, Try.results58, go_sem], v, xs, rfl, hS, ownsRow_putObj hr _ hDq rfl, hn, hB.trans (belowK_b (w := w) (Nat.le_refl _) W D _ _ (by omega) hDq rfl rfl)⟩

set_option maxHeartbeats 1000000 in
theorem colC (g : Nat) (lb : Array Value) (eg : ∀ args w, (callFunc g args).run Try.prog w = .ok (.enter g args) w) (S : List (Int × Int) → Prop) (N : Nat) (hN : N ≤ 1048576) (w : World) (hseq : SeqGives Fence.wide 8 Try.prog g lb kA S N w) :
    Calls Try.prog 53 #[.func (.func g) #[] lb] w fun e w' => ∃ (v : Value) (ss : List (Int × Int)), e = .returned v ∧ S ss ∧ w'.ownsRow w.heap.size 51 2 v ss.length (cellsKs ss) ∧ (v = .slice none 0 0 ↔ ss = []) ∧ Below w.heap.size w w' := by
  have C := appC g lb eg S N hN w hseq
  clear hseq
  go_enter Try.func53, Try.ntmps53
  go_wp2_with fail
  refine C.mono ?_
  rintro e w' ⟨v, ss, rfl, hS, hrow, hnil, hb⟩
  go_wp2_with fail
  go_ret
  exact ⟨v, ss, rfl, hS, hrow, hnil, hb⟩
end Go.Proofs.Ytibepggakjfbcaa
