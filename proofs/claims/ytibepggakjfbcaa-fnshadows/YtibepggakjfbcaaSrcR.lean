/- From the shell's rows to bytes. -/
import Derived.Test.YtibepggakjfbcaaSrcG
import Derived.OpenShut
import Derived.Deep.RegionWith
namespace Go.Proofs.Ytibepggakjfbcaa
open Go.RowKit
set_option linter.unusedVariables false

theorem bytes_of_row {w : World} {a : Option Addr} {len cap : Nat} {zs : List Int}
    (h : (a = none ∧ len = 0 ∧ cap = 0 ∧ zs = []) ∨ ∃ x, a = some x ∧ len ≤ cap ∧ cap ≤ maxLen ∧ zs.length = cap ∧ (∀ i, i < zs.length → w.cell? (x.add i) = some (.int .u8 (zs.getD i 0))) ∧ ∀ n ∈ zs, (Lit.int .u8 n).wf = true) :
    Bytes w w.heap.size a len := by
  rcases h with ⟨_, rfl, _, _⟩ | ⟨x, rfl, hl, hm, hz, hcell, hwz⟩
  · exact ⟨Nat.zero_le _, fun i hi => absurd hi (Nat.not_lt_zero _)⟩
  · refine ⟨by omega, fun i hi => ?_⟩
    have hi' : i < zs.length := by omega
    have hc := hcell i hi'
    obtain ⟨b, off, spot⟩ := x
    have hspot : spot = none := by
      have h0 := hcell 0 (by omega)
      simpa [Addr.add] using World.cell?_spot h0
    subst hspot
    have hc' : w.cell? ⟨b, off + i, none⟩ = some (.int .u8 (zs.getD i 0)) := by
      rw [← hc]
      by_cases e : i = 0
      · subst e; simp [Addr.add]
      · simp [Addr.add, e]
    have hmem : zs.getD i 0 ∈ zs := by
      have : zs.getD i 0 = zs[i] := by simp [hi']
      rw [this]
      exact List.getElem_mem _
    have hb := bounds_u8 (hwz _ hmem)
    exact ⟨b, off, zs.getD i 0, rfl, World.block_lt_of_cell? w _ hc', hb.1, by have := hb.2; omega, hc'⟩
end Go.Proofs.Ytibepggakjfbcaa
