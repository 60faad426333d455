/- Keys that are structs of two numbers: as a map reads them. -/
import Derived.Test.YtibepggakjfbcaaShwK
import Derived.Test.YtibepggakjfbcaaMapP
import Derived.Maps.OwnIn
import Derived.DeepKeys4
namespace Go.Proofs.Ytibepggakjfbcaa
open Go Go.RowKit Go.Maps Go.WideMaps
set_option linter.unusedVariables false

def klK (x : Int × Int) : Lit := .string (keyBytes [.int .i64 x.1, .int .i64 x.2])
def wfK (x : Int × Int) : Prop := (Lit.int .i64 x.1).wf = true ∧ (Lit.int .i64 x.2).wf = true
theorem laidOutK : laidOutB Try.prog = true := by kernel_rfl
theorem cellsK2 : Try.prog.cellsOf 51 = 2 := by kernel_rfl
theorem cellsK1 : Try.prog.cellsOf 3 = 1 := by kernel_rfl
theorem keyTypeK : Try.prog.keyType 51 = true := by kernel_rfl
theorem sizeK : 1 ≤ Try.prog.types.size := of_decide_eq_true (by kernel_rfl)
theorem sizeK' : Try.prog.types.size - 1 + 2 = Try.prog.types.size + 1 := by have := sizeK; omega
theorem litsK (m : Nat) (a b : Int) (ha : (Lit.int .i64 a).wf = true) (hb : (Lit.int .i64 b).wf = true) : Try.prog.keyLits (m + 2) 51 [.int .i64 a, .int .i64 b] = some [.int .i64 a, .int .i64 b] := by
  simp [Program.keyLits, Try.underlying51, Try.underlying3, cellsK2, cellsK1, ha, hb]
theorem keyK (x : Int × Int) (h : wfK x) : keyOf Try.prog 51 (kA x) = some (klK x) := by
  obtain ⟨a, b⟩ := x
  have hf : (Value.agg #[.int .i64 a, .int .i64 b]).formed Try.prog 51 = true := by
    simp [Value.formed, Try.underlying51, cellsK2]
  have hl := litsK (Try.prog.types.size - 1) a b h.1 h.2
  rw [sizeK'] at hl
  show keyOf Try.prog 51 (.agg #[.int .i64 a, .int .i64 b]) = _
  unfold keyOf
  rw [Try.underlying51]
  simp only [keyTypeK, hf, Value.cells, hl, Bool.and_true, if_true, Option.map_some]
  rfl
theorem keyLawK : Keyed Try.prog 51 := Keyed.of_law (deep_law_laid laidOutK (m := 2) (by omega) (of_decide_eq_true (by kernel_rfl)) (by kernel_rfl) (by kernel_rfl))
theorem klK_key (x : Int × Int) : WideAt.IsKeyLit (klK x) := trivial
theorem klK_inj {x y : Int × Int} (hx : wfK x) (hy : wfK y) (e : klK x = klK y) : x = y := by
  have h1 := keyK x hx
  rw [e] at h1
  have := keyLawK.inj h1 (keyK y hy)
  obtain ⟨a, b⟩ := x
  obtain ⟨c, d⟩ := y
  simpa using this
theorem litsK_inv (m : Nat) (u v : Value) (ls : List Lit) (h : Try.prog.keyLits (m + 2) 51 [u, v] = some ls) : ∃ x : Int × Int, u = .int .i64 x.1 ∧ v = .int .i64 x.2 ∧ wfK x ∧ ls = [.int .i64 x.1, .int .i64 x.2] := by
  cases u <;> cases v <;> simp [Program.keyLits, Try.underlying51, Try.underlying3, cellsK2, cellsK1] at h
  rename_i k a q b
  by_cases h1 : k = .i64 ∧ (Lit.int .i64 a).wf = true
  · by_cases h2 : q = .i64 ∧ (Lit.int .i64 b).wf = true
    · obtain ⟨rfl, h1⟩ := h1
      obtain ⟨rfl, h2⟩ := h2
      simp [h1, h2] at h
      exact ⟨(a, b), rfl, rfl, ⟨h1, h2⟩, h.symm⟩
    · rw [if_pos h1, if_neg h2] at h
      simp at h
  · rw [if_neg h1] at h
    simp at h
theorem keyK_inv {key : Value} {kl : Lit} (h : keyOf Try.prog 51 key = some kl) : ∃ x : Int × Int, key = kA x ∧ kl = klK x ∧ wfK x := by
  unfold keyOf at h
  rw [Try.underlying51] at h
  simp only [keyTypeK, Bool.true_and] at h
  cases hf : key.formed Try.prog 51 with
  | false => rw [hf] at h; simp at h
  | true =>
    rw [hf] at h
    simp only [if_true] at h
    cases key <;> simp [Value.formed, Try.underlying51, cellsK2] at hf
    rename_i cs
    have hl : cs.toList.length = 2 := by simpa using hf
    obtain ⟨u, v, hcs⟩ : ∃ u v, cs.toList = [u, v] := by
      match cs.toList, hl with
      | [u, v], _ => exact ⟨u, v, rfl⟩
    simp only [Value.cells, hcs] at h
    rw [← sizeK'] at h
    cases hls : Try.prog.keyLits (Try.prog.types.size - 1 + 2) 51 [u, v] with
    | none => rw [hls] at h; simp at h
    | some ls =>
      rw [hls] at h
      obtain ⟨x, rfl, rfl, hw, rfl⟩ := litsK_inv _ u v ls hls
      refine ⟨x, ?_, ?_, hw⟩
      · show Value.agg cs = Value.agg #[.int .i64 x.1, .int .i64 x.2]
        congr 1
        exact Array.toList_inj.1 (by simpa using hcs)
      · simpa [klK] using h.symm
end Go.Proofs.Ytibepggakjfbcaa
