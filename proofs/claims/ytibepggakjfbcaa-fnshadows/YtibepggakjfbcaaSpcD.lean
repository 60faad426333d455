/- Shadow variables: the model's l11Free, l11GetOr. -/
import Derived.Test.YtibepggakjfbcaaSpcC
import Derived.Test.YtibepggakjfbcaaPubD
namespace Go.Proofs.Ytibepggakjfbcaa
open Go Go.RowKit Go.Maps
set_option linter.unusedVariables false

theorem cells_nil (T : Nat → ShwD) : cellsL (lstS 0 T) = [] := rfl
theorem lstS_split {n k : Nat} {S : Nat → ShwD} (hk : k < n) : lstS n S = lstS k S ++ S k :: lstS (n - (k + 1)) (fun i => S (k + 1 + i)) := by
  have h1 := (List.take_append_drop k (lstS n S)).symm
  rw [lstS_take n k S (by omega)] at h1
  have h2 : (lstS n S).drop k = S k :: (lstS n S).drop (k + 1) := by
    rw [List.drop_eq_getElem_cons (by rw [lstS_len]; exact hk)]
    congr 1
    simp [lstS]
  rw [h2, lstS_drop n (k + 1) S (by omega)] at h1
  exact h1
theorem freL_at {n k : Nat} {S : Nat → ShwD} (h : ShwOK n S) (hk : k < n) : freL (lstS n S) (keyD (S k)) = lstS k S ++ lstS (n - (k + 1)) (fun i => S (k + 1 + i)) := by
  rw [lstS_split hk]
  unfold freL
  rw [List.filter_append, List.filter_cons]
  have h1 : (decide (keyD (S k) ≠ keyD (S k))) = false := by simp
  rw [h1]
  simp only [Bool.false_eq_true, if_false]
  congr 1
  · refine List.filter_eq_self.2 fun e he => ?_
    obtain ⟨i, hi, rfl⟩ := lstS_mem.1 he
    have : keyD (S i) ≠ keyD (S k) := fun e2 => by have := uniq h (by omega) hk e2; omega
    simpa using this
  · refine List.filter_eq_self.2 fun e he => ?_
    obtain ⟨i, hi, rfl⟩ := lstS_mem.1 he
    have : keyD (S (k + 1 + i)) ≠ keyD (S k) := fun e2 => by have := uniq h (by omega) hk e2; omega
    simpa using this

theorem getV_at {n k : Nat} {S : Nat → ShwD} (h : ShwOK n S) (hk : k < n) : getV (lstS n S) (keyD (S k)) = (S k).va := by
  unfold getV
  cases hf : (lstS n S).find? fun d => decide (keyD d = keyD (S k)) with
  | none =>
    have := List.find?_eq_none.1 hf (S k) (lstS_mem.2 ⟨k, hk, rfl⟩)
    simp at this
  | some d =>
    have h1 := List.find?_some hf
    obtain ⟨j, hj, rfl⟩ := lstS_mem.1 (List.mem_of_find?_eq_some hf)
    have e : keyD (S j) = keyD (S k) := by simpa using h1
    rw [uniq h hj hk e]
    rfl
theorem getV_none {L : List ShwD} {x : Int × Int} (h : hasL L x = false) : getV L x = 0 := by
  unfold getV
  cases hf : L.find? fun d => decide (keyD d = x) with
  | none => rfl
  | some d =>
    have h1 := List.find?_some hf
    have : hasL L x = true := hasL_iff.2 ⟨d, List.mem_of_find?_eq_some hf, by simpa using h1⟩
    rw [h] at this
    cases this
theorem getV_ins {L : List ShwD} {d : ShwD} (h : hasL L (keyD d) = false) : getV (insL d L) (keyD d) = d.va := by
  unfold getV
  cases hf : (insL d L).find? fun e => decide (keyD e = keyD d) with
  | none =>
    have := List.find?_eq_none.1 hf d ((insL_perm d L).mem_iff.2 List.mem_cons_self)
    simp at this
  | some e =>
    have h1 : keyD e = keyD d := by simpa using List.find?_some hf
    rcases List.mem_cons.1 ((insL_perm d L).mem_iff.1 (List.mem_of_find?_eq_some hf)) with rfl | h2
    · rfl
    · have : hasL L (keyD d) = true := hasL_iff.2 ⟨e, h2, h1⟩
      rw [h] at this
      cases this

end Go.Proofs.Ytibepggakjfbcaa
