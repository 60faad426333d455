/- Shadow variables: the model's own copy of a list. -/
import Derived.Test.YtibepggakjfbcaaPubC
import Derived.Test.YtibepggakjfbcaaOwnB
import Derived.Deep.AppendLies
import Derived.Deep.RegionHeld3
import Derived.Deep.RegionLaw
namespace Go.Proofs.Ytibepggakjfbcaa
open Go Go.RowKit Go.Maps
set_option linter.unusedVariables false

abbrev shL (d : ShwD) : List Value := [.int .i64 d.ob, .int .i64 d.ix, .int .i64 d.va]
def cellsL (L : List ShwD) : List Value := L.flatMap shL
theorem cellsL_append (A B : List ShwD) : cellsL (A ++ B) = cellsL A ++ cellsL B := by simp [cellsL]
theorem cellsL_cons (d : ShwD) (L : List ShwD) : cellsL (d :: L) = .int .i64 d.ob :: .int .i64 d.ix :: .int .i64 d.va :: cellsL L := by simp [cellsL]
theorem cellsL_len : ∀ L : List ShwD, (cellsL L).length = L.length * 3
  | [] => rfl
  | d :: r => by rw [cellsL_cons]; simp [cellsL_len r]; omega
theorem cellsL_one (L : List ShwD) : ∀ u ∈ cellsL L, u.oneCell' = true := by
  intro u hu
  obtain ⟨d, _, hd⟩ := List.mem_flatMap.1 hu
  simp [shL] at hd
  rcases hd with rfl | rfl | rfl <;> rfl
theorem shwV_shift (d : ShwD) (r : List ShwD) (j : Nat) : shwV (nthD (d :: r)) (j + 3) = shwV (nthD r) j := by
  unfold shwV
  have e1 : (j + 3) % 3 = j % 3 := by omega
  have e2 : (j + 3) / 3 = j / 3 + 1 := by omega
  rw [e1, e2]
  rfl
theorem cellsL_get : ∀ (L : List ShwD) (i : Nat), i < L.length * 3 → (cellsL L)[i]? = some (shwV (nthD L) i)
  | [], i, h => by simp at h
  | d :: r, 0, h => by rw [cellsL_cons]; rfl
  | d :: r, 1, h => by rw [cellsL_cons]; rfl
  | d :: r, 2, h => by rw [cellsL_cons]; rfl
  | d :: r, i + 3, h => by
    have ih := cellsL_get r i (by simp at h; omega)
    rw [cellsL_cons, shwV_shift]
    simpa using ih
theorem ownL_of_row {w : World} {B e : Nat} {v : Value} {L : List ShwD} (h : w.ownsRow B e 3 v L.length (cellsL L)) : ∃ p c, v = .slice p L.length c ∧ L.length ≤ c ∧ OwnR w B p L.length 3 (shwV (nthD L)) := by
  rcases h.2 with ⟨rfl, h0⟩ | ⟨g, cap, cur, rfl, h1, h2, h3, h4, h5, h6⟩
  · exact ⟨none, 0, by rw [h0], by omega, .inl h0⟩
  · refine ⟨_, cap, rfl, h3, .inr ⟨g, rfl, h1, (Array.getElem?_eq_some_iff.1 h2).1, fun i hi => ?_, fun i hi => frozen_of_row w g _ cur e h2⟩⟩
    rw [Nat.zero_add, cell_of_row w g i cur e (0, 0) h2]
    have h7 : (cur.toList.take (L.length * 3))[i]? = (cellsL L)[i]? := by rw [h6]
    rw [List.getElem?_take, if_pos hi, Array.getElem?_toList, cellsL_get L i hi] at h7
    exact h7
theorem lstS_drop (n k : Nat) (S : Nat → ShwD) (hk : k ≤ n) : (lstS n S).drop k = lstS (n - k) (fun i => S (k + i)) := by
  unfold lstS
  apply List.ext_getElem?
  intro i
  rw [List.getElem?_drop]
  simp
  by_cases h : k + i < n
  · rw [List.getElem?_range h, List.getElem?_range (by omega)]
    rfl
  · rw [List.getElem?_eq_none (by simp; omega), List.getElem?_eq_none (by simp; omega)]
    rfl
theorem lstS_take (n k : Nat) (S : Nat → ShwD) (hk : k ≤ n) : (lstS n S).take k = lstS k S := by
  unfold lstS
  rw [← List.map_take, List.take_range, Nat.min_eq_left hk]
theorem VRow.drop3 {w : World} {b o n k : Nat} {S : Nat → ShwD} (h : VRow w b o (n * 3) (shwV S)) (hk : k ≤ n) : VRow w b (o + k * 3) ((n - k) * 3) (shwV (fun i => S (k + i))) := by
  intro i hi
  have h1 := h (k * 3 + i) (by omega)
  rw [← Nat.add_assoc] at h1
  rw [h1]
  congr 1
  unfold shwV
  have e1 : (k * 3 + i) % 3 = i % 3 := by omega
  have e2 : (k * 3 + i) / 3 = k + i / 3 := by omega
  rw [e1, e2]
theorem newsV {w : World} {b o n : Nat} {S : Nat → ShwD} (h : VRow w b o (n * 3) (shwV S)) : ∀ (j : Nat) (u : Value), (cellsL (lstS n S))[j]? = some u → w.cell? ((⟨b, o, none⟩ : Addr).add j) = some u := by
  intro j u hu
  have hadd : (⟨b, o, none⟩ : Addr).add j = ⟨b, o + j, none⟩ := by unfold Addr.add; split <;> simp_all
  by_cases hj : j < n * 3
  · rw [cellsL_get _ _ (by rw [lstS_len]; exact hj)] at hu
    rw [hadd, h j hj, ← hu]
    congr 1
    unfold shwV
    rw [lstS_nth (by omega)]
  · rw [List.getElem?_eq_none (by rw [cellsL_len, lstS_len]; omega)] at hu
    cases hu
theorem ShwsAt.take {w : World} {p : Option Addr} {n k : Nat} {S : Nat → ShwD} (h : ShwsAt w p n S) (hk : k ≤ n) : ShwsAt w p k S := by
  rcases h with h | ⟨b, o, e, hl, hv⟩
  · exact .inl (by omega)
  · exact .inr ⟨b, o, e, hl, fun i hi => hv i (by omega)⟩

set_option maxRecDepth 100000 in
set_option maxHeartbeats 2000000 in
theorem ownS (p : Option Addr) (n c : Nat) (S : Nat → ShwD) (w : World) (hn : n ≤ 1048576) (hp : ShwsAt w p n S) :
    Calls Try.prog 46 #[.slice p n c] w fun e w' => ∃ g cap, e = .returned (.slice (some ⟨g, 0, none⟩) n cap) ∧ w'.ownsRow w.heap.size 34 3 (.slice (some ⟨g, 0, none⟩) n cap) n (cellsL (lstS n S)) ∧ Below w.heap.size w w' := by
  obtain ⟨i0, hi, hz0, hz1, hz2⟩ := info_parts Try.info_shw
  have b0 := grown1' w (.cells #[] 34)
  have own0 := World.ownsRow_made (base := w.heap.size) (size := 3) (e := 34) w #[] 0 (Nat.le_refl _) (Nat.zero_le _) rfl
  rcases hp with rfl | ⟨b, o, rfl, hbl, hv⟩
  · cases p with
    | none =>
      go_enter Try.func46, Try.ntmps46
      go_wp2_with fail
      go_ret
      exact ⟨w.heap.size, 0, rfl, own0, b0⟩
    | some a =>
      go_enter Try.func46, Try.ntmps46
      go_wp2_with fail
      go_ret
      exact ⟨w.heap.size, 0, rfl, own0, b0⟩
  · by_cases h0 : n = 0
    · subst h0
      go_enter Try.func46, Try.ntmps46
      go_wp2_with fail
      go_ret
      exact ⟨w.heap.size, 0, rfl, own0, b0⟩
    · have hnews := newsV (hv.below b0 hbl)
      have hll := cellsL_len (lstS n S)
      rw [lstS_len] at hll
      have h1 := cellsL_one (lstS n S)
      obtain ⟨xs, hxs⟩ : ∃ xs, cellsL (lstS n S) = xs := ⟨_, rfl⟩
      rw [hxs] at hnews hll h1 ⊢
      have hs0 : w.heap.size ≤ (w.alloc (.cells #[] 34)).heap.size := by simp
      clear hv
      go_enter Try.func46, Try.ntmps46
      go_wp2_with (at_builtin; refine wpList_append_lies _ rfl _ _ 23 rfl w.heap.size 34 i0 _ 3 24 Try.underlying23 hi hz0 hz1 hz2 rfl (by omega) _ _ _ rfl own0 ⟨b, o, none⟩ n c xs rfl hll hnews h1 (by omega) (by unfold maxLen; omega) (by omega) hs0 _ rfl ?_; intro g' c' w3 own3 gr3 hat3 hlt3)
      go_ret
      refine ⟨g', c', by simp, by simpa using own3, b0.grown gr3 (by simp) (fun r e => ?_)⟩
      exact (own0.lt r e).1
end Go.Proofs.Ytibepggakjfbcaa
