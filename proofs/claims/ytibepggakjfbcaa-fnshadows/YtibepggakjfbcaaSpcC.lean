/- Shadow variables: the model's l11Put, l11FreeId. -/
import Derived.Test.YtibepggakjfbcaaSpcB
namespace Go.Proofs.Ytibepggakjfbcaa
open Go Go.RowKit Go.Maps
set_option linter.unusedVariables false

theorem uniq {n : Nat} {S : Nat → ShwD} (h : ShwOK n S) {i j : Nat} (hi : i < n) (hj : j < n) (e : keyD (S i) = keyD (S j)) : i = j := by
  rcases Nat.lt_trichotomy i j with h1 | h1 | h1
  · have := h.lt h1 hj; rw [e] at this; exact absurd this (ltK_irrefl _)
  · exact h1
  · have := h.lt h1 hi; rw [e] at this; exact absurd this (ltK_irrefl _)
theorem setL_nth {n : Nat} {S : Nat → ShwD} (h : ShwOK n S) {k : Nat} (hk : k < n) (d : ShwD) (hd : keyD (S k) = keyD d) {i : Nat} (hi : i < n) : nthD (setL d (lstS n S)) i = if i = k then d else S i := by
  have h1 : nthD (setL d (lstS n S)) i = if keyD (S i) = keyD d then d else S i := by simp [nthD, setL, lstS, hi]
  rw [h1]
  by_cases e : i = k
  · subst e; rw [if_pos hd, if_pos rfl]
  · rw [if_neg e, if_neg (fun e2 => e (uniq h hi hk (e2.trans hd.symm)))]
theorem ansOf {w w' : World} {n g cap base : Nat} {L : List ShwD} {f : Int} (hl : L.length = n) (hc : n ≤ cap) (hg : base ≤ g) (hgl : g < w'.heap.size) (hF : FRow w' g 0 (n * 3) (shwV (nthD L))) (hb : w.heap.size ≤ base) (hB : Below w.heap.size w w') : LstAns w.heap.size L f w (.returned (.tuple #[.slice (some ⟨g, 0, none⟩) n cap, .int .i64 f])) w' := by
  subst hl
  exact ⟨_, cap, rfl, hc, .inr ⟨g, rfl, Nat.le_trans hb hg, hgl, hF⟩, hB⟩

theorem fidL_succ (k : Nat) (S : Nat → ShwD) (x : Int) : fidL (lstS (k + 1) S) x = if (S k).ix = x then fidL (lstS k S) x else fidL (lstS k S) x ++ [S k] := by
  rw [lstS_succ]
  unfold fidL
  rw [List.filter_append]
  by_cases e : (S k).ix = x
  · rw [if_pos e]; simp [e]
  · rw [if_neg e]; simp [e]
end Go.Proofs.Ytibepggakjfbcaa
