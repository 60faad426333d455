/- Shadow variables: SameShadows of both. -/
import Derived.Test.YtibepggakjfbcaaShwE
namespace Go.Proofs.Ytibepggakjfbcaa
open Go Go.RowKit
set_option linter.unusedVariables false

def SameP (n m : Nat) (S T : Nat → ShwD) : Prop := ShwOK n S ∧ n = m ∧ ∀ i, i < n → S i = T i
theorem same_ex (n m : Nat) (S T : Nat → ShwD) : ∃ q : Bool, q = true ↔ SameP n m S T := by
  by_cases h : SameP n m S T
  · exact ⟨true, ⟨fun _ => h, fun _ => rfl⟩⟩
  · exact ⟨false, ⟨fun h' => Bool.noConfusion h', fun h' => absurd h' h⟩⟩
theorem eqP_ex (n m : Nat) (S T : Nat → ShwD) : ∃ q : Bool, q = true ↔ n = m ∧ ∀ i, i < n → S i = T i := by
  by_cases h : n = m ∧ ∀ i, i < n → S i = T i
  · exact ⟨true, ⟨fun _ => h, fun _ => rfl⟩⟩
  · exact ⟨false, ⟨fun h' => Bool.noConfusion h', fun h' => absurd h' h⟩⟩
theorem ShwOK.like {n : Nat} {S T : Nat → ShwD} (h : ShwOK n S) (e : ∀ i, i < n → S i = T i) : ShwOK n T := by
  refine ⟨h.1, fun k hk => ?_⟩
  have h1 := h.2 k hk
  rw [e k hk] at h1
  refine ⟨h1.1, fun h0 => ?_⟩
  have h2 := h1.2 h0
  rw [e (k - 1) (by omega)] at h2
  exact h2

set_option maxRecDepth 100000 in
set_option maxHeartbeats 4000000 in
theorem samI (p q : Option Addr) (n m c d : Nat) (S T : Nat → ShwD) (w : World) (hn : n ≤ 1048576) (hm : m ≤ 1048576) (hp : ShwsAt w p n S) (hq : ShwsAt w q m T) (b : Bool) (hb : b = true ↔ SameP n m S T) :
    Calls Try.prog 11 #[.slice p n c, .slice q m d] w fun e w' => e = .returned (.bool b) ∧ Below w.heap.size w w' := by
  obtain ⟨x, hx⟩ := shwOK_ex n S
  obtain ⟨y, hy⟩ := eqP_ex n m S T
  have OK : Hid (Calls Try.prog 15 #[.slice p n c] w fun e w' => e = .returned (.bool x) ∧ Below w.heap.size w w') := okImplS p n c S w hn hp x hx
  have EQ : Hid (∀ W, Below w.heap.size w W → Calls Try.prog 28 #[.slice p n c, .slice q m d] W fun e w' => e = .returned (.bool y) ∧ Below W.heap.size W w') := fun W h => eqlP p q n m c d S T W hn hm (hp.below h) (hq.below h) y hy
  have hbxy : b = (x && y) := by
    have h1 : b = true ↔ (x && y) = true := by rw [hb, Bool.and_eq_true, hx, hy]; rfl
    cases b <;> cases h2 : (x && y) <;> simp_all
  subst hbxy
  clear hp hq hb hx hy
  cases x with
  | false =>
    go_enter Try.func11, Try.ntmps11
    go_wp2_with fail
    refine OK.out.mono ?_
    rintro e w1 ⟨rfl, hb1⟩
    go_wp2_with fail
    go_ret
    exact ⟨rfl, hb1⟩
  | true =>
    go_enter Try.func11, Try.ntmps11
    go_wp2_with fail
    refine OK.out.mono ?_
    rintro e w1 ⟨rfl, hb1⟩
    go_wp2_with fail
    refine (EQ.out w1 hb1).mono ?_
    rintro e w2 ⟨rfl, hb2⟩
    go_wp2_with fail
    go_ret
    exact ⟨by first | rfl | simp, hb1.trans (hb2.mono hb1.size)⟩

end Go.Proofs.Ytibepggakjfbcaa
