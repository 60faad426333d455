/- Lists of texts: the call's own, held against each other, marked. -/
import Derived.Test.YtelogjpjglohoaaRecB
import Derived.Test.YtelogjpjglohoaaMrkT
import Derived.Deep.RegionHeld3
import Derived.Deep.AppendLies
import Derived.Maps.AppendAt
namespace Go.Proofs.Ytelogjpjglohoaa
open Go Go.RowKit
set_option linter.unusedVariables false

theorem Try.info_strO : (Try.prog.info? 9).map (fun i => (i.zero, i.size, i.bytes)) = some (some (.string ⟨#[]⟩), 1, 16) := by kernel_rfl
def strV (S : Nat → ByteArray) (i : Nat) : Value := .string (S i)
abbrev StrsAt (w : World) (p : Option Addr) (n : Nat) (S : Nat → ByteArray) : Prop := RowsAt w p n 1 (strV S)
theorem VRow.str {w : World} {b o n : Nat} {S : Nat → ByteArray} (h : VRow w b o (n * 1) (strV S)) {k : Nat} (hk : k < n) : w.cell? ⟨b, o + k, none⟩ = some (.string (S k)) := h k (by omega)
theorem own_row_below {W W' : World} {B e size n : Nat} {v : Value} {xs : List Value} (h : W.ownsRow B e size v n xs) (hb : Below W.heap.size W W') : W'.ownsRow B e size v n xs := by
  refine ⟨h.1, ?_⟩
  rcases h.2 with hv | ⟨g, cap, cur, h1, h2, h3, h4⟩
  · exact .inl hv
  · exact .inr ⟨g, cap, cur, h1, h2, (hb.block g (Array.getElem?_eq_some_iff.1 h3).1).trans h3, h4⟩
/-- A list of texts. -/
def lst (L : List ByteArray) (i : Nat) : ByteArray := L.getD i ByteArray.empty
theorem ownT_of_row {w : World} {B e : Nat} {v : Value} {L : List ByteArray} (h : w.ownsRow B e 1 v L.length (L.map Value.string)) : ∃ p c, v = .slice p L.length c ∧ L.length ≤ c ∧ OwnR w B p L.length 1 (strV (lst L)) := by
  rcases h.2 with ⟨rfl, h0⟩ | ⟨g, cap, cur, rfl, h1, h2, h3, h4, h5, h6⟩
  · exact ⟨none, 0, by rw [h0], by omega, .inl h0⟩
  · refine ⟨_, cap, rfl, h3, .inr ⟨g, rfl, h1, (Array.getElem?_eq_some_iff.1 h2).1, fun i hi => ?_, fun i hi => frozen_of_row w g _ cur e h2⟩⟩
    rw [Nat.mul_one] at hi
    rw [Nat.zero_add, cell_of_row w g i cur e (0, 0) h2]
    have h7 : (cur.toList.take (L.length * 1))[i]? = (L.map Value.string)[i]? := by rw [h6]
    rw [List.getElem?_take, if_pos (by omega), Array.getElem?_toList] at h7
    rw [h7]
    simp [strV, lst, hi]

theorem eqStrs (p q : Option Addr) (n c d : Nat) (S : Nat → ByteArray) (w : World) (hn : n ≤ 2000000) (hp : StrsAt w p n S) (hq : StrsAt w q n S) :
    Calls Try.prog 48 #[.slice p n c, .slice q n d] w fun e w' => e = .returned (.bool true) ∧ Below w.heap.size w w' := by
  go_enter Try.func48, Try.ntmps48
  go_wp2
  go_loopw [5] (fun i wr => ∃ k : Nat, k ≤ n ∧ i = .int .i64 k ∧ Below w.heap.size w wr) (fun i _ => n - (intOf i).toNat)
  case atStart => exact ⟨0, Nat.zero_le _, rfl, Below.refl _ _⟩
  case round =>
    obtain ⟨k, hk, rfl, hB⟩ := hrel
    by_cases hlt : k < n
    · rcases hp with hp | ⟨b, o, rfl, hb, hp⟩
      · omega
      rcases hq with hq | ⟨b', o', rfl, hb', hq⟩
      · omega
      have x0 := (hp.below hB hb).str hlt
      have y0 := (hq.below hB hb').str hlt
      have HB : Hid (Below w.heap.size w wr ∧ Below w.heap.size w wr.drew) := ⟨hB, hB.drew⟩
      clear hp hq hB
      go_wp2
      go_region
      all_goals
        go_wp2
        go_roundw
        case rel => exact ⟨k + 1, by omega, by go_num, by first | exact HB.out.2 | exact HB.out.1⟩
        case measure => simp [intOf]; omega
    · go_wp2
      go_ret
      exact ⟨rfl, hB⟩

def mkT (s i : Nat) : ByteArray := mtS (s + i)
def mixT (s : Nat) (S : Nat → ByteArray) (k i : Nat) : ByteArray := if i < k then mkT s i else S i
theorem mixT_step (s k : Nat) (S : Nat → ByteArray) (i : Nat) : (if i = k then Value.string (mtS (s + k)) else strV (mixT s S k) i) = strV (mixT s S (k + 1)) i := by
  unfold strV mixT mkT
  by_cases e : i = k
  · rw [if_pos e, if_pos (by omega), e]
  · rw [if_neg e]
    by_cases h : i < k
    · rw [if_pos h, if_pos (by omega)]
    · rw [if_neg h, if_neg (by omega)]
end Go.Proofs.Ytelogjpjglohoaa
