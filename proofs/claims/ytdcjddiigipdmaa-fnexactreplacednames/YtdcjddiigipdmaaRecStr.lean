/- Lists of texts: the call's own, held against each other, marked. -/
import Derived.Test.YtdcjddiigipdmaaRecB
import Derived.Test.YtdcjddiigipdmaaMrkT
import Derived.Deep.RegionHeld3
import Derived.Deep.AppendLies
import Derived.Maps.AppendAt
namespace Go.Proofs.Ytdcjddiigipdmaa
open Go Go.RowKit
set_option linter.unusedVariables false

theorem Try.info_strO : (Try.prog.info? 9).map (fun i => (i.zero, i.size, i.bytes)) = some (some (.string ⟨#[]⟩), 1, 16) := by kernel_rfl
def strV (S : Nat → ByteArray) (i : Nat) : Value := .string (S i)
abbrev StrsAt (w : World) (p : Option Addr) (n : Nat) (S : Nat → ByteArray) : Prop := RowsAt w p n 1 (strV S)
theorem VRow.str {w : World} {b o n : Nat} {S : Nat → ByteArray} (h : VRow w b o (n * 1) (strV S)) {k : Nat} (hk : k < n) : w.cell? ⟨b, o + k, none⟩ = some (.string (S k)) := h k (by omega)
theorem own_row_below {W W' : World} {B e size n : Nat} {v : Value} {xs : List Value} (h : W.ownsRow B e size v n xs) (hb : Below W.heap.size W W') : W'.ownsRow B e size v n xs := by
  refine ⟨h.1, ?_⟩
  rcases h.2 with hv | ⟨g, cap, cur, h1, h2, h3, h4⟩
  · exact .inl hv
  · exact .inr ⟨g, cap, cur, h1, h2, (hb.block g (Array.getElem?_eq_some_iff.1 h3).1).trans h3, h4⟩
/-- A list of texts. -/
def lst (L : List ByteArray) (i : Nat) : ByteArray := L.getD i ByteArray.empty
theorem ownT_of_row {w : World} {B e : Nat} {v : Value} {L : List ByteArray} (h : w.ownsRow B e 1 v L.length (L.map Value.string)) : ∃ p c, v = .slice p L.length c ∧ L.length ≤ c ∧ OwnR w B p L.length 1 (strV (lst L)) := by
  rcases h.2 with ⟨rfl, h0⟩ | ⟨g, cap, cur, rfl, h1, h2, h3, h4, h5, h6⟩
  · exact ⟨none, 0, by rw [h0], by omega, .inl h0⟩
  · refine ⟨_, cap, rfl, h3, .inr ⟨g, rfl, h1, (Array.getElem?_eq_some_iff.1 h2).1, fun i hi => ?_, fun i hi => frozen_of_row w g _ cur e h2⟩⟩
    rw [Nat.mul_one] at hi
    rw [Nat.zero_add, cell_of_row w g i cur e (0, 0) h2]
    have h7 : (cur.toList.take (L.length * 1))[i]? = (L.map Value.string)[i]? := by rw [h6]
    rw [List.getElem?_take, if_pos (by omega), Array.getElem?_toList] at h7
    rw [h7]
    simp [strV, lst, hi]

theorem eqStrs (p q : Option Addr) (n c d : Nat) (S : Nat → ByteArray) (w : World) (hn : n ≤ 2000000) (hp : StrsAt w p n S) (hq : StrsAt w q n S) :
    Calls Try.prog 23 #[.slice p n c, .slice q n d] w fun e w' => e = .returned (.bool true) ∧ Below w.heap.size w w' := by
  go_enter Try.func23, Try.ntmps23
  go_wp2
  go_loopw [5] (fun i wr => ∃ k : Nat, k ≤ n ∧ i = .int .i64 k ∧ Below w.heap.size w wr) (fun i _ => n - (intOf i).toNat)
  case atStart => exact ⟨0, Nat.zero_le _, rfl, Below.refl _ _⟩
  case round =>
    obtain ⟨k, hk, rfl, hB⟩ := hrel
    by_cases hlt : k < n
    · rcases hp with hp | ⟨b, o, rfl, hb, hp⟩
      · omega
      rcases hq with hq | ⟨b', o', rfl, hb', hq⟩
      · omega
      have x0 := (hp.below hB hb).str hlt
      have y0 := (hq.below hB hb').str hlt
      have HB : Hid (Below w.heap.size w wr ∧ Below w.heap.size w wr.drew) := ⟨hB, hB.drew⟩
      clear hp hq hB
      go_wp2
      go_region
      all_goals
        go_wp2
        go_roundw
        case rel => exact ⟨k + 1, by omega, by go_num, by first | exact HB.out.2 | exact HB.out.1⟩
        case measure => simp [intOf]; omega
    · go_wp2
      go_ret
      exact ⟨rfl, hB⟩

def mkT (s i : Nat) : ByteArray := mtS (s + i)
def mixT (s : Nat) (S : Nat → ByteArray) (k i : Nat) : ByteArray := if i < k then mkT s i else S i
theorem mixT_step (s k : Nat) (S : Nat → ByteArray) (i : Nat) : (if i = k then Value.string (mtS (s + k)) else strV (mixT s S k) i) = strV (mixT s S (k + 1)) i := by
  unfold strV mixT mkT
  by_cases e : i = k
  · rw [if_pos e, if_pos (by omega), e]
  · rw [if_neg e]
    by_cases h : i < k
    · rw [if_pos h, if_pos (by omega)]
    · rw [if_neg h, if_neg (by omega)]
set_option maxRecDepth 100000 in
set_option maxHeartbeats 4000000 in
theorem markStrs (B : Nat) (p : Option Addr) (n c s : Nat) (S : Nat → ByteArray) (w : World) (hn : n ≤ 2000000) (hs : s ≤ 40000000) (hs0 : 0 < s) (ho : OwnR w B p n 1 (strV S)) :
    Calls Try.prog 25 #[.slice p n c, .int .i64 s] w fun e w' => e = .returned (.int .i64 ((s + n : Nat) : Int)) ∧ ButO (qn p n) w w' ∧ OwnR w' B p n 1 (strV (mkT s)) := by
  go_enter Try.func25, Try.ntmps25
  go_wp2
  go_loopw [1, 5] (fun m i wr => ∃ k : Nat, k ≤ n ∧ i = .int .i64 k ∧ m = .int .i64 ((s + k : Nat) : Int) ∧ ButO (qn p n) w wr ∧ OwnR wr B p n 1 (strV (mixT s S k))) (fun _ i _ => n - (intOf i).toNat)
  case atStart => exact ⟨0, Nat.zero_le _, rfl, by simp, ButO.refl _ _, ho⟩
  case round =>
    obtain ⟨k, hk, rfl, rfl, hB, hf⟩ := hrel
    by_cases hlt : k < n
    · rcases hf with h0 | ⟨g, rfl, hg, hgl, hf⟩
      · omega
      have hqn : qn (some ⟨g, 0, none⟩) n = some ⟨g, 0, none⟩ := if_neg (by omega)
      rw [hqn] at hB
      have HQN : Hid (qn (some ⟨g, 0, none⟩) n = some ⟨g, 0, none⟩) := hqn
      clear hqn
      have hnx : s + (k + 1) = s + k + 1 := by omega
      have hstep := mixT_step s k S
      have hu1 : s + k ≤ 50000000 := by omega
      have hu0 : 0 < s + k := by omega
      obtain ⟨u, hu⟩ : ∃ u, s + k = u := ⟨_, rfl⟩
      rw [hu] at hnx hu1 hu0 hstep ⊢
      have HST : Hid (∀ i, _) := hstep
      have HNX : Hid (s + (k + 1) = u + 1) := hnx
      clear hstep hnx hu ho
      have HF : Hid (FRow wr g 0 (n * 1) _) := hf
      have HB : Hid (ButO (some ⟨g, 0, none⟩) w wr) := hB
      clear hf hB
      go_wp2_with fail
      refine (markTextC u _ hu0 (by omega)).mono ?_
      rintro e w1 ⟨rfl, hb1⟩
      have hB1 := HB.out.trans (ButO.of_below hb1)
      have hf1 := HF.out.below hb1 hgl
      have hg1 := Nat.lt_of_lt_of_le hgl hb1.size
      have x0 := hf1.1.str hlt
      have f0 := hf1.2 k (by omega)
      rw [Nat.zero_add] at x0 f0
      have HF1 : Hid (FRow _ g 0 (n * 1) _) := hf1.put k (by omega) (.string (mtS u))
      have HB1 : Hid (ButO (some ⟨g, 0, none⟩) w _) := hB1.set (j := k) (.string (mtS u))
      have HG1 : Hid (g < (w1.setCell ⟨g, k, none⟩ (.string (mtS u))).heap.size) := by show g < (w1.setCell ⟨g, k, none⟩ (.string (mtS u))).heap.size; simpa using hg1
      clear hf1 hB1 hg1 HF HB hb1
      go_wp2_with fail
      go_roundw
      case rel =>
        refine ⟨k + 1, by omega, by go_num, ?_, by rw [HQN.out]; exact HB1.out, .inr ⟨g, rfl, hg, HG1.out, HF1.out.congr (fun i _ => HST.out i)⟩⟩
        rw [HNX.out]
        first | rfl | (congr 1; omega) | go_num
      case measure => simp [intOf]; omega
    · obtain rfl : k = n := by omega
      go_wp2
      go_ret
      refine ⟨rfl, hB, ?_⟩
      rcases hf with h0 | ⟨g, h1, h2, h3, hf⟩
      · exact .inl h0
      · refine .inr ⟨g, h1, h2, h3, hf.congr (fun i hi => ?_)⟩
        unfold strV mixT
        rw [if_pos (by omega)]
set_option maxRecDepth 100000 in
set_option maxHeartbeats 4000000 in
theorem heldStrs (p : Option Addr) (n c s : Nat) (w : World) (hn : n ≤ 2000000) (hs : s ≤ 40000000) (hs0 : 0 < s) (ho : StrsAt w p n (mkT s)) :
    Calls Try.prog 26 #[.slice p n c, .int .i64 s] w fun e w' => e = .returned (.int .i64 ((s + n : Nat) : Int)) ∧ Below w.heap.size w w' := by
  go_enter Try.func26, Try.ntmps26
  go_wp2
  go_loopw [1, 5] (fun m i wr => ∃ k : Nat, k ≤ n ∧ i = .int .i64 k ∧ m = .int .i64 ((s + k : Nat) : Int) ∧ Below w.heap.size w wr) (fun _ i _ => n - (intOf i).toNat)
  case atStart => exact ⟨0, Nat.zero_le _, rfl, by simp, Below.refl _ _⟩
  case round =>
    obtain ⟨k, hk, rfl, rfl, hB⟩ := hrel
    by_cases hlt : k < n
    · rcases ho with h0 | ⟨g, oo, rfl, hgl, hf⟩
      · omega
      have x0 := (hf.below hB hgl).str hlt
      have hglr := Nat.lt_of_lt_of_le hgl hB.size
      have hnx : s + (k + 1) = s + k + 1 := by omega
      have e0 : mkT s k = mtS (s + k) := rfl
      have hu1 : s + k ≤ 50000000 := by omega
      have hu0 : 0 < s + k := by omega
      obtain ⟨u, hu⟩ : ∃ u, s + k = u := ⟨_, rfl⟩
      rw [hu] at hnx hu1 hu0 e0 ⊢
      rw [e0] at x0
      have HNX : Hid (s + (k + 1) = u + 1) := hnx
      have HB : Hid (Below w.heap.size w wr) := hB
      clear e0 hnx hu hf hB
      go_wp2_with fail
      go_region_held3 (fun w' => w'.cell? ⟨g, oo + k, none⟩ = some (.string (mtS u))) (go_keep) ((go_at_call 63; refine (markTextC u _ hu0 (by omega)).mono ?_; rintro e w1 ⟨rfl, hb1⟩; have b1 : Below wr.heap.size wr w1 := (by first | exact (Below.refl wr.heap.size wr).drew.trans hb1 | exact hb1); have y0 := (b1.cell (p := ⟨g, oo + k, none⟩) hglr).trans x0))
      all_goals
        have B1 := HB.out.trans (b1.mono HB.out.size)
        clear hb1 b1 y0 x0
        go_wp2_with fail
        go_roundw
        case rel =>
          refine ⟨k + 1, by omega, by go_num, ?_, B1⟩
          rw [HNX.out]
          first | rfl | (congr 1; omega) | go_num
        case measure => simp [intOf]; omega
    · obtain rfl : k = n := by omega
      go_wp2
      go_ret
      exact ⟨rfl, hB⟩
end Go.Proofs.Ytdcjddiigipdmaa
