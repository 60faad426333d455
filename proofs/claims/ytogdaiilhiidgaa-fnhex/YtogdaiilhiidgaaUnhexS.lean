/- The model's BytesOf: its contract. -/
import Derived.Test.YtogdaiilhiidgaaUnhexA
import Derived.Test.YtogdaiilhiidgaaBuf
namespace Go.Proofs.Ytogdaiilhiidgaa
open Go.RowKit
set_option linter.unusedVariables false
theorem Try.info_u8b : (Try.prog.info? 5).map (fun i => (i.zero, i.size, i.bytes)) = some (some (.int .u8 0), 1, 1) := by kernel_rfl

theorem wrap_u8_b (c : UInt8) : IntKind.u8.wrap (c.toNat : Int) = (c.toNat : Int) := by
  have := c.toNat_lt
  show (c.toNat : Int) % 256 = _
  omega

/-- The text and the bool that the model's own loop answers. -/
def resO (s : ByteArray) : List UInt8 := match resB s with | some l => l | none => []
def resK (s : ByteArray) : Bool := (resB s).isSome
theorem resO_none {s : ByteArray} (h : resB s = none) : resO s = [] ∧ resK s = false := by simp [resO, resK, h]
theorem resO_some {s : ByteArray} {l : List UInt8} (h : resB s = some l) : resO s = l ∧ resK s = true := by simp [resO, resK, h]

theorem ret_pair {a b : List UInt8} {x y : Bool} (h : a = b) (k : x = y) : Ending.returned (.tuple #[.string ⟨a.toArray⟩, .bool x]) = .returned (.tuple #[.string ⟨b.toArray⟩, .bool y]) := by rw [h, k]

set_option maxRecDepth 100000 in
set_option maxHeartbeats 1000000 in
theorem specBytes0 (s : ByteArray) (w : World) (hs : s.size ≤ 65536) :
    Calls Try.prog 27 #[.string s] w fun e w' => e = .returned (.tuple #[.string ⟨(resO s).toArray⟩, .bool (resK s)]) ∧ Below w.heap.size w w' := by
  by_cases hodd : s.size % 2 ≠ 0
  · have hne : ((s.size : Int) % 2 != 0) = true := by rw [bne_iff_ne]; omega
    go_enter Try.func27, Try.ntmps27
    go_wp2
    go_ret2
    have h := resO_none (resB_odd s hodd)
    exact ⟨(ret_pair h.1 h.2).symm, Below.refl _ _⟩
  obtain ⟨i0, hi, hz0, hz1, hz2⟩ := info_parts Try.info_u8b
  obtain ⟨m, hm⟩ : ∃ m, m = s.size / 2 := ⟨_, rfl⟩
  have hev : s.size % 2 = 0 := by omega
  have he : ((s.size : Int) % 2 != 0) = false := by rw [bne_eq_false_iff_eq]; omega
  have hm1 : 2 * m ≤ s.size := by omega
  have hm2 : s.size ≤ 2 * m := by omega
  have HM : Hid (m = s.size / 2) := hm
  have HE : Hid (s.size % 2 = 0) := hev
  clear hm hodd hev
  go_enter Try.func27, Try.ntmps27
  go_wp2
  go_loopw [4, 5] (fun v t wr => ∃ k : Nat, k ≤ m ∧ t = .int .i64 (2 * k : Nat) ∧ Buf wr w.heap.size 5 v (decP s k) ∧ Below w.heap.size w wr ∧ Hid (∀ j, j < k → okAt s j = true)) (fun _ t _ => s.size - (intOf t).toNat)
  case atStart => exact ⟨0, Nat.zero_le _, rfl, World.ownsRow_made w #[] 0 (Nat.le_refl _) (Nat.zero_le _) rfl, (Below.refl _ _).alloc (Nat.le_refl _) _, fun j h => absurd h (Nat.not_lt_zero _)⟩
  case round =>
    obtain ⟨k, hk, rfl, hbuf, hbel, hall⟩ := hrel
    by_cases hlt : k < m
    · have h1 : 2 * k < s.size := by omega
      have h2 : 2 * k + 1 < s.size := by omega
      have e1 := bt_eq s (2 * k) h1
      have e2 := bt_eq s (2 * k + 1) h2
      have hb1 := unD_bd s[2 * k]
      have hb2 := unD_bd s[2 * k + 1]
      by_cases hok : okAt s k = true
      · have hok' := hok
        simp only [okAt, Bool.and_eq_true, decide_eq_true_eq] at hok'
        rw [← e1, ← e2] at hok'
        have hv := byteAt_nat s k hok
        rw [← e1, ← e2] at hv
        have hv' : 16 * unD s[2 * k] + unD s[2 * k + 1] = ((byteAt s k).toNat : Int) := hv.symm
        have hw := wrap_u8_b (byteAt s k)
        obtain ⟨ho1, ho2⟩ := hok'
        have HK : Hid (okAt s k = true) := hok
        have hsz := hbel.size
        have hlen : (decP s k).length ≤ 65536 := by rw [decP_len]; omega
        clear hok hv e1 e2
        go_wp2_with fail
        refine (digit_any _ _).mono ?_
        rintro e wr ⟨rfl, rfl⟩
        go_wp2_with fail
        refine (digit_any _ _).mono ?_
        rintro e wr ⟨rfl, rfl⟩
        go_wp2_with (at_builtin; refine wpList_append_lies _ rfl _ _ 22 rfl w.heap.size 5 i0 _ 1 1 Try.underlying22 hi hz0 hz1 hz2 rfl (by omega) _ _ _ rfl (hbuf.alloc _) ⟨wr.heap.size, 0, none⟩ 1 1 (byteVals [byteAt s k]) rfl rfl (World.news_of_block (cs := #[.int .u8 (byteAt s k).toNat]) (t := 5) (fr := (0, 0)) (heap_alloc_new wr _)) (by simp [byteVals, Value.oneCell']) (by omega) (by unfold maxLen; omega) (by omega) (by simp; omega) (wr.heap.size + 1) (by simp) ?_; intro gg cap2 w2 hown1 hgrow hat hlt1)
        go_roundw
        case rel => exact ⟨k + 1, by omega, by go_num, by rw [decP_succ]; exact Buf.put rfl hown1, hbuf.below (hbel.alloc hsz _) hgrow (by simp; omega), fun j hj => by
          by_cases e : j = k
          · rw [e]; exact HK.out
          · exact hall.out j (by omega)⟩
        case measure => simp [intOf]; omega
      · have hok' : okAt s k = false := by simpa using hok
        have HN : Hid (resB s = none) := resB_at s k (by have := HM.out; omega) hok'
        have hor : unD s[2 * k] < 0 ∨ (0 ≤ unD s[2 * k] ∧ unD s[2 * k + 1] < 0) := by
          rw [e1, e2]
          simp only [okAt, Bool.and_eq_false_iff, decide_eq_false_iff_not] at hok'
          omega
        clear hok hok' e1 e2
        rcases hor with ho | ⟨ho1, ho2⟩
        all_goals
          go_wp2_with fail
          refine (digit_any _ _).mono ?_
          rintro e wr ⟨rfl, rfl⟩
          go_wp2_with fail
          refine (digit_any _ _).mono ?_
          rintro e wr ⟨rfl, rfl⟩
          go_wp2
          go_ret2
          have h := resO_none HN.out
          exact ⟨(ret_pair h.1 h.2).symm, hbel⟩
    · have hconv := Buf.string Try.underlying22 Try.underlying5 Try.underlying9 hbuf
      go_wp2
      go_ret2
      obtain rfl : k = m := by omega
      have h := resO_some (resB_yes s HE.out (fun i hi => hall.out i (by have := HM.out; omega)))
      rw [← HM.out] at h
      exact ⟨(ret_pair h.1 h.2).symm, hbel⟩
end Go.Proofs.Ytogdaiilhiidgaa
