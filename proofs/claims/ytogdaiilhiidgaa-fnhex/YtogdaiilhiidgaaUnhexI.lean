/- The program's BytesOf: its contract. -/
import Derived.Test.YtogdaiilhiidgaaUnhexS
namespace Go.Proofs.Ytogdaiilhiidgaa
open Go.RowKit
set_option linter.unusedVariables false

/-- The code that BytesOf answers. -/
def resC (s : ByteArray) : Int := if (resB s).isSome then 0 else 3
theorem resC_none {s : ByteArray} (h : resB s = none) : resC s = 3 := by simp [resC, h]
theorem resC_some {s : ByteArray} {l : List UInt8} (h : resB s = some l) : resC s = 0 := by simp [resC, h]
theorem ret_code {a b : List UInt8} {x y : Int} (h : a = b) (k : x = y) : Ending.returned (.tuple #[.string ⟨a.toArray⟩, .int .i64 x]) = .returned (.tuple #[.string ⟨b.toArray⟩, .int .i64 y]) := by rw [h, k]

theorem set_step (s : ByteArray) (k m : Nat) (h : k < m) :
    (byteVals (decP s k ++ List.replicate (m - k) 0)).set k (.int .u8 ((byteAt s k).toNat : Int)) = byteVals (decP s (k + 1) ++ List.replicate (m - (k + 1)) 0) := by
  unfold byteVals
  rw [decP_succ, List.map_append, List.set_append_right _ _ (by rw [List.length_map, decP_len]; exact Nat.le_refl _), List.length_map, decP_len, Nat.sub_self]
  obtain ⟨r, hr⟩ : ∃ r, m - k = r + 1 := ⟨m - k - 1, by omega⟩
  rw [hr, show m - (k + 1) = r from by omega, List.replicate_succ]
  simp

theorem zero_at (s : ByteArray) (k m : Nat) (h : k < m) : (byteVals (decP s k ++ List.replicate (m - k) 0))[k]? = some (.int .u8 0) := by
  unfold byteVals
  rw [List.map_append, List.getElem?_append_right (by rw [List.length_map, decP_len]; exact Nat.le_refl _), List.length_map, decP_len, Nat.sub_self]
  obtain ⟨r, hr⟩ : ∃ r, m - k = r + 1 := ⟨m - k - 1, by omega⟩
  rw [hr, List.replicate_succ]
  rfl

theorem or_nibble (a b : Int) (h0 : 0 ≤ a) (h1 : a < 16) (h2 : 0 ≤ b) (h3 : b < 16) : bits .or .i64 (a * 16) b = 16 * a + b := by
  have h : ∀ x y : Fin 16, bits .or .i64 ((x.1 : Int) * 16) (y.1 : Int) = 16 * (x.1 : Int) + (y.1 : Int) := by decide +kernel
  obtain ⟨x, rfl⟩ := Int.eq_ofNat_of_zero_le h0
  obtain ⟨y, rfl⟩ := Int.eq_ofNat_of_zero_le h2
  exact h ⟨x, by omega⟩ ⟨y, by omega⟩

theorem zero_cells (n : Nat) : (madeCells (Value.cells (.int .u8 0)) (n * 1)).toList = byteVals (List.replicate n 0) := by
  rw [show Value.cells (.int .u8 0) = #[.int .u8 0] from rfl, Nat.mul_one, toList_madeCells_one]
  simp [byteVals]

set_option maxRecDepth 100000 in
set_option maxHeartbeats 1000000 in
theorem implBytes0 (s : ByteArray) (w : World) (hs : s.size ≤ 65536) :
    Calls Try.prog 14 #[.string s] w fun e w' => e = .returned (.tuple #[.string ⟨(resO s).toArray⟩, .int .i64 (resC s)]) ∧ Below w.heap.size w w' := by
  by_cases hodd : s.size % 2 ≠ 0
  · have hne : ((s.size : Int) % 2 != 0) = true := by rw [bne_iff_ne]; omega
    go_enter Try.func14, Try.ntmps14
    go_wp2
    go_ret2
    have h := resO_none (resB_odd s hodd)
    exact ⟨(ret_code h.1 (resC_none (resB_odd s hodd))).symm, Below.refl _ _⟩
  obtain ⟨i0, hi, hz0, hz1, hz2⟩ := info_parts Try.info_u8b
  obtain ⟨m, hm⟩ : ∃ m, m = s.size / 2 := ⟨_, rfl⟩
  have hev : s.size % 2 = 0 := by omega
  have he : ((s.size : Int) % 2 != 0) = false := by rw [bne_eq_false_iff_eq]; omega
  have hm1 : 2 * m ≤ s.size := by omega
  have hm2 : s.size ≤ 2 * m := by omega
  have hq : (s.size : Int) / 2 = (m : Int) := by omega
  have HM : Hid (m = s.size / 2) := hm
  have HE : Hid (s.size % 2 = 0) := hev
  clear hm hodd hev
  go_enter Try.func14, Try.ntmps14
  go_wp2_with (at_make; refine wpList_make_full _ rfl _ _ 22 rfl w.heap.size 5 i0 _ 1 Try.underlying22 hi hz0 hz1 .i64 .i64 _ _ m rfl rfl (by omega) (by omega) (by rw [hz2]; omega) (by unfold maxLen; omega) (Nat.le_refl _) ?_; intro wm hm hgm)
  go_loopw [21] (fun t wr => ∃ k : Nat, k ≤ m ∧ t = .int .i64 k ∧ wr.ownsRow w.heap.size 5 1 (.slice (some ⟨w.heap.size, 0, none⟩) m m) m (byteVals (decP s k ++ List.replicate (m - k) 0)) ∧ Below w.heap.size w wr ∧ Hid (∀ j, j < k → okAt s j = true)) (fun t _ => s.size - (intOf t).toNat)
  case atStart => exact ⟨0, Nat.zero_le _, rfl, (zero_cells m) ▸ hm, (Below.refl _ _).grown hgm (Nat.le_refl _) (fun _ h => by cases h), fun j h => absurd h (Nat.not_lt_zero _)⟩
  case round =>
    obtain ⟨k, hk, rfl, hown, hbel, hall⟩ := hrel
    by_cases hlt : k < m
    · have h1 : 2 * k < s.size := by omega
      have h2 : 2 * k + 1 < s.size := by omega
      have e1 := bt_eq s (2 * k) h1
      have e2 := bt_eq s (2 * k + 1) h2
      have hb1 := unD_bd s[2 * k]
      have hb2 := unD_bd s[2 * k + 1]
      by_cases hok : okAt s k = true
      · have hok' := hok
        simp only [okAt, Bool.and_eq_true, decide_eq_true_eq] at hok'
        rw [← e1, ← e2] at hok'
        have hv := byteAt_nat s k hok
        rw [← e1, ← e2] at hv
        have hv' : 16 * unD s[2 * k] + unD s[2 * k + 1] = ((byteAt s k).toNat : Int) := hv.symm
        have hw := wrap_u8_b (byteAt s k)
        have hw2 : ((byteAt s k).toNat : Int) % 256 = ((byteAt s k).toNat : Int) := hw
        have ho := or_nibble _ _ hok'.1 hb1.2 hok'.2 hb2.2
        rw [hv'] at ho
        obtain ⟨ho1, ho2⟩ := hok'
        have HK : Hid (okAt s k = true) := hok
        have hsz := hbel.size
        clear hok hv e1 e2
        go_wp2_with fail
        refine (index_any _ _).mono ?_
        rintro e wr ⟨rfl, rfl⟩
        go_wp2_with fail
        refine (index_any _ _).mono ?_
        rintro e wr ⟨rfl, rfl⟩
        have hc : wr.cell? ⟨w.heap.size, k, none⟩ = some (.int .u8 0) := by
          rw [hown.cellAt k (by omega)]
          exact zero_at s k m hlt
        have hf := hown.frozenAt k
        go_wp2
        go_roundw
        have hst := hown.stored k (.int .u8 ((byteAt s k).toNat : Int))
        case rel => exact ⟨k + 1, by omega, by go_num, set_step s k m hlt ▸ hst.1, hbel.grown hst.2 hsz (fun i e => by injection e; omega), fun j hj => by
          by_cases e : j = k
          · rw [e]; exact HK.out
          · exact hall.out j (by omega)⟩
        case measure => simp [intOf]; omega
      · have hok' : okAt s k = false := by simpa using hok
        have HN : Hid (resB s = none) := resB_at s k (by have := HM.out; omega) hok'
        have hor : unD s[2 * k] < 0 ∨ (0 ≤ unD s[2 * k] ∧ unD s[2 * k + 1] < 0) := by
          rw [e1, e2]
          simp only [okAt, Bool.and_eq_false_iff, decide_eq_false_iff_not] at hok'
          omega
        clear hok hok' e1 e2
        rcases hor with ho | ⟨ho1, ho2⟩
        all_goals
          go_wp2_with fail
          refine (index_any _ _).mono ?_
          rintro e wr ⟨rfl, rfl⟩
          go_wp2_with fail
          refine (index_any _ _).mono ?_
          rintro e wr ⟨rfl, rfl⟩
          go_wp2
          go_ret2
          have h := resO_none HN.out
          exact ⟨(ret_code h.1 (resC_none HN.out)).symm, hbel⟩
    · obtain rfl : k = m := by omega
      have hbuf : Buf wr w.heap.size 5 (.slice (some ⟨w.heap.size, 0, none⟩) k k) (decP s k) := by
        unfold Buf
        rw [decP_len]
        simpa using hown
      have hconv := Buf.string Try.underlying22 Try.underlying5 Try.underlying9 hbuf
      go_wp2
      go_ret2
      have hr := resB_yes s HE.out (fun i hi => hall.out i (by have := HM.out; omega))
      have h := resO_some hr
      rw [← HM.out] at h
      exact ⟨(ret_code h.1 (resC_some hr)).symm, hbel⟩
end Go.Proofs.Ytogdaiilhiidgaa
