/- Contracts of both HexOf: they come to the same digits. -/
import Derived.Test.YtogdaiilhiidgaaName
import Derived.Test.YtogdaiilhiidgaaHexP
import Derived.Test.YtogdaiilhiidgaaBuf
import Derived.Deep.RegionHeld3
namespace Go.Proofs.Ytogdaiilhiidgaa
open Go.RowKit
theorem Try.info_u8 : (Try.prog.info? 5).map (fun i => (i.zero, i.size, i.bytes)) = some (some (.int .u8 0), 1, 1) := by kernel_rfl
theorem ret_string {a b : List UInt8} (h : a = b) : Ending.returned (.string ⟨a.toArray⟩) = .returned (.string ⟨b.toArray⟩) := by rw [h]

set_option maxRecDepth 100000 in
set_option maxHeartbeats 1000000 in
theorem specHex0_any (s : ByteArray) (w : World) (hs : s.size ≤ 32768) :
    Calls Try.prog 23 #[.string s] w fun e w' => e = .returned (.string ⟨(hexL s.data.toList).toArray⟩) ∧ Below w.heap.size w w' := by
  obtain ⟨i0, hi, hz0, hz1, hz2⟩ := info_parts Try.info_u8
  go_enter Try.func23, Try.ntmps23
  go_wp2
  go_loopw [3, 4] (fun v t wr => ∃ k : Nat, k ≤ s.size ∧ t = .int .i64 k ∧ Buf wr w.heap.size 5 v (hexL (s.data.toList.take k)) ∧ Below w.heap.size w wr) (fun _ t _ => s.size - (intOf t).toNat)
  case atStart => exact ⟨0, Nat.zero_le _, rfl, World.ownsRow_made w #[] 0 (Nat.le_refl _) (Nat.zero_le _) rfl, (Below.refl _ _).alloc (Nat.le_refl _) _⟩
  case round =>
    obtain ⟨k, hk, rfl, hbuf, hbel⟩ := hrel
    by_cases hlt : k < s.size
    · obtain ⟨q, hq⟩ : ∃ q, q = s[k].toNat / 16 := ⟨_, rfl⟩
      obtain ⟨r, hr⟩ : ∃ r, r = s[k].toNat % 16 := ⟨_, rfl⟩
      have hc : s[k].toNat < 256 := s[k].toNat_lt
      have hq1 : (q : Int) < 16 := by omega
      have hq0 : (0 : Int) ≤ (q : Int) := by omega
      have hr1 : (r : Int) < 16 := by omega
      have hr0 : (0 : Int) ≤ (r : Int) := by omega
      have eq : IntKind.u8.wrap ((s[k].toNat : Int).tdiv 16) = (q : Int) := by rw [hq]; exact quo16 _ hc
      have er : (s[k].toNat : Int).tmod 16 = (r : Int) := by rw [hr]; exact rem16 _
      have eq' : (s[k].toNat : Int) / 16 = (q : Int) := by rw [hq]; omega
      have er' : (s[k].toNat : Int) % 16 = (r : Int) := by rw [hr]; omega
      have ew := wrap8 q (by omega)
      have dq := digit_at q (by omega)
      have dr := digit_at r (by omega)
      have HS : Hid (hexL (s.data.toList.take (k + 1)) = hexL (s.data.toList.take k) ++ [hexD q, hexD r]) := by
        show _ = _
        rw [take_snoc s k hlt, hexL_snoc, hq, hr]
      have hl : (hexL (s.data.toList.take k)).length ≤ 65534 := by
        rw [hexL_len, List.length_take, len_toList]; omega
      have hsz := hbel.size
      clear hq hr
      have hk0 : (0 : Int) ≤ (k : Int) := by omega
      have hk1 : (k : Int) < (s.size : Int) := by omega
      go_wp2_with fail
      go_region_held3 (fun _ => True) (trivial) ((refine step_append_lies _ (by rfl) _ _ _ (by rfl) w.heap.size 5 i0 _ 1 1 Try.underlying22 hi hz0 hz1 hz2 rfl (by omega) _ _ _ (by rfl) (hbuf.alloc _) ⟨wr.heap.size, 0, none⟩ 2 2 (byteVals [hexD q, hexD r]) (by rfl) (by rfl) (World.news_of_block (cs := #[.int .u8 (hexD q).toNat, .int .u8 (hexD r).toNat]) (t := 5) (fr := (0, 0)) (heap_alloc_new wr _)) (by simp [byteVals, Value.oneCell']) (by omega) (by unfold maxLen; omega) (by omega) (by simp; omega) (wr.heap.size + 1) (by simp) ?_; intro gg cap w1 hown1 hgrow hat hlt1))
      all_goals
        go_wp2
        go_roundw
        case rel => exact ⟨k + 1, by omega, by go_num, by rw [HS.out]; exact Buf.put rfl hown1, hbuf.below ((hbel.alloc hsz _).drew) hgrow (by simp; omega)⟩
        case measure => simp [intOf]; omega
    · have hconv := Buf.string Try.underlying22 Try.underlying5 Try.underlying9 hbuf
      go_wp2
      go_ret
      obtain rfl : k = s.size := by omega
      exact ⟨ret_string (by rw [take_all]), hbel⟩

set_option maxRecDepth 100000 in
set_option maxHeartbeats 1000000 in
theorem implHex0_any (s : ByteArray) (w : World) (hs : s.size ≤ 32768) :
    Calls Try.prog 13 #[.string s] w fun e w' => e = .returned (.string ⟨(hexL s.data.toList).toArray⟩) ∧ Below w.heap.size w w' := by
  obtain ⟨i0, hi, hz0, hz1, hz2⟩ := info_parts Try.info_u8
  go_enter Try.func13, Try.ntmps13
  go_wp2_with (at_make; refine wpList_make_own _ rfl _ _ 22 rfl w.heap.size 5 i0 _ 1 Try.underlying22 hi hz0 hz1 .i64 .i64 _ (2 * s.size) rfl rfl (by omega) (by rw [hz2]; omega) (by unfold maxLen; omega) (Nat.le_refl _) ?_; intro wm hm hgm)
  go_loopw [3, 14] (fun v t wr => ∃ k : Nat, k ≤ s.size ∧ t = .int .i64 k ∧ Buf wr w.heap.size 5 v (hexL (s.data.toList.take k)) ∧ Below w.heap.size w wr) (fun _ t _ => s.size - (intOf t).toNat)
  case atStart => exact ⟨0, Nat.zero_le _, rfl, hm, (Below.refl _ _).grown hgm (Nat.le_refl _) (fun _ h => by cases h)⟩
  case round =>
    obtain ⟨k, hk, rfl, hbuf, hbel⟩ := hrel
    by_cases hlt : k < s.size
    · obtain ⟨q, hq⟩ : ∃ q, q = s[k].toNat / 16 := ⟨_, rfl⟩
      obtain ⟨r, hr⟩ : ∃ r, r = s[k].toNat % 16 := ⟨_, rfl⟩
      have hc : s[k].toNat < 256 := s[k].toNat_lt
      have hq1 : (q : Int) < 16 := by omega
      have hq0 : (0 : Int) ≤ (q : Int) := by omega
      have hr1 : (r : Int) < 16 := by omega
      have hr0 : (0 : Int) ≤ (r : Int) := by omega
      have eq : IntKind.u8.wrap ((s[k].toNat : Int).tdiv 16) = (q : Int) := by rw [hq]; exact quo16 _ hc
      have er : (s[k].toNat : Int).tmod 16 = (r : Int) := by rw [hr]; exact rem16 _
      have eq' : (s[k].toNat : Int) / 16 = (q : Int) := by rw [hq]; omega
      have er' : (s[k].toNat : Int) % 16 = (r : Int) := by rw [hr]; omega
      have ew := wrap8 q (by omega)
      have ea : bits .and .u8 (s[k].toNat : Int) 15 = (r : Int) := by rw [hr]; exact and15 _ hc
      have dq := digit_at q (by omega)
      have dr := digit_at r (by omega)
      have HS : Hid (hexL (s.data.toList.take (k + 1)) = hexL (s.data.toList.take k) ++ [hexD q, hexD r]) := by
        show _ = _
        rw [take_snoc s k hlt, hexL_snoc, hq, hr]
      have hl : (hexL (s.data.toList.take k)).length ≤ 65534 := by
        rw [hexL_len, List.length_take, len_toList]; omega
      have hsz := hbel.size
      clear hq hr
      have hk0 : (0 : Int) ≤ (k : Int) := by omega
      have hk1 : (k : Int) < (s.size : Int) := by omega
      go_wp2_with fail
      go_region_held3 (fun _ => True) (trivial) ((refine step_append_lies _ (by rfl) _ _ _ (by rfl) w.heap.size 5 i0 _ 1 1 Try.underlying22 hi hz0 hz1 hz2 rfl (by omega) _ _ _ (by rfl) (hbuf.alloc _) ⟨wr.heap.size, 0, none⟩ 2 2 (byteVals [hexD q, hexD r]) (by rfl) (by rfl) (World.news_of_block (cs := #[.int .u8 (hexD q).toNat, .int .u8 (hexD r).toNat]) (t := 5) (fr := (0, 0)) (heap_alloc_new wr _)) (by simp [byteVals, Value.oneCell']) (by omega) (by unfold maxLen; omega) (by omega) (by simp; omega) (wr.heap.size + 1) (by simp) ?_; intro gg cap w1 hown1 hgrow hat hlt1))
      all_goals
        go_wp2
        go_roundw
        case rel => exact ⟨k + 1, by omega, by go_num, by rw [HS.out]; exact Buf.put rfl hown1, hbuf.below ((hbel.alloc hsz _).drew) hgrow (by simp; omega)⟩
        case measure => simp [intOf]; omega
    · have hconv := Buf.string Try.underlying22 Try.underlying5 Try.underlying9 hbuf
      go_wp2
      go_ret
      obtain rfl : k = s.size := by omega
      exact ⟨ret_string (by rw [take_all]), hbel⟩

end Go.Proofs.Ytogdaiilhiidgaa
