/- An instruction's word, by the model: form 9. Encode of the model: the contract. Byte slices that the call itself made, as lists of bytes: any program. Numbers into bytes: contracts. -/
import Derived.Test.YtodikjjajncimaaDoorGXWordsOf31
import Derived.Test.YtodikjjajncimaaDoorGXWordsOf32
import Derived.Test.YtodikjjajncimaaDoorGXWordsOf33
import Derived.Test.YtodikjjajncimaaDoorGXWordsOf34
import Derived.Test.YtodikjjajncimaaDoorGXWordsOf35
import Derived.WalkKit
import Derived.Deep.AppendLies
import Derived.Laws.IdiomStrings
import Derived.Test.YtodikjjajncimaaDoorGXWordsOf8
import Derived.Test.YtodikjjajncimaaDoorGXWordsOf0
namespace Go.Proofs.YtodikjjajncimaaDoor
open Go.RowKit
set_option linter.unusedVariables false

set_option maxRecDepth 100000 in
set_option maxHeartbeats 8000000 in
theorem ens9 (op  im c g h : Int) (hs : Hid (shT op = (9, c, g, h))) (k0 : 0 ≤ c) (k1 : c < 128) (g0 : 0 ≤ g) (g1 : g < 8) (h0 : 0 ≤ h) (h1 : h < 64)  (sg : g = 0) (w : World) :
    Calls Tryd.prog 43 #[.agg #[.int .i64 op, .int .i64 0, .int .i64 0, .int .i64 0, .int .i64 im]] w fun e w' => e = .returned (.int .i64 (encW 9 c g h 0 0 0 im)) ∧ Below w.heap.size w w' := by
  subst sg
  go_enter Tryd.func43, Tryd.ntmps43
  go_wp2_with fail
  refine (specShs op 9 c 0 h _ hs.out).mono ?_
  rintro e w1 ⟨rfl, hb1⟩
  obtain ⟨hc1, hf1⟩ := bcell hb1
  have hz1 : w.heap.size < w1.heap.size := by have := hb1.size; simp at this; omega
  have HB1 : Hid (Below w.heap.size w w1) := ((Below.refl _ _).alloc (Nat.le_refl _) _).trans (hb1.mono (by simp))
  clear hs hb1
  go_wp2_with fail
  refine (putN (c) h (c + h * 1048576) 20 12 20 12 1048576 4096 _ rfl rfl (by decide) (by decide) (by omega) (by omega) (by decide) (by omega) (by omega)).mono ?_
  rintro e w2 ⟨rfl, rfl⟩
  go_wp2
  go_ret
  refine ⟨congrArg (fun x => Ending.returned (.int .i64 x)) ?_, HB1.out.alloc (by omega) _⟩
  show c + h * 1048576 = fixW 9 c 0 h + 0 * 128 + 0 * 32768 + 0 * 1048576 + layF 9 im
  have l : layF 9 im = 0 := rfl
  have e : fixW 9 c 0 h = c + 0 * 4096 + h * 1048576 := rfl
  rw [l, e]
  omega
end Go.Proofs.YtodikjjajncimaaDoor

namespace Go.Proofs.YtodikjjajncimaaDoor
open Go.RowKit
set_option linter.unusedVariables false

theorem sh_more {f c g h : Int} (hs : shOK f c g h = true) : (f = 1 → g = 0 ∧ h = 0) ∧ (f = 2 → g = 0 ∧ h = 0) ∧ (f = 3 → h = 0) ∧ (f = 4 → h = 0) ∧ (f = 5 → h = 0) ∧ (f = 9 → g = 0) := by
  simp only [shOK, Bool.and_eq_true, Bool.or_eq_true, decide_eq_true_eq] at hs
  obtain ⟨⟨⟨⟨⟨⟨⟨⟨⟨⟨⟨⟨⟨f0, f1⟩, k0⟩, k1⟩, g0⟩, g1⟩, h0⟩, h1⟩, s1⟩, s2⟩, s3⟩, s4⟩, s5⟩, s9⟩ := hs
  exact ⟨by omega, by omega, by omega, by omega, by omega, by omega⟩

theorem specEncYes (op rd r1 r2 im f c g h : Int) (w : World) (hr : rightB op rd r1 r2 im = true) (hs : shT op = (f, c, g, h)) :
    Calls Tryd.prog 43 #[.agg #[.int .i64 op, .int .i64 rd, .int .i64 r1, .int .i64 r2, .int .i64 im]] w fun e w' => e = .returned (.int .i64 (encW f c g h rd r1 r2 im)) ∧ Below w.heap.size w w' := by
  have hop : 1 ≤ op ∧ op ≤ 64 := by
    unfold rightB at hr
    exact of_decide_eq_true (Bool.and_eq_true_iff.1 hr).1
  have hf : rightF f rd r1 r2 im = true := by
    unfold rightB at hr
    have := (Bool.and_eq_true_iff.1 hr).2
    rw [hs] at this
    exact this
  have hok : shOK f c g h = true := by
    have := shT_ok op hop.1 hop.2
    rw [hs] at this
    exact this
  have h6 : f = 6 → h % 2 = 0 := by
    have := sh6 op hop.1 hop.2
    rw [hs] at this
    exact this
  obtain ⟨f0, f1, k0, k1, g0, g1, h0, h1⟩ := sh_bounds hok
  obtain ⟨m1, m2, m3, m4, m5, m9⟩ := sh_more hok
  obtain ⟨⟨b1, b2, b3⟩, z1, z2, z3⟩ := right_parts f0 f1 hf
  obtain ⟨rd0, rd1⟩ := regB_bd b1
  obtain ⟨r10, r11⟩ := regB_bd b2
  obtain ⟨r20, r21⟩ := regB_bd b3
  rcases (show f = 1 ∨ f = 2 ∨ f = 3 ∨ f = 4 ∨ f = 5 ∨ f = 6 ∨ f = 7 ∨ f = 8 ∨ f = 9 by omega) with rfl | rfl | rfl | rfl | rfl | rfl | rfl | rfl | rfl
  · obtain rfl := z2 (by omega)
    obtain rfl := z3 (by omega)
    have hk : okB 1 im = true := by
      have : (regB rd && (0 : Int) == 0 && (0 : Int) == 0 && okB 1 im) = true := hf
      simpa using (Bool.and_eq_true_iff.1 this).2
    have ho : -2147483648 ≤ im ∧ im ≤ 2147479552 ∧ im % 4096 = 0 := (okB_iff 1 im (by decide) (by decide)).1 hk
    exact ens1 op rd im c g h hs k0 k1 g0 g1 h0 h1 rd0 rd1 ho.1 (by omega) ho.2.2 (m1 rfl).1 (m1 rfl).2 w
  · obtain rfl := z2 (by omega)
    obtain rfl := z3 (by omega)
    exact ens2 op rd im c g h hs k0 k1 g0 g1 h0 h1 rd0 rd1 (m2 rfl).1 (m2 rfl).2 w
  · obtain rfl := z3 (by omega)
    exact ens3 op rd r1 im c g h hs k0 k1 g0 g1 h0 h1 rd0 rd1 r10 r11 (m3 rfl) w
  · obtain rfl := z1 (by omega)
    exact ens4 op r1 r2 im c g h hs k0 k1 g0 g1 h0 h1 r10 r11 r20 r21 (m4 rfl) w
  · obtain rfl := z1 (by omega)
    exact ens5 op r1 r2 im c g h hs k0 k1 g0 g1 h0 h1 r10 r11 r20 r21 (m5 rfl) w
  · obtain rfl := z3 (by omega)
    exact ens6 op rd r1 im c g h hs k0 k1 g0 g1 h0 h1 rd0 rd1 r10 r11 (h6 rfl) w
  · obtain rfl := z3 (by omega)
    exact ens7 op rd r1 im c g h hs k0 k1 g0 g1 h0 h1 rd0 rd1 r10 r11 w
  · exact ens8 op rd r1 r2 im c g h hs k0 k1 g0 g1 h0 h1 rd0 rd1 r10 r11 r20 r21 w
  · obtain rfl := z1 (by omega)
    obtain rfl := z2 (by omega)
    obtain rfl := z3 (by omega)
    exact ens9 op im c g h hs k0 k1 g0 g1 h0 h1 (m9 rfl) w

/-- The word of an instruction, 0 of what is none; the code. -/
def encT (op rd r1 r2 im : Int) : Int := if rightB op rd r1 r2 im = true then encW (shT op).1 (shT op).2.1 (shT op).2.2.1 (shT op).2.2.2 rd r1 r2 im else 0
def encE (op rd r1 r2 im : Int) : Int := if rightB op rd r1 r2 im = true then 0 else 1

theorem implEnc (op rd r1 r2 im : Int) (w : World) (hl : Laid w) :
    Calls Tryd.prog 10 #[.agg #[.int .i64 op, .int .i64 rd, .int .i64 r1, .int .i64 r2, .int .i64 im]] w fun e w' => e = .returned (.tuple #[.int .i64 (encT op rd r1 r2 im), .int .i64 (encE op rd r1 r2 im)]) ∧ Below w.heap.size w w' := by
  unfold encT encE
  cases hr : rightB op rd r1 r2 im with
  | true =>
    rw [if_pos rfl, if_pos rfl]
    exact encYes op rd r1 r2 im _ _ _ _ w hl hr rfl
  | false =>
    rw [if_neg (by decide), if_neg (by decide)]
    exact encNo op rd r1 r2 im w hl hr

set_option maxHeartbeats 1000000 in
theorem specEnc (op rd r1 r2 im : Int) (w : World) :
    Calls Tryd.prog 11 #[.agg #[.int .i64 op, .int .i64 rd, .int .i64 r1, .int .i64 r2, .int .i64 im]] w fun e w' => e = .returned (.tuple #[.int .i64 (encT op rd r1 r2 im), .int .i64 (encE op rd r1 r2 im)]) ∧ Below w.heap.size w w' := by
  unfold encT encE
  cases hr : rightB op rd r1 r2 im with
  | true =>
    rw [if_pos rfl, if_pos rfl]
    have HE : Hid (∀ w, Calls Tryd.prog 43 #[.agg #[.int .i64 op, .int .i64 rd, .int .i64 r1, .int .i64 r2, .int .i64 im]] w fun e w' => e = .returned (.int .i64 (encW (shT op).1 (shT op).2.1 (shT op).2.2.1 (shT op).2.2.2 rd r1 r2 im)) ∧ Below w.heap.size w w') := fun w => specEncYes op rd r1 r2 im _ _ _ _ w hr rfl
    generalize encW (shT op).1 (shT op).2.1 (shT op).2.2.1 (shT op).2.2.2 rd r1 r2 im = E at *
    go_enter Tryd.func11, Tryd.ntmps11
    go_wp2_with fail
    refine (rightC op rd r1 r2 im _).mono ?_
    rintro e w1 ⟨rfl, hb1⟩
    obtain ⟨hc1, hf1⟩ := bcell hb1
    have hz1 : w.heap.size < w1.heap.size := by have := hb1.size; simp at this; omega
    have HB1 : Below w.heap.size w w1 := ((Below.refl _ _).alloc (Nat.le_refl _) _).trans (hb1.mono (by simp))
    clear hb1
    go_wp2_with fail
    refine (HE.out _).mono ?_
    rintro e w2 ⟨rfl, hb2⟩
    have HB2 : Hid (Below w.heap.size w w2) := HB1.trans (hb2.mono HB1.size)
    clear hb2 HE HB1 hc1 hf1
    go_wp2
    go_ret2
    exact ⟨rfl, HB2.out⟩
  | false =>
    rw [if_neg (by decide), if_neg (by decide)]
    go_enter Tryd.func11, Tryd.ntmps11
    go_wp2_with fail
    refine (rightC op rd r1 r2 im _).mono ?_
    rintro e w1 ⟨rfl, hb1⟩
    have HB1 : Hid (Below w.heap.size w w1) := ((Below.refl _ _).alloc (Nat.le_refl _) _).trans (hb1.mono (by simp))
    clear hb1
    go_wp2
    go_ret2
    exact ⟨rfl, HB1.out⟩
end Go.Proofs.YtodikjjajncimaaDoor

namespace Go.Proofs.YtodikjjajncimaaDoor
open Go.RowKit

def byteVals (l : List UInt8) : List Value := l.map fun c => .int .u8 (c.toNat : Int)
/-- v is a slice of the call's own, its elements are the bytes l. -/
def Buf (w : World) (B : Nat) (E : TypeId) (v : Value) (l : List UInt8) : Prop := w.ownsRow B E 1 v l.length (byteVals l)

theorem Buf.put {w : World} {B : Nat} {E : TypeId} {v : Value} {l m : List UInt8} {n : Nat} (hn : n = m.length) (h : w.ownsRow B E 1 v (l.length + n) (byteVals l ++ byteVals m)) : Buf w B E v (l ++ m) := by
  subst hn
  unfold Buf byteVals
  rw [List.length_append, List.map_append]
  exact h

theorem Buf.below {w wr wx w1 : World} {B : Nat} {E : TypeId} {v : Value} {l : List UInt8} (h : Buf wr B E v l) (hb : Below B w wx) (hg : wx.grownBy w1 v.ownBlock) (hB : B ≤ wx.heap.size) : Below B w w1 :=
  hb.grown hg hB (fun k hk => (h.lt k hk).1)

theorem Buf.string {P : Program} {w : World} {B : Nat} {E : TypeId} {v : Value} {l : List UInt8} {src dst : TypeId} (hs : P.underlying src = some (.slice E)) (he : P.underlying E = some (.int .u8)) (hd : P.underlying dst = some .string)
    (h : Buf w B E v l) : (convert src dst v).run P w = .ok (.string ⟨l.toArray⟩) w := by
  rcases h.2 with ⟨hv, hn⟩ | ⟨g, cap, cur, hv, _⟩
  · obtain rfl : l = [] := List.length_eq_zero_iff.1 hn
    rw [hv]
    show (convert src dst (.slice none 0 0)).run P w = .ok (.string ⟨#[]⟩) w
    rw [run_convert_bytes_string w src dst E none 0 0 hs he hd]
    simp [Conv.bytesToString]
    rfl
  · have h' := h
    unfold Buf at h'
    rw [hv] at h' ⊢
    refine run_convert_bytes_back w src dst E _ cap l hs he hd fun j hj => ?_
    have := h'.cells (g := g) rfl j _ (List.getElem?_eq_getElem (by simpa [byteVals] using hj))
    rw [this]
    simp [byteVals]
end Go.Proofs.YtodikjjajncimaaDoor

namespace Go.Proofs.YtodikjjajncimaaDoor
open Go.RowKit
set_option linter.unusedVariables false
theorem Tryd.info_u8 : (Tryd.prog.info? 5).map (fun i => (i.zero, i.size, i.bytes)) = some (some (.int .u8 0), 1, 1) := by kernel_rfl

theorem zero_cells (n : Nat) : (madeCells (Value.cells (.int .u8 0)) (n * 1)).toList = byteVals (List.replicate n 0) := by
  rw [show Value.cells (.int .u8 0) = #[.int .u8 0] from rfl, Nat.mul_one, toList_madeCells_one]
  simp [byteVals]
theorem zero_le (x k m : Nat) (h : k < m) : (byteVals (leL x k ++ List.replicate (m - k) 0))[k]? = some (.int .u8 0) := by
  unfold byteVals
  rw [List.map_append, List.getElem?_append_right (by rw [List.length_map, leL_len]; exact Nat.le_refl _), List.length_map, leL_len, Nat.sub_self]
  obtain ⟨r, hr⟩ : ∃ r, m - k = r + 1 := ⟨m - k - 1, by omega⟩
  rw [hr, List.replicate_succ]
  rfl
theorem set_le (x k m : Nat) (h : k < m) :
    (byteVals (leL x k ++ List.replicate (m - k) 0)).set k (.int .u8 ((leAt x k).toNat : Int)) = byteVals (leL x (k + 1) ++ List.replicate (m - (k + 1)) 0) := by
  unfold byteVals
  rw [leL_succ, List.map_append, List.set_append_right _ _ (by rw [List.length_map, leL_len]; exact Nat.le_refl _), List.length_map, leL_len, Nat.sub_self]
  obtain ⟨r, hr⟩ : ∃ r, m - k = r + 1 := ⟨m - k - 1, by omega⟩
  rw [hr, show m - (k + 1) = r from by omega, List.replicate_succ]
  simp

set_option maxRecDepth 100000 in
set_option maxHeartbeats 1000000 in
theorem specLittle0 (v : Int) (n : Nat) (w : World) (hn : n ≤ 8) :
    Calls Tryd.prog 95 #[.int .i64 v, .int .i64 n] w fun e w' => e = .returned (.string ⟨(leL (u64 v) n).toArray⟩) ∧ Below w.heap.size w w' := by
  obtain ⟨i0, hi, hz0, hz1, hz2⟩ := info_parts Tryd.info_u8
  have hwu := wrap_u64 v
  go_enter Tryd.func95, Tryd.ntmps95
  go_wp2
  go_loopw [5, 6] (fun x t wr => ∃ k : Nat, k ≤ n ∧ t = .int .i64 k ∧ Buf wr w.heap.size 5 x (leL (u64 v) k) ∧ Below w.heap.size w wr) (fun _ t _ => n - (intOf t).toNat)
  case atStart => exact ⟨0, Nat.zero_le _, rfl, World.ownsRow_made w #[] 0 (Nat.le_refl _) (Nat.zero_le _) rfl, (Below.refl _ _).alloc (Nat.le_refl _) _⟩
  case round =>
    obtain ⟨k, hk, rfl, hbuf, hbel⟩ := hrel
    by_cases hlt : k < n
    · have hv : ((u64 v : Int) / 2 ^ (8 * k)) % 256 = ((leAt (u64 v) k).toNat : Int) := (leAt_nat (u64 v) k).symm
      have hsz := hbel.size
      have hlen : (leL (u64 v) k).length ≤ 8 := by rw [leL_len]; omega
      go_wp2_with (at_builtin; refine wpList_append_lies _ rfl _ _ 22 rfl w.heap.size 5 i0 _ 1 1 Tryd.underlying22 hi hz0 hz1 hz2 rfl (by omega) _ _ _ rfl (hbuf.alloc _) ⟨wr.heap.size, 0, none⟩ 1 1 (byteVals [leAt (u64 v) k]) rfl rfl (World.news_of_block (cs := #[.int .u8 (leAt (u64 v) k).toNat]) (t := 5) (fr := (0, 0)) (heap_alloc_new wr _)) (by simp [byteVals, Value.oneCell']) (by omega) (by unfold maxLen; omega) (by omega) (by simp; omega) (wr.heap.size + 1) (by simp) ?_; intro gg cap2 w2 hown1 hgrow hat hlt1)
      go_roundw
      case rel => exact ⟨k + 1, by omega, by go_num, by rw [leL_succ]; exact Buf.put rfl hown1, hbuf.below (hbel.alloc hsz _) hgrow (by simp; omega)⟩
      case measure => simp [intOf]; omega
    · have hconv := Buf.string Tryd.underlying22 Tryd.underlying5 Tryd.underlying9 hbuf
      go_wp2
      go_ret
      obtain rfl : k = n := by omega
      exact ⟨rfl, hbel⟩

set_option maxRecDepth 100000 in
set_option maxHeartbeats 1000000 in
theorem spread_u32 (x n : Nat) (w : World) (hn : n ≤ 4) (hx : x < 4294967296) :
    Calls Tryd.prog 57 #[.int .u32 x, .int .i64 n] w fun e w' => e = .returned (.string ⟨(leL x n).toArray⟩) ∧ Below w.heap.size w w' := by
  obtain ⟨i0, hi, hz0, hz1, hz2⟩ := info_parts Tryd.info_u8
  go_enter Tryd.func57, Tryd.ntmps57
  go_wp2_with (at_make; refine wpList_make_full _ rfl _ _ 22 rfl w.heap.size 5 i0 _ 1 Tryd.underlying22 hi hz0 hz1 .i64 .i64 _ _ n rfl rfl (by omega) (by omega) (by rw [hz2]; omega) (by unfold maxLen; omega) (Nat.le_refl _) ?_; intro wm hm hgm)
  go_loopw [11] (fun t wr => ∃ k : Nat, k ≤ n ∧ t = .int .i64 k ∧ wr.ownsRow w.heap.size 5 1 (.slice (some ⟨w.heap.size, 0, none⟩) n n) n (byteVals (leL x k ++ List.replicate (n - k) 0)) ∧ Below w.heap.size w wr) (fun t _ => n - (intOf t).toNat)
  case atStart => exact ⟨0, Nat.zero_le _, rfl, (zero_cells n) ▸ hm, (Below.refl _ _).grown hgm (Nat.le_refl _) (fun _ h => by cases h)⟩
  case round =>
    obtain ⟨k, hk, rfl, hown, hbel⟩ := hrel
    by_cases hlt : k < n
    · have hc : wr.cell? ⟨w.heap.size, k, none⟩ = some (.int .u8 0) := by
        rw [hown.cellAt k (by omega)]
        exact zero_le x k n hlt
      have hf := hown.frozenAt k
      have hsz := hbel.size
      have hv : ((x : Int) / 2 ^ (8 * k)) % 256 = ((leAt x k).toNat : Int) := (leAt_nat x k).symm
      have hst := hown.stored k (.int .u8 ((leAt x k).toNat : Int))
      have HST := hst.1
      have hgr := hst.2
      clear hst
      go_wp2
      go_roundw
      case rel => exact ⟨k + 1, by omega, by go_num, set_le x k n hlt ▸ HST, hbel.grown hgr hsz (fun i e => by injection e; omega)⟩
      case measure => simp [intOf]; omega
    · obtain rfl : k = n := by omega
      have hbuf : Buf wr w.heap.size 5 (.slice (some ⟨w.heap.size, 0, none⟩) k k) (leL x k) := by
        unfold Buf
        rw [leL_len]
        simpa using hown
      have hconv := Buf.string Tryd.underlying22 Tryd.underlying5 Tryd.underlying9 hbuf
      go_wp2
      go_ret
      exact ⟨rfl, hbel⟩

end Go.Proofs.YtodikjjajncimaaDoor
