/- Texts drawn out of a source: as long as asked. -/
import Derived.Test.YtjpdjalhhokghaaDoorSrcG
import Derived.Test.YtjpdjalhhokghaaDoorBuf
namespace Go.Proofs.YtjpdjalhhokghaaDoor
open Go.RowKit
set_option linter.unusedVariables false

theorem Tryd.info_u8s : (Tryd.prog.info? 5).map (fun i => (i.zero, i.size, i.bytes)) = some (some (.int .u8 0), 1, 1) := by kernel_rfl

theorem wrap_u8_byte (c : UInt8) : IntKind.u8.wrap (c.toNat : Int) = (c.toNat : Int) := by
  have := c.toNat_lt
  show (c.toNat : Int) % 256 = _
  omega

theorem Buf.keptBy {w w' : World} {B b E : Nat} {v : Value} {l : List UInt8} (h : Buf w B E v l) (hg : w.grownBy w' (some b)) (hb : b < B) : Buf w' B E v l :=
  World.ownsRow.kept h hg (by
    by_cases hv : v.ownBlock = none
    · exact .inl hv
    · right; intro e
      have := (World.ownsRow.lt h b e).1
      omega)

set_option maxRecDepth 100000 in
set_option maxHeartbeats 1000000 in
theorem some_nat (b len cap B n : Nat) (a : Option Addr) (sd : Int) (p : Nat) (w : World) (h : Src w b a len cap p sd) (hpn : p + n ≤ 1000000) (hB : Bytes w B a len) (hb : B ≤ b) (hbw : b < w.heap.size) :
    Calls Tryd.prog 44 #[.pointer (some ⟨b, 0, none⟩), .int .i64 n] w fun e w' => ∃ (l : List UInt8) (sd' : Int), l.length = n ∧ e = .returned (.string ⟨l.toArray⟩) ∧ Src w' b a len cap (p + n : Nat) sd' ∧ w.grownBy w' (some b) := by
  obtain ⟨i0, hi, hz0, hz1, hz2⟩ := info_parts Tryd.info_u8s
  go_enter Tryd.func44, Tryd.ntmps44
  go_wp2
  go_loopw [5, 6] (fun v t wr => ∃ (l : List UInt8) (sd' : Int), l.length ≤ n ∧ t = .int .i64 l.length ∧ Buf wr w.heap.size 5 v l ∧ Src wr b a len cap (p + l.length : Nat) sd' ∧ w.grownBy wr (some b)) (fun _ t _ => n - (intOf t).toNat)
  case atStart => exact ⟨[], sd, Nat.zero_le _, rfl, World.ownsRow_made w #[] 0 (Nat.le_refl _) (Nat.zero_le _) rfl, h.alloc hbw _, World.grownBy_alloc w _ _⟩
  case round =>
    obtain ⟨l, sd', hk, rfl, hbuf, hsrc, hg⟩ := hrel
    by_cases hlt : l.length < n
    · go_wp2_with fail
      refine (byte_draw b len cap B a _ sd' _ hsrc ⟨by omega⟩ (hB.grown hg hb (by omega)) hb).mono ?_
      rintro e w1 ⟨c, sd2, rfl, hsrc1, hg1⟩
      have hbuf1 := hbuf.keptBy hg1 hbw
      have hww := hg.size
      have hw1 := hg1.size
      have hcw := wrap_u8_byte c
      clear h hB hsrc hbuf
      go_wp2_with (at_builtin; refine wpList_append_lies _ rfl _ _ 22 rfl w.heap.size 5 i0 _ 1 1 Tryd.underlying22 hi hz0 hz1 hz2 rfl (by omega) _ _ _ rfl (hbuf1.alloc _) ⟨w1.heap.size, 0, none⟩ 1 1 (byteVals [c]) rfl rfl (World.news_of_block (cs := #[.int .u8 c.toNat]) (t := 5) (fr := (0, 0)) (heap_alloc_new w1 _)) (by simp [byteVals, Value.oneCell']) (by omega) (by unfold maxLen; omega) (by omega) (by simp; omega) (w1.heap.size + 1) (by simp) ?_; intro gg cap2 w2 hown1 hgrow hat hlt1)
      go_roundw
      case rel =>
        have hrow : ∀ i, Value.ownBlock _ = some i → w.heap.size ≤ i := fun i e => (World.ownsRow.lt hbuf1 i e).1
        have e : ((p + l.length : Nat) : Int) + 1 = ((p + (l ++ [c]).length : Nat) : Int) := by simp; omega
        refine ⟨l ++ [c], sd2, by simp; omega, by simp, Buf.put rfl hown1, ?_, ?_⟩
        · rw [← e]
          exact (hsrc1.alloc (by omega) _).grown hgrow (by simp; omega) (by intro e; have := hrow b e.symm; omega)
        · exact grownBy_own (grownBy_alloc1 (grownBy_trans hg hg1) _) hgrow hrow
      case measure => simp [intOf]; omega
    · have hconv := Buf.string Tryd.underlying22 Tryd.underlying5 Tryd.underlying9 hbuf
      go_wp2
      go_ret
      obtain rfl : n = l.length := by omega
      exact ⟨l, sd', rfl, rfl, hsrc, hg⟩
end Go.Proofs.YtjpdjalhhokghaaDoor
