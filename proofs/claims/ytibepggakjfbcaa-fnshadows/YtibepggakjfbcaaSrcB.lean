/- The source of draws: what one byte drawn leaves. -/
import Derived.Test.YtibepggakjfbcaaRows
import Derived.WalkKit
import Derived.WalkSpells
import Derived.WalkLawsBesides
import Derived.Below
import Derived.Deep.RegionHeld3
namespace Go.Proofs.Ytibepggakjfbcaa
open Go.RowKit
set_option linter.unusedVariables false

/-- Fewer draws than more than any law makes. (A structure: nothing lays it open in a walk.) -/
structure Few (p : Int) : Prop where
  lt : p < 1000000000

/-- A source of draws at block b: its code, how many were drawn, its seed. -/
structure Src (w : World) (b : Nat) (a : Option Addr) (len cap : Nat) (p sd : Int) : Prop where
  c0 : w.cell? ⟨b, 0, none⟩ = some (.slice a len cap)
  c1 : w.cell? ⟨b, 1, none⟩ = some (.int .i64 p)
  c2 : w.cell? ⟨b, 2, none⟩ = some (.int .i64 sd)
  f1 : w.frozen? ⟨b, 1, none⟩ = false
  f2 : w.frozen? ⟨b, 2, none⟩ = false
  p0 : 0 ≤ p
  p1 : p ≤ 1000000000
  s0 : 0 ≤ sd
  s1 : sd < 2147483648

/-- The first len cells of a slice of bytes that came in ahead of block B. -/
def Bytes (w : World) (B : Nat) (a : Option Addr) (len : Nat) : Prop :=
  len ≤ maxLen ∧ ∀ i, i < len → ∃ (bx off : Nat) (c : Int), a = some ⟨bx, off, none⟩ ∧ bx < B ∧ 0 ≤ c ∧ c < 256 ∧ w.cell? ⟨bx, off + i, none⟩ = some (.int .u8 c)

theorem Bytes.below {w w' : World} {B : Nat} {a : Option Addr} {len : Nat} (h : Bytes w B a len) (hb : Below B w w') : Bytes w' B a len :=
  ⟨h.1, fun i hi => by
    obtain ⟨bx, off, c, h1, h2, h3, h4, h5⟩ := h.2 i hi
    exact ⟨bx, off, c, h1, h2, h3, h4, (hb.cell (p := ⟨bx, off + i, none⟩) h2).trans h5⟩⟩

theorem grownBy_setCell {w : World} {b o : Nat} {u : Value} : w.grownBy (w.setCell ⟨b, o, none⟩ u) (some b) := by
  have h := (Below.refl 0 w).setCell (p := ⟨b, o, none⟩) (Nat.zero_le _) u
  exact ⟨h.os, h.tape, h.output, h.size, fun k _ hne => Below.heap_setCell w ⟨b, o, none⟩ u k (by intro e; exact hne (by rw [e]))⟩

theorem grownBy_drew {w w' : World} {r : Option Nat} (h : w.grownBy w' r) : w.grownBy w'.drew r := ⟨h.os, h.tape, h.output, h.size, h.block⟩

theorem grownBy_trans {w w1 w2 : World} {r : Option Nat} (h : w.grownBy w1 r) (k : w1.grownBy w2 r) : w.grownBy w2 r :=
  ⟨k.os.trans h.os, k.tape.trans h.tape, k.output.trans h.output, Nat.le_trans h.size k.size, fun i hi hne => (k.block i (Nat.lt_of_lt_of_le hi h.size) hne).trans (h.block i hi hne)⟩

theorem Src.drew {w : World} {b : Nat} {a : Option Addr} {len cap : Nat} {p sd : Int} (h : Src w b a len cap p sd) : Src w.drew b a len cap p sd :=
  ⟨h.c0, h.c1, h.c2, h.f1, h.f2, h.p0, h.p1, h.s0, h.s1⟩

theorem Src.step1 {w : World} {b : Nat} {a : Option Addr} {len cap : Nat} {p sd : Int} (h : Src w b a len cap p sd) (hp : Few p) : Src (w.setCell ⟨b, 1, none⟩ (.int .i64 (p + 1))) b a len cap (p + 1) sd :=
  ⟨(World.cell?_setCell_other _ _ _ _ (by simp)).trans h.c0, World.cell?_setCell_same _ _ _ h.c1, (World.cell?_setCell_other _ _ _ _ (by simp)).trans h.c2,
    (World.frozen?_setCell _ _ _ _).trans h.f1, (World.frozen?_setCell _ _ _ _).trans h.f2, by have := h.p0; omega, by have := hp.lt; omega, h.s0, h.s1⟩

theorem Src.step2 {w : World} {b : Nat} {a : Option Addr} {len cap : Nat} {p sd sd' : Int} (h : Src w b a len cap p sd) (h0 : 0 ≤ sd') (h1 : sd' < 2147483648) : Src (w.setCell ⟨b, 2, none⟩ (.int .i64 sd')) b a len cap p sd' :=
  ⟨(World.cell?_setCell_other _ _ _ _ (by simp)).trans h.c0, (World.cell?_setCell_other _ _ _ _ (by simp)).trans h.c1, World.cell?_setCell_same _ _ _ h.c2,
    (World.frozen?_setCell _ _ _ _).trans h.f1, (World.frozen?_setCell _ _ _ _).trans h.f2, h.p0, h.p1, h0, h1⟩

set_option maxRecDepth 100000 in
set_option maxHeartbeats 1000000 in
theorem byte_read (b bx off len cap i : Nat) (sd c : Int) (w : World) (h : Src w b (some ⟨bx, off, none⟩) len cap i sd) (hi : i < len) (hl : len ≤ maxLen) (hp : Few i) (hbx : bx < b) (hc : w.cell? ⟨bx, off + i, none⟩ = some (.int .u8 c)) (hc0 : 0 ≤ c) (hc1 : c < 256) :
    Calls Try.prog 52 #[.pointer (some ⟨b, 0, none⟩)] w fun e w' => ∃ v sd' : Int, e = .returned (.int .i64 v) ∧ 0 ≤ v ∧ v < 256 ∧ Src w' b (some ⟨bx, off, none⟩) len cap (i + 1) sd' ∧ w.grownBy w' (some b) := by
  have h' : Hid (Src w b (some ⟨bx, off, none⟩) len cap i sd) := h
  obtain ⟨c0, c1, c2, f1, f2, p0, p1, s0, s1⟩ := h
  unfold maxLen at hl
  have hi' : (i : Int) < (len : Int) := by omega
  have hne : bx ≠ b := by omega
  go_enter Try.func52, Try.ntmps52
  go_wp2_with fail
  go_region
  go_wp2_with fail
  go_region
  go_wp2_with fail
  go_region
  go_wp2
  go_ret
  refine ⟨_, (sd * 31 + c + 7) % 2147483648, rfl, hc0, hc1, ?_, ?_⟩
  rotate_left
  · repeat (refine grownBy_drew ?_)
    exact grownBy_trans grownBy_setCell grownBy_setCell
  · repeat (refine Src.drew ?_)
    exact (h'.out.step1 hp).step2 (by omega) (by omega)

set_option maxRecDepth 100000 in
set_option maxHeartbeats 1000000 in
/-- A byte is drawn: it is a byte, and of what was there the source's own block alone has turned. -/
theorem byte_any (b len cap B : Nat) (a : Option Addr) (p sd : Int) (w : World) (h : Src w b a len cap p sd) (hp : Few p) (hB : Bytes w B a len) (hb : B ≤ b) :
    Calls Try.prog 52 #[.pointer (some ⟨b, 0, none⟩)] w fun e w' => ∃ v sd' : Int, e = .returned (.int .i64 v) ∧ 0 ≤ v ∧ v < 256 ∧ Src w' b a len cap (p + 1) sd' ∧ w.grownBy w' (some b) := by
  have h' := h
  obtain ⟨c0, c1, c2, f1, f2, p0, p1, s0, s1⟩ := h
  have hl := hB.1
  unfold maxLen at hl
  by_cases hi : p < len
  · obtain ⟨i, rfl⟩ := Int.eq_ofNat_of_zero_le p0
    obtain ⟨bx, off, c, rfl, hbx, hc0, hc1, hc⟩ := hB.2 i (by omega)
    exact byte_read b bx off len cap i sd c w h' (by omega) hB.1 hp (by omega) hc hc0 hc1
  · have hi' : (len : Int) ≤ p := by omega
    clear hB hi
    by_cases hq : 3000 < p + 1
    · go_enter Try.func52, Try.ntmps52
      go_wp2_with fail
      go_region
      go_wp2
      go_ret
      refine ⟨_, sd, rfl, by omega, by omega, ?_, ?_⟩
      · exact (h'.step1 hp).drew
      · exact grownBy_drew grownBy_setCell
    · go_enter Try.func52, Try.ntmps52
      go_wp2_with fail
      go_region
      go_wp2
      go_ret
      refine ⟨_, (sd * 1103515245 + 12345) % 2147483648, rfl, ?_, ?_, ?_, ?_⟩
      rotate_left 3
      · repeat (refine grownBy_drew ?_)
        exact grownBy_trans grownBy_setCell grownBy_setCell
      · omega
      · omega
      · repeat (refine Src.drew ?_)
        exact (h'.step1 hp).step2 (by omega) (by omega)

/-- The same, the byte as a byte. -/
theorem byte_draw (b len cap B : Nat) (a : Option Addr) (p sd : Int) (w : World) (h : Src w b a len cap p sd) (hp : Few p) (hB : Bytes w B a len) (hb : B ≤ b) :
    Calls Try.prog 52 #[.pointer (some ⟨b, 0, none⟩)] w fun e w' => ∃ (c : UInt8) (sd' : Int), e = .returned (.int .i64 (c.toNat : Int)) ∧ Src w' b a len cap (p + 1) sd' ∧ w.grownBy w' (some b) :=
  (byte_any b len cap B a p sd w h hp hB hb).mono fun e w' ⟨v, sd', he, h0, h1, hs, hg⟩ => by
    refine ⟨UInt8.ofNat v.toNat, sd', ?_, hs, hg⟩
    rw [he, UInt8.toNat_ofNat_of_lt' (by show v.toNat < 256; omega), Int.toNat_of_nonneg h0]
end Go.Proofs.Ytibepggakjfbcaa
