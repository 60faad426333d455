/- Bytes, choices and words drawn out of a source. -/
import Derived.Test.YtdabllnigaafmaaDoorSrcG
import Derived.Deep.RegionWith
namespace Go.Proofs.YtdabllnigaafmaaDoor
open Go.RowKit
set_option linter.unusedVariables false

/-- A source from which at most m draws were made. -/
structure Ctx (w : World) (B b : Nat) (a : Option Addr) (len cap m : Nat) : Prop where
  src : ∃ p sd : Int, p ≤ m ∧ Src w b a len cap p sd
  bytes : Bytes w B a len
  le : B ≤ b
  bw : b < w.heap.size

theorem Ctx.mono {w : World} {B b len cap m m' : Nat} {a : Option Addr} (h : Ctx w B b a len cap m) (hm : m ≤ m') : Ctx w B b a len cap m' := by
  obtain ⟨⟨p, sd, hp, hs⟩, h1, h2, h3⟩ := h
  exact ⟨⟨p, sd, by omega, hs⟩, h1, h2, h3⟩
theorem Ctx.alloc {w : World} {B b len cap m : Nat} {a : Option Addr} (h : Ctx w B b a len cap m) (o : Obj) : Ctx (w.alloc o) B b a len cap m := by
  obtain ⟨⟨p, sd, hp, hs⟩, h1, h2, h3⟩ := h
  exact ⟨⟨p, sd, hp, hs.alloc h3 o⟩, h1.below ((Below.refl _ _).alloc (by omega) o), h2, by simp; omega⟩
theorem Ctx.drew {w : World} {B b len cap m : Nat} {a : Option Addr} (h : Ctx w B b a len cap m) : Ctx w.drew B b a len cap m := by
  obtain ⟨⟨p, sd, hp, hs⟩, h1, h2, h3⟩ := h
  exact ⟨⟨p, sd, hp, hs.drew⟩, h1.below (Below.refl _ _).drew, h2, h3⟩

theorem byte_ctx (B b len cap m : Nat) (a : Option Addr) (w : World) (h : Ctx w B b a len cap m) (hm : m ≤ 100000) :
    Calls Tryd.prog 29 #[.pointer (some ⟨b, 0, none⟩)] w fun e w' => ∃ v : Nat, v < 256 ∧ e = .returned (.int .i64 v) ∧ Ctx w' B b a len cap (m + 1) ∧ w.grownBy w' (some b) := by
  obtain ⟨⟨p, sd, hp, hs⟩, h1, h2, h3⟩ := h
  refine (byte_any b len cap B a p sd w hs ⟨by omega⟩ h1 h2).mono ?_
  rintro e w' ⟨v, sd', he, hv0, hv1, hs', hg⟩
  obtain ⟨v, rfl⟩ := Int.eq_ofNat_of_zero_le hv0
  exact ⟨v, by omega, he, ⟨⟨p + 1, sd', by omega, hs'⟩, h1.grown hg h2 (by omega), h2, Nat.lt_of_lt_of_le h3 hg.size⟩, hg⟩

theorem word_ctx (B b len cap m : Nat) (a : Option Addr) (w : World) (h : Ctx w B b a len cap m) (hm : m ≤ 99000) :
    Calls Tryd.prog 16 #[.pointer (some ⟨b, 0, none⟩)] w fun e w' => ∃ v : Nat, v < 4294967296 ∧ e = .returned (.int .i64 v) ∧ Ctx w' B b a len cap (m + 4) ∧ w.grownBy w' (some b) := by
  go_enter Tryd.func16, Tryd.ntmps16
  go_wp2_with fail
  refine (byte_ctx B b len cap m a w h (by omega)).mono ?_
  rintro e w1 ⟨x, hx, rfl, hc1, hg1⟩
  go_wp2_with fail
  refine (byte_ctx B b len cap _ a _ hc1 (by omega)).mono ?_
  rintro e w2 ⟨y, hy, rfl, hc2, hg2⟩
  go_wp2_with fail
  refine (byte_ctx B b len cap _ a _ hc2 (by omega)).mono ?_
  rintro e w3 ⟨z, hz, rfl, hc3, hg3⟩
  go_wp2_with fail
  refine (byte_ctx B b len cap _ a _ hc3 (by omega)).mono ?_
  rintro e w4 ⟨u, hu, rfl, hc4, hg4⟩
  have hg := grownBy_trans (grownBy_trans (grownBy_trans hg1 hg2) hg3) hg4
  clear hg1 hg2 hg3 hg4 hc1 hc2 hc3 h
  go_wp2
  go_ret
  refine ⟨x + 256 * y + 65536 * z + 16777216 * u, by omega, congrArg (fun x => Ending.returned (.int .i64 x)) ?_, hc4, hg⟩
  omega
end Go.Proofs.YtdabllnigaafmaaDoor
