/- Bytes, choices and words drawn out of a source. -/
import Derived.Test.YtibepggakjfbcaaSrcG
import Derived.Deep.RegionWith
namespace Go.Proofs.Ytibepggakjfbcaa
open Go.RowKit
set_option linter.unusedVariables false

/-- A source from which at most m draws were made. -/
structure Ctx (w : World) (B b : Nat) (a : Option Addr) (len cap m : Nat) : Prop where
  src : ∃ p sd : Int, p ≤ m ∧ Src w b a len cap p sd
  bytes : Bytes w B a len
  le : B ≤ b
  bw : b < w.heap.size

theorem Ctx.mono {w : World} {B b len cap m m' : Nat} {a : Option Addr} (h : Ctx w B b a len cap m) (hm : m ≤ m') : Ctx w B b a len cap m' := by
  obtain ⟨⟨p, sd, hp, hs⟩, h1, h2, h3⟩ := h
  exact ⟨⟨p, sd, by omega, hs⟩, h1, h2, h3⟩
theorem Ctx.alloc {w : World} {B b len cap m : Nat} {a : Option Addr} (h : Ctx w B b a len cap m) (o : Obj) : Ctx (w.alloc o) B b a len cap m := by
  obtain ⟨⟨p, sd, hp, hs⟩, h1, h2, h3⟩ := h
  exact ⟨⟨p, sd, hp, hs.alloc h3 o⟩, h1.below ((Below.refl _ _).alloc (by omega) o), h2, by simp; omega⟩
theorem Ctx.drew {w : World} {B b len cap m : Nat} {a : Option Addr} (h : Ctx w B b a len cap m) : Ctx w.drew B b a len cap m := by
  obtain ⟨⟨p, sd, hp, hs⟩, h1, h2, h3⟩ := h
  exact ⟨⟨p, sd, hp, hs.drew⟩, h1.below (Below.refl _ _).drew, h2, h3⟩

theorem byte_ctx (B b len cap m : Nat) (a : Option Addr) (w : World) (h : Ctx w B b a len cap m) (hm : m ≤ 100000) :
    Calls Try.prog 52 #[.pointer (some ⟨b, 0, none⟩)] w fun e w' => ∃ v : Nat, v < 256 ∧ e = .returned (.int .i64 v) ∧ Ctx w' B b a len cap (m + 1) ∧ w.grownBy w' (some b) := by
  obtain ⟨⟨p, sd, hp, hs⟩, h1, h2, h3⟩ := h
  refine (byte_any b len cap B a p sd w hs ⟨by omega⟩ h1 h2).mono ?_
  rintro e w' ⟨v, sd', he, hv0, hv1, hs', hg⟩
  obtain ⟨v, rfl⟩ := Int.eq_ofNat_of_zero_le hv0
  exact ⟨v, by omega, he, ⟨⟨p + 1, sd', by omega, hs'⟩, h1.grown hg h2 (by omega), h2, Nat.lt_of_lt_of_le h3 hg.size⟩, hg⟩

theorem next_small (B b len cap m n : Nat) (a : Option Addr) (w : World) (h : Ctx w B b a len cap m) (hm : m ≤ 100000) (hn0 : 2 ≤ n) (hn1 : n ≤ 256) :
    Calls Try.prog 37 #[.pointer (some ⟨b, 0, none⟩), .int .i64 n] w fun e w' => ∃ v : Nat, v < n ∧ e = .returned (.int .i64 v) ∧ Ctx w' B b a len cap (m + 1) ∧ w.grownBy w' (some b) := by
  have hnz : ¬ n = 0 := by omega
  go_enter Try.func37, Try.ntmps37
  go_wp2_with fail
  refine (byte_ctx B b len cap m a w h hm).mono ?_
  rintro e w1 ⟨v, hv, rfl, hc, hg⟩
  have hml := Nat.mod_lt v (show 0 < n by omega)
  have e1 : (v : Int) % (n : Int) = ((v % n : Nat) : Int) := by simp
  have e2 : (v : Int).tmod (n : Int) = ((v % n : Nat) : Int) := by rw [Int.tmod_eq_emod_of_nonneg (by omega)]; exact e1
  generalize v % n = r at *
  go_wp2
  go_ret
  exact ⟨r, hml, rfl, hc, hg⟩

theorem next_300 (B b len cap m : Nat) (a : Option Addr) (w : World) (h : Ctx w B b a len cap m) (hm : m ≤ 99000) :
    Calls Try.prog 37 #[.pointer (some ⟨b, 0, none⟩), .int .i64 300] w fun e w' => ∃ v : Nat, v < 300 ∧ e = .returned (.int .i64 v) ∧ Ctx w' B b a len cap (m + 3) ∧ w.grownBy w' (some b) := by
  go_enter Try.func37, Try.ntmps37
  go_wp2_with fail
  refine (byte_ctx B b len cap m a w h (by omega)).mono ?_
  rintro e w1 ⟨x, hx, rfl, hc1, hg1⟩
  go_wp2_with fail
  refine (byte_ctx B b len cap _ a _ hc1 (by omega)).mono ?_
  rintro e w2 ⟨y, hy, rfl, hc2, hg2⟩
  go_wp2_with fail
  refine (byte_ctx B b len cap _ a _ hc2 (by omega)).mono ?_
  rintro e w3 ⟨z, hz, rfl, hc3, hg3⟩
  have hg := grownBy_trans (grownBy_trans hg1 hg2) hg3
  clear hg1 hg2 hg3 hc1 hc2 h
  go_wp2
  go_ret
  refine ⟨(x * 65536 + y * 256 + z) % 300, by omega, congrArg (fun x => Ending.returned (.int .i64 x)) ?_, hc3, hg⟩
  omega

theorem word_ctx (B b len cap m : Nat) (a : Option Addr) (w : World) (h : Ctx w B b a len cap m) (hm : m ≤ 99000) :
    Calls Try.prog 39 #[.pointer (some ⟨b, 0, none⟩)] w fun e w' => ∃ v : Nat, v < 4294967296 ∧ e = .returned (.int .i64 v) ∧ Ctx w' B b a len cap (m + 4) ∧ w.grownBy w' (some b) := by
  go_enter Try.func39, Try.ntmps39
  go_wp2_with fail
  refine (byte_ctx B b len cap m a w h (by omega)).mono ?_
  rintro e w1 ⟨x, hx, rfl, hc1, hg1⟩
  go_wp2_with fail
  refine (byte_ctx B b len cap _ a _ hc1 (by omega)).mono ?_
  rintro e w2 ⟨y, hy, rfl, hc2, hg2⟩
  go_wp2_with fail
  refine (byte_ctx B b len cap _ a _ hc2 (by omega)).mono ?_
  rintro e w3 ⟨z, hz, rfl, hc3, hg3⟩
  go_wp2_with fail
  refine (byte_ctx B b len cap _ a _ hc3 (by omega)).mono ?_
  rintro e w4 ⟨u, hu, rfl, hc4, hg4⟩
  have hg := grownBy_trans (grownBy_trans (grownBy_trans hg1 hg2) hg3) hg4
  clear hg1 hg2 hg3 hg4 hc1 hc2 hc3 h
  go_wp2
  go_ret
  refine ⟨x + 256 * y + 65536 * z + 16777216 * u, by omega, congrArg (fun x => Ending.returned (.int .i64 x)) ?_, hc4, hg⟩
  omega
end Go.Proofs.Ytibepggakjfbcaa
