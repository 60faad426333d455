/- Bytes, choices and words drawn out of a source. Instructions drawn out of a source: contracts. An instruction drawn is one. Decode behind Encode, Encode behind Decode: contracts. -/
import Derived.Test.YtiandbhcjecphaaGreatDoorGLShape26
import Derived.Deep.RegionWith
import Derived.Test.YtiandbhcjecphaaGreatDoorGLShape9
import Derived.Test.YtiandbhcjecphaaGreatDoorGLShape19
import Derived.Test.YtiandbhcjecphaaGreatDoorGLShape8
import Derived.Test.YtiandbhcjecphaaGreatDoorGLShape25
namespace Go.Proofs.YtiandbhcjecphaaGreatDoor
open Go.RowKit
set_option linter.unusedVariables false

/-- A source from which at most m draws were made. -/
structure Ctx (w : World) (B b : Nat) (a : Option Addr) (len cap m : Nat) : Prop where
  src : ∃ p sd : Int, p ≤ m ∧ Src w b a len cap p sd
  bytes : Bytes w B a len
  le : B ≤ b
  bw : b < w.heap.size

theorem Ctx.mono {w : World} {B b len cap m m' : Nat} {a : Option Addr} (h : Ctx w B b a len cap m) (hm : m ≤ m') : Ctx w B b a len cap m' := by
  obtain ⟨⟨p, sd, hp, hs⟩, h1, h2, h3⟩ := h
  exact ⟨⟨p, sd, by omega, hs⟩, h1, h2, h3⟩
theorem Ctx.alloc {w : World} {B b len cap m : Nat} {a : Option Addr} (h : Ctx w B b a len cap m) (o : Obj) : Ctx (w.alloc o) B b a len cap m := by
  obtain ⟨⟨p, sd, hp, hs⟩, h1, h2, h3⟩ := h
  exact ⟨⟨p, sd, hp, hs.alloc h3 o⟩, h1.below ((Below.refl _ _).alloc (by omega) o), h2, by simp; omega⟩
theorem Ctx.drew {w : World} {B b len cap m : Nat} {a : Option Addr} (h : Ctx w B b a len cap m) : Ctx w.drew B b a len cap m := by
  obtain ⟨⟨p, sd, hp, hs⟩, h1, h2, h3⟩ := h
  exact ⟨⟨p, sd, hp, hs.drew⟩, h1.below (Below.refl _ _).drew, h2, h3⟩

theorem byte_ctx (B b len cap m : Nat) (a : Option Addr) (w : World) (h : Ctx w B b a len cap m) (hm : m ≤ 100000) :
    Calls Tryz.prog 42 #[.pointer (some ⟨b, 0, none⟩)] w fun e w' => ∃ v : Nat, v < 256 ∧ e = .returned (.int .i64 v) ∧ Ctx w' B b a len cap (m + 1) ∧ w.grownBy w' (some b) := by
  obtain ⟨⟨p, sd, hp, hs⟩, h1, h2, h3⟩ := h
  refine (byte_any b len cap B a p sd w hs ⟨by omega⟩ h1 h2).mono ?_
  rintro e w' ⟨v, sd', he, hv0, hv1, hs', hg⟩
  obtain ⟨v, rfl⟩ := Int.eq_ofNat_of_zero_le hv0
  exact ⟨v, by omega, he, ⟨⟨p + 1, sd', by omega, hs'⟩, h1.grown hg h2 (by omega), h2, Nat.lt_of_lt_of_le h3 hg.size⟩, hg⟩

theorem next_small (B b len cap m n : Nat) (a : Option Addr) (w : World) (h : Ctx w B b a len cap m) (hm : m ≤ 100000) (hn0 : 2 ≤ n) (hn1 : n ≤ 256) :
    Calls Tryz.prog 20 #[.pointer (some ⟨b, 0, none⟩), .int .i64 n] w fun e w' => ∃ v : Nat, v < n ∧ e = .returned (.int .i64 v) ∧ Ctx w' B b a len cap (m + 1) ∧ w.grownBy w' (some b) := by
  have hnz : ¬ n = 0 := by omega
  go_enter Tryz.func20, Tryz.ntmps20
  go_wp2_with fail
  refine (byte_ctx B b len cap m a w h hm).mono ?_
  rintro e w1 ⟨v, hv, rfl, hc, hg⟩
  have hml := Nat.mod_lt v (show 0 < n by omega)
  have e1 : (v : Int) % (n : Int) = ((v % n : Nat) : Int) := by simp
  have e2 : (v : Int).tmod (n : Int) = ((v % n : Nat) : Int) := by rw [Int.tmod_eq_emod_of_nonneg (by omega)]; exact e1
  generalize v % n = r at *
  go_wp2
  go_ret
  exact ⟨r, hml, rfl, hc, hg⟩

theorem next_300 (B b len cap m : Nat) (a : Option Addr) (w : World) (h : Ctx w B b a len cap m) (hm : m ≤ 99000) :
    Calls Tryz.prog 20 #[.pointer (some ⟨b, 0, none⟩), .int .i64 300] w fun e w' => ∃ v : Nat, v < 300 ∧ e = .returned (.int .i64 v) ∧ Ctx w' B b a len cap (m + 3) ∧ w.grownBy w' (some b) := by
  go_enter Tryz.func20, Tryz.ntmps20
  go_wp2_with fail
  refine (byte_ctx B b len cap m a w h (by omega)).mono ?_
  rintro e w1 ⟨x, hx, rfl, hc1, hg1⟩
  go_wp2_with fail
  refine (byte_ctx B b len cap _ a _ hc1 (by omega)).mono ?_
  rintro e w2 ⟨y, hy, rfl, hc2, hg2⟩
  go_wp2_with fail
  refine (byte_ctx B b len cap _ a _ hc2 (by omega)).mono ?_
  rintro e w3 ⟨z, hz, rfl, hc3, hg3⟩
  have hg := grownBy_trans (grownBy_trans hg1 hg2) hg3
  clear hg1 hg2 hg3 hc1 hc2 h
  go_wp2
  go_ret
  refine ⟨(x * 65536 + y * 256 + z) % 300, by omega, congrArg (fun x => Ending.returned (.int .i64 x)) ?_, hc3, hg⟩
  omega

end Go.Proofs.YtiandbhcjecphaaGreatDoor

namespace Go.Proofs.YtiandbhcjecphaaGreatDoor
open Go.RowKit
set_option linter.unusedVariables false

theorem grownBy_below {w w1 w2 : World} {r : Option Nat} (h : w.grownBy w1 r) (hb : Below w1.heap.size w1 w2) : w.grownBy w2 r :=
  ⟨hb.os.trans h.os, hb.tape.trans h.tape, hb.output.trans h.output, Nat.le_trans h.size hb.size, fun i hi hne => (hb.block i (Nat.lt_of_lt_of_le hi h.size)).trans (h.block i hi hne)⟩
theorem grownBy_cell {w w1 : World} {r : Option Nat} (h : w.grownBy w1 r) (nb o : Nat) (u : Value) (hn : w.heap.size ≤ nb) : w.grownBy (w1.setCell ⟨nb, o, none⟩ u) r :=
  grownBy_own h grownBy_setCell (fun i e => by injection e with e; omega)
theorem grownBy_refl (w : World) (r : Option Nat) : w.grownBy w r := ⟨rfl, rfl, rfl, Nat.le_refl _, fun _ _ _ => rfl⟩
theorem Ctx.below {w w' : World} {B b len cap m : Nat} {a : Option Addr} (h : Ctx w B b a len cap m) (hb : Below w.heap.size w w') : Ctx w' B b a len cap m := by
  obtain ⟨⟨p, sd, hp, hs⟩, h1, h2, h3⟩ := h
  refine ⟨⟨p, sd, hp, ?_⟩, h1.below (hb.mono (by omega)), h2, Nat.lt_of_lt_of_le h3 hb.size⟩
  have hc : ∀ o, w'.cell? ⟨b, o, none⟩ = w.cell? ⟨b, o, none⟩ := fun o => hb.cell (p := ⟨b, o, none⟩) h3
  have hf : ∀ o, w'.frozen? ⟨b, o, none⟩ = w.frozen? ⟨b, o, none⟩ := fun o => hb.frozen (p := ⟨b, o, none⟩) h3
  exact ⟨(hc 0).trans hs.c0, (hc 1).trans hs.c1, (hc 2).trans hs.c2, (hf 1).trans hs.f1, (hf 2).trans hs.f2, hs.p0, hs.p1, hs.s0, hs.s1⟩
theorem Ctx.cell {w : World} {B b len cap m : Nat} {a : Option Addr} (h : Ctx w B b a len cap m) (nb o : Nat) (u : Value) (hn : b < nb) : Ctx (w.setCell ⟨nb, o, none⟩ u) B b a len cap m := by
  obtain ⟨⟨p, sd, hp, hs⟩, h1, h2, h3⟩ := h
  have hB : B ≤ nb := by omega
  refine ⟨⟨p, sd, hp, ?_⟩, h1.below ((Below.refl _ _).setCell (p := ⟨nb, o, none⟩) hB u), h2, by simpa using h3⟩
  exact ⟨(World.cell?_setCell_other _ _ _ _ (by simp <;> omega)).trans hs.c0, (World.cell?_setCell_other _ _ _ _ (by simp <;> omega)).trans hs.c1, (World.cell?_setCell_other _ _ _ _ (by simp <;> omega)).trans hs.c2,
    (World.frozen?_setCell _ _ _ _).trans hs.f1, (World.frozen?_setCell _ _ _ _).trans hs.f2, hs.p0, hs.p1, hs.s0, hs.s1⟩
theorem Five.grown {w w' : World} {d : Nat} {row : Option Nat} {v0 v1 v2 v3 v4 : Int} (h : Five w d v0 v1 v2 v3 v4) (hg : w.grownBy w' row) (hd : d < w.heap.size) (hne : some d ≠ row) : Five w' d v0 v1 v2 v3 v4 :=
  ⟨(World.cell?_of_block (hg.block d hd hne)).trans h.c0, (World.cell?_of_block (hg.block d hd hne)).trans h.c1, (World.cell?_of_block (hg.block d hd hne)).trans h.c2, (World.cell?_of_block (hg.block d hd hne)).trans h.c3, (World.cell?_of_block (hg.block d hd hne)).trans h.c4,
   (World.frozen?_of_block (hg.block d hd hne)).trans h.f0, (World.frozen?_of_block (hg.block d hd hne)).trans h.f1, (World.frozen?_of_block (hg.block d hd hne)).trans h.f2, (World.frozen?_of_block (hg.block d hd hne)).trans h.f3, (World.frozen?_of_block (hg.block d hd hne)).trans h.f4⟩

theorem next_4096 (B b len cap m : Nat) (a : Option Addr) (w : World) (h : Ctx w B b a len cap m) (hm : m ≤ 99000) :
    Calls Tryz.prog 20 #[.pointer (some ⟨b, 0, none⟩), .int .i64 4096] w fun e w' => ∃ v : Nat, v < 4096 ∧ e = .returned (.int .i64 v) ∧ Ctx w' B b a len cap (m + 3) ∧ w.grownBy w' (some b) := by
  go_enter Tryz.func20, Tryz.ntmps20
  go_wp2_with fail
  refine (byte_ctx B b len cap m a w h (by omega)).mono ?_
  rintro e w1 ⟨x, hx, rfl, hc1, hg1⟩
  go_wp2_with fail
  refine (byte_ctx B b len cap _ a _ hc1 (by omega)).mono ?_
  rintro e w2 ⟨y, hy, rfl, hc2, hg2⟩
  go_wp2_with fail
  refine (byte_ctx B b len cap _ a _ hc2 (by omega)).mono ?_
  rintro e w3 ⟨z, hz, rfl, hc3, hg3⟩
  have hg := grownBy_trans (grownBy_trans hg1 hg2) hg3
  clear hg1 hg2 hg3 hc1 hc2 h
  go_wp2
  go_ret
  refine ⟨(x * 65536 + y * 256 + z) % 4096, by omega, congrArg (fun x => Ending.returned (.int .i64 x)) ?_, hc3, hg⟩
  omega
theorem next_1048576 (B b len cap m : Nat) (a : Option Addr) (w : World) (h : Ctx w B b a len cap m) (hm : m ≤ 99000) :
    Calls Tryz.prog 20 #[.pointer (some ⟨b, 0, none⟩), .int .i64 1048576] w fun e w' => ∃ v : Nat, v < 1048576 ∧ e = .returned (.int .i64 v) ∧ Ctx w' B b a len cap (m + 3) ∧ w.grownBy w' (some b) := by
  go_enter Tryz.func20, Tryz.ntmps20
  go_wp2_with fail
  refine (byte_ctx B b len cap m a w h (by omega)).mono ?_
  rintro e w1 ⟨x, hx, rfl, hc1, hg1⟩
  go_wp2_with fail
  refine (byte_ctx B b len cap _ a _ hc1 (by omega)).mono ?_
  rintro e w2 ⟨y, hy, rfl, hc2, hg2⟩
  go_wp2_with fail
  refine (byte_ctx B b len cap _ a _ hc2 (by omega)).mono ?_
  rintro e w3 ⟨z, hz, rfl, hc3, hg3⟩
  have hg := grownBy_trans (grownBy_trans hg1 hg2) hg3
  clear hg1 hg2 hg3 hc1 hc2 h
  go_wp2
  go_ret
  refine ⟨(x * 65536 + y * 256 + z) % 1048576, by omega, congrArg (fun x => Ending.returned (.int .i64 x)) ?_, hc3, hg⟩
  omega
end Go.Proofs.YtiandbhcjecphaaGreatDoor

namespace Go.Proofs.YtiandbhcjecphaaGreatDoor
open Go.RowKit
set_option linter.unusedVariables false

theorem drawn_right (f rd r1 r2 im : Int) (f0 : 1 ≤ f) (f1 : f ≤ 9) (h1 : 0 ≤ rd ∧ rd < 32) (h2 : 0 ≤ r1 ∧ r1 < 32) (h3 : 0 ≤ r2 ∧ r2 < 32) (hi : okI f im) :
    rightF f (if f = 4 ∨ f = 5 ∨ f = 9 then 0 else rd) (if f = 1 ∨ f = 2 ∨ f = 9 then 0 else r1) (if f = 4 ∨ f = 5 ∨ f = 8 then r2 else 0) im = true := by
  have b1 : regB rd = true := decide_eq_true (by omega)
  have b2 : regB r1 = true := decide_eq_true (by omega)
  have b3 : regB r2 = true := decide_eq_true (by omega)
  have hk : okB f im = true := okB_t (by omega) (by omega) hi
  rcases (show f = 1 ∨ f = 2 ∨ f = 3 ∨ f = 4 ∨ f = 5 ∨ f = 6 ∨ f = 7 ∨ f = 8 ∨ f = 9 by omega) with rfl | rfl | rfl | rfl | rfl | rfl | rfl | rfl | rfl
  · simp [rightF, b1, hk]
  · simp [rightF, b1, hk]
  · simp [rightF, b1, b2, hk]
  · simp [rightF, b2, b3, hk]
  · simp [rightF, b2, b3, hk]
  · simp [rightF, b1, b2, hk]
  · simp [rightF, b1, b2, hk]
  · have : im = 0 := hi
    simp [rightF, b1, b2, b3, this]
  · have : im = 0 := hi
    simp [rightF, this]

theorem shF2 (op f c g h : Int) (hs : shT op = (f, c, g, h)) : ∀ w, (Instr.field 71 (shV (shT op)) 0).run Tryz.prog w = .ok (.int .i64 f) w := fun w => by
  rw [hs]
  unfold shV
  kernel_rfl

end Go.Proofs.YtiandbhcjecphaaGreatDoor

namespace Go.Proofs.YtiandbhcjecphaaGreatDoor
open Go.RowKit
set_option linter.unusedVariables false

theorem regB_in {v : Int} (h : regB v = true) : 0 ≤ v ∧ v < 32 := by
  have := of_decide_eq_true h
  omega
theorem okB_i {f v : Int} (h1 : 0 ≤ f) (h9 : f ≤ 9) (h : okB f v = true) : okI f v := (okB_iff f v h1 h9).1 h

theorem back_all (f c g h rd r1 r2 im : Int) (hok : shOK f c g h = true) (hf : rightF f rd r1 r2 im = true) : BackP f c g h rd r1 r2 im (encW f c g h rd r1 r2 im) := by
  obtain ⟨f0, f1, c0, c1, g0, g1, h0, h1⟩ := sh_bounds hok
  obtain ⟨m1, m2, m3, m4, m5, m9⟩ := sh_more hok
  rcases (show f = 1 ∨ f = 2 ∨ f = 3 ∨ f = 4 ∨ f = 5 ∨ f = 6 ∨ f = 7 ∨ f = 8 ∨ f = 9 by omega) with rfl | rfl | rfl | rfl | rfl | rfl | rfl | rfl | rfl
  · obtain ⟨rfl, rfl⟩ := m1 rfl
    simp [rightF] at hf
    obtain ⟨⟨⟨b1, rfl⟩, rfl⟩, hi⟩ := hf
    have b1 := regB_in b1
    exact back1 c rd im c0 c1 b1.1 b1.2 (okB_i (by decide) (by decide) hi)
  · obtain ⟨rfl, rfl⟩ := m2 rfl
    simp [rightF] at hf
    obtain ⟨⟨⟨b1, rfl⟩, rfl⟩, hi⟩ := hf
    have b1 := regB_in b1
    exact back2 c rd im c0 c1 b1.1 b1.2 (okB_i (by decide) (by decide) hi)
  · obtain rfl := m3 rfl
    simp [rightF] at hf
    obtain ⟨⟨⟨b1, b2⟩, rfl⟩, hi⟩ := hf
    have b1 := regB_in b1
    have b2 := regB_in b2
    exact back3 c g rd r1 im c0 c1 g0 g1 b1.1 b1.2 b2.1 b2.2 (okB_i (by decide) (by decide) hi)
  · obtain rfl := m4 rfl
    simp [rightF] at hf
    obtain ⟨⟨⟨rfl, b2⟩, b3⟩, hi⟩ := hf
    have b2 := regB_in b2
    have b3 := regB_in b3
    exact back4 c g r1 r2 im c0 c1 g0 g1 b2.1 b2.2 b3.1 b3.2 (okB_i (by decide) (by decide) hi)
  · obtain rfl := m5 rfl
    simp [rightF] at hf
    obtain ⟨⟨⟨rfl, b2⟩, b3⟩, hi⟩ := hf
    have b2 := regB_in b2
    have b3 := regB_in b3
    exact back5 c g r1 r2 im c0 c1 g0 g1 b2.1 b2.2 b3.1 b3.2 (okB_i (by decide) (by decide) hi)
  · simp [rightF] at hf
    obtain ⟨⟨⟨b1, b2⟩, rfl⟩, hi⟩ := hf
    have b1 := regB_in b1
    have b2 := regB_in b2
    exact back6 c g h rd r1 im c0 c1 g0 g1 h0 h1 b1.1 b1.2 b2.1 b2.2 (okB_i (by decide) (by decide) hi)
  · simp [rightF] at hf
    obtain ⟨⟨⟨b1, b2⟩, rfl⟩, hi⟩ := hf
    have b1 := regB_in b1
    have b2 := regB_in b2
    exact back7 c g h rd r1 im c0 c1 g0 g1 h0 h1 b1.1 b1.2 b2.1 b2.2 (okB_i (by decide) (by decide) hi)
  · simp [rightF] at hf
    obtain ⟨⟨⟨b1, b2⟩, b3⟩, rfl⟩ := hf
    have b1 := regB_in b1
    have b2 := regB_in b2
    have b3 := regB_in b3
    exact back8 c g h rd r1 r2 0 c0 c1 g0 g1 h0 h1 b1.1 b1.2 b2.1 b2.2 b3.1 b3.2 rfl
  · obtain rfl := m9 rfl
    simp [rightF] at hf
    obtain ⟨⟨⟨rfl, rfl⟩, rfl⟩, rfl⟩ := hf
    exact back9 c h c0 c1 h0 h1

theorem decBack (op rd r1 r2 im : Int) (hr : rightB op rd r1 r2 im = true) : ∃ W : Int, 0 ≤ W ∧ W < 4294967296 ∧ encT op rd r1 r2 im = W ∧ encE op rd r1 r2 im = 0 ∧
    ∀ w, Calls Tryz.prog 73 #[.int .i64 W] w fun e w' => e = .returned (.tuple #[.agg #[.int .i64 op, .int .i64 rd, .int .i64 r1, .int .i64 r2, .int .i64 im], .int .i64 0]) ∧ Below w.heap.size w w' := by
  have hr' := hr
  unfold rightB at hr
  obtain ⟨hop, hf⟩ := Bool.and_eq_true_iff.1 hr
  have hop := of_decide_eq_true hop
  obtain ⟨w0, w1, hh, e1, e2, e3, e4⟩ := back_all _ _ _ _ rd r1 r2 im (shT_ok op hop.1 hop.2) hf
  refine ⟨encW (shT op).1 (shT op).2.1 (shT op).2.2.1 (shT op).2.2.2 rd r1 r2 im, w0, w1, by unfold encT; rw [if_pos hr'], by unfold encE; rw [if_pos hr'], ?_⟩
  generalize encW (shT op).1 (shT op).2.1 (shT op).2.2.1 (shT op).2.2.2 rd r1 r2 im = W at *
  intro w
  obtain ⟨n, rfl⟩ := Int.eq_ofNat_of_zero_le (show 0 ≤ op by omega)
  have hd := decX W w0 w1 n (by omega) (by omega) (fun j j0 j1 hj => hit_once j n W j0 j1 (by omega) hj hh) hh _ rfl w
  unfold itV at hd
  rw [e1, e2, e3, e4] at hd
  exact hd

theorem pow31 (k : Nat) (h : k ≤ 31) : (1 : Int) ≤ 2 ^ k ∧ (2 : Int) ^ k ≤ 2147483648 := by
  have h1 := pow_pos k
  have h2 : (2 : Int) ^ k ≤ 2 ^ 31 := pow_le h
  have h3 : (2 : Int) ^ 31 = 2147483648 := rfl
  omega
/-- One bit of the lowest 32 turned. -/
theorem xor_in (W : Int) (k : Nat) (h0 : 0 ≤ W) (h1 : W < 4294967296) (hk : k ≤ 31) : ∃ Z : Int, bits .xor .i64 W (2 ^ k) = Z ∧ 0 ≤ Z ∧ Z < 4294967296 := by
  refine ⟨_, rfl, ?_⟩
  obtain ⟨n, rfl⟩ := Int.eq_ofNat_of_zero_le h0
  have hp := pow31 k hk
  have e : (2 : Int) ^ k = ((2 ^ k : Nat) : Int) := by simp
  have hp2 : (2 ^ k : Nat) < 4294967296 := by omega
  rw [e]
  have hx : n ^^^ 2 ^ k < 2 ^ 32 := Nat.xor_lt_two_pow (by omega) (by omega)
  show 0 ≤ IntKind.i64.wrap ((BitVec.ofInt 64 (n : Int) ^^^ BitVec.ofInt 64 ((2 ^ k : Nat) : Int)).toNat : Int) ∧ IntKind.i64.wrap ((BitVec.ofInt 64 (n : Int) ^^^ BitVec.ofInt 64 ((2 ^ k : Nat) : Int)).toNat : Int) < 4294967296
  rw [BitVec.toNat_xor, ofInt_u64 n (by omega), ofInt_u64 (2 ^ k) (by omega), IntWalk.i64_in _ (by omega)]
  omega

end Go.Proofs.YtiandbhcjecphaaGreatDoor
