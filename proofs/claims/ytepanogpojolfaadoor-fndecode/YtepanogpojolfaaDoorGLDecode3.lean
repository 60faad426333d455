/- Instructions drawn out of a source: contracts. -/
import Derived.Test.YtepanogpojolfaaDoorGLDecode2
import Derived.Test.YtepanogpojolfaaDoorGXDecode20
import Derived.Test.YtepanogpojolfaaDoorGXDecode33
import Derived.Test.YtepanogpojolfaaDoorGXDecode19
namespace Go.Proofs.YtepanogpojolfaaDoor
open Go.RowKit
set_option linter.unusedVariables false

theorem grownBy_below {w w1 w2 : World} {r : Option Nat} (h : w.grownBy w1 r) (hb : Below w1.heap.size w1 w2) : w.grownBy w2 r :=
  ⟨hb.os.trans h.os, hb.tape.trans h.tape, hb.output.trans h.output, Nat.le_trans h.size hb.size, fun i hi hne => (hb.block i (Nat.lt_of_lt_of_le hi h.size)).trans (h.block i hi hne)⟩
theorem grownBy_cell {w w1 : World} {r : Option Nat} (h : w.grownBy w1 r) (nb o : Nat) (u : Value) (hn : w.heap.size ≤ nb) : w.grownBy (w1.setCell ⟨nb, o, none⟩ u) r :=
  grownBy_own h grownBy_setCell (fun i e => by injection e with e; omega)
theorem grownBy_refl (w : World) (r : Option Nat) : w.grownBy w r := ⟨rfl, rfl, rfl, Nat.le_refl _, fun _ _ _ => rfl⟩
theorem Ctx.below {w w' : World} {B b len cap m : Nat} {a : Option Addr} (h : Ctx w B b a len cap m) (hb : Below w.heap.size w w') : Ctx w' B b a len cap m := by
  obtain ⟨⟨p, sd, hp, hs⟩, h1, h2, h3⟩ := h
  refine ⟨⟨p, sd, hp, ?_⟩, h1.below (hb.mono (by omega)), h2, Nat.lt_of_lt_of_le h3 hb.size⟩
  have hc : ∀ o, w'.cell? ⟨b, o, none⟩ = w.cell? ⟨b, o, none⟩ := fun o => hb.cell (p := ⟨b, o, none⟩) h3
  have hf : ∀ o, w'.frozen? ⟨b, o, none⟩ = w.frozen? ⟨b, o, none⟩ := fun o => hb.frozen (p := ⟨b, o, none⟩) h3
  exact ⟨(hc 0).trans hs.c0, (hc 1).trans hs.c1, (hc 2).trans hs.c2, (hf 1).trans hs.f1, (hf 2).trans hs.f2, hs.p0, hs.p1, hs.s0, hs.s1⟩
theorem Ctx.cell {w : World} {B b len cap m : Nat} {a : Option Addr} (h : Ctx w B b a len cap m) (nb o : Nat) (u : Value) (hn : b < nb) : Ctx (w.setCell ⟨nb, o, none⟩ u) B b a len cap m := by
  obtain ⟨⟨p, sd, hp, hs⟩, h1, h2, h3⟩ := h
  have hB : B ≤ nb := by omega
  refine ⟨⟨p, sd, hp, ?_⟩, h1.below ((Below.refl _ _).setCell (p := ⟨nb, o, none⟩) hB u), h2, by simpa using h3⟩
  exact ⟨(World.cell?_setCell_other _ _ _ _ (by simp <;> omega)).trans hs.c0, (World.cell?_setCell_other _ _ _ _ (by simp <;> omega)).trans hs.c1, (World.cell?_setCell_other _ _ _ _ (by simp <;> omega)).trans hs.c2,
    (World.frozen?_setCell _ _ _ _).trans hs.f1, (World.frozen?_setCell _ _ _ _).trans hs.f2, hs.p0, hs.p1, hs.s0, hs.s1⟩
theorem Five.grown {w w' : World} {d : Nat} {row : Option Nat} {v0 v1 v2 v3 v4 : Int} (h : Five w d v0 v1 v2 v3 v4) (hg : w.grownBy w' row) (hd : d < w.heap.size) (hne : some d ≠ row) : Five w' d v0 v1 v2 v3 v4 :=
  ⟨(World.cell?_of_block (hg.block d hd hne)).trans h.c0, (World.cell?_of_block (hg.block d hd hne)).trans h.c1, (World.cell?_of_block (hg.block d hd hne)).trans h.c2, (World.cell?_of_block (hg.block d hd hne)).trans h.c3, (World.cell?_of_block (hg.block d hd hne)).trans h.c4,
   (World.frozen?_of_block (hg.block d hd hne)).trans h.f0, (World.frozen?_of_block (hg.block d hd hne)).trans h.f1, (World.frozen?_of_block (hg.block d hd hne)).trans h.f2, (World.frozen?_of_block (hg.block d hd hne)).trans h.f3, (World.frozen?_of_block (hg.block d hd hne)).trans h.f4⟩

theorem next_4096 (B b len cap m : Nat) (a : Option Addr) (w : World) (h : Ctx w B b a len cap m) (hm : m ≤ 99000) :
    Calls Tryd.prog 69 #[.pointer (some ⟨b, 0, none⟩), .int .i64 4096] w fun e w' => ∃ v : Nat, v < 4096 ∧ e = .returned (.int .i64 v) ∧ Ctx w' B b a len cap (m + 3) ∧ w.grownBy w' (some b) := by
  go_enter Tryd.func69, Tryd.ntmps69
  go_wp2_with fail
  refine (byte_ctx B b len cap m a w h (by omega)).mono ?_
  rintro e w1 ⟨x, hx, rfl, hc1, hg1⟩
  go_wp2_with fail
  refine (byte_ctx B b len cap _ a _ hc1 (by omega)).mono ?_
  rintro e w2 ⟨y, hy, rfl, hc2, hg2⟩
  go_wp2_with fail
  refine (byte_ctx B b len cap _ a _ hc2 (by omega)).mono ?_
  rintro e w3 ⟨z, hz, rfl, hc3, hg3⟩
  have hg := grownBy_trans (grownBy_trans hg1 hg2) hg3
  clear hg1 hg2 hg3 hc1 hc2 h
  go_wp2
  go_ret
  refine ⟨(x * 65536 + y * 256 + z) % 4096, by omega, congrArg (fun x => Ending.returned (.int .i64 x)) ?_, hc3, hg⟩
  omega
theorem next_1048576 (B b len cap m : Nat) (a : Option Addr) (w : World) (h : Ctx w B b a len cap m) (hm : m ≤ 99000) :
    Calls Tryd.prog 69 #[.pointer (some ⟨b, 0, none⟩), .int .i64 1048576] w fun e w' => ∃ v : Nat, v < 1048576 ∧ e = .returned (.int .i64 v) ∧ Ctx w' B b a len cap (m + 3) ∧ w.grownBy w' (some b) := by
  go_enter Tryd.func69, Tryd.ntmps69
  go_wp2_with fail
  refine (byte_ctx B b len cap m a w h (by omega)).mono ?_
  rintro e w1 ⟨x, hx, rfl, hc1, hg1⟩
  go_wp2_with fail
  refine (byte_ctx B b len cap _ a _ hc1 (by omega)).mono ?_
  rintro e w2 ⟨y, hy, rfl, hc2, hg2⟩
  go_wp2_with fail
  refine (byte_ctx B b len cap _ a _ hc2 (by omega)).mono ?_
  rintro e w3 ⟨z, hz, rfl, hc3, hg3⟩
  have hg := grownBy_trans (grownBy_trans hg1 hg2) hg3
  clear hg1 hg2 hg3 hc1 hc2 h
  go_wp2
  go_ret
  refine ⟨(x * 65536 + y * 256 + z) % 1048576, by omega, congrArg (fun x => Ending.returned (.int .i64 x)) ?_, hc3, hg⟩
  omega
theorem imm_1 (B b len cap m : Nat) (a : Option Addr) (w : World) (h : Ctx w B b a len cap m) (hm : m ≤ 90000) :
    Calls Tryd.prog 71 #[.pointer (some ⟨b, 0, none⟩), .int .i64 1] w fun e w' => ∃ v : Int, okI 1 v ∧ e = .returned (.int .i64 v) ∧ Ctx w' B b a len cap (m + 10) ∧ w.grownBy w' (some b) := by
  go_enter Tryd.func71, Tryd.ntmps71
  go_wp2_with fail
  refine (next_1048576 B b len cap m a w h (by omega)).mono ?_
  rintro e w1 ⟨x, hx, rfl, hc1, hg1⟩
  have hx1 : (x : Int) < 1048576 := by omega
  go_wp2_with fail
  refine (next_small B b len cap _ 9 a _ hc1 (by omega) (by omega) (by omega)).mono ?_
  rintro e w2 ⟨y, hy, rfl, hc2, hg2⟩
  have hy1 : (y : Int) < 9 := by omega
  clear h hc1
  go_wp2_with fail
  refine (next_small B b len cap _ 4 a _ (hc2.alloc _) (by omega) (by omega) (by omega)).mono ?_
  rintro e w3 ⟨v, hv, rfl, hc, hg⟩
  have hbw := hc2.bw
  have hkeep := World.cell?_of_block (a := ⟨w2.heap.size, v, none⟩) (hg.block w2.heap.size (by simp) (by intro e; injection e; omega))
  obtain ⟨q, hin, hq⟩ : ∃ q : Int, okI 1 q ∧ w3.cell? ⟨w2.heap.size, v, none⟩ = some (.int .i64 q) := by
    rw [hkeep]
    rcases (show v = 0 ∨ v = 1 ∨ v = 2 ∨ v = 3 by omega) with rfl | rfl | rfl | rfl
    · exact ⟨4096 * ((x : Int) - 524288), by simp only [okI]; simp <;> omega, by simp⟩
    · exact ⟨4096 * (y : Int), by simp only [okI]; simp <;> omega, by simp⟩
    · exact ⟨-2147483648, by simp [okI], by simp⟩
    · exact ⟨2147479552, by simp [okI], by simp⟩
  have hq' : w3.cell? ⟨w2.heap.size, 0 + v, none⟩ = some (.int .i64 q) := by rw [Nat.zero_add]; exact hq
  have hg' : w.grownBy w3 (some b) := grownBy_trans (grownBy_trans (grownBy_trans hg1 hg2) (World.grownBy_alloc w2 _ _)) hg
  clear hkeep hg hg1 hg2 hc2 hx hx1 hy hy1
  go_wp2
  go_ret
  exact ⟨q, hin, rfl, hc.mono (by omega), hg'⟩
theorem imm_2 (B b len cap m : Nat) (a : Option Addr) (w : World) (h : Ctx w B b a len cap m) (hm : m ≤ 90000) :
    Calls Tryd.prog 71 #[.pointer (some ⟨b, 0, none⟩), .int .i64 2] w fun e w' => ∃ v : Int, okI 2 v ∧ e = .returned (.int .i64 v) ∧ Ctx w' B b a len cap (m + 10) ∧ w.grownBy w' (some b) := by
  go_enter Tryd.func71, Tryd.ntmps71
  go_wp2_with fail
  refine (next_1048576 B b len cap m a w h (by omega)).mono ?_
  rintro e w1 ⟨x, hx, rfl, hc1, hg1⟩
  have hx1 : (x : Int) < 1048576 := by omega
  go_wp2_with fail
  refine (next_small B b len cap _ 60 a _ hc1 (by omega) (by omega) (by omega)).mono ?_
  rintro e w2 ⟨y, hy, rfl, hc2, hg2⟩
  have hy1 : (y : Int) < 60 := by omega
  clear h hc1
  go_wp2_with fail
  refine (next_small B b len cap _ 4 a _ (hc2.alloc _) (by omega) (by omega) (by omega)).mono ?_
  rintro e w3 ⟨v, hv, rfl, hc, hg⟩
  have hbw := hc2.bw
  have hkeep := World.cell?_of_block (a := ⟨w2.heap.size, v, none⟩) (hg.block w2.heap.size (by simp) (by intro e; injection e; omega))
  obtain ⟨q, hin, hq⟩ : ∃ q : Int, okI 2 q ∧ w3.cell? ⟨w2.heap.size, v, none⟩ = some (.int .i64 q) := by
    rw [hkeep]
    rcases (show v = 0 ∨ v = 1 ∨ v = 2 ∨ v = 3 by omega) with rfl | rfl | rfl | rfl
    · exact ⟨2 * ((x : Int) - 524288), by simp only [okI]; simp <;> omega, by simp⟩
    · exact ⟨4 * (y : Int) - 100, by simp only [okI]; simp <;> omega, by simp⟩
    · exact ⟨-1048576, by simp [okI], by simp⟩
    · exact ⟨1048574, by simp [okI], by simp⟩
  have hq' : w3.cell? ⟨w2.heap.size, 0 + v, none⟩ = some (.int .i64 q) := by rw [Nat.zero_add]; exact hq
  have hg' : w.grownBy w3 (some b) := grownBy_trans (grownBy_trans (grownBy_trans hg1 hg2) (World.grownBy_alloc w2 _ _)) hg
  clear hkeep hg hg1 hg2 hc2 hx hx1 hy hy1
  go_wp2
  go_ret
  exact ⟨q, hin, rfl, hc.mono (by omega), hg'⟩
theorem imm_3 (B b len cap m : Nat) (a : Option Addr) (w : World) (h : Ctx w B b a len cap m) (hm : m ≤ 90000) :
    Calls Tryd.prog 71 #[.pointer (some ⟨b, 0, none⟩), .int .i64 3] w fun e w' => ∃ v : Int, okI 3 v ∧ e = .returned (.int .i64 v) ∧ Ctx w' B b a len cap (m + 10) ∧ w.grownBy w' (some b) := by
  go_enter Tryd.func71, Tryd.ntmps71
  go_wp2_with fail
  refine (next_4096 B b len cap m a w h (by omega)).mono ?_
  rintro e w1 ⟨x, hx, rfl, hc1, hg1⟩
  have hx1 : (x : Int) < 4096 := by omega
  go_wp2_with fail
  refine (next_small B b len cap _ 40 a _ hc1 (by omega) (by omega) (by omega)).mono ?_
  rintro e w2 ⟨y, hy, rfl, hc2, hg2⟩
  have hy1 : (y : Int) < 40 := by omega
  clear h hc1
  go_wp2_with fail
  refine (next_small B b len cap _ 4 a _ (hc2.alloc _) (by omega) (by omega) (by omega)).mono ?_
  rintro e w3 ⟨v, hv, rfl, hc, hg⟩
  have hbw := hc2.bw
  have hkeep := World.cell?_of_block (a := ⟨w2.heap.size, v, none⟩) (hg.block w2.heap.size (by simp) (by intro e; injection e; omega))
  obtain ⟨q, hin, hq⟩ : ∃ q : Int, okI 3 q ∧ w3.cell? ⟨w2.heap.size, v, none⟩ = some (.int .i64 q) := by
    rw [hkeep]
    rcases (show v = 0 ∨ v = 1 ∨ v = 2 ∨ v = 3 by omega) with rfl | rfl | rfl | rfl
    · exact ⟨(x : Int) - 2048, by simp only [okI]; simp <;> omega, by simp⟩
    · exact ⟨(y : Int) - 8, by simp only [okI]; simp <;> omega, by simp⟩
    · exact ⟨-2048, by simp [okI], by simp⟩
    · exact ⟨2047, by simp [okI], by simp⟩
  have hq' : w3.cell? ⟨w2.heap.size, 0 + v, none⟩ = some (.int .i64 q) := by rw [Nat.zero_add]; exact hq
  have hg' : w.grownBy w3 (some b) := grownBy_trans (grownBy_trans (grownBy_trans hg1 hg2) (World.grownBy_alloc w2 _ _)) hg
  clear hkeep hg hg1 hg2 hc2 hx hx1 hy hy1
  go_wp2
  go_ret
  exact ⟨q, hin, rfl, hc.mono (by omega), hg'⟩
theorem imm_4 (B b len cap m : Nat) (a : Option Addr) (w : World) (h : Ctx w B b a len cap m) (hm : m ≤ 90000) :
    Calls Tryd.prog 71 #[.pointer (some ⟨b, 0, none⟩), .int .i64 4] w fun e w' => ∃ v : Int, okI 4 v ∧ e = .returned (.int .i64 v) ∧ Ctx w' B b a len cap (m + 10) ∧ w.grownBy w' (some b) := by
  go_enter Tryd.func71, Tryd.ntmps71
  go_wp2_with fail
  refine (next_4096 B b len cap m a w h (by omega)).mono ?_
  rintro e w1 ⟨x, hx, rfl, hc1, hg1⟩
  have hx1 : (x : Int) < 4096 := by omega
  go_wp2_with fail
  refine (next_small B b len cap _ 40 a _ hc1 (by omega) (by omega) (by omega)).mono ?_
  rintro e w2 ⟨y, hy, rfl, hc2, hg2⟩
  have hy1 : (y : Int) < 40 := by omega
  clear h hc1
  go_wp2_with fail
  refine (next_small B b len cap _ 4 a _ (hc2.alloc _) (by omega) (by omega) (by omega)).mono ?_
  rintro e w3 ⟨v, hv, rfl, hc, hg⟩
  have hbw := hc2.bw
  have hkeep := World.cell?_of_block (a := ⟨w2.heap.size, v, none⟩) (hg.block w2.heap.size (by simp) (by intro e; injection e; omega))
  obtain ⟨q, hin, hq⟩ : ∃ q : Int, okI 4 q ∧ w3.cell? ⟨w2.heap.size, v, none⟩ = some (.int .i64 q) := by
    rw [hkeep]
    rcases (show v = 0 ∨ v = 1 ∨ v = 2 ∨ v = 3 by omega) with rfl | rfl | rfl | rfl
    · exact ⟨2 * ((x : Int) - 2048), by simp only [okI]; simp <;> omega, by simp⟩
    · exact ⟨4 * (y : Int) - 60, by simp only [okI]; simp <;> omega, by simp⟩
    · exact ⟨-4096, by simp [okI], by simp⟩
    · exact ⟨4094, by simp [okI], by simp⟩
  have hq' : w3.cell? ⟨w2.heap.size, 0 + v, none⟩ = some (.int .i64 q) := by rw [Nat.zero_add]; exact hq
  have hg' : w.grownBy w3 (some b) := grownBy_trans (grownBy_trans (grownBy_trans hg1 hg2) (World.grownBy_alloc w2 _ _)) hg
  clear hkeep hg hg1 hg2 hc2 hx hx1 hy hy1
  go_wp2
  go_ret
  exact ⟨q, hin, rfl, hc.mono (by omega), hg'⟩
theorem imm_5 (B b len cap m : Nat) (a : Option Addr) (w : World) (h : Ctx w B b a len cap m) (hm : m ≤ 90000) :
    Calls Tryd.prog 71 #[.pointer (some ⟨b, 0, none⟩), .int .i64 5] w fun e w' => ∃ v : Int, okI 5 v ∧ e = .returned (.int .i64 v) ∧ Ctx w' B b a len cap (m + 10) ∧ w.grownBy w' (some b) := by
  go_enter Tryd.func71, Tryd.ntmps71
  go_wp2_with fail
  refine (next_4096 B b len cap m a w h (by omega)).mono ?_
  rintro e w1 ⟨x, hx, rfl, hc1, hg1⟩
  have hx1 : (x : Int) < 4096 := by omega
  go_wp2_with fail
  refine (next_small B b len cap _ 40 a _ hc1 (by omega) (by omega) (by omega)).mono ?_
  rintro e w2 ⟨y, hy, rfl, hc2, hg2⟩
  have hy1 : (y : Int) < 40 := by omega
  clear h hc1
  go_wp2_with fail
  refine (next_small B b len cap _ 4 a _ (hc2.alloc _) (by omega) (by omega) (by omega)).mono ?_
  rintro e w3 ⟨v, hv, rfl, hc, hg⟩
  have hbw := hc2.bw
  have hkeep := World.cell?_of_block (a := ⟨w2.heap.size, v, none⟩) (hg.block w2.heap.size (by simp) (by intro e; injection e; omega))
  obtain ⟨q, hin, hq⟩ : ∃ q : Int, okI 5 q ∧ w3.cell? ⟨w2.heap.size, v, none⟩ = some (.int .i64 q) := by
    rw [hkeep]
    rcases (show v = 0 ∨ v = 1 ∨ v = 2 ∨ v = 3 by omega) with rfl | rfl | rfl | rfl
    · exact ⟨(x : Int) - 2048, by simp only [okI]; simp <;> omega, by simp⟩
    · exact ⟨(y : Int) - 8, by simp only [okI]; simp <;> omega, by simp⟩
    · exact ⟨-2048, by simp [okI], by simp⟩
    · exact ⟨2047, by simp [okI], by simp⟩
  have hq' : w3.cell? ⟨w2.heap.size, 0 + v, none⟩ = some (.int .i64 q) := by rw [Nat.zero_add]; exact hq
  have hg' : w.grownBy w3 (some b) := grownBy_trans (grownBy_trans (grownBy_trans hg1 hg2) (World.grownBy_alloc w2 _ _)) hg
  clear hkeep hg hg1 hg2 hc2 hx hx1 hy hy1
  go_wp2
  go_ret
  exact ⟨q, hin, rfl, hc.mono (by omega), hg'⟩
theorem imm_6 (B b len cap m : Nat) (a : Option Addr) (w : World) (h : Ctx w B b a len cap m) (hm : m ≤ 90000) :
    Calls Tryd.prog 71 #[.pointer (some ⟨b, 0, none⟩), .int .i64 6] w fun e w' => ∃ v : Int, okI 6 v ∧ e = .returned (.int .i64 v) ∧ Ctx w' B b a len cap (m + 10) ∧ w.grownBy w' (some b) := by
  go_enter Tryd.func71, Tryd.ntmps71
  go_wp2_with fail
  refine (next_small B b len cap m 64 a w h (by omega) (by omega) (by omega)).mono ?_
  rintro e w1 ⟨x, hx, rfl, hc1, hg1⟩
  clear h
  go_wp2
  go_ret
  exact ⟨x, by simp only [okI]; simp <;> omega, rfl, hc1.mono (by omega), hg1⟩
theorem imm_7 (B b len cap m : Nat) (a : Option Addr) (w : World) (h : Ctx w B b a len cap m) (hm : m ≤ 90000) :
    Calls Tryd.prog 71 #[.pointer (some ⟨b, 0, none⟩), .int .i64 7] w fun e w' => ∃ v : Int, okI 7 v ∧ e = .returned (.int .i64 v) ∧ Ctx w' B b a len cap (m + 10) ∧ w.grownBy w' (some b) := by
  go_enter Tryd.func71, Tryd.ntmps71
  go_wp2_with fail
  refine (next_small B b len cap m 32 a w h (by omega) (by omega) (by omega)).mono ?_
  rintro e w1 ⟨x, hx, rfl, hc1, hg1⟩
  clear h
  go_wp2
  go_ret
  exact ⟨x, by simp only [okI]; simp <;> omega, rfl, hc1.mono (by omega), hg1⟩
theorem imm_8 (B b len cap m : Nat) (a : Option Addr) (w : World) (h : Ctx w B b a len cap m) (hm : m ≤ 90000) :
    Calls Tryd.prog 71 #[.pointer (some ⟨b, 0, none⟩), .int .i64 8] w fun e w' => ∃ v : Int, okI 8 v ∧ e = .returned (.int .i64 v) ∧ Ctx w' B b a len cap (m + 10) ∧ w.grownBy w' (some b) := by
  go_enter Tryd.func71, Tryd.ntmps71
  go_wp2
  go_ret
  exact ⟨0, by simp [okI], rfl, h.mono (by omega), grownBy_refl _ _⟩
theorem imm_9 (B b len cap m : Nat) (a : Option Addr) (w : World) (h : Ctx w B b a len cap m) (hm : m ≤ 90000) :
    Calls Tryd.prog 71 #[.pointer (some ⟨b, 0, none⟩), .int .i64 9] w fun e w' => ∃ v : Int, okI 9 v ∧ e = .returned (.int .i64 v) ∧ Ctx w' B b a len cap (m + 10) ∧ w.grownBy w' (some b) := by
  go_enter Tryd.func71, Tryd.ntmps71
  go_wp2
  go_ret
  exact ⟨0, by simp [okI], rfl, h.mono (by omega), grownBy_refl _ _⟩
theorem imm_ctx (f : Int) (f0 : 1 ≤ f) (f1 : f ≤ 9) (B b len cap m : Nat) (a : Option Addr) (w : World) (h : Ctx w B b a len cap m) (hm : m ≤ 90000) :
    Calls Tryd.prog 71 #[.pointer (some ⟨b, 0, none⟩), .int .i64 f] w fun e w' => ∃ v : Int, okI f v ∧ e = .returned (.int .i64 v) ∧ Ctx w' B b a len cap (m + 10) ∧ w.grownBy w' (some b) := by
  rcases (show f = 1 ∨ f = 2 ∨ f = 3 ∨ f = 4 ∨ f = 5 ∨ f = 6 ∨ f = 7 ∨ f = 8 ∨ f = 9 by omega) with rfl | rfl | rfl | rfl | rfl | rfl | rfl | rfl | rfl
  · exact imm_1 B b len cap m a w h hm
  · exact imm_2 B b len cap m a w h hm
  · exact imm_3 B b len cap m a w h hm
  · exact imm_4 B b len cap m a w h hm
  · exact imm_5 B b len cap m a w h hm
  · exact imm_6 B b len cap m a w h hm
  · exact imm_7 B b len cap m a w h hm
  · exact imm_8 B b len cap m a w h hm
  · exact imm_9 B b len cap m a w h hm
end Go.Proofs.YtepanogpojolfaaDoor
