/- An instruction drawn is one. -/
import Derived.Test.YtepanogpojolfaaDoorGLDecode3
namespace Go.Proofs.YtepanogpojolfaaDoor
open Go.RowKit
set_option linter.unusedVariables false

theorem drawn_right (f rd r1 r2 im : Int) (f0 : 1 ≤ f) (f1 : f ≤ 9) (h1 : 0 ≤ rd ∧ rd < 32) (h2 : 0 ≤ r1 ∧ r1 < 32) (h3 : 0 ≤ r2 ∧ r2 < 32) (hi : okI f im) :
    rightF f (if f = 4 ∨ f = 5 ∨ f = 9 then 0 else rd) (if f = 1 ∨ f = 2 ∨ f = 9 then 0 else r1) (if f = 4 ∨ f = 5 ∨ f = 8 then r2 else 0) im = true := by
  have b1 : regB rd = true := decide_eq_true (by omega)
  have b2 : regB r1 = true := decide_eq_true (by omega)
  have b3 : regB r2 = true := decide_eq_true (by omega)
  have hk : okB f im = true := okB_t (by omega) (by omega) hi
  rcases (show f = 1 ∨ f = 2 ∨ f = 3 ∨ f = 4 ∨ f = 5 ∨ f = 6 ∨ f = 7 ∨ f = 8 ∨ f = 9 by omega) with rfl | rfl | rfl | rfl | rfl | rfl | rfl | rfl | rfl
  · simp [rightF, b1, hk]
  · simp [rightF, b1, hk]
  · simp [rightF, b1, b2, hk]
  · simp [rightF, b2, b3, hk]
  · simp [rightF, b2, b3, hk]
  · simp [rightF, b1, b2, hk]
  · simp [rightF, b1, b2, hk]
  · have : im = 0 := hi
    simp [rightF, b1, b2, b3, this]
  · have : im = 0 := hi
    simp [rightF, this]

theorem shF2 (op f c g h : Int) (hs : shT op = (f, c, g, h)) : ∀ w, (Instr.field 57 (shV (shT op)) 0).run Tryd.prog w = .ok (.int .i64 f) w := fun w => by
  rw [hs]
  unfold shV
  kernel_rfl

set_option maxRecDepth 100000 in
set_option maxHeartbeats 8000000 in
theorem instr_ctx (B b len cap m : Nat) (a : Option Addr) (w : World) (h : Ctx w B b a len cap m) (hm : m ≤ 80000) :
    Calls Tryd.prog 34 #[.pointer (some ⟨b, 0, none⟩)] w fun e w' => ∃ op rd r1 r2 im : Int, rightB op rd r1 r2 im = true ∧ e = .returned (.agg #[.int .i64 op, .int .i64 rd, .int .i64 r1, .int .i64 r2, .int .i64 im]) ∧ Ctx w' B b a len cap (m + 100) ∧ w.grownBy w' (some b) := by
  have hbw := h.bw
  go_enter Tryd.func34, Tryd.ntmps34
  go_wp2_with fail
  refine (next_small B b len cap m 64 a _ (h.alloc _) (by omega) (by omega) (by omega)).mono ?_
  rintro e w1 ⟨o, ho, rfl, hc1, hg1⟩
  have ho1 : (o : Int) < 64 := by omega
  have R1 : Five w1 w.heap.size 0 0 0 0 0 := Five.grown (w := w.alloc (.cells #[.int .i64 0, .int .i64 0, .int .i64 0, .int .i64 0, .int .i64 0] 24)) (by constructor <;> simp) hg1 (by simp) (by intro e; injection e; omega)
  have z1 : w.heap.size + 1 ≤ w1.heap.size := by have := hg1.size; simp at this; omega
  have G1 : w.grownBy w1 (some b) := grownBy_trans (World.grownBy_alloc w _ _) hg1
  clear hg1 h
  go_wp2_with fail
  refine (next_small B b len cap _ 32 a _ hc1 (by omega) (by omega) (by omega)).mono ?_
  rintro e w2 ⟨rd, hrd, rfl, hc2, hg2⟩
  have R2 := R1.grown hg2 (by omega) (by intro e; injection e; omega)
  have z2 := Nat.le_trans z1 hg2.size
  have G2 := grownBy_trans G1 hg2
  clear hg2 G1 R1 z1 hc1
  go_wp2_with fail
  refine (next_small B b len cap _ 32 a _ hc2 (by omega) (by omega) (by omega)).mono ?_
  rintro e w3 ⟨r1, hr1, rfl, hc3, hg3⟩
  have R3 := R2.grown hg3 (by omega) (by intro e; injection e; omega)
  have z3 := Nat.le_trans z2 hg3.size
  have G3 := grownBy_trans G2 hg3
  clear hg3 G2 R2 z2 hc2
  go_wp2_with fail
  refine (next_small B b len cap _ 32 a _ hc3 (by omega) (by omega) (by omega)).mono ?_
  rintro e w4 ⟨r2, hr2, rfl, hc4, hg4⟩
  have R4 := R3.grown hg4 (by omega) (by intro e; injection e; omega)
  have z4 := Nat.le_trans z3 hg4.size
  have G4 := grownBy_trans G3 hg4
  clear hg4 G3 R3 z3 hc3
  have hop0 : 1 ≤ 1 + (o : Int) := by omega
  have hop1 : 1 + (o : Int) ≤ 64 := by omega
  generalize hop : 1 + (o : Int) = op at *
  clear hop ho ho1
  obtain ⟨⟨f, c, g, hh⟩, hs⟩ : ∃ s, s = shT op := ⟨_, rfl⟩
  have hok : shOK f c g hh = true := by
    have := shT_ok op hop0 hop1
    rw [← hs] at this
    exact this
  obtain ⟨f0, f1, _⟩ := sh_bounds hok
  have HS : Hid (shT op = (f, c, g, hh)) := hs.symm
  have hsf := shF2 op f c g hh hs.symm
  have HRT : Hid (∀ im, okI f im → rightB op (if f = 4 ∨ f = 5 ∨ f = 9 then 0 else (rd : Int)) (if f = 1 ∨ f = 2 ∨ f = 9 then 0 else (r1 : Int)) (if f = 4 ∨ f = 5 ∨ f = 8 then (r2 : Int) else 0) im = true) := by
    intro im hi
    unfold rightB
    rw [HS.out, drawn_right f rd r1 r2 im f0 f1 (by omega) (by omega) (by omega) hi, Bool.and_true]
    exact decide_eq_true ⟨hop0, hop1⟩
  clear hs hok
  go_wp2_with fail
  have hc5 := hc4.alloc (.cells #[.int .i64 op, .int .i64 (rd : Int), .int .i64 (r1 : Int), .int .i64 (r2 : Int), .int .i64 0] 24)
  have X5 : Five (w4.alloc (.cells #[.int .i64 op, .int .i64 (rd : Int), .int .i64 (r1 : Int), .int .i64 (r2 : Int), .int .i64 0] 24)) w4.heap.size op rd r1 r2 0 := by constructor <;> simp
  have R5 := R4.below ((Below.refl w4.heap.size w4).alloc (Nat.le_refl _) (.cells #[.int .i64 op, .int .i64 (rd : Int), .int .i64 (r1 : Int), .int .i64 (r2 : Int), .int .i64 0] 24)) (by omega)
  have G5 := grownBy_alloc1 G4 (.cells #[.int .i64 op, .int .i64 (rd : Int), .int .i64 (r1 : Int), .int .i64 (r2 : Int), .int .i64 0] 24)
  refine (specShC op _).mono ?_
  rintro e w6 ⟨rfl, hb6⟩
  have hc6 := hc5.below hb6
  have X6 := X5.below hb6 (by simp)
  have R6 := R5.below hb6 (by simp; omega)
  have G6 := grownBy_below G5 hb6
  have z6 : w4.heap.size + 1 ≤ w6.heap.size := by have := hb6.size; simp at this; omega
  clear hb6 hc5 X5 R5 G5 G4 R4 hc4
  obtain ⟨c0, c1, c2, c3, c4, f0', f1', f2', f3', f4'⟩ := X6
  have X6 : Hid (Five w6 w4.heap.size op rd r1 r2 0) := ⟨c0, c1, c2, c3, c4, f0', f1', f2', f3', f4'⟩
  have R6' : Hid (Five w6 w.heap.size 0 0 0 0 0) := R6
  have hc6' : Hid (Ctx w6 B b a len cap (m + 1 + 1 + 1 + 1)) := hc6
  have G6' : Hid (w.grownBy w6 (some b)) := G6
  clear R6 hc6 G6
  rcases (show f = 1 ∨ f = 2 ∨ f = 3 ∨ f = 4 ∨ f = 5 ∨ f = 6 ∨ f = 7 ∨ f = 8 ∨ f = 9 by omega) with rfl | rfl | rfl | rfl | rfl | rfl | rfl | rfl | rfl
  · have X7 := ((X6.out.set2 0).set3 0)
    have R7 := ((R6'.out.oth2 (d := w4.heap.size) (by omega) (.int .i64 0)).oth3 (d := w4.heap.size) (by omega) (.int .i64 0))
    have C7 := ((hc6'.out.cell w4.heap.size 2 (.int .i64 0) (by omega)).cell w4.heap.size 3 (.int .i64 0) (by omega))
    have G7 := (grownBy_cell (grownBy_cell G6'.out w4.heap.size 2 (.int .i64 0) (by omega)) w4.heap.size 3 (.int .i64 0) (by omega))
    clear X6 R6' hc6' G6' HS f0 f1
    have X7' : Hid _ := X7
    have R7' : Hid _ := R7
    have C7' : Hid _ := C7
    have G7' : Hid _ := G7
    clear X7 R7 C7 G7
    go_wp2_with fail
    refine (imm_1 B b len cap _ a _ C7'.out (by omega)).mono ?_
    rintro e w8 ⟨im, him, rfl, hc8, hg8⟩
    have z8 : w4.heap.size + 1 ≤ w8.heap.size := by have := hg8.size; (try simp at this); omega
    have X8 := X7'.out.grown hg8 (by first | omega | (simp; omega)) (by intro e; injection e; omega)
    obtain ⟨d0, d1, d2, d3, d4, g0, g1, g2, g3, g4⟩ := R7'.out.grown hg8 (by first | omega | (simp; omega)) (by intro e; injection e; omega)
    have G8 := grownBy_trans G7'.out hg8
    clear X7' R7' C7' G7' hg8 c0 c1 c2 c3 c4 f0' f1' f2' f3' f4'
    obtain ⟨c0, c1, c2, c3, c4, f0', f1', f2', f3', f4'⟩ := X8
    have hr : rightB op (rd : Int) 0 0 im = true := by
      have := HRT.out im him
      simpa using this
    have HR : Hid (rightB op (rd : Int) 0 0 im = true) := hr
    clear hr HRT him hsf
    go_wp2
    refine bodyPost_ret (v := .agg #[.int .i64 op, .int .i64 (rd : Int), .int .i64 0, .int .i64 0, .int .i64 im]) (by simp [results, Tryd.results34, go_sem, d0, d1, d2, d3, d4]) rfl ⟨op, (rd : Int), 0, 0, im, HR.out, rfl, ?_, ?_⟩
    · refine Ctx.mono (m := m + 1 + 1 + 1 + 1 + 10) ?_ (by omega)
      repeat (first | with_reducible exact hc8 | refine Ctx.cell ?_ _ _ _ (by omega))
    · repeat (first | with_reducible exact G8 | refine grownBy_cell ?_ _ _ _ (by omega))
  · have X7 := ((X6.out.set2 0).set3 0)
    have R7 := ((R6'.out.oth2 (d := w4.heap.size) (by omega) (.int .i64 0)).oth3 (d := w4.heap.size) (by omega) (.int .i64 0))
    have C7 := ((hc6'.out.cell w4.heap.size 2 (.int .i64 0) (by omega)).cell w4.heap.size 3 (.int .i64 0) (by omega))
    have G7 := (grownBy_cell (grownBy_cell G6'.out w4.heap.size 2 (.int .i64 0) (by omega)) w4.heap.size 3 (.int .i64 0) (by omega))
    clear X6 R6' hc6' G6' HS f0 f1
    have X7' : Hid _ := X7
    have R7' : Hid _ := R7
    have C7' : Hid _ := C7
    have G7' : Hid _ := G7
    clear X7 R7 C7 G7
    go_wp2_with fail
    refine (imm_2 B b len cap _ a _ C7'.out (by omega)).mono ?_
    rintro e w8 ⟨im, him, rfl, hc8, hg8⟩
    have z8 : w4.heap.size + 1 ≤ w8.heap.size := by have := hg8.size; (try simp at this); omega
    have X8 := X7'.out.grown hg8 (by first | omega | (simp; omega)) (by intro e; injection e; omega)
    obtain ⟨d0, d1, d2, d3, d4, g0, g1, g2, g3, g4⟩ := R7'.out.grown hg8 (by first | omega | (simp; omega)) (by intro e; injection e; omega)
    have G8 := grownBy_trans G7'.out hg8
    clear X7' R7' C7' G7' hg8 c0 c1 c2 c3 c4 f0' f1' f2' f3' f4'
    obtain ⟨c0, c1, c2, c3, c4, f0', f1', f2', f3', f4'⟩ := X8
    have hr : rightB op (rd : Int) 0 0 im = true := by
      have := HRT.out im him
      simpa using this
    have HR : Hid (rightB op (rd : Int) 0 0 im = true) := hr
    clear hr HRT him hsf
    go_wp2
    refine bodyPost_ret (v := .agg #[.int .i64 op, .int .i64 (rd : Int), .int .i64 0, .int .i64 0, .int .i64 im]) (by simp [results, Tryd.results34, go_sem, d0, d1, d2, d3, d4]) rfl ⟨op, (rd : Int), 0, 0, im, HR.out, rfl, ?_, ?_⟩
    · refine Ctx.mono (m := m + 1 + 1 + 1 + 1 + 10) ?_ (by omega)
      repeat (first | with_reducible exact hc8 | refine Ctx.cell ?_ _ _ _ (by omega))
    · repeat (first | with_reducible exact G8 | refine grownBy_cell ?_ _ _ _ (by omega))
  · have X7 := (X6.out.set3 0)
    have R7 := (R6'.out.oth3 (d := w4.heap.size) (by omega) (.int .i64 0))
    have C7 := (hc6'.out.cell w4.heap.size 3 (.int .i64 0) (by omega))
    have G7 := (grownBy_cell G6'.out w4.heap.size 3 (.int .i64 0) (by omega))
    clear X6 R6' hc6' G6' HS f0 f1
    have X7' : Hid _ := X7
    have R7' : Hid _ := R7
    have C7' : Hid _ := C7
    have G7' : Hid _ := G7
    clear X7 R7 C7 G7
    go_wp2_with fail
    refine (imm_3 B b len cap _ a _ C7'.out (by omega)).mono ?_
    rintro e w8 ⟨im, him, rfl, hc8, hg8⟩
    have z8 : w4.heap.size + 1 ≤ w8.heap.size := by have := hg8.size; (try simp at this); omega
    have X8 := X7'.out.grown hg8 (by first | omega | (simp; omega)) (by intro e; injection e; omega)
    obtain ⟨d0, d1, d2, d3, d4, g0, g1, g2, g3, g4⟩ := R7'.out.grown hg8 (by first | omega | (simp; omega)) (by intro e; injection e; omega)
    have G8 := grownBy_trans G7'.out hg8
    clear X7' R7' C7' G7' hg8 c0 c1 c2 c3 c4 f0' f1' f2' f3' f4'
    obtain ⟨c0, c1, c2, c3, c4, f0', f1', f2', f3', f4'⟩ := X8
    have hr : rightB op (rd : Int) (r1 : Int) 0 im = true := by
      have := HRT.out im him
      simpa using this
    have HR : Hid (rightB op (rd : Int) (r1 : Int) 0 im = true) := hr
    clear hr HRT him hsf
    go_wp2
    refine bodyPost_ret (v := .agg #[.int .i64 op, .int .i64 (rd : Int), .int .i64 (r1 : Int), .int .i64 0, .int .i64 im]) (by simp [results, Tryd.results34, go_sem, d0, d1, d2, d3, d4]) rfl ⟨op, (rd : Int), (r1 : Int), 0, im, HR.out, rfl, ?_, ?_⟩
    · refine Ctx.mono (m := m + 1 + 1 + 1 + 1 + 10) ?_ (by omega)
      repeat (first | with_reducible exact hc8 | refine Ctx.cell ?_ _ _ _ (by omega))
    · repeat (first | with_reducible exact G8 | refine grownBy_cell ?_ _ _ _ (by omega))
  · have X7 := (X6.out.set1 0)
    have R7 := (R6'.out.oth1 (d := w4.heap.size) (by omega) (.int .i64 0))
    have C7 := (hc6'.out.cell w4.heap.size 1 (.int .i64 0) (by omega))
    have G7 := (grownBy_cell G6'.out w4.heap.size 1 (.int .i64 0) (by omega))
    clear X6 R6' hc6' G6' HS f0 f1
    have X7' : Hid _ := X7
    have R7' : Hid _ := R7
    have C7' : Hid _ := C7
    have G7' : Hid _ := G7
    clear X7 R7 C7 G7
    go_wp2_with fail
    refine (imm_4 B b len cap _ a _ C7'.out (by omega)).mono ?_
    rintro e w8 ⟨im, him, rfl, hc8, hg8⟩
    have z8 : w4.heap.size + 1 ≤ w8.heap.size := by have := hg8.size; (try simp at this); omega
    have X8 := X7'.out.grown hg8 (by first | omega | (simp; omega)) (by intro e; injection e; omega)
    obtain ⟨d0, d1, d2, d3, d4, g0, g1, g2, g3, g4⟩ := R7'.out.grown hg8 (by first | omega | (simp; omega)) (by intro e; injection e; omega)
    have G8 := grownBy_trans G7'.out hg8
    clear X7' R7' C7' G7' hg8 c0 c1 c2 c3 c4 f0' f1' f2' f3' f4'
    obtain ⟨c0, c1, c2, c3, c4, f0', f1', f2', f3', f4'⟩ := X8
    have hr : rightB op 0 (r1 : Int) (r2 : Int) im = true := by
      have := HRT.out im him
      simpa using this
    have HR : Hid (rightB op 0 (r1 : Int) (r2 : Int) im = true) := hr
    clear hr HRT him hsf
    go_wp2
    refine bodyPost_ret (v := .agg #[.int .i64 op, .int .i64 0, .int .i64 (r1 : Int), .int .i64 (r2 : Int), .int .i64 im]) (by simp [results, Tryd.results34, go_sem, d0, d1, d2, d3, d4]) rfl ⟨op, 0, (r1 : Int), (r2 : Int), im, HR.out, rfl, ?_, ?_⟩
    · refine Ctx.mono (m := m + 1 + 1 + 1 + 1 + 10) ?_ (by omega)
      repeat (first | with_reducible exact hc8 | refine Ctx.cell ?_ _ _ _ (by omega))
    · repeat (first | with_reducible exact G8 | refine grownBy_cell ?_ _ _ _ (by omega))
  · have X7 := (X6.out.set1 0)
    have R7 := (R6'.out.oth1 (d := w4.heap.size) (by omega) (.int .i64 0))
    have C7 := (hc6'.out.cell w4.heap.size 1 (.int .i64 0) (by omega))
    have G7 := (grownBy_cell G6'.out w4.heap.size 1 (.int .i64 0) (by omega))
    clear X6 R6' hc6' G6' HS f0 f1
    have X7' : Hid _ := X7
    have R7' : Hid _ := R7
    have C7' : Hid _ := C7
    have G7' : Hid _ := G7
    clear X7 R7 C7 G7
    go_wp2_with fail
    refine (imm_5 B b len cap _ a _ C7'.out (by omega)).mono ?_
    rintro e w8 ⟨im, him, rfl, hc8, hg8⟩
    have z8 : w4.heap.size + 1 ≤ w8.heap.size := by have := hg8.size; (try simp at this); omega
    have X8 := X7'.out.grown hg8 (by first | omega | (simp; omega)) (by intro e; injection e; omega)
    obtain ⟨d0, d1, d2, d3, d4, g0, g1, g2, g3, g4⟩ := R7'.out.grown hg8 (by first | omega | (simp; omega)) (by intro e; injection e; omega)
    have G8 := grownBy_trans G7'.out hg8
    clear X7' R7' C7' G7' hg8 c0 c1 c2 c3 c4 f0' f1' f2' f3' f4'
    obtain ⟨c0, c1, c2, c3, c4, f0', f1', f2', f3', f4'⟩ := X8
    have hr : rightB op 0 (r1 : Int) (r2 : Int) im = true := by
      have := HRT.out im him
      simpa using this
    have HR : Hid (rightB op 0 (r1 : Int) (r2 : Int) im = true) := hr
    clear hr HRT him hsf
    go_wp2
    refine bodyPost_ret (v := .agg #[.int .i64 op, .int .i64 0, .int .i64 (r1 : Int), .int .i64 (r2 : Int), .int .i64 im]) (by simp [results, Tryd.results34, go_sem, d0, d1, d2, d3, d4]) rfl ⟨op, 0, (r1 : Int), (r2 : Int), im, HR.out, rfl, ?_, ?_⟩
    · refine Ctx.mono (m := m + 1 + 1 + 1 + 1 + 10) ?_ (by omega)
      repeat (first | with_reducible exact hc8 | refine Ctx.cell ?_ _ _ _ (by omega))
    · repeat (first | with_reducible exact G8 | refine grownBy_cell ?_ _ _ _ (by omega))
  · have X7 := (X6.out.set3 0)
    have R7 := (R6'.out.oth3 (d := w4.heap.size) (by omega) (.int .i64 0))
    have C7 := (hc6'.out.cell w4.heap.size 3 (.int .i64 0) (by omega))
    have G7 := (grownBy_cell G6'.out w4.heap.size 3 (.int .i64 0) (by omega))
    clear X6 R6' hc6' G6' HS f0 f1
    have X7' : Hid _ := X7
    have R7' : Hid _ := R7
    have C7' : Hid _ := C7
    have G7' : Hid _ := G7
    clear X7 R7 C7 G7
    go_wp2_with fail
    refine (imm_6 B b len cap _ a _ C7'.out (by omega)).mono ?_
    rintro e w8 ⟨im, him, rfl, hc8, hg8⟩
    have z8 : w4.heap.size + 1 ≤ w8.heap.size := by have := hg8.size; (try simp at this); omega
    have X8 := X7'.out.grown hg8 (by first | omega | (simp; omega)) (by intro e; injection e; omega)
    obtain ⟨d0, d1, d2, d3, d4, g0, g1, g2, g3, g4⟩ := R7'.out.grown hg8 (by first | omega | (simp; omega)) (by intro e; injection e; omega)
    have G8 := grownBy_trans G7'.out hg8
    clear X7' R7' C7' G7' hg8 c0 c1 c2 c3 c4 f0' f1' f2' f3' f4'
    obtain ⟨c0, c1, c2, c3, c4, f0', f1', f2', f3', f4'⟩ := X8
    have hr : rightB op (rd : Int) (r1 : Int) 0 im = true := by
      have := HRT.out im him
      simpa using this
    have HR : Hid (rightB op (rd : Int) (r1 : Int) 0 im = true) := hr
    clear hr HRT him hsf
    go_wp2
    refine bodyPost_ret (v := .agg #[.int .i64 op, .int .i64 (rd : Int), .int .i64 (r1 : Int), .int .i64 0, .int .i64 im]) (by simp [results, Tryd.results34, go_sem, d0, d1, d2, d3, d4]) rfl ⟨op, (rd : Int), (r1 : Int), 0, im, HR.out, rfl, ?_, ?_⟩
    · refine Ctx.mono (m := m + 1 + 1 + 1 + 1 + 10) ?_ (by omega)
      repeat (first | with_reducible exact hc8 | refine Ctx.cell ?_ _ _ _ (by omega))
    · repeat (first | with_reducible exact G8 | refine grownBy_cell ?_ _ _ _ (by omega))
  · have X7 := (X6.out.set3 0)
    have R7 := (R6'.out.oth3 (d := w4.heap.size) (by omega) (.int .i64 0))
    have C7 := (hc6'.out.cell w4.heap.size 3 (.int .i64 0) (by omega))
    have G7 := (grownBy_cell G6'.out w4.heap.size 3 (.int .i64 0) (by omega))
    clear X6 R6' hc6' G6' HS f0 f1
    have X7' : Hid _ := X7
    have R7' : Hid _ := R7
    have C7' : Hid _ := C7
    have G7' : Hid _ := G7
    clear X7 R7 C7 G7
    go_wp2_with fail
    refine (imm_7 B b len cap _ a _ C7'.out (by omega)).mono ?_
    rintro e w8 ⟨im, him, rfl, hc8, hg8⟩
    have z8 : w4.heap.size + 1 ≤ w8.heap.size := by have := hg8.size; (try simp at this); omega
    have X8 := X7'.out.grown hg8 (by first | omega | (simp; omega)) (by intro e; injection e; omega)
    obtain ⟨d0, d1, d2, d3, d4, g0, g1, g2, g3, g4⟩ := R7'.out.grown hg8 (by first | omega | (simp; omega)) (by intro e; injection e; omega)
    have G8 := grownBy_trans G7'.out hg8
    clear X7' R7' C7' G7' hg8 c0 c1 c2 c3 c4 f0' f1' f2' f3' f4'
    obtain ⟨c0, c1, c2, c3, c4, f0', f1', f2', f3', f4'⟩ := X8
    have hr : rightB op (rd : Int) (r1 : Int) 0 im = true := by
      have := HRT.out im him
      simpa using this
    have HR : Hid (rightB op (rd : Int) (r1 : Int) 0 im = true) := hr
    clear hr HRT him hsf
    go_wp2
    refine bodyPost_ret (v := .agg #[.int .i64 op, .int .i64 (rd : Int), .int .i64 (r1 : Int), .int .i64 0, .int .i64 im]) (by simp [results, Tryd.results34, go_sem, d0, d1, d2, d3, d4]) rfl ⟨op, (rd : Int), (r1 : Int), 0, im, HR.out, rfl, ?_, ?_⟩
    · refine Ctx.mono (m := m + 1 + 1 + 1 + 1 + 10) ?_ (by omega)
      repeat (first | with_reducible exact hc8 | refine Ctx.cell ?_ _ _ _ (by omega))
    · repeat (first | with_reducible exact G8 | refine grownBy_cell ?_ _ _ _ (by omega))
  · have X7 := X6.out
    have R7 := R6'.out
    have C7 := hc6'.out
    have G7 := G6'.out
    clear X6 R6' hc6' G6' HS f0 f1
    have X7' : Hid _ := X7
    have R7' : Hid _ := R7
    have C7' : Hid _ := C7
    have G7' : Hid _ := G7
    clear X7 R7 C7 G7
    go_wp2_with fail
    refine (imm_8 B b len cap _ a _ C7'.out (by omega)).mono ?_
    rintro e w8 ⟨im, him, rfl, hc8, hg8⟩
    have z8 : w4.heap.size + 1 ≤ w8.heap.size := by have := hg8.size; (try simp at this); omega
    have X8 := X7'.out.grown hg8 (by first | omega | (simp; omega)) (by intro e; injection e; omega)
    obtain ⟨d0, d1, d2, d3, d4, g0, g1, g2, g3, g4⟩ := R7'.out.grown hg8 (by first | omega | (simp; omega)) (by intro e; injection e; omega)
    have G8 := grownBy_trans G7'.out hg8
    clear X7' R7' C7' G7' hg8 c0 c1 c2 c3 c4 f0' f1' f2' f3' f4'
    obtain ⟨c0, c1, c2, c3, c4, f0', f1', f2', f3', f4'⟩ := X8
    have hr : rightB op (rd : Int) (r1 : Int) (r2 : Int) im = true := by
      have := HRT.out im him
      simpa using this
    have HR : Hid (rightB op (rd : Int) (r1 : Int) (r2 : Int) im = true) := hr
    clear hr HRT him hsf
    go_wp2
    refine bodyPost_ret (v := .agg #[.int .i64 op, .int .i64 (rd : Int), .int .i64 (r1 : Int), .int .i64 (r2 : Int), .int .i64 im]) (by simp [results, Tryd.results34, go_sem, d0, d1, d2, d3, d4]) rfl ⟨op, (rd : Int), (r1 : Int), (r2 : Int), im, HR.out, rfl, ?_, ?_⟩
    · refine Ctx.mono (m := m + 1 + 1 + 1 + 1 + 10) ?_ (by omega)
      repeat (first | with_reducible exact hc8 | refine Ctx.cell ?_ _ _ _ (by omega))
    · repeat (first | with_reducible exact G8 | refine grownBy_cell ?_ _ _ _ (by omega))
  · have X7 := (((X6.out.set1 0).set2 0).set3 0)
    have R7 := (((R6'.out.oth1 (d := w4.heap.size) (by omega) (.int .i64 0)).oth2 (d := w4.heap.size) (by omega) (.int .i64 0)).oth3 (d := w4.heap.size) (by omega) (.int .i64 0))
    have C7 := (((hc6'.out.cell w4.heap.size 1 (.int .i64 0) (by omega)).cell w4.heap.size 2 (.int .i64 0) (by omega)).cell w4.heap.size 3 (.int .i64 0) (by omega))
    have G7 := (grownBy_cell (grownBy_cell (grownBy_cell G6'.out w4.heap.size 1 (.int .i64 0) (by omega)) w4.heap.size 2 (.int .i64 0) (by omega)) w4.heap.size 3 (.int .i64 0) (by omega))
    clear X6 R6' hc6' G6' HS f0 f1
    have X7' : Hid _ := X7
    have R7' : Hid _ := R7
    have C7' : Hid _ := C7
    have G7' : Hid _ := G7
    clear X7 R7 C7 G7
    go_wp2_with fail
    refine (imm_9 B b len cap _ a _ C7'.out (by omega)).mono ?_
    rintro e w8 ⟨im, him, rfl, hc8, hg8⟩
    have z8 : w4.heap.size + 1 ≤ w8.heap.size := by have := hg8.size; (try simp at this); omega
    have X8 := X7'.out.grown hg8 (by first | omega | (simp; omega)) (by intro e; injection e; omega)
    obtain ⟨d0, d1, d2, d3, d4, g0, g1, g2, g3, g4⟩ := R7'.out.grown hg8 (by first | omega | (simp; omega)) (by intro e; injection e; omega)
    have G8 := grownBy_trans G7'.out hg8
    clear X7' R7' C7' G7' hg8 c0 c1 c2 c3 c4 f0' f1' f2' f3' f4'
    obtain ⟨c0, c1, c2, c3, c4, f0', f1', f2', f3', f4'⟩ := X8
    have hr : rightB op 0 0 0 im = true := by
      have := HRT.out im him
      simpa using this
    have HR : Hid (rightB op 0 0 0 im = true) := hr
    clear hr HRT him hsf
    go_wp2
    refine bodyPost_ret (v := .agg #[.int .i64 op, .int .i64 0, .int .i64 0, .int .i64 0, .int .i64 im]) (by simp [results, Tryd.results34, go_sem, d0, d1, d2, d3, d4]) rfl ⟨op, 0, 0, 0, im, HR.out, rfl, ?_, ?_⟩
    · refine Ctx.mono (m := m + 1 + 1 + 1 + 1 + 10) ?_ (by omega)
      repeat (first | with_reducible exact hc8 | refine Ctx.cell ?_ _ _ _ (by omega))
    · repeat (first | with_reducible exact G8 | refine grownBy_cell ?_ _ _ _ (by omega))

theorem instrDrawn_any (len cap B : Nat) (a : Option Addr) (w : World) (hB : Bytes w B a len) (hb : B ≤ w.heap.size) :
    Calls Tryd.prog 9 #[.slice a len cap] w fun e w' => ∃ op rd r1 r2 im : Int, rightB op rd r1 r2 im = true ∧ e = .returned (.agg #[.int .i64 op, .int .i64 rd, .int .i64 r1, .int .i64 r2, .int .i64 im]) ∧ Below w.heap.size w w' := by
  go_enter Tryd.func9, Tryd.ntmps9
  go_wp2_with fail
  refine (source_any len cap a _ hB.1).mono ?_
  rintro e w1 ⟨sd, rfl, hs, hbel, hsz⟩
  have hB1 := (hB.below ((Below.refl w.heap.size w).alloc (Nat.le_refl _) (.cells #[.int .i64 0, .int .i64 0, .int .i64 0, .int .i64 0, .int .i64 0] 24) |>.mono hb)).below (hbel.mono (by simp; omega))
  have Z1 : Five w1 w.heap.size 0 0 0 0 0 := Five.below (B := w.heap.size + 1) (by constructor <;> simp) (hbel.mono (by simp)) (by omega)
  have B1 : Below w.heap.size w w1 := ((Below.refl _ _).alloc (Nat.le_refl _) _).trans (hbel.mono (by simp))
  clear hbel
  simp only [World.size_alloc] at hs hsz
  go_wp2_with fail
  refine (instr_ctx B (w.heap.size + 1) len cap 0 a _ ⟨⟨0, sd, by omega, hs⟩, hB1, by omega, hsz⟩ (by omega)).mono ?_
  rintro e w2 ⟨op, rd, r1, r2, im, hr, rfl, hc2, hg2⟩
  obtain ⟨d0, d1, d2, d3, d4, g0, g1, g2, g3, g4⟩ := Z1.grown hg2 (by omega) (by intro e; injection e with e; omega)
  have B2 : Below w.heap.size w w2 := B1.trans (Below.refl _ _ |>.grown hg2 (by have := B1.size; omega) (fun k e => by injection e with e; omega))
  have HR : Hid (rightB op rd r1 r2 im = true) := hr
  clear hr hc2 hg2 Z1 B1 hB1 hs hB
  go_wp2
  refine bodyPost_ret (v := .agg #[.int .i64 op, .int .i64 rd, .int .i64 r1, .int .i64 r2, .int .i64 im]) (by simp [results, Tryd.results9, go_sem, d0, d1, d2, d3, d4]) rfl ⟨op, rd, r1, r2, im, HR.out, rfl, ?_⟩
  repeat (first | with_reducible exact B2 | refine Below.setCell ?_ (by first | omega | (simp; done) | (simp; omega)) _)
end Go.Proofs.YtepanogpojolfaaDoor
