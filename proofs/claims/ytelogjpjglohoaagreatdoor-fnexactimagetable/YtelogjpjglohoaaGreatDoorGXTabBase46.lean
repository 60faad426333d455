/- The model's rule for one instruction that goes nowhere: its cases, 5. The model's rule for one instruction. Both LintFunction. -/
import Derived.Test.YtelogjpjglohoaaGreatDoorGXTabBase42
import Derived.Test.YtelogjpjglohoaaGreatDoorGXTabBase43
import Derived.Test.YtelogjpjglohoaaGreatDoorGXTabBase44
import Derived.Test.YtelogjpjglohoaaGreatDoorGXTabBase45
import Derived.Test.YtelogjpjglohoaaGreatDoorGXTabBase39
import Derived.Test.YtelogjpjglohoaaGreatDoorGXTabBase3
namespace Go.Proofs.YtelogjpjglohoaaGreatDoor
open Go Go.RowKit
set_option linter.unusedVariables false

section
variable {g N c : Nat} {pc : Option Addr} {cc : Nat} {at' f : Int} {R : Nat → Int} {zs : List Int}
set_option maxRecDepth 100000 in
set_option maxHeartbeats 8000000 in
theorem inN1 (i j : Nat) (op r1 r2 im f4 fc fg fh wn : Int) (b : Bool) (w : World) (h : MdIs w g N R pc zs) (hi : i < N) (h2 : 2 ≤ i) (hN : N ≤ 64) (hj : i - 1 = j) (f0 : 16 ≤ f) (f1 : f ≤ 128)
    (ho : R (i * 5) = op) (hr : R (i * 5 + 1) = 1) (hr1 : R (i * 5 + 2) = r1) (hr2' : R (i * 5 + 3) = r2) (him : R (i * 5 + 4) = im) (h4b : (op == 4) = false) (h3b : (op == 3) = false) (hsq : shT op = ⟨f4, fc, fg, fh⟩) (hf4b : (f4 == 4) = false)
    (Ea : ∀ w', MdIs w' g N R pc zs → Calls Tryz.prog 98 #[.slice (some ⟨g, 0, none⟩) N c, .int .i64 (i : Nat), .int .i64 f] w' fun e w'' => e = .returned (.bool true) ∧ Below w'.heap.size w' w'')
    (Eb : ∀ w', MdIs w' g N R pc zs → Calls Tryz.prog 98 #[.slice (some ⟨g, 0, none⟩) N c, .int .i64 (j : Nat), .int .i64 f] w' fun e w'' => e = .returned (.bool b) ∧ Below w'.heap.size w' w'')
    (hop : 11 ≤ op ∧ op ≤ 21) (hwn : wdN op = wn) (hw0 : 0 < wn) (hw8 : wn ≤ 8) (hr2 : (r1 == 2) = false) :
    Calls Tryz.prog 83 #[.slice (some ⟨g, 0, none⟩) N c, .int .i64 i, .int .i64 at', .int .i64 f, .slice pc zs.length cc] w fun e w' => e = .returned (.int .i64 0) ∧ Below w.heap.size w w' := by
  obtain ⟨K, hK⟩ : ∃ K, zs.length = K := ⟨_, rfl⟩
  rw [hK]
  clear hK
  obtain ⟨x0, x1, x2, x3, x4⟩ := h.l.five hi
  simp only [Nat.zero_add] at x0 x1 x2 x3 x4
  rw [ho] at x0
  rw [hr] at x1
  rw [hr1] at x2
  rw [hr2'] at x3
  rw [him] at x4
  have B1 : Below w.heap.size w (w.alloc (.cells #[.int .i64 op, .int .i64 1, .int .i64 r1, .int .i64 r2, .int .i64 im] 93)) := (Below.refl _ _).alloc (Nat.le_refl _) _
  have hh := h.below B1
  have xx : XIs (w.alloc (.cells #[.int .i64 op, .int .i64 1, .int .i64 r1, .int .i64 r2, .int .i64 im] 93)) w.heap.size op 1 r1 r2 im := ⟨by simp, by simp, by simp, by simp, by simp⟩
  have BB : Hid (Below w.heap.size w (w.alloc (.cells #[.int .i64 op, .int .i64 1, .int .i64 r1, .int .i64 r2, .int .i64 im] 93))) := B1
  have hsub : ((i : Int) - 1) = ((j : Nat) : Int) := by omega
  have hsh := fun w' => specShs op f4 fc fg fh w' hsq
  clear B1 h hsq hj ho hr hr1 hr2' him
  have wd := fun w' => specWidIn op w' hop.1 hop.2
  rw [hwn] at wd
  have hwz : ¬ wn = 0 := by omega
  go_enter Tryz.func83, Tryz.ntmps83
  go_wp2_with (go_at_call 97; refine (wd _).mono ?_; rintro e w' ⟨rfl, rfl⟩)
  refine (hsh _).mono ?_
  rintro e w2 ⟨rfl, hb2⟩
  have B2 : Hid (Below _ _ w2) := BB.out.trans (hb2.mono BB.out.size)
  have hh2 := hh.below hb2
  have xx2 := xx.below hb2
  have y1 := xx2.x1
  have y2 := xx2.x2
  have y4 := xx2.x4
  have hfd := shField0 f4 fc fg fh w2
  clear hb2 hh xx BB hsh x0 x1 x2 x3 x4
  go_wp2_with fail
  try rw [hsub]
  refine (Ea _ hh2).mono ?_
  rintro e w3 ⟨rfl, hb3⟩
  have B3 : Hid (Below _ _ w3) := B2.out.trans (hb3.mono B2.out.size)
  have hh3 := hh2.below hb3
  have xx3 := xx2.below hb3
  clear y1 y2 y4 hb3 hh2 xx2 B2
  have y1 := xx3.x1
  have y2 := xx3.x2
  have y4 := xx3.x4
  go_wp2_with fail
  all_goals first
    | (go_ret; exact ⟨rfl, B3.out⟩)
    | (rename_i hx; exfalso; have hy := hx.2; rw [hm3] at hy; cases hy)

set_option maxRecDepth 100000 in
set_option maxHeartbeats 8000000 in
theorem inN2 (i j : Nat) (op r1 r2 im f4 fc fg fh wn : Int) (a : Bool) (w : World) (h : MdIs w g N R pc zs) (hi : i < N) (h2 : 2 ≤ i) (hN : N ≤ 64) (hj : i - 1 = j) (f0 : 16 ≤ f) (f1 : f ≤ 128)
    (ho : R (i * 5) = op) (hr : R (i * 5 + 1) = 2) (hr1 : R (i * 5 + 2) = r1) (hr2' : R (i * 5 + 3) = r2) (him : R (i * 5 + 4) = im) (h4b : (op == 4) = false) (h3b : (op == 3) = false) (hsq : shT op = ⟨f4, fc, fg, fh⟩) (hf4b : (f4 == 4) = false)
    (Ea : ∀ w', MdIs w' g N R pc zs → Calls Tryz.prog 98 #[.slice (some ⟨g, 0, none⟩) N c, .int .i64 (i : Nat), .int .i64 f] w' fun e w'' => e = .returned (.bool a) ∧ Below w'.heap.size w' w'')
    (Eb : ∀ w', MdIs w' g N R pc zs → Calls Tryz.prog 98 #[.slice (some ⟨g, 0, none⟩) N c, .int .i64 (j : Nat), .int .i64 f] w' fun e w'' => e = .returned (.bool true) ∧ Below w'.heap.size w' w'')
    (hop : 11 ≤ op ∧ op ≤ 21) (hwn : wdN op = wn) (hw0 : 0 < wn) (hw8 : wn ≤ 8) (hr2 : (r1 == 2) = false) :
    Calls Tryz.prog 83 #[.slice (some ⟨g, 0, none⟩) N c, .int .i64 i, .int .i64 at', .int .i64 f, .slice pc zs.length cc] w fun e w' => e = .returned (.int .i64 0) ∧ Below w.heap.size w w' := by
  obtain ⟨K, hK⟩ : ∃ K, zs.length = K := ⟨_, rfl⟩
  rw [hK]
  clear hK
  obtain ⟨x0, x1, x2, x3, x4⟩ := h.l.five hi
  simp only [Nat.zero_add] at x0 x1 x2 x3 x4
  rw [ho] at x0
  rw [hr] at x1
  rw [hr1] at x2
  rw [hr2'] at x3
  rw [him] at x4
  have B1 : Below w.heap.size w (w.alloc (.cells #[.int .i64 op, .int .i64 2, .int .i64 r1, .int .i64 r2, .int .i64 im] 93)) := (Below.refl _ _).alloc (Nat.le_refl _) _
  have hh := h.below B1
  have xx : XIs (w.alloc (.cells #[.int .i64 op, .int .i64 2, .int .i64 r1, .int .i64 r2, .int .i64 im] 93)) w.heap.size op 2 r1 r2 im := ⟨by simp, by simp, by simp, by simp, by simp⟩
  have BB : Hid (Below w.heap.size w (w.alloc (.cells #[.int .i64 op, .int .i64 2, .int .i64 r1, .int .i64 r2, .int .i64 im] 93))) := B1
  have hsub : ((i : Int) - 1) = ((j : Nat) : Int) := by omega
  have hsh := fun w' => specShs op f4 fc fg fh w' hsq
  clear B1 h hsq hj ho hr hr1 hr2' him
  have wd := fun w' => specWidIn op w' hop.1 hop.2
  rw [hwn] at wd
  have hwz : ¬ wn = 0 := by omega
  go_enter Tryz.func83, Tryz.ntmps83
  go_wp2_with (go_at_call 97; refine (wd _).mono ?_; rintro e w' ⟨rfl, rfl⟩)
  refine (hsh _).mono ?_
  rintro e w2 ⟨rfl, hb2⟩
  have B2 : Hid (Below _ _ w2) := BB.out.trans (hb2.mono BB.out.size)
  have hh2 := hh.below hb2
  have xx2 := xx.below hb2
  have y1 := xx2.x1
  have y2 := xx2.x2
  have y4 := xx2.x4
  have hfd := shField0 f4 fc fg fh w2
  clear hb2 hh xx BB hsh x0 x1 x2 x3 x4
  go_wp2_with fail
  try rw [hsub]
  refine (Eb _ hh2).mono ?_
  rintro e w3 ⟨rfl, hb3⟩
  have B3 : Hid (Below _ _ w3) := B2.out.trans (hb3.mono B2.out.size)
  have hh3 := hh2.below hb3
  have xx3 := xx2.below hb3
  clear y1 y2 y4 hb3 hh2 xx2 B2
  have y1 := xx3.x1
  have y2 := xx3.x2
  have y4 := xx3.x4
  go_wp2_with fail
  all_goals first
    | (go_ret; exact ⟨rfl, B3.out⟩)
    | (rename_i hx; exfalso; have hy := hx.2; rw [hm3] at hy; cases hy)

set_option maxRecDepth 100000 in
set_option maxHeartbeats 8000000 in
theorem inN3 (i j : Nat) (op rd r1 r2 im f4 fc fg fh wn : Int) (a b : Bool) (w : World) (h : MdIs w g N R pc zs) (hi : i < N) (h2 : 2 ≤ i) (hN : N ≤ 64) (hj : i - 1 = j) (f0 : 16 ≤ f) (f1 : f ≤ 128)
    (ho : R (i * 5) = op) (hr : R (i * 5 + 1) = rd) (hr1 : R (i * 5 + 2) = r1) (hr2' : R (i * 5 + 3) = r2) (him : R (i * 5 + 4) = im) (h4b : (op == 4) = false) (h3b : (op == 3) = false) (hsq : shT op = ⟨f4, fc, fg, fh⟩) (hf4b : (f4 == 4) = false)
    (Ea : ∀ w', MdIs w' g N R pc zs → Calls Tryz.prog 98 #[.slice (some ⟨g, 0, none⟩) N c, .int .i64 (i : Nat), .int .i64 f] w' fun e w'' => e = .returned (.bool a) ∧ Below w'.heap.size w' w'')
    (Eb : ∀ w', MdIs w' g N R pc zs → Calls Tryz.prog 98 #[.slice (some ⟨g, 0, none⟩) N c, .int .i64 (j : Nat), .int .i64 f] w' fun e w'' => e = .returned (.bool b) ∧ Below w'.heap.size w' w'')
    (hop : 11 ≤ op ∧ op ≤ 21) (hwn : wdN op = wn) (hw0 : 0 < wn) (hw8 : wn ≤ 8) (hr2 : (r1 == 2) = false) (g1 : (rd == 1) = false) (g2 : (rd == 2) = false) :
    Calls Tryz.prog 83 #[.slice (some ⟨g, 0, none⟩) N c, .int .i64 i, .int .i64 at', .int .i64 f, .slice pc zs.length cc] w fun e w' => e = .returned (.int .i64 0) ∧ Below w.heap.size w w' := by
  obtain ⟨K, hK⟩ : ∃ K, zs.length = K := ⟨_, rfl⟩
  rw [hK]
  clear hK
  obtain ⟨x0, x1, x2, x3, x4⟩ := h.l.five hi
  simp only [Nat.zero_add] at x0 x1 x2 x3 x4
  rw [ho] at x0
  rw [hr] at x1
  rw [hr1] at x2
  rw [hr2'] at x3
  rw [him] at x4
  have B1 : Below w.heap.size w (w.alloc (.cells #[.int .i64 op, .int .i64 rd, .int .i64 r1, .int .i64 r2, .int .i64 im] 93)) := (Below.refl _ _).alloc (Nat.le_refl _) _
  have hh := h.below B1
  have xx : XIs (w.alloc (.cells #[.int .i64 op, .int .i64 rd, .int .i64 r1, .int .i64 r2, .int .i64 im] 93)) w.heap.size op rd r1 r2 im := ⟨by simp, by simp, by simp, by simp, by simp⟩
  have BB : Hid (Below w.heap.size w (w.alloc (.cells #[.int .i64 op, .int .i64 rd, .int .i64 r1, .int .i64 r2, .int .i64 im] 93))) := B1
  have hsub : ((i : Int) - 1) = ((j : Nat) : Int) := by omega
  have hsh := fun w' => specShs op f4 fc fg fh w' hsq
  clear B1 h hsq hj ho hr hr1 hr2' him
  have wd := fun w' => specWidIn op w' hop.1 hop.2
  rw [hwn] at wd
  have hwz : ¬ wn = 0 := by omega
  go_enter Tryz.func83, Tryz.ntmps83
  go_wp2_with (go_at_call 97; refine (wd _).mono ?_; rintro e w' ⟨rfl, rfl⟩)
  refine (hsh _).mono ?_
  rintro e w2 ⟨rfl, hb2⟩
  have B2 : Hid (Below _ _ w2) := BB.out.trans (hb2.mono BB.out.size)
  have hh2 := hh.below hb2
  have xx2 := xx.below hb2
  have y1 := xx2.x1
  have y2 := xx2.x2
  have y4 := xx2.x4
  have hfd := shField0 f4 fc fg fh w2
  clear hb2 hh xx BB hsh x0 x1 x2 x3 x4
  go_wp2_with fail
  all_goals first
    | (go_ret; exact ⟨rfl, B2.out⟩)
    | (rename_i hx; exfalso; have hy := hx.2; rw [hm3] at hy; cases hy)

set_option maxRecDepth 100000 in
set_option maxHeartbeats 8000000 in
theorem out1 (i j : Nat) (op r1 r2 im f4 fc fg fh wn : Int) (b : Bool) (w : World) (h : MdIs w g N R pc zs) (hi : i < N) (h2 : 2 ≤ i) (hN : N ≤ 64) (hj : i - 1 = j) (f0 : 16 ≤ f) (f1 : f ≤ 128)
    (ho : R (i * 5) = op) (hr : R (i * 5 + 1) = 1) (hr1 : R (i * 5 + 2) = r1) (hr2' : R (i * 5 + 3) = r2) (him : R (i * 5 + 4) = im) (h4b : (op == 4) = false) (h3b : (op == 3) = false) (hsq : shT op = ⟨f4, fc, fg, fh⟩) (hf4b : (f4 == 4) = false)
    (Ea : ∀ w', MdIs w' g N R pc zs → Calls Tryz.prog 98 #[.slice (some ⟨g, 0, none⟩) N c, .int .i64 (i : Nat), .int .i64 f] w' fun e w'' => e = .returned (.bool true) ∧ Below w'.heap.size w' w'')
    (Eb : ∀ w', MdIs w' g N R pc zs → Calls Tryz.prog 98 #[.slice (some ⟨g, 0, none⟩) N c, .int .i64 (j : Nat), .int .i64 f] w' fun e w'' => e = .returned (.bool b) ∧ Below w'.heap.size w' w'')
    (o0 : 1 ≤ op) (hop : op < 11 ∨ 21 < op) :
    Calls Tryz.prog 83 #[.slice (some ⟨g, 0, none⟩) N c, .int .i64 i, .int .i64 at', .int .i64 f, .slice pc zs.length cc] w fun e w' => e = .returned (.int .i64 0) ∧ Below w.heap.size w w' := by
  obtain ⟨K, hK⟩ : ∃ K, zs.length = K := ⟨_, rfl⟩
  rw [hK]
  clear hK
  obtain ⟨x0, x1, x2, x3, x4⟩ := h.l.five hi
  simp only [Nat.zero_add] at x0 x1 x2 x3 x4
  rw [ho] at x0
  rw [hr] at x1
  rw [hr1] at x2
  rw [hr2'] at x3
  rw [him] at x4
  have B1 : Below w.heap.size w (w.alloc (.cells #[.int .i64 op, .int .i64 1, .int .i64 r1, .int .i64 r2, .int .i64 im] 93)) := (Below.refl _ _).alloc (Nat.le_refl _) _
  have hh := h.below B1
  have xx : XIs (w.alloc (.cells #[.int .i64 op, .int .i64 1, .int .i64 r1, .int .i64 r2, .int .i64 im] 93)) w.heap.size op 1 r1 r2 im := ⟨by simp, by simp, by simp, by simp, by simp⟩
  have BB : Hid (Below w.heap.size w (w.alloc (.cells #[.int .i64 op, .int .i64 1, .int .i64 r1, .int .i64 r2, .int .i64 im] 93))) := B1
  have hsub : ((i : Int) - 1) = ((j : Nat) : Int) := by omega
  have hsh := fun w' => specShs op f4 fc fg fh w' hsq
  clear B1 h hsq hj ho hr hr1 hr2' him
  have wd := fun w' => specWidOut op w' hop
  go_enter Tryz.func83, Tryz.ntmps83
  go_wp2_with (go_at_call 97; refine (wd _).mono ?_; rintro e w' ⟨rfl, rfl⟩)
  refine (hsh _).mono ?_
  rintro e w2 ⟨rfl, hb2⟩
  have B2 : Hid (Below _ _ w2) := BB.out.trans (hb2.mono BB.out.size)
  have hh2 := hh.below hb2
  have xx2 := xx.below hb2
  have y1 := xx2.x1
  have y2 := xx2.x2
  have y4 := xx2.x4
  have hfd := shField0 f4 fc fg fh w2
  clear hb2 hh xx BB hsh x0 x1 x2 x3 x4
  go_wp2_with fail
  try rw [hsub]
  refine (Ea _ hh2).mono ?_
  rintro e w3 ⟨rfl, hb3⟩
  have B3 : Hid (Below _ _ w3) := B2.out.trans (hb3.mono B2.out.size)
  have hh3 := hh2.below hb3
  have xx3 := xx2.below hb3
  clear y1 y2 y4 hb3 hh2 xx2 B2
  have y1 := xx3.x1
  have y2 := xx3.x2
  have y4 := xx3.x4
  go_wp2_with fail
  all_goals first
    | (go_ret; exact ⟨rfl, B3.out⟩)
    | (rename_i hx; exfalso; have hy := hx.2; rw [hm3] at hy; cases hy)

set_option maxRecDepth 100000 in
set_option maxHeartbeats 8000000 in
theorem out2 (i j : Nat) (op r1 r2 im f4 fc fg fh wn : Int) (a : Bool) (w : World) (h : MdIs w g N R pc zs) (hi : i < N) (h2 : 2 ≤ i) (hN : N ≤ 64) (hj : i - 1 = j) (f0 : 16 ≤ f) (f1 : f ≤ 128)
    (ho : R (i * 5) = op) (hr : R (i * 5 + 1) = 2) (hr1 : R (i * 5 + 2) = r1) (hr2' : R (i * 5 + 3) = r2) (him : R (i * 5 + 4) = im) (h4b : (op == 4) = false) (h3b : (op == 3) = false) (hsq : shT op = ⟨f4, fc, fg, fh⟩) (hf4b : (f4 == 4) = false)
    (Ea : ∀ w', MdIs w' g N R pc zs → Calls Tryz.prog 98 #[.slice (some ⟨g, 0, none⟩) N c, .int .i64 (i : Nat), .int .i64 f] w' fun e w'' => e = .returned (.bool a) ∧ Below w'.heap.size w' w'')
    (Eb : ∀ w', MdIs w' g N R pc zs → Calls Tryz.prog 98 #[.slice (some ⟨g, 0, none⟩) N c, .int .i64 (j : Nat), .int .i64 f] w' fun e w'' => e = .returned (.bool true) ∧ Below w'.heap.size w' w'')
    (o0 : 1 ≤ op) (hop : op < 11 ∨ 21 < op) :
    Calls Tryz.prog 83 #[.slice (some ⟨g, 0, none⟩) N c, .int .i64 i, .int .i64 at', .int .i64 f, .slice pc zs.length cc] w fun e w' => e = .returned (.int .i64 0) ∧ Below w.heap.size w w' := by
  obtain ⟨K, hK⟩ : ∃ K, zs.length = K := ⟨_, rfl⟩
  rw [hK]
  clear hK
  obtain ⟨x0, x1, x2, x3, x4⟩ := h.l.five hi
  simp only [Nat.zero_add] at x0 x1 x2 x3 x4
  rw [ho] at x0
  rw [hr] at x1
  rw [hr1] at x2
  rw [hr2'] at x3
  rw [him] at x4
  have B1 : Below w.heap.size w (w.alloc (.cells #[.int .i64 op, .int .i64 2, .int .i64 r1, .int .i64 r2, .int .i64 im] 93)) := (Below.refl _ _).alloc (Nat.le_refl _) _
  have hh := h.below B1
  have xx : XIs (w.alloc (.cells #[.int .i64 op, .int .i64 2, .int .i64 r1, .int .i64 r2, .int .i64 im] 93)) w.heap.size op 2 r1 r2 im := ⟨by simp, by simp, by simp, by simp, by simp⟩
  have BB : Hid (Below w.heap.size w (w.alloc (.cells #[.int .i64 op, .int .i64 2, .int .i64 r1, .int .i64 r2, .int .i64 im] 93))) := B1
  have hsub : ((i : Int) - 1) = ((j : Nat) : Int) := by omega
  have hsh := fun w' => specShs op f4 fc fg fh w' hsq
  clear B1 h hsq hj ho hr hr1 hr2' him
  have wd := fun w' => specWidOut op w' hop
  go_enter Tryz.func83, Tryz.ntmps83
  go_wp2_with (go_at_call 97; refine (wd _).mono ?_; rintro e w' ⟨rfl, rfl⟩)
  refine (hsh _).mono ?_
  rintro e w2 ⟨rfl, hb2⟩
  have B2 : Hid (Below _ _ w2) := BB.out.trans (hb2.mono BB.out.size)
  have hh2 := hh.below hb2
  have xx2 := xx.below hb2
  have y1 := xx2.x1
  have y2 := xx2.x2
  have y4 := xx2.x4
  have hfd := shField0 f4 fc fg fh w2
  clear hb2 hh xx BB hsh x0 x1 x2 x3 x4
  go_wp2_with fail
  try rw [hsub]
  refine (Eb _ hh2).mono ?_
  rintro e w3 ⟨rfl, hb3⟩
  have B3 : Hid (Below _ _ w3) := B2.out.trans (hb3.mono B2.out.size)
  have hh3 := hh2.below hb3
  have xx3 := xx2.below hb3
  clear y1 y2 y4 hb3 hh2 xx2 B2
  have y1 := xx3.x1
  have y2 := xx3.x2
  have y4 := xx3.x4
  go_wp2_with fail
  all_goals first
    | (go_ret; exact ⟨rfl, B3.out⟩)
    | (rename_i hx; exfalso; have hy := hx.2; rw [hm3] at hy; cases hy)

set_option maxRecDepth 100000 in
set_option maxHeartbeats 8000000 in
theorem out3 (i j : Nat) (op rd r1 r2 im f4 fc fg fh wn : Int) (a b : Bool) (w : World) (h : MdIs w g N R pc zs) (hi : i < N) (h2 : 2 ≤ i) (hN : N ≤ 64) (hj : i - 1 = j) (f0 : 16 ≤ f) (f1 : f ≤ 128)
    (ho : R (i * 5) = op) (hr : R (i * 5 + 1) = rd) (hr1 : R (i * 5 + 2) = r1) (hr2' : R (i * 5 + 3) = r2) (him : R (i * 5 + 4) = im) (h4b : (op == 4) = false) (h3b : (op == 3) = false) (hsq : shT op = ⟨f4, fc, fg, fh⟩) (hf4b : (f4 == 4) = false)
    (Ea : ∀ w', MdIs w' g N R pc zs → Calls Tryz.prog 98 #[.slice (some ⟨g, 0, none⟩) N c, .int .i64 (i : Nat), .int .i64 f] w' fun e w'' => e = .returned (.bool a) ∧ Below w'.heap.size w' w'')
    (Eb : ∀ w', MdIs w' g N R pc zs → Calls Tryz.prog 98 #[.slice (some ⟨g, 0, none⟩) N c, .int .i64 (j : Nat), .int .i64 f] w' fun e w'' => e = .returned (.bool b) ∧ Below w'.heap.size w' w'')
    (o0 : 1 ≤ op) (hop : op < 11 ∨ 21 < op) (g1 : (rd == 1) = false) (g2 : (rd == 2) = false) :
    Calls Tryz.prog 83 #[.slice (some ⟨g, 0, none⟩) N c, .int .i64 i, .int .i64 at', .int .i64 f, .slice pc zs.length cc] w fun e w' => e = .returned (.int .i64 0) ∧ Below w.heap.size w w' := by
  obtain ⟨K, hK⟩ : ∃ K, zs.length = K := ⟨_, rfl⟩
  rw [hK]
  clear hK
  obtain ⟨x0, x1, x2, x3, x4⟩ := h.l.five hi
  simp only [Nat.zero_add] at x0 x1 x2 x3 x4
  rw [ho] at x0
  rw [hr] at x1
  rw [hr1] at x2
  rw [hr2'] at x3
  rw [him] at x4
  have B1 : Below w.heap.size w (w.alloc (.cells #[.int .i64 op, .int .i64 rd, .int .i64 r1, .int .i64 r2, .int .i64 im] 93)) := (Below.refl _ _).alloc (Nat.le_refl _) _
  have hh := h.below B1
  have xx : XIs (w.alloc (.cells #[.int .i64 op, .int .i64 rd, .int .i64 r1, .int .i64 r2, .int .i64 im] 93)) w.heap.size op rd r1 r2 im := ⟨by simp, by simp, by simp, by simp, by simp⟩
  have BB : Hid (Below w.heap.size w (w.alloc (.cells #[.int .i64 op, .int .i64 rd, .int .i64 r1, .int .i64 r2, .int .i64 im] 93))) := B1
  have hsub : ((i : Int) - 1) = ((j : Nat) : Int) := by omega
  have hsh := fun w' => specShs op f4 fc fg fh w' hsq
  clear B1 h hsq hj ho hr hr1 hr2' him
  have wd := fun w' => specWidOut op w' hop
  go_enter Tryz.func83, Tryz.ntmps83
  go_wp2_with (go_at_call 97; refine (wd _).mono ?_; rintro e w' ⟨rfl, rfl⟩)
  refine (hsh _).mono ?_
  rintro e w2 ⟨rfl, hb2⟩
  have B2 : Hid (Below _ _ w2) := BB.out.trans (hb2.mono BB.out.size)
  have hh2 := hh.below hb2
  have xx2 := xx.below hb2
  have y1 := xx2.x1
  have y2 := xx2.x2
  have y4 := xx2.x4
  have hfd := shField0 f4 fc fg fh w2
  clear hb2 hh xx BB hsh x0 x1 x2 x3 x4
  go_wp2_with fail
  all_goals first
    | (go_ret; exact ⟨rfl, B2.out⟩)
    | (rename_i hx; exfalso; have hy := hx.2; rw [hm3] at hy; cases hy)

end
end Go.Proofs.YtelogjpjglohoaaGreatDoor

namespace Go.Proofs.YtelogjpjglohoaaGreatDoor
open Go Go.RowKit
set_option linter.unusedVariables false

section
variable {g N c : Nat} {pc : Option Addr} {cc : Nat} {at' f : Int} {R : Nat → Int} {zs : List Int}
theorem specRule (i : Nat) (w : World) (h : MdIs w g N R pc zs) (hi : i < N) (h2 : 2 ≤ i) (hN : N ≤ 64) (hf : frB f = true) (a0 : 0 ≤ at') (a1 : at' ≤ 1048575) (hz : zs.length ≤ 1048576) (hs : Small5 R i) :
    Calls Tryz.prog 83 #[.slice (some ⟨g, 0, none⟩) N c, .int .i64 i, .int .i64 at', .int .i64 f, .slice pc zs.length cc] w fun e w' => e = .returned (.int .i64 (ruI R N f at' zs wdN i)) ∧ Below w.heap.size w w' := by
  by_cases h4 : R (i * 5) = 4
  · exact sruJalr i w h hi h2 hN hf a0 a1 hz hs h4
  by_cases h3 : R (i * 5) = 3
  · exact sruJal i w h hi h2 hN hf a0 a1 hz hs h3
  by_cases hbr : 5 ≤ R (i * 5) ∧ R (i * 5) ≤ 10
  · exact sruBr i w h hi h2 hN hf a0 a1 hz hs hbr
  rw [ru_plain h4 h3 hbr]
  obtain ⟨f0, f1, _⟩ := frB_bd hf
  have E := fun (j : Nat) w' (h1 : MdIs w' g N R pc zs) (hj : j < 1000) => specEnds g N c j f R w' h1.lg hf hN hj h1.l
  obtain ⟨op, ho⟩ : ∃ op, R (i * 5) = op := ⟨_, rfl⟩
  obtain ⟨rd, hr⟩ : ∃ rd, R (i * 5 + 1) = rd := ⟨_, rfl⟩
  obtain ⟨r1, hr1⟩ : ∃ r1, R (i * 5 + 2) = r1 := ⟨_, rfl⟩
  obtain ⟨r2, hr2'⟩ : ∃ r2, R (i * 5 + 3) = r2 := ⟨_, rfl⟩
  obtain ⟨im, him⟩ : ∃ im, R (i * 5 + 4) = im := ⟨_, rfl⟩
  have o0 := hs.o0
  have o1 := hs.o1
  rw [ho] at o0 o1 h4 h3 hbr
  have h4b : (op == 4) = false := by simpa using h4
  have h3b : (op == 3) = false := by simpa using h3
  have hfb := form_branch op o0 o1
  obtain ⟨⟨f4, fc, fg, fh⟩, hsq⟩ : ∃ s, shT op = s := ⟨_, rfl⟩
  rw [hsq] at hfb
  have hf4b : (f4 == 4) = false := by
    have : ¬ f4 = 4 := fun e => hbr (hfb.1 e)
    simpa using this
  obtain ⟨j, hj⟩ : ∃ j, i - 1 = j := ⟨_, rfl⟩
  have Ea := fun w' h1 => E i w' h1 (by omega)
  have Eb := fun w' h1 => E j w' h1 (by omega)
  obtain ⟨res, hres⟩ : ∃ res, plI R N f i = res := ⟨_, rfl⟩
  rw [hres]
  unfold plI at hres
  rw [hj] at hres
  obtain ⟨a, ha⟩ : ∃ a, epB R N f i = a := ⟨_, rfl⟩
  obtain ⟨b, hb⟩ : ∃ b, epB R N f j = b := ⟨_, rfl⟩
  rw [ho, hr, hr1, him, ha, hb] at hres
  rw [ha] at Ea
  rw [hb] at Eb
  have hout : ¬ (11 ≤ op ∧ op ≤ 21) → op < 11 ∨ 21 < op := fun h => by omega
  by_cases hbad : (rd = 1 ∧ a = false) ∨ (rd = 2 ∧ b = false)
  · obtain rfl : res = 21 := by rw [← hres, if_pos hbad]
    by_cases hop : 11 ≤ op ∧ op ≤ 21
    · rcases hbad with ⟨rfl, rfl⟩ | ⟨rfl, rfl⟩
      · exact bad1In i j op r1 r2 im f4 fc fg fh (wdN op) b w h hi h2 hN hj f0 f1 ho hr hr1 hr2' him h4b h3b hsq hf4b Ea Eb hop rfl (by have := wd_in hop.1 hop.2; omega) (by have := wd_in hop.1 hop.2; omega)
      · exact bad2In i j op r1 r2 im f4 fc fg fh (wdN op) a w h hi h2 hN hj f0 f1 ho hr hr1 hr2' him h4b h3b hsq hf4b Ea Eb hop rfl (by have := wd_in hop.1 hop.2; omega) (by have := wd_in hop.1 hop.2; omega)
    · rcases hbad with ⟨rfl, rfl⟩ | ⟨rfl, rfl⟩
      · exact bad1Out i j op r1 r2 im f4 fc fg fh 0 b w h hi h2 hN hj f0 f1 ho hr hr1 hr2' him h4b h3b hsq hf4b Ea Eb o0 (hout hop)
      · exact bad2Out i j op r1 r2 im f4 fc fg fh 0 a w h hi h2 hN hj f0 f1 ho hr hr1 hr2' him h4b h3b hsq hf4b Ea Eb o0 (hout hop)
  rw [if_neg hbad] at hres
  have hA : (rd = 1 ∧ a = true) ∨ (rd = 2 ∧ b = true) ∨ ((rd == 1) = false ∧ (rd == 2) = false) := by
    by_cases e1 : rd = 1
    · left
      refine ⟨e1, ?_⟩
      cases a
      · exact absurd (.inl ⟨e1, rfl⟩) hbad
      · rfl
    · by_cases e2 : rd = 2
      · right; left
        refine ⟨e2, ?_⟩
        cases b
        · exact absurd (.inr ⟨e2, rfl⟩) hbad
        · rfl
      · exact .inr (.inr ⟨by simpa using e1, by simpa using e2⟩)
  by_cases hop : 11 ≤ op ∧ op ≤ 21
  · have hw := wd_in hop.1 hop.2
    obtain ⟨wn, hwn⟩ : ∃ wn, wdN op = wn := ⟨_, rfl⟩
    rw [hwn] at hw hres
    have hw0 : 0 < wn := by omega
    have hw8 : wn ≤ 8 := by omega
    by_cases hr2 : r1 = 2
    · subst hr2
      by_cases hat : a = true
      · obtain rfl : res = 0 := by rw [← hres, if_neg]; intro hh; rw [hat] at hh; cases hh.2.2.1
        subst hat
        rcases hA with ⟨rfl, _⟩ | ⟨rfl, rfl⟩ | ⟨g1, g2⟩
        · exact inT1 i j op r2 im f4 fc fg fh wn b w h hi h2 hN hj f0 f1 ho hr hr1 hr2' him h4b h3b hsq hf4b Ea Eb hop hwn hw0 hw8
        · exact inT2 i j op r2 im f4 fc fg fh wn w h hi h2 hN hj f0 f1 ho hr hr1 hr2' him h4b h3b hsq hf4b Ea Eb hop hwn hw0 hw8
        · exact inT3 i j op rd r2 im f4 fc fg fh wn b w h hi h2 hN hj f0 f1 ho hr hr1 hr2' him h4b h3b hsq hf4b Ea Eb hop hwn hw0 hw8 g1 g2
      · have haf : a = false := by
          cases a
          · rfl
          · exact absurd rfl hat
        subst haf
        rcases hA with ⟨_, hx⟩ | hA
        · cases hx
        by_cases hin : im < 0
        · obtain rfl : res = 17 := by rw [← hres, if_pos ⟨hop, rfl, rfl, by omega⟩]
          rcases hA with ⟨rfl, rfl⟩ | ⟨g1, g2⟩
          · exact inNeg2 i j op r2 im f4 fc fg fh wn w h hi h2 hN hj f0 f1 ho hr hr1 hr2' him h4b h3b hsq hf4b Ea Eb hop hwn hw0 hw8 hin
          · exact inNeg3 i j op rd r2 im f4 fc fg fh wn b w h hi h2 hN hj f0 f1 ho hr hr1 hr2' him h4b h3b hsq hf4b Ea Eb hop hwn hw0 hw8 hin g1 g2
        · by_cases hig : f - 8 - wn < im
          · obtain rfl : res = 17 := by rw [← hres, if_pos ⟨hop, rfl, rfl, by omega⟩]
            rcases hA with ⟨rfl, rfl⟩ | ⟨g1, g2⟩
            · exact inBig2 i j op r2 im f4 fc fg fh wn w h hi h2 hN hj f0 f1 ho hr hr1 hr2' him h4b h3b hsq hf4b Ea Eb hop hwn hw0 hw8 hin hig
            · exact inBig3 i j op rd r2 im f4 fc fg fh wn b w h hi h2 hN hj f0 f1 ho hr hr1 hr2' him h4b h3b hsq hf4b Ea Eb hop hwn hw0 hw8 hin hig g1 g2
          · by_cases him0 : im % wn = 0
            · obtain rfl : res = 0 := by rw [← hres, if_neg]; rintro ⟨_, _, _, hh⟩; exact hh ⟨by omega, by omega, him0⟩
              rcases hA with ⟨rfl, rfl⟩ | ⟨g1, g2⟩
              · exact inFit2 i j op r2 im f4 fc fg fh wn w h hi h2 hN hj f0 f1 ho hr hr1 hr2' him h4b h3b hsq hf4b Ea Eb hop hwn hw0 hw8 hin hig him0
              · exact inFit3 i j op rd r2 im f4 fc fg fh wn b w h hi h2 hN hj f0 f1 ho hr hr1 hr2' him h4b h3b hsq hf4b Ea Eb hop hwn hw0 hw8 hin hig him0 g1 g2
            · obtain rfl : res = 17 := by rw [← hres, if_pos ⟨hop, rfl, rfl, fun hh => him0 hh.2.2⟩]
              rcases hA with ⟨rfl, rfl⟩ | ⟨g1, g2⟩
              · exact inOdd2 i j op r2 im f4 fc fg fh wn w h hi h2 hN hj f0 f1 ho hr hr1 hr2' him h4b h3b hsq hf4b Ea Eb hop hwn hw0 hw8 hin hig him0
              · exact inOdd3 i j op rd r2 im f4 fc fg fh wn b w h hi h2 hN hj f0 f1 ho hr hr1 hr2' him h4b h3b hsq hf4b Ea Eb hop hwn hw0 hw8 hin hig him0 g1 g2
    · obtain rfl : res = 0 := by rw [← hres, if_neg]; intro hh; exact hr2 hh.2.1
      have hr2b : (r1 == 2) = false := by simpa using hr2
      rcases hA with ⟨rfl, rfl⟩ | ⟨rfl, rfl⟩ | ⟨g1, g2⟩
      · exact inN1 i j op r1 r2 im f4 fc fg fh wn b w h hi h2 hN hj f0 f1 ho hr hr1 hr2' him h4b h3b hsq hf4b Ea Eb hop hwn hw0 hw8 hr2b
      · exact inN2 i j op r1 r2 im f4 fc fg fh wn a w h hi h2 hN hj f0 f1 ho hr hr1 hr2' him h4b h3b hsq hf4b Ea Eb hop hwn hw0 hw8 hr2b
      · exact inN3 i j op rd r1 r2 im f4 fc fg fh wn a b w h hi h2 hN hj f0 f1 ho hr hr1 hr2' him h4b h3b hsq hf4b Ea Eb hop hwn hw0 hw8 hr2b g1 g2
  · obtain rfl : res = 0 := by rw [← hres, if_neg]; intro hh; exact hop hh.1
    rcases hA with ⟨rfl, rfl⟩ | ⟨rfl, rfl⟩ | ⟨g1, g2⟩
    · exact out1 i j op r1 r2 im f4 fc fg fh 0 b w h hi h2 hN hj f0 f1 ho hr hr1 hr2' him h4b h3b hsq hf4b Ea Eb o0 (hout hop)
    · exact out2 i j op r1 r2 im f4 fc fg fh 0 a w h hi h2 hN hj f0 f1 ho hr hr1 hr2' him h4b h3b hsq hf4b Ea Eb o0 (hout hop)
    · exact out3 i j op rd r1 r2 im f4 fc fg fh 0 a b w h hi h2 hN hj f0 f1 ho hr hr1 hr2' him h4b h3b hsq hf4b Ea Eb o0 (hout hop) g1 g2
end
end Go.Proofs.YtelogjpjglohoaaGreatDoor

namespace Go.Proofs.YtelogjpjglohoaaGreatDoor
open Go Go.RowKit
set_option linter.unusedVariables false

theorem plB_in (a : Int) : (decide (0 ≤ a ∧ a ≤ 1048575) = true ∧ 0 ≤ a ∧ a ≤ 1048575) ∨ (decide (0 ≤ a ∧ a ≤ 1048575) = false ∧ (a < 0 ∨ 1048575 < a)) := by
  by_cases h : 0 ≤ a ∧ a ≤ 1048575
  · exact .inl ⟨by rw [decide_eq_true_eq]; exact h, h⟩
  · exact .inr ⟨by rw [decide_eq_false_iff_not]; exact h, by omega⟩

section
variable {pc : Option Addr} {cc : Nat}
/-- What the model's check answers ahead of the words. -/
theorem specPlace (s : ByteArray) (a f : Int) (k : Nat) (w : World) (hs : s.size ≤ 65536) (ha : (Lit.int .i64 a).wf = true) (h : plB a = false) :
    Calls Tryz.prog 62 #[.string s, .int .i64 a, .int .i64 f, .slice pc k cc] w fun e w' => TwoN w.heap.size 0 4 w e w' := by
  by_cases h0 : 0 ≤ a ∧ a ≤ 1048575
  · have h1 : ¬ a.tmod 4 = 0 := by
      rw [Int.tmod_eq_emod_of_nonneg h0.1]
      intro e
      simp [plB, h0.1, h0.2, e] at h
    have h2 : ¬ a % 4 = 0 := by
      intro e
      simp [plB, h0.1, h0.2, e] at h
    go_enter Tryz.func62, Tryz.ntmps62
    go_wp2_with (go_at_call 79; refine (spIn _ _ _ _ true (.inl ⟨rfl, h0.1, h0.2⟩)).mono ?_; rintro e w' ⟨rfl, rfl⟩)
    go_ret2
    exact ⟨rfl, Below.refl _ _⟩
  · go_enter Tryz.func62, Tryz.ntmps62
    go_wp2_with (go_at_call 79; refine (spIn _ _ _ _ false (.inr ⟨rfl, by omega⟩)).mono ?_; rintro e w' ⟨rfl, rfl⟩)
    go_ret2
    exact ⟨rfl, Below.refl _ _⟩
theorem plB_yes {a : Int} (h : plB a = true) : 0 ≤ a ∧ a ≤ 1048575 ∧ a % 4 = 0 := by simpa [plB] using h
theorem specFrame (s : ByteArray) (a f : Int) (k : Nat) (w : World) (hs : s.size ≤ 65536) (hf : (Lit.int .i64 f).wf = true) (ha : plB a = true) (h : frB f = false) :
    Calls Tryz.prog 62 #[.string s, .int .i64 a, .int .i64 f, .slice pc k cc] w fun e w' => TwoN w.heap.size 0 17 w e w' := by
  obtain ⟨a0, a1, a2⟩ := plB_yes ha
  go_enter Tryz.func62, Tryz.ntmps62
  go_wp2_with (first | (go_at_call 79; refine (spIn _ _ _ _ true (.inl ⟨rfl, a0, a1⟩)).mono ?_; rintro e w' ⟨rfl, rfl⟩) | (go_at_call 80; refine (frSpec f _ hf).mono ?_; rintro e w' ⟨rfl, rfl⟩; rw [h]))
  go_ret2
  exact ⟨rfl, Below.refl _ _⟩
theorem specSize (s : ByteArray) (a f : Int) (k : Nat) (w : World) (hs : s.size ≤ 65536) (hf : (Lit.int .i64 f).wf = true) (ha : plB a = true) (hfr : frB f = true) (h : ¬ (s.size % 4 = 0 ∧ s.size ≤ 256 ∧ 20 ≤ s.size)) :
    Calls Tryz.prog 62 #[.string s, .int .i64 a, .int .i64 f, .slice pc k cc] w fun e w' => TwoN w.heap.size 0 8 w e w' := by
  obtain ⟨a0, a1, a2⟩ := plB_yes ha
  have hs' : s.size ≤ maxLen := by unfold maxLen; omega
  by_cases h0 : s.size % 4 = 0 ∧ s.size ≤ 256
  · have e : decide (s.size % 4 = 0 ∧ s.size ≤ 256) = true := by rw [decide_eq_true_eq]; exact h0
    have h1 : s.size < 20 := by omega
    go_enter Tryz.func62, Tryz.ntmps62
    go_wp2_with (first | (go_at_call 79; refine (spIn _ _ _ _ true (.inl ⟨rfl, a0, a1⟩)).mono ?_; rintro e w' ⟨rfl, rfl⟩) | (go_at_call 80; refine (frSpec f _ hf).mono ?_; rintro e w' ⟨rfl, rfl⟩; rw [hfr]) | (go_at_call 81; refine (szRun s _ hs').mono ?_; rintro e' w' ⟨rfl, rfl⟩; rw [e]))
    go_ret2
    exact ⟨rfl, Below.refl _ _⟩
  · have e : decide (s.size % 4 = 0 ∧ s.size ≤ 256) = false := by rw [decide_eq_false_iff_not]; exact h0
    go_enter Tryz.func62, Tryz.ntmps62
    go_wp2_with (first | (go_at_call 79; refine (spIn _ _ _ _ true (.inl ⟨rfl, a0, a1⟩)).mono ?_; rintro e w' ⟨rfl, rfl⟩) | (go_at_call 80; refine (frSpec f _ hf).mono ?_; rintro e w' ⟨rfl, rfl⟩; rw [hfr]) | (go_at_call 81; refine (szRun s _ hs').mono ?_; rintro e' w' ⟨rfl, rfl⟩; rw [e]))
    go_ret2
    exact ⟨rfl, Below.refl _ _⟩
theorem specWrong (s : ByteArray) (a f : Int) (k : Nat) (N j : Nat) (R : Nat → Int) (w : World) (hf : (Lit.int .i64 f).wf = true) (ha : plB a = true) (hfr : frB f = true) (h0 : s.size % 4 = 0 ∧ s.size ≤ 256) (h1 : 20 ≤ s.size) (hr : Run s N R j) (hj : j < N) :
    Calls Tryz.prog 62 #[.string s, .int .i64 a, .int .i64 f, .slice pc k cc] w fun e w' => TwoN w.heap.size j 10 w e w' := by
  obtain ⟨a0, a1, a2⟩ := plB_yes ha
  have hs' : s.size ≤ maxLen := by unfold maxLen; omega
  have e : decide (s.size % 4 = 0 ∧ s.size ≤ 256) = true := by rw [decide_eq_true_eq]; exact h0
  go_enter Tryz.func62, Tryz.ntmps62
  go_wp2_with (first | (go_at_call 79; refine (spIn _ _ _ _ true (.inl ⟨rfl, a0, a1⟩)).mono ?_; rintro e w' ⟨rfl, rfl⟩) | (go_at_call 80; refine (frSpec f _ hf).mono ?_; rintro e w' ⟨rfl, rfl⟩; rw [hfr]) | (go_at_call 81; refine (szRun s _ hs').mono ?_; rintro e' w' ⟨rfl, rfl⟩; rw [e]))
  refine (hr.model _).mono ?_
  rintro e2 w2 ⟨⟨p, n, c, x, rfl, ⟨hj', rfl, rfl⟩ | ⟨hj', rfl, rfl⟩, ho⟩, hb⟩
  · exact absurd hj (by omega)
  · have hj0 : (0 : Int) ≤ j := by omega
    go_wp2
    go_ret2
    exact ⟨rfl, hb⟩
end
end Go.Proofs.YtelogjpjglohoaaGreatDoor
