/- The model's rule for one instruction that goes nowhere: its cases, 2. -/
import Derived.Test.YtelogjpjglohoaaGreatDoorGXTabBase42
namespace Go.Proofs.YtelogjpjglohoaaGreatDoor
open Go Go.RowKit
set_option linter.unusedVariables false

section
variable {g N c : Nat} {pc : Option Addr} {cc : Nat} {at' f : Int} {R : Nat → Int} {zs : List Int}
set_option maxRecDepth 100000 in
set_option maxHeartbeats 8000000 in
theorem inT1 (i j : Nat) (op r2 im f4 fc fg fh wn : Int) (b : Bool) (w : World) (h : MdIs w g N R pc zs) (hi : i < N) (h2 : 2 ≤ i) (hN : N ≤ 64) (hj : i - 1 = j) (f0 : 16 ≤ f) (f1 : f ≤ 128)
    (ho : R (i * 5) = op) (hr : R (i * 5 + 1) = 1) (hr1 : R (i * 5 + 2) = 2) (hr2' : R (i * 5 + 3) = r2) (him : R (i * 5 + 4) = im) (h4b : (op == 4) = false) (h3b : (op == 3) = false) (hsq : shT op = ⟨f4, fc, fg, fh⟩) (hf4b : (f4 == 4) = false)
    (Ea : ∀ w', MdIs w' g N R pc zs → Calls Tryz.prog 98 #[.slice (some ⟨g, 0, none⟩) N c, .int .i64 (i : Nat), .int .i64 f] w' fun e w'' => e = .returned (.bool true) ∧ Below w'.heap.size w' w'')
    (Eb : ∀ w', MdIs w' g N R pc zs → Calls Tryz.prog 98 #[.slice (some ⟨g, 0, none⟩) N c, .int .i64 (j : Nat), .int .i64 f] w' fun e w'' => e = .returned (.bool b) ∧ Below w'.heap.size w' w'')
    (hop : 11 ≤ op ∧ op ≤ 21) (hwn : wdN op = wn) (hw0 : 0 < wn) (hw8 : wn ≤ 8) :
    Calls Tryz.prog 83 #[.slice (some ⟨g, 0, none⟩) N c, .int .i64 i, .int .i64 at', .int .i64 f, .slice pc zs.length cc] w fun e w' => e = .returned (.int .i64 0) ∧ Below w.heap.size w w' := by
  obtain ⟨K, hK⟩ : ∃ K, zs.length = K := ⟨_, rfl⟩
  rw [hK]
  clear hK
  obtain ⟨x0, x1, x2, x3, x4⟩ := h.l.five hi
  simp only [Nat.zero_add] at x0 x1 x2 x3 x4
  rw [ho] at x0
  rw [hr] at x1
  rw [hr1] at x2
  rw [hr2'] at x3
  rw [him] at x4
  have B1 : Below w.heap.size w (w.alloc (.cells #[.int .i64 op, .int .i64 1, .int .i64 2, .int .i64 r2, .int .i64 im] 93)) := (Below.refl _ _).alloc (Nat.le_refl _) _
  have hh := h.below B1
  have xx : XIs (w.alloc (.cells #[.int .i64 op, .int .i64 1, .int .i64 2, .int .i64 r2, .int .i64 im] 93)) w.heap.size op 1 2 r2 im := ⟨by simp, by simp, by simp, by simp, by simp⟩
  have BB : Hid (Below w.heap.size w (w.alloc (.cells #[.int .i64 op, .int .i64 1, .int .i64 2, .int .i64 r2, .int .i64 im] 93))) := B1
  have hsub : ((i : Int) - 1) = ((j : Nat) : Int) := by omega
  have hsh := fun w' => specShs op f4 fc fg fh w' hsq
  clear B1 h hsq hj ho hr hr1 hr2' him
  have wd := fun w' => specWidIn op w' hop.1 hop.2
  rw [hwn] at wd
  have hwz : ¬ wn = 0 := by omega
  go_enter Tryz.func83, Tryz.ntmps83
  go_wp2_with (go_at_call 97; refine (wd _).mono ?_; rintro e w' ⟨rfl, rfl⟩)
  refine (hsh _).mono ?_
  rintro e w2 ⟨rfl, hb2⟩
  have B2 : Hid (Below _ _ w2) := BB.out.trans (hb2.mono BB.out.size)
  have hh2 := hh.below hb2
  have xx2 := xx.below hb2
  have y1 := xx2.x1
  have y2 := xx2.x2
  have y4 := xx2.x4
  have hfd := shField0 f4 fc fg fh w2
  clear hb2 hh xx BB hsh x0 x1 x2 x3 x4
  go_wp2_with fail
  try rw [hsub]
  refine (Ea _ hh2).mono ?_
  rintro e w3 ⟨rfl, hb3⟩
  have B3 : Hid (Below _ _ w3) := B2.out.trans (hb3.mono B2.out.size)
  have hh3 := hh2.below hb3
  have xx3 := xx2.below hb3
  clear y1 y2 y4 hb3 hh2 xx2 B2
  have y1 := xx3.x1
  have y2 := xx3.x2
  have y4 := xx3.x4
  go_wp2_with fail
  try rw [hsub]
  refine (Ea _ hh3).mono ?_
  rintro e w4 ⟨rfl, hb4⟩
  have B4 : Hid (Below _ _ w4) := B3.out.trans (hb4.mono B3.out.size)
  have hh4 := hh3.below hb4
  have xx4 := xx3.below hb4
  clear y1 y2 y4 hb4 hh3 xx3 B3
  have y1 := xx4.x1
  have y2 := xx4.x2
  have y4 := xx4.x4
  go_wp2_with fail
  all_goals first
    | (go_ret; exact ⟨rfl, B4.out⟩)
    | (rename_i hx; exfalso; have hy := hx.2; rw [hm3] at hy; cases hy)

set_option maxRecDepth 100000 in
set_option maxHeartbeats 8000000 in
theorem inT2 (i j : Nat) (op r2 im f4 fc fg fh wn : Int) (w : World) (h : MdIs w g N R pc zs) (hi : i < N) (h2 : 2 ≤ i) (hN : N ≤ 64) (hj : i - 1 = j) (f0 : 16 ≤ f) (f1 : f ≤ 128)
    (ho : R (i * 5) = op) (hr : R (i * 5 + 1) = 2) (hr1 : R (i * 5 + 2) = 2) (hr2' : R (i * 5 + 3) = r2) (him : R (i * 5 + 4) = im) (h4b : (op == 4) = false) (h3b : (op == 3) = false) (hsq : shT op = ⟨f4, fc, fg, fh⟩) (hf4b : (f4 == 4) = false)
    (Ea : ∀ w', MdIs w' g N R pc zs → Calls Tryz.prog 98 #[.slice (some ⟨g, 0, none⟩) N c, .int .i64 (i : Nat), .int .i64 f] w' fun e w'' => e = .returned (.bool true) ∧ Below w'.heap.size w' w'')
    (Eb : ∀ w', MdIs w' g N R pc zs → Calls Tryz.prog 98 #[.slice (some ⟨g, 0, none⟩) N c, .int .i64 (j : Nat), .int .i64 f] w' fun e w'' => e = .returned (.bool true) ∧ Below w'.heap.size w' w'')
    (hop : 11 ≤ op ∧ op ≤ 21) (hwn : wdN op = wn) (hw0 : 0 < wn) (hw8 : wn ≤ 8) :
    Calls Tryz.prog 83 #[.slice (some ⟨g, 0, none⟩) N c, .int .i64 i, .int .i64 at', .int .i64 f, .slice pc zs.length cc] w fun e w' => e = .returned (.int .i64 0) ∧ Below w.heap.size w w' := by
  obtain ⟨K, hK⟩ : ∃ K, zs.length = K := ⟨_, rfl⟩
  rw [hK]
  clear hK
  obtain ⟨x0, x1, x2, x3, x4⟩ := h.l.five hi
  simp only [Nat.zero_add] at x0 x1 x2 x3 x4
  rw [ho] at x0
  rw [hr] at x1
  rw [hr1] at x2
  rw [hr2'] at x3
  rw [him] at x4
  have B1 : Below w.heap.size w (w.alloc (.cells #[.int .i64 op, .int .i64 2, .int .i64 2, .int .i64 r2, .int .i64 im] 93)) := (Below.refl _ _).alloc (Nat.le_refl _) _
  have hh := h.below B1
  have xx : XIs (w.alloc (.cells #[.int .i64 op, .int .i64 2, .int .i64 2, .int .i64 r2, .int .i64 im] 93)) w.heap.size op 2 2 r2 im := ⟨by simp, by simp, by simp, by simp, by simp⟩
  have BB : Hid (Below w.heap.size w (w.alloc (.cells #[.int .i64 op, .int .i64 2, .int .i64 2, .int .i64 r2, .int .i64 im] 93))) := B1
  have hsub : ((i : Int) - 1) = ((j : Nat) : Int) := by omega
  have hsh := fun w' => specShs op f4 fc fg fh w' hsq
  clear B1 h hsq hj ho hr hr1 hr2' him
  have wd := fun w' => specWidIn op w' hop.1 hop.2
  rw [hwn] at wd
  have hwz : ¬ wn = 0 := by omega
  go_enter Tryz.func83, Tryz.ntmps83
  go_wp2_with (go_at_call 97; refine (wd _).mono ?_; rintro e w' ⟨rfl, rfl⟩)
  refine (hsh _).mono ?_
  rintro e w2 ⟨rfl, hb2⟩
  have B2 : Hid (Below _ _ w2) := BB.out.trans (hb2.mono BB.out.size)
  have hh2 := hh.below hb2
  have xx2 := xx.below hb2
  have y1 := xx2.x1
  have y2 := xx2.x2
  have y4 := xx2.x4
  have hfd := shField0 f4 fc fg fh w2
  clear hb2 hh xx BB hsh x0 x1 x2 x3 x4
  go_wp2_with fail
  try rw [hsub]
  refine (Eb _ hh2).mono ?_
  rintro e w3 ⟨rfl, hb3⟩
  have B3 : Hid (Below _ _ w3) := B2.out.trans (hb3.mono B2.out.size)
  have hh3 := hh2.below hb3
  have xx3 := xx2.below hb3
  clear y1 y2 y4 hb3 hh2 xx2 B2
  have y1 := xx3.x1
  have y2 := xx3.x2
  have y4 := xx3.x4
  go_wp2_with fail
  try rw [hsub]
  refine (Ea _ hh3).mono ?_
  rintro e w4 ⟨rfl, hb4⟩
  have B4 : Hid (Below _ _ w4) := B3.out.trans (hb4.mono B3.out.size)
  have hh4 := hh3.below hb4
  have xx4 := xx3.below hb4
  clear y1 y2 y4 hb4 hh3 xx3 B3
  have y1 := xx4.x1
  have y2 := xx4.x2
  have y4 := xx4.x4
  go_wp2_with fail
  all_goals first
    | (go_ret; exact ⟨rfl, B4.out⟩)
    | (rename_i hx; exfalso; have hy := hx.2; rw [hm3] at hy; cases hy)

set_option maxRecDepth 100000 in
set_option maxHeartbeats 8000000 in
theorem inT3 (i j : Nat) (op rd r2 im f4 fc fg fh wn : Int) (b : Bool) (w : World) (h : MdIs w g N R pc zs) (hi : i < N) (h2 : 2 ≤ i) (hN : N ≤ 64) (hj : i - 1 = j) (f0 : 16 ≤ f) (f1 : f ≤ 128)
    (ho : R (i * 5) = op) (hr : R (i * 5 + 1) = rd) (hr1 : R (i * 5 + 2) = 2) (hr2' : R (i * 5 + 3) = r2) (him : R (i * 5 + 4) = im) (h4b : (op == 4) = false) (h3b : (op == 3) = false) (hsq : shT op = ⟨f4, fc, fg, fh⟩) (hf4b : (f4 == 4) = false)
    (Ea : ∀ w', MdIs w' g N R pc zs → Calls Tryz.prog 98 #[.slice (some ⟨g, 0, none⟩) N c, .int .i64 (i : Nat), .int .i64 f] w' fun e w'' => e = .returned (.bool true) ∧ Below w'.heap.size w' w'')
    (Eb : ∀ w', MdIs w' g N R pc zs → Calls Tryz.prog 98 #[.slice (some ⟨g, 0, none⟩) N c, .int .i64 (j : Nat), .int .i64 f] w' fun e w'' => e = .returned (.bool b) ∧ Below w'.heap.size w' w'')
    (hop : 11 ≤ op ∧ op ≤ 21) (hwn : wdN op = wn) (hw0 : 0 < wn) (hw8 : wn ≤ 8) (g1 : (rd == 1) = false) (g2 : (rd == 2) = false) :
    Calls Tryz.prog 83 #[.slice (some ⟨g, 0, none⟩) N c, .int .i64 i, .int .i64 at', .int .i64 f, .slice pc zs.length cc] w fun e w' => e = .returned (.int .i64 0) ∧ Below w.heap.size w w' := by
  obtain ⟨K, hK⟩ : ∃ K, zs.length = K := ⟨_, rfl⟩
  rw [hK]
  clear hK
  obtain ⟨x0, x1, x2, x3, x4⟩ := h.l.five hi
  simp only [Nat.zero_add] at x0 x1 x2 x3 x4
  rw [ho] at x0
  rw [hr] at x1
  rw [hr1] at x2
  rw [hr2'] at x3
  rw [him] at x4
  have B1 : Below w.heap.size w (w.alloc (.cells #[.int .i64 op, .int .i64 rd, .int .i64 2, .int .i64 r2, .int .i64 im] 93)) := (Below.refl _ _).alloc (Nat.le_refl _) _
  have hh := h.below B1
  have xx : XIs (w.alloc (.cells #[.int .i64 op, .int .i64 rd, .int .i64 2, .int .i64 r2, .int .i64 im] 93)) w.heap.size op rd 2 r2 im := ⟨by simp, by simp, by simp, by simp, by simp⟩
  have BB : Hid (Below w.heap.size w (w.alloc (.cells #[.int .i64 op, .int .i64 rd, .int .i64 2, .int .i64 r2, .int .i64 im] 93))) := B1
  have hsub : ((i : Int) - 1) = ((j : Nat) : Int) := by omega
  have hsh := fun w' => specShs op f4 fc fg fh w' hsq
  clear B1 h hsq hj ho hr hr1 hr2' him
  have wd := fun w' => specWidIn op w' hop.1 hop.2
  rw [hwn] at wd
  have hwz : ¬ wn = 0 := by omega
  go_enter Tryz.func83, Tryz.ntmps83
  go_wp2_with (go_at_call 97; refine (wd _).mono ?_; rintro e w' ⟨rfl, rfl⟩)
  refine (hsh _).mono ?_
  rintro e w2 ⟨rfl, hb2⟩
  have B2 : Hid (Below _ _ w2) := BB.out.trans (hb2.mono BB.out.size)
  have hh2 := hh.below hb2
  have xx2 := xx.below hb2
  have y1 := xx2.x1
  have y2 := xx2.x2
  have y4 := xx2.x4
  have hfd := shField0 f4 fc fg fh w2
  clear hb2 hh xx BB hsh x0 x1 x2 x3 x4
  go_wp2_with fail
  try rw [hsub]
  refine (Ea _ hh2).mono ?_
  rintro e w3 ⟨rfl, hb3⟩
  have B3 : Hid (Below _ _ w3) := B2.out.trans (hb3.mono B2.out.size)
  have hh3 := hh2.below hb3
  have xx3 := xx2.below hb3
  clear y1 y2 y4 hb3 hh2 xx2 B2
  have y1 := xx3.x1
  have y2 := xx3.x2
  have y4 := xx3.x4
  go_wp2_with fail
  all_goals first
    | (go_ret; exact ⟨rfl, B3.out⟩)
    | (rename_i hx; exfalso; have hy := hx.2; rw [hm3] at hy; cases hy)

set_option maxRecDepth 100000 in
set_option maxHeartbeats 8000000 in
theorem inNeg2 (i j : Nat) (op r2 im f4 fc fg fh wn : Int) (w : World) (h : MdIs w g N R pc zs) (hi : i < N) (h2 : 2 ≤ i) (hN : N ≤ 64) (hj : i - 1 = j) (f0 : 16 ≤ f) (f1 : f ≤ 128)
    (ho : R (i * 5) = op) (hr : R (i * 5 + 1) = 2) (hr1 : R (i * 5 + 2) = 2) (hr2' : R (i * 5 + 3) = r2) (him : R (i * 5 + 4) = im) (h4b : (op == 4) = false) (h3b : (op == 3) = false) (hsq : shT op = ⟨f4, fc, fg, fh⟩) (hf4b : (f4 == 4) = false)
    (Ea : ∀ w', MdIs w' g N R pc zs → Calls Tryz.prog 98 #[.slice (some ⟨g, 0, none⟩) N c, .int .i64 (i : Nat), .int .i64 f] w' fun e w'' => e = .returned (.bool false) ∧ Below w'.heap.size w' w'')
    (Eb : ∀ w', MdIs w' g N R pc zs → Calls Tryz.prog 98 #[.slice (some ⟨g, 0, none⟩) N c, .int .i64 (j : Nat), .int .i64 f] w' fun e w'' => e = .returned (.bool true) ∧ Below w'.heap.size w' w'')
    (hop : 11 ≤ op ∧ op ≤ 21) (hwn : wdN op = wn) (hw0 : 0 < wn) (hw8 : wn ≤ 8) (hin : im < 0) :
    Calls Tryz.prog 83 #[.slice (some ⟨g, 0, none⟩) N c, .int .i64 i, .int .i64 at', .int .i64 f, .slice pc zs.length cc] w fun e w' => e = .returned (.int .i64 17) ∧ Below w.heap.size w w' := by
  obtain ⟨K, hK⟩ : ∃ K, zs.length = K := ⟨_, rfl⟩
  rw [hK]
  clear hK
  obtain ⟨x0, x1, x2, x3, x4⟩ := h.l.five hi
  simp only [Nat.zero_add] at x0 x1 x2 x3 x4
  rw [ho] at x0
  rw [hr] at x1
  rw [hr1] at x2
  rw [hr2'] at x3
  rw [him] at x4
  have B1 : Below w.heap.size w (w.alloc (.cells #[.int .i64 op, .int .i64 2, .int .i64 2, .int .i64 r2, .int .i64 im] 93)) := (Below.refl _ _).alloc (Nat.le_refl _) _
  have hh := h.below B1
  have xx : XIs (w.alloc (.cells #[.int .i64 op, .int .i64 2, .int .i64 2, .int .i64 r2, .int .i64 im] 93)) w.heap.size op 2 2 r2 im := ⟨by simp, by simp, by simp, by simp, by simp⟩
  have BB : Hid (Below w.heap.size w (w.alloc (.cells #[.int .i64 op, .int .i64 2, .int .i64 2, .int .i64 r2, .int .i64 im] 93))) := B1
  have hsub : ((i : Int) - 1) = ((j : Nat) : Int) := by omega
  have hsh := fun w' => specShs op f4 fc fg fh w' hsq
  clear B1 h hsq hj ho hr hr1 hr2' him
  have wd := fun w' => specWidIn op w' hop.1 hop.2
  rw [hwn] at wd
  have hwz : ¬ wn = 0 := by omega
  go_enter Tryz.func83, Tryz.ntmps83
  go_wp2_with (go_at_call 97; refine (wd _).mono ?_; rintro e w' ⟨rfl, rfl⟩)
  refine (hsh _).mono ?_
  rintro e w2 ⟨rfl, hb2⟩
  have B2 : Hid (Below _ _ w2) := BB.out.trans (hb2.mono BB.out.size)
  have hh2 := hh.below hb2
  have xx2 := xx.below hb2
  have y1 := xx2.x1
  have y2 := xx2.x2
  have y4 := xx2.x4
  have hfd := shField0 f4 fc fg fh w2
  clear hb2 hh xx BB hsh x0 x1 x2 x3 x4
  go_wp2_with fail
  try rw [hsub]
  refine (Eb _ hh2).mono ?_
  rintro e w3 ⟨rfl, hb3⟩
  have B3 : Hid (Below _ _ w3) := B2.out.trans (hb3.mono B2.out.size)
  have hh3 := hh2.below hb3
  have xx3 := xx2.below hb3
  clear y1 y2 y4 hb3 hh2 xx2 B2
  have y1 := xx3.x1
  have y2 := xx3.x2
  have y4 := xx3.x4
  go_wp2_with fail
  try rw [hsub]
  refine (Ea _ hh3).mono ?_
  rintro e w4 ⟨rfl, hb4⟩
  have B4 : Hid (Below _ _ w4) := B3.out.trans (hb4.mono B3.out.size)
  have hh4 := hh3.below hb4
  have xx4 := xx3.below hb4
  clear y1 y2 y4 hb4 hh3 xx3 B3
  have y1 := xx4.x1
  have y2 := xx4.x2
  have y4 := xx4.x4
  go_wp2_with fail
  all_goals first
    | (go_ret; exact ⟨rfl, B4.out⟩)
    | (rename_i hx; exfalso; have hy := hx.2; rw [hm3] at hy; cases hy)

set_option maxRecDepth 100000 in
set_option maxHeartbeats 8000000 in
theorem inNeg3 (i j : Nat) (op rd r2 im f4 fc fg fh wn : Int) (b : Bool) (w : World) (h : MdIs w g N R pc zs) (hi : i < N) (h2 : 2 ≤ i) (hN : N ≤ 64) (hj : i - 1 = j) (f0 : 16 ≤ f) (f1 : f ≤ 128)
    (ho : R (i * 5) = op) (hr : R (i * 5 + 1) = rd) (hr1 : R (i * 5 + 2) = 2) (hr2' : R (i * 5 + 3) = r2) (him : R (i * 5 + 4) = im) (h4b : (op == 4) = false) (h3b : (op == 3) = false) (hsq : shT op = ⟨f4, fc, fg, fh⟩) (hf4b : (f4 == 4) = false)
    (Ea : ∀ w', MdIs w' g N R pc zs → Calls Tryz.prog 98 #[.slice (some ⟨g, 0, none⟩) N c, .int .i64 (i : Nat), .int .i64 f] w' fun e w'' => e = .returned (.bool false) ∧ Below w'.heap.size w' w'')
    (Eb : ∀ w', MdIs w' g N R pc zs → Calls Tryz.prog 98 #[.slice (some ⟨g, 0, none⟩) N c, .int .i64 (j : Nat), .int .i64 f] w' fun e w'' => e = .returned (.bool b) ∧ Below w'.heap.size w' w'')
    (hop : 11 ≤ op ∧ op ≤ 21) (hwn : wdN op = wn) (hw0 : 0 < wn) (hw8 : wn ≤ 8) (hin : im < 0) (g1 : (rd == 1) = false) (g2 : (rd == 2) = false) :
    Calls Tryz.prog 83 #[.slice (some ⟨g, 0, none⟩) N c, .int .i64 i, .int .i64 at', .int .i64 f, .slice pc zs.length cc] w fun e w' => e = .returned (.int .i64 17) ∧ Below w.heap.size w w' := by
  obtain ⟨K, hK⟩ : ∃ K, zs.length = K := ⟨_, rfl⟩
  rw [hK]
  clear hK
  obtain ⟨x0, x1, x2, x3, x4⟩ := h.l.five hi
  simp only [Nat.zero_add] at x0 x1 x2 x3 x4
  rw [ho] at x0
  rw [hr] at x1
  rw [hr1] at x2
  rw [hr2'] at x3
  rw [him] at x4
  have B1 : Below w.heap.size w (w.alloc (.cells #[.int .i64 op, .int .i64 rd, .int .i64 2, .int .i64 r2, .int .i64 im] 93)) := (Below.refl _ _).alloc (Nat.le_refl _) _
  have hh := h.below B1
  have xx : XIs (w.alloc (.cells #[.int .i64 op, .int .i64 rd, .int .i64 2, .int .i64 r2, .int .i64 im] 93)) w.heap.size op rd 2 r2 im := ⟨by simp, by simp, by simp, by simp, by simp⟩
  have BB : Hid (Below w.heap.size w (w.alloc (.cells #[.int .i64 op, .int .i64 rd, .int .i64 2, .int .i64 r2, .int .i64 im] 93))) := B1
  have hsub : ((i : Int) - 1) = ((j : Nat) : Int) := by omega
  have hsh := fun w' => specShs op f4 fc fg fh w' hsq
  clear B1 h hsq hj ho hr hr1 hr2' him
  have wd := fun w' => specWidIn op w' hop.1 hop.2
  rw [hwn] at wd
  have hwz : ¬ wn = 0 := by omega
  go_enter Tryz.func83, Tryz.ntmps83
  go_wp2_with (go_at_call 97; refine (wd _).mono ?_; rintro e w' ⟨rfl, rfl⟩)
  refine (hsh _).mono ?_
  rintro e w2 ⟨rfl, hb2⟩
  have B2 : Hid (Below _ _ w2) := BB.out.trans (hb2.mono BB.out.size)
  have hh2 := hh.below hb2
  have xx2 := xx.below hb2
  have y1 := xx2.x1
  have y2 := xx2.x2
  have y4 := xx2.x4
  have hfd := shField0 f4 fc fg fh w2
  clear hb2 hh xx BB hsh x0 x1 x2 x3 x4
  go_wp2_with fail
  try rw [hsub]
  refine (Ea _ hh2).mono ?_
  rintro e w3 ⟨rfl, hb3⟩
  have B3 : Hid (Below _ _ w3) := B2.out.trans (hb3.mono B2.out.size)
  have hh3 := hh2.below hb3
  have xx3 := xx2.below hb3
  clear y1 y2 y4 hb3 hh2 xx2 B2
  have y1 := xx3.x1
  have y2 := xx3.x2
  have y4 := xx3.x4
  go_wp2_with fail
  all_goals first
    | (go_ret; exact ⟨rfl, B3.out⟩)
    | (rename_i hx; exfalso; have hy := hx.2; rw [hm3] at hy; cases hy)

end
end Go.Proofs.YtelogjpjglohoaaGreatDoor
