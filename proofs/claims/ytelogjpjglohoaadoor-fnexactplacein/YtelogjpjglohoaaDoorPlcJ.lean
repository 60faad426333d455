/- PlaceIn of both: the contracts (gen_plc.py). -/
import Derived.Test.YtelogjpjglohoaaDoorPlcI
import Derived.Deep.RegionHeld3
namespace Go.Proofs.YtelogjpjglohoaaDoor
open Go Go.RowKit
set_option linter.unusedVariables false

/-- The world in which a call of PlaceIn goes on: the area's box and the answer's. -/
theorem plc_start (b s t : Int) (w : World) : ∃ W, ((w.alloc (.cells #[.int .i64 b, .int .i64 s, .int .i64 t] 24)).alloc (.cells #[.int .i64 0, .int .i64 0, .int .i64 0] 24)) = W ∧ Below w.heap.size w W ∧ Lies W w.heap.size 24 #[.int .i64 b, .int .i64 s, .int .i64 t] ∧ Lies W (w.heap.size + 1) 24 #[.int .i64 0, .int .i64 0, .int .i64 0] :=
  ⟨_, rfl, al2 w _ _, (Lies.new w #[.int .i64 b, .int .i64 s, .int .i64 t] 24).alloc (.cells #[.int .i64 0, .int .i64 0, .int .i64 0] 24), Lies.newAt (w.alloc (.cells #[.int .i64 b, .int .i64 s, .int .i64 t] 24)) #[.int .i64 0, .int .i64 0, .int .i64 0] 24 (g := w.heap.size + 1) (by simp)⟩

set_option maxRecDepth 100000 in
set_option maxHeartbeats 4000000 in
theorem plcS_bad (b s t n : Int) (w : World) (wt : (Lit.int .i64 t).wf = true) (ha : areaB b s t = false) :
    Calls Tryd.prog 4 #[.agg #[.int .i64 b, .int .i64 s, .int .i64 t], .int .i64 n] w fun e w' => PlcAns w.heap.size (((0, 0, 0), 0, 1)) w e w' := by
  have OK := fun v => areaSpec b s t v wt
  rw [ha] at OK
  have HO : Hid (∀ v : World, _) := OK
  clear OK ha wt
  obtain ⟨W, hW, B0, l1, l2⟩ := plc_start b s t w
  have a0 := l1.cell (j := 0) rfl
  have a1 := l1.cell (j := 1) rfl
  have a2 := l1.cell (j := 2) rfl
  go_enter Tryd.func4, Tryd.ntmps4
  go_wp2_with fail
  try rw [hW]
  have HB : Hid (Below w.heap.size w W) := B0
  have LA : Hid (Lies W w.heap.size 24 #[.int .i64 b, .int .i64 s, .int .i64 t]) := l1
  have LZ : Hid (Lies W (w.heap.size + 1) 24 #[.int .i64 0, .int .i64 0, .int .i64 0]) := l2
  clear hW B0 l1 l2 a0 a1 a2
  refine (HO.out W).mono ?_
  rintro e v1 ⟨rfl, hb⟩
  clear HO
  have nB := HB.out.trans (hb.mono HB.out.size)
  have nA := LA.out.below hb LA.out.lt
  have nZ := LZ.out.below hb LZ.out.lt
  clear hb HB LA LZ
  have HB : Hid (Below w.heap.size w v1) := nB
  have LA : Hid (Lies v1 w.heap.size 24 #[.int .i64 b, .int .i64 s, .int .i64 t]) := nA
  have LZ : Hid (Lies v1 (w.heap.size + 1) 24 #[.int .i64 0, .int .i64 0, .int .i64 0]) := nZ
  have a0 := nA.cell (j := 0) rfl
  have a1 := nA.cell (j := 1) rfl
  have a2 := nA.cell (j := 2) rfl
  clear nB nA nZ
  have n0 := ((LZ.out.put 0 (.int .i64 0)).put 1 (.int .i64 0)).put 2 (.int .i64 0)
  have e0 := n0.cell (j := 0) rfl
  have e1 := n0.cell (j := 1) rfl
  have e2 := n0.cell (j := 2) rfl
  have q0 := LZ.out.cell (j := 0) rfl
  have qf0 := LZ.out.fro 0
  have q1 := LZ.out.cell (j := 1) rfl
  have qf1 := LZ.out.fro 1
  have q2 := LZ.out.cell (j := 2) rfl
  have qf2 := LZ.out.fro 2
  have HBL : Hid (Below w.heap.size w _) := (((HB.out.setCell (p := ⟨w.heap.size + 1, 0, none⟩) (by show w.heap.size ≤ w.heap.size + 1; omega) (.int .i64 0)).setCell (p := ⟨w.heap.size + 1, 1, none⟩) (by show w.heap.size ≤ w.heap.size + 1; omega) (.int .i64 0)).setCell (p := ⟨w.heap.size + 1, 2, none⟩) (by show w.heap.size ≤ w.heap.size + 1; omega) (.int .i64 0))
  clear n0
  go_wp2_with fail
  refine bodyPost_ret (v := .tuple #[.agg #[.int .i64 0, .int .i64 0, .int .i64 0], .int .i64 0, .int .i64 1]) (by simp [results, Tryd.results4, go_sem, e0, e1, e2]) rfl ⟨rfl, HBL.out⟩

set_option maxRecDepth 100000 in
set_option maxHeartbeats 4000000 in
theorem plcS_rng (b s t n : Int) (w : World) (wt : (Lit.int .i64 t).wf = true) (ha : areaB b s t = true) (h : n < 1 ∨ 4096 < n) :
    Calls Tryd.prog 4 #[.agg #[.int .i64 b, .int .i64 s, .int .i64 t], .int .i64 n] w fun e w' => PlcAns w.heap.size (((0, 0, 0), 0, 4)) w e w' := by
  have OK := fun v => areaSpec b s t v wt
  rw [ha] at OK
  have HO : Hid (∀ v : World, _) := OK
  clear OK ha wt
  obtain ⟨W, hW, B0, l1, l2⟩ := plc_start b s t w
  have a0 := l1.cell (j := 0) rfl
  have a1 := l1.cell (j := 1) rfl
  have a2 := l1.cell (j := 2) rfl
  go_enter Tryd.func4, Tryd.ntmps4
  go_wp2_with fail
  try rw [hW]
  have HB : Hid (Below w.heap.size w W) := B0
  have LA : Hid (Lies W w.heap.size 24 #[.int .i64 b, .int .i64 s, .int .i64 t]) := l1
  have LZ : Hid (Lies W (w.heap.size + 1) 24 #[.int .i64 0, .int .i64 0, .int .i64 0]) := l2
  clear hW B0 l1 l2 a0 a1 a2
  refine (HO.out W).mono ?_
  rintro e v1 ⟨rfl, hb⟩
  clear HO
  have nB := HB.out.trans (hb.mono HB.out.size)
  have nA := LA.out.below hb LA.out.lt
  have nZ := LZ.out.below hb LZ.out.lt
  clear hb HB LA LZ
  have HB : Hid (Below w.heap.size w v1) := nB
  have LA : Hid (Lies v1 w.heap.size 24 #[.int .i64 b, .int .i64 s, .int .i64 t]) := nA
  have LZ : Hid (Lies v1 (w.heap.size + 1) 24 #[.int .i64 0, .int .i64 0, .int .i64 0]) := nZ
  have a0 := nA.cell (j := 0) rfl
  have a1 := nA.cell (j := 1) rfl
  have a2 := nA.cell (j := 2) rfl
  clear nB nA nZ
  go_wp2_with fail
  refine (spIn n 1 4096 v1 false (.inr ⟨rfl, h⟩)).mono ?_
  rintro e v2 ⟨rfl, rfl⟩
  have n0 := ((LZ.out.put 0 (.int .i64 0)).put 1 (.int .i64 0)).put 2 (.int .i64 0)
  have e0 := n0.cell (j := 0) rfl
  have e1 := n0.cell (j := 1) rfl
  have e2 := n0.cell (j := 2) rfl
  have q0 := LZ.out.cell (j := 0) rfl
  have qf0 := LZ.out.fro 0
  have q1 := LZ.out.cell (j := 1) rfl
  have qf1 := LZ.out.fro 1
  have q2 := LZ.out.cell (j := 2) rfl
  have qf2 := LZ.out.fro 2
  have HBL : Hid (Below w.heap.size w _) := (((HB.out.setCell (p := ⟨w.heap.size + 1, 0, none⟩) (by show w.heap.size ≤ w.heap.size + 1; omega) (.int .i64 0)).setCell (p := ⟨w.heap.size + 1, 1, none⟩) (by show w.heap.size ≤ w.heap.size + 1; omega) (.int .i64 0)).setCell (p := ⟨w.heap.size + 1, 2, none⟩) (by show w.heap.size ≤ w.heap.size + 1; omega) (.int .i64 0))
  clear n0
  go_wp2_with fail
  refine bodyPost_ret (v := .tuple #[.agg #[.int .i64 0, .int .i64 0, .int .i64 0], .int .i64 0, .int .i64 4]) (by simp [results, Tryd.results4, go_sem, e0, e1, e2]) rfl ⟨rfl, HBL.out⟩

set_option maxRecDepth 100000 in
set_option maxHeartbeats 4000000 in
theorem plcS_full (b s t n : Int) (w : World) (wt : (Lit.int .i64 t).wf = true) (ha : areaB b s t = true) (h1 : 1 ≤ n) (h2 : n ≤ 4096) (hr : b + s - t < up8 n) :
    Calls Tryd.prog 4 #[.agg #[.int .i64 b, .int .i64 s, .int .i64 t], .int .i64 n] w fun e w' => PlcAns w.heap.size (((b, s, t), 0, 7)) w e w' := by
  have OK := fun v => areaSpec b s t v wt
  rw [ha] at OK
  have HO : Hid (∀ v : World, _) := OK
  have RM := fun v => plcRoomN b s t n v ha h1 h2 hr
  have HR : Hid (∀ v : World, _) := RM
  clear RM
  clear OK ha wt
  obtain ⟨W, hW, B0, l1, l2⟩ := plc_start b s t w
  have a0 := l1.cell (j := 0) rfl
  have a1 := l1.cell (j := 1) rfl
  have a2 := l1.cell (j := 2) rfl
  go_enter Tryd.func4, Tryd.ntmps4
  go_wp2_with fail
  try rw [hW]
  have HB : Hid (Below w.heap.size w W) := B0
  have LA : Hid (Lies W w.heap.size 24 #[.int .i64 b, .int .i64 s, .int .i64 t]) := l1
  have LZ : Hid (Lies W (w.heap.size + 1) 24 #[.int .i64 0, .int .i64 0, .int .i64 0]) := l2
  clear hW B0 l1 l2 a0 a1 a2
  refine (HO.out W).mono ?_
  rintro e v1 ⟨rfl, hb⟩
  clear HO
  have nB := HB.out.trans (hb.mono HB.out.size)
  have nA := LA.out.below hb LA.out.lt
  have nZ := LZ.out.below hb LZ.out.lt
  clear hb HB LA LZ
  have HB : Hid (Below w.heap.size w v1) := nB
  have LA : Hid (Lies v1 w.heap.size 24 #[.int .i64 b, .int .i64 s, .int .i64 t]) := nA
  have LZ : Hid (Lies v1 (w.heap.size + 1) 24 #[.int .i64 0, .int .i64 0, .int .i64 0]) := nZ
  have a0 := nA.cell (j := 0) rfl
  have a1 := nA.cell (j := 1) rfl
  have a2 := nA.cell (j := 2) rfl
  clear nB nA nZ
  go_wp2_with fail
  refine (spIn n 1 4096 v1 true (.inl ⟨rfl, h1, h2⟩)).mono ?_
  rintro e v2 ⟨rfl, rfl⟩
  go_wp2_with fail
  refine (HR.out _).mono ?_
  rintro e v3 ⟨rfl, hb⟩
  clear HR a0 a1 a2
  have nB := HB.out.trans (hb.mono HB.out.size)
  have nA := LA.out.below hb LA.out.lt
  have nZ := LZ.out.below hb LZ.out.lt
  clear hb HB LA LZ
  have HB : Hid (Below w.heap.size w v3) := nB
  have LA : Hid (Lies v3 w.heap.size 24 #[.int .i64 b, .int .i64 s, .int .i64 t]) := nA
  have LZ : Hid (Lies v3 (w.heap.size + 1) 24 #[.int .i64 0, .int .i64 0, .int .i64 0]) := nZ
  have a0 := nA.cell (j := 0) rfl
  have a1 := nA.cell (j := 1) rfl
  have a2 := nA.cell (j := 2) rfl
  clear nB nA nZ
  have gX := grown1' v3 (.cells #[.int .i64 b, .int .i64 s, .int .i64 t] 24)
  have nB := HB.out.trans (gX.mono HB.out.size)
  have nA := LA.out.below gX LA.out.lt
  have nZ := LZ.out.below gX LZ.out.lt
  clear HB LA LZ a0 a1 a2
  have HB : Hid (Below w.heap.size w _) := nB
  have LA : Hid (Lies _ w.heap.size 24 #[.int .i64 b, .int .i64 s, .int .i64 t]) := nA
  have LZ : Hid (Lies _ (w.heap.size + 1) 24 #[.int .i64 0, .int .i64 0, .int .i64 0]) := nZ
  have a0 := nA.cell (j := 0) rfl
  have a1 := nA.cell (j := 1) rfl
  have a2 := nA.cell (j := 2) rfl
  clear nB nA nZ gX
  have n0 := ((LZ.out.put 0 (.int .i64 b)).put 1 (.int .i64 s)).put 2 (.int .i64 t)
  have e0 := n0.cell (j := 0) rfl
  have e1 := n0.cell (j := 1) rfl
  have e2 := n0.cell (j := 2) rfl
  have q0 := LZ.out.cell (j := 0) rfl
  have qf0 := LZ.out.fro 0
  have q1 := LZ.out.cell (j := 1) rfl
  have qf1 := LZ.out.fro 1
  have q2 := LZ.out.cell (j := 2) rfl
  have qf2 := LZ.out.fro 2
  have HBL : Hid (Below w.heap.size w _) := (((HB.out.setCell (p := ⟨w.heap.size + 1, 0, none⟩) (by show w.heap.size ≤ w.heap.size + 1; omega) (.int .i64 b)).setCell (p := ⟨w.heap.size + 1, 1, none⟩) (by show w.heap.size ≤ w.heap.size + 1; omega) (.int .i64 s)).setCell (p := ⟨w.heap.size + 1, 2, none⟩) (by show w.heap.size ≤ w.heap.size + 1; omega) (.int .i64 t))
  clear n0
  go_wp2_with fail
  refine bodyPost_ret (v := .tuple #[.agg #[.int .i64 b, .int .i64 s, .int .i64 t], .int .i64 0, .int .i64 7]) (by simp [results, Tryd.results4, go_sem, e0, e1, e2]) rfl ⟨rfl, HBL.out⟩

set_option maxRecDepth 100000 in
set_option maxHeartbeats 4000000 in
theorem plcS_ok (b s t n : Int) (w : World) (wt : (Lit.int .i64 t).wf = true) (ha : areaB b s t = true) (h1 : 1 ≤ n) (h2 : n ≤ 4096) (hr : ¬ b + s - t < up8 n) :
    Calls Tryd.prog 4 #[.agg #[.int .i64 b, .int .i64 s, .int .i64 t], .int .i64 n] w fun e w' => PlcAns w.heap.size (((b, s, t + up8 n), t, 0)) w e w' := by
  have OK := fun v => areaSpec b s t v wt
  rw [ha] at OK
  have HO : Hid (∀ v : World, _) := OK
  have RM := fun v => plcRoomY b s t n v ha h1 h2 hr
  have HR : Hid (∀ v : World, _) := RM
  clear RM
  clear OK ha wt
  obtain ⟨W, hW, B0, l1, l2⟩ := plc_start b s t w
  have a0 := l1.cell (j := 0) rfl
  have a1 := l1.cell (j := 1) rfl
  have a2 := l1.cell (j := 2) rfl
  go_enter Tryd.func4, Tryd.ntmps4
  go_wp2_with fail
  try rw [hW]
  have HB : Hid (Below w.heap.size w W) := B0
  have LA : Hid (Lies W w.heap.size 24 #[.int .i64 b, .int .i64 s, .int .i64 t]) := l1
  have LZ : Hid (Lies W (w.heap.size + 1) 24 #[.int .i64 0, .int .i64 0, .int .i64 0]) := l2
  clear hW B0 l1 l2 a0 a1 a2
  refine (HO.out W).mono ?_
  rintro e v1 ⟨rfl, hb⟩
  clear HO
  have nB := HB.out.trans (hb.mono HB.out.size)
  have nA := LA.out.below hb LA.out.lt
  have nZ := LZ.out.below hb LZ.out.lt
  clear hb HB LA LZ
  have HB : Hid (Below w.heap.size w v1) := nB
  have LA : Hid (Lies v1 w.heap.size 24 #[.int .i64 b, .int .i64 s, .int .i64 t]) := nA
  have LZ : Hid (Lies v1 (w.heap.size + 1) 24 #[.int .i64 0, .int .i64 0, .int .i64 0]) := nZ
  have a0 := nA.cell (j := 0) rfl
  have a1 := nA.cell (j := 1) rfl
  have a2 := nA.cell (j := 2) rfl
  clear nB nA nZ
  go_wp2_with fail
  refine (spIn n 1 4096 v1 true (.inl ⟨rfl, h1, h2⟩)).mono ?_
  rintro e v2 ⟨rfl, rfl⟩
  go_wp2_with fail
  refine (HR.out _).mono ?_
  rintro e v3 ⟨rfl, hb⟩
  clear HR a0 a1 a2
  have nB := HB.out.trans (hb.mono HB.out.size)
  have nA := LA.out.below hb LA.out.lt
  have nZ := LZ.out.below hb LZ.out.lt
  clear hb HB LA LZ
  have HB : Hid (Below w.heap.size w v3) := nB
  have LA : Hid (Lies v3 w.heap.size 24 #[.int .i64 b, .int .i64 s, .int .i64 t]) := nA
  have LZ : Hid (Lies v3 (w.heap.size + 1) 24 #[.int .i64 0, .int .i64 0, .int .i64 0]) := nZ
  have a0 := nA.cell (j := 0) rfl
  have a1 := nA.cell (j := 1) rfl
  have a2 := nA.cell (j := 2) rfl
  clear nB nA nZ
  have gX := grown1' v3 (.cells #[.int .i64 b, .int .i64 s, .int .i64 (t + up8 n)] 24)
  have nB := HB.out.trans (gX.mono HB.out.size)
  have nA := LA.out.below gX LA.out.lt
  have nZ := LZ.out.below gX LZ.out.lt
  clear HB LA LZ a0 a1 a2
  have HB : Hid (Below w.heap.size w _) := nB
  have LA : Hid (Lies _ w.heap.size 24 #[.int .i64 b, .int .i64 s, .int .i64 t]) := nA
  have LZ : Hid (Lies _ (w.heap.size + 1) 24 #[.int .i64 0, .int .i64 0, .int .i64 0]) := nZ
  have a0 := nA.cell (j := 0) rfl
  have a1 := nA.cell (j := 1) rfl
  have a2 := nA.cell (j := 2) rfl
  clear nB nA nZ gX
  have n0 := ((LZ.out.put 0 (.int .i64 b)).put 1 (.int .i64 s)).put 2 (.int .i64 (t + up8 n))
  have e0 := n0.cell (j := 0) rfl
  have e1 := n0.cell (j := 1) rfl
  have e2 := n0.cell (j := 2) rfl
  have q0 := LZ.out.cell (j := 0) rfl
  have qf0 := LZ.out.fro 0
  have q1 := LZ.out.cell (j := 1) rfl
  have qf1 := LZ.out.fro 1
  have q2 := LZ.out.cell (j := 2) rfl
  have qf2 := LZ.out.fro 2
  have HBL : Hid (Below w.heap.size w _) := (((HB.out.setCell (p := ⟨w.heap.size + 1, 0, none⟩) (by show w.heap.size ≤ w.heap.size + 1; omega) (.int .i64 b)).setCell (p := ⟨w.heap.size + 1, 1, none⟩) (by show w.heap.size ≤ w.heap.size + 1; omega) (.int .i64 s)).setCell (p := ⟨w.heap.size + 1, 2, none⟩) (by show w.heap.size ≤ w.heap.size + 1; omega) (.int .i64 (t + up8 n)))
  clear n0
  go_wp2_with fail
  refine bodyPost_ret (v := .tuple #[.agg #[.int .i64 b, .int .i64 s, .int .i64 (t + up8 n)], .int .i64 t, .int .i64 0]) (by simp [results, Tryd.results4, go_sem, e0, e1, e2]) rfl ⟨rfl, HBL.out⟩

set_option maxRecDepth 100000 in
set_option maxHeartbeats 4000000 in
theorem plcI_bad (b s t n : Int) (w : World) (wt : (Lit.int .i64 t).wf = true) (ha : areaB b s t = false) :
    Calls Tryd.prog 6 #[.agg #[.int .i64 b, .int .i64 s, .int .i64 t], .int .i64 n] w fun e w' => PlcAns w.heap.size (((0, 0, 0), 0, 1)) w e w' := by
  have OK := fun v => areaImpl b s t v wt
  rw [ha] at OK
  have HO : Hid (∀ v : World, _) := OK
  clear OK ha wt
  obtain ⟨W, hW, B0, l1, l2⟩ := plc_start b s t w
  have a0 := l1.cell (j := 0) rfl
  have a1 := l1.cell (j := 1) rfl
  have a2 := l1.cell (j := 2) rfl
  go_enter Tryd.func6, Tryd.ntmps6
  go_wp2_with fail
  try rw [hW]
  have HB : Hid (Below w.heap.size w W) := B0
  have LA : Hid (Lies W w.heap.size 24 #[.int .i64 b, .int .i64 s, .int .i64 t]) := l1
  have LZ : Hid (Lies W (w.heap.size + 1) 24 #[.int .i64 0, .int .i64 0, .int .i64 0]) := l2
  clear hW B0 l1 l2 a0 a1 a2
  refine (HO.out W).mono ?_
  rintro e v1 ⟨rfl, hb⟩
  clear HO
  have nB := HB.out.trans (hb.mono HB.out.size)
  have nA := LA.out.below hb LA.out.lt
  have nZ := LZ.out.below hb LZ.out.lt
  clear hb HB LA LZ
  have HB : Hid (Below w.heap.size w v1) := nB
  have LA : Hid (Lies v1 w.heap.size 24 #[.int .i64 b, .int .i64 s, .int .i64 t]) := nA
  have LZ : Hid (Lies v1 (w.heap.size + 1) 24 #[.int .i64 0, .int .i64 0, .int .i64 0]) := nZ
  have a0 := nA.cell (j := 0) rfl
  have a1 := nA.cell (j := 1) rfl
  have a2 := nA.cell (j := 2) rfl
  clear nB nA nZ
  have n0 := ((LZ.out.put 0 (.int .i64 0)).put 1 (.int .i64 0)).put 2 (.int .i64 0)
  have e0 := n0.cell (j := 0) rfl
  have e1 := n0.cell (j := 1) rfl
  have e2 := n0.cell (j := 2) rfl
  have q0 := LZ.out.cell (j := 0) rfl
  have qf0 := LZ.out.fro 0
  have q1 := LZ.out.cell (j := 1) rfl
  have qf1 := LZ.out.fro 1
  have q2 := LZ.out.cell (j := 2) rfl
  have qf2 := LZ.out.fro 2
  have HBL : Hid (Below w.heap.size w _) := (((HB.out.setCell (p := ⟨w.heap.size + 1, 0, none⟩) (by show w.heap.size ≤ w.heap.size + 1; omega) (.int .i64 0)).setCell (p := ⟨w.heap.size + 1, 1, none⟩) (by show w.heap.size ≤ w.heap.size + 1; omega) (.int .i64 0)).setCell (p := ⟨w.heap.size + 1, 2, none⟩) (by show w.heap.size ≤ w.heap.size + 1; omega) (.int .i64 0))
  clear n0
  go_wp2_with fail
  refine bodyPost_ret (v := .tuple #[.agg #[.int .i64 0, .int .i64 0, .int .i64 0], .int .i64 0, .int .i64 1]) (by simp [results, Tryd.results6, go_sem, e0, e1, e2]) rfl ⟨rfl, HBL.out⟩

set_option maxRecDepth 100000 in
set_option maxHeartbeats 4000000 in
theorem plcI_rng (b s t n : Int) (w : World) (wt : (Lit.int .i64 t).wf = true) (hL : Laid w) (ha : areaB b s t = true) (h : n < 1 ∨ 4096 < n) :
    Calls Tryd.prog 6 #[.agg #[.int .i64 b, .int .i64 s, .int .i64 t], .int .i64 n] w fun e w' => PlcAns w.heap.size (((0, 0, 0), 0, 4)) w e w' := by
  have OK := fun v => areaImpl b s t v wt
  rw [ha] at OK
  have HO : Hid (∀ v : World, _) := OK
  have HL : Hid (Laid w) := hL
  clear hL
  clear OK ha wt
  obtain ⟨W, hW, B0, l1, l2⟩ := plc_start b s t w
  have a0 := l1.cell (j := 0) rfl
  have a1 := l1.cell (j := 1) rfl
  have a2 := l1.cell (j := 2) rfl
  go_enter Tryd.func6, Tryd.ntmps6
  go_wp2_with fail
  try rw [hW]
  have HB : Hid (Below w.heap.size w W) := B0
  have LA : Hid (Lies W w.heap.size 24 #[.int .i64 b, .int .i64 s, .int .i64 t]) := l1
  have LZ : Hid (Lies W (w.heap.size + 1) 24 #[.int .i64 0, .int .i64 0, .int .i64 0]) := l2
  clear hW B0 l1 l2 a0 a1 a2
  refine (HO.out W).mono ?_
  rintro e v1 ⟨rfl, hb⟩
  clear HO
  have nB := HB.out.trans (hb.mono HB.out.size)
  have nA := LA.out.below hb LA.out.lt
  have nZ := LZ.out.below hb LZ.out.lt
  clear hb HB LA LZ
  have HB : Hid (Below w.heap.size w v1) := nB
  have LA : Hid (Lies v1 w.heap.size 24 #[.int .i64 b, .int .i64 s, .int .i64 t]) := nA
  have LZ : Hid (Lies v1 (w.heap.size + 1) 24 #[.int .i64 0, .int .i64 0, .int .i64 0]) := nZ
  have a0 := nA.cell (j := 0) rfl
  have a1 := nA.cell (j := 1) rfl
  have a2 := nA.cell (j := 2) rfl
  clear nB nA nZ
  obtain ⟨a9, b9, hL1⟩ := laid_below HL.out HB.out
  go_wp2_with fail
  refine (inside_no _ n 1 4096 v1 a9 b9 hL1 h).mono ?_
  rintro e v2 ⟨rfl, rfl⟩
  go_wp2_with fail
  refine (code_range _ _ a9 b9 hL1).mono ?_
  rintro e v3 ⟨rfl, hb⟩
  clear hL1 a0 a1 a2
  have nB := HB.out.trans (hb.mono HB.out.size)
  have nA := LA.out.below hb LA.out.lt
  have nZ := LZ.out.below hb LZ.out.lt
  clear hb HB LA LZ
  have HB : Hid (Below w.heap.size w v3) := nB
  have LA : Hid (Lies v3 w.heap.size 24 #[.int .i64 b, .int .i64 s, .int .i64 t]) := nA
  have LZ : Hid (Lies v3 (w.heap.size + 1) 24 #[.int .i64 0, .int .i64 0, .int .i64 0]) := nZ
  have a0 := nA.cell (j := 0) rfl
  have a1 := nA.cell (j := 1) rfl
  have a2 := nA.cell (j := 2) rfl
  clear nB nA nZ
  have n0 := ((LZ.out.put 0 (.int .i64 0)).put 1 (.int .i64 0)).put 2 (.int .i64 0)
  have e0 := n0.cell (j := 0) rfl
  have e1 := n0.cell (j := 1) rfl
  have e2 := n0.cell (j := 2) rfl
  have q0 := LZ.out.cell (j := 0) rfl
  have qf0 := LZ.out.fro 0
  have q1 := LZ.out.cell (j := 1) rfl
  have qf1 := LZ.out.fro 1
  have q2 := LZ.out.cell (j := 2) rfl
  have qf2 := LZ.out.fro 2
  have HBL : Hid (Below w.heap.size w _) := (((HB.out.setCell (p := ⟨w.heap.size + 1, 0, none⟩) (by show w.heap.size ≤ w.heap.size + 1; omega) (.int .i64 0)).setCell (p := ⟨w.heap.size + 1, 1, none⟩) (by show w.heap.size ≤ w.heap.size + 1; omega) (.int .i64 0)).setCell (p := ⟨w.heap.size + 1, 2, none⟩) (by show w.heap.size ≤ w.heap.size + 1; omega) (.int .i64 0))
  clear n0
  go_wp2_with fail
  refine bodyPost_ret (v := .tuple #[.agg #[.int .i64 0, .int .i64 0, .int .i64 0], .int .i64 0, .int .i64 4]) (by simp [results, Tryd.results6, go_sem, e0, e1, e2]) rfl ⟨rfl, HBL.out⟩

set_option maxRecDepth 100000 in
set_option maxHeartbeats 4000000 in
theorem plcI_full (b s t n : Int) (w : World) (wt : (Lit.int .i64 t).wf = true) (ha : areaB b s t = true) (h1 : 1 ≤ n) (h2 : n ≤ 4096) (hr : b + s - t < up8 n) :
    Calls Tryd.prog 6 #[.agg #[.int .i64 b, .int .i64 s, .int .i64 t], .int .i64 n] w fun e w' => PlcAns w.heap.size (((b, s, t), 0, 7)) w e w' := by
  have OK := fun v => areaImpl b s t v wt
  rw [ha] at OK
  have HO : Hid (∀ v : World, _) := OK
  obtain ⟨p0, p1, p2, p3, p4, p5, p6, p7, p8⟩ := areaB_is ha
  clear p2 p5 p8
  have hu0 : n ≤ up8 n := by unfold up8; omega
  have hu1 : up8 n ≤ n + 7 := by unfold up8; omega
  have hq1 : (n + 8 - 1).tdiv 8 = (n + 7) / 8 := by rw [Int.tdiv_eq_ediv_of_nonneg (by omega)]; congr 1; omega
  have hq2 : (n + 7).tdiv 8 = (n + 7) / 8 := Int.tdiv_eq_ediv_of_nonneg (by omega)
  have hq3 : (n + 7) / 8 * 8 = up8 n := rfl
  have hq4 : IntKind.i64.wrap ((n + 7) / 8) = (n + 7) / 8 := by rw [IntKind.wrap_i64]; omega
  have hq5 : IntKind.i64.wrap ((n + 7) / 8 * 8) = up8 n := by rw [hq3, IntKind.wrap_i64]; omega
  have hq6 : IntKind.i64.wrap (up8 n) = up8 n := by rw [IntKind.wrap_i64]; omega
  have hw2 : IntKind.i64.wrap (b + s - t) = b + s - t := by rw [IntKind.wrap_i64]; omega
  have hw3 : IntKind.i64.wrap (t + up8 n) = t + up8 n ∨ b + s - t < up8 n := by by_cases h : b + s - t < up8 n; (exact .inr h); (left; rw [IntKind.wrap_i64]; omega)
  have HE : Hid (∀ v : World, _) := fun v => endC b s t v (by omega) (by omega) (by omega) (by omega)
  clear OK ha wt
  obtain ⟨W, hW, B0, l1, l2⟩ := plc_start b s t w
  have a0 := l1.cell (j := 0) rfl
  have a1 := l1.cell (j := 1) rfl
  have a2 := l1.cell (j := 2) rfl
  go_enter Tryd.func6, Tryd.ntmps6
  go_wp2_with fail
  try rw [hW]
  have HB : Hid (Below w.heap.size w W) := B0
  have LA : Hid (Lies W w.heap.size 24 #[.int .i64 b, .int .i64 s, .int .i64 t]) := l1
  have LZ : Hid (Lies W (w.heap.size + 1) 24 #[.int .i64 0, .int .i64 0, .int .i64 0]) := l2
  clear hW B0 l1 l2 a0 a1 a2
  refine (HO.out W).mono ?_
  rintro e v1 ⟨rfl, hb⟩
  clear HO
  have nB := HB.out.trans (hb.mono HB.out.size)
  have nA := LA.out.below hb LA.out.lt
  have nZ := LZ.out.below hb LZ.out.lt
  clear hb HB LA LZ
  have HB : Hid (Below w.heap.size w v1) := nB
  have LA : Hid (Lies v1 w.heap.size 24 #[.int .i64 b, .int .i64 s, .int .i64 t]) := nA
  have LZ : Hid (Lies v1 (w.heap.size + 1) 24 #[.int .i64 0, .int .i64 0, .int .i64 0]) := nZ
  have a0 := nA.cell (j := 0) rfl
  have a1 := nA.cell (j := 1) rfl
  have a2 := nA.cell (j := 2) rfl
  clear nB nA nZ
  go_wp2_with fail
  refine (inside_ok _ n 1 4096 v1 h1 h2).mono ?_
  rintro e v2 ⟨rfl, rfl⟩
  have hl1 := LA.out.lt
  generalize hup : up8 n = u at *
  go_wp2_with fail
  go_region_held3 (fun w' => w'.cell? ⟨w.heap.size, 0, none⟩ = some (.int .i64 b) ∧ w'.cell? ⟨w.heap.size, 1, none⟩ = some (.int .i64 s) ∧ w'.cell? ⟨w.heap.size, 2, none⟩ = some (.int .i64 t)) (go_keep) ((go_at_call 14; refine (HE.out _).mono ?_; rintro e v9 ⟨rfl, hb8⟩; have hb : Below v2.heap.size v2 v9 := (by first | exact (Below.refl v2.heap.size v2).drew.trans hb8 | exact hb8); have z0 := (hb.cell (p := ⟨w.heap.size, 0, none⟩) hl1).trans a0; have z1 := (hb.cell (p := ⟨w.heap.size, 1, none⟩) hl1).trans a1; have z2 := (hb.cell (p := ⟨w.heap.size, 2, none⟩) hl1).trans a2))
  all_goals
    clear z0 z1 z2 hb8 HE a0 a1 a2
    have nB := HB.out.trans (hb.mono HB.out.size)
    have nA := LA.out.below hb LA.out.lt
    have nZ := LZ.out.below hb LZ.out.lt
    clear hb HB LA LZ
    have HB : Hid (Below w.heap.size w v9) := nB
    have LA : Hid (Lies v9 w.heap.size 24 #[.int .i64 b, .int .i64 s, .int .i64 t]) := nA
    have LZ : Hid (Lies v9 (w.heap.size + 1) 24 #[.int .i64 0, .int .i64 0, .int .i64 0]) := nZ
    have a0 := nA.cell (j := 0) rfl
    have a1 := nA.cell (j := 1) rfl
    have a2 := nA.cell (j := 2) rfl
    clear nB nA nZ
    have n0 := ((LZ.out.put 0 (.int .i64 b)).put 1 (.int .i64 s)).put 2 (.int .i64 t)
    have e0 := n0.cell (j := 0) rfl
    have e1 := n0.cell (j := 1) rfl
    have e2 := n0.cell (j := 2) rfl
    have q0 := LZ.out.cell (j := 0) rfl
    have qf0 := LZ.out.fro 0
    have q1 := LZ.out.cell (j := 1) rfl
    have qf1 := LZ.out.fro 1
    have q2 := LZ.out.cell (j := 2) rfl
    have qf2 := LZ.out.fro 2
    have HBL : Hid (Below w.heap.size w _) := (((HB.out.setCell (p := ⟨w.heap.size + 1, 0, none⟩) (by show w.heap.size ≤ w.heap.size + 1; omega) (.int .i64 b)).setCell (p := ⟨w.heap.size + 1, 1, none⟩) (by show w.heap.size ≤ w.heap.size + 1; omega) (.int .i64 s)).setCell (p := ⟨w.heap.size + 1, 2, none⟩) (by show w.heap.size ≤ w.heap.size + 1; omega) (.int .i64 t))
    clear n0
    go_wp2_with fail
    refine bodyPost_ret (v := .tuple #[.agg #[.int .i64 b, .int .i64 s, .int .i64 t], .int .i64 0, .int .i64 7]) (by simp [results, Tryd.results6, go_sem, e0, e1, e2]) rfl ⟨rfl, HBL.out⟩

set_option maxRecDepth 100000 in
set_option maxHeartbeats 4000000 in
theorem plcI_ok (b s t n : Int) (w : World) (wt : (Lit.int .i64 t).wf = true) (ha : areaB b s t = true) (h1 : 1 ≤ n) (h2 : n ≤ 4096) (hr : ¬ b + s - t < up8 n) :
    Calls Tryd.prog 6 #[.agg #[.int .i64 b, .int .i64 s, .int .i64 t], .int .i64 n] w fun e w' => PlcAns w.heap.size (((b, s, t + up8 n), t, 0)) w e w' := by
  have OK := fun v => areaImpl b s t v wt
  rw [ha] at OK
  have HO : Hid (∀ v : World, _) := OK
  obtain ⟨p0, p1, p2, p3, p4, p5, p6, p7, p8⟩ := areaB_is ha
  clear p2 p5 p8
  have hu0 : n ≤ up8 n := by unfold up8; omega
  have hu1 : up8 n ≤ n + 7 := by unfold up8; omega
  have hq1 : (n + 8 - 1).tdiv 8 = (n + 7) / 8 := by rw [Int.tdiv_eq_ediv_of_nonneg (by omega)]; congr 1; omega
  have hq2 : (n + 7).tdiv 8 = (n + 7) / 8 := Int.tdiv_eq_ediv_of_nonneg (by omega)
  have hq3 : (n + 7) / 8 * 8 = up8 n := rfl
  have hq4 : IntKind.i64.wrap ((n + 7) / 8) = (n + 7) / 8 := by rw [IntKind.wrap_i64]; omega
  have hq5 : IntKind.i64.wrap ((n + 7) / 8 * 8) = up8 n := by rw [hq3, IntKind.wrap_i64]; omega
  have hq6 : IntKind.i64.wrap (up8 n) = up8 n := by rw [IntKind.wrap_i64]; omega
  have hw2 : IntKind.i64.wrap (b + s - t) = b + s - t := by rw [IntKind.wrap_i64]; omega
  have hw3 : IntKind.i64.wrap (t + up8 n) = t + up8 n ∨ b + s - t < up8 n := by by_cases h : b + s - t < up8 n; (exact .inr h); (left; rw [IntKind.wrap_i64]; omega)
  have HE : Hid (∀ v : World, _) := fun v => endC b s t v (by omega) (by omega) (by omega) (by omega)
  clear OK ha wt
  obtain ⟨W, hW, B0, l1, l2⟩ := plc_start b s t w
  have a0 := l1.cell (j := 0) rfl
  have a1 := l1.cell (j := 1) rfl
  have a2 := l1.cell (j := 2) rfl
  go_enter Tryd.func6, Tryd.ntmps6
  go_wp2_with fail
  try rw [hW]
  have HB : Hid (Below w.heap.size w W) := B0
  have LA : Hid (Lies W w.heap.size 24 #[.int .i64 b, .int .i64 s, .int .i64 t]) := l1
  have LZ : Hid (Lies W (w.heap.size + 1) 24 #[.int .i64 0, .int .i64 0, .int .i64 0]) := l2
  clear hW B0 l1 l2 a0 a1 a2
  refine (HO.out W).mono ?_
  rintro e v1 ⟨rfl, hb⟩
  clear HO
  have nB := HB.out.trans (hb.mono HB.out.size)
  have nA := LA.out.below hb LA.out.lt
  have nZ := LZ.out.below hb LZ.out.lt
  clear hb HB LA LZ
  have HB : Hid (Below w.heap.size w v1) := nB
  have LA : Hid (Lies v1 w.heap.size 24 #[.int .i64 b, .int .i64 s, .int .i64 t]) := nA
  have LZ : Hid (Lies v1 (w.heap.size + 1) 24 #[.int .i64 0, .int .i64 0, .int .i64 0]) := nZ
  have a0 := nA.cell (j := 0) rfl
  have a1 := nA.cell (j := 1) rfl
  have a2 := nA.cell (j := 2) rfl
  clear nB nA nZ
  go_wp2_with fail
  refine (inside_ok _ n 1 4096 v1 h1 h2).mono ?_
  rintro e v2 ⟨rfl, rfl⟩
  have hl1 := LA.out.lt
  generalize hup : up8 n = u at *
  go_wp2_with fail
  go_region_held3 (fun w' => w'.cell? ⟨w.heap.size, 0, none⟩ = some (.int .i64 b) ∧ w'.cell? ⟨w.heap.size, 1, none⟩ = some (.int .i64 s) ∧ w'.cell? ⟨w.heap.size, 2, none⟩ = some (.int .i64 t)) (go_keep) ((go_at_call 14; refine (HE.out _).mono ?_; rintro e v9 ⟨rfl, hb8⟩; have hb : Below v2.heap.size v2 v9 := (by first | exact (Below.refl v2.heap.size v2).drew.trans hb8 | exact hb8); have z0 := (hb.cell (p := ⟨w.heap.size, 0, none⟩) hl1).trans a0; have z1 := (hb.cell (p := ⟨w.heap.size, 1, none⟩) hl1).trans a1; have z2 := (hb.cell (p := ⟨w.heap.size, 2, none⟩) hl1).trans a2))
  all_goals
    clear z0 z1 z2 hb8 HE a0 a1 a2
    have nB := HB.out.trans (hb.mono HB.out.size)
    have nA := LA.out.below hb LA.out.lt
    have nZ := LZ.out.below hb LZ.out.lt
    clear hb HB LA LZ
    have HB : Hid (Below w.heap.size w v9) := nB
    have LA : Hid (Lies v9 w.heap.size 24 #[.int .i64 b, .int .i64 s, .int .i64 t]) := nA
    have LZ : Hid (Lies v9 (w.heap.size + 1) 24 #[.int .i64 0, .int .i64 0, .int .i64 0]) := nZ
    have a0 := nA.cell (j := 0) rfl
    have a1 := nA.cell (j := 1) rfl
    have a2 := nA.cell (j := 2) rfl
    clear nB nA nZ
    have hw4 : IntKind.i64.wrap (t + u) = t + u := by rcases hw3 with h | h; (exact h); omega
    have hr2 : decide (b + s - t < u) = false := decide_eq_false (by omega)
    have af := LA.out.fro 2
    have y := LA.out.put 2 (.int .i64 (t + u))
    have y0 := y.cell (j := 0) rfl
    have y1 := y.cell (j := 1) rfl
    have y2 := y.cell (j := 2) rfl
    have z := LZ.out.putOther (a := ⟨w.heap.size, 2, none⟩) (by show w.heap.size + 1 ≠ w.heap.size; omega) (.int .i64 (t + u))
    have z0 := z.cell (j := 0) rfl
    have z1 := z.cell (j := 1) rfl
    have z2 := z.cell (j := 2) rfl
    have zf0 := z.fro 0
    have zf1 := z.fro 1
    have zf2 := z.fro 2
    have LY : Hid (Lies _ (w.heap.size + 1) 24 #[.int .i64 0, .int .i64 0, .int .i64 0]) := z
    have HY : Hid (Below w.heap.size w _) := HB.out.setCell (p := ⟨w.heap.size, 2, none⟩) (Nat.le_refl _) (.int .i64 (t + u))
    clear y z hw3
    have n0 := ((LY.out.put 0 (.int .i64 b)).put 1 (.int .i64 s)).put 2 (.int .i64 (t + u))
    have e0 := n0.cell (j := 0) rfl
    have e1 := n0.cell (j := 1) rfl
    have e2 := n0.cell (j := 2) rfl
    have q0 := LY.out.cell (j := 0) rfl
    have qf0 := LY.out.fro 0
    have q1 := LY.out.cell (j := 1) rfl
    have qf1 := LY.out.fro 1
    have q2 := LY.out.cell (j := 2) rfl
    have qf2 := LY.out.fro 2
    have HBL : Hid (Below w.heap.size w _) := (((HY.out.setCell (p := ⟨w.heap.size + 1, 0, none⟩) (by show w.heap.size ≤ w.heap.size + 1; omega) (.int .i64 b)).setCell (p := ⟨w.heap.size + 1, 1, none⟩) (by show w.heap.size ≤ w.heap.size + 1; omega) (.int .i64 s)).setCell (p := ⟨w.heap.size + 1, 2, none⟩) (by show w.heap.size ≤ w.heap.size + 1; omega) (.int .i64 (t + u)))
    clear n0
    go_wp2_with fail
    refine bodyPost_ret (v := .tuple #[.agg #[.int .i64 b, .int .i64 s, .int .i64 (t + u)], .int .i64 t, .int .i64 0]) (by simp [results, Tryd.results6, go_sem, e0, e1, e2]) rfl ⟨by subst hup; rfl, HBL.out⟩

/-- Both answer the same. -/
theorem plcBoth (b s t n : Int) (wt : (Lit.int .i64 t).wf = true) : ∃ r, (∀ w, Calls Tryd.prog 4 #[.agg #[.int .i64 b, .int .i64 s, .int .i64 t], .int .i64 n] w fun e w' => PlcAns w.heap.size r w e w') ∧ (∀ w, Laid w → Calls Tryd.prog 6 #[.agg #[.int .i64 b, .int .i64 s, .int .i64 t], .int .i64 n] w fun e w' => PlcAns w.heap.size r w e w') := by
  cases ha : areaB b s t with
  | false => exact ⟨_, fun w => plcS_bad b s t n w wt ha, fun w _ => plcI_bad b s t n w wt ha⟩
  | true =>
    by_cases h : n < 1 ∨ 4096 < n
    · exact ⟨_, fun w => plcS_rng b s t n w wt ha h, fun w hL => plcI_rng b s t n w wt hL ha h⟩
    · by_cases hr : b + s - t < up8 n
      · exact ⟨_, fun w => plcS_full b s t n w wt ha (by omega) (by omega) hr, fun w _ => plcI_full b s t n w wt ha (by omega) (by omega) hr⟩
      · exact ⟨_, fun w => plcS_ok b s t n w wt ha (by omega) (by omega) hr, fun w _ => plcI_ok b s t n w wt ha (by omega) (by omega) hr⟩
end Go.Proofs.YtelogjpjglohoaaDoor
