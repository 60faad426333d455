/- PlaceIn of both. -/
import Derived.Test.YtelogjpjglohoaaDoorAreL
import Derived.Test.YtelogjpjglohoaaDoorErrC
namespace Go.Proofs.YtelogjpjglohoaaDoor
open Go Go.RowKit
set_option linter.unusedVariables false

/-- What is taken of n bytes. -/
def up8 (n : Int) : Int := (n + 7) / 8 * 8
/-- What PlaceIn answers: the area's three numbers, where the bytes begin, the code. -/
def plcX (b s t n : Int) : (Int × Int × Int) × Int × Int :=
  if areaB b s t = false then ((0, 0, 0), 0, 1) else if n < 1 ∨ 4096 < n then ((0, 0, 0), 0, 4) else if b + s - t < up8 n then ((b, s, t), 0, 7) else ((b, s, t + up8 n), t, 0)
/-- An answer of that kind. -/
def PlcAns (B : Nat) (r : (Int × Int × Int) × Int × Int) (w : World) (e : Ending) (w' : World) : Prop :=
  e = .returned (.tuple #[.agg #[.int .i64 r.1.1, .int .i64 r.1.2.1, .int .i64 r.1.2.2], .int .i64 r.2.1, .int .i64 r.2.2]) ∧ Below B w w'
theorem al3 (w : World) (a b c : Obj) : Below w.heap.size w (((w.alloc a).alloc b).alloc c) := ((grown1' w a).alloc (by simp) b).alloc (by simp; omega) c
theorem al2 (w : World) (a b : Obj) : Below w.heap.size w ((w.alloc a).alloc b) := (grown1' w a).alloc (by simp) b

set_option maxRecDepth 100000 in
set_option maxHeartbeats 4000000 in
theorem plcRoomN (b s t n : Int) (w : World) (ha : areaB b s t = true) (h1 : 1 ≤ n) (h2 : n ≤ 4096) (hr : b + s - t < up8 n) :
    Calls Tryd.prog 10 #[.agg #[.int .i64 b, .int .i64 s, .int .i64 t], .int .i64 n] w fun e w' =>
      e = .returned (.tuple #[.agg #[.int .i64 b, .int .i64 s, .int .i64 t], .int .i64 0, .bool false]) ∧ Below w.heap.size w w' := by
  obtain ⟨p0, p1, p2, p3, p4, p5, p6, p7, p8⟩ := areaB_is ha
  have hu0 : n ≤ up8 n := by unfold up8; omega
  have hu1 : up8 n ≤ n + 7 := by unfold up8; omega
  have hu2 : up8 n % 8 = 0 := by unfold up8; omega
  have hu3 : ∀ m : Int, n ≤ m → m % 8 = 0 → m ≤ n + 7 → m = up8 n := by unfold up8; intro m; omega
  obtain ⟨u, hu⟩ : ∃ u, up8 n = u := ⟨_, rfl⟩
  rw [hu] at hu0 hu1 hu2 hu3 hr
  try rw [hu]
  have B2 := al2 w (.cells #[.int .i64 b, .int .i64 s, .int .i64 t] 24) (.cells #[.int .i64 0, .int .i64 0, .int .i64 0] 24)
  have l1 := (Lies.new w #[.int .i64 b, .int .i64 s, .int .i64 t] 24).alloc (.cells #[.int .i64 0, .int .i64 0, .int .i64 0] 24)
  have l2 := Lies.newAt (w.alloc (.cells #[.int .i64 b, .int .i64 s, .int .i64 t] 24)) #[.int .i64 0, .int .i64 0, .int .i64 0] 24 (g := w.heap.size + 1) (by simp)
  clear ha p2 p5 p8 hu
  go_enter Tryd.func10, Tryd.ntmps10
  go_wp2_with fail
  obtain ⟨W, hW⟩ : ∃ W, (w.alloc (.cells #[.int .i64 b, .int .i64 s, .int .i64 t] 24)).alloc (.cells #[.int .i64 0, .int .i64 0, .int .i64 0] 24) = W := ⟨_, rfl⟩
  rw [hW] at B2 l1 l2 ⊢
  clear hW
  have HB : Hid (Below w.heap.size w W) := B2
  have H1 : Hid (Lies W w.heap.size 24 #[.int .i64 b, .int .i64 s, .int .i64 t]) := l1
  have H2 : Hid (Lies W (w.heap.size + 1) 24 #[.int .i64 0, .int .i64 0, .int .i64 0]) := l2
  clear B2 l1 l2
  go_loop [1] (fun m => ∃ k : Int, m = .int .i64 k ∧ n ≤ k ∧ k ≤ u) (fun m => (u - intOf m).toNat)
  case atStart => exact ⟨n, rfl, by omega, by omega⟩
  case round =>
    obtain ⟨k, rfl, hk0, hk1⟩ := hrel
    have hm : k.tmod 8 = k % 8 := Int.tmod_eq_emod_of_nonneg (by omega)
    by_cases hk : k % 8 = 0
    · obtain rfl : k = u := hu3 k hk0 hk (by omega)
      have c0 := H1.out.cell (j := 0) rfl
      have c1 := H1.out.cell (j := 1) rfl
      have c2 := H1.out.cell (j := 2) rfl
      have d0 := H2.out.cell (j := 0) rfl
      have d1 := H2.out.cell (j := 1) rfl
      have d2 := H2.out.cell (j := 2) rfl
      have f0 := H2.out.fro 0
      have f1 := H2.out.fro 1
      have f2 := H2.out.fro 2
      have g2 := H1.out.fro 2
      have w1 : IntKind.i64.wrap (b + s) = b + s := by rw [IntKind.wrap_i64]; omega
      have w2 : IntKind.i64.wrap (b + s - t) = b + s - t := by rw [IntKind.wrap_i64]; omega
      have w3 : IntKind.i64.wrap (t + k) = t + k := by rw [IntKind.wrap_i64]; omega
      have n := ((H2.out.put 0 (.int .i64 b)).put 1 (.int .i64 s)).put 2 (.int .i64 t)
      have e0 := n.cell (j := 0) rfl
      have e1 := n.cell (j := 1) rfl
      have e2 := n.cell (j := 2) rfl
      have HBL : Hid (Below w.heap.size w _) := (((HB.out.setCell (p := ⟨w.heap.size + 1, 0, none⟩) (by show w.heap.size ≤ w.heap.size + 1; omega) (.int .i64 b)).setCell (p := ⟨w.heap.size + 1, 1, none⟩) (by show w.heap.size ≤ w.heap.size + 1; omega) (.int .i64 s)).setCell (p := ⟨w.heap.size + 1, 2, none⟩) (by show w.heap.size ≤ w.heap.size + 1; omega) (.int .i64 t))
      clear n
      go_wp2
      refine bodyPost_ret (v := .tuple #[.agg #[.int .i64 b, .int .i64 s, .int .i64 t], .int .i64 0, .bool false]) (by simp [results, Tryd.results10, go_sem, e0, e1, e2]) rfl ⟨rfl, HBL.out⟩
    · have hm0 : (k.tmod 8 != 0) = true := by rw [hm]; simpa using hk
      go_wp2
      go_round
      case rel => exact ⟨k + 1, by go_num, by omega, by omega⟩
      case measure => simp [intOf]; omega
set_option maxRecDepth 100000 in
set_option maxHeartbeats 4000000 in
theorem plcRoomY (b s t n : Int) (w : World) (ha : areaB b s t = true) (h1 : 1 ≤ n) (h2 : n ≤ 4096) (hr : ¬ b + s - t < up8 n) :
    Calls Tryd.prog 10 #[.agg #[.int .i64 b, .int .i64 s, .int .i64 t], .int .i64 n] w fun e w' =>
      e = .returned (.tuple #[.agg #[.int .i64 b, .int .i64 s, .int .i64 (t + up8 n)], .int .i64 t, .bool true]) ∧ Below w.heap.size w w' := by
  obtain ⟨p0, p1, p2, p3, p4, p5, p6, p7, p8⟩ := areaB_is ha
  have hu0 : n ≤ up8 n := by unfold up8; omega
  have hu1 : up8 n ≤ n + 7 := by unfold up8; omega
  have hu2 : up8 n % 8 = 0 := by unfold up8; omega
  have hu3 : ∀ m : Int, n ≤ m → m % 8 = 0 → m ≤ n + 7 → m = up8 n := by unfold up8; intro m; omega
  obtain ⟨u, hu⟩ : ∃ u, up8 n = u := ⟨_, rfl⟩
  rw [hu] at hu0 hu1 hu2 hu3 hr
  try rw [hu]
  have B2 := al2 w (.cells #[.int .i64 b, .int .i64 s, .int .i64 t] 24) (.cells #[.int .i64 0, .int .i64 0, .int .i64 0] 24)
  have l1 := (Lies.new w #[.int .i64 b, .int .i64 s, .int .i64 t] 24).alloc (.cells #[.int .i64 0, .int .i64 0, .int .i64 0] 24)
  have l2 := Lies.newAt (w.alloc (.cells #[.int .i64 b, .int .i64 s, .int .i64 t] 24)) #[.int .i64 0, .int .i64 0, .int .i64 0] 24 (g := w.heap.size + 1) (by simp)
  clear ha p2 p5 p8 hu
  go_enter Tryd.func10, Tryd.ntmps10
  go_wp2_with fail
  obtain ⟨W, hW⟩ : ∃ W, (w.alloc (.cells #[.int .i64 b, .int .i64 s, .int .i64 t] 24)).alloc (.cells #[.int .i64 0, .int .i64 0, .int .i64 0] 24) = W := ⟨_, rfl⟩
  rw [hW] at B2 l1 l2 ⊢
  clear hW
  have HB : Hid (Below w.heap.size w W) := B2
  have H1 : Hid (Lies W w.heap.size 24 #[.int .i64 b, .int .i64 s, .int .i64 t]) := l1
  have H2 : Hid (Lies W (w.heap.size + 1) 24 #[.int .i64 0, .int .i64 0, .int .i64 0]) := l2
  clear B2 l1 l2
  go_loop [1] (fun m => ∃ k : Int, m = .int .i64 k ∧ n ≤ k ∧ k ≤ u) (fun m => (u - intOf m).toNat)
  case atStart => exact ⟨n, rfl, by omega, by omega⟩
  case round =>
    obtain ⟨k, rfl, hk0, hk1⟩ := hrel
    have hm : k.tmod 8 = k % 8 := Int.tmod_eq_emod_of_nonneg (by omega)
    by_cases hk : k % 8 = 0
    · obtain rfl : k = u := hu3 k hk0 hk (by omega)
      have c0 := H1.out.cell (j := 0) rfl
      have c1 := H1.out.cell (j := 1) rfl
      have c2 := H1.out.cell (j := 2) rfl
      have d0 := H2.out.cell (j := 0) rfl
      have d1 := H2.out.cell (j := 1) rfl
      have d2 := H2.out.cell (j := 2) rfl
      have f0 := H2.out.fro 0
      have f1 := H2.out.fro 1
      have f2 := H2.out.fro 2
      have g2 := H1.out.fro 2
      have w1 : IntKind.i64.wrap (b + s) = b + s := by rw [IntKind.wrap_i64]; omega
      have w2 : IntKind.i64.wrap (b + s - t) = b + s - t := by rw [IntKind.wrap_i64]; omega
      have w3 : IntKind.i64.wrap (t + k) = t + k := by rw [IntKind.wrap_i64]; omega
      have y := H1.out.put 2 (.int .i64 (t + k))
      have y0 := y.cell (j := 0) rfl
      have y1 := y.cell (j := 1) rfl
      have y2 := y.cell (j := 2) rfl
      have z := H2.out.putOther (a := ⟨w.heap.size, 2, none⟩) (by show w.heap.size + 1 ≠ w.heap.size; omega) (.int .i64 (t + k))
      have z0 := z.cell (j := 0) rfl
      have z1 := z.cell (j := 1) rfl
      have z2 := z.cell (j := 2) rfl
      have zf0 := z.fro 0
      have zf1 := z.fro 1
      have zf2 := z.fro 2
      have n := ((z.put 0 (.int .i64 b)).put 1 (.int .i64 s)).put 2 (.int .i64 (t + k))
      have e0 := n.cell (j := 0) rfl
      have e1 := n.cell (j := 1) rfl
      have e2 := n.cell (j := 2) rfl
      have B1 := HB.out.setCell (p := ⟨w.heap.size, 2, none⟩) (Nat.le_refl _) (.int .i64 (t + k))
      have HBL : Hid (Below w.heap.size w _) := (((B1.setCell (p := ⟨w.heap.size + 1, 0, none⟩) (by show w.heap.size ≤ w.heap.size + 1; omega) (.int .i64 b)).setCell (p := ⟨w.heap.size + 1, 1, none⟩) (by show w.heap.size ≤ w.heap.size + 1; omega) (.int .i64 s)).setCell (p := ⟨w.heap.size + 1, 2, none⟩) (by show w.heap.size ≤ w.heap.size + 1; omega) (.int .i64 (t + k)))
      clear n y z B1
      go_wp2
      refine bodyPost_ret (v := .tuple #[.agg #[.int .i64 b, .int .i64 s, .int .i64 (t + k)], .int .i64 t, .bool true]) (by simp [results, Tryd.results10, go_sem, e0, e1, e2]) rfl ⟨rfl, HBL.out⟩
    · have hm0 : (k.tmod 8 != 0) = true := by rw [hm]; simpa using hk
      go_wp2
      go_round
      case rel => exact ⟨k + 1, by go_num, by omega, by omega⟩
      case measure => simp [intOf]; omega
end Go.Proofs.YtelogjpjglohoaaDoor
