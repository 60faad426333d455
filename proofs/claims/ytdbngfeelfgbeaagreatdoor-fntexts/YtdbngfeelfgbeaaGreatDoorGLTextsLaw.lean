/- Instructions are read back from their texts, with blanks around and not with a word more, and operations from their names; shapes and words agree (the tables and strconv's errors are what the program's text lays; the tie is given). -/
import Derived.Test.YtdbngfeelfgbeaaGreatDoorCards
import Derived.Test.YtdbngfeelfgbeaaGreatDoorTie
import Derived.Test.YtdbngfeelfgbeaaGreatDoorGLTexts41
import Derived.Test.YtdbngfeelfgbeaaGreatDoorGLTexts42
import Derived.WalkKit
import Derived.ProofKit
import Derived.OpenShut
import Derived.ShutString
import Derived.ChangeOld
import Derived.Below
import Derived.LaidMore
import Derived.Stop.Joined
import Derived.SevenTiedAt
import Derived.OpenVars
namespace Go.Proofs.YtdbngfeelfgbeaaGreatDoor.fnTexts
open Go.RowKit Go.ChangeShapes Go.WideShapes Go.ChangeAt
open Go.ChangeMaps (open_string shut_string)
set_option linter.unusedVariables false

theorem own : ownKnob Tryz.prog.godebug = none := by kernel_rfl
theorem laidOut : laidOutB Tryz.prog = true := by kernel_rfl

def IsRow (k : IntKind) (w : World) (a : Option Addr) (len cap : Nat) (zs : List Int) : Prop :=
  (a = none ∧ len = 0 ∧ cap = 0 ∧ zs = []) ∨
  ∃ x, a = some x ∧ len ≤ cap ∧ cap ≤ maxLen ∧ zs.length = cap ∧ (∀ i, i < zs.length → w.cell? (x.add i) = some (.int k (zs.getD i 0))) ∧ ∀ n ∈ zs, (Lit.int k n).wf = true

set_option maxRecDepth 100000 in
set_option maxHeartbeats 8000000 in
theorem walk (a0 : Option Addr) (len0 cap0 : Nat) (z0 : List Int) (a1 : Option Addr) (len1 cap1 : Nat) (z1 : List Int) (w : World) (w0 : IsRow .u8 w a0 len0 cap0 z0) (w1 : IsRow .u8 w a1 len1 cap1 z1) (hL : Rd.Laid w) :
    Calls Tryz.prog 3 #[.slice a0 len0 cap0, .slice a1 len1 cap1] w fun e w' => e = .returned (.bool true) ∧ Below w.heap.size w w' := by
  have b0 := bytes_of_row w0
  have b1 := bytes_of_row w1
  have hl0 := b0.1
  have hl1 := b1.1
  unfold maxLen at hl0 hl1
  by_cases h0 : 1048576 < len0
  · clear hL
    go_enter Tryz.func3, Tryz.ntmps3
    go_wp2
    go_ret
    exact ⟨rfl, Below.refl _ _⟩
  by_cases h1 : 1048576 < len1
  · clear hL
    go_enter Tryz.func3, Tryz.ntmps3
    go_wp2
    go_ret
    exact ⟨rfl, Below.refl _ _⟩
  clear w0 w1
  go_enter Tryz.func3, Tryz.ntmps3
  go_wp2_with fail
  refine (instrDrawn_any len0 cap0 w.heap.size a0 _ b0 (Nat.le_refl _)).mono ?_
  rintro e wa ⟨op, rd, r1, r2, im, hr, rfl, ba⟩
  obtain ⟨T, A0, A, B, N, f, c, g, h, W, q1, q2, p1, p2, p3, q3, q4, q5, q6, q7, ⟨hm1, hm2, hc0, hc1⟩, q8, q9, hs1, hs2, hcut⟩ := Tx.textsAll op rd r1 r2 im hr
  have Q1 : Hid (∀ w, Rd.Laid w → Calls Tryz.prog 5 #[.agg #[.int .i64 op, .int .i64 rd, .int .i64 r1, .int .i64 r2, .int .i64 im]] w fun e w' => e = .returned (.tuple #[.string T, .int .i64 0]) ∧ Below w.heap.size w w') := q1
  have Q2 : Hid (∀ w, Calls Tryz.prog 6 #[.agg #[.int .i64 op, .int .i64 rd, .int .i64 r1, .int .i64 r2, .int .i64 im]] w fun e w' => e = .returned (.tuple #[.string T, .int .i64 0]) ∧ Below w.heap.size w w') := q2
  have Q3 : Hid (∀ w, Rd.Laid w → Calls Tryz.prog 7 #[.string A] w fun e w' => e = .returned (.tuple #[.agg #[.int .i64 op, .int .i64 rd, .int .i64 r1, .int .i64 r2, .int .i64 im], .int .i64 0]) ∧ Below w.heap.size w w') := q3
  have Q4 : Hid (∀ w, Rd.Laid w → Calls Tryz.prog 7 #[.string B] w fun e w' => e = .returned (.tuple #[.agg #[.int .i64 0, .int .i64 0, .int .i64 0, .int .i64 0, .int .i64 0], .int .i64 3]) ∧ Below w.heap.size w w') := q4
  have Q5 : Hid (∀ w, Calls Tryz.prog 8 #[.int .i64 op] w fun e w' => e = .returned (.tuple #[.agg #[.int .i64 f, .int .i64 c, .int .i64 g, .int .i64 h], .int .i64 0]) ∧ Below w.heap.size w w') := q5
  have Q6 : Hid (∀ w, Calls Tryz.prog 9 #[.int .i64 op] w fun e w' => e = .returned (.tuple #[.agg #[.int .i64 f, .int .i64 c, .int .i64 g, .int .i64 h], .int .i64 0]) ∧ Below w.heap.size w w') := q6
  have Q7 : Hid (∀ w, Rd.Laid w → Calls Tryz.prog 10 #[.agg #[.int .i64 op, .int .i64 rd, .int .i64 r1, .int .i64 r2, .int .i64 im]] w fun e w' => e = .returned (.tuple #[.int .i64 W, .int .i64 0]) ∧ Below w.heap.size w w') := q7
  have Q8 : Hid (∀ w, Rd.Laid w → Calls Tryz.prog 11 #[.int .i64 op] w fun e w' => e = .returned (.string N) ∧ w' = w) := q8
  have Q9 : Hid (∀ w, Rd.Laid w → Calls Tryz.prog 12 #[.string N] w fun e w' => e = .returned (.int .i64 op) ∧ Below w.heap.size w w') := q9
  clear q1 q2 q3 q4 q5 q6 q7 q8 q9 hr b0 b1
  have X0 : Five (wa.alloc (.cells #[.int .i64 op, .int .i64 rd, .int .i64 r1, .int .i64 r2, .int .i64 im] 24)) wa.heap.size op rd r1 r2 im := by constructor <;> simp
  have B0 : Below w.heap.size w (wa.alloc (.cells #[.int .i64 op, .int .i64 rd, .int .i64 r1, .int .i64 r2, .int .i64 im] 24)) := ba.alloc ba.size _
  have hza := ba.size
  clear ba
  go_wp2_with fail
  refine (Q1.out _ (Rd.laid_below hL B0)).mono ?_
  rintro e w1 ⟨rfl, k1⟩
  have X1 := X0.below k1 (by simp)
  have z1 : wa.heap.size + 1 ≤ w1.heap.size := by have := k1.size; simp at this; omega
  have B1 := B0.trans (k1.mono B0.size)
  clear X0 B0 k1 Q1
  obtain ⟨c0, c1, c2, c3, c4, f0, f1, f2, f3, f4⟩ := X1
  have X1 : Hid (Five w1 wa.heap.size op rd r1 r2 im) := ⟨c0, c1, c2, c3, c4, f0, f1, f2, f3, f4⟩
  go_wp2_with fail
  refine (Q2.out _).mono ?_
  rintro e w2 ⟨rfl, k2⟩
  have X2 : Hid (Five w2 wa.heap.size op rd r1 r2 im) := X1.out.below k2 (by omega)
  have z2 : wa.heap.size + 1 ≤ w2.heap.size := Nat.le_trans z1 k2.size
  have B2 := B1.trans (k2.mono B1.size)
  clear X1 B1 k2 z1 Q2 c0 c1 c2 c3 c4 f0 f1 f2 f3 f4
  go_wp2_with fail
  refine (Q3.out _ (Rd.laid_below hL B2)).mono ?_
  rintro e w3 ⟨rfl, k3⟩
  have X3 := X2.out.below k3 (by omega)
  have z3 : wa.heap.size + 1 ≤ w3.heap.size := Nat.le_trans z2 k3.size
  have B3 := B2.trans (k3.mono B2.size)
  clear X2 B2 k3 z2 Q3 p1 p2
  have X4 := X3.below ((Below.refl w3.heap.size w3).alloc (Nat.le_refl _) (.cells #[.int .i64 op, .int .i64 rd, .int .i64 r1, .int .i64 r2, .int .i64 im] 24)) (by omega)
  have Y4 : Five (w3.alloc (.cells #[.int .i64 op, .int .i64 rd, .int .i64 r1, .int .i64 r2, .int .i64 im] 24)) w3.heap.size op rd r1 r2 im := by constructor <;> simp
  have B4 : Below w.heap.size w (w3.alloc (.cells #[.int .i64 op, .int .i64 rd, .int .i64 r1, .int .i64 r2, .int .i64 im] 24)) := B3.alloc B3.size _
  clear X3 B3
  go_wp2_with fail
  refine (Q4.out _ (Rd.laid_below hL B4)).mono ?_
  rintro e w5 ⟨rfl, k5⟩
  have X5 := X4.below k5 (by simp; omega)
  have Y5 : Five w5 w3.heap.size op rd r1 r2 im := Y4.below k5 (by simp)
  have z5 : w3.heap.size + 1 ≤ w5.heap.size := by have := k5.size; simp at this; omega
  have B5 := B4.trans (k5.mono B4.size)
  clear X4 Y4 B4 k5 Q4 p3
  have hb5 := (Below.refl w5.heap.size w5).alloc (Nat.le_refl _) (.cells #[.int .i64 0, .int .i64 0, .int .i64 0, .int .i64 0, .int .i64 0] 24)
  have X5 : Five (w5.alloc (.cells #[.int .i64 0, .int .i64 0, .int .i64 0, .int .i64 0, .int .i64 0] 24)) wa.heap.size op rd r1 r2 im := X5.below hb5 (by omega)
  have Y5 : Hid (Five (w5.alloc (.cells #[.int .i64 0, .int .i64 0, .int .i64 0, .int .i64 0, .int .i64 0] 24)) w3.heap.size op rd r1 r2 im) := Y5.below hb5 (by omega)
  have B5 : Below w.heap.size w (w5.alloc (.cells #[.int .i64 0, .int .i64 0, .int .i64 0, .int .i64 0, .int .i64 0] 24)) := B5.alloc B5.size _
  clear hb5
  obtain ⟨c0, c1, c2, c3, c4, f0, f1, f2, f3, f4⟩ := X5
  have X5 : Hid (Five (w5.alloc (.cells #[.int .i64 0, .int .i64 0, .int .i64 0, .int .i64 0, .int .i64 0] 24)) wa.heap.size op rd r1 r2 im) := ⟨c0, c1, c2, c3, c4, f0, f1, f2, f3, f4⟩
  go_wp2_with fail
  refine (Q5.out _).mono ?_
  rintro e w6 ⟨rfl, k6⟩
  have X6 := X5.out.below k6 (by simp; omega)
  have Y6 := Y5.out.below k6 (by simp; omega)
  have z6 : w3.heap.size + 1 ≤ w6.heap.size := by have := k6.size; simp at this; omega
  have B6 := B5.trans (k6.mono B5.size)
  clear X5 Y5 B5 k6 z5 Q5 c0 c1 c2 c3 c4 f0 f1 f2 f3 f4
  have X7 : Five (w6.alloc (.cells #[.int .i64 f, .int .i64 c, .int .i64 g, .int .i64 h] 31)) wa.heap.size op rd r1 r2 im := X6.below ((Below.refl w6.heap.size w6).alloc (Nat.le_refl _) _) (by omega)
  have Y7 : Hid (Five (w6.alloc (.cells #[.int .i64 f, .int .i64 c, .int .i64 g, .int .i64 h] 31)) w3.heap.size op rd r1 r2 im) := Y6.below ((Below.refl w6.heap.size w6).alloc (Nat.le_refl _) _) (by omega)
  have B7 : Below w.heap.size w (w6.alloc (.cells #[.int .i64 f, .int .i64 c, .int .i64 g, .int .i64 h] 31)) := B6.alloc B6.size _
  clear X6 Y6 B6
  obtain ⟨c0, c1, c2, c3, c4, f0, f1, f2, f3, f4⟩ := X7
  have X7 : Hid (Five (w6.alloc (.cells #[.int .i64 f, .int .i64 c, .int .i64 g, .int .i64 h] 31)) wa.heap.size op rd r1 r2 im) := ⟨c0, c1, c2, c3, c4, f0, f1, f2, f3, f4⟩
  go_wp2_with fail
  refine (Q6.out _).mono ?_
  rintro e w8 ⟨rfl, k8⟩
  obtain ⟨kc8, kf8⟩ := bcell k8
  have S8c : w8.cell? ⟨w6.heap.size, 0, none⟩ = some (.int .i64 f) ∧ w8.cell? ⟨w6.heap.size, 1, none⟩ = some (.int .i64 c) ∧ w8.cell? ⟨w6.heap.size, 2, none⟩ = some (.int .i64 g) ∧ w8.cell? ⟨w6.heap.size, 3, none⟩ = some (.int .i64 h) := by
    refine ⟨(kc8 _ _ (by simp)).trans ?_, (kc8 _ _ (by simp)).trans ?_, (kc8 _ _ (by simp)).trans ?_, (kc8 _ _ (by simp)).trans ?_⟩ <;> simp
  have X8 := X7.out.below k8 (by simp; omega)
  have Y8 : Hid (Five w8 w3.heap.size op rd r1 r2 im) := Y7.out.below k8 (by simp; omega)
  have z8 : w6.heap.size + 1 ≤ w8.heap.size := by have := k8.size; simp at this; omega
  have B8 := B7.trans (k8.mono B7.size)
  clear X7 Y7 B7 k8 kc8 kf8 Q6 c0 c1 c2 c3 c4 f0 f1 f2 f3 f4
  obtain ⟨s0, s1, s2, s3⟩ := S8c
  have hb9 := (Below.refl w8.heap.size w8).alloc (Nat.le_refl _) (.cells #[.int .i64 f, .int .i64 c, .int .i64 g, .int .i64 h] 31)
  have X9 : Five (w8.alloc (.cells #[.int .i64 f, .int .i64 c, .int .i64 g, .int .i64 h] 31)) wa.heap.size op rd r1 r2 im := X8.below hb9 (by omega)
  have Y9 : Hid (Five (w8.alloc (.cells #[.int .i64 f, .int .i64 c, .int .i64 g, .int .i64 h] 31)) w3.heap.size op rd r1 r2 im) := Y8.out.below hb9 (by omega)
  have B9 : Below w.heap.size w (w8.alloc (.cells #[.int .i64 f, .int .i64 c, .int .i64 g, .int .i64 h] 31)) := B8.alloc B8.size _
  have Z9 : Hid ((w8.alloc (.cells #[.int .i64 f, .int .i64 c, .int .i64 g, .int .i64 h] 31)).cell? ⟨w6.heap.size, 0, none⟩ = some (.int .i64 f) ∧ (w8.alloc (.cells #[.int .i64 f, .int .i64 c, .int .i64 g, .int .i64 h] 31)).cell? ⟨w6.heap.size, 1, none⟩ = some (.int .i64 c) ∧ (w8.alloc (.cells #[.int .i64 f, .int .i64 c, .int .i64 g, .int .i64 h] 31)).cell? ⟨w6.heap.size, 2, none⟩ = some (.int .i64 g) ∧ (w8.alloc (.cells #[.int .i64 f, .int .i64 c, .int .i64 g, .int .i64 h] 31)).cell? ⟨w6.heap.size, 3, none⟩ = some (.int .i64 h)) := ⟨(hb9.cell (p := ⟨w6.heap.size, 0, none⟩) z8).trans s0, (hb9.cell (p := ⟨w6.heap.size, 1, none⟩) z8).trans s1, (hb9.cell (p := ⟨w6.heap.size, 2, none⟩) z8).trans s2, (hb9.cell (p := ⟨w6.heap.size, 3, none⟩) z8).trans s3⟩
  have V9 : Hid ((w8.alloc (.cells #[.int .i64 f, .int .i64 c, .int .i64 g, .int .i64 h] 31)).cell? ⟨w8.heap.size, 0, none⟩ = some (.int .i64 f) ∧ (w8.alloc (.cells #[.int .i64 f, .int .i64 c, .int .i64 g, .int .i64 h] 31)).cell? ⟨w8.heap.size, 1, none⟩ = some (.int .i64 c) ∧ (w8.alloc (.cells #[.int .i64 f, .int .i64 c, .int .i64 g, .int .i64 h] 31)).cell? ⟨w8.heap.size, 2, none⟩ = some (.int .i64 g) ∧ (w8.alloc (.cells #[.int .i64 f, .int .i64 c, .int .i64 g, .int .i64 h] 31)).cell? ⟨w8.heap.size, 3, none⟩ = some (.int .i64 h)) := by refine ⟨?_, ?_, ?_, ?_⟩ <;> simp
  clear hb9 X8 Y8 B8 s0 s1 s2 s3
  obtain ⟨c0, c1, c2, c3, c4, f0, f1, f2, f3, f4⟩ := X9
  have X9 : Hid (Five (w8.alloc (.cells #[.int .i64 f, .int .i64 c, .int .i64 g, .int .i64 h] 31)) wa.heap.size op rd r1 r2 im) := ⟨c0, c1, c2, c3, c4, f0, f1, f2, f3, f4⟩
  clear f0 f1 f2 f3 f4
  go_wp2_with fail
  refine (Q7.out _ (Rd.laid_below hL B9)).mono ?_
  rintro e wx ⟨rfl, kx⟩
  have hzx : w8.heap.size + 1 ≤ wx.heap.size := by have := kx.size; simp at this; omega
  have Xx := X9.out.below kx (by simp; omega)
  have Yx : Hid (Five wx w3.heap.size op rd r1 r2 im) := Y9.out.below kx (by simp; omega)
  have Bx := B9.trans (kx.mono B9.size)
  have Zx : Hid (wx.cell? ⟨w6.heap.size, 0, none⟩ = some (.int .i64 f) ∧ wx.cell? ⟨w6.heap.size, 1, none⟩ = some (.int .i64 c) ∧ wx.cell? ⟨w6.heap.size, 2, none⟩ = some (.int .i64 g) ∧ wx.cell? ⟨w6.heap.size, 3, none⟩ = some (.int .i64 h)) := by
    obtain ⟨s0, s1, s2, s3⟩ := Z9.out
    exact ⟨(kx.cell (p := ⟨w6.heap.size, 0, none⟩) (by simp; omega)).trans s0, (kx.cell (p := ⟨w6.heap.size, 1, none⟩) (by simp; omega)).trans s1, (kx.cell (p := ⟨w6.heap.size, 2, none⟩) (by simp; omega)).trans s2, (kx.cell (p := ⟨w6.heap.size, 3, none⟩) (by simp; omega)).trans s3⟩
  have Vx : Hid (wx.cell? ⟨w8.heap.size, 0, none⟩ = some (.int .i64 f) ∧ wx.cell? ⟨w8.heap.size, 1, none⟩ = some (.int .i64 c) ∧ wx.cell? ⟨w8.heap.size, 2, none⟩ = some (.int .i64 g) ∧ wx.cell? ⟨w8.heap.size, 3, none⟩ = some (.int .i64 h)) := by
    obtain ⟨s0, s1, s2, s3⟩ := V9.out
    exact ⟨(kx.cell (p := ⟨w8.heap.size, 0, none⟩) (by simp)).trans s0, (kx.cell (p := ⟨w8.heap.size, 1, none⟩) (by simp)).trans s1, (kx.cell (p := ⟨w8.heap.size, 2, none⟩) (by simp)).trans s2, (kx.cell (p := ⟨w8.heap.size, 3, none⟩) (by simp)).trans s3⟩
  clear X9 Y9 Z9 V9 B9 kx Q7 c0 c1 c2 c3 c4
  have hLx := Rd.laid_below hL Bx
  clear hL
  obtain ⟨c0, c1, c2, c3, c4, f0, f1, f2, f3, f4⟩ := Xx
  have Xx : Hid (Five wx wa.heap.size op rd r1 r2 im) := ⟨c0, c1, c2, c3, c4, f0, f1, f2, f3, f4⟩
  clear f0 f1 f2 f3 f4
  go_wp2_with fail
  refine (Q8.out _ hLx).mono ?_
  rintro e wy ⟨rfl, rfl⟩
  clear Q8
  obtain ⟨d0, d1, d2, d3, d4, g0, g1, g2, g3, g4⟩ := Yx.out
  obtain ⟨s0, s1, s2, s3⟩ := Zx.out
  obtain ⟨v0, v1, v2, v3⟩ := Vx.out
  clear g0 g1 g2 g3 g4 Xx Yx Zx Vx
  have hlen : (N.size : Int) ≤ (T.size : Int) := by omega
  have hlo : (0 : Int) ≤ (N.size : Int) := by omega
  have HB : Hid (Below w.heap.size w wy) := Bx
  clear Bx
  go_wp2_with fail
  have hD : w8.heap.size < wy.heap.size := hzx
  have hC : w6.heap.size < wy.heap.size := Nat.lt_trans z8 hD
  have hB : w3.heap.size < wy.heap.size := by omega
  have hA : wa.heap.size < wy.heap.size := by omega
  go_region_held3 (fun w' => w'.cell? ⟨wa.heap.size, 0, none⟩ = some (.int .i64 op) ∧ w'.cell? ⟨wa.heap.size, 1, none⟩ = some (.int .i64 rd) ∧ w'.cell? ⟨wa.heap.size, 2, none⟩ = some (.int .i64 r1) ∧ w'.cell? ⟨wa.heap.size, 3, none⟩ = some (.int .i64 r2) ∧ w'.cell? ⟨wa.heap.size, 4, none⟩ = some (.int .i64 im) ∧ w'.cell? ⟨w3.heap.size, 0, none⟩ = some (.int .i64 op) ∧ w'.cell? ⟨w3.heap.size, 1, none⟩ = some (.int .i64 rd) ∧ w'.cell? ⟨w3.heap.size, 2, none⟩ = some (.int .i64 r1) ∧ w'.cell? ⟨w3.heap.size, 3, none⟩ = some (.int .i64 r2) ∧ w'.cell? ⟨w3.heap.size, 4, none⟩ = some (.int .i64 im) ∧ w'.cell? ⟨w6.heap.size, 0, none⟩ = some (.int .i64 f) ∧ w'.cell? ⟨w6.heap.size, 1, none⟩ = some (.int .i64 c) ∧ w'.cell? ⟨w6.heap.size, 2, none⟩ = some (.int .i64 g) ∧ w'.cell? ⟨w6.heap.size, 3, none⟩ = some (.int .i64 h) ∧ w'.cell? ⟨w8.heap.size, 0, none⟩ = some (.int .i64 f) ∧ w'.cell? ⟨w8.heap.size, 1, none⟩ = some (.int .i64 c) ∧ w'.cell? ⟨w8.heap.size, 2, none⟩ = some (.int .i64 g) ∧ w'.cell? ⟨w8.heap.size, 3, none⟩ = some (.int .i64 h)) (go_keep) (first | (go_at_call 12; refine (Q9.out _ (by first | exact hLx | exact Rd.laid_below hLx (Below.refl _ _).drew)).mono ?_; rintro e wv ⟨rfl, kv⟩; have uc0 := (kv.cell (p := ⟨wa.heap.size, 0, none⟩) hA).trans c0; have uc1 := (kv.cell (p := ⟨wa.heap.size, 1, none⟩) hA).trans c1; have uc2 := (kv.cell (p := ⟨wa.heap.size, 2, none⟩) hA).trans c2; have uc3 := (kv.cell (p := ⟨wa.heap.size, 3, none⟩) hA).trans c3; have uc4 := (kv.cell (p := ⟨wa.heap.size, 4, none⟩) hA).trans c4; have ud0 := (kv.cell (p := ⟨w3.heap.size, 0, none⟩) hB).trans d0; have ud1 := (kv.cell (p := ⟨w3.heap.size, 1, none⟩) hB).trans d1; have ud2 := (kv.cell (p := ⟨w3.heap.size, 2, none⟩) hB).trans d2; have ud3 := (kv.cell (p := ⟨w3.heap.size, 3, none⟩) hB).trans d3; have ud4 := (kv.cell (p := ⟨w3.heap.size, 4, none⟩) hB).trans d4; have us0 := (kv.cell (p := ⟨w6.heap.size, 0, none⟩) hC).trans s0; have us1 := (kv.cell (p := ⟨w6.heap.size, 1, none⟩) hC).trans s1; have us2 := (kv.cell (p := ⟨w6.heap.size, 2, none⟩) hC).trans s2; have us3 := (kv.cell (p := ⟨w6.heap.size, 3, none⟩) hC).trans s3; have uv0 := (kv.cell (p := ⟨w8.heap.size, 0, none⟩) hD).trans v0; have uv1 := (kv.cell (p := ⟨w8.heap.size, 1, none⟩) hD).trans v1; have uv2 := (kv.cell (p := ⟨w8.heap.size, 2, none⟩) hD).trans v2; have uv3 := (kv.cell (p := ⟨w8.heap.size, 3, none⟩) hD).trans v3))
  have HZ : Hid (Below w.heap.size w wv) := HB.out.drew.trans (kv.mono HB.out.size)
  clear kv HB hLx
  clear uc0 uc1 uc2 uc3 uc4 ud0 ud1 ud2 ud3 ud4 us0 us1 us2 us3 uv0 uv1 uv2 uv3
  clear c0 c1 c2 c3 c4 d0 d1 d2 d3 d4 s0 s1 s2 s3 v0 v1 v2 v3
  go_wp2
  go_ret
  exact ⟨rfl, HZ.out⟩

set_option maxRecDepth 100000 in
theorem lifted (os : Os) (started : os.Started) (H : Type) (enc : TypeId × Value → H) :
    ReturnsInHanded {} Tryz.checked os 3 .any (fun w args => (Rows.fnTextsSpec.pre enc Tryz.prog Tryz.f3 [] false w args ∧ laidMetH Tryz.prog Rd.laidList w) ∧ sizedMet enc Tryz.prog Tryz.f3 (OpenSpec.ofChange Rows.fnTextsSpec) false w args)
      (Rows.fnTextsSpec.post enc Tryz.prog Tryz.f3 false true false false) := by
  refine returnsInHanded_of_change_and (C := Tryz.checked) (X := fun w _ => laidMetH Tryz.prog Rd.laidList w) (fun _ _ _ hh h => h.of_heap hh) own started (by kernel_rfl) Tryz.func3
    (ChangeSpec.witness_shaped (enc := enc) (C := Tryz.checked) (os := os) (X := fun w _ => laidMetH Tryz.prog Rd.laidList w) false (World.doorLaid Tryz.prog 400 os) #[.slice none 0 0, .slice none 0 0] 8 rfl (World.shaped_of_RefB (by kernel_rfl) (by kernel_rfl)) (by kernel_rfl) (by kernel_rfl) (by kernel_rfl) (Rd.door_met os _)) ?_
  intro W base args ds gs before hval0 hW _ _ hL0 _
  have hval : ∀ (j : Nat) t v, Tryz.f3.params[j]? = some t → args[j]? = some v → Value.okWide Tryz.prog W .any base t v := hval0
  have hW' := hW
  obtain ⟨p, q, hA0, hV, rfl, hfz, hnd⟩ := hW
  have hA : DataW.TrodAll enc Tryz.prog W 0 (fun _ => true) true Tryz.f3.params.toList args.toList ds p := hA0
  rw [Tryz.params3] at hA hval
  obtain ⟨v0, vs0, d0, ds0, p0, q0, hargs, rfl, rfl, h0, r0⟩ := trodAll_cons hA
  obtain ⟨v1, vs1, d1, ds1, p1, q1, rfl, rfl, rfl, h1, r1⟩ := trodAll_cons r0
  obtain ⟨rfl, rfl, rfl⟩ := trodAll_nil r1
  obtain rfl : args = #[v0, v1] := by cases args; simp_all
  obtain ⟨g0, g1, g2, rfl⟩ := Rd.vars_len3 hV
  have hL : Rd.Laid W := Rd.of_laid hL0
  clear hL0
  obtain ⟨a0, len0, cap0, rfl⟩ := okWide_slice Tryz.underlying22 (hval 0 22 v0 rfl rfl)
  have k0 := h0
  have lt0 : ∀ x ∈ p0, x.block < W.heap.size := by obtain ⟨m, hm⟩ := k0; exact DataW.trod_lt m _ _ _ hm
  obtain ⟨z0, w0⟩ : ∃ zs, IsRow .u8 W a0 len0 cap0 zs := by
    obtain ⟨fuel, hf⟩ := h0
    rcases open_ints Tryz.underlying22 Tryz.underlying5 (by kernel_rfl) hf with ⟨hcs, _⟩ | ⟨x, l, c, zs, hcs, _, hl, hm, hz, _, hcell, hwz⟩
    · simp [Value.cells] at hcs
      obtain ⟨rfl, rfl, rfl⟩ := hcs
      exact ⟨[], .inl ⟨rfl, rfl, rfl, rfl⟩⟩
    · simp [Value.cells] at hcs
      obtain ⟨rfl, rfl, rfl⟩ := hcs
      exact ⟨zs, .inr ⟨_, rfl, hl, hm, by simpa using hz, hcell, hwz⟩⟩
  obtain ⟨a1, len1, cap1, rfl⟩ := okWide_slice Tryz.underlying22 (hval 1 22 v1 rfl rfl)
  have k1 := h1
  have lt1 : ∀ x ∈ p1, x.block < W.heap.size := by obtain ⟨m, hm⟩ := k1; exact DataW.trod_lt m _ _ _ hm
  obtain ⟨z1, w1⟩ : ∃ zs, IsRow .u8 W a1 len1 cap1 zs := by
    obtain ⟨fuel, hf⟩ := h1
    rcases open_ints Tryz.underlying22 Tryz.underlying5 (by kernel_rfl) hf with ⟨hcs, _⟩ | ⟨x, l, c, zs, hcs, _, hl, hm, hz, _, hcell, hwz⟩
    · simp [Value.cells] at hcs
      obtain ⟨rfl, rfl, rfl⟩ := hcs
      exact ⟨[], .inl ⟨rfl, rfl, rfl, rfl⟩⟩
    · simp [Value.cells] at hcs
      obtain ⟨rfl, rfl, rfl⟩ := hcs
      exact ⟨zs, .inr ⟨_, rfl, hl, hm, by simpa using hz, hcell, hwz⟩⟩
  clear hA0 hval0
  refine (walk a0 len0 cap0 z0 a1 len1 cap1 z1 W w0 w1 hL).mono fun e W' ⟨he, bel⟩ => ?_
  subst he
  exact ⟨_, rfl, _, _, _, [], _, q, hW', trodAll_mk1 (shut_bool Tryz.underlying4 _), (trodAll_cons_mk (Below.trod laidOut (by kernel_rfl) (of_decide_eq_true (by kernel_rfl)) k0 bel lt0) (trodAll_cons_mk (Below.trod laidOut (by kernel_rfl) (of_decide_eq_true (by kernel_rfl)) k1 bel lt1) trodAll_mk0)), Below.trodVars laidOut bel (by kernel_rfl) hV, bel.frame _, fun h => by cases h⟩

theorem over : Rows.FnTextsSaid :=
  OpenClaim.holds_of_wide 3 Tryz.f3 rfl rfl rfl rfl rfl rfl rfl ⟨rfl, rfl, rfl, rfl, rfl⟩ rfl rfl rfl rfl rfl (by kernel_rfl) Tryz.func3 (by kernel_rfl)
    (of_decide_eq_true (by kernel_rfl)) (by unfold Func.isWrapper; first | (rw [if_pos (by decide +kernel)]; kernel_rfl) | (rw [if_neg (by decide +kernel)]; exact ⟨rfl, rfl⟩))
    (fun os started H enc _ => lifted os started H enc)

theorem plain (f : FuncId) (fn : Func) (hf : Tryz.pinned.checked.prog.funcNamed "loop.example/g00654/laws.FnTexts" = some f) (hfn : Tryz.pinned.checked.prog.funcs[f]? = some fn) :
    true = Tryz.pinned.checked.prog.looks [] ∧ ∀ (j : Nat) t, fn.params[j]? = some t → Tryz.pinned.checked.prog.wantsStandIn t = false := by
  obtain rfl : f = 3 := Option.some.inj ((show Tryz.prog.funcNamed "loop.example/g00654/laws.FnTexts" = some 3 by kernel_rfl).symm.trans hf) |>.symm
  obtain rfl : fn = Tryz.f3 := (Option.some.inj (Tryz.func3.symm.trans hfn)).symm
  refine ⟨by kernel_rfl, fun j t ht => ?_⟩
  rw [Tryz.params3] at ht
  have hm : t ∈ [22] := by
    have := Array.mem_of_getElem? ht
    simp at this ⊢
    first | omega | exact this | exact this.symm | (rcases this with h | h <;> simp [h]) | (rcases this with h | h | h <;> simp [h]) | (rcases this with h | h | h | h <;> simp [h])
  have hall : ([22].all fun u => !Tryz.prog.wantsStandIn u) = true := by kernel_rfl
  exact (show Tryz.prog.wantsStandIn t = false by simpa using List.all_eq_true.1 hall t hm)

theorem card : Rows.FnTextsCardSaid :=
  Claim7.holds_tied_plain_at .later [] _ _ _ _ over (fun _ h => by cases h) (by kernel_rfl) (fun _ h => by cases h) fnTexts_row_tie rfl ⟨rfl, rfl⟩ (by kernel_rfl) rfl plain (by kernel_rfl)
end Go.Proofs.YtdbngfeelfgbeaaGreatDoor.fnTexts
theorem Go.Proofs.YtdbngfeelfgbeaaGreatDoor.texts_hold : Go.Proofs.YtdbngfeelfgbeaaGreatDoor.Rows.FnTextsCardSaid := Go.Proofs.YtdbngfeelfgbeaaGreatDoor.fnTexts.card
