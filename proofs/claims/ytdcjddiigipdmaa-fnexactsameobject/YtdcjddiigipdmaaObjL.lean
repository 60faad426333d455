/- Objects of the laws: copied, measured, held against each other, marked (gen_objl.py). -/
import Derived.Test.YtdcjddiigipdmaaObjO
import Derived.Test.YtdcjddiigipdmaaOwnB
namespace Go.Proofs.Ytdcjddiigipdmaa
open Go Go.RowKit
set_option linter.unusedVariables false

/-- An object of the call's own: its lists lie one behind the other. -/
structure ObjOwn (w : World) (b0 b1 b2 b3 b4 : Nat) (q : ObjPt) (o : ObjD) : Prop where
  f : OwnIn w b0 b1 q.pf o.nf 4 (funV o.F)
  d : OwnIn w b1 b2 q.pd o.nd 2 (datV o.D)
  r : OwnIn w b2 b3 q.pr o.nr 5 (relV o.R)
  s : OwnIn w b3 b4 q.ps o.ns 2 (shaV o.S)
  h0 : b0 ≤ b1
  h1 : b1 ≤ b2
  h2 : b2 ≤ b3
  h3 : b3 ≤ b4
  top : b4 ≤ w.heap.size
  cf : o.nf ≤ q.kf
  cd : o.nd ≤ q.kd
  cr : o.nr ≤ q.kr
  cs : o.ns ≤ q.ks
theorem ObjOwn.at {w : World} {b0 b1 b2 b3 b4 : Nat} {q : ObjPt} {o : ObjD} (h : ObjOwn w b0 b1 b2 b3 b4 q o) : ObjAt w q o := ⟨h.f.rows, h.d.rows, h.r.rows, h.s.rows, h.cf, h.cd, h.cr, h.cs⟩
theorem ObjOwn.below {w w' : World} {b0 b1 b2 b3 b4 : Nat} {q : ObjPt} {o : ObjD} (h : ObjOwn w b0 b1 b2 b3 b4 q o) (hb : Below b4 w w') : ObjOwn w' b0 b1 b2 b3 b4 q o := by
  have h0 := h.h0
  have h1 := h.h1
  have h2 := h.h2
  have h3 := h.h3
  exact ⟨h.f.below (hb.mono (by omega)), h.d.below (hb.mono (by omega)), h.r.below (hb.mono (by omega)), h.s.below hb, h0, h1, h2, h3, Nat.le_trans h.top hb.size, h.cf, h.cd, h.cr, h.cs⟩

set_option maxRecDepth 100000 in
set_option maxHeartbeats 4000000 in
theorem toObj (q : ObjPt) (o : ObjD) (w : World) (hf : o.nf ≤ 1048576) (hd : o.nd ≤ 1048576) (hr : o.nr ≤ 1048576) (hs : o.ns ≤ 1048576) (hp : ObjAt w q o) :
    Calls Try.prog 12 #[.agg (objC o q)] w fun e w' => ∃ q' b1 b2 b3 b4, e = .returned (.agg (objC o q')) ∧ Below w.heap.size w w' ∧ ObjOwn w' w.heap.size b1 b2 b3 b4 q' o := by
  go_enter Try.func12, Try.ntmps12
  go_wp2_with fail
  have B3 : Below w.heap.size w (((w.alloc (.cells #[.string o.nm, .int .i64 o.dp, .slice q.pf o.nf q.kf, .slice q.pd o.nd q.kd, .slice q.pr o.nr q.kr, .slice q.ps o.ns q.ks] 27)).alloc (.cells #[.string ByteArray.empty, .int .i64 0, .slice none 0 0, .slice none 0 0, .slice none 0 0, .slice none 0 0] 36)).alloc (.cells #[.string o.nm, .int .i64 o.dp, .slice none 0 0, .slice none 0 0, .slice none 0 0, .slice none 0 0] 36)) := (((Below.refl _ _).alloc (Nat.le_refl _) _).alloc (by simp) _).alloc (by simp; omega) _
  have l1 := ((Lies.new w #[.string o.nm, .int .i64 o.dp, .slice q.pf o.nf q.kf, .slice q.pd o.nd q.kd, .slice q.pr o.nr q.kr, .slice q.ps o.ns q.ks] 27).alloc (.cells #[.string ByteArray.empty, .int .i64 0, .slice none 0 0, .slice none 0 0, .slice none 0 0, .slice none 0 0] 36)).alloc (.cells #[.string o.nm, .int .i64 o.dp, .slice none 0 0, .slice none 0 0, .slice none 0 0, .slice none 0 0] 36)
  have l2 := (Lies.newAt (w.alloc (.cells #[.string o.nm, .int .i64 o.dp, .slice q.pf o.nf q.kf, .slice q.pd o.nd q.kd, .slice q.pr o.nr q.kr, .slice q.ps o.ns q.ks] 27)) #[.string ByteArray.empty, .int .i64 0, .slice none 0 0, .slice none 0 0, .slice none 0 0, .slice none 0 0] 36 (g := w.heap.size + 1) (by simp)).alloc (.cells #[.string o.nm, .int .i64 o.dp, .slice none 0 0, .slice none 0 0, .slice none 0 0, .slice none 0 0] 36)
  have l3 := Lies.newAt ((w.alloc (.cells #[.string o.nm, .int .i64 o.dp, .slice q.pf o.nf q.kf, .slice q.pd o.nd q.kd, .slice q.pr o.nr q.kr, .slice q.ps o.ns q.ks] 27)).alloc (.cells #[.string ByteArray.empty, .int .i64 0, .slice none 0 0, .slice none 0 0, .slice none 0 0, .slice none 0 0] 36)) #[.string o.nm, .int .i64 o.dp, .slice none 0 0, .slice none 0 0, .slice none 0 0, .slice none 0 0] 36 (g := w.heap.size + 1 + 1) (by simp)
  obtain ⟨V0, hV0⟩ : ∃ V, (((w.alloc (.cells #[.string o.nm, .int .i64 o.dp, .slice q.pf o.nf q.kf, .slice q.pd o.nd q.kd, .slice q.pr o.nr q.kr, .slice q.ps o.ns q.ks] 27)).alloc (.cells #[.string ByteArray.empty, .int .i64 0, .slice none 0 0, .slice none 0 0, .slice none 0 0, .slice none 0 0] 36)).alloc (.cells #[.string o.nm, .int .i64 o.dp, .slice none 0 0, .slice none 0 0, .slice none 0 0, .slice none 0 0] 36)) = V := ⟨_, rfl⟩
  have hz0 : V0.heap.size = w.heap.size + 1 + 1 + 1 := by rw [← hV0]; simp
  rw [show ({ data := #[] } : ByteArray) = ByteArray.empty from rfl, hV0]
  rw [hV0] at B3 l1 l2 l3
  have hBase : ∀ W : World, Below w.heap.size w W → ObjAt W q o := fun W h => hp.below h
  obtain ⟨X, hX⟩ : ∃ X, w.heap.size = X := ⟨_, rfl⟩
  rw [hX] at B3 l1 l2 l3 hz0 hBase
  have HX : Hid (w.heap.size = X) := hX
  try rw [hX]
  have HP : Hid (∀ W : World, Below X w W → ObjAt W q o) := hBase
  have HB0 : Hid (Below X w V0) := B3
  have HS0 : Hid (Lies V0 X 27 #[.string o.nm, .int .i64 o.dp, .slice q.pf o.nf q.kf, .slice q.pd o.nd q.kd, .slice q.pr o.nr q.kr, .slice q.ps o.ns q.ks]) := l1
  have HR0 : Hid (Lies V0 (X + 1) 36 #[.string ByteArray.empty, .int .i64 0, .slice none 0 0, .slice none 0 0, .slice none 0 0, .slice none 0 0]) := l2
  have HO0 : Hid (Lies V0 (X + 1 + 1) 36 #[.string o.nm, .int .i64 o.dp, .slice none 0 0, .slice none 0 0, .slice none 0 0, .slice none 0 0]) := l3
  obtain ⟨M0, hM0⟩ : ∃ M, V0.heap.size = M := ⟨_, rfl⟩
  have hX0 : X + 1 + 1 < M0 := by omega
  clear hV0 hp B3 hX hBase l1 l2 l3 hz0
  refine (toFuns q.pf o.nf q.kf o.F V0 hf (HP.out V0 HB0.out).f).mono ?_
  rintro e U0 ⟨g0, rfl, hb, hg0, hl, fr⟩
  rw [hM0] at hb hg0
  have S := HS0.out.below hb (by omega)
  have R := HR0.out.below hb (by omega)
  have O := HO0.out.below hb (by omega)
  have B := HB0.out.trans (hb.mono (show X ≤ M0 by omega))
  have y0 := ownIn_of (lo := M0) hg0 hl fr
  have hsz : M0 ≤ U0.heap.size := by have := hb.size; omega
  obtain ⟨M1, hM1⟩ : ∃ M, U0.heap.size = M := ⟨_, rfl⟩
  rw [hM1] at hsz y0
  have o0 := O.cell (j := 2) rfl
  have of0 := O.fro 2
  have c0 := S.cell (j := 3) rfl
  have S' := S.putOther (a := ⟨X + 1 + 1, 2, none⟩) (by show X ≠ X + 1 + 1; omega) (.slice (some ⟨g0, 0, none⟩) o.nf o.nf)
  have R' := R.putOther (a := ⟨X + 1 + 1, 2, none⟩) (by show X + 1 ≠ X + 1 + 1; omega) (.slice (some ⟨g0, 0, none⟩) o.nf o.nf)
  have O' : Lies (U0.setCell ⟨X + 1 + 1, 2, none⟩ (.slice (some ⟨g0, 0, none⟩) o.nf o.nf)) (X + 1 + 1) 36 #[.string o.nm, .int .i64 o.dp, .slice (some ⟨g0, 0, none⟩) o.nf o.nf, .slice none 0 0, .slice none 0 0, .slice none 0 0] := O.put 2 (.slice (some ⟨g0, 0, none⟩) o.nf o.nf)
  have B' := B.setCell (p := ⟨X + 1 + 1, 2, none⟩) (by show X ≤ X + 1 + 1; omega) (.slice (some ⟨g0, 0, none⟩) o.nf o.nf)
  have y0' := y0.put (X := X + 1 + 1) (by omega) 2 (.slice (some ⟨g0, 0, none⟩) o.nf o.nf)
  have hM' : (U0.setCell ⟨X + 1 + 1, 2, none⟩ (.slice (some ⟨g0, 0, none⟩) o.nf o.nf)).heap.size = M1 := by rw [← hM1]; simp
  have HS1 : Hid (Lies _ X 27 _) := S'
  have HR1 : Hid (Lies _ (X + 1) 36 _) := R'
  have HO1 : Hid (Lies _ (X + 1 + 1) 36 _) := O'
  have HB1 : Hid (Below X w _) := B'
  have HW0_1 : Hid (OwnIn _ M0 M1 (some ⟨g0, 0, none⟩) o.nf 4 (funV o.F)) := y0'
  have HM' : Hid (_ = M1) := hM'
  clear S R O B S' R' O' B' hb hl fr hM' hM1 HS0 HR0 HO0 HB0 y0 y0'
  go_wp2_with fail
  obtain ⟨V1, hV⟩ : ∃ V, U0.setCell ⟨X + 1 + 1, 2, none⟩ (.slice (some ⟨g0, 0, none⟩) o.nf o.nf) = V := ⟨_, rfl⟩
  rw [hV] at HS1 HR1 HO1 HB1 HM' HW0_1 ⊢
  have hM1 := HM'.out
  clear HM' hV o0 of0 c0
  refine (toDats q.pd o.nd q.kd o.D V1 hd (HP.out V1 HB1.out).d).mono ?_
  rintro e U1 ⟨g1, rfl, hb, hg1, hl, fr⟩
  rw [hM1] at hb hg1
  have S := HS1.out.below hb (by omega)
  have R := HR1.out.below hb (by omega)
  have O := HO1.out.below hb (by omega)
  have B := HB1.out.trans (hb.mono (show X ≤ M1 by omega))
  have y1 := ownIn_of (lo := M1) hg1 hl fr
  have hsz : M1 ≤ U1.heap.size := by have := hb.size; omega
  have y0 := HW0_1.out.below (hb.mono (show M1 ≤ M1 by omega))
  obtain ⟨M2, hM2⟩ : ∃ M, U1.heap.size = M := ⟨_, rfl⟩
  rw [hM2] at hsz y1
  have o1 := O.cell (j := 3) rfl
  have of1 := O.fro 3
  have c1 := S.cell (j := 4) rfl
  have S' := S.putOther (a := ⟨X + 1 + 1, 3, none⟩) (by show X ≠ X + 1 + 1; omega) (.slice (some ⟨g1, 0, none⟩) o.nd o.nd)
  have R' := R.putOther (a := ⟨X + 1 + 1, 3, none⟩) (by show X + 1 ≠ X + 1 + 1; omega) (.slice (some ⟨g1, 0, none⟩) o.nd o.nd)
  have O' : Lies (U1.setCell ⟨X + 1 + 1, 3, none⟩ (.slice (some ⟨g1, 0, none⟩) o.nd o.nd)) (X + 1 + 1) 36 #[.string o.nm, .int .i64 o.dp, .slice (some ⟨g0, 0, none⟩) o.nf o.nf, .slice (some ⟨g1, 0, none⟩) o.nd o.nd, .slice none 0 0, .slice none 0 0] := O.put 3 (.slice (some ⟨g1, 0, none⟩) o.nd o.nd)
  have B' := B.setCell (p := ⟨X + 1 + 1, 3, none⟩) (by show X ≤ X + 1 + 1; omega) (.slice (some ⟨g1, 0, none⟩) o.nd o.nd)
  have y0' := y0.put (X := X + 1 + 1) (by omega) 3 (.slice (some ⟨g1, 0, none⟩) o.nd o.nd)
  have y1' := y1.put (X := X + 1 + 1) (by omega) 3 (.slice (some ⟨g1, 0, none⟩) o.nd o.nd)
  have hM' : (U1.setCell ⟨X + 1 + 1, 3, none⟩ (.slice (some ⟨g1, 0, none⟩) o.nd o.nd)).heap.size = M2 := by rw [← hM2]; simp
  have HS2 : Hid (Lies _ X 27 _) := S'
  have HR2 : Hid (Lies _ (X + 1) 36 _) := R'
  have HO2 : Hid (Lies _ (X + 1 + 1) 36 _) := O'
  have HB2 : Hid (Below X w _) := B'
  have HW0_2 : Hid (OwnIn _ M0 M1 (some ⟨g0, 0, none⟩) o.nf 4 (funV o.F)) := y0'
  have HW1_2 : Hid (OwnIn _ M1 M2 (some ⟨g1, 0, none⟩) o.nd 2 (datV o.D)) := y1'
  have HM' : Hid (_ = M2) := hM'
  clear S R O B S' R' O' B' hb hl fr hM' hM2 HS1 HR1 HO1 HB1 y0 y0' y1 y1' HW0_1
  go_wp2_with fail
  obtain ⟨V2, hV⟩ : ∃ V, U1.setCell ⟨X + 1 + 1, 3, none⟩ (.slice (some ⟨g1, 0, none⟩) o.nd o.nd) = V := ⟨_, rfl⟩
  rw [hV] at HS2 HR2 HO2 HB2 HM' HW0_2 HW1_2 ⊢
  have hM2 := HM'.out
  clear HM' hV o1 of1 c1
  refine (toRels q.pr o.nr q.kr o.R V2 hr (HP.out V2 HB2.out).r).mono ?_
  rintro e U2 ⟨g2, rfl, hb, hg2, hl, fr⟩
  rw [hM2] at hb hg2
  have S := HS2.out.below hb (by omega)
  have R := HR2.out.below hb (by omega)
  have O := HO2.out.below hb (by omega)
  have B := HB2.out.trans (hb.mono (show X ≤ M2 by omega))
  have y2 := ownIn_of (lo := M2) hg2 hl fr
  have hsz : M2 ≤ U2.heap.size := by have := hb.size; omega
  have y0 := HW0_2.out.below (hb.mono (show M1 ≤ M2 by omega))
  have y1 := HW1_2.out.below (hb.mono (show M2 ≤ M2 by omega))
  obtain ⟨M3, hM3⟩ : ∃ M, U2.heap.size = M := ⟨_, rfl⟩
  rw [hM3] at hsz y2
  have o2 := O.cell (j := 4) rfl
  have of2 := O.fro 4
  have c2 := S.cell (j := 5) rfl
  have S' := S.putOther (a := ⟨X + 1 + 1, 4, none⟩) (by show X ≠ X + 1 + 1; omega) (.slice (some ⟨g2, 0, none⟩) o.nr o.nr)
  have R' := R.putOther (a := ⟨X + 1 + 1, 4, none⟩) (by show X + 1 ≠ X + 1 + 1; omega) (.slice (some ⟨g2, 0, none⟩) o.nr o.nr)
  have O' : Lies (U2.setCell ⟨X + 1 + 1, 4, none⟩ (.slice (some ⟨g2, 0, none⟩) o.nr o.nr)) (X + 1 + 1) 36 #[.string o.nm, .int .i64 o.dp, .slice (some ⟨g0, 0, none⟩) o.nf o.nf, .slice (some ⟨g1, 0, none⟩) o.nd o.nd, .slice (some ⟨g2, 0, none⟩) o.nr o.nr, .slice none 0 0] := O.put 4 (.slice (some ⟨g2, 0, none⟩) o.nr o.nr)
  have B' := B.setCell (p := ⟨X + 1 + 1, 4, none⟩) (by show X ≤ X + 1 + 1; omega) (.slice (some ⟨g2, 0, none⟩) o.nr o.nr)
  have y0' := y0.put (X := X + 1 + 1) (by omega) 4 (.slice (some ⟨g2, 0, none⟩) o.nr o.nr)
  have y1' := y1.put (X := X + 1 + 1) (by omega) 4 (.slice (some ⟨g2, 0, none⟩) o.nr o.nr)
  have y2' := y2.put (X := X + 1 + 1) (by omega) 4 (.slice (some ⟨g2, 0, none⟩) o.nr o.nr)
  have hM' : (U2.setCell ⟨X + 1 + 1, 4, none⟩ (.slice (some ⟨g2, 0, none⟩) o.nr o.nr)).heap.size = M3 := by rw [← hM3]; simp
  have HS3 : Hid (Lies _ X 27 _) := S'
  have HR3 : Hid (Lies _ (X + 1) 36 _) := R'
  have HO3 : Hid (Lies _ (X + 1 + 1) 36 _) := O'
  have HB3 : Hid (Below X w _) := B'
  have HW0_3 : Hid (OwnIn _ M0 M1 (some ⟨g0, 0, none⟩) o.nf 4 (funV o.F)) := y0'
  have HW1_3 : Hid (OwnIn _ M1 M2 (some ⟨g1, 0, none⟩) o.nd 2 (datV o.D)) := y1'
  have HW2_3 : Hid (OwnIn _ M2 M3 (some ⟨g2, 0, none⟩) o.nr 5 (relV o.R)) := y2'
  have HM' : Hid (_ = M3) := hM'
  clear S R O B S' R' O' B' hb hl fr hM' hM3 HS2 HR2 HO2 HB2 y0 y0' y1 y1' y2 y2' HW0_2 HW1_2
  go_wp2_with fail
  obtain ⟨V3, hV⟩ : ∃ V, U2.setCell ⟨X + 1 + 1, 4, none⟩ (.slice (some ⟨g2, 0, none⟩) o.nr o.nr) = V := ⟨_, rfl⟩
  rw [hV] at HS3 HR3 HO3 HB3 HM' HW0_3 HW1_3 HW2_3 ⊢
  have hM3 := HM'.out
  clear HM' hV o2 of2 c2
  refine (toShas q.ps o.ns q.ks o.S V3 hs (HP.out V3 HB3.out).s).mono ?_
  rintro e U3 ⟨g3, rfl, hb, hg3, hl, fr⟩
  rw [hM3] at hb hg3
  have S := HS3.out.below hb (by omega)
  have R := HR3.out.below hb (by omega)
  have O := HO3.out.below hb (by omega)
  have B := HB3.out.trans (hb.mono (show X ≤ M3 by omega))
  have y3 := ownIn_of (lo := M3) hg3 hl fr
  have hsz : M3 ≤ U3.heap.size := by have := hb.size; omega
  have y0 := HW0_3.out.below (hb.mono (show M1 ≤ M3 by omega))
  have y1 := HW1_3.out.below (hb.mono (show M2 ≤ M3 by omega))
  have y2 := HW2_3.out.below (hb.mono (show M3 ≤ M3 by omega))
  obtain ⟨M4, hM4⟩ : ∃ M, U3.heap.size = M := ⟨_, rfl⟩
  rw [hM4] at hsz y3
  have o3 := O.cell (j := 5) rfl
  have of3 := O.fro 5
  have z0 := O.cell (j := 0) rfl
  have r0 := R.cell (j := 0) rfl
  have rf0 := R.fro 0
  have z1 := O.cell (j := 1) rfl
  have r1 := R.cell (j := 1) rfl
  have rf1 := R.fro 1
  have z2 := O.cell (j := 2) rfl
  have r2 := R.cell (j := 2) rfl
  have rf2 := R.fro 2
  have z3 := O.cell (j := 3) rfl
  have r3 := R.cell (j := 3) rfl
  have rf3 := R.fro 3
  have z4 := O.cell (j := 4) rfl
  have r4 := R.cell (j := 4) rfl
  have rf4 := R.fro 4
  have z5 := O.cell (j := 5) rfl
  have r5 := R.cell (j := 5) rfl
  have rf5 := R.fro 5
  have S' := S.putOther (a := ⟨X + 1 + 1, 5, none⟩) (by show X ≠ X + 1 + 1; omega) (.slice (some ⟨g3, 0, none⟩) o.ns o.ns)
  have R' := R.putOther (a := ⟨X + 1 + 1, 5, none⟩) (by show X + 1 ≠ X + 1 + 1; omega) (.slice (some ⟨g3, 0, none⟩) o.ns o.ns)
  have O' : Lies (U3.setCell ⟨X + 1 + 1, 5, none⟩ (.slice (some ⟨g3, 0, none⟩) o.ns o.ns)) (X + 1 + 1) 36 #[.string o.nm, .int .i64 o.dp, .slice (some ⟨g0, 0, none⟩) o.nf o.nf, .slice (some ⟨g1, 0, none⟩) o.nd o.nd, .slice (some ⟨g2, 0, none⟩) o.nr o.nr, .slice (some ⟨g3, 0, none⟩) o.ns o.ns] := O.put 5 (.slice (some ⟨g3, 0, none⟩) o.ns o.ns)
  have B' := B.setCell (p := ⟨X + 1 + 1, 5, none⟩) (by show X ≤ X + 1 + 1; omega) (.slice (some ⟨g3, 0, none⟩) o.ns o.ns)
  have y0' := y0.put (X := X + 1 + 1) (by omega) 5 (.slice (some ⟨g3, 0, none⟩) o.ns o.ns)
  have y1' := y1.put (X := X + 1 + 1) (by omega) 5 (.slice (some ⟨g3, 0, none⟩) o.ns o.ns)
  have y2' := y2.put (X := X + 1 + 1) (by omega) 5 (.slice (some ⟨g3, 0, none⟩) o.ns o.ns)
  have y3' := y3.put (X := X + 1 + 1) (by omega) 5 (.slice (some ⟨g3, 0, none⟩) o.ns o.ns)
  have hM' : (U3.setCell ⟨X + 1 + 1, 5, none⟩ (.slice (some ⟨g3, 0, none⟩) o.ns o.ns)).heap.size = M4 := by rw [← hM4]; simp
  have HS4 : Hid (Lies _ X 27 _) := S'
  have HR4 : Hid (Lies _ (X + 1) 36 _) := R'
  have HO4 : Hid (Lies _ (X + 1 + 1) 36 _) := O'
  have HB4 : Hid (Below X w _) := B'
  have HW0_4 : Hid (OwnIn _ M0 M1 (some ⟨g0, 0, none⟩) o.nf 4 (funV o.F)) := y0'
  have HW1_4 : Hid (OwnIn _ M1 M2 (some ⟨g1, 0, none⟩) o.nd 2 (datV o.D)) := y1'
  have HW2_4 : Hid (OwnIn _ M2 M3 (some ⟨g2, 0, none⟩) o.nr 5 (relV o.R)) := y2'
  have HW3_4 : Hid (OwnIn _ M3 M4 (some ⟨g3, 0, none⟩) o.ns 2 (shaV o.S)) := y3'
  have HM' : Hid (_ = M4) := hM'
  clear S R O B S' R' O' B' hb hl fr hM' hM4 HS3 HR3 HO3 HB3 y0 y0' y1 y1' y2 y2' y3 y3' HW0_3 HW1_3 HW2_3
  go_wp2_with fail
  have n1 := ((((((HR4.out.put 0 (.string o.nm)).put 1 (.int .i64 o.dp)).put 2 (.slice (some ⟨g0, 0, none⟩) o.nf o.nf)).put 3 (.slice (some ⟨g1, 0, none⟩) o.nd o.nd)).put 4 (.slice (some ⟨g2, 0, none⟩) o.nr o.nr)).put 5 (.slice (some ⟨g3, 0, none⟩) o.ns o.ns))
  have bel := ((((((HB4.out.setCell (p := ⟨X + 1, 0, none⟩) (by show X ≤ X + 1; omega) (.string o.nm)).setCell (p := ⟨X + 1, 1, none⟩) (by show X ≤ X + 1; omega) (.int .i64 o.dp)).setCell (p := ⟨X + 1, 2, none⟩) (by show X ≤ X + 1; omega) (.slice (some ⟨g0, 0, none⟩) o.nf o.nf)).setCell (p := ⟨X + 1, 3, none⟩) (by show X ≤ X + 1; omega) (.slice (some ⟨g1, 0, none⟩) o.nd o.nd)).setCell (p := ⟨X + 1, 4, none⟩) (by show X ≤ X + 1; omega) (.slice (some ⟨g2, 0, none⟩) o.nr o.nr)).setCell (p := ⟨X + 1, 5, none⟩) (by show X ≤ X + 1; omega) (.slice (some ⟨g3, 0, none⟩) o.ns o.ns))
  have v0 := ((((((HW0_4.out.put (X := X + 1) (by omega) 0 (.string o.nm)).put (X := X + 1) (by omega) 1 (.int .i64 o.dp)).put (X := X + 1) (by omega) 2 (.slice (some ⟨g0, 0, none⟩) o.nf o.nf)).put (X := X + 1) (by omega) 3 (.slice (some ⟨g1, 0, none⟩) o.nd o.nd)).put (X := X + 1) (by omega) 4 (.slice (some ⟨g2, 0, none⟩) o.nr o.nr)).put (X := X + 1) (by omega) 5 (.slice (some ⟨g3, 0, none⟩) o.ns o.ns))
  have v1 := ((((((HW1_4.out.put (X := X + 1) (by omega) 0 (.string o.nm)).put (X := X + 1) (by omega) 1 (.int .i64 o.dp)).put (X := X + 1) (by omega) 2 (.slice (some ⟨g0, 0, none⟩) o.nf o.nf)).put (X := X + 1) (by omega) 3 (.slice (some ⟨g1, 0, none⟩) o.nd o.nd)).put (X := X + 1) (by omega) 4 (.slice (some ⟨g2, 0, none⟩) o.nr o.nr)).put (X := X + 1) (by omega) 5 (.slice (some ⟨g3, 0, none⟩) o.ns o.ns))
  have v2 := ((((((HW2_4.out.put (X := X + 1) (by omega) 0 (.string o.nm)).put (X := X + 1) (by omega) 1 (.int .i64 o.dp)).put (X := X + 1) (by omega) 2 (.slice (some ⟨g0, 0, none⟩) o.nf o.nf)).put (X := X + 1) (by omega) 3 (.slice (some ⟨g1, 0, none⟩) o.nd o.nd)).put (X := X + 1) (by omega) 4 (.slice (some ⟨g2, 0, none⟩) o.nr o.nr)).put (X := X + 1) (by omega) 5 (.slice (some ⟨g3, 0, none⟩) o.ns o.ns))
  have v3 := ((((((HW3_4.out.put (X := X + 1) (by omega) 0 (.string o.nm)).put (X := X + 1) (by omega) 1 (.int .i64 o.dp)).put (X := X + 1) (by omega) 2 (.slice (some ⟨g0, 0, none⟩) o.nf o.nf)).put (X := X + 1) (by omega) 3 (.slice (some ⟨g1, 0, none⟩) o.nd o.nd)).put (X := X + 1) (by omega) 4 (.slice (some ⟨g2, 0, none⟩) o.nr o.nr)).put (X := X + 1) (by omega) 5 (.slice (some ⟨g3, 0, none⟩) o.ns o.ns))
  have hi3 : (Try.prog.info? 36).map (·.size) = some (#[Value.string o.nm, .int .i64 o.dp, .slice (some ⟨g0, 0, none⟩) o.nf o.nf, .slice (some ⟨g1, 0, none⟩) o.nd o.nd, .slice (some ⟨g2, 0, none⟩) o.nr o.nr, .slice (some ⟨g3, 0, none⟩) o.ns o.ns] : Array Value).size := by kernel_rfl
  refine bodyPost_ret (results_lies rfl _ _ _ _ _ _ rfl n1 Try.underlying36 rfl hi3) rfl ⟨⟨some ⟨g0, 0, none⟩, o.nf, some ⟨g1, 0, none⟩, o.nd, some ⟨g2, 0, none⟩, o.nr, some ⟨g3, 0, none⟩, o.ns⟩, M1, M2, M3, M4, rfl, by rw [HX.out]; exact bel, ?_⟩
  rw [HX.out]
  exact ⟨v0.wide (by omega), v1, v2, v3, by omega, by omega, by omega, by omega, by have := HM'.out; simp at this ⊢; omega, Nat.le_refl _, Nat.le_refl _, Nat.le_refl _, Nat.le_refl _⟩

set_option maxHeartbeats 2000000 in
theorem szObj (q : ObjPt) (o : ObjD) (L0 : Int) (w : World) (h0 : 0 ≤ L0) (h1 : L0 ≤ 1048576) (hw : o.wf) (hp : ObjAt w q o) :
    Calls Try.prog 10 #[.agg (objC o q), .int .i64 L0] w fun e w' => (∃ r : Int, e = .returned (.int .i64 r) ∧ (r = -1 ∨ (0 ≤ r ∧ r ≤ L0 ∧ (o.nm.size : Int) ≤ L0 ∧ (o.nf : Int) ≤ L0 ∧ (o.nd : Int) ≤ L0 ∧ (o.nr : Int) ≤ L0 ∧ (o.ns : Int) ≤ L0 ∧ (∀ i, i < o.nf → ((o.F i).nm.size : Int) ≤ L0 ∧ ((o.F i).cd.size : Int) ≤ L0) ∧ (∀ i, i < o.nd → ((o.D i).nm.size : Int) ≤ L0 ∧ ((o.D i).bs.size : Int) ≤ L0) ∧ (∀ i, i < o.nr → ((o.R i).sy.size : Int) ≤ L0)))) ∧ Below w.heap.size w w' := by
  have hnm := hw.nm
  unfold maxLen at hnm
  have bA := grown1' w (.cells (objC o q) 27)
  have lA := Lies.new w (objC o q) 27
  have hBase : ∀ W : World, Below w.heap.size w W → ObjAt W q o := fun W h => hp.below h
  have HP : Hid (∀ W : World, Below w.heap.size w W → ObjAt W q o) := hBase
  have HA : Hid (Below w.heap.size w _) := bA
  have HL : Hid (Lies _ w.heap.size 27 (objC o q)) := lA
  clear hBase bA lA hp
  by_cases hn : L0 < o.nm.size
  · go_enter Try.func10, Try.ntmps10
    go_wp2_with fail
    go_ret
    exact ⟨⟨_, rfl, .inl rfl⟩, HA.out⟩
  obtain ⟨l0, hl0⟩ : ∃ l, L0 - (o.nm.size : Int) = l := ⟨_, rfl⟩
  have hl0n : ¬ l0 < 0 := by omega
  go_enter Try.func10, Try.ntmps10
  go_wp2_with fail
  obtain ⟨V0, hV0⟩ : ∃ V, w.alloc (.cells #[.string o.nm, .int .i64 o.dp, .slice q.pf o.nf q.kf, .slice q.pd o.nd q.kd, .slice q.pr o.nr q.kr, .slice q.ps o.ns q.ks] 27) = V := ⟨_, rfl⟩
  rw [hV0] at HA HL ⊢
  try rw [hl0]
  have hlt0 := HL.out.lt
  clear hV0
  refine (szFuns q.pf o.nf q.kf o.F l0 V0 (by omega) (by omega) hw.nf (fun i hi => ⟨(hw.f i hi).1, (hw.f i hi).2.2⟩) (HP.out V0 HA.out).f).mono ?_
  rintro e V1 ⟨⟨l1, rfl, hr0⟩, hb⟩
  have B := HA.out.trans (hb.mono HA.out.size)
  have Lq := HL.out.below hb (by omega)
  have hlt1 : w.heap.size < V1.heap.size := Lq.lt
  have c0 := Lq.cell (j := 3) rfl
  clear HA HL hb
  have HA : Hid (Below w.heap.size w V1) := B
  have HL : Hid (Lies V1 w.heap.size 27 (objC o q)) := Lq
  clear B Lq
  rcases hr0 with rfl | hr0
  · go_wp2_with fail
    go_ret
    exact ⟨⟨_, rfl, .inl rfl⟩, HA.out⟩
  obtain ⟨a0, b0, d0, e0⟩ := hr0
  have HE0 : Hid (∀ i, i < o.nf → _) := e0
  clear e0
  have hn1 : ¬ l1 < 0 := by omega
  go_wp2_with fail
  refine (szDats q.pd o.nd q.kd o.D l1 V1 (by omega) (by omega) hw.nd (fun i hi => ⟨(hw.d i hi).1, (hw.d i hi).2⟩) (HP.out V1 HA.out).d).mono ?_
  rintro e V2 ⟨⟨l2, rfl, hr1⟩, hb⟩
  have B := HA.out.trans (hb.mono HA.out.size)
  have Lq := HL.out.below hb (by omega)
  have hlt2 : w.heap.size < V2.heap.size := Lq.lt
  have c1 := Lq.cell (j := 4) rfl
  clear HA HL hb
  have HA : Hid (Below w.heap.size w V2) := B
  have HL : Hid (Lies V2 w.heap.size 27 (objC o q)) := Lq
  clear B Lq
  rcases hr1 with rfl | hr1
  · go_wp2_with fail
    go_ret
    exact ⟨⟨_, rfl, .inl rfl⟩, HA.out⟩
  obtain ⟨a1, b1, d1, e1⟩ := hr1
  have HE1 : Hid (∀ i, i < o.nd → _) := e1
  clear e1
  have hn2 : ¬ l2 < 0 := by omega
  go_wp2_with fail
  refine (szRels q.pr o.nr q.kr o.R l2 V2 (by omega) (by omega) hw.nr (fun i hi => (hw.r i hi).2.2.2.1) (HP.out V2 HA.out).r).mono ?_
  rintro e V3 ⟨⟨l3, rfl, hr2⟩, hb⟩
  have B := HA.out.trans (hb.mono HA.out.size)
  have Lq := HL.out.below hb (by omega)
  have hlt3 : w.heap.size < V3.heap.size := Lq.lt
  have c2 := Lq.cell (j := 5) rfl
  clear HA HL hb
  have HA : Hid (Below w.heap.size w V3) := B
  have HL : Hid (Lies V3 w.heap.size 27 (objC o q)) := Lq
  clear B Lq
  rcases hr2 with rfl | hr2
  · go_wp2_with fail
    go_ret
    exact ⟨⟨_, rfl, .inl rfl⟩, HA.out⟩
  obtain ⟨a2, b2, d2, e2⟩ := hr2
  have HE2 : Hid (∀ i, i < o.nr → _) := e2
  clear e2
  have hn3 : ¬ l3 < 0 := by omega
  go_wp2_with fail
  refine (szShas q.ps o.ns q.ks l3 V3 (by omega) (by omega) hw.ns).mono ?_
  rintro e V4 ⟨⟨l4, rfl, hr3⟩, hb⟩
  have B := HA.out.trans (hb.mono HA.out.size)
  have Lq := HL.out.below hb (by omega)
  have hlt4 : w.heap.size < V4.heap.size := Lq.lt
  clear HA HL hb
  have HA : Hid (Below w.heap.size w V4) := B
  have HL : Hid (Lies V4 w.heap.size 27 (objC o q)) := Lq
  clear B Lq
  rcases hr3 with rfl | hr3
  · go_wp2_with fail
    go_ret
    exact ⟨⟨_, rfl, .inl rfl⟩, HA.out⟩
  obtain ⟨a3, b3, d3⟩ := hr3
  have hn4 : ¬ l4 < 0 := by omega
  go_wp2_with fail
  go_ret
  exact ⟨⟨_, rfl, .inr ⟨a3, by omega, by omega, by omega, by omega, by omega, by omega, fun i hi => ⟨by have := (HE0.out i hi).1; omega, by have := (HE0.out i hi).2; omega⟩, fun i hi => ⟨by have := (HE1.out i hi).1; omega, by have := (HE1.out i hi).2; omega⟩, fun i hi => by have := HE2.out i hi; omega⟩⟩, HA.out⟩

set_option maxHeartbeats 2000000 in
theorem eqObj (q q' : ObjPt) (o : ObjD) (w : World) (hf : o.nf ≤ 2000000) (hd : o.nd ≤ 2000000) (hr : o.nr ≤ 2000000) (hs : o.ns ≤ 2000000) (hp : ObjAt w q o) (hp' : ObjAt w q' o) :
    Calls Try.prog 14 #[.agg (objC o q), .agg (objC o q')] w fun e w' => e = .returned (.bool true) ∧ Below w.heap.size w w' := by
  have HP : Hid (∀ W : World, Below w.heap.size w W → ObjAt W q o) := fun W h => hp.below h
  have HP' : Hid (∀ W : World, Below w.heap.size w W → ObjAt W q' o) := fun W h => hp'.below h
  have bA : Below w.heap.size w ((w.alloc (.cells (objC o q) 36)).alloc (.cells (objC o q') 36)) := ((Below.refl _ _).alloc (Nat.le_refl _) _).alloc (by simp) _
  have l1 := (Lies.new w (objC o q) 36).alloc (.cells (objC o q') 36)
  have l2 := Lies.newAt (w.alloc (.cells (objC o q) 36)) (objC o q') 36 (g := w.heap.size + 1) (by simp)
  have HA : Hid (Below w.heap.size w _) := bA
  have HL : Hid (Lies _ w.heap.size 36 (objC o q)) := l1
  have HM : Hid (Lies _ (w.heap.size + 1) 36 (objC o q')) := l2
  clear hp hp' bA l1 l2
  go_enter Try.func14, Try.ntmps14
  go_wp2_with fail
  obtain ⟨V0, hV0⟩ : ∃ V, ((w.alloc (.cells #[.string o.nm, .int .i64 o.dp, .slice q.pf o.nf q.kf, .slice q.pd o.nd q.kd, .slice q.pr o.nr q.kr, .slice q.ps o.ns q.ks] 36)).alloc (.cells #[.string o.nm, .int .i64 o.dp, .slice q'.pf o.nf q'.kf, .slice q'.pd o.nd q'.kd, .slice q'.pr o.nr q'.kr, .slice q'.ps o.ns q'.ks] 36)) = V := ⟨_, rfl⟩
  rw [hV0] at HA HL HM ⊢
  have hlt0 := HL.out.lt
  have hlu0 := HM.out.lt
  clear hV0
  refine (eqFuns q.pf q'.pf o.nf q.kf q'.kf o.F V0 hf (HP.out V0 HA.out).f (HP'.out V0 HA.out).f).mono ?_
  rintro e V1 ⟨rfl, hb⟩
  have B := HA.out.trans (hb.mono HA.out.size)
  have Lq := HL.out.below hb hlt0
  have Mq := HM.out.below hb hlu0
  have hlt1 : w.heap.size < V1.heap.size := Lq.lt
  have hlu1 : w.heap.size + 1 < V1.heap.size := Mq.lt
  have c0 := Lq.cell (j := 3) rfl
  have d0 := Mq.cell (j := 3) rfl
  clear HA HL HM hb
  have HA : Hid (Below w.heap.size w V1) := B
  have HL : Hid (Lies V1 w.heap.size 36 (objC o q)) := Lq
  have HM : Hid (Lies V1 (w.heap.size + 1) 36 (objC o q')) := Mq
  clear B Lq Mq
  go_wp2_with fail
  refine (eqDats q.pd q'.pd o.nd q.kd q'.kd o.D V1 hd (HP.out V1 HA.out).d (HP'.out V1 HA.out).d).mono ?_
  rintro e V2 ⟨rfl, hb⟩
  have B := HA.out.trans (hb.mono HA.out.size)
  have Lq := HL.out.below hb hlt1
  have Mq := HM.out.below hb hlu1
  have hlt2 : w.heap.size < V2.heap.size := Lq.lt
  have hlu2 : w.heap.size + 1 < V2.heap.size := Mq.lt
  have c1 := Lq.cell (j := 4) rfl
  have d1 := Mq.cell (j := 4) rfl
  clear HA HL HM hb
  have HA : Hid (Below w.heap.size w V2) := B
  have HL : Hid (Lies V2 w.heap.size 36 (objC o q)) := Lq
  have HM : Hid (Lies V2 (w.heap.size + 1) 36 (objC o q')) := Mq
  clear B Lq Mq
  go_wp2_with fail
  refine (eqRels q.pr q'.pr o.nr q.kr q'.kr o.R V2 hr (HP.out V2 HA.out).r (HP'.out V2 HA.out).r).mono ?_
  rintro e V3 ⟨rfl, hb⟩
  have B := HA.out.trans (hb.mono HA.out.size)
  have Lq := HL.out.below hb hlt2
  have Mq := HM.out.below hb hlu2
  have hlt3 : w.heap.size < V3.heap.size := Lq.lt
  have hlu3 : w.heap.size + 1 < V3.heap.size := Mq.lt
  have c2 := Lq.cell (j := 5) rfl
  have d2 := Mq.cell (j := 5) rfl
  clear HA HL HM hb
  have HA : Hid (Below w.heap.size w V3) := B
  have HL : Hid (Lies V3 w.heap.size 36 (objC o q)) := Lq
  have HM : Hid (Lies V3 (w.heap.size + 1) 36 (objC o q')) := Mq
  clear B Lq Mq
  go_wp2_with fail
  refine (eqShas q.ps q'.ps o.ns q.ks q'.ks o.S V3 hs (HP.out V3 HA.out).s (HP'.out V3 HA.out).s).mono ?_
  rintro e V4 ⟨rfl, hb⟩
  have B := HA.out.trans (hb.mono HA.out.size)
  have Lq := HL.out.below hb hlt3
  have Mq := HM.out.below hb hlu3
  have hlt4 : w.heap.size < V4.heap.size := Lq.lt
  have hlu4 : w.heap.size + 1 < V4.heap.size := Mq.lt
  clear HA HL HM hb
  have HA : Hid (Below w.heap.size w V4) := B
  have HL : Hid (Lies V4 w.heap.size 36 (objC o q)) := Lq
  have HM : Hid (Lies V4 (w.heap.size + 1) 36 (objC o q')) := Mq
  clear B Lq Mq
  go_wp2_with fail
  go_ret
  exact ⟨rfl, HA.out⟩

set_option maxHeartbeats 2000000 in
theorem markObj (b0 b1 b2 b3 b4 : Nat) (q : ObjPt) (o : ObjD) (s0 : Nat) (w : World) (hf : o.nf ≤ 1048576) (hd : o.nd ≤ 1048576) (hr : o.nr ≤ 1048576) (hs : o.ns ≤ 1048576) (hs0 : 0 < s0) (hs1 : s0 ≤ 10000000) (ho : ObjOwn w b0 b1 b2 b3 b4 q o) :
    Calls Try.prog 24 #[.agg (objC o q), .int .i64 s0] w fun e w' => (∃ r : Nat, e = .returned (.int .i64 (r : Int)) ∧ r ≤ 40000000) ∧ ButR b0 b4 w w' := by
  have a0 := ho.h0
  have a1 := ho.h1
  have a2 := ho.h2
  have a3 := ho.h3
  have a4 := ho.top
  have bA := grown1' w (.cells (objC o q) 36)
  have lA := Lies.new w (objC o q) 36
  have hA := ho.below (bA.mono a4)
  have RA : ButR b0 b4 w (w.alloc (.cells (objC o q) 36)) := ButR.of_below bA
  have HA : Hid (ButR b0 b4 w _) := RA
  have HL : Hid (Lies _ w.heap.size 36 (objC o q)) := lA
  have Hf : Hid (OwnIn _ b0 b1 q.pf o.nf 4 (funV o.F)) := hA.f
  have Hd : Hid (OwnIn _ b1 b2 q.pd o.nd 2 (datV o.D)) := hA.d
  have Hr : Hid (OwnIn _ b2 b3 q.pr o.nr 5 (relV o.R)) := hA.r
  have Hs : Hid (OwnIn _ b3 b4 q.ps o.ns 2 (shaV o.S)) := hA.s
  clear bA lA hA RA ho
  go_enter Try.func24, Try.ntmps24
  go_wp2_with fail
  obtain ⟨V0, hV0⟩ : ∃ V, w.alloc (.cells #[.string o.nm, .int .i64 o.dp, .slice q.pf o.nf q.kf, .slice q.pd o.nd q.kd, .slice q.pr o.nr q.kr, .slice q.ps o.ns q.ks] 36) = V := ⟨_, rfl⟩
  rw [hV0] at HA HL Hf Hd Hr Hs ⊢
  have hlt0 := HL.out.lt
  have hz0 := HA.out.size
  clear hV0
  refine (markFuns b0 q.pf o.nf q.kf s0 o.F V0 hf (by omega) (by omega) (by omega) Hf.out.own).mono ?_
  rintro e V1 ⟨rfl, hb, _⟩
  have hR := butR_of hb Hf.out
  have HA' := HA.out.trans (hR.wide (lo' := b0) (hi' := b4) (by omega) (by omega))
  have hz1 : w.heap.size ≤ V1.heap.size := HA'.size
  have c0 := hR.cell (HL.out.cell (j := 3) rfl) (.inr (by omega))
  have cc0_4 := hR.cell (HL.out.cell (j := 4) rfl) (.inr (by omega))
  have cc0_5 := hR.cell (HL.out.cell (j := 5) rfl) (.inr (by omega))
  have hLb := hR.block w.heap.size hlt0 (.inr (by omega))
  have Lq : Lies V1 w.heap.size 36 (objC o q) := hLb.trans HL.out
  have hlt1 := Lq.lt
  have nd := Hd.out.butR hR (.inr (by omega))
  have nr := Hr.out.butR hR (.inr (by omega))
  have ns := Hs.out.butR hR (.inr (by omega))
  clear HA HL Hd Hr Hs hb hR hLb Hf
  have HA : Hid (ButR b0 b4 w V1) := HA'
  have HL : Hid (Lies V1 w.heap.size 36 (objC o q)) := Lq
  have Hd : Hid (OwnIn V1 b1 b2 q.pd o.nd 2 (datV o.D)) := nd
  have Hr : Hid (OwnIn V1 b2 b3 q.pr o.nr 5 (relV o.R)) := nr
  have Hs : Hid (OwnIn V1 b3 b4 q.ps o.ns 2 (shaV o.S)) := ns
  clear HA' Lq nd nr ns cc0_4 cc0_5
  obtain ⟨t1, ht1⟩ : ∃ t, s0 + 4 * o.nf = t := ⟨_, rfl⟩
  rw [ht1]
  go_wp2_with fail
  refine (markDats b1 q.pd o.nd q.kd t1 o.D V1 hd (by omega) (by omega) (by omega) Hd.out.own).mono ?_
  rintro e V2 ⟨rfl, hb, _⟩
  have hR := butR_of hb Hd.out
  have HA' := HA.out.trans (hR.wide (lo' := b0) (hi' := b4) (by omega) (by omega))
  have hz2 : w.heap.size ≤ V2.heap.size := HA'.size
  have c1 := hR.cell (HL.out.cell (j := 4) rfl) (.inr (by omega))
  have cc1_5 := hR.cell (HL.out.cell (j := 5) rfl) (.inr (by omega))
  have hLb := hR.block w.heap.size hlt1 (.inr (by omega))
  have Lq : Lies V2 w.heap.size 36 (objC o q) := hLb.trans HL.out
  have hlt2 := Lq.lt
  have nr := Hr.out.butR hR (.inr (by omega))
  have ns := Hs.out.butR hR (.inr (by omega))
  clear HA HL Hr Hs hb hR hLb
  have HA : Hid (ButR b0 b4 w V2) := HA'
  have HL : Hid (Lies V2 w.heap.size 36 (objC o q)) := Lq
  have Hr : Hid (OwnIn V2 b2 b3 q.pr o.nr 5 (relV o.R)) := nr
  have Hs : Hid (OwnIn V2 b3 b4 q.ps o.ns 2 (shaV o.S)) := ns
  clear HA' Lq nr ns cc1_5
  obtain ⟨t2, ht2⟩ : ∃ t, t1 + 2 * o.nd = t := ⟨_, rfl⟩
  rw [ht2]
  go_wp2_with fail
  refine (markRels b2 q.pr o.nr q.kr t2 o.R V2 hr (by omega) (by omega) (by omega) Hr.out.own).mono ?_
  rintro e V3 ⟨rfl, hb, _⟩
  have hR := butR_of hb Hr.out
  have HA' := HA.out.trans (hR.wide (lo' := b0) (hi' := b4) (by omega) (by omega))
  have hz3 : w.heap.size ≤ V3.heap.size := HA'.size
  have c2 := hR.cell (HL.out.cell (j := 5) rfl) (.inr (by omega))
  have hLb := hR.block w.heap.size hlt2 (.inr (by omega))
  have Lq : Lies V3 w.heap.size 36 (objC o q) := hLb.trans HL.out
  have hlt3 := Lq.lt
  have ns := Hs.out.butR hR (.inr (by omega))
  clear HA HL Hs hb hR hLb
  have HA : Hid (ButR b0 b4 w V3) := HA'
  have HL : Hid (Lies V3 w.heap.size 36 (objC o q)) := Lq
  have Hs : Hid (OwnIn V3 b3 b4 q.ps o.ns 2 (shaV o.S)) := ns
  clear HA' Lq ns
  obtain ⟨t3, ht3⟩ : ∃ t, t2 + 5 * o.nr = t := ⟨_, rfl⟩
  rw [ht3]
  go_wp2_with fail
  refine (markShas b3 q.ps o.ns q.ks t3 o.S V3 hs (by omega) (by omega) (by omega) Hs.out.own).mono ?_
  rintro e V4 ⟨rfl, hb, _⟩
  have hR := butR_of hb Hs.out
  have HA' := HA.out.trans (hR.wide (lo' := b0) (hi' := b4) (by omega) (by omega))
  have hz4 : w.heap.size ≤ V4.heap.size := HA'.size
  clear HL Hs hb hR
  obtain ⟨t4, ht4⟩ : ∃ t, t3 + 2 * o.ns = t := ⟨_, rfl⟩
  rw [ht4]
  go_wp2_with fail
  go_ret
  exact ⟨⟨t4, rfl, by omega⟩, HA'⟩
end Go.Proofs.Ytdcjddiigipdmaa
