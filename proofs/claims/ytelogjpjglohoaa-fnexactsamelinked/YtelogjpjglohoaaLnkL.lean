/- What is linked: as it comes in, copied, measured, held against each other, marked (gen_lnkl.py). -/
import Derived.Test.YtelogjpjglohoaaOneL
import Derived.Test.YtelogjpjglohoaaOwnB
namespace Go.Proofs.Ytelogjpjglohoaa
open Go Go.RowKit Go.ChangeShapes Go.WideShapes Go.Deep
set_option linter.unusedVariables false

structure LnkD where
  na : Nat
  nc : Nat
  nx : Nat
  nd : Nat
  A : Nat → Int
  C : Nat → ByteArray
  X : Nat → Int
  D : Nat → ByteArray
structure LnkPt where
  pa : Option Addr
  ka : Nat
  pc : Option Addr
  kc : Nat
  px : Option Addr
  kx : Nat
  pd : Option Addr
  kd : Nat
abbrev lnkC (o : LnkD) (q : LnkPt) : Array Value := #[.slice q.pa o.na q.ka, .slice q.pc o.nc q.kc, .slice q.px o.nx q.kx, .slice q.pd o.nd q.kd]
theorem lnk0 {w : World} {g : Nat} {t : TypeId} {o : LnkD} {q : LnkPt} (h : Lies w g t (lnkC o q)) : w.cell? ⟨g, 0, none⟩ = some (.slice q.pa o.na q.ka) := h.cell rfl
theorem lnk1 {w : World} {g : Nat} {t : TypeId} {o : LnkD} {q : LnkPt} (h : Lies w g t (lnkC o q)) : w.cell? ⟨g, 1, none⟩ = some (.slice q.pc o.nc q.kc) := h.cell rfl
theorem lnk2 {w : World} {g : Nat} {t : TypeId} {o : LnkD} {q : LnkPt} (h : Lies w g t (lnkC o q)) : w.cell? ⟨g, 2, none⟩ = some (.slice q.px o.nx q.kx) := h.cell rfl
theorem lnk3 {w : World} {g : Nat} {t : TypeId} {o : LnkD} {q : LnkPt} (h : Lies w g t (lnkC o q)) : w.cell? ⟨g, 3, none⟩ = some (.slice q.pd o.nd q.kd) := h.cell rfl
structure LnkAt (w : World) (q : LnkPt) (o : LnkD) : Prop where
  a : NumsAt w q.pa o.na o.A
  c : StrsAt w q.pc o.nc o.C
  x : NumsAt w q.px o.nx o.X
  d : StrsAt w q.pd o.nd o.D
  ca : o.na ≤ q.ka
  cc : o.nc ≤ q.kc
  cx : o.nx ≤ q.kx
  cd : o.nd ≤ q.kd
theorem LnkAt.below {w w' : World} {q : LnkPt} {o : LnkD} (h : LnkAt w q o) (hb : Below w.heap.size w w') : LnkAt w' q o := ⟨h.a.below hb, h.c.below hb, h.x.below hb, h.d.below hb, h.ca, h.cc, h.cx, h.cd⟩
theorem LnkAt.drew {w : World} {q : LnkPt} {o : LnkD} (h : LnkAt w q o) : LnkAt w.drew q o := ⟨h.a, h.c, h.x, h.d, h.ca, h.cc, h.cx, h.cd⟩
structure LnkD.wf (o : LnkD) : Prop where
  a : ∀ i, i < o.na → (Lit.int .i64 (o.A i)).wf = true
  c : ∀ i, i < o.nc → (o.C i).size ≤ maxLen
  x : ∀ i, i < o.nx → (Lit.int .i64 (o.X i)).wf = true
  d : ∀ i, i < o.nd → (o.D i).size ≤ maxLen
  na : o.na ≤ maxLen
  nc : o.nc ≤ maxLen
  nx : o.nx ≤ maxLen
  nd : o.nd ≤ maxLen
def IsLinked (w : World) (q : LnkPt) (o : LnkD) : Prop := o.wf ∧ LnkAt w q o
/-- As long as the law's measure lets them be. -/
structure LnkD.fits (o : LnkD) : Prop where
  na : o.na ≤ 1048576
  nc : o.nc ≤ 1048576
  nx : o.nx ≤ 1048576
  nd : o.nd ≤ 1048576
  c : ∀ i, i < o.nc → (o.C i).size ≤ 1048576
  d : ∀ i, i < o.nd → (o.D i).size ≤ 1048576
theorem array4 {α : Type} {cs : Array α} (h : cs.size = 4) : ∃ c0 c1 c2 c3, cs = #[c0, c1, c2, c3] := by
  obtain ⟨l⟩ := cs
  match l, h with
  | [c0, c1, c2, c3], _ => exact ⟨c0, c1, c2, c3, rfl⟩
section
variable {H : Type} {enc : TypeId × Value → H} {P : Program} {w : World} {base : Nat} {spare : Nat → Bool} {held : Bool}
theorem open_linked {r : Reach} {b0 : Nat} {t ei es : TypeId} {g0 g1 g2 g3 : Field} {v : Value} {d : DataW H} {p : List MemPlace} (hs : P.underlying t = some (.struct #[g0, g1, g2, g3])) (hone : oneCellFields P #[g0, g1, g2, g3] = true) (hC : P.cellsOf t = 4)
    (v0 : P.underlying g0.type = some (.slice ei)) (v1 : P.underlying g1.type = some (.slice es)) (v2 : P.underlying g2.type = some (.slice ei)) (v3 : P.underlying g3.type = some (.slice es))
    (hi : P.underlying ei = some (.int .i64)) (ci : P.cellsOf ei = 1) (ht : P.underlying es = some .string) (ct : P.cellsOf es = 1)
    (hv : Value.okWide P w r b0 t v) (h : DataW.Trod enc P w base spare held t v d p) :
    ∃ (q : LnkPt) (o : LnkD), v = .agg (lnkC o q) ∧ IsLinked w q o := by
  obtain ⟨cs', rfl, hsz, n, hx⟩ := open_agg hs hone hC hv h
  obtain ⟨c0, c1, c2, c3, rfl⟩ := array4 hsz
  obtain ⟨x0, y0, e0, k0⟩ := hx 0 g0 rfl
  obtain ⟨x1, y1, e1, k1⟩ := hx 1 g1 rfl
  obtain ⟨x2, y2, e2, k2⟩ := hx 2 g2 rfl
  obtain ⟨x3, y3, e3, k3⟩ := hx 3 g3 rfl
  simp at e0 e1 e2 e3
  subst e0 e1 e2 e3
  obtain ⟨pa, na, ka, rfl⟩ := slice_of v0 k0
  obtain ⟨pc, nc, kc, rfl⟩ := slice_of v1 k1
  obtain ⟨px, nx, kx, rfl⟩ := slice_of v2 k2
  obtain ⟨pd, nd, kd, rfl⟩ := slice_of v3 k3
  obtain ⟨A, a1, a2, a3, a4⟩ := open_nums v0 hi ci k0
  obtain ⟨C, c1, c2, c3, c4⟩ := open_strs v1 ht ct k1
  obtain ⟨X, x1, x2, x3, x4⟩ := open_nums v2 hi ci k2
  obtain ⟨D, d1, d2, d3, d4⟩ := open_strs v3 ht ct k3
  exact ⟨⟨pa, ka, pc, kc, px, kx, pd, kd⟩, ⟨na, nc, nx, nd, A, C, X, D⟩, rfl, ⟨a2, c2, x2, d2, Nat.le_trans a3 a4, Nat.le_trans c3 c4, Nat.le_trans x3 x4, Nat.le_trans d3 d4⟩, ⟨a1, c1, x1, d1, a3, c3, x3, d3⟩⟩
end
/-- What is linked, of the call's own: its lists lie one behind the other. -/
structure LnkOwn (w : World) (b0 b1 b2 b3 b4 : Nat) (q : LnkPt) (o : LnkD) : Prop where
  a : OwnIn w b0 b1 q.pa o.na 1 (numV o.A)
  c : OwnIn w b1 b2 q.pc o.nc 1 (strV o.C)
  x : OwnIn w b2 b3 q.px o.nx 1 (numV o.X)
  d : OwnIn w b3 b4 q.pd o.nd 1 (strV o.D)
  h0 : b0 ≤ b1
  h1 : b1 ≤ b2
  h2 : b2 ≤ b3
  h3 : b3 ≤ b4
  top : b4 ≤ w.heap.size
  ca : o.na ≤ q.ka
  cc : o.nc ≤ q.kc
  cx : o.nx ≤ q.kx
  cd : o.nd ≤ q.kd
theorem LnkOwn.at {w : World} {b0 b1 b2 b3 b4 : Nat} {q : LnkPt} {o : LnkD} (h : LnkOwn w b0 b1 b2 b3 b4 q o) : LnkAt w q o := ⟨h.a.rows, h.c.rows, h.x.rows, h.d.rows, h.ca, h.cc, h.cx, h.cd⟩
theorem LnkOwn.below {w w' : World} {b0 b1 b2 b3 b4 : Nat} {q : LnkPt} {o : LnkD} (h : LnkOwn w b0 b1 b2 b3 b4 q o) (hb : Below b4 w w') : LnkOwn w' b0 b1 b2 b3 b4 q o := by
  have h0 := h.h0
  have h1 := h.h1
  have h2 := h.h2
  have h3 := h.h3
  exact ⟨h.a.below (hb.mono (by omega)), h.c.below (hb.mono (by omega)), h.x.below (hb.mono (by omega)), h.d.below hb, h0, h1, h2, h3, Nat.le_trans h.top hb.size, h.ca, h.cc, h.cx, h.cd⟩

set_option maxRecDepth 100000 in
set_option maxHeartbeats 4000000 in
theorem toLnk (q : LnkPt) (o : LnkD) (w : World) (ha : o.na ≤ 1048576) (hc : o.nc ≤ 1048576) (hx : o.nx ≤ 1048576) (hd : o.nd ≤ 1048576) (hp : LnkAt w q o) :
    Calls Try.prog 22 #[.agg (lnkC o q)] w fun e w' => ∃ q' b1 b2 b3 b4, e = .returned (.agg (lnkC o q')) ∧ Below w.heap.size w w' ∧ LnkOwn w' w.heap.size b1 b2 b3 b4 q' o := by
  go_enter Try.func22, Try.ntmps22
  go_wp2_with fail
  have B3 : Below w.heap.size w (((w.alloc (.cells #[.slice q.pa o.na q.ka, .slice q.pc o.nc q.kc, .slice q.px o.nx q.kx, .slice q.pd o.nd q.kd] 43)).alloc (.cells #[.slice none 0 0, .slice none 0 0, .slice none 0 0, .slice none 0 0] 46)).alloc (.cells #[.slice none 0 0, .slice none 0 0, .slice none 0 0, .slice none 0 0] 46)) := (((Below.refl _ _).alloc (Nat.le_refl _) _).alloc (by simp) _).alloc (by simp; omega) _
  have l1 := ((Lies.new w #[.slice q.pa o.na q.ka, .slice q.pc o.nc q.kc, .slice q.px o.nx q.kx, .slice q.pd o.nd q.kd] 43).alloc (.cells #[.slice none 0 0, .slice none 0 0, .slice none 0 0, .slice none 0 0] 46)).alloc (.cells #[.slice none 0 0, .slice none 0 0, .slice none 0 0, .slice none 0 0] 46)
  have l2 := (Lies.newAt (w.alloc (.cells #[.slice q.pa o.na q.ka, .slice q.pc o.nc q.kc, .slice q.px o.nx q.kx, .slice q.pd o.nd q.kd] 43)) #[.slice none 0 0, .slice none 0 0, .slice none 0 0, .slice none 0 0] 46 (g := w.heap.size + 1) (by simp)).alloc (.cells #[.slice none 0 0, .slice none 0 0, .slice none 0 0, .slice none 0 0] 46)
  have l3 := Lies.newAt ((w.alloc (.cells #[.slice q.pa o.na q.ka, .slice q.pc o.nc q.kc, .slice q.px o.nx q.kx, .slice q.pd o.nd q.kd] 43)).alloc (.cells #[.slice none 0 0, .slice none 0 0, .slice none 0 0, .slice none 0 0] 46)) #[.slice none 0 0, .slice none 0 0, .slice none 0 0, .slice none 0 0] 46 (g := w.heap.size + 1 + 1) (by simp)
  obtain ⟨V0, hV0⟩ : ∃ V, (((w.alloc (.cells #[.slice q.pa o.na q.ka, .slice q.pc o.nc q.kc, .slice q.px o.nx q.kx, .slice q.pd o.nd q.kd] 43)).alloc (.cells #[.slice none 0 0, .slice none 0 0, .slice none 0 0, .slice none 0 0] 46)).alloc (.cells #[.slice none 0 0, .slice none 0 0, .slice none 0 0, .slice none 0 0] 46)) = V := ⟨_, rfl⟩
  have hz0 : V0.heap.size = w.heap.size + 1 + 1 + 1 := by rw [← hV0]; simp
  rw [hV0]
  rw [hV0] at B3 l1 l2 l3
  have hBase : ∀ W : World, Below w.heap.size w W → LnkAt W q o := fun W h => hp.below h
  obtain ⟨Z, hZ⟩ : ∃ Z, w.heap.size = Z := ⟨_, rfl⟩
  rw [hZ] at B3 l1 l2 l3 hz0 hBase
  have HZ : Hid (w.heap.size = Z) := hZ
  try rw [hZ]
  have HP : Hid (∀ W : World, Below Z w W → LnkAt W q o) := hBase
  have HB0 : Hid (Below Z w V0) := B3
  have HS0 : Hid (Lies V0 Z 43 #[.slice q.pa o.na q.ka, .slice q.pc o.nc q.kc, .slice q.px o.nx q.kx, .slice q.pd o.nd q.kd]) := l1
  have HR0 : Hid (Lies V0 (Z + 1) 46 #[.slice none 0 0, .slice none 0 0, .slice none 0 0, .slice none 0 0]) := l2
  have HO0 : Hid (Lies V0 (Z + 1 + 1) 46 #[.slice none 0 0, .slice none 0 0, .slice none 0 0, .slice none 0 0]) := l3
  obtain ⟨M0, hM0⟩ : ∃ M, V0.heap.size = M := ⟨_, rfl⟩
  have hX0 : Z + 1 + 1 < M0 := by omega
  clear hV0 hp B3 hZ hBase l1 l2 l3 hz0
  refine (toNums q.pa o.na q.ka o.A V0 ha (HP.out V0 HB0.out).a).mono ?_
  rintro e U0 ⟨g0, rfl, hb, hg0, hl, fr⟩
  rw [hM0] at hb hg0
  have S := HS0.out.below hb (by omega)
  have R := HR0.out.below hb (by omega)
  have O := HO0.out.below hb (by omega)
  have B := HB0.out.trans (hb.mono (show Z ≤ M0 by omega))
  have y0 := ownIn_of (lo := M0) hg0 hl fr
  have hsz : M0 ≤ U0.heap.size := by have := hb.size; omega
  obtain ⟨M1, hM1⟩ : ∃ M, U0.heap.size = M := ⟨_, rfl⟩
  rw [hM1] at hsz y0
  have o0 := O.cell (j := 0) rfl
  have of0 := O.fro 0
  have c0 := S.cell (j := 1) rfl
  have S' := S.putOther (a := ⟨Z + 1 + 1, 0, none⟩) (by show Z ≠ Z + 1 + 1; omega) (.slice (some ⟨g0, 0, none⟩) o.na o.na)
  have R' := R.putOther (a := ⟨Z + 1 + 1, 0, none⟩) (by show Z + 1 ≠ Z + 1 + 1; omega) (.slice (some ⟨g0, 0, none⟩) o.na o.na)
  have O' : Lies (U0.setCell ⟨Z + 1 + 1, 0, none⟩ (.slice (some ⟨g0, 0, none⟩) o.na o.na)) (Z + 1 + 1) 46 #[.slice (some ⟨g0, 0, none⟩) o.na o.na, .slice none 0 0, .slice none 0 0, .slice none 0 0] := O.put 0 (.slice (some ⟨g0, 0, none⟩) o.na o.na)
  have B' := B.setCell (p := ⟨Z + 1 + 1, 0, none⟩) (by show Z ≤ Z + 1 + 1; omega) (.slice (some ⟨g0, 0, none⟩) o.na o.na)
  have y0' := y0.put (X := Z + 1 + 1) (by omega) 0 (.slice (some ⟨g0, 0, none⟩) o.na o.na)
  have hM' : (U0.setCell ⟨Z + 1 + 1, 0, none⟩ (.slice (some ⟨g0, 0, none⟩) o.na o.na)).heap.size = M1 := by rw [← hM1]; simp
  have HS1 : Hid (Lies _ Z 43 _) := S'
  have HR1 : Hid (Lies _ (Z + 1) 46 _) := R'
  have HO1 : Hid (Lies _ (Z + 1 + 1) 46 _) := O'
  have HB1 : Hid (Below Z w _) := B'
  have HW0_1 : Hid (OwnIn _ M0 M1 (some ⟨g0, 0, none⟩) o.na 1 (numV o.A)) := y0'
  have HM' : Hid (_ = M1) := hM'
  clear S R O B S' R' O' B' hb hl fr hM' hM1 HS0 HR0 HO0 HB0 y0 y0'
  go_wp2_with fail
  obtain ⟨V1, hV⟩ : ∃ V, U0.setCell ⟨Z + 1 + 1, 0, none⟩ (.slice (some ⟨g0, 0, none⟩) o.na o.na) = V := ⟨_, rfl⟩
  rw [hV] at HS1 HR1 HO1 HB1 HM' HW0_1 ⊢
  have hM1 := HM'.out
  clear HM' hV o0 of0 c0
  refine (toStrs q.pc o.nc q.kc o.C V1 hc (HP.out V1 HB1.out).c).mono ?_
  rintro e U1 ⟨g1, rfl, hb, hg1, hl, fr⟩
  rw [hM1] at hb hg1
  have S := HS1.out.below hb (by omega)
  have R := HR1.out.below hb (by omega)
  have O := HO1.out.below hb (by omega)
  have B := HB1.out.trans (hb.mono (show Z ≤ M1 by omega))
  have y1 := ownIn_of (lo := M1) hg1 hl fr
  have hsz : M1 ≤ U1.heap.size := by have := hb.size; omega
  have y0 := HW0_1.out.below (hb.mono (show M1 ≤ M1 by omega))
  obtain ⟨M2, hM2⟩ : ∃ M, U1.heap.size = M := ⟨_, rfl⟩
  rw [hM2] at hsz y1
  have o1 := O.cell (j := 1) rfl
  have of1 := O.fro 1
  have c1 := S.cell (j := 2) rfl
  have S' := S.putOther (a := ⟨Z + 1 + 1, 1, none⟩) (by show Z ≠ Z + 1 + 1; omega) (.slice (some ⟨g1, 0, none⟩) o.nc o.nc)
  have R' := R.putOther (a := ⟨Z + 1 + 1, 1, none⟩) (by show Z + 1 ≠ Z + 1 + 1; omega) (.slice (some ⟨g1, 0, none⟩) o.nc o.nc)
  have O' : Lies (U1.setCell ⟨Z + 1 + 1, 1, none⟩ (.slice (some ⟨g1, 0, none⟩) o.nc o.nc)) (Z + 1 + 1) 46 #[.slice (some ⟨g0, 0, none⟩) o.na o.na, .slice (some ⟨g1, 0, none⟩) o.nc o.nc, .slice none 0 0, .slice none 0 0] := O.put 1 (.slice (some ⟨g1, 0, none⟩) o.nc o.nc)
  have B' := B.setCell (p := ⟨Z + 1 + 1, 1, none⟩) (by show Z ≤ Z + 1 + 1; omega) (.slice (some ⟨g1, 0, none⟩) o.nc o.nc)
  have y0' := y0.put (X := Z + 1 + 1) (by omega) 1 (.slice (some ⟨g1, 0, none⟩) o.nc o.nc)
  have y1' := y1.put (X := Z + 1 + 1) (by omega) 1 (.slice (some ⟨g1, 0, none⟩) o.nc o.nc)
  have hM' : (U1.setCell ⟨Z + 1 + 1, 1, none⟩ (.slice (some ⟨g1, 0, none⟩) o.nc o.nc)).heap.size = M2 := by rw [← hM2]; simp
  have HS2 : Hid (Lies _ Z 43 _) := S'
  have HR2 : Hid (Lies _ (Z + 1) 46 _) := R'
  have HO2 : Hid (Lies _ (Z + 1 + 1) 46 _) := O'
  have HB2 : Hid (Below Z w _) := B'
  have HW0_2 : Hid (OwnIn _ M0 M1 (some ⟨g0, 0, none⟩) o.na 1 (numV o.A)) := y0'
  have HW1_2 : Hid (OwnIn _ M1 M2 (some ⟨g1, 0, none⟩) o.nc 1 (strV o.C)) := y1'
  have HM' : Hid (_ = M2) := hM'
  clear S R O B S' R' O' B' hb hl fr hM' hM2 HS1 HR1 HO1 HB1 y0 y0' y1 y1' HW0_1
  go_wp2_with fail
  obtain ⟨V2, hV⟩ : ∃ V, U1.setCell ⟨Z + 1 + 1, 1, none⟩ (.slice (some ⟨g1, 0, none⟩) o.nc o.nc) = V := ⟨_, rfl⟩
  rw [hV] at HS2 HR2 HO2 HB2 HM' HW0_2 HW1_2 ⊢
  have hM2 := HM'.out
  clear HM' hV o1 of1 c1
  refine (toNums q.px o.nx q.kx o.X V2 hx (HP.out V2 HB2.out).x).mono ?_
  rintro e U2 ⟨g2, rfl, hb, hg2, hl, fr⟩
  rw [hM2] at hb hg2
  have S := HS2.out.below hb (by omega)
  have R := HR2.out.below hb (by omega)
  have O := HO2.out.below hb (by omega)
  have B := HB2.out.trans (hb.mono (show Z ≤ M2 by omega))
  have y2 := ownIn_of (lo := M2) hg2 hl fr
  have hsz : M2 ≤ U2.heap.size := by have := hb.size; omega
  have y0 := HW0_2.out.below (hb.mono (show M1 ≤ M2 by omega))
  have y1 := HW1_2.out.below (hb.mono (show M2 ≤ M2 by omega))
  obtain ⟨M3, hM3⟩ : ∃ M, U2.heap.size = M := ⟨_, rfl⟩
  rw [hM3] at hsz y2
  have o2 := O.cell (j := 2) rfl
  have of2 := O.fro 2
  have c2 := S.cell (j := 3) rfl
  have S' := S.putOther (a := ⟨Z + 1 + 1, 2, none⟩) (by show Z ≠ Z + 1 + 1; omega) (.slice (some ⟨g2, 0, none⟩) o.nx o.nx)
  have R' := R.putOther (a := ⟨Z + 1 + 1, 2, none⟩) (by show Z + 1 ≠ Z + 1 + 1; omega) (.slice (some ⟨g2, 0, none⟩) o.nx o.nx)
  have O' : Lies (U2.setCell ⟨Z + 1 + 1, 2, none⟩ (.slice (some ⟨g2, 0, none⟩) o.nx o.nx)) (Z + 1 + 1) 46 #[.slice (some ⟨g0, 0, none⟩) o.na o.na, .slice (some ⟨g1, 0, none⟩) o.nc o.nc, .slice (some ⟨g2, 0, none⟩) o.nx o.nx, .slice none 0 0] := O.put 2 (.slice (some ⟨g2, 0, none⟩) o.nx o.nx)
  have B' := B.setCell (p := ⟨Z + 1 + 1, 2, none⟩) (by show Z ≤ Z + 1 + 1; omega) (.slice (some ⟨g2, 0, none⟩) o.nx o.nx)
  have y0' := y0.put (X := Z + 1 + 1) (by omega) 2 (.slice (some ⟨g2, 0, none⟩) o.nx o.nx)
  have y1' := y1.put (X := Z + 1 + 1) (by omega) 2 (.slice (some ⟨g2, 0, none⟩) o.nx o.nx)
  have y2' := y2.put (X := Z + 1 + 1) (by omega) 2 (.slice (some ⟨g2, 0, none⟩) o.nx o.nx)
  have hM' : (U2.setCell ⟨Z + 1 + 1, 2, none⟩ (.slice (some ⟨g2, 0, none⟩) o.nx o.nx)).heap.size = M3 := by rw [← hM3]; simp
  have HS3 : Hid (Lies _ Z 43 _) := S'
  have HR3 : Hid (Lies _ (Z + 1) 46 _) := R'
  have HO3 : Hid (Lies _ (Z + 1 + 1) 46 _) := O'
  have HB3 : Hid (Below Z w _) := B'
  have HW0_3 : Hid (OwnIn _ M0 M1 (some ⟨g0, 0, none⟩) o.na 1 (numV o.A)) := y0'
  have HW1_3 : Hid (OwnIn _ M1 M2 (some ⟨g1, 0, none⟩) o.nc 1 (strV o.C)) := y1'
  have HW2_3 : Hid (OwnIn _ M2 M3 (some ⟨g2, 0, none⟩) o.nx 1 (numV o.X)) := y2'
  have HM' : Hid (_ = M3) := hM'
  clear S R O B S' R' O' B' hb hl fr hM' hM3 HS2 HR2 HO2 HB2 y0 y0' y1 y1' y2 y2' HW0_2 HW1_2
  go_wp2_with fail
  obtain ⟨V3, hV⟩ : ∃ V, U2.setCell ⟨Z + 1 + 1, 2, none⟩ (.slice (some ⟨g2, 0, none⟩) o.nx o.nx) = V := ⟨_, rfl⟩
  rw [hV] at HS3 HR3 HO3 HB3 HM' HW0_3 HW1_3 HW2_3 ⊢
  have hM3 := HM'.out
  clear HM' hV o2 of2 c2
  refine (toStrs q.pd o.nd q.kd o.D V3 hd (HP.out V3 HB3.out).d).mono ?_
  rintro e U3 ⟨g3, rfl, hb, hg3, hl, fr⟩
  rw [hM3] at hb hg3
  have S := HS3.out.below hb (by omega)
  have R := HR3.out.below hb (by omega)
  have O := HO3.out.below hb (by omega)
  have B := HB3.out.trans (hb.mono (show Z ≤ M3 by omega))
  have y3 := ownIn_of (lo := M3) hg3 hl fr
  have hsz : M3 ≤ U3.heap.size := by have := hb.size; omega
  have y0 := HW0_3.out.below (hb.mono (show M1 ≤ M3 by omega))
  have y1 := HW1_3.out.below (hb.mono (show M2 ≤ M3 by omega))
  have y2 := HW2_3.out.below (hb.mono (show M3 ≤ M3 by omega))
  obtain ⟨M4, hM4⟩ : ∃ M, U3.heap.size = M := ⟨_, rfl⟩
  rw [hM4] at hsz y3
  have o3 := O.cell (j := 3) rfl
  have of3 := O.fro 3
  have z0 := O.cell (j := 0) rfl
  have r0 := R.cell (j := 0) rfl
  have rf0 := R.fro 0
  have z1 := O.cell (j := 1) rfl
  have r1 := R.cell (j := 1) rfl
  have rf1 := R.fro 1
  have z2 := O.cell (j := 2) rfl
  have r2 := R.cell (j := 2) rfl
  have rf2 := R.fro 2
  have z3 := O.cell (j := 3) rfl
  have r3 := R.cell (j := 3) rfl
  have rf3 := R.fro 3
  have S' := S.putOther (a := ⟨Z + 1 + 1, 3, none⟩) (by show Z ≠ Z + 1 + 1; omega) (.slice (some ⟨g3, 0, none⟩) o.nd o.nd)
  have R' := R.putOther (a := ⟨Z + 1 + 1, 3, none⟩) (by show Z + 1 ≠ Z + 1 + 1; omega) (.slice (some ⟨g3, 0, none⟩) o.nd o.nd)
  have O' : Lies (U3.setCell ⟨Z + 1 + 1, 3, none⟩ (.slice (some ⟨g3, 0, none⟩) o.nd o.nd)) (Z + 1 + 1) 46 #[.slice (some ⟨g0, 0, none⟩) o.na o.na, .slice (some ⟨g1, 0, none⟩) o.nc o.nc, .slice (some ⟨g2, 0, none⟩) o.nx o.nx, .slice (some ⟨g3, 0, none⟩) o.nd o.nd] := O.put 3 (.slice (some ⟨g3, 0, none⟩) o.nd o.nd)
  have B' := B.setCell (p := ⟨Z + 1 + 1, 3, none⟩) (by show Z ≤ Z + 1 + 1; omega) (.slice (some ⟨g3, 0, none⟩) o.nd o.nd)
  have y0' := y0.put (X := Z + 1 + 1) (by omega) 3 (.slice (some ⟨g3, 0, none⟩) o.nd o.nd)
  have y1' := y1.put (X := Z + 1 + 1) (by omega) 3 (.slice (some ⟨g3, 0, none⟩) o.nd o.nd)
  have y2' := y2.put (X := Z + 1 + 1) (by omega) 3 (.slice (some ⟨g3, 0, none⟩) o.nd o.nd)
  have y3' := y3.put (X := Z + 1 + 1) (by omega) 3 (.slice (some ⟨g3, 0, none⟩) o.nd o.nd)
  have hM' : (U3.setCell ⟨Z + 1 + 1, 3, none⟩ (.slice (some ⟨g3, 0, none⟩) o.nd o.nd)).heap.size = M4 := by rw [← hM4]; simp
  have HS4 : Hid (Lies _ Z 43 _) := S'
  have HR4 : Hid (Lies _ (Z + 1) 46 _) := R'
  have HO4 : Hid (Lies _ (Z + 1 + 1) 46 _) := O'
  have HB4 : Hid (Below Z w _) := B'
  have HW0_4 : Hid (OwnIn _ M0 M1 (some ⟨g0, 0, none⟩) o.na 1 (numV o.A)) := y0'
  have HW1_4 : Hid (OwnIn _ M1 M2 (some ⟨g1, 0, none⟩) o.nc 1 (strV o.C)) := y1'
  have HW2_4 : Hid (OwnIn _ M2 M3 (some ⟨g2, 0, none⟩) o.nx 1 (numV o.X)) := y2'
  have HW3_4 : Hid (OwnIn _ M3 M4 (some ⟨g3, 0, none⟩) o.nd 1 (strV o.D)) := y3'
  have HM' : Hid (_ = M4) := hM'
  clear S R O B S' R' O' B' hb hl fr hM' hM4 HS3 HR3 HO3 HB3 y0 y0' y1 y1' y2 y2' y3 y3' HW0_3 HW1_3 HW2_3
  go_wp2_with fail
  have n1 := ((((HR4.out.put 0 (.slice (some ⟨g0, 0, none⟩) o.na o.na)).put 1 (.slice (some ⟨g1, 0, none⟩) o.nc o.nc)).put 2 (.slice (some ⟨g2, 0, none⟩) o.nx o.nx)).put 3 (.slice (some ⟨g3, 0, none⟩) o.nd o.nd))
  have bel := ((((HB4.out.setCell (p := ⟨Z + 1, 0, none⟩) (by show Z ≤ Z + 1; omega) (.slice (some ⟨g0, 0, none⟩) o.na o.na)).setCell (p := ⟨Z + 1, 1, none⟩) (by show Z ≤ Z + 1; omega) (.slice (some ⟨g1, 0, none⟩) o.nc o.nc)).setCell (p := ⟨Z + 1, 2, none⟩) (by show Z ≤ Z + 1; omega) (.slice (some ⟨g2, 0, none⟩) o.nx o.nx)).setCell (p := ⟨Z + 1, 3, none⟩) (by show Z ≤ Z + 1; omega) (.slice (some ⟨g3, 0, none⟩) o.nd o.nd))
  have v0 := ((((HW0_4.out.put (X := Z + 1) (by omega) 0 (.slice (some ⟨g0, 0, none⟩) o.na o.na)).put (X := Z + 1) (by omega) 1 (.slice (some ⟨g1, 0, none⟩) o.nc o.nc)).put (X := Z + 1) (by omega) 2 (.slice (some ⟨g2, 0, none⟩) o.nx o.nx)).put (X := Z + 1) (by omega) 3 (.slice (some ⟨g3, 0, none⟩) o.nd o.nd))
  have v1 := ((((HW1_4.out.put (X := Z + 1) (by omega) 0 (.slice (some ⟨g0, 0, none⟩) o.na o.na)).put (X := Z + 1) (by omega) 1 (.slice (some ⟨g1, 0, none⟩) o.nc o.nc)).put (X := Z + 1) (by omega) 2 (.slice (some ⟨g2, 0, none⟩) o.nx o.nx)).put (X := Z + 1) (by omega) 3 (.slice (some ⟨g3, 0, none⟩) o.nd o.nd))
  have v2 := ((((HW2_4.out.put (X := Z + 1) (by omega) 0 (.slice (some ⟨g0, 0, none⟩) o.na o.na)).put (X := Z + 1) (by omega) 1 (.slice (some ⟨g1, 0, none⟩) o.nc o.nc)).put (X := Z + 1) (by omega) 2 (.slice (some ⟨g2, 0, none⟩) o.nx o.nx)).put (X := Z + 1) (by omega) 3 (.slice (some ⟨g3, 0, none⟩) o.nd o.nd))
  have v3 := ((((HW3_4.out.put (X := Z + 1) (by omega) 0 (.slice (some ⟨g0, 0, none⟩) o.na o.na)).put (X := Z + 1) (by omega) 1 (.slice (some ⟨g1, 0, none⟩) o.nc o.nc)).put (X := Z + 1) (by omega) 2 (.slice (some ⟨g2, 0, none⟩) o.nx o.nx)).put (X := Z + 1) (by omega) 3 (.slice (some ⟨g3, 0, none⟩) o.nd o.nd))
  have hi3 : (Try.prog.info? 46).map (·.size) = some (#[Value.slice (some ⟨g0, 0, none⟩) o.na o.na, .slice (some ⟨g1, 0, none⟩) o.nc o.nc, .slice (some ⟨g2, 0, none⟩) o.nx o.nx, .slice (some ⟨g3, 0, none⟩) o.nd o.nd] : Array Value).size := by kernel_rfl
  refine bodyPost_ret (results_lies rfl _ _ _ _ _ _ rfl n1 Try.underlying46 rfl hi3) rfl ⟨⟨some ⟨g0, 0, none⟩, o.na, some ⟨g1, 0, none⟩, o.nc, some ⟨g2, 0, none⟩, o.nx, some ⟨g3, 0, none⟩, o.nd⟩, M1, M2, M3, M4, rfl, by rw [HZ.out]; exact bel, ?_⟩
  rw [HZ.out]
  exact ⟨v0.wide (by omega), v1, v2, v3, by omega, by omega, by omega, by omega, by have := HM'.out; simp at this ⊢; omega, Nat.le_refl _, Nat.le_refl _, Nat.le_refl _, Nat.le_refl _⟩

set_option maxHeartbeats 2000000 in
theorem szLnk (q : LnkPt) (o : LnkD) (l0 : Int) (w : World) (h0 : 0 ≤ l0) (h1 : l0 ≤ 1048576) (hw : o.wf) (hp : LnkAt w q o) :
    Calls Try.prog 20 #[.agg (lnkC o q), .int .i64 l0] w fun e w' => (∃ r : Int, e = .returned (.int .i64 r) ∧ (r = -1 ∨ (0 ≤ r ∧ r ≤ l0 ∧ o.fits))) ∧ Below w.heap.size w w' := by
  have bA := grown1' w (.cells (lnkC o q) 43)
  have lA := Lies.new w (lnkC o q) 43
  have hBase : ∀ W : World, Below w.heap.size w W → LnkAt W q o := fun W h => hp.below h
  have HP : Hid (∀ W : World, Below w.heap.size w W → LnkAt W q o) := hBase
  have HA : Hid (Below w.heap.size w _) := bA
  have HL : Hid (Lies _ w.heap.size 43 (lnkC o q)) := lA
  clear hBase bA lA hp
  go_enter Try.func20, Try.ntmps20
  go_wp2_with fail
  obtain ⟨V0, hV0⟩ : ∃ V, w.alloc (.cells #[.slice q.pa o.na q.ka, .slice q.pc o.nc q.kc, .slice q.px o.nx q.kx, .slice q.pd o.nd q.kd] 43) = V := ⟨_, rfl⟩
  rw [hV0] at HA HL ⊢
  have hlt0 := HL.out.lt
  clear hV0
  refine (szNums q.pa o.na q.ka l0 V0 (by omega) (by omega) hw.na).mono ?_
  rintro e V1 ⟨⟨l1, rfl, hr0⟩, hb⟩
  have B := HA.out.trans (hb.mono HA.out.size)
  have Lq := HL.out.below hb (by omega)
  have hlt1 : w.heap.size < V1.heap.size := Lq.lt
  have c0 := Lq.cell (j := 1) rfl
  clear HA HL hb
  have HA : Hid (Below w.heap.size w V1) := B
  have HL : Hid (Lies V1 w.heap.size 43 (lnkC o q)) := Lq
  clear B Lq
  rcases hr0 with rfl | hr0
  · go_wp2_with fail
    go_ret
    exact ⟨⟨_, rfl, .inl rfl⟩, HA.out⟩
  obtain ⟨a0, b0, d0⟩ := hr0
  have hn1 : ¬ l1 < 0 := by omega
  go_wp2_with fail
  refine (szStrs q.pc o.nc q.kc o.C l1 V1 (by omega) (by omega) hw.nc hw.c (HP.out V1 HA.out).c).mono ?_
  rintro e V2 ⟨⟨l2, rfl, hr1⟩, hb⟩
  have B := HA.out.trans (hb.mono HA.out.size)
  have Lq := HL.out.below hb (by omega)
  have hlt2 : w.heap.size < V2.heap.size := Lq.lt
  have c1 := Lq.cell (j := 2) rfl
  clear HA HL hb
  have HA : Hid (Below w.heap.size w V2) := B
  have HL : Hid (Lies V2 w.heap.size 43 (lnkC o q)) := Lq
  clear B Lq
  rcases hr1 with rfl | hr1
  · go_wp2_with fail
    go_ret
    exact ⟨⟨_, rfl, .inl rfl⟩, HA.out⟩
  obtain ⟨a1, b1, d1, e1⟩ := hr1
  have HE1 : Hid (∀ i, i < o.nc → _) := e1
  clear e1
  have hn2 : ¬ l2 < 0 := by omega
  go_wp2_with fail
  refine (szNums q.px o.nx q.kx l2 V2 (by omega) (by omega) hw.nx).mono ?_
  rintro e V3 ⟨⟨l3, rfl, hr2⟩, hb⟩
  have B := HA.out.trans (hb.mono HA.out.size)
  have Lq := HL.out.below hb (by omega)
  have hlt3 : w.heap.size < V3.heap.size := Lq.lt
  have c2 := Lq.cell (j := 3) rfl
  clear HA HL hb
  have HA : Hid (Below w.heap.size w V3) := B
  have HL : Hid (Lies V3 w.heap.size 43 (lnkC o q)) := Lq
  clear B Lq
  rcases hr2 with rfl | hr2
  · go_wp2_with fail
    go_ret
    exact ⟨⟨_, rfl, .inl rfl⟩, HA.out⟩
  obtain ⟨a2, b2, d2⟩ := hr2
  have hn3 : ¬ l3 < 0 := by omega
  go_wp2_with fail
  refine (szStrs q.pd o.nd q.kd o.D l3 V3 (by omega) (by omega) hw.nd hw.d (HP.out V3 HA.out).d).mono ?_
  rintro e V4 ⟨⟨l4, rfl, hr3⟩, hb⟩
  have B := HA.out.trans (hb.mono HA.out.size)
  have Lq := HL.out.below hb (by omega)
  have hlt4 : w.heap.size < V4.heap.size := Lq.lt
  clear HA HL hb
  have HA : Hid (Below w.heap.size w V4) := B
  have HL : Hid (Lies V4 w.heap.size 43 (lnkC o q)) := Lq
  clear B Lq
  rcases hr3 with rfl | hr3
  · go_wp2_with fail
    go_ret
    exact ⟨⟨_, rfl, .inl rfl⟩, HA.out⟩
  obtain ⟨a3, b3, d3, e3⟩ := hr3
  have HE3 : Hid (∀ i, i < o.nd → _) := e3
  clear e3
  have hn4 : ¬ l4 < 0 := by omega
  go_wp2_with fail
  go_ret
  exact ⟨⟨_, rfl, .inr ⟨a3, by omega, ⟨by omega, by omega, by omega, by omega, fun i hi => by have := HE1.out i hi; omega, fun i hi => by have := HE3.out i hi; omega⟩⟩⟩, HA.out⟩

set_option maxHeartbeats 2000000 in
theorem eqLnk (q q' : LnkPt) (o : LnkD) (w : World) (ha : o.na ≤ 2000000) (hc : o.nc ≤ 2000000) (hx : o.nx ≤ 2000000) (hd : o.nd ≤ 2000000) (hp : LnkAt w q o) (hp' : LnkAt w q' o) :
    Calls Try.prog 24 #[.agg (lnkC o q), .agg (lnkC o q')] w fun e w' => e = .returned (.bool true) ∧ Below w.heap.size w w' := by
  have HP : Hid (∀ W : World, Below w.heap.size w W → LnkAt W q o) := fun W h => hp.below h
  have HP' : Hid (∀ W : World, Below w.heap.size w W → LnkAt W q' o) := fun W h => hp'.below h
  have bA : Below w.heap.size w ((w.alloc (.cells (lnkC o q) 46)).alloc (.cells (lnkC o q') 46)) := ((Below.refl _ _).alloc (Nat.le_refl _) _).alloc (by simp) _
  have l1 := (Lies.new w (lnkC o q) 46).alloc (.cells (lnkC o q') 46)
  have l2 := Lies.newAt (w.alloc (.cells (lnkC o q) 46)) (lnkC o q') 46 (g := w.heap.size + 1) (by simp)
  have HA : Hid (Below w.heap.size w _) := bA
  have HL : Hid (Lies _ w.heap.size 46 (lnkC o q)) := l1
  have HM : Hid (Lies _ (w.heap.size + 1) 46 (lnkC o q')) := l2
  clear hp hp' bA l1 l2
  go_enter Try.func24, Try.ntmps24
  go_wp2_with fail
  obtain ⟨V0, hV0⟩ : ∃ V, ((w.alloc (.cells #[.slice q.pa o.na q.ka, .slice q.pc o.nc q.kc, .slice q.px o.nx q.kx, .slice q.pd o.nd q.kd] 46)).alloc (.cells #[.slice q'.pa o.na q'.ka, .slice q'.pc o.nc q'.kc, .slice q'.px o.nx q'.kx, .slice q'.pd o.nd q'.kd] 46)) = V := ⟨_, rfl⟩
  rw [hV0] at HA HL HM ⊢
  have hlt0 := HL.out.lt
  have hlu0 := HM.out.lt
  clear hV0
  refine (eqNums q.pa q'.pa o.na q.ka q'.ka o.A V0 ha (HP.out V0 HA.out).a (HP'.out V0 HA.out).a).mono ?_
  rintro e V1 ⟨rfl, hb⟩
  have B := HA.out.trans (hb.mono HA.out.size)
  have Lq := HL.out.below hb hlt0
  have Mq := HM.out.below hb hlu0
  have hlt1 : w.heap.size < V1.heap.size := Lq.lt
  have hlu1 : w.heap.size + 1 < V1.heap.size := Mq.lt
  have c0 := Lq.cell (j := 1) rfl
  have d0 := Mq.cell (j := 1) rfl
  clear HA HL HM hb
  have HA : Hid (Below w.heap.size w V1) := B
  have HL : Hid (Lies V1 w.heap.size 46 (lnkC o q)) := Lq
  have HM : Hid (Lies V1 (w.heap.size + 1) 46 (lnkC o q')) := Mq
  clear B Lq Mq
  go_wp2_with fail
  refine (eqStrs q.pc q'.pc o.nc q.kc q'.kc o.C V1 hc (HP.out V1 HA.out).c (HP'.out V1 HA.out).c).mono ?_
  rintro e V2 ⟨rfl, hb⟩
  have B := HA.out.trans (hb.mono HA.out.size)
  have Lq := HL.out.below hb hlt1
  have Mq := HM.out.below hb hlu1
  have hlt2 : w.heap.size < V2.heap.size := Lq.lt
  have hlu2 : w.heap.size + 1 < V2.heap.size := Mq.lt
  have c1 := Lq.cell (j := 2) rfl
  have d1 := Mq.cell (j := 2) rfl
  clear HA HL HM hb
  have HA : Hid (Below w.heap.size w V2) := B
  have HL : Hid (Lies V2 w.heap.size 46 (lnkC o q)) := Lq
  have HM : Hid (Lies V2 (w.heap.size + 1) 46 (lnkC o q')) := Mq
  clear B Lq Mq
  go_wp2_with fail
  refine (eqNums q.px q'.px o.nx q.kx q'.kx o.X V2 hx (HP.out V2 HA.out).x (HP'.out V2 HA.out).x).mono ?_
  rintro e V3 ⟨rfl, hb⟩
  have B := HA.out.trans (hb.mono HA.out.size)
  have Lq := HL.out.below hb hlt2
  have Mq := HM.out.below hb hlu2
  have hlt3 : w.heap.size < V3.heap.size := Lq.lt
  have hlu3 : w.heap.size + 1 < V3.heap.size := Mq.lt
  have c2 := Lq.cell (j := 3) rfl
  have d2 := Mq.cell (j := 3) rfl
  clear HA HL HM hb
  have HA : Hid (Below w.heap.size w V3) := B
  have HL : Hid (Lies V3 w.heap.size 46 (lnkC o q)) := Lq
  have HM : Hid (Lies V3 (w.heap.size + 1) 46 (lnkC o q')) := Mq
  clear B Lq Mq
  go_wp2_with fail
  refine (eqStrs q.pd q'.pd o.nd q.kd q'.kd o.D V3 hd (HP.out V3 HA.out).d (HP'.out V3 HA.out).d).mono ?_
  rintro e V4 ⟨rfl, hb⟩
  have B := HA.out.trans (hb.mono HA.out.size)
  have Lq := HL.out.below hb hlt3
  have Mq := HM.out.below hb hlu3
  have hlt4 : w.heap.size < V4.heap.size := Lq.lt
  have hlu4 : w.heap.size + 1 < V4.heap.size := Mq.lt
  clear HA HL HM hb
  have HA : Hid (Below w.heap.size w V4) := B
  have HL : Hid (Lies V4 w.heap.size 46 (lnkC o q)) := Lq
  have HM : Hid (Lies V4 (w.heap.size + 1) 46 (lnkC o q')) := Mq
  clear B Lq Mq
  go_wp2_with fail
  go_ret
  exact ⟨rfl, HA.out⟩

end Go.Proofs.Ytelogjpjglohoaa
