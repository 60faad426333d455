/- Objects: as they come in. -/
import Derived.Test.YtdcjddiigipdmaaRecFun
import Derived.Test.YtdcjddiigipdmaaRecDat
import Derived.Test.YtdcjddiigipdmaaRecRel
import Derived.Test.YtdcjddiigipdmaaRecSha
namespace Go.Proofs.Ytdcjddiigipdmaa
open Go Go.RowKit Go.ChangeShapes Go.WideShapes Go.Deep
set_option linter.unusedVariables false

/-- What an object is. -/
structure ObjD where
  nm : ByteArray
  dp : Int
  nf : Nat
  nd : Nat
  nr : Nat
  ns : Nat
  F : Nat → FunD
  D : Nat → DatD
  R : Nat → RelD
  S : Nat → ShaD
/-- Where its lists lie. -/
structure ObjPt where
  pf : Option Addr
  kf : Nat
  pd : Option Addr
  kd : Nat
  pr : Option Addr
  kr : Nat
  ps : Option Addr
  ks : Nat
abbrev objC (o : ObjD) (q : ObjPt) : Array Value := #[.string o.nm, .int .i64 o.dp, .slice q.pf o.nf q.kf, .slice q.pd o.nd q.kd, .slice q.pr o.nr q.kr, .slice q.ps o.ns q.ks]
/-- The cells of an object that lies in a block. -/
theorem obj0 {w : World} {g : Nat} {t : TypeId} {o : ObjD} {q : ObjPt} (h : Lies w g t (objC o q)) : w.cell? ⟨g, 0, none⟩ = some (.string o.nm) := h.cell rfl
theorem obj1 {w : World} {g : Nat} {t : TypeId} {o : ObjD} {q : ObjPt} (h : Lies w g t (objC o q)) : w.cell? ⟨g, 1, none⟩ = some (.int .i64 o.dp) := h.cell rfl
theorem obj2 {w : World} {g : Nat} {t : TypeId} {o : ObjD} {q : ObjPt} (h : Lies w g t (objC o q)) : w.cell? ⟨g, 2, none⟩ = some (.slice q.pf o.nf q.kf) := h.cell rfl
theorem obj3 {w : World} {g : Nat} {t : TypeId} {o : ObjD} {q : ObjPt} (h : Lies w g t (objC o q)) : w.cell? ⟨g, 3, none⟩ = some (.slice q.pd o.nd q.kd) := h.cell rfl
theorem obj4 {w : World} {g : Nat} {t : TypeId} {o : ObjD} {q : ObjPt} (h : Lies w g t (objC o q)) : w.cell? ⟨g, 4, none⟩ = some (.slice q.pr o.nr q.kr) := h.cell rfl
theorem obj5 {w : World} {g : Nat} {t : TypeId} {o : ObjD} {q : ObjPt} (h : Lies w g t (objC o q)) : w.cell? ⟨g, 5, none⟩ = some (.slice q.ps o.ns q.ks) := h.cell rfl
structure ObjAt (w : World) (q : ObjPt) (o : ObjD) : Prop where
  f : FunsAt w q.pf o.nf o.F
  d : DatsAt w q.pd o.nd o.D
  r : RelsAt w q.pr o.nr o.R
  s : ShasAt w q.ps o.ns o.S
  cf : o.nf ≤ q.kf
  cd : o.nd ≤ q.kd
  cr : o.nr ≤ q.kr
  cs : o.ns ≤ q.ks
theorem ObjAt.below {w w' : World} {q : ObjPt} {o : ObjD} (h : ObjAt w q o) (hb : Below w.heap.size w w') : ObjAt w' q o := ⟨h.f.below hb, h.d.below hb, h.r.below hb, h.s.below hb, h.cf, h.cd, h.cr, h.cs⟩
theorem ObjAt.drew {w : World} {q : ObjPt} {o : ObjD} (h : ObjAt w q o) : ObjAt w.drew q o := ⟨h.f, h.d, h.r, h.s, h.cf, h.cd, h.cr, h.cs⟩
structure ObjD.wf (o : ObjD) : Prop where
  nm : o.nm.size ≤ maxLen
  dp : (Lit.int .i64 o.dp).wf = true
  f : ∀ i, i < o.nf → (o.F i).wf
  d : ∀ i, i < o.nd → (o.D i).wf
  r : ∀ i, i < o.nr → (o.R i).wf
  s : ∀ i, i < o.ns → (o.S i).wf
  nf : o.nf ≤ maxLen
  nd : o.nd ≤ maxLen
  nr : o.nr ≤ maxLen
  ns : o.ns ≤ maxLen
/-- What the walk is told of an object that came in. -/
def IsObject (w : World) (q : ObjPt) (o : ObjD) : Prop := o.wf ∧ ObjAt w q o
theorem array6 {α : Type} {cs : Array α} (h : cs.size = 6) : ∃ c0 c1 c2 c3 c4 c5, cs = #[c0, c1, c2, c3, c4, c5] := by
  obtain ⟨l⟩ := cs
  match l, h with
  | [c0, c1, c2, c3, c4, c5], _ => exact ⟨c0, c1, c2, c3, c4, c5, rfl⟩
section
variable {H : Type} {enc : TypeId × Value → H} {P : Program} {w : World} {base : Nat} {spare : Nat → Bool} {held : Bool}
theorem open_object {r : Reach} {b0 : Nat} {t ef ed er es : TypeId} {g0 g1 g2 g3 g4 g5 f0 f1 f2 f3 d0 d1 r0 r1 r2 r3 r4 s0 s1 : Field} {v : Value} {d : DataW H} {p : List MemPlace} (hs : P.underlying t = some (.struct #[g0, g1, g2, g3, g4, g5])) (hone : oneCellFields P #[g0, g1, g2, g3, g4, g5] = true) (hC : P.cellsOf t = 6)
    (v0 : P.underlying g0.type = some .string) (v1 : P.underlying g1.type = some (.int .i64)) (v2 : P.underlying g2.type = some (.slice ef)) (v3 : P.underlying g3.type = some (.slice ed)) (v4 : P.underlying g4.type = some (.slice er)) (v5 : P.underlying g5.type = some (.slice es))
    (hf : P.underlying ef = some (.struct #[f0, f1, f2, f3])) (of : oneCellFields P #[f0, f1, f2, f3] = true) (cf : P.cellsOf ef = 4) (uf0 : P.underlying f0.type = some .string) (uf1 : P.underlying f1.type = some .bool) (uf2 : P.underlying f2.type = some (.int .i64)) (uf3 : P.underlying f3.type = some .string)
    (hd : P.underlying ed = some (.struct #[d0, d1])) (od : oneCellFields P #[d0, d1] = true) (cd : P.cellsOf ed = 2) (ud0 : P.underlying d0.type = some .string) (ud1 : P.underlying d1.type = some .string)
    (hr : P.underlying er = some (.struct #[r0, r1, r2, r3, r4])) (or : oneCellFields P #[r0, r1, r2, r3, r4] = true) (cr : P.cellsOf er = 5) (ur0 : P.underlying r0.type = some (.int .i64)) (ur1 : P.underlying r1.type = some (.int .i64)) (ur2 : P.underlying r2.type = some (.int .i64)) (ur3 : P.underlying r3.type = some .string) (ur4 : P.underlying r4.type = some (.int .i64))
    (hsh : P.underlying es = some (.struct #[s0, s1])) (os : oneCellFields P #[s0, s1] = true) (cs : P.cellsOf es = 2) (us0 : P.underlying s0.type = some (.int .i64)) (us1 : P.underlying s1.type = some .bool)
    (hv : Value.okWide P w r b0 t v) (h : DataW.Trod enc P w base spare held t v d p) :
    ∃ (q : ObjPt) (o : ObjD), v = .agg (objC o q) ∧ IsObject w q o := by
  obtain ⟨cs', rfl, hsz, n, hx⟩ := open_agg hs hone hC hv h
  obtain ⟨c0, c1, c2, c3, c4, c5, rfl⟩ := array6 hsz
  obtain ⟨x0, y0, e0, k0⟩ := hx 0 g0 rfl
  obtain ⟨x1, y1, e1, k1⟩ := hx 1 g1 rfl
  obtain ⟨x2, y2, e2, k2⟩ := hx 2 g2 rfl
  obtain ⟨x3, y3, e3, k3⟩ := hx 3 g3 rfl
  obtain ⟨x4, y4, e4, k4⟩ := hx 4 g4 rfl
  obtain ⟨x5, y5, e5, k5⟩ := hx 5 g5 rfl
  simp at e0 e1 e2 e3 e4 e5
  subst e0 e1 e2 e3 e4 e5
  obtain ⟨nm, l0, _, w0⟩ := DataW.trod_string v0 k0
  obtain ⟨dp, l1, _, w1⟩ := DataW.trod_int v1 k1
  obtain ⟨pf, nf, kf, rfl⟩ := slice_of v2 k2
  obtain ⟨pd, nd, kd, rfl⟩ := slice_of v3 k3
  obtain ⟨pr, nr, kr, rfl⟩ := slice_of v4 k4
  obtain ⟨ps, ns, ks, rfl⟩ := slice_of v5 k5
  simp only [List.cons.injEq, and_true] at l0 l1
  subst l0 l1
  obtain ⟨F, a1, a2, a3, a4⟩ := open_funs v2 hf of cf uf0 uf1 uf2 uf3 k2
  obtain ⟨D, b1, b2, b3, b4⟩ := open_dats v3 hd od cd ud0 ud1 k3
  obtain ⟨R, c1, c2, c3, c4⟩ := open_rels v4 hr or cr ur0 ur1 ur2 ur3 ur4 k4
  obtain ⟨S, d1, d2, d3, d4⟩ := open_shas v5 hsh os cs us0 us1 k5
  exact ⟨⟨pf, kf, pd, kd, pr, kr, ps, ks⟩, ⟨nm, dp, nf, nd, nr, ns, F, D, R, S⟩, rfl, ⟨w0, w1, a2, b2, c2, d2, Nat.le_trans a3 a4, Nat.le_trans b3 b4, Nat.le_trans c3 c4, Nat.le_trans d3 d4⟩, ⟨a1, b1, c1, d1, a3, b3, c3, d3⟩⟩
end
end Go.Proofs.Ytdcjddiigipdmaa
