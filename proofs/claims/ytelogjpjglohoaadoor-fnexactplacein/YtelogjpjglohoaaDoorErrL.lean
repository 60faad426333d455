/- The five errors at package level, as they are laid. -/
import Derived.Test.YtelogjpjglohoaaDoorErrIs
import Derived.ProofKit
import Derived.OpenShut
import Derived.LaidMore
import Derived.LaidSub
import Derived.Stop.LaidTwo
import Derived.Stop.Joined
namespace Go.Proofs.YtelogjpjglohoaaDoor
open Go.RowKit Go.ChangeShapes Go.WideShapes Go.ChangeAt
set_option linter.unusedVariables false

/-- A block that holds an error's text. -/
def ErrBlock (w : World) (a : Addr) : Prop := ∃ c t, w.heap[a.block]? = some (.cells c t (0, 0))
theorem ErrBlock.below {w w' : World} {a : Addr} (h : ErrBlock w a) (hb : Below w.heap.size w w') : ErrBlock w' a := by
  obtain ⟨c, t, h⟩ := h
  exact ⟨c, t, (hb.block _ (Array.getElem?_eq_some_iff.1 h).1).trans h⟩
/-- The variable of number g is the error at a. -/
def ErrVar (w : World) (g : Nat) (a : Addr) : Prop := w.cell? ⟨g, 0, none⟩ = some (.iface 58 (.pointer (some a)))
theorem ErrVar.below {w w' : World} {g : Nat} {a : Addr} (h : ErrVar w g a) (hb : Below w.heap.size w w') : ErrVar w' g a :=
  (hb.cell (p := ⟨g, 0, none⟩) (World.block_lt_of_cell? w _ h)).trans h

/-- errForm, errSum and errEnd: other pointers than errRange (a0) and errSize (a1), and than each other. -/
structure MoreAt (w : World) (a0 a1 a2 a3 a4 : Addr) : Prop where
  f : ErrVar w 2 a2
  u : ErrVar w 3 a3
  e : ErrVar w 4 a4
  n02 : a0 ≠ a2
  n12 : a1 ≠ a2
  n03 : a0 ≠ a3
  n13 : a1 ≠ a3
  n23 : a2 ≠ a3
  n04 : a0 ≠ a4
  n14 : a1 ≠ a4
  n24 : a2 ≠ a4
  n34 : a3 ≠ a4
  h2 : ErrBlock w a2
  h3 : ErrBlock w a3
  h4 : ErrBlock w a4
theorem MoreAt.below {w w' : World} {a0 a1 a2 a3 a4 : Addr} (h : MoreAt w a0 a1 a2 a3 a4) (hb : Below w.heap.size w w') : MoreAt w' a0 a1 a2 a3 a4 :=
  ⟨h.f.below hb, h.u.below hb, h.e.below hb, h.n02, h.n12, h.n03, h.n13, h.n23, h.n04, h.n14, h.n24, h.n34, h.h2.below hb, h.h3.below hb, h.h4.below hb⟩
/-- errRange is a pointer, errSize another one, and there are three more. -/
structure LaidAt (w : World) (a0 a1 : Addr) : Prop where
  r : w.cell? ⟨0, 0, none⟩ = some (.iface 58 (.pointer (some a0)))
  s : w.cell? ⟨1, 0, none⟩ = some (.iface 58 (.pointer (some a1)))
  ne : a0 ≠ a1
  hr : ∃ c t, w.heap[a0.block]? = some (.cells c t (0, 0))
  hs : ∃ c t, w.heap[a1.block]? = some (.cells c t (0, 0))
  more : ∃ a2 a3 a4, MoreAt w a0 a1 a2 a3 a4
def Laid (w : World) : Prop := ∃ a0 a1, LaidAt w a0 a1

theorem LaidAt.below {w w' : World} {a0 a1 : Addr} (h : LaidAt w a0 a1) (hb : Below w.heap.size w w') : LaidAt w' a0 a1 := by
  obtain ⟨r, s, ne, ⟨c0, t0, h0⟩, ⟨c1, t1, h1⟩, a2, a3, a4, m⟩ := h
  exact ⟨(hb.cell (p := ⟨0, 0, none⟩) (World.block_lt_of_cell? w _ r)).trans r, (hb.cell (p := ⟨1, 0, none⟩) (World.block_lt_of_cell? w _ s)).trans s, ne,
    ⟨c0, t0, (hb.block _ (Array.getElem?_eq_some_iff.1 h0).1).trans h0⟩, ⟨c1, t1, (hb.block _ (Array.getElem?_eq_some_iff.1 h1).1).trans h1⟩, a2, a3, a4, m.below hb⟩
theorem laid_below {w w' : World} (h : Laid w) (hb : Below w.heap.size w w') : Laid w' := by
  obtain ⟨a0, a1, h⟩ := h
  exact ⟨a0, a1, h.below hb⟩

def laidList : List (String × DataW Unit) := [("loop.example/g00654/impl.errRange", Rows.laid_loop_example_g00654_impl_errRange), ("loop.example/g00654/impl.errSize", Rows.laid_loop_example_g00654_impl_errSize), ("loop.example/g00654/impl.errForm", Rows.laid_loop_example_g00654_impl_errForm), ("loop.example/g00654/impl.errSum", Rows.laid_loop_example_g00654_impl_errSum), ("loop.example/g00654/impl.errEnd", Rows.laid_loop_example_g00654_impl_errEnd)]
theorem gR : Tryd.prog.globalNamed "loop.example/g00654/impl.errRange" = some 0 := by kernel_rfl
theorem tR : (Tryd.prog.globals[0]?).map (·.type) = some 35 := by kernel_rfl
theorem gS : Tryd.prog.globalNamed "loop.example/g00654/impl.errSize" = some 1 := by kernel_rfl
theorem tS : (Tryd.prog.globals[1]?).map (·.type) = some 35 := by kernel_rfl
theorem gF : Tryd.prog.globalNamed "loop.example/g00654/impl.errForm" = some 2 := by kernel_rfl
theorem tF : (Tryd.prog.globals[2]?).map (·.type) = some 35 := by kernel_rfl
theorem gU : Tryd.prog.globalNamed "loop.example/g00654/impl.errSum" = some 3 := by kernel_rfl
theorem tU : (Tryd.prog.globals[3]?).map (·.type) = some 35 := by kernel_rfl
theorem gE : Tryd.prog.globalNamed "loop.example/g00654/impl.errEnd" = some 4 := by kernel_rfl
theorem tE : (Tryd.prog.globals[4]?).map (·.type) = some 35 := by kernel_rfl
theorem cE : Tryd.prog.cellsOf 83 = 1 := by kernel_rfl
theorem cS : Tryd.prog.cellsOf 9 = 1 := by kernel_rfl
theorem starE : "*" ++ "errors.errorString" = "*errors.errorString" := by decide
theorem rowE (u : TypeId) (h : Tryd.prog.typeName? 3 u = some "*errors.errorString") : u = 58 :=
  typeName_ptr_named (nm := "errors.errorString") (by rw [starE]; kernel_rfl) (by kernel_rfl) (by decide) u (by rw [starE]; exact h)

theorem door_met (os : Os) (args : Array Value) : laidMetH Tryd.prog laidList ((World.doorLaid Tryd.prog 400 os).forCall (fun _ _ => 0) ⟨#[], args, []⟩).memory :=
  laidMetH_of_parts3 (fuel := 8) (laidMet_of_run' 8 (by kernel_rfl) (by kernel_rfl)) (by kernel_rfl) (by kernel_rfl)

/-- Two of the list: two pointers. -/
def TwoErrs (W : World) (g0 g1 : Nat) : Prop := ∃ a0 a1, ErrVar W g0 a0 ∧ ErrVar W g1 a1 ∧ a0 ≠ a1 ∧ ErrBlock W a0 ∧ ErrBlock W a1
theorem two_of {W : World} {n0 n1 : String} {text0 text1 : List UInt8} {r : List (String × DataW Unit)} {g0 g1 : Nat}
    (h : laidMet Tryd.prog ((n0, .iface "*errors.errorString" (.ptr (.agg [.lit (.string text0)]))) :: (n1, .iface "*errors.errorString" (.ptr (.agg [.lit (.string text1)]))) :: r) W)
    (hg0 : Tryd.prog.globalNamed n0 = some g0) (ht0 : (Tryd.prog.globals[g0]?).map (·.type) = some 35) (hg1 : Tryd.prog.globalNamed n1 = some g1) (ht1 : (Tryd.prog.globals[g1]?).map (·.type) = some 35) : TwoErrs W g0 g1 := by
  obtain ⟨a0, a1, s0, s1, c0, c1, t0, t1, hv0, hv1, hc0, hs0, hz0, hc1, hs1, hz1, hne, hb0, hb1⟩ := laid_sentinels2 h hg0 ht0 hg1 ht1 Tryd.underlying35 rowE Tryd.underlying58 Tryd.underlying83 rfl rfl Tryd.underlying9 cE cS
  exact ⟨a0, a1, by unfold ErrVar; simpa using World.var?_cell hg0 hv0 0, by unfold ErrVar; simpa using World.var?_cell hg1 hv1 0, hne, ⟨c0, t0, hb0⟩, ⟨c1, t1, hb1⟩⟩
theorem ErrVar.same {w : World} {g : Nat} {a b : Addr} (h : ErrVar w g a) (k : ErrVar w g b) : a = b := by
  have := h.symm.trans k
  simpa using this
theorem TwoErrs.ne {w : World} {g k : Nat} {a b : Addr} (h : TwoErrs w g k) (ha : ErrVar w g a) (hb : ErrVar w k b) : a ≠ b := by
  obtain ⟨x, y, hx, hy, hne, _⟩ := h
  rw [ha.same hx, hb.same hy]
  exact hne
theorem laid01 {W : World} (h : laidMet Tryd.prog laidList W) : TwoErrs W 0 1 := by
  have h1 := h.filter (fun x => x.1 == "loop.example/g00654/impl.errRange" || x.1 == "loop.example/g00654/impl.errSize")
  have e : laidList.filter (fun x => x.1 == "loop.example/g00654/impl.errRange" || x.1 == "loop.example/g00654/impl.errSize") = [("loop.example/g00654/impl.errRange", Rows.laid_loop_example_g00654_impl_errRange), ("loop.example/g00654/impl.errSize", Rows.laid_loop_example_g00654_impl_errSize)] := by simp [laidList]
  rw [e] at h1
  exact two_of h1 gR tR gS tS
theorem laid02 {W : World} (h : laidMet Tryd.prog laidList W) : TwoErrs W 0 2 := by
  have h1 := h.filter (fun x => x.1 == "loop.example/g00654/impl.errRange" || x.1 == "loop.example/g00654/impl.errForm")
  have e : laidList.filter (fun x => x.1 == "loop.example/g00654/impl.errRange" || x.1 == "loop.example/g00654/impl.errForm") = [("loop.example/g00654/impl.errRange", Rows.laid_loop_example_g00654_impl_errRange), ("loop.example/g00654/impl.errForm", Rows.laid_loop_example_g00654_impl_errForm)] := by simp [laidList]
  rw [e] at h1
  exact two_of h1 gR tR gF tF
theorem laid03 {W : World} (h : laidMet Tryd.prog laidList W) : TwoErrs W 0 3 := by
  have h1 := h.filter (fun x => x.1 == "loop.example/g00654/impl.errRange" || x.1 == "loop.example/g00654/impl.errSum")
  have e : laidList.filter (fun x => x.1 == "loop.example/g00654/impl.errRange" || x.1 == "loop.example/g00654/impl.errSum") = [("loop.example/g00654/impl.errRange", Rows.laid_loop_example_g00654_impl_errRange), ("loop.example/g00654/impl.errSum", Rows.laid_loop_example_g00654_impl_errSum)] := by simp [laidList]
  rw [e] at h1
  exact two_of h1 gR tR gU tU
theorem laid04 {W : World} (h : laidMet Tryd.prog laidList W) : TwoErrs W 0 4 := by
  have h1 := h.filter (fun x => x.1 == "loop.example/g00654/impl.errRange" || x.1 == "loop.example/g00654/impl.errEnd")
  have e : laidList.filter (fun x => x.1 == "loop.example/g00654/impl.errRange" || x.1 == "loop.example/g00654/impl.errEnd") = [("loop.example/g00654/impl.errRange", Rows.laid_loop_example_g00654_impl_errRange), ("loop.example/g00654/impl.errEnd", Rows.laid_loop_example_g00654_impl_errEnd)] := by simp [laidList]
  rw [e] at h1
  exact two_of h1 gR tR gE tE
theorem laid12 {W : World} (h : laidMet Tryd.prog laidList W) : TwoErrs W 1 2 := by
  have h1 := h.filter (fun x => x.1 == "loop.example/g00654/impl.errSize" || x.1 == "loop.example/g00654/impl.errForm")
  have e : laidList.filter (fun x => x.1 == "loop.example/g00654/impl.errSize" || x.1 == "loop.example/g00654/impl.errForm") = [("loop.example/g00654/impl.errSize", Rows.laid_loop_example_g00654_impl_errSize), ("loop.example/g00654/impl.errForm", Rows.laid_loop_example_g00654_impl_errForm)] := by simp [laidList]
  rw [e] at h1
  exact two_of h1 gS tS gF tF
theorem laid13 {W : World} (h : laidMet Tryd.prog laidList W) : TwoErrs W 1 3 := by
  have h1 := h.filter (fun x => x.1 == "loop.example/g00654/impl.errSize" || x.1 == "loop.example/g00654/impl.errSum")
  have e : laidList.filter (fun x => x.1 == "loop.example/g00654/impl.errSize" || x.1 == "loop.example/g00654/impl.errSum") = [("loop.example/g00654/impl.errSize", Rows.laid_loop_example_g00654_impl_errSize), ("loop.example/g00654/impl.errSum", Rows.laid_loop_example_g00654_impl_errSum)] := by simp [laidList]
  rw [e] at h1
  exact two_of h1 gS tS gU tU
theorem laid14 {W : World} (h : laidMet Tryd.prog laidList W) : TwoErrs W 1 4 := by
  have h1 := h.filter (fun x => x.1 == "loop.example/g00654/impl.errSize" || x.1 == "loop.example/g00654/impl.errEnd")
  have e : laidList.filter (fun x => x.1 == "loop.example/g00654/impl.errSize" || x.1 == "loop.example/g00654/impl.errEnd") = [("loop.example/g00654/impl.errSize", Rows.laid_loop_example_g00654_impl_errSize), ("loop.example/g00654/impl.errEnd", Rows.laid_loop_example_g00654_impl_errEnd)] := by simp [laidList]
  rw [e] at h1
  exact two_of h1 gS tS gE tE
theorem laid23 {W : World} (h : laidMet Tryd.prog laidList W) : TwoErrs W 2 3 := by
  have h1 := h.filter (fun x => x.1 == "loop.example/g00654/impl.errForm" || x.1 == "loop.example/g00654/impl.errSum")
  have e : laidList.filter (fun x => x.1 == "loop.example/g00654/impl.errForm" || x.1 == "loop.example/g00654/impl.errSum") = [("loop.example/g00654/impl.errForm", Rows.laid_loop_example_g00654_impl_errForm), ("loop.example/g00654/impl.errSum", Rows.laid_loop_example_g00654_impl_errSum)] := by simp [laidList]
  rw [e] at h1
  exact two_of h1 gF tF gU tU
theorem laid24 {W : World} (h : laidMet Tryd.prog laidList W) : TwoErrs W 2 4 := by
  have h1 := h.filter (fun x => x.1 == "loop.example/g00654/impl.errForm" || x.1 == "loop.example/g00654/impl.errEnd")
  have e : laidList.filter (fun x => x.1 == "loop.example/g00654/impl.errForm" || x.1 == "loop.example/g00654/impl.errEnd") = [("loop.example/g00654/impl.errForm", Rows.laid_loop_example_g00654_impl_errForm), ("loop.example/g00654/impl.errEnd", Rows.laid_loop_example_g00654_impl_errEnd)] := by simp [laidList]
  rw [e] at h1
  exact two_of h1 gF tF gE tE
theorem laid34 {W : World} (h : laidMet Tryd.prog laidList W) : TwoErrs W 3 4 := by
  have h1 := h.filter (fun x => x.1 == "loop.example/g00654/impl.errSum" || x.1 == "loop.example/g00654/impl.errEnd")
  have e : laidList.filter (fun x => x.1 == "loop.example/g00654/impl.errSum" || x.1 == "loop.example/g00654/impl.errEnd") = [("loop.example/g00654/impl.errSum", Rows.laid_loop_example_g00654_impl_errSum), ("loop.example/g00654/impl.errEnd", Rows.laid_loop_example_g00654_impl_errEnd)] := by simp [laidList]
  rw [e] at h1
  exact two_of h1 gU tU gE tE
theorem laid_of_met {W : World} (h : laidMet Tryd.prog laidList W) : Laid W := by
  obtain ⟨a0, a1, r, s, ne, hr, hs⟩ := laid01 h
  obtain ⟨a2, a3, f, u, n23, h2, h3⟩ := laid23 h
  obtain ⟨_, a4, _, e, _, _, h4⟩ := laid34 h
  exact ⟨a0, a1, r, s, ne, hr, hs, a2, a3, a4, f, u, e, (laid02 h).ne r f, (laid12 h).ne s f, (laid03 h).ne r u, (laid13 h).ne s u, n23, (laid04 h).ne r e, (laid14 h).ne s e, (laid24 h).ne f e, (laid34 h).ne u e, h2, h3, h4⟩
theorem of_laid {W : World} (h : laidMetH Tryd.prog laidList W) : Laid W := by
  rw [MakeChecks.laidMetH_plain _ _ _ (by kernel_rfl)] at h
  exact laid_of_met h

theorem vars_cons {H : Type} {enc : TypeId × Value → H} {P : Program} {w : World} {sp : Nat → Bool} {m : String} {r : List String} {gs : List (DataW H)} {ps : List MemPlace} (h : DataW.TrodVars enc P w sp (m :: r) gs ps) : ∃ g k q, gs = g :: k ∧ DataW.TrodVars enc P w sp r k q := by
  cases gs with
  | nil => simp [DataW.TrodVars] at h
  | cons d ds =>
    obtain ⟨_, _, _, _, _, _, _, _, _, _, hs, _⟩ := h
    exact ⟨d, ds, _, rfl, hs⟩
theorem vars_len5 {H : Type} {enc : TypeId × Value → H} {P : Program} {w : World} {sp : Nat → Bool} {m n o p q : String} {gs : List (DataW H)} {ps : List MemPlace} (h : DataW.TrodVars enc P w sp [m, n, o, p, q] gs ps) : ∃ g k l a b, gs = [g, k, l, a, b] := by
  obtain ⟨d0, r0, _, e0, h0⟩ := vars_cons h
  obtain ⟨d1, r1, _, e1, h1⟩ := vars_cons h0
  obtain ⟨d2, r2, _, e2, h2⟩ := vars_cons h1
  obtain ⟨_, _, _, _, d3, _, _, _, _, _, d4, _, e3, _⟩ := trodVars_two h2
  exact ⟨d0, d1, d2, d3, d4, by rw [e0, e1, e2, e3]⟩
end Go.Proofs.YtelogjpjglohoaaDoor
