/- Images that come in: opened. -/
import Derived.Test.YtdcjddiigipdmaaArgP
namespace Go.Proofs.Ytdcjddiigipdmaa
open Go Go.RowKit Go.ChangeShapes Go.WideShapes Go.Deep
set_option linter.unusedVariables false

/-- A symbol's fields. -/
structure SymD where
  nm : ByteArray
  kd : Int
  pl : Int
  sz : Int
  fr : Int
instance : Inhabited SymD := ⟨⟨ByteArray.empty, 0, 0, 0, 0⟩⟩
def SymD.wf (d : SymD) : Prop := d.nm.size ≤ maxLen ∧ (Lit.int .i64 d.kd).wf = true ∧ (Lit.int .i64 d.pl).wf = true ∧ (Lit.int .i64 d.sz).wf = true ∧ (Lit.int .i64 d.fr).wf = true
/-- Its cells. -/
def symV (S : Nat → SymD) (i : Nat) : Value :=
  if i % 5 = 0 then .string (S (i / 5)).nm else if i % 5 = 1 then .int .i64 (S (i / 5)).kd else if i % 5 = 2 then .int .i64 (S (i / 5)).pl else if i % 5 = 3 then .int .i64 (S (i / 5)).sz else .int .i64 (S (i / 5)).fr
theorem symV0 (S : Nat → SymD) (k : Nat) : symV S (k * 5) = .string (S k).nm := by unfold symV; rw [if_pos (by omega), show k * 5 / 5 = k from by omega]
theorem symV1 (S : Nat → SymD) (k : Nat) : symV S (k * 5 + 1) = .int .i64 (S k).kd := by unfold symV; rw [if_neg (by omega), if_pos (by omega), show (k * 5 + 1) / 5 = k from by omega]
theorem symV2 (S : Nat → SymD) (k : Nat) : symV S (k * 5 + 2) = .int .i64 (S k).pl := by unfold symV; rw [if_neg (by omega), if_neg (by omega), if_pos (by omega), show (k * 5 + 2) / 5 = k from by omega]
theorem symV3 (S : Nat → SymD) (k : Nat) : symV S (k * 5 + 3) = .int .i64 (S k).sz := by unfold symV; rw [if_neg (by omega), if_neg (by omega), if_neg (by omega), if_pos (by omega), show (k * 5 + 3) / 5 = k from by omega]
theorem symV4 (S : Nat → SymD) (k : Nat) : symV S (k * 5 + 4) = .int .i64 (S k).fr := by unfold symV; rw [if_neg (by omega), if_neg (by omega), if_neg (by omega), if_neg (by omega), show (k * 5 + 4) / 5 = k from by omega]
/-- The cells of symbol k. -/
theorem VRow.sym {w : World} {b o n : Nat} {S : Nat → SymD} (h : VRow w b o (n * 5) (symV S)) {k : Nat} (hk : k < n) :
    w.cell? ⟨b, o + k * 5, none⟩ = some (.string (S k).nm) ∧ w.cell? ⟨b, o + k * 5 + 1, none⟩ = some (.int .i64 (S k).kd) ∧ w.cell? ⟨b, o + k * 5 + 2, none⟩ = some (.int .i64 (S k).pl) ∧ w.cell? ⟨b, o + k * 5 + 3, none⟩ = some (.int .i64 (S k).sz) ∧ w.cell? ⟨b, o + k * 5 + 4, none⟩ = some (.int .i64 (S k).fr) := by
  have key : ∀ j, j < 5 → w.cell? ⟨b, o + k * 5 + j, none⟩ = some (symV S (k * 5 + j)) := fun j hj => by
    have := h (k * 5 + j) (by omega)
    rwa [← Nat.add_assoc] at this
  have k0 := key 0 (by omega)
  have k1 := key 1 (by omega)
  have k2 := key 2 (by omega)
  have k3 := key 3 (by omega)
  have k4 := key 4 (by omega)
  rw [Nat.add_zero, Nat.add_zero, symV0] at k0
  rw [symV1] at k1
  rw [symV2] at k2
  rw [symV3] at k3
  rw [symV4] at k4
  exact ⟨k0, k1, k2, k3, k4⟩
/-- A list of n symbols: where it is not empty its cells lie in a block. -/
def SymsAt (w : World) (p : Option Addr) (n : Nat) (S : Nat → SymD) : Prop := n = 0 ∨ ∃ b o, p = some ⟨b, o, none⟩ ∧ b < w.heap.size ∧ VRow w b o (n * 5) (symV S)
theorem SymsAt.below {w w' : World} {p : Option Addr} {n : Nat} {S : Nat → SymD} (h : SymsAt w p n S) (hb : Below w.heap.size w w') : SymsAt w' p n S := by
  rcases h with h | ⟨b, o, e, hlt, hf⟩
  · exact .inl h
  · exact .inr ⟨b, o, e, Nat.lt_of_lt_of_le hlt hb.size, hf.below hb hlt⟩

/-- What the walk is told of an image that came in. -/
def IsImage (w : World) (c s : ByteArray) (a : Option Addr) (len cap : Nat) (S : Nat → SymD) : Prop := c.size ≤ maxLen ∧ s.size ≤ maxLen ∧ SymsAt w a len S ∧ (∀ i, i < len → (S i).wf) ∧ len ≤ cap ∧ cap ≤ maxLen

section
variable {H : Type} {enc : TypeId × Value → H} {P : Program} {w : World} {base : Nat} {spare : Nat → Bool} {held : Bool}
/-- A list of symbols that came in. -/
theorem open_syms {t e : TypeId} {f0 f1 f2 f3 f4 : Field} {fuel : Nat} {a : Option Addr} {len cap : Nat} {x : DataW H × List MemPlace} (ht : P.underlying t = some (.slice e)) (he : P.underlying e = some (.struct #[f0, f1, f2, f3, f4])) (hone : oneCellFields P #[f0, f1, f2, f3, f4] = true) (hC : P.cellsOf e = 5)
    (u0 : P.underlying f0.type = some .string) (u1 : P.underlying f1.type = some (.int .i64)) (u2 : P.underlying f2.type = some (.int .i64)) (u3 : P.underlying f3.type = some (.int .i64)) (u4 : P.underlying f4.type = some (.int .i64))
    (h : DataW.trod enc P w base spare held fuel t [.slice a len cap] = some x) : ∃ S, SymsAt w a len S ∧ (∀ i, i < len → (S i).wf) ∧ len ≤ cap ∧ cap ≤ maxLen := by
  rcases open_rows ht he hone hC h with ⟨rfl, rfl, rfl⟩ | ⟨ad, rfl, hl, hm, hx⟩
  · exact ⟨fun _ => default, .inl rfl, fun i hi => absurd hi (Nat.not_lt_zero _), Nat.le_refl _, Nat.zero_le _⟩
  have each : ∀ i, i < len → ∃ d : SymD, d.wf ∧ ∀ j, j < 5 → w.cell? ((ad.add (i * 5)).add j) = some (symV (fun _ => d) j) := by
    intro i hi
    obtain ⟨n, hf⟩ := hx i hi
    obtain ⟨v0, y0, c0, g0⟩ := hf 0 f0 rfl
    obtain ⟨v1, y1, c1, g1⟩ := hf 1 f1 rfl
    obtain ⟨v2, y2, c2, g2⟩ := hf 2 f2 rfl
    obtain ⟨v3, y3, c3, g3⟩ := hf 3 f3 rfl
    obtain ⟨v4, y4, c4, g4⟩ := hf 4 f4 rfl
    obtain ⟨s, e0, _, w0⟩ := DataW.trod_string u0 g0
    obtain ⟨a1, e1, _, w1⟩ := DataW.trod_int u1 g1
    obtain ⟨a2, e2, _, w2⟩ := DataW.trod_int u2 g2
    obtain ⟨a3, e3, _, w3⟩ := DataW.trod_int u3 g3
    obtain ⟨a4, e4, _, w4⟩ := DataW.trod_int u4 g4
    simp only [List.cons.injEq, and_true] at e0 e1 e2 e3 e4
    subst e0 e1 e2 e3 e4
    refine ⟨⟨s, a1, a2, a3, a4⟩, ⟨w0, w1, w2, w3, w4⟩, fun j hj => ?_⟩
    have hj' : j = 0 ∨ j = 1 ∨ j = 2 ∨ j = 3 ∨ j = 4 := by omega
    rcases hj' with rfl | rfl | rfl | rfl | rfl
    · exact c0
    · exact c1
    · exact c2
    · exact c3
    · exact c4
  obtain ⟨S, hS⟩ := choose_lt each
  refine ⟨S, ?_, fun i hi => (hS i hi).1, hl, hm⟩
  by_cases h0 : len = 0
  · exact .inl h0
  · obtain ⟨b, o, rfl, hb, hv⟩ := vrow_of (w := w) (ad := ad) (k := 5) (n := len) (V := symV S) (by decide) (by omega) (fun i hi j hj => by
      rw [(hS i hi).2 j hj]
      have e1 : (i * 5 + j) / 5 = i := by omega
      have e2 : (i * 5 + j) % 5 = j := by omega
      have e3 : j % 5 = j := by omega
      unfold symV
      rw [e1, e2, e3])
    exact .inr ⟨b, o, rfl, hb, hv⟩
/-- An image. -/
theorem open_image {r : Reach} {b0 : Nat} {t e : TypeId} {g0 g1 g2 f0 f1 f2 f3 f4 : Field} {v : Value} {d : DataW H} {p : List MemPlace} (hs : P.underlying t = some (.struct #[g0, g1, g2])) (hone : oneCellFields P #[g0, g1, g2] = true) (hC : P.cellsOf t = 3)
    (v0 : P.underlying g0.type = some .string) (v1 : P.underlying g1.type = some .string) (v2 : P.underlying g2.type = some (.slice e)) (he : P.underlying e = some (.struct #[f0, f1, f2, f3, f4])) (hone5 : oneCellFields P #[f0, f1, f2, f3, f4] = true) (hC5 : P.cellsOf e = 5)
    (u0 : P.underlying f0.type = some .string) (u1 : P.underlying f1.type = some (.int .i64)) (u2 : P.underlying f2.type = some (.int .i64)) (u3 : P.underlying f3.type = some (.int .i64)) (u4 : P.underlying f4.type = some (.int .i64))
    (hv : Value.okWide P w r b0 t v) (h : DataW.Trod enc P w base spare held t v d p) :
    ∃ (c s : ByteArray) (a : Option Addr) (len cap : Nat) (S : Nat → SymD), v = .agg #[.string c, .string s, .slice a len cap] ∧ IsImage w c s a len cap S := by
  obtain ⟨cs, rfl, hsz, n, hf⟩ := open_agg hs hone hC hv h
  obtain ⟨c0, c1, c2, rfl⟩ := array3 hsz
  obtain ⟨x0, y0, e0, g0'⟩ := hf 0 g0 rfl
  obtain ⟨x1, y1, e1, g1'⟩ := hf 1 g1 rfl
  obtain ⟨x2, y2, e2, g2'⟩ := hf 2 g2 rfl
  simp at e0 e1 e2
  subst e0 e1 e2
  obtain ⟨c, k0, _, w0⟩ := DataW.trod_string v0 g0'
  obtain ⟨s, k1, _, w1⟩ := DataW.trod_string v1 g1'
  obtain ⟨a, len, cap, rfl⟩ := slice_of v2 g2'
  simp only [List.cons.injEq, and_true] at k0 k1
  subst k0 k1
  obtain ⟨S, h1, h2, h3, h4⟩ := open_syms v2 he hone5 hC5 u0 u1 u2 u3 u4 g2'
  exact ⟨c, s, a, len, cap, S, rfl, w0, w1, h1, h2, h3, h4⟩
end
end Go.Proofs.Ytdcjddiigipdmaa
