/- Arguments that come in: structs, and lists of structs, whose fields are one cell each: opened. -/
import Derived.Deep.Fields
import Derived.Deep.Slices
import Derived.ChangeSame
import Derived.ChangeArms
import Derived.WideShapes
import Derived.OpenShut
import Derived.WalkKit
namespace Go.Proofs.Ytdcjddiigipdmaa
open Go Go.RowKit Go.ChangeShapes Go.WideShapes Go.Deep
set_option linter.unusedVariables false
section
variable {H : Type} {enc : TypeId × Value → H} {P : Program} {w : World} {base : Nat} {spare : Nat → Bool} {held : Bool}

theorem take_one {α : Type} (cs : List α) (j : Nat) (h : j < cs.length) : (cs.drop j).take 1 = [cs[j]] := by
  rw [List.drop_eq_getElem_cons h, List.take_succ_cons, List.take_zero]

/-- The fields of a struct of one-cell fields, each read. -/
theorem trod_fields {t : TypeId} {fs : Array Field} {fuel : Nat} {cs : List Value} {x : DataW H × List MemPlace} (ht : P.underlying t = some (.struct fs)) (hone : oneCellFields P fs = true) (hC : P.cellsOf t = fs.size)
    (h : DataW.trod enc P w base spare held fuel t cs = some x) :
    cs.length = fs.size ∧ ∃ n, ∀ (j : Nat) (f : Field), fs[j]? = some f → ∃ v y, cs[j]? = some v ∧ DataW.trod enc P w base spare held n f.type [v] = some y := by
  obtain ⟨xs, n, _, rfl, hl, hlen, hf⟩ := DataW.trod_struct ht h
  refine ⟨hl.trans hC, n, fun j f hj => ?_⟩
  obtain ⟨ho, hk⟩ := hone_of hone j f hj
  have hjs : j < fs.size := (Array.getElem?_eq_some_iff.1 hj).1
  have hjl : j < cs.length := by omega
  have h1 := hf j f hj
  rw [ho, hk, take_one cs j hjl, List.getElem?_eq_getElem (by omega : j < xs.length)] at h1
  exact ⟨cs[j], _, List.getElem?_eq_getElem hjl, h1⟩

/-- A list of structs of one-cell fields. -/
theorem open_rows {t e : TypeId} {fs : Array Field} {fuel : Nat} {a : Option Addr} {len cap : Nat} {x : DataW H × List MemPlace} (ht : P.underlying t = some (.slice e)) (he : P.underlying e = some (.struct fs)) (hone : oneCellFields P fs = true) (hC : P.cellsOf e = fs.size)
    (h : DataW.trod enc P w base spare held fuel t [.slice a len cap] = some x) :
    (a = none ∧ len = 0 ∧ cap = 0) ∨ ∃ ad : Addr, a = some ad ∧ len ≤ cap ∧ cap ≤ maxLen ∧ ∀ i, i < len → ∃ n, ∀ (j : Nat) (f : Field), fs[j]? = some f → ∃ v y, w.cell? ((ad.add (i * fs.size)).add j) = some v ∧ DataW.trod enc P w base spare held n f.type [v] = some y := by
  rcases open_slice ht h with ⟨hcs, _⟩ | ⟨ad, l, c, m, n, D, Pl, hcs, hb, hl, hm, hmm, rfl, hx⟩
  · simp at hcs
    exact .inl hcs
  · simp at hcs
    obtain ⟨rfl, rfl, rfl⟩ := hcs
    have hlm : len ≤ m := by rw [hmm]; split <;> omega
    refine .inr ⟨ad, rfl, hl, hm, fun i hi => ?_⟩
    obtain ⟨cs', h1, h2⟩ := hx i (by omega)
    rw [hC] at h1
    obtain ⟨_, hlen, hcell⟩ := World.cells?_some h1
    obtain ⟨_, n', hf⟩ := trod_fields he hone hC h2
    refine ⟨n', fun j f hj => ?_⟩
    obtain ⟨v, y, hv, hy⟩ := hf j f hj
    have hjs : j < cs'.length := (List.getElem?_eq_some_iff.1 hv).1
    refine ⟨v, y, ?_, hy⟩
    have := hcell j (by rw [← hlen]; exact hjs)
    rw [← hv]
    simpa using this

/-- A struct of one-cell fields, by value. -/
theorem open_agg {r : Reach} {b0 : Nat} {t : TypeId} {fs : Array Field} {v : Value} {d : DataW H} {p : List MemPlace} (hs : P.underlying t = some (.struct fs)) (hone : oneCellFields P fs = true) (hC : P.cellsOf t = fs.size)
    (hv : Value.okWide P w r b0 t v) (h : DataW.Trod enc P w base spare held t v d p) :
    ∃ cs : Array Value, v = .agg cs ∧ cs.size = fs.size ∧ ∃ n, ∀ (j : Nat) (f : Field), fs[j]? = some f → ∃ u y, cs[j]? = some u ∧ DataW.trod enc P w base spare held n f.type [u] = some y := by
  obtain ⟨cs, rfl, hsz⟩ := okWide_struct hs hv
  obtain ⟨fuel, hf⟩ := h
  obtain ⟨hl, n, hx⟩ := trod_fields hs hone hC hf
  refine ⟨cs, rfl, hsz.trans hC, n, fun j f hj => ?_⟩
  obtain ⟨u, y, h1, h2⟩ := hx j f hj
  exact ⟨u, y, by simpa [Value.cells] using h1, h2⟩

theorem slice_of {t e : TypeId} {fuel : Nat} {v : Value} {x : DataW H × List MemPlace} (ht : P.underlying t = some (.slice e)) (h : DataW.trod enc P w base spare held fuel t [v] = some x) : ∃ a len cap, v = .slice a len cap := by
  rcases open_slice ht h with ⟨hcs, _⟩ | ⟨ad, l, c, m, n, D, Pl, hcs, _⟩
  · exact ⟨none, 0, 0, by simpa using hcs⟩
  · exact ⟨_, _, _, by simpa using hcs⟩
end
theorem array2 {α : Type} {cs : Array α} (h : cs.size = 2) : ∃ c0 c1, cs = #[c0, c1] := by
  obtain ⟨l⟩ := cs
  match l, h with
  | [c0, c1], _ => exact ⟨c0, c1, rfl⟩
theorem array3 {α : Type} {cs : Array α} (h : cs.size = 3) : ∃ c0 c1 c2, cs = #[c0, c1, c2] := by
  obtain ⟨l⟩ := cs
  match l, h with
  | [c0, c1, c2], _ => exact ⟨c0, c1, c2, rfl⟩

/-- A row of m cells, whatever they hold: V i at o + i. -/
def VRow (w : World) (b o m : Nat) (V : Nat → Value) : Prop := ∀ i, i < m → w.cell? ⟨b, o + i, none⟩ = some (V i)
theorem VRow.below {w w' : World} {b o m B : Nat} {V : Nat → Value} (h : VRow w b o m V) (hb : Below B w w') (hlt : b < B) : VRow w' b o m V := fun i hi => (hb.cell (p := ⟨b, o + i, none⟩) hlt).trans (h i hi)
theorem VRow.drew {w : World} {b o m : Nat} {V : Nat → Value} (h : VRow w b o m V) : VRow w.drew b o m V := h
/-- The cells of a list that came in, as a row. -/
theorem vrow_of {w : World} {ad : Addr} {k n : Nat} {V : Nat → Value} (hk : 0 < k) (h0 : 0 < n) (h : ∀ i, i < n → ∀ j, j < k → w.cell? ((ad.add (i * k)).add j) = some (V (i * k + j))) : ∃ b o, ad = ⟨b, o, none⟩ ∧ b < w.heap.size ∧ VRow w b o (n * k) V := by
  obtain ⟨b, off, spot⟩ := ad
  have hspot : spot = none := by
    have h0 := h 0 h0 0 hk
    simpa [Addr.add] using World.cell?_spot h0
  subst hspot
  have hcell : ∀ i, i < n * k → w.cell? ⟨b, off + i, none⟩ = some (V i) := by
    intro i hi
    have hd : i / k < n := Nat.div_lt_of_lt_mul (by rw [Nat.mul_comm]; exact hi)
    have := h (i / k) hd (i % k) (Nat.mod_lt _ hk)
    have e : i / k * k + i % k = i := by rw [Nat.mul_comm]; exact Nat.div_add_mod i k
    rw [e, add_add, e] at this
    rw [← this, add_plain]
  exact ⟨b, off, rfl, World.block_lt_of_cell? w _ (hcell 0 (Nat.mul_pos h0 hk)), hcell⟩
end Go.Proofs.Ytdcjddiigipdmaa
