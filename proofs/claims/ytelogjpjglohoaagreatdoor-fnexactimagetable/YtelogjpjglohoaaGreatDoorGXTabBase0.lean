/- Arguments that come in: structs, and lists of structs, whose fields are one cell each: opened. Images that come in: opened. Plain lemmas on texts as lists of bytes: no program. What an image's symbols may be, plain. A block that is known whole: what is loaded out of a part of it, and stored into a part of it. Lists of structs of one-cell fields: as they lie, as they are the call's own; of the old blocks only one has changed. Lists of instructions in memory: what they hold; held against each other, marked, held against their marks. Symbols and images of the laws: copied, measured, held against each other. Contracts of the functions that tell a name's letters and digits, over the translation of this seat. -/
import Derived.Deep.Fields
import Derived.Deep.Slices
import Derived.ChangeSame
import Derived.ChangeArms
import Derived.WideShapes
import Derived.OpenShut
import Derived.WalkKit
import Derived.Test.YtelogjpjglohoaaGreatDoorRows
import Derived.WalkSpells
import Derived.ProofKit
import Derived.Below
import Derived.Laws.Rows
import Derived.Laws.CopyRow
import Derived.Laws.CopyOwn
import Derived.Deep.MidRow
import Derived.LoopTactic
import Derived.Deep.RegionHeld3
import Derived.Deep.RegionWith
import Derived.WalkLawsBesides
namespace Go.Proofs.YtelogjpjglohoaaGreatDoor
open Go Go.RowKit Go.ChangeShapes Go.WideShapes Go.Deep
set_option linter.unusedVariables false
section
variable {H : Type} {enc : TypeId × Value → H} {P : Program} {w : World} {base : Nat} {spare : Nat → Bool} {held : Bool}

theorem take_one {α : Type} (cs : List α) (j : Nat) (h : j < cs.length) : (cs.drop j).take 1 = [cs[j]] := by
  rw [List.drop_eq_getElem_cons h, List.take_succ_cons, List.take_zero]

/-- The fields of a struct of one-cell fields, each read. -/
theorem trod_fields {t : TypeId} {fs : Array Field} {fuel : Nat} {cs : List Value} {x : DataW H × List MemPlace} (ht : P.underlying t = some (.struct fs)) (hone : oneCellFields P fs = true) (hC : P.cellsOf t = fs.size)
    (h : DataW.trod enc P w base spare held fuel t cs = some x) :
    cs.length = fs.size ∧ ∃ n, ∀ (j : Nat) (f : Field), fs[j]? = some f → ∃ v y, cs[j]? = some v ∧ DataW.trod enc P w base spare held n f.type [v] = some y := by
  obtain ⟨xs, n, _, rfl, hl, hlen, hf⟩ := DataW.trod_struct ht h
  refine ⟨hl.trans hC, n, fun j f hj => ?_⟩
  obtain ⟨ho, hk⟩ := hone_of hone j f hj
  have hjs : j < fs.size := (Array.getElem?_eq_some_iff.1 hj).1
  have hjl : j < cs.length := by omega
  have h1 := hf j f hj
  rw [ho, hk, take_one cs j hjl, List.getElem?_eq_getElem (by omega : j < xs.length)] at h1
  exact ⟨cs[j], _, List.getElem?_eq_getElem hjl, h1⟩

/-- A list of structs of one-cell fields. -/
theorem open_rows {t e : TypeId} {fs : Array Field} {fuel : Nat} {a : Option Addr} {len cap : Nat} {x : DataW H × List MemPlace} (ht : P.underlying t = some (.slice e)) (he : P.underlying e = some (.struct fs)) (hone : oneCellFields P fs = true) (hC : P.cellsOf e = fs.size)
    (h : DataW.trod enc P w base spare held fuel t [.slice a len cap] = some x) :
    (a = none ∧ len = 0 ∧ cap = 0) ∨ ∃ ad : Addr, a = some ad ∧ len ≤ cap ∧ cap ≤ maxLen ∧ ∀ i, i < len → ∃ n, ∀ (j : Nat) (f : Field), fs[j]? = some f → ∃ v y, w.cell? ((ad.add (i * fs.size)).add j) = some v ∧ DataW.trod enc P w base spare held n f.type [v] = some y := by
  rcases open_slice ht h with ⟨hcs, _⟩ | ⟨ad, l, c, m, n, D, Pl, hcs, hb, hl, hm, hmm, rfl, hx⟩
  · simp at hcs
    exact .inl hcs
  · simp at hcs
    obtain ⟨rfl, rfl, rfl⟩ := hcs
    have hlm : len ≤ m := by rw [hmm]; split <;> omega
    refine .inr ⟨ad, rfl, hl, hm, fun i hi => ?_⟩
    obtain ⟨cs', h1, h2⟩ := hx i (by omega)
    rw [hC] at h1
    obtain ⟨_, hlen, hcell⟩ := World.cells?_some h1
    obtain ⟨_, n', hf⟩ := trod_fields he hone hC h2
    refine ⟨n', fun j f hj => ?_⟩
    obtain ⟨v, y, hv, hy⟩ := hf j f hj
    have hjs : j < cs'.length := (List.getElem?_eq_some_iff.1 hv).1
    refine ⟨v, y, ?_, hy⟩
    have := hcell j (by rw [← hlen]; exact hjs)
    rw [← hv]
    simpa using this

/-- A struct of one-cell fields, by value. -/
theorem open_agg {r : Reach} {b0 : Nat} {t : TypeId} {fs : Array Field} {v : Value} {d : DataW H} {p : List MemPlace} (hs : P.underlying t = some (.struct fs)) (hone : oneCellFields P fs = true) (hC : P.cellsOf t = fs.size)
    (hv : Value.okWide P w r b0 t v) (h : DataW.Trod enc P w base spare held t v d p) :
    ∃ cs : Array Value, v = .agg cs ∧ cs.size = fs.size ∧ ∃ n, ∀ (j : Nat) (f : Field), fs[j]? = some f → ∃ u y, cs[j]? = some u ∧ DataW.trod enc P w base spare held n f.type [u] = some y := by
  obtain ⟨cs, rfl, hsz⟩ := okWide_struct hs hv
  obtain ⟨fuel, hf⟩ := h
  obtain ⟨hl, n, hx⟩ := trod_fields hs hone hC hf
  refine ⟨cs, rfl, hsz.trans hC, n, fun j f hj => ?_⟩
  obtain ⟨u, y, h1, h2⟩ := hx j f hj
  exact ⟨u, y, by simpa [Value.cells] using h1, h2⟩

theorem slice_of {t e : TypeId} {fuel : Nat} {v : Value} {x : DataW H × List MemPlace} (ht : P.underlying t = some (.slice e)) (h : DataW.trod enc P w base spare held fuel t [v] = some x) : ∃ a len cap, v = .slice a len cap := by
  rcases open_slice ht h with ⟨hcs, _⟩ | ⟨ad, l, c, m, n, D, Pl, hcs, _⟩
  · exact ⟨none, 0, 0, by simpa using hcs⟩
  · exact ⟨_, _, _, by simpa using hcs⟩
end
theorem array2 {α : Type} {cs : Array α} (h : cs.size = 2) : ∃ c0 c1, cs = #[c0, c1] := by
  obtain ⟨l⟩ := cs
  match l, h with
  | [c0, c1], _ => exact ⟨c0, c1, rfl⟩
theorem array3 {α : Type} {cs : Array α} (h : cs.size = 3) : ∃ c0 c1 c2, cs = #[c0, c1, c2] := by
  obtain ⟨l⟩ := cs
  match l, h with
  | [c0, c1, c2], _ => exact ⟨c0, c1, c2, rfl⟩

/-- A row of m cells, whatever they hold: V i at o + i. -/
def VRow (w : World) (b o m : Nat) (V : Nat → Value) : Prop := ∀ i, i < m → w.cell? ⟨b, o + i, none⟩ = some (V i)
theorem VRow.below {w w' : World} {b o m B : Nat} {V : Nat → Value} (h : VRow w b o m V) (hb : Below B w w') (hlt : b < B) : VRow w' b o m V := fun i hi => (hb.cell (p := ⟨b, o + i, none⟩) hlt).trans (h i hi)
theorem VRow.drew {w : World} {b o m : Nat} {V : Nat → Value} (h : VRow w b o m V) : VRow w.drew b o m V := h
/-- The cells of a list that came in, as a row. -/
theorem vrow_of {w : World} {ad : Addr} {k n : Nat} {V : Nat → Value} (hk : 0 < k) (h0 : 0 < n) (h : ∀ i, i < n → ∀ j, j < k → w.cell? ((ad.add (i * k)).add j) = some (V (i * k + j))) : ∃ b o, ad = ⟨b, o, none⟩ ∧ b < w.heap.size ∧ VRow w b o (n * k) V := by
  obtain ⟨b, off, spot⟩ := ad
  have hspot : spot = none := by
    have h0 := h 0 h0 0 hk
    simpa [Addr.add] using World.cell?_spot h0
  subst hspot
  have hcell : ∀ i, i < n * k → w.cell? ⟨b, off + i, none⟩ = some (V i) := by
    intro i hi
    have hd : i / k < n := Nat.div_lt_of_lt_mul (by rw [Nat.mul_comm]; exact hi)
    have := h (i / k) hd (i % k) (Nat.mod_lt _ hk)
    have e : i / k * k + i % k = i := by rw [Nat.mul_comm]; exact Nat.div_add_mod i k
    rw [e, add_add, e] at this
    rw [← this, add_plain]
  exact ⟨b, off, rfl, World.block_lt_of_cell? w _ (hcell 0 (Nat.mul_pos h0 hk)), hcell⟩
end Go.Proofs.YtelogjpjglohoaaGreatDoor

namespace Go.Proofs.YtelogjpjglohoaaGreatDoor
open Go Go.RowKit Go.ChangeShapes Go.WideShapes Go.Deep
set_option linter.unusedVariables false

/-- A symbol's fields. -/
structure SymD where
  nm : ByteArray
  kd : Int
  pl : Int
  sz : Int
  fr : Int
instance : Inhabited SymD := ⟨⟨ByteArray.empty, 0, 0, 0, 0⟩⟩
def SymD.wf (d : SymD) : Prop := d.nm.size ≤ maxLen ∧ (Lit.int .i64 d.kd).wf = true ∧ (Lit.int .i64 d.pl).wf = true ∧ (Lit.int .i64 d.sz).wf = true ∧ (Lit.int .i64 d.fr).wf = true
/-- Its cells. -/
def symV (S : Nat → SymD) (i : Nat) : Value :=
  if i % 5 = 0 then .string (S (i / 5)).nm else if i % 5 = 1 then .int .i64 (S (i / 5)).kd else if i % 5 = 2 then .int .i64 (S (i / 5)).pl else if i % 5 = 3 then .int .i64 (S (i / 5)).sz else .int .i64 (S (i / 5)).fr
theorem symV0 (S : Nat → SymD) (k : Nat) : symV S (k * 5) = .string (S k).nm := by unfold symV; rw [if_pos (by omega), show k * 5 / 5 = k from by omega]
theorem symV1 (S : Nat → SymD) (k : Nat) : symV S (k * 5 + 1) = .int .i64 (S k).kd := by unfold symV; rw [if_neg (by omega), if_pos (by omega), show (k * 5 + 1) / 5 = k from by omega]
theorem symV2 (S : Nat → SymD) (k : Nat) : symV S (k * 5 + 2) = .int .i64 (S k).pl := by unfold symV; rw [if_neg (by omega), if_neg (by omega), if_pos (by omega), show (k * 5 + 2) / 5 = k from by omega]
theorem symV3 (S : Nat → SymD) (k : Nat) : symV S (k * 5 + 3) = .int .i64 (S k).sz := by unfold symV; rw [if_neg (by omega), if_neg (by omega), if_neg (by omega), if_pos (by omega), show (k * 5 + 3) / 5 = k from by omega]
theorem symV4 (S : Nat → SymD) (k : Nat) : symV S (k * 5 + 4) = .int .i64 (S k).fr := by unfold symV; rw [if_neg (by omega), if_neg (by omega), if_neg (by omega), if_neg (by omega), show (k * 5 + 4) / 5 = k from by omega]
/-- The cells of symbol k. -/
theorem VRow.sym {w : World} {b o n : Nat} {S : Nat → SymD} (h : VRow w b o (n * 5) (symV S)) {k : Nat} (hk : k < n) :
    w.cell? ⟨b, o + k * 5, none⟩ = some (.string (S k).nm) ∧ w.cell? ⟨b, o + k * 5 + 1, none⟩ = some (.int .i64 (S k).kd) ∧ w.cell? ⟨b, o + k * 5 + 2, none⟩ = some (.int .i64 (S k).pl) ∧ w.cell? ⟨b, o + k * 5 + 3, none⟩ = some (.int .i64 (S k).sz) ∧ w.cell? ⟨b, o + k * 5 + 4, none⟩ = some (.int .i64 (S k).fr) := by
  have key : ∀ j, j < 5 → w.cell? ⟨b, o + k * 5 + j, none⟩ = some (symV S (k * 5 + j)) := fun j hj => by
    have := h (k * 5 + j) (by omega)
    rwa [← Nat.add_assoc] at this
  have k0 := key 0 (by omega)
  have k1 := key 1 (by omega)
  have k2 := key 2 (by omega)
  have k3 := key 3 (by omega)
  have k4 := key 4 (by omega)
  rw [Nat.add_zero, Nat.add_zero, symV0] at k0
  rw [symV1] at k1
  rw [symV2] at k2
  rw [symV3] at k3
  rw [symV4] at k4
  exact ⟨k0, k1, k2, k3, k4⟩
/-- A list of n symbols: where it is not empty its cells lie in a block. -/
def SymsAt (w : World) (p : Option Addr) (n : Nat) (S : Nat → SymD) : Prop := n = 0 ∨ ∃ b o, p = some ⟨b, o, none⟩ ∧ b < w.heap.size ∧ VRow w b o (n * 5) (symV S)
theorem SymsAt.below {w w' : World} {p : Option Addr} {n : Nat} {S : Nat → SymD} (h : SymsAt w p n S) (hb : Below w.heap.size w w') : SymsAt w' p n S := by
  rcases h with h | ⟨b, o, e, hlt, hf⟩
  · exact .inl h
  · exact .inr ⟨b, o, e, Nat.lt_of_lt_of_le hlt hb.size, hf.below hb hlt⟩

/-- What the walk is told of an image that came in. -/
def IsImage (w : World) (c s : ByteArray) (a : Option Addr) (len cap : Nat) (S : Nat → SymD) : Prop := c.size ≤ maxLen ∧ s.size ≤ maxLen ∧ SymsAt w a len S ∧ (∀ i, i < len → (S i).wf) ∧ len ≤ cap ∧ cap ≤ maxLen

section
variable {H : Type} {enc : TypeId × Value → H} {P : Program} {w : World} {base : Nat} {spare : Nat → Bool} {held : Bool}
/-- A list of symbols that came in. -/
theorem open_syms {t e : TypeId} {f0 f1 f2 f3 f4 : Field} {fuel : Nat} {a : Option Addr} {len cap : Nat} {x : DataW H × List MemPlace} (ht : P.underlying t = some (.slice e)) (he : P.underlying e = some (.struct #[f0, f1, f2, f3, f4])) (hone : oneCellFields P #[f0, f1, f2, f3, f4] = true) (hC : P.cellsOf e = 5)
    (u0 : P.underlying f0.type = some .string) (u1 : P.underlying f1.type = some (.int .i64)) (u2 : P.underlying f2.type = some (.int .i64)) (u3 : P.underlying f3.type = some (.int .i64)) (u4 : P.underlying f4.type = some (.int .i64))
    (h : DataW.trod enc P w base spare held fuel t [.slice a len cap] = some x) : ∃ S, SymsAt w a len S ∧ (∀ i, i < len → (S i).wf) ∧ len ≤ cap ∧ cap ≤ maxLen := by
  rcases open_rows ht he hone hC h with ⟨rfl, rfl, rfl⟩ | ⟨ad, rfl, hl, hm, hx⟩
  · exact ⟨fun _ => default, .inl rfl, fun i hi => absurd hi (Nat.not_lt_zero _), Nat.le_refl _, Nat.zero_le _⟩
  have each : ∀ i, i < len → ∃ d : SymD, d.wf ∧ ∀ j, j < 5 → w.cell? ((ad.add (i * 5)).add j) = some (symV (fun _ => d) j) := by
    intro i hi
    obtain ⟨n, hf⟩ := hx i hi
    obtain ⟨v0, y0, c0, g0⟩ := hf 0 f0 rfl
    obtain ⟨v1, y1, c1, g1⟩ := hf 1 f1 rfl
    obtain ⟨v2, y2, c2, g2⟩ := hf 2 f2 rfl
    obtain ⟨v3, y3, c3, g3⟩ := hf 3 f3 rfl
    obtain ⟨v4, y4, c4, g4⟩ := hf 4 f4 rfl
    obtain ⟨s, e0, _, w0⟩ := DataW.trod_string u0 g0
    obtain ⟨a1, e1, _, w1⟩ := DataW.trod_int u1 g1
    obtain ⟨a2, e2, _, w2⟩ := DataW.trod_int u2 g2
    obtain ⟨a3, e3, _, w3⟩ := DataW.trod_int u3 g3
    obtain ⟨a4, e4, _, w4⟩ := DataW.trod_int u4 g4
    simp only [List.cons.injEq, and_true] at e0 e1 e2 e3 e4
    subst e0 e1 e2 e3 e4
    refine ⟨⟨s, a1, a2, a3, a4⟩, ⟨w0, w1, w2, w3, w4⟩, fun j hj => ?_⟩
    have hj' : j = 0 ∨ j = 1 ∨ j = 2 ∨ j = 3 ∨ j = 4 := by omega
    rcases hj' with rfl | rfl | rfl | rfl | rfl
    · exact c0
    · exact c1
    · exact c2
    · exact c3
    · exact c4
  obtain ⟨S, hS⟩ := choose_lt each
  refine ⟨S, ?_, fun i hi => (hS i hi).1, hl, hm⟩
  by_cases h0 : len = 0
  · exact .inl h0
  · obtain ⟨b, o, rfl, hb, hv⟩ := vrow_of (w := w) (ad := ad) (k := 5) (n := len) (V := symV S) (by decide) (by omega) (fun i hi j hj => by
      rw [(hS i hi).2 j hj]
      have e1 : (i * 5 + j) / 5 = i := by omega
      have e2 : (i * 5 + j) % 5 = j := by omega
      have e3 : j % 5 = j := by omega
      unfold symV
      rw [e1, e2, e3])
    exact .inr ⟨b, o, rfl, hb, hv⟩
/-- An image. -/
theorem open_image {r : Reach} {b0 : Nat} {t e : TypeId} {g0 g1 g2 f0 f1 f2 f3 f4 : Field} {v : Value} {d : DataW H} {p : List MemPlace} (hs : P.underlying t = some (.struct #[g0, g1, g2])) (hone : oneCellFields P #[g0, g1, g2] = true) (hC : P.cellsOf t = 3)
    (v0 : P.underlying g0.type = some .string) (v1 : P.underlying g1.type = some .string) (v2 : P.underlying g2.type = some (.slice e)) (he : P.underlying e = some (.struct #[f0, f1, f2, f3, f4])) (hone5 : oneCellFields P #[f0, f1, f2, f3, f4] = true) (hC5 : P.cellsOf e = 5)
    (u0 : P.underlying f0.type = some .string) (u1 : P.underlying f1.type = some (.int .i64)) (u2 : P.underlying f2.type = some (.int .i64)) (u3 : P.underlying f3.type = some (.int .i64)) (u4 : P.underlying f4.type = some (.int .i64))
    (hv : Value.okWide P w r b0 t v) (h : DataW.Trod enc P w base spare held t v d p) :
    ∃ (c s : ByteArray) (a : Option Addr) (len cap : Nat) (S : Nat → SymD), v = .agg #[.string c, .string s, .slice a len cap] ∧ IsImage w c s a len cap S := by
  obtain ⟨cs, rfl, hsz, n, hf⟩ := open_agg hs hone hC hv h
  obtain ⟨c0, c1, c2, rfl⟩ := array3 hsz
  obtain ⟨x0, y0, e0, g0'⟩ := hf 0 g0 rfl
  obtain ⟨x1, y1, e1, g1'⟩ := hf 1 g1 rfl
  obtain ⟨x2, y2, e2, g2'⟩ := hf 2 g2 rfl
  simp at e0 e1 e2
  subst e0 e1 e2
  obtain ⟨c, k0, _, w0⟩ := DataW.trod_string v0 g0'
  obtain ⟨s, k1, _, w1⟩ := DataW.trod_string v1 g1'
  obtain ⟨a, len, cap, rfl⟩ := slice_of v2 g2'
  simp only [List.cons.injEq, and_true] at k0 k1
  subst k0 k1
  obtain ⟨S, h1, h2, h3, h4⟩ := open_syms v2 he hone5 hC5 u0 u1 u2 u3 u4 g2'
  exact ⟨c, s, a, len, cap, S, rfl, w0, w1, h1, h2, h3, h4⟩
end
end Go.Proofs.YtelogjpjglohoaaGreatDoor

namespace Go.Proofs.YtelogjpjglohoaaGreatDoor

def letterB (c : Int) : Bool := decide (97 ≤ c ∧ c ≤ 122 ∨ 65 ≤ c ∧ c ≤ 90 ∨ c = 95)
def digitB (c : Int) : Bool := decide (48 ≤ c ∧ c ≤ 57)
def signB (c : Int) : Bool := letterB c || digitB c

/-- What both NameOK come to, of a text. -/
def nameB (s : ByteArray) : Bool :=
  decide (1 ≤ s.size) && decide (s.size ≤ 20) && letterB (s.data.toList.headD 0).toNat && s.data.toList.all (fun c => signB c.toNat)

theorem letter_not_digit (c : Int) (h : letterB c = true) : digitB c = false := by
  simp [letterB, digitB] at *; omega

theorem len_toList (s : ByteArray) : s.data.toList.length = s.size := by
  rw [Array.length_toList]; rfl

theorem get_toList (s : ByteArray) (j : Nat) (h : j < s.size) : s[j] = s.data.toList[j]'(by rw [len_toList]; exact h) := rfl

theorem headD_get (l : List UInt8) (h : 0 < l.length) : l.headD 0 = l[0] := by
  cases l with
  | nil => simp at h
  | cons a r => rfl

theorem head_eq (s : ByteArray) (h : 0 < s.size) : s.data.toList.headD 0 = s[0] := by
  rw [get_toList s 0 h]; exact headD_get _ (by rw [len_toList]; exact h)

theorem all_get (s : ByteArray) (p : UInt8 → Bool) : s.data.toList.all p = true ↔ ∀ j (h : j < s.size), p s[j] = true := by
  rw [List.all_eq_true]
  constructor
  · intro h j hj
    rw [get_toList s j hj]
    exact h _ (List.getElem_mem _)
  · intro h x hx
    obtain ⟨j, hj, rfl⟩ := List.getElem_of_mem hx
    exact h j (by rw [← len_toList]; exact hj)

theorem nameB_short (s : ByteArray) (h : s.size < 1) : nameB s = false := by
  have : ¬ 1 ≤ s.size := by omega
  simp [nameB, this]
theorem nameB_long (s : ByteArray) (h : 20 < s.size) : nameB s = false := by
  have : ¬ s.size ≤ 20 := by omega
  simp [nameB, this]
theorem nameB_head (s : ByteArray) (h : 0 < s.size) (hd : letterB s[0].toNat = false) : nameB s = false := by
  unfold nameB
  rw [head_eq s h, hd]
  simp
theorem nameB_at (s : ByteArray) (k : Nat) (h : k < s.size) (hd : signB s[k].toNat = false) : nameB s = false := by
  have : s.data.toList.all (fun c => signB c.toNat) = false := by
    rw [Bool.eq_false_iff]; intro ha
    have := (all_get s _).1 ha k h
    simp [hd] at this
  unfold nameB
  rw [this, Bool.and_false]
theorem nameB_yes (s : ByteArray) (h1 : 1 ≤ s.size) (h2 : s.size ≤ 20) (hd : letterB s[0].toNat = true) (ha : ∀ j (h : j < s.size), signB s[j].toNat = true) : nameB s = true := by
  have : s.data.toList.all (fun c => signB c.toNat) = true := (all_get s _).2 ha
  unfold nameB
  rw [this, head_eq s h1, hd]
  simp [h1, h2]

/-- The sum of a text's bytes. -/
def sumL (l : List UInt8) : Int := l.foldl (fun n c => (31 * n + (c.toNat : Int)) % 65521) 1
theorem sumL_snoc (l : List UInt8) (c : UInt8) : sumL (l ++ [c]) = (31 * sumL l + (c.toNat : Int)) % 65521 := by
  unfold sumL; rw [List.foldl_append]; rfl
theorem sumL_bd (l : List UInt8) : 0 ≤ sumL l ∧ sumL l < 65521 := by
  rcases List.eq_nil_or_concat l with rfl | ⟨l', c, rfl⟩
  · decide
  · rw [List.concat_eq_append, sumL_snoc]; omega
theorem take_snoc (s : ByteArray) (k : Nat) (h : k < s.size) : s.data.toList.take (k + 1) = s.data.toList.take k ++ [s[k]] := by
  rw [List.take_succ_eq_append_getElem (by rw [len_toList]; exact h)]; rfl
theorem take_all (s : ByteArray) : s.data.toList.take s.size = s.data.toList := by
  rw [← len_toList]; exact List.take_length
end Go.Proofs.YtelogjpjglohoaaGreatDoor

namespace Go.Proofs.YtelogjpjglohoaaGreatDoor
open Go Go.RowKit

/-- Where code ended ahead of symbol i; where data ended. -/
def cdU (S : Nat → SymD) : Nat → Int
  | 0 => 0
  | i + 1 => if (S i).kd = 1 then cdU S i + (S i).sz else cdU S i
def dtU (S : Nat → SymD) : Nat → Int
  | 0 => 0
  | i + 1 => if (S i).kd = 2 then (S i).pl + (S i).sz else dtU S i
/-- An earlier symbol has the name of symbol i. -/
def clashB (S : Nat → SymD) (i : Nat) : Bool := (List.range i).any fun k => (S k).nm.toList == (S i).nm.toList
theorem clashB_iff {S : Nat → SymD} {i : Nat} : clashB S i = true ↔ ∃ k, k < i ∧ ((S k).nm.toList == (S i).nm.toList) = true := by
  unfold clashB
  rw [List.any_eq_true]
  constructor
  · rintro ⟨k, h1, h2⟩; exact ⟨k, List.mem_range.1 h1, h2⟩
  · rintro ⟨k, h1, h2⟩; exact ⟨k, List.mem_range.2 h1, h2⟩
theorem clashB_no {S : Nat → SymD} {i : Nat} (h : ∀ k, k < i → ((S k).nm.toList == (S i).nm.toList) = false) : clashB S i = false := by
  cases e : clashB S i with
  | false => rfl
  | true =>
    obtain ⟨k, h1, h2⟩ := clashB_iff.1 e
    rw [h k h1] at h2
    cases h2
/-- The fault of symbol i, of code of C bytes and data of D bytes. -/
def fltI (C D : Int) (S : Nat → SymD) (i : Nat) : Int :=
  if nameB (S i).nm = false then 3
  else if clashB S i = true then 24
  else if (S i).kd = 1 then (if (S i).pl = cdU S i ∧ 1 ≤ (S i).sz ∧ (S i).sz ≤ C - cdU S i then 0 else 4)
  else if (S i).kd = 2 then (if dtU S i ≤ (S i).pl ∧ (S i).pl ≤ D ∧ 1 ≤ (S i).sz ∧ (S i).sz ≤ D - (S i).pl ∧ (S i).pl % 8 = 0 ∧ (S i).sz % 8 = 0 then (if (S i).fr = 0 then 0 else 17) else 4)
  else 26
/-- A symbol that is right. -/
theorem flt_ok {C D : Int} {S : Nat → SymD} {i : Nat} (h : fltI C D S i = 0) :
    nameB (S i).nm = true ∧ clashB S i = false ∧ (((S i).kd = 1 ∧ (S i).pl = cdU S i ∧ 1 ≤ (S i).sz ∧ (S i).sz ≤ C - cdU S i) ∨ ((S i).kd = 2 ∧ dtU S i ≤ (S i).pl ∧ (S i).pl ≤ D ∧ 1 ≤ (S i).sz ∧ (S i).sz ≤ D - (S i).pl ∧ (S i).pl % 8 = 0 ∧ (S i).sz % 8 = 0 ∧ (S i).fr = 0)) := by
  unfold fltI at h
  split at h
  · omega
  rename_i h1
  split at h
  · omega
  rename_i h2
  refine ⟨by cases e : nameB (S i).nm <;> simp_all, by cases e : clashB S i <;> simp_all, ?_⟩
  split at h
  · rename_i h3
    split at h
    · rename_i h4; exact .inl ⟨h3, h4⟩
    · omega
  · split at h
    · rename_i h3
      split at h
      · rename_i h4
        split at h
        · rename_i h5; exact .inr ⟨h3, h4.1, h4.2.1, h4.2.2.1, h4.2.2.2.1, h4.2.2.2.2.1, h4.2.2.2.2.2, h5⟩
        · omega
      · omega
    · omega
theorem cdU_bd {C D : Int} {S : Nat → SymD} : ∀ (k : Nat), 0 ≤ C → 0 ≤ D → (∀ j, j < k → fltI C D S j = 0) → (0 ≤ cdU S k ∧ cdU S k ≤ C) ∧ (0 ≤ dtU S k ∧ dtU S k ≤ D)
  | 0, hC, hD, _ => ⟨⟨Int.le_refl _, hC⟩, ⟨Int.le_refl _, hD⟩⟩
  | k + 1, hC, hD, h => by
    obtain ⟨h1, h2⟩ := cdU_bd k hC hD (fun j hj => h j (by omega))
    obtain ⟨_, _, h3⟩ := flt_ok (h k (by omega))
    unfold cdU dtU
    rcases h3 with ⟨h3, h4, h5, h6⟩ | ⟨h3, h4, h5, h6, h7, _⟩
    · rw [if_pos h3, if_neg (by omega)]
      omega
    · rw [if_neg (by omega), if_pos h3]
      omega

/-- The first fault of an image's symbols. -/
inductive SymsIs (n : Nat) (C D : Int) (S : Nat → SymD) : Int → Int → Prop
  | flt (k : Nat) (hk : k < n) (h : ∀ j, j < k → fltI C D S j = 0) (hn : fltI C D S k ≠ 0) : SymsIs n C D S k (fltI C D S k)
  | nosym (h : ∀ j, j < n → fltI C D S j = 0) (hn : n = 0 ∨ (S 0).kd ≠ 1) : SymsIs n C D S 0 23
  | short (h : ∀ j, j < n → fltI C D S j = 0) (h0 : 0 < n) (h1 : (S 0).kd = 1) (hc : cdU S n ≠ C) : SymsIs n C D S 0 22
  | ok (h : ∀ j, j < n → fltI C D S j = 0) (h0 : 0 < n) (h1 : (S 0).kd = 1) (hc : cdU S n = C) : SymsIs n C D S 0 0
theorem first_ofP (p : Nat → Prop) (n : Nat) : (∀ j, j < n → p j) ∨ ∃ k, k < n ∧ (∀ j, j < k → p j) ∧ ¬ p k := by
  induction n with
  | zero => exact .inl (fun j hj => absurd hj (Nat.not_lt_zero _))
  | succ n ih =>
    rcases ih with h | ⟨k, h1, h2, h3⟩
    · by_cases e : p n
      · exact .inl (fun j hj => by
          rcases Nat.lt_succ_iff_lt_or_eq.1 hj with h' | rfl
          · exact h j h'
          · exact e)
      · exact .inr ⟨n, Nat.lt_succ_self _, h, e⟩
    · exact .inr ⟨k, Nat.lt_succ_of_lt h1, h2, h3⟩
theorem syms_ex (n : Nat) (C D : Int) (S : Nat → SymD) : ∃ x y, SymsIs n C D S x y := by
  rcases first_ofP (fun j => fltI C D S j = 0) n with h | ⟨k, h1, h2, h3⟩
  · by_cases h0 : n = 0 ∨ (S 0).kd ≠ 1
    · exact ⟨_, _, .nosym h h0⟩
    · have h1 : 0 < n ∧ (S 0).kd = 1 := by
        refine ⟨by omega, ?_⟩
        by_cases e : (S 0).kd = 1
        · exact e
        · exact absurd (.inr e) h0
      by_cases hc : cdU S n = C
      · exact ⟨_, _, .ok h h1.1 h1.2 hc⟩
      · exact ⟨_, _, .short h h1.1 h1.2 hc⟩
  · exact ⟨_, _, .flt k h1 h2 h3⟩
/-- Where symbol i stands in memory. -/
def plI' (S : Nat → SymD) (i : Nat) : Int := if (S i).kd = 1 then 4096 + (S i).pl else 16384 + (S i).pl
/-- Where the functions among the first m symbols begin. -/
def entU (S : Nat → SymD) (m : Nat) : List Int := ((List.range m).filter (fun i => decide ((S i).kd = 1))).map (plI' S)
theorem entU_succ (S : Nat → SymD) (m : Nat) : entU S (m + 1) = entU S m ++ (if (S m).kd = 1 then [plI' S m] else []) := by
  unfold entU
  rw [List.range_succ, List.filter_append, List.map_append]
  congr 1
  by_cases h : (S m).kd = 1 <;> simp [h]
theorem entU_len (S : Nat → SymD) (m : Nat) : (entU S m).length ≤ m := by
  unfold entU
  rw [List.length_map]
  exact Nat.le_trans (List.length_filter_le _ _) (by simp)
end Go.Proofs.YtelogjpjglohoaaGreatDoor

namespace Go.Proofs.YtelogjpjglohoaaGreatDoor
open Go.RowKit
set_option linter.unusedVariables false
section
variable {P : Program}

/-- The block's cells. -/
def Lies (w : World) (g : Nat) (t : TypeId) (cs : Array Value) : Prop := w.heap[g]? = some (.cells cs t (0, 0))
theorem Lies.lt {w : World} {g : Nat} {t : TypeId} {cs : Array Value} (h : Lies w g t cs) : g < w.heap.size := (Array.getElem?_eq_some_iff.1 h).1
theorem Lies.cell {w : World} {g : Nat} {t : TypeId} {cs : Array Value} (h : Lies w g t cs) {j : Nat} {v : Value} (hv : cs[j]? = some v) : w.cell? ⟨g, j, none⟩ = some v := by
  rw [cell_of_row w g j cs t (0, 0) h]; exact hv
theorem Lies.fro {w : World} {g : Nat} {t : TypeId} {cs : Array Value} (h : Lies w g t cs) (j : Nat) : w.frozen? ⟨g, j, none⟩ = false := frozen_of_row w g j cs t h
theorem Lies.new (w : World) (cs : Array Value) (t : TypeId) : Lies (w.alloc (.cells cs t)) w.heap.size t cs := heap_alloc_new w _
theorem Lies.newAt (w : World) (cs : Array Value) (t : TypeId) {g : Nat} (hg : g = w.heap.size) : Lies (w.alloc (.cells cs t)) g t cs := by subst hg; exact heap_alloc_new w _
theorem Lies.alloc {w : World} {g : Nat} {t : TypeId} {cs : Array Value} (h : Lies w g t cs) (o : Obj) : Lies (w.alloc o) g t cs := by
  unfold Lies; rw [Below.heap_alloc w o g h.lt]; exact h
theorem Lies.drew {w : World} {g : Nat} {t : TypeId} {cs : Array Value} (h : Lies w g t cs) : Lies w.drew g t cs := h
theorem Lies.below {w w' : World} {g B : Nat} {t : TypeId} {cs : Array Value} (h : Lies w g t cs) (hb : Below B w w') (hg : g < B) : Lies w' g t cs := by
  unfold Lies; rw [hb.block g hg]; exact h
theorem Lies.set {w : World} {g : Nat} {t : TypeId} {cs : Array Value} (h : Lies w g t cs) (new : Array Value) : Lies (w.setRow g new) g t new := setRow_heap w g cs new t (0, 0) h
theorem Lies.other {w : World} {g : Nat} {t : TypeId} {cs : Array Value} (h : Lies w g t cs) {k : Nat} (hk : g ≠ k) (new : Array Value) : Lies (w.setRow k new) g t cs := by
  unfold Lies; rw [setRow_other w k g new hk]; exact h
theorem Lies.put {w : World} {g : Nat} {t : TypeId} {cs : Array Value} (h : Lies w g t cs) (j : Nat) (v : Value) : Lies (w.setCell ⟨g, j, none⟩ v) g t (cs.setIfInBounds j v) := by
  rw [setCell_eq_setRow w g j cs t (0, 0) v h]; exact h.set _
theorem Lies.putOther {w : World} {g : Nat} {t : TypeId} {cs : Array Value} (h : Lies w g t cs) {a : Addr} (hk : g ≠ a.block) (v : Value) : Lies (w.setCell a v) g t cs := by
  unfold Lies; rw [Below.heap_setCell w a v g hk]; exact h

/-- A part of a block is loaded. -/
theorem wpList_load_part {ops : Array Oper} {rest : List Oper} {op : Oper} {a : Act} {w : World} {Q : Exit → Act → World → Prop} (hgd : op.guard = none) (ty : TypeId) (x : Operand) (ho : op.op = .load ty x)
    (g o n : Nat) (hx : a.eval x = .pointer (some ⟨g, o, none⟩)) (t : TypeId) (cur : Array Value) (hb : Lies w g t cur) (d : TypeDesc)
    (hu : P.underlying ty = some d) (hd : d.isRow = true) (hi : (P.info? ty).map (·.size) = some n) (hn : o + n ≤ cur.size) (out : Array Value) (hout : cur.extract o (o + n) = out)
    (h : wpList P ops Q rest (a.put op.dst (.agg out)) w) : wpList P ops Q (op :: rest) a w := by
  subst hout
  have hl : (cur.extract o (o + n)).toList.length = n := by simp; omega
  have := wpList_load_mid (P := P) (ops := ops) (rest := rest) (op := op) (a := a) (w := w) (Q := Q) hgd ty x ho g o hx (cur.extract o (o + n)).toList d (World.rangeAt_of_block hb o n) hu hd (by rw [hl]; exact hi) (by rw [Array.toArray_toList]; exact h)
  exact this

/-- A value of many cells goes into a part of a block. -/
theorem run_storeVar_part (w : World) (g o : Nat) (t ty : TypeId) (cur vs : Array Value) (hb : Lies w g t cur) (hi : (P.info? ty).map (·.size) = some vs.size) (hn : o + vs.size ≤ cur.size) (h1 : vs.all (·.oneCell') = true) :
    (storeVar ty ⟨g, o, none⟩ (.agg vs)).run P w = .ok () (w.setRow g (cur.toList.take o ++ vs.toList ++ cur.toList.drop (o + vs.size)).toArray) := by
  have := run_storeCells_at (P := P) g o t vs.toList 0 cur w hb (by simpa using hn) (fun v hv => (Array.all_eq_true_iff_forall_mem.1 h1) v (by simpa using hv))
  cases hq : P.info? ty with
  | none => simp [hq] at hi
  | some i =>
    have hs : vs.size = i.size := by simp [hq] at hi; omega
    simp only [Nat.add_zero, Array.length_toList] at this
    simp [storeVar, sizeOf, typeInfo, hq, Value.cells, hs, this]

theorem wpList_store_part {ops : Array Oper} {rest : List Oper} {op : Oper} {a : Act} {w : World} {Q : Exit → Act → World → Prop} (hgd : op.guard = none) (ty : TypeId) (x y : Operand) (ho : op.op = .store ty x y)
    (g o : Nat) (vs : Array Value) (hx : a.eval x = .pointer (some ⟨g, o, none⟩)) (hy : a.eval y = .agg vs) (t : TypeId) (cur : Array Value) (hb : Lies w g t cur)
    (hi : (P.info? ty).map (·.size) = some vs.size) (hn : o + vs.size ≤ cur.size) (h1 : vs.all (·.oneCell') = true) (new : Array Value) (hnew : (cur.toList.take o ++ vs.toList ++ cur.toList.drop (o + vs.size)).toArray = new)
    (h : wpList P ops Q rest (a.put op.dst undef) (w.setRow g new)) : wpList P ops Q (op :: rest) a w := by
  subst hnew
  refine wpList_plain hgd fun _ hK => ?_
  unfold Oper.wp execOp
  simp only [ho, hx, hy, Instr.storeAt, Instr.sureAddr, Sem.run_bind, Sem.run_pure, Result.andThen_ok, run_storeVar_part w g o t ty cur vs hb hi hn h1]
  exact hK _ _ h

theorem wpList_store_all {ops : Array Oper} {rest : List Oper} {op : Oper} {a : Act} {w : World} {Q : Exit → Act → World → Prop} (hgd : op.guard = none) (ty : TypeId) (x y : Operand) (ho : op.op = .store ty x y)
    (g : Nat) (vs : Array Value) (hx : a.eval x = .pointer (some ⟨g, 0, none⟩)) (hy : a.eval y = .agg vs) (t : TypeId) (cur : Array Value) (hb : Lies w g t cur)
    (hi : (P.info? ty).map (·.size) = some vs.size) (hn : cur.size = vs.size) (h1 : vs.all (·.oneCell') = true)
    (h : wpList P ops Q rest (a.put op.dst undef) (w.setRow g vs)) : wpList P ops Q (op :: rest) a w :=
  wpList_store_row hgd ty x y ho g vs hx hy t cur hb hi hn h1 h

/-- A struct, or a row, that is the result. -/
theorem results_lies {fn : Func} {p : Tmp} {ty : TypeId} (h : fn.results = #[.cell p ty]) (tmps : Array Value) (w : World) (g : Nat) (t : TypeId) (cs : Array Value) (d : TypeDesc)
    (hp : tmps.getD p undef = .pointer (some ⟨g, 0, none⟩)) (hb : Lies w g t cs) (hu : P.underlying ty = some d) (hd : d.isRow = true) (hi : (P.info? ty).map (·.size) = some cs.size) :
    (results fn tmps).run P w = .ok (.agg cs) w :=
  results_cell_row h tmps w g t cs (0, 0) d hp hb hu (by cases d <;> simp_all) hi
end
end Go.Proofs.YtelogjpjglohoaaGreatDoor

namespace Go.Proofs.YtelogjpjglohoaaGreatDoor
open Go Go.RowKit Go.ChangeShapes Go.WideShapes Go.Deep
set_option linter.unusedVariables false

theorem grown1' (w : World) (o : Obj) : Below w.heap.size w (w.alloc o) := (Below.refl _ _).alloc (Nat.le_refl _) _
/-- A row of m cells that may be written. -/
def FRow (w : World) (b o m : Nat) (V : Nat → Value) : Prop := VRow w b o m V ∧ ∀ i, i < m → w.frozen? ⟨b, o + i, none⟩ = false
theorem FRow.below {w w' : World} {b o m B : Nat} {V : Nat → Value} (h : FRow w b o m V) (hb : Below B w w') (hlt : b < B) : FRow w' b o m V := ⟨h.1.below hb hlt, fun i hi => (hb.frozen (p := ⟨b, o + i, none⟩) hlt).trans (h.2 i hi)⟩
theorem FRow.other {w : World} {g m X : Nat} {V : Nat → Value} (h : FRow w g 0 m V) (hX : g ≠ X) (o : Nat) (v : Value) : FRow (w.setCell ⟨X, o, none⟩ v) g 0 m V :=
  ⟨fun i hi => by rw [World.cell?_setCell_other _ _ _ _ (fun c => hX (by have := congrArg Addr.block c; simp at this; exact this.symm))]; exact h.1 i hi, fun i hi => by rw [World.frozen?_setCell]; exact h.2 i hi⟩
theorem FRow.put {w : World} {g m : Nat} {V : Nat → Value} (h : FRow w g 0 m V) (t : Nat) (ht : t < m) (x : Value) : FRow (w.setCell ⟨g, t, none⟩ x) g 0 m (fun i => if i = t then x else V i) := by
  refine ⟨fun i hi => ?_, fun i hi => by rw [World.frozen?_setCell]; exact h.2 i hi⟩
  have hi0 := h.1 i hi
  have ht0 := h.1 t ht
  rw [Nat.zero_add] at hi0 ht0 ⊢
  show _ = some (if i = t then x else V i)
  by_cases e : i = t
  · subst e
    rw [if_pos rfl]
    exact World.cell?_setCell_same' _ _ _ (by rw [ht0]; rfl)
  · rw [if_neg e, World.cell?_setCell_other _ _ _ _ (fun c => e (by have := congrArg Addr.off c; simp at this; omega))]
    exact hi0
theorem FRow.congr {w : World} {g m : Nat} {V V' : Nat → Value} (h : FRow w g 0 m V) (e : ∀ i, i < m → V i = V' i) : FRow w g 0 m V' := ⟨fun i hi => (h.1 i hi).trans (by rw [e i hi]), h.2⟩

/-- A list of n structs of m cells: where it is not empty its cells lie in a block. -/
def RowsAt (w : World) (p : Option Addr) (n m : Nat) (V : Nat → Value) : Prop := n = 0 ∨ ∃ b o, p = some ⟨b, o, none⟩ ∧ b < w.heap.size ∧ VRow w b o (n * m) V
theorem RowsAt.below {w w' : World} {p : Option Addr} {n m : Nat} {V : Nat → Value} (h : RowsAt w p n m V) (hb : Below w.heap.size w w') : RowsAt w' p n m V := by
  rcases h with h | ⟨b, o, e, hlt, hf⟩
  · exact .inl h
  · exact .inr ⟨b, o, e, Nat.lt_of_lt_of_le hlt hb.size, hf.below hb hlt⟩
theorem RowsAt.drew {w : World} {p : Option Addr} {n m : Nat} {V : Nat → Value} (h : RowsAt w p n m V) : RowsAt w.drew p n m V := h
/-- Below B: its block is an old one. -/
def RowsLow (w : World) (B : Nat) (p : Option Addr) (n m : Nat) (V : Nat → Value) : Prop := n = 0 ∨ ∃ b o, p = some ⟨b, o, none⟩ ∧ b < B ∧ VRow w b o (n * m) V
theorem RowsLow.below {w w' : World} {B : Nat} {p : Option Addr} {n m : Nat} {V : Nat → Value} (h : RowsLow w B p n m V) (hb : Below B w w') : RowsLow w' B p n m V := by
  rcases h with h | ⟨b, o, e, hlt, hf⟩
  · exact .inl h
  · exact .inr ⟨b, o, e, hlt, hf.below hb hlt⟩
theorem RowsAt.low {w : World} {p : Option Addr} {n m : Nat} {V : Nat → Value} (h : RowsAt w p n m V) : RowsLow w w.heap.size p n m V := h
theorem RowsLow.at {w : World} {B : Nat} {p : Option Addr} {n m : Nat} {V : Nat → Value} (h : RowsLow w B p n m V) (hB : B ≤ w.heap.size) : RowsAt w p n m V := by
  rcases h with h | ⟨b, o, e, hlt, hf⟩
  · exact .inl h
  · exact .inr ⟨b, o, e, Nat.lt_of_lt_of_le hlt hB, hf⟩
theorem VRow.nth {w : World} {b o n m : Nat} {V : Nat → Value} (h : VRow w b o (n * m) V) {k j : Nat} (hk : k < n) (hj : j < m) : w.cell? ⟨b, o + k * m + j, none⟩ = some (V (k * m + j)) := by
  have h1 : (k + 1) * m ≤ n * m := Nat.mul_le_mul_right m hk
  rw [Nat.succ_mul] at h1
  have := h (k * m + j) (by omega)
  rwa [← Nat.add_assoc] at this
/-- A list of the call's own. -/
def OwnR (w : World) (B : Nat) (p : Option Addr) (n m : Nat) (V : Nat → Value) : Prop := n = 0 ∨ ∃ g, p = some ⟨g, 0, none⟩ ∧ B ≤ g ∧ g < w.heap.size ∧ FRow w g 0 (n * m) V
theorem OwnR.below {w w' : World} {B : Nat} {p : Option Addr} {n m : Nat} {V : Nat → Value} (h : OwnR w B p n m V) (hb : Below w.heap.size w w') : OwnR w' B p n m V := by
  rcases h with h | ⟨g, h1, h2, h3, h4⟩
  · exact .inl h
  · exact .inr ⟨g, h1, h2, Nat.lt_of_lt_of_le h3 hb.size, h4.below hb h3⟩
theorem OwnR.rows {w : World} {B : Nat} {p : Option Addr} {n m : Nat} {V : Nat → Value} (h : OwnR w B p n m V) : RowsAt w p n m V := by
  rcases h with h | ⟨g, h1, h2, h3, h4⟩
  · exact .inl h
  · exact .inr ⟨g, 0, h1, h3, h4.1⟩
theorem OwnR.low {w : World} {B B' : Nat} {p : Option Addr} {n m : Nat} {V : Nat → Value} (h : OwnR w B p n m V) (hb : B' ≤ B) : OwnR w B' p n m V := by
  rcases h with h | ⟨g, h1, h2, h3, h4⟩
  · exact .inl h
  · exact .inr ⟨g, h1, Nat.le_trans hb h2, h3, h4⟩
theorem OwnR.congr {w : World} {B : Nat} {p : Option Addr} {n m : Nat} {V V' : Nat → Value} (h : OwnR w B p n m V) (e : ∀ i, i < n * m → V i = V' i) : OwnR w B p n m V' := by
  rcases h with h | ⟨g, h1, h2, h3, h4⟩
  · exact .inl h
  · exact .inr ⟨g, h1, h2, h3, h4.congr e⟩
theorem FRow.own {w : World} {B g n m : Nat} {V : Nat → Value} (h : FRow w g 0 (n * m) V) (hB : B ≤ g) (hg : g < w.heap.size) : OwnR w B (some ⟨g, 0, none⟩) n m V := .inr ⟨g, rfl, hB, hg, h⟩
/-- A struct's cells put into a row of them. -/
theorem putRow {cur : Array Value} {V : Nat → Value} {n k m : Nat} (L : List Value) (hL : L.length = m) (hV : ∀ j, j < m → L[j]? = some (V (k * m + j))) (hs : cur.size = n * m) (hk : k < n) (hc : ∀ i, i < k * m → cur[i]? = some (V i)) :
    (cur.toList.take (k * m) ++ L ++ cur.toList.drop (k * m + m)).toArray.size = n * m ∧ ∀ i, i < (k + 1) * m → (cur.toList.take (k * m) ++ L ++ cur.toList.drop (k * m + m)).toArray[i]? = some (V i) := by
  have h1 : (k + 1) * m ≤ n * m := Nat.mul_le_mul_right m hk
  rw [Nat.succ_mul] at h1
  have hl : cur.toList.length = n * m := by simpa using hs
  have ht : (cur.toList.take (k * m)).length = k * m := by rw [List.length_take]; omega
  refine ⟨by simp [hL]; omega, fun i hi => ?_⟩
  rw [Nat.succ_mul] at hi
  rw [List.getElem?_toArray, List.append_assoc]
  by_cases h : i < k * m
  · rw [List.getElem?_append_left (by omega), List.getElem?_take, if_pos h]
    have := hc i h
    rw [Array.getElem?_toList]
    exact this
  · rw [List.getElem?_append_right (by omega), ht, List.getElem?_append_left (by omega), hV (i - k * m) (by omega)]
    rw [Nat.add_sub_cancel' (by omega)]

/-- Of the old blocks only the one that p points to may have changed. -/
structure ButO (p : Option Addr) (w w' : World) : Prop where
  os : w'.os = w.os
  tape : w'.tape = w.tape
  output : w'.output = w.output
  size : w.heap.size ≤ w'.heap.size
  block : ∀ k, k < w.heap.size → p ≠ some ⟨k, 0, none⟩ → w'.heap[k]? = w.heap[k]?
theorem ButO.refl (p : Option Addr) (w : World) : ButO p w w := ⟨rfl, rfl, rfl, Nat.le_refl _, fun _ _ _ => rfl⟩
theorem ButO.trans {p : Option Addr} {a b c : World} (h : ButO p a b) (k : ButO p b c) : ButO p a c :=
  ⟨k.os.trans h.os, k.tape.trans h.tape, k.output.trans h.output, Nat.le_trans h.size k.size, fun i hi hg => (k.block i (Nat.lt_of_lt_of_le hi h.size) hg).trans (h.block i hi hg)⟩
theorem ButO.of_below {p : Option Addr} {w w' : World} (h : Below w.heap.size w w') : ButO p w w' := ⟨h.os, h.tape, h.output, h.size, fun k hk _ => h.block k hk⟩
theorem ButO.set {g j : Nat} {w w' : World} (h : ButO (some ⟨g, 0, none⟩) w w') (v : Value) : ButO (some ⟨g, 0, none⟩) w (w'.setCell ⟨g, j, none⟩ v) :=
  h.trans ⟨rfl, rfl, rfl, by simp [World.setCell], fun k _ hg => Below.heap_setCell w' ⟨g, j, none⟩ v k (fun e => hg (by rw [e]))⟩
theorem ButO.below {p : Option Addr} {B : Nat} {w w' : World} (h : ButO p w w') (hp : ∀ k, k < B → p ≠ some ⟨k, 0, none⟩) (hw : B ≤ w.heap.size) : Below B w w' :=
  ⟨h.os, h.tape, h.output, h.size, fun k hk => h.block k (Nat.lt_of_lt_of_le hk hw) (hp k hk)⟩
theorem ButO.cell {p : Option Addr} {w w' : World} (h : ButO p w w') {k j : Nat} {v : Value} (hc : w.cell? ⟨k, j, none⟩ = some v) (hk : p ≠ some ⟨k, 0, none⟩) : w'.cell? ⟨k, j, none⟩ = some v := by
  have hlt := World.block_lt_of_cell? w _ hc
  exact (World.cell?_of_block (w := w) (h.block k hlt hk)).trans hc
/-- Where the list lies, if it has elements. -/
def qn (p : Option Addr) (n : Nat) : Option Addr := if n = 0 then none else p
theorem OwnR.not_at {w : World} {B : Nat} {p : Option Addr} {n m : Nat} {V : Nat → Value} (h : OwnR w B p n m V) (k : Nat) (hk : k < B ∨ w.heap.size ≤ k) : qn p n ≠ some ⟨k, 0, none⟩ := by
  unfold qn
  rcases h with h | ⟨g, rfl, h2, h3, _⟩
  · rw [if_pos h]; simp
  · split
    · simp
    · intro e
      have e1 : g = k := by
        have e2 := congrArg (fun o => (o.map Addr.block).getD 0) e
        exact e2
      omega
end Go.Proofs.YtelogjpjglohoaaGreatDoor

namespace Go.Proofs.YtelogjpjglohoaaGreatDoor
open Go Go.RowKit
set_option linter.unusedVariables false

/-- A row of m ints from cell o of block b on: R i at o + i. -/
def Flat (w : World) (b o m : Nat) (R : Nat → Int) : Prop := ∀ i, i < m → w.cell? ⟨b, o + i, none⟩ = some (.int .i64 (R i)) ∧ w.frozen? ⟨b, o + i, none⟩ = false
theorem Flat.below {w w' : World} {b o m B : Nat} {R : Nat → Int} (h : Flat w b o m R) (hb : Below B w w') (hlt : b < B) : Flat w' b o m R :=
  fun i hi => ⟨(hb.cell (p := ⟨b, o + i, none⟩) hlt).trans (h i hi).1, (hb.frozen (p := ⟨b, o + i, none⟩) hlt).trans (h i hi).2⟩
theorem Flat.drew {w : World} {b o m : Nat} {R : Nat → Int} (h : Flat w b o m R) : Flat w.drew b o m R := h
theorem Flat.alloc {w : World} {b o m : Nat} {R : Nat → Int} (h : Flat w b o m R) (hb : b < w.heap.size) (x : Obj) : Flat (w.alloc x) b o m R := h.below ((Below.refl w.heap.size w).alloc (Nat.le_refl _) x) hb
theorem Flat.congr {w : World} {b o m : Nat} {R S : Nat → Int} (h : Flat w b o m R) (e : ∀ i, i < m → R i = S i) : Flat w b o m S := fun i hi => by rw [← e i hi]; exact h i hi
theorem Flat.take {w : World} {b o m n : Nat} {R : Nat → Int} (h : Flat w b o m R) (hn : n ≤ m) : Flat w b o n R := fun i hi => h i (by omega)
/-- Cell j of the k-th five. -/
theorem Flat.at5 {w : World} {b o n : Nat} {R : Nat → Int} (h : Flat w b o (n * 5) R) {k : Nat} (hk : k < n) (j : Nat) (hj : j < 5) : w.cell? ⟨b, o + k * 5 + j, none⟩ = some (.int .i64 (R (k * 5 + j))) := by
  have := (h (k * 5 + j) (by omega)).1
  rwa [← Nat.add_assoc] at this
theorem Flat.fr5 {w : World} {b o n : Nat} {R : Nat → Int} (h : Flat w b o (n * 5) R) {k : Nat} (hk : k < n) (j : Nat) (hj : j < 5) : w.frozen? ⟨b, o + k * 5 + j, none⟩ = false := by
  have := (h (k * 5 + j) (by omega)).2
  rwa [← Nat.add_assoc] at this

/-- A store into one cell of it. -/
theorem Flat.set {w : World} {b o m : Nat} {R : Nat → Int} (h : Flat w b o m R) (t : Nat) (ht : t < m) {a : Nat} (ha : a = o + t) (x : Int) : Flat (w.setCell ⟨b, a, none⟩ (.int .i64 x)) b o m (fun i => if i = t then x else R i) := by
  subst ha
  intro i hi
  refine ⟨?_, by rw [World.frozen?_setCell]; exact (h i hi).2⟩
  show _ = some (Value.int .i64 (if i = t then x else R i))
  by_cases e : i = t
  · subst e
    rw [if_pos rfl]
    exact World.cell?_setCell_same' _ _ _ (by rw [(h i hi).1]; rfl)
  · rw [if_neg e, World.cell?_setCell_other _ _ _ _ (by intro c; have := congrArg Addr.off c; simp at this; omega)]
    exact (h i hi).1

/-- A row of m ints that is read alone. -/
def Rdb (w : World) (b o m : Nat) (R : Nat → Int) : Prop := ∀ i, i < m → w.cell? ⟨b, o + i, none⟩ = some (.int .i64 (R i))
theorem Flat.rd {w : World} {b o m : Nat} {R : Nat → Int} (h : Flat w b o m R) : Rdb w b o m R := fun i hi => (h i hi).1
theorem Rdb.below {w w' : World} {b o m B : Nat} {R : Nat → Int} (h : Rdb w b o m R) (hb : Below B w w') (hlt : b < B) : Rdb w' b o m R := fun i hi => (hb.cell (p := ⟨b, o + i, none⟩) hlt).trans (h i hi)
theorem Rdb.drew {w : World} {b o m : Nat} {R : Nat → Int} (h : Rdb w b o m R) : Rdb w.drew b o m R := h
theorem Rdb.at5 {w : World} {b o n : Nat} {R : Nat → Int} (h : Rdb w b o (n * 5) R) {k : Nat} (hk : k < n) (j : Nat) (hj : j < 5) : w.cell? ⟨b, o + k * 5 + j, none⟩ = some (.int .i64 (R (k * 5 + j))) := by
  have := h (k * 5 + j) (by omega)
  rwa [← Nat.add_assoc] at this
theorem Rdb.five {w : World} {b o n : Nat} {R : Nat → Int} (h : Rdb w b o (n * 5) R) {k : Nat} (hk : k < n) :
    w.cell? ⟨b, o + k * 5, none⟩ = some (.int .i64 (R (k * 5))) ∧ w.cell? ⟨b, o + k * 5 + 1, none⟩ = some (.int .i64 (R (k * 5 + 1))) ∧ w.cell? ⟨b, o + k * 5 + 2, none⟩ = some (.int .i64 (R (k * 5 + 2))) ∧
      w.cell? ⟨b, o + k * 5 + 3, none⟩ = some (.int .i64 (R (k * 5 + 3))) ∧ w.cell? ⟨b, o + k * 5 + 4, none⟩ = some (.int .i64 (R (k * 5 + 4))) :=
  ⟨h.at5 hk 0 (by omega), h.at5 hk 1 (by omega), h.at5 hk 2 (by omega), h.at5 hk 3 (by omega), h.at5 hk 4 (by omega)⟩

/-- A list of n instructions: where it is not empty its cells lie in a block. -/
def ListAt (w : World) (p : Option Addr) (n : Nat) (R : Nat → Int) : Prop := n = 0 ∨ ∃ b o, p = some ⟨b, o, none⟩ ∧ b < w.heap.size ∧ Rdb w b o (n * 5) R
theorem ListAt.below {w w' : World} {p : Option Addr} {n : Nat} {R : Nat → Int} (h : ListAt w p n R) (hb : Below w.heap.size w w') : ListAt w' p n R := by
  rcases h with h | ⟨b, o, e, hlt, hf⟩
  · exact .inl h
  · exact .inr ⟨b, o, e, Nat.lt_of_lt_of_le hlt hb.size, hf.below hb hlt⟩

end Go.Proofs.YtelogjpjglohoaaGreatDoor

namespace Go.Proofs.YtelogjpjglohoaaGreatDoor
open Go Go.RowKit
set_option linter.unusedVariables false
theorem Tryz.info_sym : (Tryz.prog.info? 49).map (fun i => (i.zero, i.size, i.bytes)) = some (some (.agg #[.string ByteArray.empty, .int .i64 0, .int .i64 0, .int .i64 0, .int .i64 0]), 5, 48) := by kernel_rfl

theorem toSymC (s : ByteArray) (a b c d : Int) (w : World) :
    Calls Tryz.prog 42 #[.agg #[.string s, .int .i64 a, .int .i64 b, .int .i64 c, .int .i64 d]] w fun e w' => e = .returned (.agg #[.string s, .int .i64 a, .int .i64 b, .int .i64 c, .int .i64 d]) ∧ Below w.heap.size w w' := by
  go_enter Tryz.func42, Tryz.ntmps42
  go_wp2
  refine bodyPost_ret (v := .agg #[.string s, .int .i64 a, .int .i64 b, .int .i64 c, .int .i64 d]) (by simp [results, Tryz.results42, go_sem]) rfl ⟨rfl, ?_⟩
  exact (((Below.refl _ _).alloc (Nat.le_refl _) _).alloc (by simp) _).alloc (by simp; omega) _

/-- Five cells put into a row of them. -/
theorem put5v {cur : Array Value} {V : Nat → Value} {n k : Nat} (hs : cur.size = n * 5) (hk : k < n) (hc : ∀ i, i < k * 5 → cur[i]? = some (V i)) :
    (cur.toList.take (k * 5) ++ [V (k * 5), V (k * 5 + 1), V (k * 5 + 2), V (k * 5 + 3), V (k * 5 + 4)] ++ cur.toList.drop (k * 5 + 5)).toArray.size = n * 5 ∧
    ∀ i, i < (k + 1) * 5 → (cur.toList.take (k * 5) ++ [V (k * 5), V (k * 5 + 1), V (k * 5 + 2), V (k * 5 + 3), V (k * 5 + 4)] ++ cur.toList.drop (k * 5 + 5)).toArray[i]? = some (V i) := by
  have hl : cur.toList.length = n * 5 := by simpa using hs
  refine ⟨by simp; omega, fun i hi => ?_⟩
  rw [List.getElem?_toArray, List.append_assoc]
  by_cases h : i < k * 5
  · rw [List.getElem?_append_left (by rw [List.length_take]; omega), List.getElem?_take, if_pos h]
    have := hc i h
    rw [Array.getElem?_toList]
    exact this
  · rw [List.getElem?_append_right (by rw [List.length_take]; omega), List.length_take, Nat.min_eq_left (by omega)]
    have : i = k * 5 ∨ i = k * 5 + 1 ∨ i = k * 5 + 2 ∨ i = k * 5 + 3 ∨ i = k * 5 + 4 := by omega
    rcases this with rfl | rfl | rfl | rfl | rfl
    · rw [Nat.sub_self]; rfl
    · rw [Nat.add_sub_cancel_left]; rfl
    · rw [Nat.add_sub_cancel_left]; rfl
    · rw [Nat.add_sub_cancel_left]; rfl
    · rw [Nat.add_sub_cancel_left]; rfl

theorem FRow.syms {w : World} {g n : Nat} {S : Nat → SymD} (h : FRow w g 0 (n * 5) (symV S)) (hg : g < w.heap.size) : SymsAt w (some ⟨g, 0, none⟩) n S := .inr ⟨g, 0, rfl, hg, h.1⟩

set_option maxRecDepth 100000 in
set_option maxHeartbeats 2000000 in
theorem toSyms (p : Option Addr) (n c : Nat) (S : Nat → SymD) (w : World) (hn : n ≤ 1048576) (hp : SymsAt w p n S) :
    Calls Tryz.prog 23 #[.slice p n c] w fun e w' => ∃ g, e = .returned (.slice (some ⟨g, 0, none⟩) n n) ∧ Below w.heap.size w w' ∧ w.heap.size ≤ g ∧ g < w'.heap.size ∧ FRow w' g 0 (n * 5) (symV S) := by
  obtain ⟨i0, hi, hz0, hz1, hz2⟩ := info_parts Tryz.info_sym
  go_enter Tryz.func23, Tryz.ntmps23
  go_wp2_with (at_make; refine wpList_make_full _ rfl _ _ 29 rfl w.heap.size 49 i0 _ 5 Tryz.underlying29 hi hz0 hz1 .i64 .i64 _ _ n rfl rfl (by omega) (by omega) (by rw [hz2]; omega) (by unfold maxLen; omega) (Nat.le_refl _) ?_; intro wm hm hgm)
  go_loopw [4] (fun i wr => ∃ k : Nat, k ≤ n ∧ i = .int .i64 k ∧ Below w.heap.size w wr ∧ ∃ cur, Lies wr w.heap.size 49 cur ∧ cur.size = n * 5 ∧ ∀ i, i < k * 5 → cur[i]? = some (symV S i)) (fun i _ => n - (intOf i).toNat)
  case atStart =>
    rcases hm.2 with ⟨hv, _⟩ | ⟨g, cap, cur, hv, _, hg, _, _, hcs, _⟩
    · cases hv
    · obtain ⟨rfl, rfl⟩ : w.heap.size = g ∧ n = cap := by simpa using hv
      exact ⟨0, Nat.zero_le _, rfl, (Below.refl _ _).grown hgm (Nat.le_refl _) (fun _ h => by cases h), cur, hg, hcs, fun i hi => absurd hi (by omega)⟩
  case round =>
    obtain ⟨k, hk, rfl, hB, cur, hl, hs, hc⟩ := hrel
    by_cases hlt : k < n
    · rcases hp with hp | ⟨b, o, rfl, hb, hp⟩
      · omega
      obtain ⟨x0, x1, x2, x3, x4⟩ := (hp.below hB hb).sym hlt
      have hput := put5v (V := symV S) hs hlt hc
      rw [symV0, symV1, symV2, symV3, symV4] at hput
      obtain ⟨s, e0⟩ : ∃ s, (S k).nm = s := ⟨_, rfl⟩
      obtain ⟨a, e1⟩ : ∃ s, (S k).kd = s := ⟨_, rfl⟩
      obtain ⟨b2, e2⟩ : ∃ s, (S k).pl = s := ⟨_, rfl⟩
      obtain ⟨c3, e3⟩ : ∃ s, (S k).sz = s := ⟨_, rfl⟩
      obtain ⟨d, e4⟩ : ∃ s, (S k).fr = s := ⟨_, rfl⟩
      rw [e0] at x0
      rw [e1] at x1
      rw [e2] at x2
      rw [e3] at x3
      rw [e4] at x4
      rw [e0, e1, e2, e3, e4] at hput
      obtain ⟨new, hnew⟩ : ∃ new, (cur.toList.take (k * 5) ++ [Value.string s, .int .i64 a, .int .i64 b2, .int .i64 c3, .int .i64 d] ++ cur.toList.drop (k * 5 + 5)).toArray = new := ⟨_, rfl⟩
      rw [hnew] at hput
      have HN : Hid (_ = new) := hnew
      clear hnew hp e0 e1 e2 e3 e4
      go_wp2_with fail
      refine (toSymC _ _ _ _ _ _).mono ?_
      rintro e w1 ⟨rfl, hb1⟩
      have l1 := hl.below hb1 hl.lt
      have B1 := hB.trans (hb1.mono hB.size)
      have s1 := hB.size
      clear hb1 hl x0 x1 x2 x3 x4 hB
      have hi' : (Tryz.prog.info? 49).map (·.size) = some (#[Value.string s, .int .i64 a, .int .i64 b2, .int .i64 c3, .int .i64 d] : Array Value).size := by rw [hi]; simp [hz1]
      go_wp2_with (refine wpList_store_part rfl 49 (.tmp 21) (.tmp 20) rfl w.heap.size (k * 5) #[.string s, .int .i64 a, .int .i64 b2, .int .i64 c3, .int .i64 d] rfl rfl _ _ l1 hi' (by simp; omega) (by simp [Value.oneCell']) new HN.out ?_)
      have l2 := l1.set new
      go_roundw
      case rel => exact ⟨k + 1, by omega, by go_num, below_setRow B1 (Nat.le_refl _) _, _, l2, hput.1, hput.2⟩
      case measure => simp [intOf]; omega
    · obtain rfl : k = n := by omega
      have hlt := hl.lt
      go_wp2
      go_ret
      exact ⟨_, rfl, hB, Nat.le_refl _, hlt, fun i hi => by rw [Nat.zero_add]; exact hl.cell (hc i hi), fun i hi => hl.fro _⟩

set_option maxHeartbeats 2000000 in
theorem toImg (c s : ByteArray) (p : Option Addr) (n k : Nat) (S : Nat → SymD) (w : World) (hn : n ≤ 1048576) (hp : SymsAt w p n S) :
    Calls Tryz.prog 7 #[.agg #[.string c, .string s, .slice p n k]] w fun e w' => ∃ g, e = .returned (.agg #[.string c, .string s, .slice (some ⟨g, 0, none⟩) n n]) ∧ Below w.heap.size w w' ∧ w.heap.size ≤ g ∧ g < w'.heap.size ∧ FRow w' g 0 (n * 5) (symV S) := by
  go_enter Tryz.func7, Tryz.ntmps7
  go_wp2_with fail
  have B3 : Below w.heap.size w (((w.alloc (.cells #[.string c, .string s, .slice p n k] 24)).alloc (.cells #[.string ByteArray.empty, .string ByteArray.empty, .slice none 0 0] 31)).alloc (.cells #[.string c, .string s, .slice none 0 0] 31)) := (((Below.refl _ _).alloc (Nat.le_refl _) _).alloc (by simp) _).alloc (by simp; omega) _
  have l2 := (Lies.newAt (w.alloc (.cells #[.string c, .string s, .slice p n k] 24)) #[.string ByteArray.empty, .string ByteArray.empty, .slice none 0 0] 31 (g := w.heap.size + 1) (by simp)).alloc (.cells #[.string c, .string s, .slice none 0 0] 31)
  have l3 := Lies.newAt ((w.alloc (.cells #[.string c, .string s, .slice p n k] 24)).alloc (.cells #[.string ByteArray.empty, .string ByteArray.empty, .slice none 0 0] 31)) #[.string c, .string s, .slice none 0 0] 31 (g := w.heap.size + 1 + 1) (by simp)
  have hp3 := hp.below B3
  obtain ⟨W3, hW3⟩ : ∃ W3, (((w.alloc (.cells #[.string c, .string s, .slice p n k] 24)).alloc (.cells #[.string ByteArray.empty, .string ByteArray.empty, .slice none 0 0] 31)).alloc (.cells #[.string c, .string s, .slice none 0 0] 31)) = W3 := ⟨_, rfl⟩
  have hs3 : W3.heap.size = w.heap.size + 1 + 1 + 1 := by rw [← hW3]; simp
  rw [hW3] at B3 l2 l3 hp3
  rw [show ({ data := #[] } : ByteArray) = ByteArray.empty from rfl, hW3]
  clear hW3 hp
  refine (toSyms p n k S W3 hn hp3).mono ?_
  rintro e w1 ⟨g, rfl, hb, hg, hlt, hf⟩
  have m2 := l2.below hb (by omega)
  have m3 := l3.below hb (by omega)
  have c0 := m3.cell (j := 0) rfl
  have c1 := m3.cell (j := 1) rfl
  have c2 := m3.cell (j := 2) rfl
  have f2 := m3.fro 2
  have r0 := m2.cell (j := 0) rfl
  have r1 := m2.cell (j := 1) rfl
  have r2 := m2.cell (j := 2) rfl
  have q0 := m2.fro 0
  have q1 := m2.fro 1
  have q2 := m2.fro 2
  have HB : Hid (Below w.heap.size w w1) := B3.trans (hb.mono B3.size)
  have HF : Hid (FRow w1 g 0 (n * 5) (symV S)) := hf
  have ne2 : g ≠ w.heap.size + 1 := by omega
  have ne3 : g ≠ w.heap.size + 1 + 1 := by omega
  have HM : Hid (Lies w1 (w.heap.size + 1) 31 #[.string ByteArray.empty, .string ByteArray.empty, .slice none 0 0]) := m2
  clear hb hf l2 l3 m2 m3 hp3 B3
  go_wp2_with fail
  have n1 := ((((HM.out.putOther (a := ⟨w.heap.size + 1 + 1, 2, none⟩) (by show w.heap.size + 1 ≠ w.heap.size + 1 + 1; omega) (.slice (some ⟨g, 0, none⟩) n n)).put 0 (.string c)).put 1 (.string s)).put 2 (.slice (some ⟨g, 0, none⟩) n n))
  have bel := (((HB.out.setCell (p := ⟨w.heap.size + 1 + 1, 2, none⟩) (by show w.heap.size ≤ w.heap.size + 1 + 1; omega) (.slice (some ⟨g, 0, none⟩) n n)).setCell (p := ⟨w.heap.size + 1, 0, none⟩) (by show w.heap.size ≤ w.heap.size + 1; omega) (.string c)).setCell (p := ⟨w.heap.size + 1, 1, none⟩) (by show w.heap.size ≤ w.heap.size + 1; omega) (.string s)).setCell (p := ⟨w.heap.size + 1, 2, none⟩) (by show w.heap.size ≤ w.heap.size + 1; omega) (.slice (some ⟨g, 0, none⟩) n n)
  have fr := (((HF.out.other (X := w.heap.size + 1 + 1) ne3 2 (.slice (some ⟨g, 0, none⟩) n n)).other (X := w.heap.size + 1) ne2 0 (.string c)).other (X := w.heap.size + 1) ne2 1 (.string s)).other (X := w.heap.size + 1) ne2 2 (.slice (some ⟨g, 0, none⟩) n n)
  have hi3 : (Tryz.prog.info? 31).map (·.size) = some (#[Value.string c, .string s, .slice (some ⟨g, 0, none⟩) n n] : Array Value).size := by kernel_rfl
  refine bodyPost_ret (results_lies rfl _ _ _ _ _ _ rfl n1 Tryz.underlying31 rfl hi3) rfl ⟨g, rfl, bel, by omega, by simpa using hlt, fr⟩

theorem szSymC (s : ByteArray) (a b c d l : Int) (w : World) (hs : s.size ≤ maxLen) (h0 : 0 ≤ l) (h1 : l ≤ 1048576) :
    Calls Tryz.prog 39 #[.agg #[.string s, .int .i64 a, .int .i64 b, .int .i64 c, .int .i64 d], .int .i64 l] w fun e w' => e = .returned (.int .i64 (if l < s.size then -1 else l - s.size)) ∧ Below w.heap.size w w' := by
  unfold maxLen at hs
  by_cases h : l < s.size
  · rw [if_pos h]
    go_enter Tryz.func39, Tryz.ntmps39
    go_wp2
    go_ret
    exact ⟨rfl, grown1' _ _⟩
  · rw [if_neg h]
    go_enter Tryz.func39, Tryz.ntmps39
    go_wp2
    go_ret
    exact ⟨rfl, grown1' _ _⟩
set_option maxHeartbeats 2000000 in
theorem szSyms (p : Option Addr) (n c : Nat) (S : Nat → SymD) (L : Int) (w : World) (h0 : 0 ≤ L) (h1 : L ≤ 1048576) (hn : n ≤ maxLen) (hw : ∀ i, i < n → (S i).nm.size ≤ maxLen) (hp : SymsAt w p n S) :
    Calls Tryz.prog 20 #[.slice p n c, .int .i64 L] w fun e w' => (∃ r : Int, e = .returned (.int .i64 r) ∧ (r = -1 ∨ (0 ≤ r ∧ r ≤ 1048576 ∧ (n : Int) ≤ L ∧ ∀ i, i < n → ((S i).nm.size : Int) ≤ L))) ∧ Below w.heap.size w w' := by
  unfold maxLen at hn
  by_cases hL : L < n
  · go_enter Tryz.func20, Tryz.ntmps20
    go_wp2
    go_ret
    exact ⟨⟨_, rfl, .inl rfl⟩, Below.refl _ _⟩
  · go_enter Tryz.func20, Tryz.ntmps20
    go_wp2_with fail
    go_loopw [1, 5] (fun m i wr => ∃ (k : Nat) (l : Int), k ≤ n ∧ i = .int .i64 k ∧ m = .int .i64 l ∧ 0 ≤ l ∧ l ≤ L ∧ (∀ j, j < k → ((S j).nm.size : Int) ≤ L) ∧ Below w.heap.size w wr) (fun _ i _ => n - (intOf i).toNat)
    case atStart => exact ⟨0, L - n, Nat.zero_le _, rfl, rfl, by omega, by omega, fun j hj => absurd hj (Nat.not_lt_zero _), Below.refl _ _⟩
    case round =>
      obtain ⟨k, l, hk, rfl, rfl, hl0, hl1, hall, hB⟩ := hrel
      by_cases hlt : k < n
      · rcases hp with hp | ⟨b, o, rfl, hb, hp⟩
        · omega
        obtain ⟨x0, x1, x2, x3, x4⟩ := (hp.below hB hb).sym hlt
        have hwk := hw k hlt
        obtain ⟨s, e0⟩ : ∃ s, (S k).nm = s := ⟨_, rfl⟩
        obtain ⟨a1, e1⟩ : ∃ s, (S k).kd = s := ⟨_, rfl⟩
        obtain ⟨a2, e2⟩ : ∃ s, (S k).pl = s := ⟨_, rfl⟩
        obtain ⟨a3, e3⟩ : ∃ s, (S k).sz = s := ⟨_, rfl⟩
        obtain ⟨a4, e4⟩ : ∃ s, (S k).fr = s := ⟨_, rfl⟩
        rw [e0] at x0 hwk
        rw [e1] at x1
        rw [e2] at x2
        rw [e3] at x3
        rw [e4] at x4
        have HE : Hid ((S k).nm = s) := e0
        have hsz := hB.size
        clear hp e0 e1 e2 e3 e4
        have cz := fun w' => szSymC s a1 a2 a3 a4 l w' hwk hl0 (by omega)
        by_cases h : l < s.size
        · simp only [if_pos h] at cz
          have HC : Hid (∀ w' : World, _) := cz
          clear cz
          go_wp2_with fail
          refine (HC.out _).mono ?_
          rintro e w2 ⟨rfl, hb2⟩
          have B2 := hB.trans (hb2.mono hsz)
          clear hb2 hB x0 x1 x2 x3 x4
          go_wp2_with fail
          go_ret
          exact ⟨⟨_, rfl, .inl rfl⟩, B2⟩
        · simp only [if_neg h] at cz
          have HC : Hid (∀ w' : World, _) := cz
          clear cz
          go_wp2_with fail
          refine (HC.out _).mono ?_
          rintro e w2 ⟨rfl, hb2⟩
          have B2 := hB.trans (hb2.mono hsz)
          clear hb2 hB x0 x1 x2 x3 x4
          go_wp2_with fail
          go_roundw
          case rel => exact ⟨k + 1, l - s.size, by omega, by go_num, rfl, by omega, by omega, fun j hj => by
            rcases Nat.lt_succ_iff_lt_or_eq.1 hj with h' | rfl
            · exact hall j h'
            · rw [HE.out]; omega, B2⟩
          case measure => simp [intOf]; omega
      · obtain rfl : k = n := by omega
        go_wp2
        go_ret
        exact ⟨⟨_, rfl, .inr ⟨hl0, by omega, by omega, hall⟩⟩, hB⟩
theorem szImg (c s : ByteArray) (p : Option Addr) (n k : Nat) (S : Nat → SymD) (w : World) (hc : c.size ≤ maxLen) (hs : s.size ≤ maxLen) (hn : n ≤ maxLen) (hw : ∀ i, i < n → (S i).nm.size ≤ maxLen) (hp : SymsAt w p n S) :
    Calls Tryz.prog 5 #[.agg #[.string c, .string s, .slice p n k], .int .i64 1048576] w fun e w' => (∃ r : Int, e = .returned (.int .i64 r) ∧ (r = -1 ∨ (0 ≤ r ∧ r ≤ 1048576 ∧ c.size ≤ 1048576 ∧ s.size ≤ 1048576 ∧ n ≤ 1048576 ∧ ∀ i, i < n → (S i).nm.size ≤ 1048576))) ∧ Below w.heap.size w w' := by
  have hc' := hc
  have hs' := hs
  unfold maxLen at hc hs
  have bA := grown1' w (.cells #[.string c, .string s, .slice p n k] 24)
  by_cases h1 : 1048576 < c.size
  · go_enter Tryz.func5, Tryz.ntmps5
    go_wp2_with fail
    go_ret
    exact ⟨⟨_, rfl, .inl rfl⟩, bA⟩
  by_cases h2 : 1048576 - (c.size : Int) < s.size
  · go_enter Tryz.func5, Tryz.ntmps5
    go_wp2_with fail
    go_ret
    exact ⟨⟨_, rfl, .inl rfl⟩, bA⟩
  go_enter Tryz.func5, Tryz.ntmps5
  go_wp2_with fail
  refine (szSyms p n k S _ _ (by omega) (by omega) hn hw (hp.below bA)).mono ?_
  rintro e w2 ⟨⟨r, rfl, hr⟩, hb2⟩
  have B2 := bA.trans (hb2.mono bA.size)
  clear hb2 bA hp
  rcases hr with rfl | ⟨r0, r1, r2, r3⟩
  · go_wp2_with fail
    go_ret
    exact ⟨⟨_, rfl, .inl rfl⟩, B2⟩
  · have HR : Hid (∀ i, i < n → (S i).nm.size ≤ 1048576) := fun i hi => by have := r3 i hi; omega
    clear r3 hw
    go_wp2_with fail
    go_ret
    exact ⟨⟨_, rfl, .inr ⟨r0, r1, by omega, by omega, by omega, HR.out⟩⟩, B2⟩

theorem eqSymC (s : ByteArray) (a b c d : Int) (w : World) :
    Calls Tryz.prog 45 #[.agg #[.string s, .int .i64 a, .int .i64 b, .int .i64 c, .int .i64 d], .agg #[.string s, .int .i64 a, .int .i64 b, .int .i64 c, .int .i64 d]] w fun e w' => e = .returned (.bool true) ∧ Below w.heap.size w w' := by
  go_enter Tryz.func45, Tryz.ntmps45
  go_wp2
  go_ret
  exact ⟨rfl, ((Below.refl _ _).alloc (Nat.le_refl _) _).alloc (by simp) _⟩
set_option maxHeartbeats 2000000 in
theorem eqSyms (p q : Option Addr) (n c d : Nat) (S : Nat → SymD) (w : World) (hn : n ≤ 2000000) (hp : SymsAt w p n S) (hq : SymsAt w q n S) :
    Calls Tryz.prog 28 #[.slice p n c, .slice q n d] w fun e w' => e = .returned (.bool true) ∧ Below w.heap.size w w' := by
  go_enter Tryz.func28, Tryz.ntmps28
  go_wp2
  go_loopw [5] (fun i wr => ∃ k : Nat, k ≤ n ∧ i = .int .i64 k ∧ Below w.heap.size w wr) (fun i _ => n - (intOf i).toNat)
  case atStart => exact ⟨0, Nat.zero_le _, rfl, Below.refl _ _⟩
  case round =>
    obtain ⟨k, hk, rfl, hB⟩ := hrel
    by_cases hlt : k < n
    · rcases hp with hp | ⟨b, o, rfl, hb, hp⟩
      · omega
      rcases hq with hq | ⟨b', o', rfl, hb', hq⟩
      · omega
      obtain ⟨x0, x1, x2, x3, x4⟩ := (hp.below hB hb).sym hlt
      obtain ⟨y0, y1, y2, y3, y4⟩ := (hq.below hB hb').sym hlt
      clear hp hq
      go_wp2
      go_region_with ((go_at_call 45; refine (eqSymC _ _ _ _ _ _).mono ?_; rintro e w1 ⟨rfl, hb1⟩))
      all_goals
        have hbw : Below w.heap.size w w1 := by
          first
            | exact hB.trans (hb1.mono (by have := hB.size; simp; omega))
            | exact hB.drew.trans (hb1.mono (by have := hB.size; simp; omega))
        go_wp2
        go_roundw
        case rel => exact ⟨k + 1, by omega, by go_num, hbw⟩
        case measure => simp [intOf]; omega
    · go_wp2
      go_ret
      exact ⟨rfl, hB⟩
theorem eqImg (a s : ByteArray) (p q : Option Addr) (n c d : Nat) (S : Nat → SymD) (w : World) (hn : n ≤ 2000000) (hp : SymsAt w p n S) (hq : SymsAt w q n S) :
    Calls Tryz.prog 10 #[.agg #[.string a, .string s, .slice p n c], .agg #[.string a, .string s, .slice q n d]] w fun e w' => e = .returned (.bool true) ∧ Below w.heap.size w w' := by
  have bA : Below w.heap.size w ((w.alloc (.cells #[.string a, .string s, .slice p n c] 31)).alloc (.cells #[.string a, .string s, .slice q n d] 31)) := ((Below.refl _ _).alloc (Nat.le_refl _) _).alloc (by simp) _
  have hp2 := hp.below bA
  have hq2 := hq.below bA
  have HB : Hid (Below w.heap.size w ((w.alloc (.cells #[.string a, .string s, .slice p n c] 31)).alloc (.cells #[.string a, .string s, .slice q n d] 31))) := bA
  clear hp hq bA
  go_enter Tryz.func10, Tryz.ntmps10
  go_wp2_with fail
  refine (eqSyms p q n c d S _ hn hp2 hq2).mono ?_
  rintro e w2 ⟨rfl, hb2⟩
  have B2 := HB.out.trans (hb2.mono HB.out.size)
  clear hb2 hp2 hq2
  go_wp2_with fail
  go_ret
  exact ⟨rfl, B2⟩
end Go.Proofs.YtelogjpjglohoaaGreatDoor

namespace Go.Proofs.YtelogjpjglohoaaGreatDoor
open Go.RowKit

theorem ret_bool {a b : Bool} (h : a = b) : Ending.returned (.bool a) = .returned (.bool b) := by rw [h]

theorem isDigit_any (c : Int) (w : World) :
    Calls Tryz.prog 73 #[.int .u8 c] w fun e w' => e = .returned (.bool (digitB c)) ∧ w' = w := by
  by_cases h1 : 48 ≤ c <;> by_cases h2 : c ≤ 57
  all_goals
    go_enter Tryz.func73, Tryz.ntmps73
    go_wp2
    go_ret
    exact ⟨ret_bool (by rw [Bool.eq_iff_iff]; simp [digitB]; omega), rfl⟩

theorem l00Digit_any (c : Int) (w : World) :
    Calls Tryz.prog 94 #[.int .u8 c] w fun e w' => e = .returned (.bool (digitB c)) ∧ w' = w := by
  by_cases h1 : 48 ≤ c <;> by_cases h2 : c ≤ 57
  all_goals
    go_enter Tryz.func94, Tryz.ntmps94
    go_wp2
    go_ret
    exact ⟨ret_bool (by rw [Bool.eq_iff_iff]; simp [digitB]; omega), rfl⟩

theorem isLetter_any (c : Int) (w : World) :
    Calls Tryz.prog 74 #[.int .u8 c] w fun e w' => e = .returned (.bool (letterB c)) ∧ w' = w := by
  by_cases h1 : 97 ≤ c <;> by_cases h2 : c ≤ 122 <;> by_cases h3 : 65 ≤ c <;> by_cases h4 : c ≤ 90
  all_goals first
    | omega
    | (go_enter Tryz.func74, Tryz.ntmps74
       go_wp2
       go_ret
       exact ⟨ret_bool (by rw [Bool.eq_iff_iff]; simp [letterB]; omega), rfl⟩)

theorem l00Letter_any (c : Int) (w : World) :
    Calls Tryz.prog 93 #[.int .u8 c] w fun e w' => e = .returned (.bool (letterB c)) ∧ w' = w := by
  by_cases h1 : 97 ≤ c <;> by_cases h2 : c ≤ 122 <;> by_cases h3 : 65 ≤ c <;> by_cases h4 : c ≤ 90
  all_goals first
    | omega
    | (go_enter Tryz.func93, Tryz.ntmps93
       go_wp2
       go_ret
       exact ⟨ret_bool (by rw [Bool.eq_iff_iff]; simp [letterB]; omega), rfl⟩)
end Go.Proofs.YtelogjpjglohoaaGreatDoor
