/- Objects: what is wrong with them, plain. -/
import Derived.Test.YtdcjddiigipdmaaObjO
import Derived.Test.YtdcjddiigipdmaaPlain
import Derived.Test.YtdcjddiigipdmaaFrmC
namespace Go.Proofs.Ytdcjddiigipdmaa
open Go Go.RowKit
set_option linter.unusedVariables false

/-- The first of n that has a fault, and its fault. -/
def fstF (n : Nat) (f : Nat → Int) : Int × Int := match (List.range n).find? (fun i => f i != 0) with | some i => ((i : Int), f i) | none => (0, 0)
theorem fstF_at {n k : Nat} {f : Nat → Int} (hk : k < n) (h0 : ∀ j, j < k → f j = 0) (h : f k ≠ 0) : fstF n f = ((k : Int), f k) := by
  have e : (List.range n).find? (fun i => f i != 0) = some k := by
    rw [List.find?_range_eq_some]
    refine ⟨by simpa using h, by simpa using hk, fun j hj => by simp [h0 j hj]⟩
  unfold fstF
  rw [e]
theorem fstF_none {n : Nat} {f : Nat → Int} (h0 : ∀ j, j < n → f j = 0) : fstF n f = (0, 0) := by
  have e : (List.range n).find? (fun i => f i != 0) = none := by
    rw [List.find?_eq_none]
    intro x hx
    simp [h0 x (List.mem_range.1 hx)]
  unfold fstF
  rw [e]
theorem fstF_zero {n : Nat} {f : Nat → Int} (h : (fstF n f).2 = 0) : ∀ j, j < n → f j = 0 := by
  unfold fstF at h
  split at h
  · rename_i i hi
    have := List.find?_some hi
    simp at this
    exact absurd h this
  · rename_i hi
    intro j hj
    have := List.find?_eq_none.1 hi j (List.mem_range.2 hj)
    simpa using this
theorem fstF_pair {n : Nat} {f : Nat → Int} (h : (fstF n f).2 = 0) : fstF n f = (0, 0) := fstF_none (fstF_zero h)

/-- The name of a unit. -/
def unitNm (o : ObjD) (u : Nat) : ByteArray := if u < o.nf then (o.F u).nm else (o.D (u - o.nf)).nm
theorem unitNm_f {o : ObjD} {u : Nat} (h : u < o.nf) : unitNm o u = (o.F u).nm := if_pos h
theorem unitNm_d {o : ObjD} {u : Nat} : unitNm o (o.nf + u) = (o.D u).nm := by unfold unitNm; rw [if_neg (by omega), Nat.add_sub_cancel_left]
/-- An earlier unit has its name. -/
def takenB (o : ObjD) (u : Nat) : Bool := (List.range u).any fun k => (unitNm o k).toList == (unitNm o u).toList
theorem takenB_iff {o : ObjD} {u : Nat} : takenB o u = true ↔ ∃ k, k < u ∧ ((unitNm o k).toList == (unitNm o u).toList) = true := by
  unfold takenB
  rw [List.any_eq_true]
  constructor
  · rintro ⟨k, h1, h2⟩; exact ⟨k, List.mem_range.1 h1, h2⟩
  · rintro ⟨k, h1, h2⟩; exact ⟨k, List.mem_range.2 h1, h2⟩
theorem takenB_no {o : ObjD} {u : Nat} (h : ∀ k, k < u → ((unitNm o k).toList == (unitNm o u).toList) = false) : takenB o u = false := by
  cases e : takenB o u with
  | false => rfl
  | true =>
    obtain ⟨k, h1, h2⟩ := takenB_iff.1 e
    rw [h k h1] at h2
    cases h2
/-- A length of code that is right; of data. -/
def codeB (n : Nat) : Bool := decide (n % 4 = 0 ∧ 20 ≤ n ∧ n ≤ 256)
def datumB (n : Nat) : Bool := decide (n % 8 = 0 ∧ 8 ≤ n ∧ n ≤ 64)
def fltF (o : ObjD) (i : Nat) : Int :=
  if nameB (o.F i).nm = false then 3 else if takenB o i = true then 24 else if frB (o.F i).fr = false then 17 else if codeB (o.F i).cd.size = false then 8 else 0
def fltD (o : ObjD) (i : Nat) : Int :=
  if nameB (o.D i).nm = false then 3 else if takenB o (o.nf + i) = true then 24 else if datumB (o.D i).bs.size = false then 8 else 0
/-- How many places a unit has; 0: there is none. -/
def unitN (o : ObjD) (u : Int) : Int :=
  if u < 0 ∨ (o.nf + o.nd : Nat) ≤ u then 0 else if u < o.nf then ((o.F u.toNat).cd.size : Int) / 4 else ((o.D (u.toNat - o.nf)).bs.size : Int) / 8
/-- It may have such a relocation. -/
def mayB (o : ObjD) (u k : Int) : Bool := if u < o.nf then decide (1 ≤ k ∧ k ≤ 8) else decide (k = 9)
/-- A relocation may stand behind another. -/
def behB (a b : RelD) : Bool := decide (b.un < a.un ∨ (a.un = b.un ∧ b.pl < a.pl))
def fltR (o : ObjD) (i : Nat) : Int :=
  if (o.R i).pl < 0 ∨ unitN o (o.R i).un ≤ (o.R i).pl then 4 else if mayB o (o.R i).un (o.R i).kd = false then 26 else if nameB (o.R i).sy = false then 3
  else if (o.R i).ad < -2147483648 ∨ 2147483647 < (o.R i).ad then 4 else if 0 < i ∧ behB (o.R i) (o.R (i - 1)) = false then 24 else 0
def fltS (o : ObjD) (i : Nat) : Int := if (o.S i).id < 0 ∨ 255 < (o.S i).id then 4 else if 0 < i ∧ (o.S i).id ≤ (o.S (i - 1)).id then 24 else 0
/-- The fault of the whole. -/
def wholeO (o : ObjD) : Int :=
  if nameB o.nm = false then 3 else if o.dp < 0 ∨ 6 ≤ o.dp then 27 else if o.nf = 0 then 5 else if 4 < o.nf ∨ 4 < o.nd ∨ 32 < o.nr ∨ 4 < o.ns then 6 else 0
/-- What the check tells. -/
def lintO (o : ObjD) : Int × Int :=
  if wholeO o ≠ 0 then (0, wholeO o) else if (fstF o.nf (fltF o)).2 ≠ 0 then fstF o.nf (fltF o) else if (fstF o.nd (fltD o)).2 ≠ 0 then fstF o.nd (fltD o) else if (fstF o.nr (fltR o)).2 ≠ 0 then fstF o.nr (fltR o) else fstF o.ns (fltS o)
theorem wholeO_ok {o : ObjD} (h : wholeO o = 0) : nameB o.nm = true ∧ (0 ≤ o.dp ∧ o.dp ≤ 5) ∧ 0 < o.nf ∧ o.nf ≤ 4 ∧ o.nd ≤ 4 ∧ o.nr ≤ 32 ∧ o.ns ≤ 4 := by
  unfold wholeO at h
  split at h
  · omega
  rename_i h1
  split at h
  · omega
  rename_i h2
  split at h
  · omega
  rename_i h3
  split at h
  · omega
  rename_i h4
  refine ⟨by cases e : nameB o.nm <;> simp_all, ?_, ?_, ?_, ?_, ?_, ?_⟩ <;> omega
end Go.Proofs.Ytdcjddiigipdmaa
