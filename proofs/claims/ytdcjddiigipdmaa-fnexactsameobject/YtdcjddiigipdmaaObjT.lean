/- An object's text, plain. -/
import Derived.Test.YtdcjddiigipdmaaWrtP
import Derived.Test.YtdcjddiigipdmaaObjB
namespace Go.Proofs.Ytdcjddiigipdmaa
open Go Go.RowKit
set_option linter.unusedVariables false

/-- A number's bytes. -/
def leN (v : Int) (n : Nat) : List UInt8 := leL (u64 v) n
theorem leN_len (v : Int) (n : Nat) : (leN v n).length = n := leL_len _ _
theorem leT_N (v : Int) (n : Nat) : (leT v n).data.toList = leN v n := rfl
def bitI (b : Bool) : Int := if b then 1 else 0
def fnL (d : FunD) : List UInt8 := leN d.nm.size 1 ++ d.nm.data.toList ++ leN (bitI d.rp) 1 ++ leN d.fr 1 ++ leN ((d.cd.size : Int) / 4) 1 ++ d.cd.data.toList
def dtL (d : DatD) : List UInt8 := leN d.nm.size 1 ++ d.nm.data.toList ++ leN d.bs.size 1 ++ d.bs.data.toList
def rlL (d : RelD) : List UInt8 := leN d.un 1 ++ leN d.pl 1 ++ leN d.kd 1 ++ leN d.sy.size 1 ++ d.sy.data.toList ++ leN d.ad 4
def shL (d : ShaD) : List UInt8 := leN d.id 1 ++ leN (bitI d.fe) 1
theorem fnL_len (d : FunD) : (fnL d).length = d.nm.size + d.cd.size + 4 := by
  unfold fnL
  simp only [List.length_append, leN_len]
  rw [len_toList, len_toList]
  omega
theorem dtL_len (d : DatD) : (dtL d).length = d.nm.size + d.bs.size + 2 := by
  unfold dtL
  simp only [List.length_append, leN_len]
  rw [len_toList, len_toList]
  omega
theorem rlL_len (d : RelD) : (rlL d).length = d.sy.size + 8 := by
  unfold rlL
  simp only [List.length_append, leN_len]
  rw [len_toList]
  omega
theorem shL_len (d : ShaD) : (shL d).length = 2 := by
  unfold shL
  simp only [List.length_append, leN_len]
/-- The first m of a list of texts, one behind the other. -/
def catL (f : Nat → List UInt8) : Nat → List UInt8
  | 0 => []
  | m + 1 => catL f m ++ f m
theorem catL_len {f : Nat → List UInt8} {K n : Nat} (h : ∀ i, i < n → (f i).length ≤ K) : ∀ m, m ≤ n → (catL f m).length ≤ K * m
  | 0, _ => by simp [catL]
  | m + 1, hm => by
    have h1 := catL_len h m (by omega)
    have h2 := h m (by omega)
    show (catL f m ++ f m).length ≤ _
    rw [List.length_append, Nat.mul_succ]
    omega
def hdL (o : ObjD) : List UInt8 := [80, 79, 66, 49] ++ leN o.nm.size 1 ++ o.nm.data.toList ++ leN o.dp 1 ++ leN o.nf 1
def cF (o : ObjD) (m : Nat) : List UInt8 := catL (fun i => fnL (o.F i)) m
def cD (o : ObjD) (m : Nat) : List UInt8 := catL (fun i => dtL (o.D i)) m
def cR (o : ObjD) (m : Nat) : List UInt8 := catL (fun i => rlL (o.R i)) m
def cS (o : ObjD) (m : Nat) : List UInt8 := catL (fun i => shL (o.S i)) m
def preD (o : ObjD) : List UInt8 := hdL o ++ cF o o.nf ++ leN o.nd 1
def preR (o : ObjD) : List UInt8 := preD o ++ cD o o.nd ++ leN o.nr 1
def preS (o : ObjD) : List UInt8 := preR o ++ cR o o.nr ++ leN o.ns 1
def objL (o : ObjD) : List UInt8 := preS o ++ cS o o.ns
/-- An object that is not great. -/
structure SmallO (o : ObjD) : Prop where
  nm : o.nm.size ≤ 20
  nf : o.nf ≤ 4
  nd : o.nd ≤ 4
  nr : o.nr ≤ 32
  ns : o.ns ≤ 4
  f : ∀ i, i < o.nf → (o.F i).nm.size ≤ 20 ∧ (o.F i).cd.size ≤ 256
  d : ∀ i, i < o.nd → (o.D i).nm.size ≤ 20 ∧ (o.D i).bs.size ≤ 64
  r : ∀ i, i < o.nr → (o.R i).sy.size ≤ 20
theorem hdL_len (o : ObjD) : (hdL o).length = o.nm.size + 7 := by
  unfold hdL
  simp only [List.length_append, leN_len]
  rw [len_toList]
  simp only [List.length_cons, List.length_nil]
  omega
theorem SmallO.lF {o : ObjD} (h : SmallO o) {m : Nat} (hm : m ≤ o.nf) : (cF o m).length ≤ 1120 := by
  have h1 := catL_len (f := fun i => fnL (o.F i)) (K := 280) (n := o.nf) (fun i hi => by
    show (fnL (o.F i)).length ≤ _
    rw [fnL_len]; have := h.f i hi; omega) m hm
  have h2 := h.nf
  show (catL _ m).length ≤ _
  omega
theorem SmallO.lD {o : ObjD} (h : SmallO o) {m : Nat} (hm : m ≤ o.nd) : (cD o m).length ≤ 344 := by
  have h1 := catL_len (f := fun i => dtL (o.D i)) (K := 86) (n := o.nd) (fun i hi => by
    show (dtL (o.D i)).length ≤ _
    rw [dtL_len]; have := h.d i hi; omega) m hm
  have h2 := h.nd
  show (catL _ m).length ≤ _
  omega
theorem SmallO.lR {o : ObjD} (h : SmallO o) {m : Nat} (hm : m ≤ o.nr) : (cR o m).length ≤ 896 := by
  have h1 := catL_len (f := fun i => rlL (o.R i)) (K := 28) (n := o.nr) (fun i hi => by
    show (rlL (o.R i)).length ≤ _
    rw [rlL_len]; have := h.r i hi; omega) m hm
  have h2 := h.nr
  show (catL _ m).length ≤ _
  omega
theorem SmallO.lS {o : ObjD} (h : SmallO o) {m : Nat} (hm : m ≤ o.ns) : (cS o m).length ≤ 8 := by
  have h1 := catL_len (f := fun i => shL (o.S i)) (K := 2) (n := o.ns) (fun i hi => by
    show (shL (o.S i)).length ≤ _
    rw [shL_len]; omega) m hm
  have h2 := h.ns
  show (catL _ m).length ≤ _
  omega
theorem SmallO.pH {o : ObjD} (h : SmallO o) : (hdL o).length ≤ 27 := by rw [hdL_len]; have := h.nm; omega
theorem SmallO.pD {o : ObjD} (h : SmallO o) : (preD o).length ≤ 1148 := by
  have h1 := h.pH
  have h2 := h.lF (Nat.le_refl _)
  unfold preD
  simp only [List.length_append, leN_len]
  omega
theorem SmallO.pR {o : ObjD} (h : SmallO o) : (preR o).length ≤ 1493 := by
  have h1 := h.pD
  have h2 := h.lD (Nat.le_refl _)
  unfold preR
  simp only [List.length_append, leN_len]
  omega
theorem SmallO.pS {o : ObjD} (h : SmallO o) : (preS o).length ≤ 2390 := by
  have h1 := h.pR
  have h2 := h.lR (Nat.le_refl _)
  unfold preS
  simp only [List.length_append, leN_len]
  omega
theorem SmallO.pO {o : ObjD} (h : SmallO o) : (objL o).length ≤ 2398 := by
  have h1 := h.pS
  have h2 := h.lS (Nat.le_refl _)
  unfold objL
  rw [List.length_append]
  omega
theorem nameB_20 {s : ByteArray} (h : nameB s = true) : s.size ≤ 20 := by
  by_cases hl : 20 < s.size
  · rw [nameB_long s hl] at h; cases h
  · omega
theorem fltR_sy {o : ObjD} {i : Nat} (h : fltR o i = 0) : nameB (o.R i).sy = true := by
  unfold fltR at h
  split at h
  · omega
  split at h
  · omega
  split at h
  · omega
  rename_i h3
  cases e : nameB (o.R i).sy <;> simp_all
/-- An object that is right is not great. -/
theorem small_ok {o : ObjD} (h : (lintO o).2 = 0) : SmallO o := by
  obtain ⟨h1, h2, h3, h4, h5⟩ := lintO_ok h
  obtain ⟨a, _, _, b, c, d, e⟩ := wholeO_ok h1
  exact ⟨nameB_20 a, b, c, d, e, fun i hi => ⟨nameB_20 (fltF_ok (h2 i hi)).1, (codeB_iff.1 (fltF_ok (h2 i hi)).2.2.2).2.2⟩, fun i hi => ⟨nameB_20 (fltD_ok (h3 i hi)).1, (datumB_iff.1 (fltD_ok (h3 i hi)).2.2).2.2⟩, fun i hi => nameB_20 (fltR_sy (h4 i hi))⟩
end Go.Proofs.Ytdcjddiigipdmaa
