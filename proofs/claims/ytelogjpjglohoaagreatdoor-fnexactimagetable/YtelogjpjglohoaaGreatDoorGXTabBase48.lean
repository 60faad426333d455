/- What the check of an image tells, of its functions too; the model's questions to images. The model's questions to images: AddressOf, SymbolNamed, SymbolAt. Marks: a number's text. Lists of Entry (gen_rec.py). ImageTable: the model's list of entries. Contracts of the library's functions, proved once by the kit, laid at this seat's dump. ImageTable: the program's list of entries. -/
import Derived.Test.YtelogjpjglohoaaGreatDoorGXTabBase40
import Derived.Test.YtelogjpjglohoaaGreatDoorGXTabBase47
import Derived.Test.YtelogjpjglohoaaGreatDoorGXTabBase0
import Derived.Laws.IdiomStrings
import Derived.Deep.AppendLies
import Derived.Test.YtelogjpjglohoaaGreatDoorGXTabBase39
import Derived.Deep.RegionHeld3
import Derived.Deep.RegionLaw
import Derived.Shelf.LaysM
import Derived.Shelf.Strconv.Clone
import Derived.Shelf.Slices.Turned
import Derived.Test.YtelogjpjglohoaaGreatDoorProg
import Derived.Test.YtelogjpjglohoaaGreatDoorGXTabBase38
namespace Go.Proofs.YtelogjpjglohoaaGreatDoor
open Go Go.RowKit
set_option linter.unusedVariables false

/-- What the check tells of function i: the model's and the program's. -/
def LintAt (c : ByteArray) (S : Nat → SymD) (n i : Nat) (q : Int × Int) : Prop :=
  (∀ pc cc w, IntsAt w pc (entU S n) → Calls Tryz.prog 62 #[.string (fnT c S i), .int .i64 (plI' S i), .int .i64 (S i).fr, .slice pc (entU S n).length cc] w fun e w' => TwoN w.heap.size q.1 q.2 w e w') ∧
  (∀ pc cc w, Laid w → IntsAt w pc (entU S n) → Calls Tryz.prog 88 #[.string (fnT c S i), .int .i64 (plI' S i), .int .i64 (S i).fr, .slice pc (entU S n).length cc] w fun e w' => TwoN w.heap.size q.1 q.2 w e w')
theorem lint_all (c s : ByteArray) (n : Nat) (S : Nat → SymD) (hw : ∀ i, i < n → (S i).wf) : ∃ L : Nat → Int × Int, n ≤ 16 ∧ c.size ≤ 1024 ∧ s.size ≤ 256 ∧ SymsIs n c.size s.size S 0 0 → ∀ i, i < n → (S i).kd = 1 → LintAt c S n i (L i) := by
  have key : ∀ i, ∃ q : Int × Int, n ≤ 16 ∧ c.size ≤ 1024 ∧ s.size ≤ 256 ∧ SymsIs n c.size s.size S 0 0 → i < n → (S i).kd = 1 → LintAt c S n i q := by
    intro i
    by_cases h : (n ≤ 16 ∧ c.size ≤ 1024 ∧ s.size ≤ 256 ∧ SymsIs n c.size s.size S 0 0) ∧ i < n ∧ (S i).kd = 1
    · obtain ⟨⟨h1, h2, h3, h4⟩, h5, h6⟩ := h
      obtain ⟨f0, f1, f2⟩ := fn_at h4.all (by omega) (by omega) h5 h6
      have hsz : (fnT c S i).size ≤ 65536 := by
        unfold fnT
        rw [ByteArray.size_extract]
        omega
      have hp : (Lit.int .i64 (plI' S i)).wf = true := by
        unfold plI'
        rw [if_pos h6, Lit.wf_int_iff, IntKind.min_i64, IntKind.max_i64]
        omega
      obtain ⟨x, y, hs, hi⟩ := lintIn (fnT c S i) (plI' S i) (S i).fr (entU S n) hsz (by have := entU_len S n; omega) hp (hw i h5).2.2.2.2
      exact ⟨(x, y), fun _ _ _ => ⟨hs, hi⟩⟩
    · exact ⟨(0, 0), fun a b d => absurd ⟨a, b, d⟩ h⟩
  exact ⟨fun i => Classical.choose (key i), fun h i hi hk => Classical.choose_spec (key i) h hi hk⟩

/-- An answer of three numbers. -/
def ThreeN (B : Nat) (x y z : Int) (w : World) (e : Ending) (w' : World) : Prop := e = .returned (.tuple #[.int .i64 x, .int .i64 y, .int .i64 z]) ∧ Below B w w'
theorem specOK (c s : ByteArray) (p : Option Addr) (n kk : Nat) (S : Nat → SymD) (x y z : Int) (w : World) (h : ∀ w', SymsAt w' p n S → Calls Tryz.prog 40 #[.agg #[.string c, .string s, .slice p n kk]] w' fun e w'' => ThreeN w'.heap.size x y z w' e w'') (hp : SymsAt w p n S) :
    Calls Tryz.prog 21 #[.agg #[.string c, .string s, .slice p n kk]] w fun e w' => e = .returned (.bool (z == 0)) ∧ Below w.heap.size w w' := by
  have bA := grown1' w (.cells #[.string c, .string s, .slice p n kk] 31)
  have H := h _ (hp.below bA)
  go_enter Tryz.func21, Tryz.ntmps21
  go_wp2_with fail
  refine H.mono ?_
  rintro e w2 ⟨rfl, hb2⟩
  go_wp2_with fail
  go_ret
  exact ⟨rfl, bA.trans (hb2.mono bA.size)⟩
end Go.Proofs.YtelogjpjglohoaaGreatDoor

namespace Go.Proofs.YtelogjpjglohoaaGreatDoor
open Go Go.RowKit
set_option linter.unusedVariables false

/-- Of an image that is right: where its symbols lie. -/
structure SymsOK (n : Nat) (S : Nat → SymD) : Prop where
  n16 : n ≤ 16
  pl : ∀ i, i < n → 0 ≤ (S i).pl ∧ (S i).pl ≤ 1048576
  sz : ∀ i, i < n → 1 ≤ (S i).sz ∧ (S i).sz ≤ 1048576
theorem ImgIs.right {n C D : Nat} {S : Nat → SymD} {L : Nat → Int × Int} {x y : Int} (h : ImgIs n C D S L x y 0) : SymsOK n S := by
  have key : n ≤ 16 ∧ C ≤ 1024 ∧ D ≤ 256 ∧ ∀ j, j < n → fltI C D S j = 0 := by
    generalize hz : (0 : Int) = z at h
    cases h with
    | many => cases hz
    | size => cases hz
    | syms x y a b d hs hy => exact absurd hz.symm hy
    | fn k a b d hs hk hf hb hn => exact absurd hz.symm hn
    | ok a b d hs => exact ⟨a, b, d, hs.all⟩
  obtain ⟨k1, k2, k3, k4⟩ := key
  refine ⟨k1, fun i hi => pl_at k4 (by omega) (by omega) (by omega) (by omega) hi, fun i hi => ?_⟩
  obtain ⟨_, _, h3⟩ := flt_ok (k4 i hi)
  obtain ⟨⟨a, b⟩, c, d⟩ := cdU_bd (C := C) (D := D) i (by omega) (by omega) (fun j hj => k4 j (by omega))
  rcases h3 with ⟨_, h4, h5, h6⟩ | ⟨_, h4, h5, h6, h7, _⟩
  · exact ⟨h5, by omega⟩
  · exact ⟨h6, by omega⟩

/-- The model's ImageOK tells b. -/
def OKIs (c s : ByteArray) (n : Nat) (S : Nat → SymD) (b : Bool) : Prop := ∀ p kk w, SymsAt w p n S → Calls Tryz.prog 21 #[.agg #[.string c, .string s, .slice p n kk]] w fun e w' => e = .returned (.bool b) ∧ Below w.heap.size w w'

/-- An answer of two numbers. -/
def TwoI (B : Nat) (x y : Int) (w : World) (e : Ending) (w' : World) : Prop := e = .returned (.tuple #[.int .i64 x, .int .i64 y]) ∧ Below B w w'

/-- AddressOf: what it answers. -/
def adX (S : Nat → SymD) (n : Nat) (b : Bool) (m : Int) : Int × Int := if b = false then (0, 1) else if m < 0 ∨ (n : Int) ≤ m then (0, 23) else (plI' S m.toNat, 0)
/-- The first symbol of a name. -/
inductive NamedIs (n : Nat) (S : Nat → SymD) (nm : ByteArray) : Int → Int → Prop
  | yes (k : Nat) (hk : k < n) (h : ∀ j, j < k → ((S j).nm.toList == nm.toList) = false) (he : ((S k).nm.toList == nm.toList) = true) : NamedIs n S nm k 0
  | no (h : ∀ j, j < n → ((S j).nm.toList == nm.toList) = false) : NamedIs n S nm 0 23
theorem named_ex (n : Nat) (S : Nat → SymD) (nm : ByteArray) : ∃ x y, NamedIs n S nm x y := by
  rcases first_ofP (fun j => ((S j).nm.toList == nm.toList) = false) n with h | ⟨k, h1, h2, h3⟩
  · exact ⟨_, _, .no h⟩
  · exact ⟨_, _, .yes k h1 h2 (by cases e : ((S k).nm.toList == nm.toList) <;> simp_all)⟩
/-- The symbol in which an address lies. -/
inductive AtIs (n : Nat) (S : Nat → SymD) (a : Int) : Int → Int → Int → Prop
  | yes (k : Nat) (hk : k < n) (h : ∀ j, j < k → ¬ (plI' S j ≤ a ∧ a < plI' S j + (S j).sz)) (he : plI' S k ≤ a ∧ a < plI' S k + (S k).sz) : AtIs n S a k (a - plI' S k) 0
  | no (h : ∀ j, j < n → ¬ (plI' S j ≤ a ∧ a < plI' S j + (S j).sz)) : AtIs n S a 0 0 23
theorem at_ex (n : Nat) (S : Nat → SymD) (a : Int) : ∃ x y z, AtIs n S a x y z := by
  rcases first_ofP (fun j => ¬ (plI' S j ≤ a ∧ a < plI' S j + (S j).sz)) n with h | ⟨k, h1, h2, h3⟩
  · exact ⟨_, _, _, .no h⟩
  · exact ⟨_, _, _, .yes k h1 h2 (Classical.byContradiction h3)⟩
/-- An answer of one truth. -/
def OneB (B : Nat) (x : Bool) (w : World) (e : Ending) (w' : World) : Prop := e = .returned (.bool x) ∧ Below B w w'
/-- The program's ImageOK tells b. -/
def PrOK (c s : ByteArray) (n : Nat) (S : Nat → SymD) (b : Bool) : Prop := ∀ p kk w, n ≤ kk → Laid w → SymsAt w p n S → Calls Tryz.prog 24 #[.agg #[.string c, .string s, .slice p n kk]] w fun e w' => OneB w.heap.size b w e w'
end Go.Proofs.YtelogjpjglohoaaGreatDoor

namespace Go.Proofs.YtelogjpjglohoaaGreatDoor
open Go Go.RowKit
set_option linter.unusedVariables false

theorem convOneM (w : World) (x : UInt8) : (convert 38 9 (.slice (some ⟨w.heap.size, 0, none⟩) 1 1)).run Tryz.prog (w.alloc (.cells #[.int .u8 (x.toNat : Int)] 5)) = .ok (.string ⟨#[x]⟩) (w.alloc (.cells #[.int .u8 (x.toNat : Int)] 5)) :=
  run_convert_bytes_back (w.alloc (.cells #[.int .u8 (x.toNat : Int)] 5)) 38 9 5 ⟨w.heap.size, 0, none⟩ 1 [x] Tryz.underlying38 Tryz.underlying5 Tryz.underlying9 (fun j hj => by
    obtain rfl : j = 0 := by simp at hj; omega
    exact World.news_of_block (cs := #[.int .u8 (x.toNat : Int)]) (t := 5) (fr := (0, 0)) (heap_alloc_new w _) 0 _ rfl)
def mdig (u : Nat) : UInt8 := UInt8.ofNat (48 + u % 10)
theorem mdig_nat (u : Nat) : ((mdig u).toNat : Int) = 48 + u % 10 := by
  unfold mdig
  rw [UInt8.toNat_ofNat_of_lt' (by unfold UInt8.size; omega)]
  omega
theorem mwrap8 (u : Nat) : IntKind.u8.wrap ((mdig u).toNat : Int) = ((mdig u).toNat : Int) := by
  rw [mdig_nat]
  unfold IntKind.wrap
  simp [IntKind.bits, IntKind.signed]
  omega
theorem mwrap64 (x : Int) (h0 : -9223372036854775808 ≤ x) (h1 : x ≤ 9223372036854775807) : IntKind.i64.wrap x = x := by
  unfold IntKind.wrap
  simp [IntKind.bits, IntKind.signed]
  omega
/-- The digits of k ahead of a; f rounds at most. -/
def mtGo : Nat → Nat → ByteArray → ByteArray
  | 0, _, a => a
  | f + 1, k, a => if k = 0 then a else mtGo f (k / 10) (⟨#[mdig k]⟩ ++ a)
theorem mtGo_zero (f : Nat) (a : ByteArray) : mtGo f 0 a = a := by cases f <;> simp [mtGo]
theorem mtGo_succ (f k : Nat) (a : ByteArray) (h : 0 < k) : mtGo (f + 1) k a = mtGo f (k / 10) (⟨#[mdig k]⟩ ++ a) := by
  show (if k = 0 then a else _) = _
  rw [if_neg (by omega)]
def mtS (k : Nat) : ByteArray := ⟨#[109]⟩ ++ mtGo k k ⟨#[]⟩

set_option maxRecDepth 100000 in
set_option maxHeartbeats 2000000 in
theorem markTextC (k : Nat) (w : World) (hk : 0 < k) (hK : k ≤ 90000000) :
    Calls Tryz.prog 30 #[.int .i64 k] w fun e w' => e = .returned (.string (mtS k)) ∧ Below w.heap.size w w' := by
  have hk0 : ¬ (k : Int) ≤ 0 := by omega
  go_enter Tryz.func30, Tryz.ntmps30
  go_wp2
  go_loopw [0, 3] (fun m o wr => ∃ (j f : Nat) (a : ByteArray), m = .int .i64 j ∧ o = .string a ∧ j ≤ f ∧ f ≤ k ∧ a.size + f ≤ k ∧ mtGo f j a = mtGo k k ⟨#[]⟩ ∧ Below w.heap.size w wr) (fun m _ _ => (intOf m).toNat)
  case atStart => exact ⟨k, k, _, rfl, rfl, Nat.le_refl _, Nat.le_refl _, Nat.le_of_eq (Nat.zero_add k), rfl, Below.refl _ _⟩
  case round =>
    obtain ⟨j, f, a, rfl, rfl, hjf, hfk, has, hgo, hB⟩ := hrel
    by_cases hj : 0 < j
    · cases f with
      | zero => omega
      | succ f =>
        rw [mtGo_succ f j a hj] at hgo
        have hx := mdig_nat j
        have hw := mwrap8 j
        obtain ⟨x, ex⟩ : ∃ x, mdig j = x := ⟨_, rfl⟩
        obtain ⟨q, eq⟩ : ∃ q, j / 10 = q := ⟨_, rfl⟩
        obtain ⟨r, er⟩ : ∃ r, j % 10 = r := ⟨_, rfl⟩
        rw [ex, eq] at hgo
        rw [ex] at hx hw
        have hv : 48 + (r : Int) = (x.toNat : Int) := by omega
        have hqd : (j : Int) / 10 = (q : Int) := by omega
        have hrd : (j : Int) % 10 = (r : Int) := by omega
        have hrt : (j : Int).tmod 10 = (r : Int) := by rw [Int.tmod_eq_emod_of_nonneg (by omega)]; exact hrd
        have hqt : (j : Int).tdiv 10 = (q : Int) := by rw [Int.tdiv_eq_ediv_of_nonneg (by omega)]; exact hqd
        have hqw : IntKind.i64.wrap (q : Int) = (q : Int) := mwrap64 _ (by omega) (by omega)
        have hxw : IntKind.i64.wrap (x.toNat : Int) = (x.toNat : Int) := mwrap64 _ (by omega) (by omega)
        have hm : ((j : Int) == -9223372036854775808) = false := by simp <;> omega
        have hqj : q < j := by omega
        have hqf : q ≤ f := by omega
        have hc := convOneM
        have hadd : ∀ w : World, (Op.stringOp .add ⟨#[x]⟩ a).run Tryz.prog w = .ok (.string (⟨#[x]⟩ ++ a)) w := fun w => run_string_add_sum w _ _ (by show 1 + a.size ≤ _; omega)
        have hsz : ((⟨#[x]⟩ : ByteArray) ++ a).size = 1 + a.size := by rw [ByteArray.size_append]; rfl
        clear hx ex eq er
        go_wp2
        go_roundw
        case rel => exact ⟨q, f, ⟨#[x]⟩ ++ a, rfl, rfl, hqf, by omega, by omega, hgo, hB.alloc hB.size _⟩
        case measure => simp [intOf]; omega
    · obtain rfl : j = 0 := by omega
      rw [mtGo_zero] at hgo
      subst hgo
      have hadd : ∀ w : World, (Op.stringOp .add ⟨#[109]⟩ (mtGo k k ⟨#[]⟩)).run Tryz.prog w = .ok (.string (⟨#[109]⟩ ++ mtGo k k ⟨#[]⟩)) w := fun w => run_string_add_sum w _ _ (by show 1 + _ ≤ _; omega)
      go_wp2
      go_ret
      exact ⟨rfl, hB⟩

end Go.Proofs.YtelogjpjglohoaaGreatDoor

namespace Go.Proofs.YtelogjpjglohoaaGreatDoor
open Go Go.RowKit Go.ChangeShapes Go.WideShapes Go.Deep
set_option linter.unusedVariables false

structure EntD where
  nm : ByteArray
  kd : Int
  pl : Int
  sz : Int
  fr : Int
  ow : Int
instance : Inhabited EntD := ⟨⟨ByteArray.empty, 0, 0, 0, 0, 0⟩⟩
def EntD.wf (d : EntD) : Prop := d.nm.size ≤ maxLen ∧ (Lit.int .i64 d.kd).wf = true ∧ (Lit.int .i64 d.pl).wf = true ∧ (Lit.int .i64 d.sz).wf = true ∧ (Lit.int .i64 d.fr).wf = true ∧ (Lit.int .i64 d.ow).wf = true
def entV (S : Nat → EntD) (i : Nat) : Value :=
  if i % 6 = 0 then .string (S (i / 6)).nm else if i % 6 = 1 then .int .i64 (S (i / 6)).kd else if i % 6 = 2 then .int .i64 (S (i / 6)).pl else if i % 6 = 3 then .int .i64 (S (i / 6)).sz else if i % 6 = 4 then .int .i64 (S (i / 6)).fr else .int .i64 (S (i / 6)).ow
theorem entV0 (S : Nat → EntD) (k : Nat) : entV S (k * 6) = .string (S k).nm := by unfold entV; rw [if_pos (by omega), show (k * 6) / 6 = k from by omega]
theorem entV1 (S : Nat → EntD) (k : Nat) : entV S (k * 6 + 1) = .int .i64 (S k).kd := by unfold entV; rw [if_neg (by omega), if_pos (by omega), show (k * 6 + 1) / 6 = k from by omega]
theorem entV2 (S : Nat → EntD) (k : Nat) : entV S (k * 6 + 2) = .int .i64 (S k).pl := by unfold entV; rw [if_neg (by omega), if_neg (by omega), if_pos (by omega), show (k * 6 + 2) / 6 = k from by omega]
theorem entV3 (S : Nat → EntD) (k : Nat) : entV S (k * 6 + 3) = .int .i64 (S k).sz := by unfold entV; rw [if_neg (by omega), if_neg (by omega), if_neg (by omega), if_pos (by omega), show (k * 6 + 3) / 6 = k from by omega]
theorem entV4 (S : Nat → EntD) (k : Nat) : entV S (k * 6 + 4) = .int .i64 (S k).fr := by unfold entV; rw [if_neg (by omega), if_neg (by omega), if_neg (by omega), if_neg (by omega), if_pos (by omega), show (k * 6 + 4) / 6 = k from by omega]
theorem entV5 (S : Nat → EntD) (k : Nat) : entV S (k * 6 + 5) = .int .i64 (S k).ow := by unfold entV; rw [if_neg (by omega), if_neg (by omega), if_neg (by omega), if_neg (by omega), if_neg (by omega), show (k * 6 + 5) / 6 = k from by omega]
theorem VRow.ent {w : World} {b o n : Nat} {S : Nat → EntD} (h : VRow w b o (n * 6) (entV S)) {k : Nat} (hk : k < n) :
    w.cell? ⟨b, o + k * 6, none⟩ = some (.string (S k).nm) ∧ w.cell? ⟨b, o + k * 6 + 1, none⟩ = some (.int .i64 (S k).kd) ∧ w.cell? ⟨b, o + k * 6 + 2, none⟩ = some (.int .i64 (S k).pl) ∧ w.cell? ⟨b, o + k * 6 + 3, none⟩ = some (.int .i64 (S k).sz) ∧ w.cell? ⟨b, o + k * 6 + 4, none⟩ = some (.int .i64 (S k).fr) ∧ w.cell? ⟨b, o + k * 6 + 5, none⟩ = some (.int .i64 (S k).ow) := by
  have k0 := h.nth hk (j := 0) (by omega)
  rw [Nat.add_zero, Nat.add_zero, entV0] at k0
  have k1 := h.nth hk (j := 1) (by omega)
  rw [entV1] at k1
  have k2 := h.nth hk (j := 2) (by omega)
  rw [entV2] at k2
  have k3 := h.nth hk (j := 3) (by omega)
  rw [entV3] at k3
  have k4 := h.nth hk (j := 4) (by omega)
  rw [entV4] at k4
  have k5 := h.nth hk (j := 5) (by omega)
  rw [entV5] at k5
  exact ⟨k0, k1, k2, k3, k4, k5⟩
abbrev EntsAt (w : World) (p : Option Addr) (n : Nat) (S : Nat → EntD) : Prop := RowsAt w p n 6 (entV S)

section
variable {H : Type} {enc : TypeId × Value → H} {P : Program} {w : World} {base : Nat} {spare : Nat → Bool} {held : Bool}
theorem open_ents {t e : TypeId} {f0 f1 f2 f3 f4 f5 : Field} {fuel : Nat} {a : Option Addr} {len cap : Nat} {x : DataW H × List MemPlace} (ht : P.underlying t = some (.slice e)) (he : P.underlying e = some (.struct #[f0, f1, f2, f3, f4, f5])) (hone : oneCellFields P #[f0, f1, f2, f3, f4, f5] = true) (hC : P.cellsOf e = 6)
    (u0 : P.underlying f0.type = some .string) (u1 : P.underlying f1.type = some (.int .i64)) (u2 : P.underlying f2.type = some (.int .i64)) (u3 : P.underlying f3.type = some (.int .i64)) (u4 : P.underlying f4.type = some (.int .i64)) (u5 : P.underlying f5.type = some (.int .i64))
    (h : DataW.trod enc P w base spare held fuel t [.slice a len cap] = some x) : ∃ S, EntsAt w a len S ∧ (∀ i, i < len → (S i).wf) ∧ len ≤ cap ∧ cap ≤ maxLen := by
  rcases open_rows ht he hone hC h with ⟨rfl, rfl, rfl⟩ | ⟨ad, rfl, hl, hm, hx⟩
  · exact ⟨fun _ => default, .inl rfl, fun i hi => absurd hi (Nat.not_lt_zero _), Nat.le_refl _, Nat.zero_le _⟩
  have each : ∀ i, i < len → ∃ d : EntD, d.wf ∧ ∀ j, j < 6 → w.cell? ((ad.add (i * 6)).add j) = some (entV (fun _ => d) j) := by
    intro i hi
    obtain ⟨n, hf⟩ := hx i hi
    obtain ⟨v0, y0, c0, g0⟩ := hf 0 f0 rfl
    obtain ⟨v1, y1, c1, g1⟩ := hf 1 f1 rfl
    obtain ⟨v2, y2, c2, g2⟩ := hf 2 f2 rfl
    obtain ⟨v3, y3, c3, g3⟩ := hf 3 f3 rfl
    obtain ⟨v4, y4, c4, g4⟩ := hf 4 f4 rfl
    obtain ⟨v5, y5, c5, g5⟩ := hf 5 f5 rfl
    obtain ⟨a0, e0, _, w0⟩ := DataW.trod_string u0 g0
    obtain ⟨a1, e1, _, w1⟩ := DataW.trod_int u1 g1
    obtain ⟨a2, e2, _, w2⟩ := DataW.trod_int u2 g2
    obtain ⟨a3, e3, _, w3⟩ := DataW.trod_int u3 g3
    obtain ⟨a4, e4, _, w4⟩ := DataW.trod_int u4 g4
    obtain ⟨a5, e5, _, w5⟩ := DataW.trod_int u5 g5
    simp only [List.cons.injEq, and_true] at e0 e1 e2 e3 e4 e5
    subst e0 e1 e2 e3 e4 e5
    refine ⟨⟨a0, a1, a2, a3, a4, a5⟩, ⟨w0, w1, w2, w3, w4, w5⟩, fun j hj => ?_⟩
    have hj' : j = 0 ∨ j = 1 ∨ j = 2 ∨ j = 3 ∨ j = 4 ∨ j = 5 := by omega
    rcases hj' with rfl | rfl | rfl | rfl | rfl | rfl
    · exact c0
    · exact c1
    · exact c2
    · exact c3
    · exact c4
    · exact c5
  obtain ⟨S, hS⟩ := choose_lt each
  refine ⟨S, ?_, fun i hi => (hS i hi).1, hl, hm⟩
  by_cases h0 : len = 0
  · exact .inl h0
  · obtain ⟨b, o, rfl, hb, hv⟩ := vrow_of (w := w) (ad := ad) (k := 6) (n := len) (V := entV S) (by decide) (by omega) (fun i hi j hj => by
      rw [(hS i hi).2 j hj]
      have e1 : (i * 6 + j) / 6 = i := by omega
      have e2 : (i * 6 + j) % 6 = j := by omega
      have e3 : j % 6 = j := by omega
      unfold entV
      rw [e1, e2, e3])
    exact .inr ⟨b, o, rfl, hb, hv⟩
end
theorem Tryz.info_ent : (Tryz.prog.info? 46).map (fun i => (i.zero, i.size, i.bytes)) = some (some (.agg #[.string ByteArray.empty, .int .i64 0, .int .i64 0, .int .i64 0, .int .i64 0, .int .i64 0]), 6, 56) := by kernel_rfl
theorem eqEntC (a0 : ByteArray) (a1 : Int) (a2 : Int) (a3 : Int) (a4 : Int) (a5 : Int) (w : World) :
    Calls Tryz.prog 27 #[.agg #[.string a0, .int .i64 a1, .int .i64 a2, .int .i64 a3, .int .i64 a4, .int .i64 a5], .agg #[.string a0, .int .i64 a1, .int .i64 a2, .int .i64 a3, .int .i64 a4, .int .i64 a5]] w fun e w' => e = .returned (.bool true) ∧ Below w.heap.size w w' := by
  go_enter Tryz.func27, Tryz.ntmps27
  go_wp2
  go_ret
  exact ⟨rfl, ((Below.refl _ _).alloc (Nat.le_refl _) _).alloc (by simp) _⟩
set_option maxHeartbeats 2000000 in
theorem eqEnts (p q : Option Addr) (n c d : Nat) (S : Nat → EntD) (w : World) (hn : n ≤ 2000000) (hp : EntsAt w p n S) (hq : EntsAt w q n S) :
    Calls Tryz.prog 9 #[.slice p n c, .slice q n d] w fun e w' => e = .returned (.bool true) ∧ Below w.heap.size w w' := by
  go_enter Tryz.func9, Tryz.ntmps9
  go_wp2
  go_loopw [5] (fun i wr => ∃ k : Nat, k ≤ n ∧ i = .int .i64 k ∧ Below w.heap.size w wr) (fun i _ => n - (intOf i).toNat)
  case atStart => exact ⟨0, Nat.zero_le _, rfl, Below.refl _ _⟩
  case round =>
    obtain ⟨k, hk, rfl, hB⟩ := hrel
    by_cases hlt : k < n
    · rcases hp with hp | ⟨b, o, rfl, hb, hp⟩
      · omega
      rcases hq with hq | ⟨b', o', rfl, hb', hq⟩
      · omega
      obtain ⟨x0, x1, x2, x3, x4, x5⟩ := (hp.below hB hb).ent hlt
      obtain ⟨y0, y1, y2, y3, y4, y5⟩ := (hq.below hB hb').ent hlt
      clear hp hq
      go_wp2
      go_region_with ((go_at_call 27; refine (eqEntC _ _ _ _ _ _ _).mono ?_; rintro e w1 ⟨rfl, hb1⟩))
      all_goals
        have hbw : Below w.heap.size w w1 := by
          first
            | exact hB.trans (hb1.mono (by have := hB.size; simp; omega))
            | exact hB.drew.trans (hb1.mono (by have := hB.size; simp; omega))
        go_wp2
        go_roundw
        case rel => exact ⟨k + 1, by omega, by go_num, hbw⟩
        case measure => simp [intOf]; omega
    · go_wp2
      go_ret
      exact ⟨rfl, hB⟩
def mkEnt (s i : Nat) : EntD := ⟨mtS (s + 6 * i), ((s + 6 * i : Nat) : Int) + 1, ((s + 6 * i : Nat) : Int) + 1 + 1, ((s + 6 * i : Nat) : Int) + 1 + 1 + 1, ((s + 6 * i : Nat) : Int) + 1 + 1 + 1 + 1, ((s + 6 * i : Nat) : Int) + 1 + 1 + 1 + 1 + 1⟩
def mixEnt (s : Nat) (S : Nat → EntD) (k i : Nat) : EntD := if i < k then mkEnt s i else S i
theorem mixEnt_step (s k : Nat) (S : Nat → EntD) (i : Nat) : (if i = k * 6 + 5 then Value.int .i64 (mkEnt s k).ow else if i = k * 6 + 4 then .int .i64 (mkEnt s k).fr else if i = k * 6 + 3 then .int .i64 (mkEnt s k).sz else if i = k * 6 + 2 then .int .i64 (mkEnt s k).pl else if i = k * 6 + 1 then .int .i64 (mkEnt s k).kd else if i = k * 6 then .string (mkEnt s k).nm else entV (mixEnt s S k) i) = entV (mixEnt s S (k + 1)) i := by
  have hk : mixEnt s S (k + 1) k = mkEnt s k := by unfold mixEnt; rw [if_pos (Nat.lt_succ_self k)]
  by_cases e5 : i = k * 6 + 5
  · rw [if_pos e5, e5, entV5, hk]
  by_cases e4 : i = k * 6 + 4
  · rw [if_neg e5, if_pos e4, e4, entV4, hk]
  by_cases e3 : i = k * 6 + 3
  · rw [if_neg e5, if_neg e4, if_pos e3, e3, entV3, hk]
  by_cases e2 : i = k * 6 + 2
  · rw [if_neg e5, if_neg e4, if_neg e3, if_pos e2, e2, entV2, hk]
  by_cases e1 : i = k * 6 + 1
  · rw [if_neg e5, if_neg e4, if_neg e3, if_neg e2, if_pos e1, e1, entV1, hk]
  by_cases e0 : i = k * 6
  · rw [if_neg e5, if_neg e4, if_neg e3, if_neg e2, if_neg e1, if_pos e0, e0, entV0, hk]
  · rw [if_neg e5, if_neg e4, if_neg e3, if_neg e2, if_neg e1, if_neg e0]
    have hq : i / 6 ≠ k := by omega
    have hmx : mixEnt s S k (i / 6) = mixEnt s S (k + 1) (i / 6) := by
      unfold mixEnt
      by_cases h : i / 6 < k
      · rw [if_pos h, if_pos (by omega)]
      · rw [if_neg h, if_neg (by omega)]
    unfold entV
    rw [hmx]

set_option maxRecDepth 100000 in
set_option maxHeartbeats 4000000 in
theorem markEnts (B : Nat) (p : Option Addr) (n c s : Nat) (S : Nat → EntD) (w : World) (hn : n ≤ 1048576) (hs : s ≤ 40000000) (hs0 : 0 < s) (hBw : B ≤ w.heap.size) (ho : OwnR w B p n 6 (entV S)) :
    Calls Tryz.prog 12 #[.slice p n c, .int .i64 s] w fun e w' => e = .returned (.int .i64 ((s + 6 * n : Nat) : Int)) ∧ ButO (qn p n) w w' ∧ OwnR w' B p n 6 (entV (mkEnt s)) := by
  go_enter Tryz.func12, Tryz.ntmps12
  go_wp2
  go_loopw [1, 5] (fun m i wr => ∃ k : Nat, k ≤ n ∧ i = .int .i64 k ∧ m = .int .i64 ((s + 6 * k : Nat) : Int) ∧ ButO (qn p n) w wr ∧ OwnR wr B p n 6 (entV (mixEnt s S k))) (fun _ i _ => n - (intOf i).toNat)
  case atStart => exact ⟨0, Nat.zero_le _, rfl, by simp, ButO.refl _ _, ho⟩
  case round =>
    obtain ⟨k, hk, rfl, rfl, hB, hf⟩ := hrel
    by_cases hlt : k < n
    · rcases hf with h0 | ⟨g, rfl, hg, hgl, hf⟩
      · omega
      have hqn : qn (some ⟨g, 0, none⟩) n = some ⟨g, 0, none⟩ := if_neg (by omega)
      rw [hqn] at hB
      have HQN : Hid (qn (some ⟨g, 0, none⟩) n = some ⟨g, 0, none⟩) := hqn
      clear hqn
      have hms : mkEnt s k = ⟨mtS (s + 6 * k), ((s + 6 * k : Nat) : Int) + 1, ((s + 6 * k : Nat) : Int) + 1 + 1, ((s + 6 * k : Nat) : Int) + 1 + 1 + 1, ((s + 6 * k : Nat) : Int) + 1 + 1 + 1 + 1, ((s + 6 * k : Nat) : Int) + 1 + 1 + 1 + 1 + 1⟩ := rfl
      have hnx : s + 6 * (k + 1) = s + 6 * k + 6 := by omega
      have hu1 : s + 6 * k ≤ 50000000 := by omega
      have hu0 : 0 < s + 6 * k := by omega
      obtain ⟨u, hu⟩ : ∃ u, s + 6 * k = u := ⟨_, rfl⟩
      rw [hu] at hms hnx hu1 hu0 ⊢
      have hstep := mixEnt_step s k S
      rw [hms] at hstep
      have HST : Hid (∀ i, _) := hstep
      have HNX : Hid (s + 6 * (k + 1) = u + 6) := hnx
      clear hms hstep hnx hu ho
      have hfw : FRow wr g 0 (n * 6) (entV (mixEnt s S k)) := hf
      have hkm : k * 6 + 6 ≤ n * 6 := by omega
      clear hfw hBw
      go_wp2_with fail
      refine (markTextC (u) _ (by omega) (by omega)).mono ?_
      rintro e W0 ⟨rfl, hb0⟩
      have hB0 := hB.trans (ButO.of_below hb0)
      have hf0 := hf.below hb0 hgl
      have hg0 := Nat.lt_of_lt_of_le hgl hb0.size
      clear hf hB hgl hb0
      obtain ⟨v0, x0⟩ : ∃ v, W0.cell? ⟨g, k * 6, none⟩ = some v := ⟨_, by have := hf0.1 (k * 6) (by omega); rwa [Nat.zero_add] at this⟩
      have f0 := hf0.2 (k * 6) (by omega)
      rw [Nat.zero_add] at f0
      obtain ⟨v1, x1⟩ : ∃ v, W0.cell? ⟨g, k * 6 + 1, none⟩ = some v := ⟨_, by have := hf0.1 (k * 6 + 1) (by omega); rwa [Nat.zero_add] at this⟩
      have f1 := hf0.2 (k * 6 + 1) (by omega)
      rw [Nat.zero_add] at f1
      obtain ⟨v2, x2⟩ : ∃ v, W0.cell? ⟨g, k * 6 + 2, none⟩ = some v := ⟨_, by have := hf0.1 (k * 6 + 2) (by omega); rwa [Nat.zero_add] at this⟩
      have f2 := hf0.2 (k * 6 + 2) (by omega)
      rw [Nat.zero_add] at f2
      obtain ⟨v3, x3⟩ : ∃ v, W0.cell? ⟨g, k * 6 + 3, none⟩ = some v := ⟨_, by have := hf0.1 (k * 6 + 3) (by omega); rwa [Nat.zero_add] at this⟩
      have f3 := hf0.2 (k * 6 + 3) (by omega)
      rw [Nat.zero_add] at f3
      obtain ⟨v4, x4⟩ : ∃ v, W0.cell? ⟨g, k * 6 + 4, none⟩ = some v := ⟨_, by have := hf0.1 (k * 6 + 4) (by omega); rwa [Nat.zero_add] at this⟩
      have f4 := hf0.2 (k * 6 + 4) (by omega)
      rw [Nat.zero_add] at f4
      obtain ⟨v5, x5⟩ : ∃ v, W0.cell? ⟨g, k * 6 + 5, none⟩ = some v := ⟨_, by have := hf0.1 (k * 6 + 5) (by omega); rwa [Nat.zero_add] at this⟩
      have f5 := hf0.2 (k * 6 + 5) (by omega)
      rw [Nat.zero_add] at f5
      have HF1 : Hid (FRow _ g 0 (n * 6) _) := ((((((hf0.put (k * 6) (by omega) (.string (mtS (u)))).put (k * 6 + 1) (by omega) (.int .i64 ((u : Int) + 1))).put (k * 6 + 2) (by omega) (.int .i64 ((u : Int) + 1 + 1))).put (k * 6 + 3) (by omega) (.int .i64 ((u : Int) + 1 + 1 + 1))).put (k * 6 + 4) (by omega) (.int .i64 ((u : Int) + 1 + 1 + 1 + 1))).put (k * 6 + 5) (by omega) (.int .i64 ((u : Int) + 1 + 1 + 1 + 1 + 1)))
      have HB1 : Hid (ButO (some ⟨g, 0, none⟩) w _) := ((((((hB0.set (j := k * 6) (.string (mtS (u)))).set (j := k * 6 + 1) (.int .i64 ((u : Int) + 1))).set (j := k * 6 + 2) (.int .i64 ((u : Int) + 1 + 1))).set (j := k * 6 + 3) (.int .i64 ((u : Int) + 1 + 1 + 1))).set (j := k * 6 + 4) (.int .i64 ((u : Int) + 1 + 1 + 1 + 1))).set (j := k * 6 + 5) (.int .i64 ((u : Int) + 1 + 1 + 1 + 1 + 1)))
      have HG1 : Hid (g < (((((((W0).setCell ⟨g, k * 6, none⟩ (.string (mtS (u)))).setCell ⟨g, k * 6 + 1, none⟩ (.int .i64 ((u : Int) + 1))).setCell ⟨g, k * 6 + 2, none⟩ (.int .i64 ((u : Int) + 1 + 1))).setCell ⟨g, k * 6 + 3, none⟩ (.int .i64 ((u : Int) + 1 + 1 + 1))).setCell ⟨g, k * 6 + 4, none⟩ (.int .i64 ((u : Int) + 1 + 1 + 1 + 1))).setCell ⟨g, k * 6 + 5, none⟩ (.int .i64 ((u : Int) + 1 + 1 + 1 + 1 + 1))).heap.size) := by show g < (((((((W0).setCell ⟨g, k * 6, none⟩ (.string (mtS (u)))).setCell ⟨g, k * 6 + 1, none⟩ (.int .i64 ((u : Int) + 1))).setCell ⟨g, k * 6 + 2, none⟩ (.int .i64 ((u : Int) + 1 + 1))).setCell ⟨g, k * 6 + 3, none⟩ (.int .i64 ((u : Int) + 1 + 1 + 1))).setCell ⟨g, k * 6 + 4, none⟩ (.int .i64 ((u : Int) + 1 + 1 + 1 + 1))).setCell ⟨g, k * 6 + 5, none⟩ (.int .i64 ((u : Int) + 1 + 1 + 1 + 1 + 1))).heap.size; simpa using hg0
      clear hf0 hB0 hg0
      go_wp2_with fail
      go_roundw
      case rel =>
        refine ⟨k + 1, by omega, by go_num, ?_, by rw [HQN.out]; exact HB1.out, .inr ⟨g, rfl, hg, HG1.out, HF1.out.congr (fun i _ => HST.out i)⟩⟩
        rw [HNX.out]
        first | rfl | (congr 1; omega) | go_num
      case measure => simp [intOf]; omega
    · obtain rfl : k = n := by omega
      go_wp2
      go_ret
      refine ⟨rfl, hB, ?_⟩
      rcases hf with h0 | ⟨g, h1, h2, h3, hf⟩
      · exact .inl h0
      · refine .inr ⟨g, h1, h2, h3, hf.congr (fun i hi => ?_)⟩
        unfold entV mixEnt
        have : i / 6 < k := by omega
        simp only [if_pos this]

set_option maxRecDepth 100000 in
set_option maxHeartbeats 4000000 in
/-- They still stand. -/
theorem heldEnts (p : Option Addr) (n c s : Nat) (w : World) (hn : n ≤ 1048576) (hs : s ≤ 40000000) (hs0 : 0 < s) (ho : EntsAt w p n (mkEnt s)) :
    Calls Tryz.prog 13 #[.slice p n c, .int .i64 s] w fun e w' => e = .returned (.int .i64 ((s + 6 * n : Nat) : Int)) ∧ Below w.heap.size w w' := by
  go_enter Tryz.func13, Tryz.ntmps13
  go_wp2
  go_loopw [1, 5] (fun m i wr => ∃ k : Nat, k ≤ n ∧ i = .int .i64 k ∧ m = .int .i64 ((s + 6 * k : Nat) : Int) ∧ Below w.heap.size w wr) (fun _ i _ => n - (intOf i).toNat)
  case atStart => exact ⟨0, Nat.zero_le _, rfl, by simp, Below.refl _ _⟩
  case round =>
    obtain ⟨k, hk, rfl, rfl, hB⟩ := hrel
    by_cases hlt : k < n
    · rcases ho with h0 | ⟨g, oo, rfl, hgl, hf⟩
      · omega
      have hnx : s + 6 * (k + 1) = s + 6 * k + 6 := by omega
      have hu1 : s + 6 * k ≤ 50000000 := by omega
      have hu0 : 0 < s + 6 * k := by omega
      have hglr := Nat.lt_of_lt_of_le hgl hB.size
      obtain ⟨x0, x1, x2, x3, x4, x5⟩ := (hf.below hB hgl).ent hlt
      have e0 : (mkEnt s k).nm = mtS (s + 6 * k) := rfl
      have e1 : (mkEnt s k).kd = ((s + 6 * k : Nat) : Int) + 1 := rfl
      have e2 : (mkEnt s k).pl = ((s + 6 * k : Nat) : Int) + 1 + 1 := rfl
      have e3 : (mkEnt s k).sz = ((s + 6 * k : Nat) : Int) + 1 + 1 + 1 := rfl
      have e4 : (mkEnt s k).fr = ((s + 6 * k : Nat) : Int) + 1 + 1 + 1 + 1 := rfl
      have e5 : (mkEnt s k).ow = ((s + 6 * k : Nat) : Int) + 1 + 1 + 1 + 1 + 1 := rfl
      obtain ⟨u, hu⟩ : ∃ u, s + 6 * k = u := ⟨_, rfl⟩
      rw [hu] at hnx hu1 hu0 e0 e1 e2 e3 e4 e5 ⊢
      rw [e0] at x0
      rw [e1] at x1
      rw [e2] at x2
      rw [e3] at x3
      rw [e4] at x4
      rw [e5] at x5
      have HNX : Hid (s + 6 * (k + 1) = u + 6) := hnx
      have HB : Hid (Below w.heap.size w wr) := hB
      have TX : Hid (∀ W : World, W.heap.size = wr.heap.size → (∀ j, W.cell? ⟨g, j, none⟩ = wr.cell? ⟨g, j, none⟩) → (∀ w', Below W.heap.size W w' → Below w.heap.size w w') → Calls Tryz.prog 30 #[.int .i64 u] W fun e w' => e = .returned (.string (mtS u)) ∧ Below w.heap.size w w' ∧ w'.cell? ⟨g, oo + k * 6, none⟩ = some (.string (mtS u)) ∧ w'.cell? ⟨g, oo + k * 6 + 1, none⟩ = some (.int .i64 ((u : Int) + 1)) ∧ w'.cell? ⟨g, oo + k * 6 + 2, none⟩ = some (.int .i64 ((u : Int) + 1 + 1)) ∧ w'.cell? ⟨g, oo + k * 6 + 3, none⟩ = some (.int .i64 ((u : Int) + 1 + 1 + 1)) ∧ w'.cell? ⟨g, oo + k * 6 + 4, none⟩ = some (.int .i64 ((u : Int) + 1 + 1 + 1 + 1)) ∧ w'.cell? ⟨g, oo + k * 6 + 5, none⟩ = some (.int .i64 ((u : Int) + 1 + 1 + 1 + 1 + 1))) := by
        intro W hz hc hbl
        refine (markTextC u W hu0 (by omega)).mono ?_
        rintro e w' ⟨rfl, hb⟩
        have key : ∀ j, w'.cell? ⟨g, j, none⟩ = wr.cell? ⟨g, j, none⟩ := fun j => (hb.cell (p := ⟨g, j, none⟩) (by rw [hz]; exact hglr)).trans (hc j)
        exact ⟨rfl, hbl w' hb, (key _).trans x0, (key _).trans x1, (key _).trans x2, (key _).trans x3, (key _).trans x4, (key _).trans x5⟩
      have T1 := TX.out wr rfl (fun _ => rfl) (fun w' hb => HB.out.trans (hb.mono HB.out.size))
      have T2 := TX.out wr.drew rfl (fun _ => rfl) (fun w' hb => HB.out.drew.trans (hb.mono HB.out.size))
      have HT1 : Hid (Calls Tryz.prog 30 #[.int .i64 u] wr _) := T1
      have HT2 : Hid (Calls Tryz.prog 30 #[.int .i64 u] wr.drew _) := T2
      clear T1 T2 TX hf hB hu e0 e1 e2 e3 e4 e5 hnx x1 x2 x3 x4 x5
      go_wp2
      go_region_with ((go_at_call 30; first | refine HT1.out.mono ?_ | refine HT2.out.mono ?_; rintro e w1 ⟨rfl, hb1, y0, y1, y2, y3, y4, y5⟩))
      all_goals
        clear HT1 HT2
        go_wp2
        go_roundw
        case rel =>
          refine ⟨k + 1, by omega, by go_num, ?_, hb1⟩
          rw [HNX.out]
          first | rfl | (congr 1; omega) | go_num
        case measure => simp [intOf]; omega
    · obtain rfl : k = n := by omega
      go_wp2
      go_ret
      exact ⟨rfl, hB⟩
end Go.Proofs.YtelogjpjglohoaaGreatDoor

namespace Go.Proofs.YtelogjpjglohoaaGreatDoor
open Go Go.RowKit
set_option linter.unusedVariables false

/-- The entry of an image's symbol. -/
def entOf (S : Nat → SymD) (i : Nat) : EntD := ⟨(S i).nm, (S i).kd, plI' S i, (S i).sz, (S i).fr, 0⟩
def cellsE (S : Nat → EntD) (n : Nat) : List Value := (List.range (n * 6)).map (entV S)
theorem cellsE_succ (S : Nat → EntD) (n : Nat) : cellsE S (n + 1) = cellsE S n ++ [.string (S n).nm, .int .i64 (S n).kd, .int .i64 (S n).pl, .int .i64 (S n).sz, .int .i64 (S n).fr, .int .i64 (S n).ow] := by
  unfold cellsE
  rw [show (n + 1) * 6 = n * 6 + 1 + 1 + 1 + 1 + 1 + 1 from by omega, List.range_succ, List.range_succ, List.range_succ, List.range_succ, List.range_succ, List.range_succ]
  simp only [List.map_append, List.map_cons, List.map_nil, List.append_assoc, List.cons_append, List.nil_append]
  rw [entV0, entV1, entV2, entV3, entV4, entV5]
theorem cellsE_len (S : Nat → EntD) (n : Nat) : (cellsE S n).length = n * 6 := by simp [cellsE]
theorem ownE_of_row {w : World} {B e : Nat} {v : Value} {n : Nat} {S : Nat → EntD} (h : w.ownsRow B e 6 v n (cellsE S n)) : ∃ p c, v = .slice p n c ∧ n ≤ c ∧ OwnR w B p n 6 (entV S) := by
  rcases h.2 with ⟨rfl, h0⟩ | ⟨g, cap, cur, rfl, h1, h2, h3, h4, h5, h6⟩
  · exact ⟨none, 0, by rw [h0], by omega, .inl h0⟩
  · refine ⟨_, cap, rfl, h3, .inr ⟨g, rfl, h1, (Array.getElem?_eq_some_iff.1 h2).1, fun i hi => ?_, fun i hi => frozen_of_row w g _ cur e h2⟩⟩
    rw [Nat.zero_add, cell_of_row w g i cur e (0, 0) h2]
    have h7 : (cur.toList.take (n * 6))[i]? = (cellsE S n)[i]? := by rw [h6]
    rw [List.getElem?_take, if_pos hi, Array.getElem?_toList] at h7
    rw [h7]
    simp [cellsE, hi]
theorem Lies.grown' {a b : World} {row : Option Nat} {k : Nat} {T : TypeId} {cs : Array Value} (h : Lies a k T cs) (hg : a.grownBy b row) (hr : row ≠ some k) : Lies b k T cs := (hg.block k h.lt (fun e => hr e.symm)).trans h

/-- What both answer of a right image: its symbols as entries, in new memory. -/
def TabAns (B : Nat) (n : Nat) (S : Nat → SymD) (w : World) (e : Ending) (w' : World) : Prop :=
  (∃ q d, e = .returned (.slice q n d) ∧ n ≤ d ∧ OwnR w' B q n 6 (entV (entOf S))) ∧ Below B w w'

set_option maxRecDepth 100000 in
set_option maxHeartbeats 8000000 in
theorem tabS (c s : ByteArray) (p : Option Addr) (n kk : Nat) (S : Nat → SymD) (w : World) (hn : n ≤ 16) (hb : ∀ i, i < n → 0 ≤ (S i).pl ∧ (S i).pl ≤ 1048576) (hp : SymsAt w p n S) :
    Calls Tryz.prog 22 #[.agg #[.string c, .string s, .slice p n kk]] w fun e w' => TabAns w.heap.size n S w e w' := by
  obtain ⟨i0, hi0, hz0, hz1, hz2⟩ := info_parts Tryz.info_ent
  have bA := grown1' w (.cells #[.string c, .string s, .slice p n kk] 31)
  have i2 : (w.alloc (.cells #[.string c, .string s, .slice p n kk] 31)).cell? ⟨w.heap.size, 2, none⟩ = some (.slice p n kk) := by simp
  have hp1 := hp.below bA
  have hX : w.heap.size < (w.alloc (.cells #[.string c, .string s, .slice p n kk] 31)).heap.size := by simp
  obtain ⟨W, hW⟩ : ∃ W, (w.alloc (.cells #[.string c, .string s, .slice p n kk] 31)) = W := ⟨_, rfl⟩
  have HA : Hid (Below w.heap.size w W) := by rw [← hW]; exact bA
  rw [hW] at i2 hp1 hX
  go_enter Tryz.func22, Tryz.ntmps22
  go_wp2_with fail
  try rw [hW]
  clear hW hp bA
  go_loopw [3, 4] (fun v i wr => ∃ k : Nat, k ≤ n ∧ i = .int .i64 k ∧ Hid (wr.ownsRow W.heap.size 46 6 v k (cellsE (entOf S) k)) ∧ Below W.heap.size W wr) (fun _ i _ => n - (intOf i).toNat)
  case atStart => exact ⟨0, Nat.zero_le _, rfl, World.ownsRow_made W #[] 0 (Nat.le_refl _) (Nat.zero_le _) rfl, (Below.refl _ _).alloc (Nat.le_refl _) _⟩
  case round =>
    obtain ⟨k, hk, rfl, OW, hB⟩ := hrel
    have j2 := (hB.cell (p := ⟨w.heap.size, 2, none⟩) hX).trans i2
    by_cases hlt : k < n
    · rcases hp1 with hp | ⟨b, o, rfl, hbb, hp⟩
      · omega
      obtain ⟨x0, x1, x2, x3, x4⟩ := (hp.below hB hbb).sym hlt
      obtain ⟨p0, p1⟩ := hb k hlt
      have eC := cellsE_succ (entOf S) k
      simp only [entOf, plI'] at eC
      obtain ⟨nm, e0⟩ : ∃ s, (S k).nm = s := ⟨_, rfl⟩
      obtain ⟨kd, e1⟩ : ∃ s, (S k).kd = s := ⟨_, rfl⟩
      obtain ⟨pl, e2⟩ : ∃ s, (S k).pl = s := ⟨_, rfl⟩
      obtain ⟨sz, e3⟩ : ∃ s, (S k).sz = s := ⟨_, rfl⟩
      obtain ⟨fr, e4⟩ : ∃ s, (S k).fr = s := ⟨_, rfl⟩
      rw [e0] at x0
      rw [e1] at x1
      rw [e2] at x2 p0 p1
      rw [e3] at x3
      rw [e4] at x4
      rw [e0, e1, e2, e3, e4] at eC
      have hpl := fun w' => placeSpec nm kd pl sz fr w' p0 p1
      obtain ⟨P, hP⟩ : ∃ P, (if kd = 1 then 4096 + pl else 16384 + pl) = P := ⟨_, rfl⟩
      rw [hP] at eC
      simp only [hP] at hpl
      have HP : Hid (∀ w' : World, _) := hpl
      have EC : Hid (cellsE (entOf S) (k + 1) = cellsE (entOf S) k ++ [.string nm, .int .i64 kd, .int .i64 P, .int .i64 sz, .int .i64 fr, .int .i64 0]) := eC
      have hsz := hB.size
      have lY := Lies.new wr #[.string nm, .int .i64 kd, .int .i64 pl, .int .i64 sz, .int .i64 fr] 49
      have bX := grown1' wr (.cells #[.string nm, .int .i64 kd, .int .i64 pl, .int .i64 sz, .int .i64 fr] 49)
      have hY : wr.heap.size < (wr.alloc (.cells #[.string nm, .int .i64 kd, .int .i64 pl, .int .i64 sz, .int .i64 fr] 49)).heap.size := by simp
      clear hpl eC hP e0 e1 e2 e3 e4
      go_wp2_with fail
      obtain ⟨W1, hW1⟩ : ∃ W1, wr.alloc (.cells #[.string nm, .int .i64 kd, .int .i64 pl, .int .i64 sz, .int .i64 fr] 49) = W1 := ⟨_, rfl⟩
      rw [hW1] at lY bX hY ⊢
      clear hW1
      have y0 := lY.cell (j := 0) rfl
      have y1 := lY.cell (j := 1) rfl
      have y2 := lY.cell (j := 2) rfl
      have y3 := lY.cell (j := 3) rfl
      have y4 := lY.cell (j := 4) rfl
      have hne : ∀ j, u3.ownBlock = some j → j < wr.heap.size := fun j e => (OW.out.lt j e).2
      have LY : Hid (Lies W1 wr.heap.size 49 #[.string nm, .int .i64 kd, .int .i64 pl, .int .i64 sz, .int .i64 fr]) := lY
      have BX : Hid (Below wr.heap.size wr W1) := bX
      clear lY bX x0 x1 x2 x3 x4 j2
      go_region_held3 (fun w' => w'.cell? ⟨wr.heap.size, 0, none⟩ = some (.string nm) ∧ w'.cell? ⟨wr.heap.size, 1, none⟩ = some (.int .i64 kd) ∧ w'.cell? ⟨wr.heap.size, 2, none⟩ = some (.int .i64 pl) ∧ w'.cell? ⟨wr.heap.size, 3, none⟩ = some (.int .i64 sz) ∧ w'.cell? ⟨wr.heap.size, 4, none⟩ = some (.int .i64 fr)) (go_keep) (first | (go_at_call 41; refine (HP.out _).mono ?_; rintro e w2 ⟨rfl, hb2⟩; have b2 : Below W1.heap.size W1 w2 := (by first | exact (Below.refl W1.heap.size W1).drew.trans hb2 | exact hb2); have l2 := LY.out.below b2 hY; have z0 := l2.cell (j := 0) rfl; have z1 := l2.cell (j := 1) rfl; have z2 := l2.cell (j := 2) rfl; have z3 := l2.cell (j := 3) rfl; have z4 := l2.cell (j := 4) rfl; have ob := row_below OW.out (BX.out.trans (b2.mono BX.out.size)); have s2 := b2.size) | (refine step_append_lies _ (by rfl) _ _ _ (by rfl) W.heap.size 46 i0 _ 6 56 Tryz.underlying26 hi0 hz0 hz1 hz2 rfl (by omega) _ _ _ (by rfl) (ob.alloc _) ⟨w2.heap.size, 0, none⟩ 1 1 [.string nm, .int .i64 kd, .int .i64 P, .int .i64 sz, .int .i64 fr, .int .i64 0] (by rfl) (by rfl) (World.news_of_block (cs := #[.string nm, .int .i64 kd, .int .i64 P, .int .i64 sz, .int .i64 fr, .int .i64 0]) (t := 46) (fr := (0, 0)) (heap_alloc_new w2 _)) (by simp [Value.oneCell']) (by omega) (by unfold maxLen; omega) (by omega) (by simp; omega) (w2.heap.size + 1) (by simp) ?_; intro gg cap wc hown1 hgrow hat hlt1; have lc := (l2.alloc _).grown' hgrow (fun e => Nat.lt_irrefl _ (hne _ e)); have c0 := lc.cell (j := 0) rfl; have c1 := lc.cell (j := 1) rfl; have c2 := lc.cell (j := 2) rfl; have c3 := lc.cell (j := 3) rfl; have c4 := lc.cell (j := 4) rfl))
      all_goals
        have B2 : Below W.heap.size W w2 := (hB.trans (BX.out.mono hsz)).trans (b2.mono (by omega))
        have B3 : Below W.heap.size W wc := (B2.alloc (by omega) _).grown hgrow (by simp; omega) (fun i e => (OW.out.lt i e).1)
        have OC : Hid (wc.ownsRow W.heap.size 46 6 (.slice (some ⟨gg, 0, none⟩) (k + 1) cap) (k + 1) (cellsE (entOf S) (k + 1))) := by rw [EC.out]; exact hown1
        go_wp2_with fail
        go_roundw
        case rel => exact ⟨k + 1, by omega, by go_num, OC, B3⟩
        case measure => simp [intOf]; omega
    · obtain rfl : k = n := by omega
      obtain ⟨p9, c9, rfl, hc9, ho⟩ := ownE_of_row OW.out
      have HB : Hid (Below w.heap.size w wr) := HA.out.trans (hB.mono HA.out.size)
      have HO : Hid (OwnR wr W.heap.size p9 k 6 (entV (entOf S))) := ho
      clear OW hB ho
      go_wp2_with fail
      go_ret
      exact ⟨⟨p9, c9, rfl, hc9, HO.out.low HA.out.size⟩, HB.out⟩
end Go.Proofs.YtelogjpjglohoaaGreatDoor

namespace Go.Proofs.YtelogjpjglohoaaGreatDoor
open Go.Shelf
def Tryz.laysM316_ren : Go.Shelf.Ren := ⟨fun | 316 => 44 | n => n, fun | 9 => 9 | 3 => 3 | 4 => 4 | 37 => 38 | 0 => 0 | 127 => 113 | 5 => 5 | n => n, fun | n => n⟩
theorem Tryz.laysM316 : Go.Proofs.LaysM.n316 Tryz.prog Tryz.laysM316_ren := {
  mixed := by kernel_rfl
  f316 := Tryz.func44.trans (congrArg some (by kernel_rfl))
  t0 := Tryz.underlying0
  a0 := Tryz.isAgg0
  z0 := Tryz.sizeOf0
  v0 := Tryz.zeroValue0
  t3 := Tryz.underlying3
  a3 := Tryz.isAgg3
  z3 := Tryz.sizeOf3
  v3 := Tryz.zeroValue3
  t4 := Tryz.underlying4
  a4 := Tryz.isAgg4
  z4 := Tryz.sizeOf4
  v4 := Tryz.zeroValue4
  t9 := Tryz.underlying9
  a9 := Tryz.isAgg9
  z9 := Tryz.sizeOf9
  v9 := Tryz.zeroValue9
  t37 := Tryz.underlying38
  a37 := Tryz.isAgg38
  z37 := Tryz.sizeOf38
  v37 := Tryz.zeroValue38
  t127 := Tryz.underlying113
  a127 := Tryz.isAgg113
  z127 := Tryz.sizeOf113
  v127 := Tryz.zeroValue113
  t5 := Tryz.underlying5
  a5 := Tryz.isAgg5
  z5 := Tryz.sizeOf5
  v5 := Tryz.zeroValue5
  i0 := by kernel_rfl
  i3 := by kernel_rfl
  i4 := by kernel_rfl
  i5 := by kernel_rfl
  i9 := by kernel_rfl
  i37 := by kernel_rfl
  i127 := by kernel_rfl }
open Go.RowKit in
theorem Tryz.stringslite_Clone (s : ByteArray) (w : World) (hlim : s.size ≤ 281474976710656) :
    Calls Tryz.prog 44 #[.string s] w fun e w' => e = .returned (.string s) ∧ Below w.heap.size w w' := Any.stringslite_Clone Tryz.laysM316 s w hlim
end Go.Proofs.YtelogjpjglohoaaGreatDoor

namespace Go.Proofs.YtelogjpjglohoaaGreatDoor
open Go Go.RowKit
set_option linter.unusedVariables false

theorem cloneT (s : ByteArray) (w : World) (hs : s.size ≤ 1000000) :
    Calls Tryz.prog 25 #[.string s] w fun e w' => e = .returned (.string s) ∧ Below w.heap.size w w' := by
  go_enter Tryz.func25, Tryz.ntmps25
  go_wp2_with fail
  refine (Tryz.stringslite_Clone s _ (by omega)).mono ?_
  rintro e w1 ⟨rfl, hb⟩
  go_wp2_with fail
  go_ret
  exact ⟨rfl, hb⟩

/-- What both answer beside a code. -/
def TabAns2 (B : Nat) (n : Nat) (S : Nat → SymD) (w : World) (e : Ending) (w' : World) : Prop :=
  (∃ q d, e = .returned (.tuple #[.slice q n d, .int .i64 0]) ∧ n ≤ d ∧ OwnR w' B q n 6 (entV (entOf S))) ∧ Below B w w'

set_option maxRecDepth 100000 in
set_option maxHeartbeats 8000000 in
theorem tabP (c s : ByteArray) (p : Option Addr) (n kk : Nat) (S : Nat → SymD) (w : World) (hkk : n ≤ kk) (hLd : Laid w) (hok : PrOK c s n S true) (hn : n ≤ 16) (hs : ∀ i, i < n → (S i).nm.size ≤ 1000000) (hb : ∀ i, i < n → 0 ≤ (S i).pl ∧ (S i).pl ≤ 1048576) (hp : SymsAt w p n S) :
    Calls Tryz.prog 8 #[.agg #[.string c, .string s, .slice p n kk]] w fun e w' => TabAns2 w.heap.size n S w e w' := by
  obtain ⟨i0, hi0, hz0, hz1, hz2⟩ := info_parts Tryz.info_ent
  have bA := grown1' w (.cells #[.string c, .string s, .slice p n kk] 31)
  have lA := Lies.new w #[.string c, .string s, .slice p n kk] 31
  have hX : w.heap.size < (w.alloc (.cells #[.string c, .string s, .slice p n kk] 31)).heap.size := by simp
  obtain ⟨W, hW⟩ : ∃ W, (w.alloc (.cells #[.string c, .string s, .slice p n kk] 31)) = W := ⟨_, rfl⟩
  rw [hW] at bA lA hX
  have hC := hok p kk W hkk (laid_below hLd bA) (hp.below bA)
  have hp1 := hp.below bA
  have HC : Hid (Calls Tryz.prog 24 #[.agg #[.string c, .string s, .slice p n kk]] W fun e w' => OneB W.heap.size true W e w') := hC
  have HA : Hid (Below w.heap.size w W) := bA
  have i0' := lA.cell (j := 0) rfl
  have i1' := lA.cell (j := 1) rfl
  have i2 := lA.cell (j := 2) rfl
  clear hC hp bA hok
  go_enter Tryz.func8, Tryz.ntmps8
  go_wp2_with fail
  try rw [hW]
  clear hW
  try go_wp2_with fail
  refine HC.out.mono ?_
  rintro e w1 ⟨rfl, hb1⟩
  have j2' := (hb1.cell (p := ⟨w.heap.size, 2, none⟩) hX).trans i2
  have hp2 := hp1.below hb1
  have HA1 : Hid (Below w.heap.size w w1) := HA.out.trans (hb1.mono HA.out.size)
  have hX1 : w.heap.size < w1.heap.size := Nat.lt_of_lt_of_le hX hb1.size
  clear i0' i1' i2 lA HC HA hb1 hX hp1
  go_wp2_with fail
  go_loopw [4, 13] (fun v i wr => ∃ k : Nat, k ≤ n ∧ i = .int .i64 k ∧ Hid (wr.ownsRow w1.heap.size 46 6 v k (cellsE (entOf S) k)) ∧ Below w1.heap.size w1 wr) (fun _ i _ => n - (intOf i).toNat)
  case atStart => exact ⟨0, Nat.zero_le _, rfl, World.ownsRow_nil _ _ _ _, Below.refl _ _⟩
  case round =>
    obtain ⟨k, hk, rfl, OW, hB⟩ := hrel
    by_cases hlt : k < n
    · rcases hp2 with hp | ⟨b, o, rfl, hbb, hp⟩
      · omega
      obtain ⟨x0, x1, x2, x3, x4⟩ := (hp.below hB hbb).sym hlt
      obtain ⟨p0, p1⟩ := hb k hlt
      have q0 := hs k hlt
      have eC := cellsE_succ (entOf S) k
      simp only [entOf, plI'] at eC
      obtain ⟨nm, e0⟩ : ∃ s, (S k).nm = s := ⟨_, rfl⟩
      obtain ⟨kd, e1⟩ : ∃ s, (S k).kd = s := ⟨_, rfl⟩
      obtain ⟨pl, e2⟩ : ∃ s, (S k).pl = s := ⟨_, rfl⟩
      obtain ⟨sz, e3⟩ : ∃ s, (S k).sz = s := ⟨_, rfl⟩
      obtain ⟨fr, e4⟩ : ∃ s, (S k).fr = s := ⟨_, rfl⟩
      rw [e0] at x0 q0
      rw [e1] at x1
      rw [e2] at x2 p0 p1
      rw [e3] at x3
      rw [e4] at x4
      rw [e0, e1, e2, e3, e4] at eC
      have hpl := fun w' => placeImpl nm kd pl sz fr w' p0 p1
      obtain ⟨P, hP⟩ : ∃ P, (if kd = 1 then 4096 + pl else 16384 + pl) = P := ⟨_, rfl⟩
      rw [hP] at eC
      simp only [hP] at hpl
      have HP : Hid (∀ w' : World, _) := hpl
      have HK : Hid (∀ w' : World, _) := fun w' => cloneT nm w' q0
      have EC : Hid (cellsE (entOf S) (k + 1) = cellsE (entOf S) k ++ [.string nm, .int .i64 kd, .int .i64 P, .int .i64 sz, .int .i64 fr, .int .i64 0]) := eC
      have hsz := hB.size
      have lY := Lies.new wr #[.string nm, .int .i64 kd, .int .i64 pl, .int .i64 sz, .int .i64 fr] 49
      have bX := grown1' wr (.cells #[.string nm, .int .i64 kd, .int .i64 pl, .int .i64 sz, .int .i64 fr] 49)
      have hY : wr.heap.size < (wr.alloc (.cells #[.string nm, .int .i64 kd, .int .i64 pl, .int .i64 sz, .int .i64 fr] 49)).heap.size := by simp
      clear hpl eC hP e0 e1 e2 e3 e4
      go_wp2_with fail
      obtain ⟨W1, hW1⟩ : ∃ W1, wr.alloc (.cells #[.string nm, .int .i64 kd, .int .i64 pl, .int .i64 sz, .int .i64 fr] 49) = W1 := ⟨_, rfl⟩
      rw [hW1] at lY bX hY ⊢
      clear hW1
      have y0 := lY.cell (j := 0) rfl
      have y1 := lY.cell (j := 1) rfl
      have y2 := lY.cell (j := 2) rfl
      have y3 := lY.cell (j := 3) rfl
      have y4 := lY.cell (j := 4) rfl
      have hne : ∀ j, u4.ownBlock = some j → j < wr.heap.size := fun j e => (OW.out.lt j e).2
      have LY : Hid (Lies W1 wr.heap.size 49 #[.string nm, .int .i64 kd, .int .i64 pl, .int .i64 sz, .int .i64 fr]) := lY
      have BX : Hid (Below wr.heap.size wr W1) := bX
      clear lY bX x0 x1 x2 x3 x4 j2' p0 p1 q0
      go_region_held3 (fun w' => w'.cell? ⟨wr.heap.size, 0, none⟩ = some (.string nm) ∧ w'.cell? ⟨wr.heap.size, 1, none⟩ = some (.int .i64 kd) ∧ w'.cell? ⟨wr.heap.size, 2, none⟩ = some (.int .i64 pl) ∧ w'.cell? ⟨wr.heap.size, 3, none⟩ = some (.int .i64 sz) ∧ w'.cell? ⟨wr.heap.size, 4, none⟩ = some (.int .i64 fr)) (go_keep) (first | (go_at_call 25; refine (HK.out _).mono ?_; rintro e uw ⟨rfl, hbn⟩; have bc : Below W1.heap.size W1 uw := (by first | exact bc.trans (hbn.mono bc.size) | exact (Below.refl W1.heap.size W1).drew.trans hbn | exact hbn); have l2 := LY.out.below bc hY; have z0 := l2.cell (j := 0) rfl; have z1 := l2.cell (j := 1) rfl; have z2 := l2.cell (j := 2) rfl; have z3 := l2.cell (j := 3) rfl; have z4 := l2.cell (j := 4) rfl; have ob := row_below OW.out (BX.out.trans (bc.mono BX.out.size)); have s2 := bc.size; clear hbn) | (go_at_call 26; refine (HP.out _).mono ?_; rintro e uw ⟨rfl, hbn⟩; have bc : Below W1.heap.size W1 uw := (by first | exact bc.trans (hbn.mono bc.size) | exact (Below.refl W1.heap.size W1).drew.trans hbn | exact hbn); have l2 := LY.out.below bc hY; have z0 := l2.cell (j := 0) rfl; have z1 := l2.cell (j := 1) rfl; have z2 := l2.cell (j := 2) rfl; have z3 := l2.cell (j := 3) rfl; have z4 := l2.cell (j := 4) rfl; have ob := row_below OW.out (BX.out.trans (bc.mono BX.out.size)); have s2 := bc.size; clear hbn) | (refine step_append_lies _ (by rfl) _ _ _ (by rfl) w1.heap.size 46 i0 _ 6 56 Tryz.underlying26 hi0 hz0 hz1 hz2 rfl (by omega) _ _ _ (by rfl) (ob.alloc _) ⟨uw.heap.size, 0, none⟩ 1 1 [.string nm, .int .i64 kd, .int .i64 P, .int .i64 sz, .int .i64 fr, .int .i64 0] (by rfl) (by rfl) (World.news_of_block (cs := #[.string nm, .int .i64 kd, .int .i64 P, .int .i64 sz, .int .i64 fr, .int .i64 0]) (t := 46) (fr := (0, 0)) (heap_alloc_new uw _)) (by simp [Value.oneCell']) (by omega) (by unfold maxLen; omega) (by omega) (by simp; omega) (uw.heap.size + 1) (by simp) ?_; intro gg cap wc hown1 hgrow hat hlt1; have lc := (l2.alloc _).grown' hgrow (fun e => Nat.lt_irrefl _ (hne _ e)); have c0 := lc.cell (j := 0) rfl; have c1 := lc.cell (j := 1) rfl; have c2 := lc.cell (j := 2) rfl; have c3 := lc.cell (j := 3) rfl; have c4 := lc.cell (j := 4) rfl))
      all_goals
        have B2 : Below w1.heap.size w1 uw := (hB.trans (BX.out.mono hsz)).trans (bc.mono (by omega))
        have B3 : Below w1.heap.size w1 wc := (B2.alloc (by omega) _).grown hgrow (by simp; omega) (fun i e => (OW.out.lt i e).1)
        have OC : Hid (wc.ownsRow w1.heap.size 46 6 (.slice (some ⟨gg, 0, none⟩) (k + 1) cap) (k + 1) (cellsE (entOf S) (k + 1))) := by rw [EC.out]; exact hown1
        go_wp2_with fail
        go_roundw
        case rel => exact ⟨k + 1, by omega, by go_num, OC, B3⟩
        case measure => simp [intOf]; omega
    · obtain rfl : k = n := by omega
      obtain ⟨p9, c9, rfl, hc9, ho⟩ := ownE_of_row OW.out
      have HB : Hid (Below w.heap.size w wr) := HA1.out.trans (hB.mono HA1.out.size)
      have HO : Hid (OwnR wr w1.heap.size p9 k 6 (entV (entOf S))) := ho
      clear OW hB ho
      go_wp2_with fail
      go_ret2
      exact ⟨⟨p9, c9, rfl, hc9, HO.out.low HA1.out.size⟩, HB.out⟩

set_option maxHeartbeats 2000000 in
theorem tabPNo (c s : ByteArray) (p : Option Addr) (n kk : Nat) (S : Nat → SymD) (w : World) (hkk : n ≤ kk) (hLd : Laid w) (hok : PrOK c s n S false) (hp : SymsAt w p n S) :
    Calls Tryz.prog 8 #[.agg #[.string c, .string s, .slice p n kk]] w fun e w' => (∃ q d, e = .returned (.tuple #[.slice q 0 d, .int .i64 1])) ∧ Below w.heap.size w w' := by
  have bA := grown1' w (.cells #[.string c, .string s, .slice p n kk] 31)
  have HC := hok p kk _ hkk (laid_below hLd bA) (hp.below bA)
  go_enter Tryz.func8, Tryz.ntmps8
  go_wp2_with fail
  refine HC.mono ?_
  rintro e w1 ⟨rfl, hb1⟩
  go_wp2_with fail
  go_ret2
  exact ⟨⟨_, _, rfl⟩, bA.trans (hb1.mono (by simp))⟩
end Go.Proofs.YtelogjpjglohoaaGreatDoor
