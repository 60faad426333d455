/- A reader of a text, plain: where it stands, and what it takes. A call that turns one block alone, and makes new ones. Contracts of the library's functions, proved once by the kit, laid at this seat's dump. The program's reader: what its methods take. -/
import Derived.Test.YthihlbfmpkjhpaaGreatDoorGXLintImage36
import Derived.Test.YthihlbfmpkjhpaaGreatDoorGXLintImage0
import Derived.DataShut
import Derived.Test.YthihlbfmpkjhpaaGreatDoorGXLintImage1
import Derived.Shelf.Strings.Builder1
import Derived.Shelf.Strings.BuilderF
import Derived.Shelf.Strings.BuilderK
import Derived.Shelf.LaysM
import Derived.Shelf.Strconv.Clone
import Derived.Shelf.Strings.Prefix
import Derived.Shelf.Strings.BuilderCap
import Derived.Shelf.Slices.Turned
import Derived.Test.YthihlbfmpkjhpaaGreatDoorProg
import Derived.Test.YthihlbfmpkjhpaaGreatDoorGXLintImage4
namespace Go.Proofs.YthihlbfmpkjhpaaGreatDoor
open Go Go.RowKit
set_option linter.unusedVariables false

/-- Where a reader stands, and whether something was cut off. -/
structure RS where
  p : Nat
  bad : Bool
def RS.ok (t : ByteArray) (r : RS) (n : Nat) : Bool := !r.bad && decide (r.p + n ≤ t.size)
/-- Behind a part of n bytes. -/
def RS.nx (t : ByteArray) (r : RS) (n : Nat) : RS := if r.ok t n = true then ⟨r.p + n, false⟩ else ⟨r.p, true⟩
/-- The part. -/
def RS.tk (t : ByteArray) (r : RS) (n : Nat) : ByteArray := if r.ok t n = true then t.extract r.p (r.p + n) else ByteArray.empty
/-- .. as a number. -/
def RS.nb (t : ByteArray) (r : RS) (n : Nat) : Nat := valF (bt (r.tk t n)) (r.tk t n).size
/-- A part behind its length. -/
def RS.ct (t : ByteArray) (r : RS) (k : Nat) : ByteArray := (r.nx t k).tk t (r.nb t k)
def RS.cx (t : ByteArray) (r : RS) (k : Nat) : RS := (r.nx t k).nx t (r.nb t k)
theorem RS.yes {t : ByteArray} {r : RS} {n : Nat} (h : r.bad = false) (h1 : r.p + n ≤ t.size) : r.nx t n = ⟨r.p + n, false⟩ ∧ r.tk t n = t.extract r.p (r.p + n) := by
  have : r.ok t n = true := by unfold RS.ok; rw [h]; simp [h1]
  unfold RS.nx RS.tk
  rw [if_pos this, if_pos this]
  exact ⟨rfl, rfl⟩
theorem RS.no {t : ByteArray} {r : RS} {n : Nat} (h : r.bad = true ∨ t.size < r.p + n) : r.nx t n = ⟨r.p, true⟩ ∧ r.tk t n = ByteArray.empty := by
  have : r.ok t n = false := by
    unfold RS.ok
    rcases h with h | h
    · rw [h]; rfl
    · have : ¬ r.p + n ≤ t.size := by omega
      simp [this]
  unfold RS.nx RS.tk
  rw [if_neg (by rw [this]; decide), if_neg (by rw [this]; decide)]
  exact ⟨rfl, rfl⟩
theorem RS.le {t : ByteArray} {r : RS} (n : Nat) (h : r.p ≤ t.size) : (r.nx t n).p ≤ t.size := by
  unfold RS.nx
  split
  · rename_i e
    unfold RS.ok at e
    simp at e
    exact e.2
  · exact h
theorem RS.tk_size (t : ByteArray) (r : RS) (n : Nat) : (r.tk t n).size ≤ n := by
  unfold RS.tk
  split
  · rw [ByteArray.size_extract]; omega
  · exact Nat.zero_le _
theorem RS.tk_le (t : ByteArray) (r : RS) (n : Nat) : (r.tk t n).size ≤ t.size := by
  unfold RS.tk
  split
  · rw [ByteArray.size_extract]; omega
  · exact Nat.zero_le _
theorem RS.nb_lt (t : ByteArray) (r : RS) (n : Nat) (hn : n ≤ 2) : r.nb t n < 65536 := by
  have h := valF_lt (bt (r.tk t n)) (r.tk t n).size
  have h1 := r.tk_size t n
  have h2 : 256 ^ (r.tk t n).size ≤ 256 ^ 2 := Nat.pow_le_pow_right (by decide) (by omega)
  have h3 : (256 : Nat) ^ 2 = 65536 := by decide
  unfold RS.nb
  omega
theorem RS.nb1_lt (t : ByteArray) (r : RS) : r.nb t 1 < 256 := by
  have h := valF_lt (bt (r.tk t 1)) (r.tk t 1).size
  have h1 := r.tk_size t 1
  have h2 : 256 ^ (r.tk t 1).size ≤ 256 ^ 1 := Nat.pow_le_pow_right (by decide) (by omega)
  have h3 : (256 : Nat) ^ 1 = 256 := by decide
  unfold RS.nb
  omega
theorem RS.cx_le {t : ByteArray} {r : RS} (k : Nat) (h : r.p ≤ t.size) : (r.cx t k).p ≤ t.size := RS.le _ (RS.le _ h)
/-- A symbol. -/
def RS.r1 (t : ByteArray) (r : RS) : RS := r.cx t 1
def RS.r2 (t : ByteArray) (r : RS) : RS := (r.r1 t).nx t 1
def RS.r3 (t : ByteArray) (r : RS) : RS := (r.r2 t).nx t 2
def RS.r4 (t : ByteArray) (r : RS) : RS := (r.r3 t).nx t 2
def RS.sx (t : ByteArray) (r : RS) : RS := (r.r4 t).nx t 1
def RS.sy (t : ByteArray) (r : RS) : SymD := ⟨r.ct t 1, (r.r1 t).nb t 1, (r.r2 t).nb t 2, (r.r3 t).nb t 2, (r.r4 t).nb t 1⟩
theorem RS.sx_le {t : ByteArray} {r : RS} (h : r.p ≤ t.size) : (r.sx t).p ≤ t.size := RS.le _ (RS.le _ (RS.le _ (RS.le _ (RS.cx_le _ h))))
def RS.at (t : ByteArray) (r : RS) : Nat → RS
  | 0 => r
  | m + 1 => (RS.at t r m).sx t
theorem RS.at_le {t : ByteArray} {r : RS} (h : r.p ≤ t.size) : ∀ m, (RS.at t r m).p ≤ t.size
  | 0 => h
  | m + 1 => RS.sx_le (RS.at_le h m)
theorem RS.sy_wf {t : ByteArray} {r : RS} : (r.sy t).wf := by
  have h1 := (r.r1 t).nb1_lt t
  have h2 := (r.r2 t).nb_lt t 2 (by omega)
  have h3 := (r.r3 t).nb_lt t 2 (by omega)
  have h4 := (r.r4 t).nb1_lt t
  have h5 := (r.nx t 1).tk_size t (r.nb t 1)
  have h6 := r.nb1_lt t
  have key : ∀ x : Nat, x < 65536 → (Lit.int .i64 (x : Int)).wf = true := fun x hx => by
    rw [Lit.wf_int_iff, IntKind.min_i64, IntKind.max_i64]
    omega
  exact ⟨by show ((r.nx t 1).tk t (r.nb t 1)).size ≤ maxLen; unfold maxLen; omega, key _ (by omega), key _ h2, key _ h3, key _ (by omega)⟩
theorem ext_ext (t : ByteArray) (p n : Nat) (h : p + n ≤ t.size) : (t.extract p t.size).extract 0 n = t.extract p (p + n) := by
  rw [ByteArray.extract_extract]
  congr 1
  omega
theorem ext_rest (t : ByteArray) (p n : Nat) (h : p + n ≤ t.size) : (t.extract p t.size).extract n (t.extract p t.size).size = t.extract (p + n) t.size := by
  rw [ByteArray.extract_extract, ByteArray.size_extract]
  congr 1
  omega
end Go.Proofs.YthihlbfmpkjhpaaGreatDoor

namespace Go.Proofs.YthihlbfmpkjhpaaGreatDoor
open Go Go.RowKit
set_option linter.unusedVariables false

/-- Of the old blocks only g may have changed. -/
structure But (g : Nat) (w w' : World) : Prop where
  os : w'.os = w.os
  tape : w'.tape = w.tape
  output : w'.output = w.output
  size : w.heap.size ≤ w'.heap.size
  block : ∀ k, k < w.heap.size → k ≠ g → w'.heap[k]? = w.heap[k]?
theorem But.refl (g : Nat) (w : World) : But g w w := ⟨rfl, rfl, rfl, Nat.le_refl _, fun _ _ _ => rfl⟩
theorem But.trans {g : Nat} {a b c : World} (h : But g a b) (k : But g b c) : But g a c :=
  ⟨k.os.trans h.os, k.tape.trans h.tape, k.output.trans h.output, Nat.le_trans h.size k.size, fun i hi hg => (k.block i (Nat.lt_of_lt_of_le hi h.size) hg).trans (h.block i hi hg)⟩
theorem But.of_below {g : Nat} {w w' : World} (h : Below w.heap.size w w') : But g w w' := ⟨h.os, h.tape, h.output, h.size, fun k hk _ => h.block k hk⟩
theorem But.setCell {g j : Nat} (w : World) (v : Value) : But g w (w.setCell ⟨g, j, none⟩ v) :=
  ⟨rfl, rfl, rfl, by simp [World.setCell], fun k _ hg => Below.heap_setCell w ⟨g, j, none⟩ v k hg⟩
theorem But.below {g B : Nat} {w w' : World} (h : But g w w') (hB : B ≤ g) (hw : B ≤ w.heap.size) : Below B w w' :=
  ⟨h.os, h.tape, h.output, h.size, fun k hk => h.block k (Nat.lt_of_lt_of_le hk hw) (by omega)⟩
theorem Lies.but {w w' : World} {g k : Nat} {t : TypeId} {cs : Array Value} (h : Lies w k t cs) (hb : But g w w') (hk : k ≠ g) : Lies w' k t cs := (hb.block k h.lt hk).trans h
theorem But.cell {g : Nat} {w w' : World} (h : But g w w') {k j : Nat} {v : Value} (hc : w.cell? ⟨k, j, none⟩ = some v) (hk : k ≠ g) : w'.cell? ⟨k, j, none⟩ = some v := by
  have hlt := World.block_lt_of_cell? w _ hc
  exact (World.cell?_of_block (w := w) (h.block k hlt hk)).trans hc
end Go.Proofs.YthihlbfmpkjhpaaGreatDoor

namespace Go.Proofs.YthihlbfmpkjhpaaGreatDoor
open Go.Shelf
def Tryz.laysM316_ren : Go.Shelf.Ren := ⟨fun | 316 => 135 | n => n, fun | 9 => 9 | 3 => 3 | 4 => 4 | 37 => 59 | 0 => 0 | 127 => 139 | 5 => 5 | n => n, fun | n => n⟩
theorem Tryz.laysM316 : Go.Proofs.LaysM.n316 Tryz.prog Tryz.laysM316_ren := {
  mixed := by kernel_rfl
  f316 := Tryz.func135.trans (congrArg some (by kernel_rfl))
  t0 := Tryz.underlying0
  a0 := Tryz.isAgg0
  z0 := Tryz.sizeOf0
  v0 := Tryz.zeroValue0
  t3 := Tryz.underlying3
  a3 := Tryz.isAgg3
  z3 := Tryz.sizeOf3
  v3 := Tryz.zeroValue3
  t4 := Tryz.underlying4
  a4 := Tryz.isAgg4
  z4 := Tryz.sizeOf4
  v4 := Tryz.zeroValue4
  t9 := Tryz.underlying9
  a9 := Tryz.isAgg9
  z9 := Tryz.sizeOf9
  v9 := Tryz.zeroValue9
  t37 := Tryz.underlying59
  a37 := Tryz.isAgg59
  z37 := Tryz.sizeOf59
  v37 := Tryz.zeroValue59
  t127 := Tryz.underlying139
  a127 := Tryz.isAgg139
  z127 := Tryz.sizeOf139
  v127 := Tryz.zeroValue139
  t5 := Tryz.underlying5
  a5 := Tryz.isAgg5
  z5 := Tryz.sizeOf5
  v5 := Tryz.zeroValue5
  i0 := by kernel_rfl
  i3 := by kernel_rfl
  i4 := by kernel_rfl
  i5 := by kernel_rfl
  i9 := by kernel_rfl
  i37 := by kernel_rfl
  i127 := by kernel_rfl }
open Go.RowKit in
theorem Tryz.stringslite_Clone (s : ByteArray) (w : World) (hlim : s.size ≤ 281474976710656) :
    Calls Tryz.prog 135 #[.string s] w fun e w' => e = .returned (.string s) ∧ Below w.heap.size w w' := Any.stringslite_Clone Tryz.laysM316 s w hlim
def Tryz.lays99_ren : Go.Shelf.Ren := ⟨fun | 99 => 74 | 206 => 99 | n => n, fun | 9 => 9 | 4 => 4 | 3 => 3 | n => n, fun | n => n⟩
theorem Tryz.lays99 : Go.Proofs.Lays.n99 Tryz.prog Tryz.lays99_ren := {
  mixed := by kernel_rfl
  f99 := Tryz.func74.trans (congrArg some (by kernel_rfl))
  f206 := Tryz.func99.trans (congrArg some (by kernel_rfl))
  t3 := Tryz.underlying3
  a3 := Tryz.isAgg3
  z3 := Tryz.sizeOf3
  v3 := Tryz.zeroValue3
  t4 := Tryz.underlying4
  a4 := Tryz.isAgg4
  z4 := Tryz.sizeOf4
  v4 := Tryz.zeroValue4
  t9 := Tryz.underlying9
  a9 := Tryz.isAgg9
  z9 := Tryz.sizeOf9
  v9 := Tryz.zeroValue9 }
open Go.RowKit Go.Lib in
theorem Tryz.strings_HasPrefix (s p : ByteArray) (w : World) :
    Calls Tryz.prog 74 #[.string s, .string p] w fun e w' => e = .returned (.bool (Lib.hasPrefix s.data.toList p.data.toList)) ∧ w' = w := Any.strings_HasPrefix Tryz.lays99 s p w
end Go.Proofs.YthihlbfmpkjhpaaGreatDoor

namespace Go.Proofs.YthihlbfmpkjhpaaGreatDoor
open Go Go.RowKit
set_option linter.unusedVariables false

theorem cloneC (s : ByteArray) (w : World) (hs : s.size ≤ 1000000) :
    Calls Tryz.prog 122 #[.string s] w fun e w' => e = .returned (.string s) ∧ Below w.heap.size w w' := by
  go_enter Tryz.func122, Tryz.ntmps122
  go_wp2_with fail
  refine (Tryz.stringslite_Clone s _ (by omega)).mono ?_
  rintro e w1 ⟨rfl, hb⟩
  go_wp2_with fail
  go_ret
  exact ⟨rfl, hb⟩

/-- The reader at block g of text t stands at r; a4 is the error of an end. -/
def RdAt (w : World) (g : Nat) (t : ByteArray) (r : RS) (a4 : Addr) : Prop :=
  ∃ e, Lies w g 111 #[.string (t.extract r.p t.size), e] ∧ ((r.bad = false ∧ e = .nilIface) ∨ (r.bad = true ∧ ∃ nm, e = argErr nm a4))
theorem RdAt.lt {w : World} {g : Nat} {t : ByteArray} {r : RS} {a4 : Addr} (h : RdAt w g t r a4) : g < w.heap.size := by
  obtain ⟨e, h, _⟩ := h
  exact h.lt
theorem RdAt.below {w w' : World} {g : Nat} {t : ByteArray} {r : RS} {a4 : Addr} (h : RdAt w g t r a4) (hb : Below w.heap.size w w') : RdAt w' g t r a4 := by
  obtain ⟨e, h1, h2⟩ := h
  exact ⟨e, (hb.block g h1.lt).trans h1, h2⟩

def TkAns (v : Value) (g : Nat) (t : ByteArray) (r : RS) (a4 : Addr) (w : World) (e : Ending) (w' : World) : Prop := e = .returned v ∧ RdAt w' g t r a4 ∧ But g w w'

set_option maxRecDepth 100000 in
set_option maxHeartbeats 4000000 in
theorem bytesC (g : Nat) (t part : ByteArray) (r : RS) (n : Nat) (a4 : Addr) (w : World) (ht : t.size ≤ 65536) (hn : n ≤ 70000) (hp : r.p ≤ t.size) (h : RdAt w g t r a4) (hE : ErrVar w 4 a4) (hg : 4 ≠ g) :
    Calls Tryz.prog 102 #[.pointer (some ⟨g, 0, none⟩), .string part, .int .i64 n] w fun e w' => TkAns (.string (r.tk t n)) g t (r.nx t n) a4 w e w' := by
  obtain ⟨e, hl, hc⟩ := h
  unfold ErrVar at hE
  have hlt := hl.lt
  have hrs : (t.extract r.p t.size).size = t.size - r.p := by rw [ByteArray.size_extract]; omega
  obtain ⟨p, bad⟩ := r
  rcases hc with ⟨hb, rfl⟩ | ⟨hb, nm, rfl⟩
  · by_cases h1 : p + n ≤ t.size
    · obtain ⟨e1, e2⟩ := RS.yes (t := t) (r := ⟨p, bad⟩) (n := n) hb h1
      have x1 := ext_ext t p n h1
      have x2 := ext_rest t p n h1
      rw [e1, e2]
      have cl := fun w' => cloneC (t.extract p (p + n)) w' (by rw [ByteArray.size_extract]; omega)
      simp only at hl hrs x1 x2 e1 e2
      obtain ⟨R, hR⟩ : ∃ R, t.extract p t.size = R := ⟨_, rfl⟩
      obtain ⟨T, hT⟩ : ∃ T, t.extract p (p + n) = T := ⟨_, rfl⟩
      obtain ⟨R2, hR2⟩ : ∃ T, t.extract (p + n) t.size = T := ⟨_, rfl⟩
      rw [hR] at hl hrs x1 x2
      rw [hT] at x1 cl ⊢
      rw [hR2] at x2
      have x3 := x2
      rw [hrs] at x3
      have HR2 : Hid (t.extract (p + n) t.size = R2) := hR2
      have m0 := hl.cell (j := 0) rfl
      have m1 := hl.cell (j := 1) rfl
      have hn1 : (0 : Int) ≤ (n : Int) := by omega
      have hn2 : (n : Int) ≤ (R.size : Int) := by omega
      have HL : Hid (Lies w g 111 #[.string R, .nilIface]) := hl
      have CL : Hid (∀ w' : World, _) := cl
      clear hl cl hR hT hR2 hE e1 e2 hb h1
      go_enter Tryz.func102, Tryz.ntmps102
      go_wp2_with fail
      refine (CL.out _).mono ?_
      rintro e w1 ⟨rfl, hb1⟩
      have hl1 := HL.out.below hb1 hlt
      have k0 := hl1.cell (j := 0) rfl
      have k1 := hl1.cell (j := 1) rfl
      have f0 := hl1.fro 0
      have HL1 : Hid (Lies w1 g 111 #[.string R, .nilIface]) := hl1
      have B1 : Hid (Below w.heap.size w w1) := hb1
      clear hl1 hb1 m0 m1 CL
      go_wp2_with fail
      go_ret
      refine ⟨rfl, ⟨.nilIface, ?_, .inl ⟨rfl, rfl⟩⟩, (But.of_below B1.out).trans (But.setCell w1 _)⟩
      rw [HR2.out]
      exact HL1.out.put 0 _
    · obtain ⟨e1, e2⟩ := RS.no (t := t) (r := ⟨p, bad⟩) (n := n) (.inr (by simp only; omega))
      rw [e1, e2]
      simp only at hl hrs hp
      obtain ⟨R, hR⟩ : ∃ R, t.extract p t.size = R := ⟨_, rfl⟩
      rw [hR] at hl hrs
      have HR : Hid (t.extract p t.size = R) := hR
      have m0 := hl.cell (j := 0) rfl
      have m1 := hl.cell (j := 1) rfl
      have f1 := hl.fro 1
      have hn2 : (R.size : Int) < (n : Int) := by omega
      have HL : Hid (Lies w g 111 #[.string R, .nilIface]) := hl
      clear hl hR e1 e2 hb h1
      go_enter Tryz.func102, Tryz.ntmps102
      go_wp2_with fail
      go_ret
      refine ⟨rfl, ⟨argErr part a4, ?_, .inr ⟨rfl, part, rfl⟩⟩, But.setCell w _⟩
      rw [HR.out]
      exact HL.out.put 1 _
  · obtain ⟨e1, e2⟩ := RS.no (t := t) (r := ⟨p, bad⟩) (n := n) (.inl hb)
    rw [e1, e2]
    simp only at hl
    have m1 := hl.cell (j := 1) rfl
    have HL : Hid (Lies w g 111 #[.string (t.extract p t.size), argErr nm a4]) := hl
    clear hl e1 e2 hb
    go_enter Tryz.func102, Tryz.ntmps102
    go_wp2_with fail
    go_ret
    exact ⟨rfl, ⟨argErr nm a4, HL.out, .inr ⟨rfl, nm, rfl⟩⟩, But.refl g w⟩
end Go.Proofs.YthihlbfmpkjhpaaGreatDoor
