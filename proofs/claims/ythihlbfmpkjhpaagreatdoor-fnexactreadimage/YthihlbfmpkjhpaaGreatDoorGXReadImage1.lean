/- The program's reader: numbers, parts behind their length, a symbol. The program's reader: an image. The program's reader: its end, and how a text is opened. ReadImage of the program. -/
import Derived.Test.YthihlbfmpkjhpaaGreatDoorGXReadImage0
import Derived.Deep.RegionHeld3
import Derived.Deep.RegionLaw
import Derived.Deep.AppendLies
import Derived.Test.YthihlbfmpkjhpaaGreatDoorGXLintImage4
import Derived.Test.YthihlbfmpkjhpaaGreatDoorGXImageText0
import Derived.Test.YthihlbfmpkjhpaaGreatDoorGXLintImage36
import Derived.Test.YthihlbfmpkjhpaaGreatDoorGXLintImage39
namespace Go.Proofs.YthihlbfmpkjhpaaGreatDoor
open Go Go.RowKit
set_option linter.unusedVariables false

theorem But.err {g : Nat} {w w' : World} {k : Nat} {a : Addr} (h : But g w w') (hE : ErrVar w k a) (hk : k ≠ g) : ErrVar w' k a := h.cell hE hk
theorem But.putNew {g Y j : Nat} {w w' : World} (h : But g w w') (hY : w.heap.size ≤ Y) (v : Value) : But g w (w'.setCell ⟨Y, j, none⟩ v) :=
  ⟨h.os, h.tape, h.output, by simpa [World.setCell] using h.size, fun k hk hg => (Below.heap_setCell w' ⟨Y, j, none⟩ v k (by show k ≠ Y; omega)).trans (h.block k hk hg)⟩
theorem But.alloc {g : Nat} {w w' : World} (h : But g w w') (o : Obj) : But g w (w'.alloc o) := h.trans (But.of_below (grown1' w' o))
theorem RdAt.putOther {w : World} {g : Nat} {t : ByteArray} {r : RS} {a4 : Addr} {Y j : Nat} (h : RdAt w g t r a4) (hY : g ≠ Y) (v : Value) : RdAt (w.setCell ⟨Y, j, none⟩ v) g t r a4 := by
  obtain ⟨e, h1, h2⟩ := h
  exact ⟨e, h1.putOther hY v, h2⟩
theorem ErrVar.putOther {w : World} {k : Nat} {a : Addr} {Y j : Nat} (h : ErrVar w k a) (hY : k ≠ Y) (v : Value) : ErrVar (w.setCell ⟨Y, j, none⟩ v) k a := by
  unfold ErrVar at h ⊢
  rw [World.cell?_of_block (w := w) (Below.heap_setCell w ⟨Y, j, none⟩ v k hY)]
  exact h

theorem numC (g : Nat) (t part : ByteArray) (r : RS) (n : Nat) (a4 : Addr) (w : World) (ht : t.size ≤ 65536) (hn : n ≤ 2) (hp : r.p ≤ t.size) (h : RdAt w g t r a4) (hE : ErrVar w 4 a4) (hg : 4 ≠ g) :
    Calls Tryz.prog 78 #[.pointer (some ⟨g, 0, none⟩), .string part, .int .i64 n] w fun e w' => TkAns (.int .i64 (r.nb t n)) g t (r.nx t n) a4 w e w' := by
  have hs := r.tk_size t n
  have hv := r.nb_lt t n hn
  have hq : IntKind.i64.wrap (r.nb t n : Int) = (r.nb t n : Int) := by rw [IntKind.wrap_i64]; omega
  have ga : ∀ w' : World, Calls Tryz.prog 103 #[.string (r.tk t n)] w' fun e w'' => e = .returned (.int .u64 (r.nb t n)) ∧ w'' = w' := fun w' => gather_u64 (r.tk t n) w' (by omega)
  have by1 := bytesC g t part r n a4 w ht (by omega) hp h hE hg
  obtain ⟨T, hT⟩ : ∃ T, r.tk t n = T := ⟨_, rfl⟩
  obtain ⟨v, hvv⟩ : ∃ v, r.nb t n = v := ⟨_, rfl⟩
  obtain ⟨r', hr'⟩ : ∃ v, r.nx t n = v := ⟨_, rfl⟩
  rw [hT, hvv] at ga
  rw [hvv] at hv hq ⊢
  rw [hr'] at by1 ⊢
  rw [hT] at by1
  have GA : Hid (∀ w' : World, _) := ga
  clear ga hT hvv hr' h hE hs
  go_enter Tryz.func78, Tryz.ntmps78
  go_wp2_with fail
  refine by1.mono ?_
  rintro e w1 ⟨rfl, h1, hb1⟩
  have H1 : Hid (RdAt w1 g t r' a4) := h1
  have B1 : Hid (But g w w1) := hb1
  clear h1 hb1 by1
  go_wp2_with fail
  refine (GA.out _).mono ?_
  rintro e w2 ⟨rfl, rfl⟩
  clear GA
  go_wp2_with fail
  go_ret
  exact ⟨rfl, H1.out, B1.out⟩

theorem cntC (g : Nat) (t part : ByteArray) (r : RS) (k : Nat) (a4 : Addr) (w : World) (ht : t.size ≤ 65536) (hn : k ≤ 2) (hp : r.p ≤ t.size) (h : RdAt w g t r a4) (hE : ErrVar w 4 a4) (hg : 4 ≠ g) :
    Calls Tryz.prog 77 #[.pointer (some ⟨g, 0, none⟩), .string part, .int .i64 k] w fun e w' => TkAns (.string (r.ct t k)) g t (r.cx t k) a4 w e w' := by
  have hv := r.nb_lt t k hn
  have nu := numC g t part r k a4 w ht hn hp h hE hg
  have HE : Hid (ErrVar w 4 a4) := hE
  have hp1 := RS.le k hp
  unfold RS.ct RS.cx
  obtain ⟨r', hr'⟩ : ∃ v, r.nx t k = v := ⟨_, rfl⟩
  obtain ⟨v, hvv⟩ : ∃ v, r.nb t k = v := ⟨_, rfl⟩
  rw [hr'] at nu hp1 ⊢
  rw [hvv] at nu hv ⊢
  clear h hE hr' hvv
  go_enter Tryz.func77, Tryz.ntmps77
  go_wp2_with fail
  refine nu.mono ?_
  rintro e w1 ⟨rfl, h1, hb1⟩
  have B1 : Hid (But g w w1) := hb1
  have by1 := bytesC g t part r' v a4 w1 ht (by omega) hp1 h1 (hb1.err HE.out hg) hg
  clear h1 hb1 nu
  go_wp2_with fail
  refine by1.mono ?_
  rintro e w2 ⟨rfl, h2, hb2⟩
  have H2 : Hid (RdAt w2 g t (r'.nx t v) a4) := h2
  have B2 : Hid (But g w w2) := B1.out.trans hb2
  clear h2 hb2 by1
  go_wp2_with fail
  go_ret
  exact ⟨rfl, H2.out, B2.out⟩

set_option maxRecDepth 100000 in
set_option maxHeartbeats 8000000 in
theorem symC (g : Nat) (t : ByteArray) (r : RS) (a4 : Addr) (w : World) (ht : t.size ≤ 65536) (hp : r.p ≤ t.size) (h : RdAt w g t r a4) (hE : ErrVar w 4 a4) (hg : 4 ≠ g) :
    Calls Tryz.prog 79 #[.pointer (some ⟨g, 0, none⟩)] w fun e w' => TkAns (.agg #[.string (r.sy t).nm, .int .i64 (r.sy t).kd, .int .i64 (r.sy t).pl, .int .i64 (r.sy t).sz, .int .i64 (r.sy t).fr]) g t (r.sx t) a4 w e w' := by
  have hlt := h.lt
  have hgl : 4 < w.heap.size := World.block_lt_of_cell? w _ hE
  have Z : Array Value := #[.string ByteArray.empty, .int .i64 0, .int .i64 0, .int .i64 0, .int .i64 0]
  have bA : Below w.heap.size w ((w.alloc (.cells #[.string ByteArray.empty, .int .i64 0, .int .i64 0, .int .i64 0, .int .i64 0] 76)).alloc (.cells #[.string ByteArray.empty, .int .i64 0, .int .i64 0, .int .i64 0, .int .i64 0] 76)) := ((Below.refl _ _).alloc (Nat.le_refl _) _).alloc (by simp) _
  have lr := (Lies.new w #[.string ByteArray.empty, .int .i64 0, .int .i64 0, .int .i64 0, .int .i64 0] 76).alloc (.cells #[.string ByteArray.empty, .int .i64 0, .int .i64 0, .int .i64 0, .int .i64 0] 76)
  have ly := Lies.newAt (w.alloc (.cells #[.string ByteArray.empty, .int .i64 0, .int .i64 0, .int .i64 0, .int .i64 0] 76)) #[.string ByteArray.empty, .int .i64 0, .int .i64 0, .int .i64 0, .int .i64 0] 76 (g := w.heap.size + 1) (by simp)
  have p1 : (r.r1 t).p ≤ t.size := RS.cx_le _ hp
  have p2 : (r.r2 t).p ≤ t.size := RS.le _ p1
  have p3 : (r.r3 t).p ≤ t.size := RS.le _ p2
  have p4 : (r.r4 t).p ≤ t.size := RS.le _ p3
  obtain ⟨v0, hv0⟩ : ∃ v, (w.alloc (.cells #[.string ByteArray.empty, .int .i64 0, .int .i64 0, .int .i64 0, .int .i64 0] 76)).alloc (.cells #[.string ByteArray.empty, .int .i64 0, .int .i64 0, .int .i64 0, .int .i64 0] 76) = v := ⟨_, rfl⟩
  rw [hv0] at bA lr ly
  have HV0 : Hid (_ = v0) := hv0
  obtain ⟨X, hX⟩ : ∃ X, w.heap.size = X := ⟨_, rfl⟩
  rw [hX] at lr ly
  have HXX : Hid (w.heap.size = X) := hX
  have hXg : g ≠ X := by omega
  have hYg : g ≠ X + 1 := by omega
  have hXe : 4 ≠ X := by omega
  have hYe : 4 ≠ X + 1 := by omega
  have hXY : w.heap.size ≤ X + 1 := by omega
  have hXX : w.heap.size ≤ X := by omega
  have R0 : Hid (RdAt v0 g t r a4) := h.below bA
  have U0 : Hid (But g w v0) := But.of_below bA
  have E0 : Hid (ErrVar v0 4 a4) := U0.out.err hE hg
  have LR0 : Hid (Lies v0 X 76 #[.string ByteArray.empty, .int .i64 0, .int .i64 0, .int .i64 0, .int .i64 0]) := lr
  have LY0 : Hid (Lies v0 (X + 1) 76 #[.string ByteArray.empty, .int .i64 0, .int .i64 0, .int .i64 0, .int .i64 0]) := ly
  have hemp : ({ data := #[] } : ByteArray) = ByteArray.empty := rfl
  clear bA lr ly h hE hlt hgl Z hv0 hX
  go_enter Tryz.func79, Tryz.ntmps79
  go_wp2_with fail
  try rw [hemp]
  rw [HV0.out]
  try rw [HXX.out]
  refine (cntC g t _ r 1 a4 _ ht (by omega) hp R0.out E0.out hg).mono ?_
  rintro e w1 ⟨rfl, hr, hb⟩
  have R : Hid (RdAt w1 g t (r.r1 t) a4) := hr
  have U : Hid (But g w w1) := U0.out.trans hb
  have E : Hid (ErrVar w1 4 a4) := hb.err E0.out hg
  have LR : Hid (Lies w1 X 76 #[.string ByteArray.empty, .int .i64 0, .int .i64 0, .int .i64 0, .int .i64 0]) := LR0.out.but hb (Ne.symm hXg)
  have ly := LY0.out.but hb (Ne.symm hYg)
  have f := ly.fro 0
  have LY : Hid (Lies w1 (X + 1) 76 #[.string ByteArray.empty, .int .i64 0, .int .i64 0, .int .i64 0, .int .i64 0]) := ly
  obtain ⟨v1, hv⟩ : ∃ v, w1.setCell ⟨X + 1, 0, none⟩ (.string (r.ct t 1)) = v := ⟨_, rfl⟩
  have R1 : Hid (RdAt v1 g t (r.r1 t) a4) := by rw [← hv]; exact R.out.putOther hYg _
  have U1 : Hid (But g w v1) := by rw [← hv]; exact U.out.putNew hXY _
  have E1 : Hid (ErrVar v1 4 a4) := by rw [← hv]; exact E.out.putOther hYe _
  have LR1 : Hid (Lies v1 X 76 #[.string ByteArray.empty, .int .i64 0, .int .i64 0, .int .i64 0, .int .i64 0]) := by rw [← hv]; exact LR.out.putOther (a := ⟨X + 1, 0, none⟩) (by show X ≠ X + 1; omega) _
  have LY1 : Hid (Lies v1 (X + 1) 76 #[.string (r.ct t 1), .int .i64 0, .int .i64 0, .int .i64 0, .int .i64 0]) := by rw [← hv]; exact LY.out.put 0 _
  have hcell : w1.cell? ⟨X + 1, 0, none⟩ = some (.string ByteArray.empty) := ly.cell (j := 0) rfl
  clear hr hb ly R U E LR LY
  go_wp2_with fail
  try rw [hv]
  clear hv f hcell
  refine (numC g t _ (r.r1 t) 1 a4 _ ht (by omega) p1 R1.out E1.out hg).mono ?_
  rintro e w2 ⟨rfl, hr, hb⟩
  have R : Hid (RdAt w2 g t (r.r2 t) a4) := hr
  have U : Hid (But g w w2) := U1.out.trans hb
  have E : Hid (ErrVar w2 4 a4) := hb.err E1.out hg
  have LR : Hid (Lies w2 X 76 #[.string ByteArray.empty, .int .i64 0, .int .i64 0, .int .i64 0, .int .i64 0]) := LR1.out.but hb (Ne.symm hXg)
  have ly := LY1.out.but hb (Ne.symm hYg)
  have f := ly.fro 1
  have LY : Hid (Lies w2 (X + 1) 76 #[.string (r.ct t 1), .int .i64 0, .int .i64 0, .int .i64 0, .int .i64 0]) := ly
  obtain ⟨v2, hv⟩ : ∃ v, w2.setCell ⟨X + 1, 1, none⟩ (.int .i64 ((r.r1 t).nb t 1)) = v := ⟨_, rfl⟩
  have R2 : Hid (RdAt v2 g t (r.r2 t) a4) := by rw [← hv]; exact R.out.putOther hYg _
  have U2 : Hid (But g w v2) := by rw [← hv]; exact U.out.putNew hXY _
  have E2 : Hid (ErrVar v2 4 a4) := by rw [← hv]; exact E.out.putOther hYe _
  have LR2 : Hid (Lies v2 X 76 #[.string ByteArray.empty, .int .i64 0, .int .i64 0, .int .i64 0, .int .i64 0]) := by rw [← hv]; exact LR.out.putOther (a := ⟨X + 1, 1, none⟩) (by show X ≠ X + 1; omega) _
  have LY2 : Hid (Lies v2 (X + 1) 76 #[.string (r.ct t 1), .int .i64 ((r.r1 t).nb t 1), .int .i64 0, .int .i64 0, .int .i64 0]) := by rw [← hv]; exact LY.out.put 1 _
  have hcell : w2.cell? ⟨X + 1, 1, none⟩ = some (.int .i64 0) := ly.cell (j := 1) rfl
  clear hr hb ly R U E LR LY
  go_wp2_with fail
  try rw [hv]
  clear hv f hcell
  refine (numC g t _ (r.r2 t) 2 a4 _ ht (by omega) p2 R2.out E2.out hg).mono ?_
  rintro e w3 ⟨rfl, hr, hb⟩
  have R : Hid (RdAt w3 g t (r.r3 t) a4) := hr
  have U : Hid (But g w w3) := U2.out.trans hb
  have E : Hid (ErrVar w3 4 a4) := hb.err E2.out hg
  have LR : Hid (Lies w3 X 76 #[.string ByteArray.empty, .int .i64 0, .int .i64 0, .int .i64 0, .int .i64 0]) := LR2.out.but hb (Ne.symm hXg)
  have ly := LY2.out.but hb (Ne.symm hYg)
  have f := ly.fro 2
  have LY : Hid (Lies w3 (X + 1) 76 #[.string (r.ct t 1), .int .i64 ((r.r1 t).nb t 1), .int .i64 0, .int .i64 0, .int .i64 0]) := ly
  obtain ⟨v3, hv⟩ : ∃ v, w3.setCell ⟨X + 1, 2, none⟩ (.int .i64 ((r.r2 t).nb t 2)) = v := ⟨_, rfl⟩
  have R3 : Hid (RdAt v3 g t (r.r3 t) a4) := by rw [← hv]; exact R.out.putOther hYg _
  have U3 : Hid (But g w v3) := by rw [← hv]; exact U.out.putNew hXY _
  have E3 : Hid (ErrVar v3 4 a4) := by rw [← hv]; exact E.out.putOther hYe _
  have LR3 : Hid (Lies v3 X 76 #[.string ByteArray.empty, .int .i64 0, .int .i64 0, .int .i64 0, .int .i64 0]) := by rw [← hv]; exact LR.out.putOther (a := ⟨X + 1, 2, none⟩) (by show X ≠ X + 1; omega) _
  have LY3 : Hid (Lies v3 (X + 1) 76 #[.string (r.ct t 1), .int .i64 ((r.r1 t).nb t 1), .int .i64 ((r.r2 t).nb t 2), .int .i64 0, .int .i64 0]) := by rw [← hv]; exact LY.out.put 2 _
  have hcell : w3.cell? ⟨X + 1, 2, none⟩ = some (.int .i64 0) := ly.cell (j := 2) rfl
  clear hr hb ly R U E LR LY
  go_wp2_with fail
  try rw [hv]
  clear hv f hcell
  refine (numC g t _ (r.r3 t) 2 a4 _ ht (by omega) p3 R3.out E3.out hg).mono ?_
  rintro e w4 ⟨rfl, hr, hb⟩
  have R : Hid (RdAt w4 g t (r.r4 t) a4) := hr
  have U : Hid (But g w w4) := U3.out.trans hb
  have E : Hid (ErrVar w4 4 a4) := hb.err E3.out hg
  have LR : Hid (Lies w4 X 76 #[.string ByteArray.empty, .int .i64 0, .int .i64 0, .int .i64 0, .int .i64 0]) := LR3.out.but hb (Ne.symm hXg)
  have ly := LY3.out.but hb (Ne.symm hYg)
  have f := ly.fro 3
  have LY : Hid (Lies w4 (X + 1) 76 #[.string (r.ct t 1), .int .i64 ((r.r1 t).nb t 1), .int .i64 ((r.r2 t).nb t 2), .int .i64 0, .int .i64 0]) := ly
  obtain ⟨v4, hv⟩ : ∃ v, w4.setCell ⟨X + 1, 3, none⟩ (.int .i64 ((r.r3 t).nb t 2)) = v := ⟨_, rfl⟩
  have R4 : Hid (RdAt v4 g t (r.r4 t) a4) := by rw [← hv]; exact R.out.putOther hYg _
  have U4 : Hid (But g w v4) := by rw [← hv]; exact U.out.putNew hXY _
  have E4 : Hid (ErrVar v4 4 a4) := by rw [← hv]; exact E.out.putOther hYe _
  have LR4 : Hid (Lies v4 X 76 #[.string ByteArray.empty, .int .i64 0, .int .i64 0, .int .i64 0, .int .i64 0]) := by rw [← hv]; exact LR.out.putOther (a := ⟨X + 1, 3, none⟩) (by show X ≠ X + 1; omega) _
  have LY4 : Hid (Lies v4 (X + 1) 76 #[.string (r.ct t 1), .int .i64 ((r.r1 t).nb t 1), .int .i64 ((r.r2 t).nb t 2), .int .i64 ((r.r3 t).nb t 2), .int .i64 0]) := by rw [← hv]; exact LY.out.put 3 _
  have hcell : w4.cell? ⟨X + 1, 3, none⟩ = some (.int .i64 0) := ly.cell (j := 3) rfl
  clear hr hb ly R U E LR LY
  go_wp2_with fail
  try rw [hv]
  clear hv f hcell
  refine (numC g t _ (r.r4 t) 1 a4 _ ht (by omega) p4 R4.out E4.out hg).mono ?_
  rintro e w5 ⟨rfl, hr, hb⟩
  have R : Hid (RdAt w5 g t (r.sx t) a4) := hr
  have U : Hid (But g w w5) := U4.out.trans hb
  have E : Hid (ErrVar w5 4 a4) := hb.err E4.out hg
  have LR : Hid (Lies w5 X 76 #[.string ByteArray.empty, .int .i64 0, .int .i64 0, .int .i64 0, .int .i64 0]) := LR4.out.but hb (Ne.symm hXg)
  have ly := LY4.out.but hb (Ne.symm hYg)
  have f := ly.fro 4
  have LY : Hid (Lies w5 (X + 1) 76 #[.string (r.ct t 1), .int .i64 ((r.r1 t).nb t 1), .int .i64 ((r.r2 t).nb t 2), .int .i64 ((r.r3 t).nb t 2), .int .i64 0]) := ly
  obtain ⟨v5, hv⟩ : ∃ v, w5.setCell ⟨X + 1, 4, none⟩ (.int .i64 ((r.r4 t).nb t 1)) = v := ⟨_, rfl⟩
  have R5 : Hid (RdAt v5 g t (r.sx t) a4) := by rw [← hv]; exact R.out.putOther hYg _
  have U5 : Hid (But g w v5) := by rw [← hv]; exact U.out.putNew hXY _
  have E5 : Hid (ErrVar v5 4 a4) := by rw [← hv]; exact E.out.putOther hYe _
  have LR5 : Hid (Lies v5 X 76 #[.string ByteArray.empty, .int .i64 0, .int .i64 0, .int .i64 0, .int .i64 0]) := by rw [← hv]; exact LR.out.putOther (a := ⟨X + 1, 4, none⟩) (by show X ≠ X + 1; omega) _
  have LY5 : Hid (Lies v5 (X + 1) 76 #[.string (r.ct t 1), .int .i64 ((r.r1 t).nb t 1), .int .i64 ((r.r2 t).nb t 2), .int .i64 ((r.r3 t).nb t 2), .int .i64 ((r.r4 t).nb t 1)]) := by rw [← hv]; exact LY.out.put 4 _
  have hcell : w5.cell? ⟨X + 1, 4, none⟩ = some (.int .i64 0) := ly.cell (j := 4) rfl
  clear hr hb ly R U E LR LY
  have c0 := LY5.out.cell (j := 0) rfl
  have x0 := LR5.out.cell (j := 0) rfl
  have q0 := LR5.out.fro 0
  have c1 := LY5.out.cell (j := 1) rfl
  have x1 := LR5.out.cell (j := 1) rfl
  have q1 := LR5.out.fro 1
  have c2 := LY5.out.cell (j := 2) rfl
  have x2 := LR5.out.cell (j := 2) rfl
  have q2 := LR5.out.fro 2
  have c3 := LY5.out.cell (j := 3) rfl
  have x3 := LR5.out.cell (j := 3) rfl
  have q3 := LR5.out.fro 3
  have c4 := LY5.out.cell (j := 4) rfl
  have x4 := LR5.out.cell (j := 4) rfl
  have q4 := LR5.out.fro 4
  go_wp2_with fail
  try rw [hv]
  have n1 := (((((LR5.out.put 0 (.string (r.ct t 1))).put 1 (.int .i64 ((r.r1 t).nb t 1))).put 2 (.int .i64 ((r.r2 t).nb t 2))).put 3 (.int .i64 ((r.r3 t).nb t 2))).put 4 (.int .i64 ((r.r4 t).nb t 1)))
  have hi3 : (Tryz.prog.info? 76).map (·.size) = some (#[Value.string (r.ct t 1), .int .i64 ((r.r1 t).nb t 1), .int .i64 ((r.r2 t).nb t 2), .int .i64 ((r.r3 t).nb t 2), .int .i64 ((r.r4 t).nb t 1)] : Array Value).size := by kernel_rfl
  refine bodyPost_ret (results_lies rfl _ _ _ _ _ _ rfl n1 Tryz.underlying76 rfl hi3) rfl ⟨rfl, (RdAt.putOther (j := 4) (RdAt.putOther (j := 3) (RdAt.putOther (j := 2) (RdAt.putOther (j := 1) (RdAt.putOther (j := 0) R5.out hXg (.string (r.ct t 1))) hXg (.int .i64 ((r.r1 t).nb t 1))) hXg (.int .i64 ((r.r2 t).nb t 2))) hXg (.int .i64 ((r.r3 t).nb t 2))) hXg (.int .i64 ((r.r4 t).nb t 1))), (But.putNew (j := 4) (But.putNew (j := 3) (But.putNew (j := 2) (But.putNew (j := 1) (But.putNew (j := 0) U5.out hXX (.string (r.ct t 1))) hXX (.int .i64 ((r.r1 t).nb t 1))) hXX (.int .i64 ((r.r2 t).nb t 2))) hXX (.int .i64 ((r.r3 t).nb t 2))) hXX (.int .i64 ((r.r4 t).nb t 1)))⟩
end Go.Proofs.YthihlbfmpkjhpaaGreatDoor

namespace Go.Proofs.YthihlbfmpkjhpaaGreatDoor
open Go Go.RowKit
set_option linter.unusedVariables false

theorem Tryz.info_symb : (Tryz.prog.info? 76).map (fun i => (i.zero, i.size, i.bytes)) = some (some (.agg #[.string ByteArray.empty, .int .i64 0, .int .i64 0, .int .i64 0, .int .i64 0]), 5, 48) := by kernel_rfl
def cellsS (S : Nat → SymD) (n : Nat) : List Value := (List.range (n * 5)).map (symV S)
theorem cellsS_succ (S : Nat → SymD) (n : Nat) : cellsS S (n + 1) = cellsS S n ++ [.string (S n).nm, .int .i64 (S n).kd, .int .i64 (S n).pl, .int .i64 (S n).sz, .int .i64 (S n).fr] := by
  unfold cellsS
  rw [show (n + 1) * 5 = n * 5 + 1 + 1 + 1 + 1 + 1 from by omega, List.range_succ, List.range_succ, List.range_succ, List.range_succ, List.range_succ]
  simp only [List.map_append, List.map_cons, List.map_nil, List.append_assoc, List.cons_append, List.nil_append]
  rw [symV0, symV1, symV2, symV3, symV4]
theorem cellsS_len (S : Nat → SymD) (n : Nat) : (cellsS S n).length = n * 5 := by simp [cellsS]
/-- A list of n symbols of the call's own. -/
def OwnS (w : World) (B : Nat) (p : Option Addr) (n : Nat) (S : Nat → SymD) : Prop := n = 0 ∨ ∃ g, p = some ⟨g, 0, none⟩ ∧ B ≤ g ∧ g < w.heap.size ∧ FRow w g 0 (n * 5) (symV S)
theorem OwnS.below {w w' : World} {B : Nat} {p : Option Addr} {n : Nat} {S : Nat → SymD} (h : OwnS w B p n S) (hb : Below w.heap.size w w') : OwnS w' B p n S := by
  rcases h with h | ⟨g, h1, h2, h3, h4⟩
  · exact .inl h
  · exact .inr ⟨g, h1, h2, Nat.lt_of_lt_of_le h3 hb.size, h4.below hb h3⟩
theorem OwnS.syms {w : World} {B : Nat} {p : Option Addr} {n : Nat} {S : Nat → SymD} (h : OwnS w B p n S) : SymsAt w p n S := by
  rcases h with h | ⟨g, h1, h2, h3, h4⟩
  · exact .inl h
  · rw [h1]; exact h4.syms h3
theorem OwnS.low {w : World} {B B' : Nat} {p : Option Addr} {n : Nat} {S : Nat → SymD} (h : OwnS w B p n S) (hb : B' ≤ B) : OwnS w B' p n S := by
  rcases h with h | ⟨g, h1, h2, h3, h4⟩
  · exact .inl h
  · exact .inr ⟨g, h1, Nat.le_trans hb h2, h3, h4⟩
theorem OwnS.putNew {w : World} {B : Nat} {p : Option Addr} {n X j : Nat} {S : Nat → SymD} (h : OwnS w B p n S) (hX : p ≠ some ⟨X, 0, none⟩) (v : Value) : OwnS (w.setCell ⟨X, j, none⟩ v) B p n S := by
  rcases h with h | ⟨g, h1, h2, h3, h4⟩
  · exact .inl h
  · have hne : g ≠ X := fun e => hX (by rw [h1, e])
    exact .inr ⟨g, h1, h2, by simpa [World.setCell] using h3, h4.other hne j v⟩
theorem ownS_of_row {w : World} {B e : Nat} {v : Value} {n : Nat} {S : Nat → SymD} (h : w.ownsRow B e 5 v n (cellsS S n)) : ∃ p c, v = .slice p n c ∧ n ≤ c ∧ OwnS w B p n S := by
  rcases h.2 with ⟨rfl, h0⟩ | ⟨g, cap, cur, rfl, h1, h2, h3, h4, h5, h6⟩
  · exact ⟨none, 0, by rw [h0], by omega, .inl h0⟩
  · refine ⟨_, cap, rfl, h3, .inr ⟨g, rfl, h1, (Array.getElem?_eq_some_iff.1 h2).1, fun i hi => ?_, fun i hi => frozen_of_row w g _ cur e h2⟩⟩
    rw [Nat.zero_add, cell_of_row w g i cur e (0, 0) h2]
    have h7 : (cur.toList.take (n * 5))[i]? = (cellsS S n)[i]? := by rw [h6]
    rw [List.getElem?_take, if_pos hi, Array.getElem?_toList] at h7
    rw [h7]
    simp [cellsS, hi]

theorem ownBlock_ne5 {w : World} {B k : Nat} {e T : TypeId} {v : Value} {n b : Nat} {xs : List Value} {cs : Array Value} (hown : w.ownsRow B e k v n xs) (hb : Lies w b T cs) (hTe : T ≠ e) : v.ownBlock ≠ some b := by
  rcases hown.2 with ⟨rfl, _⟩ | ⟨g, cap, cur, rfl, _, hg, _⟩
  · simp [Value.ownBlock]
  · intro h
    simp only [Value.ownBlock, Option.some.injEq] at h
    subst h
    have hb' := hb
    unfold Lies at hb'
    rw [hg] at hb'
    simp only [Option.some.injEq, Obj.cells.injEq] at hb'
    exact hTe hb'.2.1.symm

theorem row_but {w w' : World} {g B e size n : Nat} {v : Value} {xs : List Value} (h : w.ownsRow B e size v n xs) (hb : But g w w') (hne : v.ownBlock ≠ some g) : w'.ownsRow B e size v n xs := by
  refine ⟨h.1, ?_⟩
  rcases h.2 with hv | ⟨k, cap, cur, h1, h2, h3, h4⟩
  · exact .inl hv
  · refine .inr ⟨k, cap, cur, h1, h2, (hb.block k (Array.getElem?_eq_some_iff.1 h3).1 (fun e => hne ?_)).trans h3, h4⟩
    rw [h1, e]; rfl
theorem row_set {w : World} {b j B e size n : Nat} {v u : Value} {xs : List Value} (h : w.ownsRow B e size v n xs) (hne : v.ownBlock ≠ some b) : (w.setCell ⟨b, j, none⟩ u).ownsRow B e size v n xs := by
  refine ⟨h.1, ?_⟩
  rcases h.2 with hv | ⟨k, cap, cur, h1, h2, h3, h4⟩
  · exact .inl hv
  · refine .inr ⟨k, cap, cur, h1, h2, (Below.heap_setCell w ⟨b, j, none⟩ u k (fun e => hne ?_)).trans h3, h4⟩
    rw [h1, e]; rfl
theorem Lies.grown {a b : World} {row : Option Nat} {k : Nat} {T : TypeId} {cs : Array Value} (h : Lies a k T cs) (hg : a.grownBy b row) (hr : row ≠ some k) : Lies b k T cs := (hg.block k h.lt (fun e => hr e.symm)).trans h
theorem RdAt.grown {a b : World} {row : Option Nat} {g : Nat} {t : ByteArray} {r : RS} {a4 : Addr} (h : RdAt a g t r a4) (hg : a.grownBy b row) (hr : row ≠ some g) : RdAt b g t r a4 := by
  obtain ⟨e, h1, h2⟩ := h
  exact ⟨e, h1.grown hg hr, h2⟩
theorem RdAt.drew {w : World} {g : Nat} {t : ByteArray} {r : RS} {a4 : Addr} (h : RdAt w g t r a4) : RdAt w.drew g t r a4 := h
theorem ErrVar.drew {w : World} {k : Nat} {a : Addr} (h : ErrVar w k a) : ErrVar w.drew k a := h
theorem But.grown {g : Nat} {w a b : World} {row : Option Nat} (h : But g w a) (hg : a.grownBy b row) (hr : ∀ k, row = some k → w.heap.size ≤ k) : But g w b :=
  ⟨hg.os.trans h.os, hg.tape.trans h.tape, hg.output.trans h.output, Nat.le_trans h.size hg.size, fun k hk hne => (hg.block k (Nat.lt_of_lt_of_le hk h.size) (fun e => by have := hr k e.symm; omega)).trans (h.block k hk hne)⟩

/-- What the reader takes for an image, from r on. -/
def RS.i1 (t : ByteArray) (r : RS) : RS := r.cx t 2
def RS.i2 (t : ByteArray) (r : RS) : RS := (r.i1 t).cx t 2
def RS.i3 (t : ByteArray) (r : RS) : RS := (r.i2 t).nx t 1
def RS.iN (t : ByteArray) (r : RS) : Nat := (r.i2 t).nb t 1
def RS.iS (t : ByteArray) (r : RS) (m : Nat) : SymD := (RS.at t (r.i3 t) m).sy t
def RS.iE (t : ByteArray) (r : RS) : RS := RS.at t (r.i3 t) (r.iN t)

def ImAns (g : Nat) (t : ByteArray) (r : RS) (a4 : Addr) (w : World) (e : Ending) (w' : World) : Prop :=
  ∃ q c, e = .returned (.agg #[.string (r.ct t 2), .string ((r.i1 t).ct t 2), .slice q (r.iN t) c]) ∧ r.iN t ≤ c ∧ OwnS w' w.heap.size q (r.iN t) (r.iS t) ∧ RdAt w' g t (r.iE t) a4 ∧ But g w w'

set_option maxRecDepth 100000 in
set_option maxHeartbeats 16000000 in
theorem imgC (g : Nat) (t : ByteArray) (r : RS) (a4 : Addr) (w : World) (ht : t.size ≤ 65536) (hp : r.p ≤ t.size) (h : RdAt w g t r a4) (hE : ErrVar w 4 a4) (hg : 4 ≠ g) :
    Calls Tryz.prog 47 #[.pointer (some ⟨g, 0, none⟩)] w fun e w' => ImAns g t r a4 w e w' := by
  obtain ⟨i0, hi0, hz0, hz1, hz2⟩ := info_parts Tryz.info_symb
  have hlt := h.lt
  have hgl : 4 < w.heap.size := World.block_lt_of_cell? w _ hE
  have bA : Below w.heap.size w ((w.alloc (.cells #[.string ByteArray.empty, .string ByteArray.empty, .slice none 0 0] 30)).alloc (.cells #[.string ByteArray.empty, .string ByteArray.empty, .slice none 0 0] 30)) := ((Below.refl _ _).alloc (Nat.le_refl _) _).alloc (by simp) _
  have lr := (Lies.new w #[.string ByteArray.empty, .string ByteArray.empty, .slice none 0 0] 30).alloc (.cells #[.string ByteArray.empty, .string ByteArray.empty, .slice none 0 0] 30)
  have ly := Lies.newAt (w.alloc (.cells #[.string ByteArray.empty, .string ByteArray.empty, .slice none 0 0] 30)) #[.string ByteArray.empty, .string ByteArray.empty, .slice none 0 0] 30 (g := w.heap.size + 1) (by simp)
  have p1 : (r.i1 t).p ≤ t.size := RS.cx_le _ hp
  have p2 : (r.i2 t).p ≤ t.size := RS.cx_le _ p1
  have p3 : (r.i3 t).p ≤ t.size := RS.le _ p2
  have hN : r.iN t ≤ 255 := by have := (r.i2 t).nb1_lt t; unfold RS.iN; omega
  obtain ⟨v0, hv0⟩ : ∃ v, (w.alloc (.cells #[.string ByteArray.empty, .string ByteArray.empty, .slice none 0 0] 30)).alloc (.cells #[.string ByteArray.empty, .string ByteArray.empty, .slice none 0 0] 30) = v := ⟨_, rfl⟩
  rw [hv0] at bA lr ly
  obtain ⟨X, hX⟩ : ∃ X, w.heap.size = X := ⟨_, rfl⟩
  rw [hX] at lr ly
  have HV0 : Hid (_ = v0) := hv0
  have HXX : Hid (w.heap.size = X) := hX
  have hXg : g ≠ X := by omega
  have hYg : g ≠ X + 1 := by omega
  have hXe : 4 ≠ X := by omega
  have hYe : 4 ≠ X + 1 := by omega
  have hXY : w.heap.size ≤ X + 1 := by omega
  have hXX : w.heap.size ≤ X := by omega
  have R0 : Hid (RdAt v0 g t r a4) := h.below bA
  have U0 : Hid (But g w v0) := But.of_below bA
  have E0 : Hid (ErrVar v0 4 a4) := U0.out.err hE hg
  have LR0 : Hid (Lies v0 X 30 #[.string ByteArray.empty, .string ByteArray.empty, .slice none 0 0]) := lr
  have LY0 : Hid (Lies v0 (X + 1) 30 #[.string ByteArray.empty, .string ByteArray.empty, .slice none 0 0]) := ly
  have hemp : ({ data := #[] } : ByteArray) = ByteArray.empty := rfl
  have HE : Hid (ErrVar w 4 a4) := hE
  clear bA lr ly h hE hlt hgl hv0 hX
  go_enter Tryz.func47, Tryz.ntmps47
  go_wp2_with fail
  try rw [hemp]
  rw [HV0.out]
  try rw [HXX.out]
  refine (cntC g t _ r 2 a4 _ ht (by omega) hp R0.out E0.out hg).mono ?_
  rintro e w1 ⟨rfl, hr, hb⟩
  have R : Hid (RdAt w1 g t (r.i1 t) a4) := hr
  have U : Hid (But g w w1) := U0.out.trans hb
  have E : Hid (ErrVar w1 4 a4) := hb.err E0.out hg
  have LR : Hid (Lies w1 X 30 #[.string ByteArray.empty, .string ByteArray.empty, .slice none 0 0]) := LR0.out.but hb (Ne.symm hXg)
  have ly := LY0.out.but hb (Ne.symm hYg)
  have f := ly.fro 0
  have LY : Hid (Lies w1 (X + 1) 30 #[.string ByteArray.empty, .string ByteArray.empty, .slice none 0 0]) := ly
  obtain ⟨v1, hv⟩ : ∃ v, w1.setCell ⟨X + 1, 0, none⟩ (.string (r.ct t 2)) = v := ⟨_, rfl⟩
  have R1 : Hid (RdAt v1 g t (r.i1 t) a4) := by rw [← hv]; exact R.out.putOther hYg _
  have U1 : Hid (But g w v1) := by rw [← hv]; exact U.out.putNew hXY _
  have E1 : Hid (ErrVar v1 4 a4) := by rw [← hv]; exact E.out.putOther hYe _
  have LR1 : Hid (Lies v1 X 30 #[.string ByteArray.empty, .string ByteArray.empty, .slice none 0 0]) := by rw [← hv]; exact LR.out.putOther (a := ⟨X + 1, 0, none⟩) (by show X ≠ X + 1; omega) _
  have LY1 : Hid (Lies v1 (X + 1) 30 #[.string (r.ct t 2), .string ByteArray.empty, .slice none 0 0]) := by rw [← hv]; exact LY.out.put 0 _
  have hcell : w1.cell? ⟨X + 1, 0, none⟩ = some (.string ByteArray.empty) := ly.cell (j := 0) rfl
  clear hr hb ly R U E LR LY
  go_wp2_with fail
  try rw [hv]
  clear hv f hcell
  refine (cntC g t _ (r.i1 t) 2 a4 _ ht (by omega) p1 R1.out E1.out hg).mono ?_
  rintro e w2 ⟨rfl, hr, hb⟩
  have R : Hid (RdAt w2 g t (r.i2 t) a4) := hr
  have U : Hid (But g w w2) := U1.out.trans hb
  have E : Hid (ErrVar w2 4 a4) := hb.err E1.out hg
  have LR : Hid (Lies w2 X 30 #[.string ByteArray.empty, .string ByteArray.empty, .slice none 0 0]) := LR1.out.but hb (Ne.symm hXg)
  have ly := LY1.out.but hb (Ne.symm hYg)
  have f := ly.fro 1
  have LY : Hid (Lies w2 (X + 1) 30 #[.string (r.ct t 2), .string ByteArray.empty, .slice none 0 0]) := ly
  obtain ⟨v2, hv⟩ : ∃ v, w2.setCell ⟨X + 1, 1, none⟩ (.string ((r.i1 t).ct t 2)) = v := ⟨_, rfl⟩
  have R2 : Hid (RdAt v2 g t (r.i2 t) a4) := by rw [← hv]; exact R.out.putOther hYg _
  have U2 : Hid (But g w v2) := by rw [← hv]; exact U.out.putNew hXY _
  have E2 : Hid (ErrVar v2 4 a4) := by rw [← hv]; exact E.out.putOther hYe _
  have LR2 : Hid (Lies v2 X 30 #[.string ByteArray.empty, .string ByteArray.empty, .slice none 0 0]) := by rw [← hv]; exact LR.out.putOther (a := ⟨X + 1, 1, none⟩) (by show X ≠ X + 1; omega) _
  have LY2 : Hid (Lies v2 (X + 1) 30 #[.string (r.ct t 2), .string ((r.i1 t).ct t 2), .slice none 0 0]) := by rw [← hv]; exact LY.out.put 1 _
  have hcell : w2.cell? ⟨X + 1, 1, none⟩ = some (.string ByteArray.empty) := ly.cell (j := 1) rfl
  clear hr hb ly R U E LR LY
  go_wp2_with fail
  try rw [hv]
  clear hv f hcell
  refine (numC g t _ (r.i2 t) 1 a4 _ ht (by omega) p2 R2.out E2.out hg).mono ?_
  rintro e w3 ⟨rfl, hr, hb⟩
  have R3 : Hid (RdAt w3 g t (r.i3 t) a4) := hr
  have U3 : Hid (But g w w3) := U2.out.trans hb
  have E3 : Hid (ErrVar w3 4 a4) := hb.err E2.out hg
  have LR3 : Hid (Lies w3 X 30 #[.string ByteArray.empty, .string ByteArray.empty, .slice none 0 0]) := LR2.out.but hb (Ne.symm hXg)
  have LY3 : Hid (Lies w3 (X + 1) 30 #[.string (r.ct t 2), .string ((r.i1 t).ct t 2), .slice none 0 0]) := LY2.out.but hb (Ne.symm hYg)
  obtain ⟨S, hS⟩ : ∃ S, r.iS t = S := ⟨_, rfl⟩
  have HS : Hid (r.iS t = S) := hS
  obtain ⟨N, hNN⟩ : ∃ N, r.iN t = N := ⟨_, rfl⟩
  rw [show (r.i2 t).nb t 1 = N from hNN]
  rw [hNN] at hN
  have HNN : Hid (r.iN t = N) := hNN
  clear hr hb hS hNN
  go_wp2_with fail
  go_loopw [13] (fun i wr => ∃ (m : Nat) (v : Value), m ≤ N ∧ i = .int .i64 m ∧ Hid (Lies wr (X + 1) 30 #[.string (r.ct t 2), .string ((r.i1 t).ct t 2), v]) ∧ Hid (wr.ownsRow w.heap.size 76 5 v m (cellsS S m)) ∧ Hid (Lies wr X 30 #[.string ByteArray.empty, .string ByteArray.empty, .slice none 0 0]) ∧ Hid (RdAt wr g t (RS.at t (r.i3 t) m) a4) ∧ Hid (But g w wr) ∧ Hid (ErrVar wr 4 a4)) (fun i _ => N - (intOf i).toNat)
  case atStart => exact ⟨0, .slice none 0 0, Nat.zero_le _, rfl, LY3, World.ownsRow_nil _ _ _ _, LR3, R3, U3, E3⟩
  case round =>
    obtain ⟨m, v, hm, rfl, LY, OW, LR, R, U, E⟩ := hrel
    by_cases hlt : m < N
    · have py : (RS.at t (r.i3 t) m).p ≤ t.size := RS.at_le p3 m
      have ly := LY.out
      have y2 := ly.cell (j := 2) rfl
      have hsw := U.out.size
      have eC := cellsS_succ S m
      have eSm : S m = (RS.at t (r.i3 t) m).sy t := by rw [← HS.out]; rfl
      rw [eSm] at eC
      have sc := fun w' (h1 : RdAt w' g t (RS.at t (r.i3 t) m) a4) (h2 : ErrVar w' 4 a4) => symC g t (RS.at t (r.i3 t) m) a4 w' ht py h1 h2 hg
      obtain ⟨nm, e0⟩ : ∃ y, ((RS.at t (r.i3 t) m).sy t).nm = y := ⟨_, rfl⟩
      obtain ⟨kd, e1⟩ : ∃ y, ((RS.at t (r.i3 t) m).sy t).kd = y := ⟨_, rfl⟩
      obtain ⟨pl, e2⟩ : ∃ y, ((RS.at t (r.i3 t) m).sy t).pl = y := ⟨_, rfl⟩
      obtain ⟨sz, e3⟩ : ∃ y, ((RS.at t (r.i3 t) m).sy t).sz = y := ⟨_, rfl⟩
      obtain ⟨fr, e4⟩ : ∃ y, ((RS.at t (r.i3 t) m).sy t).fr = y := ⟨_, rfl⟩
      rw [e0, e1, e2, e3, e4] at sc eC
      have EC : Hid (cellsS S (m + 1) = cellsS S m ++ [.string nm, .int .i64 kd, .int .i64 pl, .int .i64 sz, .int .i64 fr]) := eC
      have SC : Hid (∀ w' : World, RdAt w' g t (RS.at t (r.i3 t) m) a4 → ErrVar w' 4 a4 → Calls Tryz.prog 79 #[.pointer (some ⟨g, 0, none⟩)] w' fun e w'' => TkAns (.agg #[.string nm, .int .i64 kd, .int .i64 pl, .int .i64 sz, .int .i64 fr]) g t (RS.at t (r.i3 t) (m + 1)) a4 w' e w'') := sc
      have hvX : v.ownBlock ≠ some X := ownBlock_ne5 OW.out LR.out (by decide)
      have hvY : v.ownBlock ≠ some (X + 1) := ownBlock_ne5 OW.out LY.out (by decide)
      clear ly eC eSm sc e0 e1 e2 e3 e4
      have hvg : v.ownBlock ≠ some g := by
        obtain ⟨e, hl, _⟩ := R.out
        exact ownBlock_ne5 OW.out hl (by decide)
      have HVX : Hid (v.ownBlock ≠ some X) := hvX
      have HVY : Hid (v.ownBlock ≠ some (X + 1)) := hvY
      have HVG : Hid (v.ownBlock ≠ some g) := hvg
      clear hvX hvY hvg
      go_wp2_with fail
      go_region_law (first | (refine step_append_lies _ (by rfl) _ _ 28 (by rfl) w.heap.size 76 i0 _ 5 48 Tryz.underlying28 hi0 hz0 hz1 hz2 rfl (by decide) _ _ _ (by rfl) (OW5.alloc _) ⟨w5.heap.size, 0, none⟩ 1 1 [.string nm, .int .i64 kd, .int .i64 pl, .int .i64 sz, .int .i64 fr] (by rfl) (by rfl) (World.news_of_block (cs := #[.string nm, .int .i64 kd, .int .i64 pl, .int .i64 sz, .int .i64 fr]) (t := 76) (fr := (0, 0)) (heap_alloc_new w5 _)) (by simp [Value.oneCell']) (by omega) (by unfold maxLen; omega) (by omega) (by simp; omega) (w5.heap.size + 1) (by simp) ?_; intro gg cap2 w6 hown6 hgrow hat hlt6; have LY6 := (LY5.alloc (.cells #[.string nm, .int .i64 kd, .int .i64 pl, .int .i64 sz, .int .i64 fr] 76)).grown hgrow HVY.out; have y6 := LY6.cell (j := 2) rfl; have f6 := LY6.fro 2) | (go_simp; go_at_call 79; refine (SC.out _ (by first | exact R.out | exact R.out.drew) (by first | exact E.out | exact E.out.drew)).mono ?_; rintro e w5 ⟨rfl, hr5, hb5⟩; have b5 : But g wr w5 := (by first | exact hb5 | exact (But.of_below ((Below.refl wr.heap.size wr).drew)).trans hb5); have R5 : Hid (RdAt w5 g t (RS.at t (r.i3 t) (m + 1)) a4) := hr5; have U5 : Hid (But g w w5) := U.out.trans b5; have LY5 := LY.out.but b5 (Ne.symm hYg); have y5 := LY5.cell (j := 2) rfl; have ya := (LY5.alloc (.cells #[.string nm, .int .i64 kd, .int .i64 pl, .int .i64 sz, .int .i64 fr] 76)).cell (j := 2) rfl; have OW5 := row_but OW.out b5 HVG.out; have LR5 : Hid (Lies w5 X 30 #[.string ByteArray.empty, .string ByteArray.empty, .slice none 0 0]) := LR.out.but b5 (Ne.symm hXg); have s5 := b5.size; clear hr5 hb5 b5))
      all_goals
        have hvY' : (Value.slice (some ⟨gg, 0, none⟩) (m + 1) cap2).ownBlock ≠ some (X + 1) := ownBlock_ne5 hown6 LY6 (by decide)
        have LY7 : Hid (Lies (w6.setCell ⟨X + 1, 2, none⟩ (.slice (some ⟨gg, 0, none⟩) (m + 1) cap2)) (X + 1) 30 #[.string (r.ct t 2), .string ((r.i1 t).ct t 2), .slice (some ⟨gg, 0, none⟩) (m + 1) cap2]) := LY6.put 2 _
        have OW7 : Hid ((w6.setCell ⟨X + 1, 2, none⟩ (.slice (some ⟨gg, 0, none⟩) (m + 1) cap2)).ownsRow w.heap.size 76 5 (.slice (some ⟨gg, 0, none⟩) (m + 1) cap2) (m + 1) (cellsS S (m + 1))) := by rw [EC.out]; exact row_set hown6 hvY'
        have LR7 : Hid (Lies (w6.setCell ⟨X + 1, 2, none⟩ (.slice (some ⟨gg, 0, none⟩) (m + 1) cap2)) X 30 #[.string ByteArray.empty, .string ByteArray.empty, .slice none 0 0]) := ((LR5.out.alloc _).grown hgrow HVX.out).putOther (a := ⟨X + 1, 2, none⟩) (by show X ≠ X + 1; omega) _
        have R7 : Hid (RdAt (w6.setCell ⟨X + 1, 2, none⟩ (.slice (some ⟨gg, 0, none⟩) (m + 1) cap2)) g t (RS.at t (r.i3 t) (m + 1)) a4) := ((R5.out.below (grown1' w5 _)).grown hgrow HVG.out).putOther hYg _
        have U7 : Hid (But g w (w6.setCell ⟨X + 1, 2, none⟩ (.slice (some ⟨gg, 0, none⟩) (m + 1) cap2))) := ((U5.out.alloc _).grown hgrow (fun k hk => (OW.out.lt k hk).1)).putNew hXY _
        have E7 : Hid (ErrVar (w6.setCell ⟨X + 1, 2, none⟩ (.slice (some ⟨gg, 0, none⟩) (m + 1) cap2)) 4 a4) := U7.out.err HE.out hg
        clear hown6 hgrow hat LY6 LY5 OW5 y5 ya y6 f6 y2 SC
        go_wp2_with fail
        go_roundw
        case rel => exact ⟨m + 1, _, by omega, by go_num, LY7, OW7, LR7, R7, U7, E7⟩
        case measure => simp [intOf]; omega
    · obtain rfl : m = N := by omega
      obtain ⟨q, cap, rfl, hcap, own⟩ := ownS_of_row OW.out
      have hqX : q ≠ some ⟨X, 0, none⟩ := by
        intro e
        have := ownBlock_ne5 OW.out LR.out (by decide)
        rw [e] at this
        exact this rfl
      have c0 := LY.out.cell (j := 0) rfl
      have c1 := LY.out.cell (j := 1) rfl
      have c2 := LY.out.cell (j := 2) rfl
      have x0 := LR.out.cell (j := 0) rfl
      have x1 := LR.out.cell (j := 1) rfl
      have x2 := LR.out.cell (j := 2) rfl
      have q0 := LR.out.fro 0
      have q1 := LR.out.fro 1
      have q2 := LR.out.fro 2
      have OWN : Hid (OwnS wr w.heap.size q m S) := own
      clear own
      go_wp2_with fail
      have n1 := (((LR.out.put 0 (.string (r.ct t 2))).put 1 (.string ((r.i1 t).ct t 2))).put 2 (.slice q m cap))
      have rd := (RdAt.putOther (j := 2) (RdAt.putOther (j := 1) (RdAt.putOther (j := 0) R.out hXg (.string (r.ct t 2))) hXg (.string ((r.i1 t).ct t 2))) hXg (.slice q m cap))
      have ub := (But.putNew (j := 2) (But.putNew (j := 1) (But.putNew (j := 0) U.out hXX (.string (r.ct t 2))) hXX (.string ((r.i1 t).ct t 2))) hXX (.slice q m cap))
      have ow := (OwnS.putNew (j := 2) (OwnS.putNew (j := 1) (OwnS.putNew (j := 0) OWN.out hqX (.string (r.ct t 2))) hqX (.string ((r.i1 t).ct t 2))) hqX (.slice q m cap))
      have hi3 : (Tryz.prog.info? 30).map (·.size) = some (#[Value.string (r.ct t 2), .string ((r.i1 t).ct t 2), .slice q m cap] : Array Value).size := by kernel_rfl
      refine bodyPost_ret (results_lies rfl _ _ _ _ _ _ rfl n1 Tryz.underlying30 rfl hi3) rfl ?_
      unfold ImAns RS.iE
      rw [HNN.out, HS.out]
      exact ⟨q, cap, rfl, hcap, ow, rd, ub⟩
end Go.Proofs.YthihlbfmpkjhpaaGreatDoor

namespace Go.Proofs.YthihlbfmpkjhpaaGreatDoor
open Go Go.RowKit
set_option linter.unusedVariables false

theorem bytes_eq0 {R : ByteArray} (h : R.size = 0) : R = ByteArray.empty := by
  cases R with
  | mk x =>
    have : x.size = 0 := h
    rw [Array.eq_empty_of_size_eq_zero this]
    rfl
/-- What the end tells. -/
def EndIs (t : ByteArray) (r : RS) (a1 a4 : Addr) (v : Value) : Prop :=
  (r.bad = true ∧ ∃ nm, v = argErr nm a4) ∨ (r.bad = false ∧ r.p < t.size ∧ ∃ nm, v = argErr nm a1) ∨ (r.bad = false ∧ r.p = t.size ∧ v = .nilIface)
theorem endC (g : Nat) (t : ByteArray) (r : RS) (a1 a4 : Addr) (w : World) (ht : t.size ≤ 65536) (hp : r.p ≤ t.size) (h : RdAt w g t r a4) (hE : ErrVar w 0 a1) :
    Calls Tryz.prog 48 #[.pointer (some ⟨g, 0, none⟩)] w fun e w' => (∃ v, e = .returned v ∧ EndIs t r a1 a4 v) ∧ w' = w := by
  obtain ⟨e, hl, hc⟩ := h
  unfold ErrVar at hE
  have hrs : (t.extract r.p t.size).size = t.size - r.p := by rw [ByteArray.size_extract]; omega
  obtain ⟨p, bad⟩ := r
  simp only at hl hrs hp
  obtain ⟨R, hR⟩ : ∃ R, t.extract p t.size = R := ⟨_, rfl⟩
  rw [hR] at hl hrs
  have m0 := hl.cell (j := 0) rfl
  have m1 := hl.cell (j := 1) rfl
  rcases hc with ⟨hb, rfl⟩ | ⟨hb, nm, rfl⟩
  · by_cases h1 : p < t.size
    · have hne : ¬ R.toList = [] := by
        intro e
        have : R.toList.length = 0 := by rw [e]; rfl
        rw [ByteArray.toList_eq, len_toList] at this
        omega
      have hne' : (R.toList == []) = false := by simpa using hne
      clear hl hR hrs
      go_enter Tryz.func48, Tryz.ntmps48
      go_wp2_with fail
      go_ret
      exact ⟨⟨_, rfl, .inr (.inl ⟨rfl, h1, _, rfl⟩)⟩, rfl⟩
    · have hem : R = ByteArray.empty := by
        apply bytes_eq0
        omega
      subst hem
      clear hl hR hrs
      go_enter Tryz.func48, Tryz.ntmps48
      go_wp2_with fail
      go_ret
      exact ⟨⟨_, rfl, .inr (.inr ⟨rfl, by show p = t.size; omega, rfl⟩)⟩, rfl⟩
  · clear hl hR hrs
    go_enter Tryz.func48, Tryz.ntmps48
    go_wp2_with fail
    go_ret
    exact ⟨⟨_, rfl, .inl ⟨rfl, nm, rfl⟩⟩, rfl⟩

/-- What stands between a text's mark and its sum; the sum that stands there, the sum that is due. -/
def inT (t : ByteArray) : ByteArray := t.extract 4 (t.size - 4)
def gotS (t : ByteArray) : Nat := valF (fun i => bt t (t.size - 4 + i)) 4
def dueS (t : ByteArray) : Int := sumL (t.extract 0 (t.size - 4)).data.toList
theorem gotS_lt (t : ByteArray) : gotS t < 4294967296 := valF_lt _ 4
/-- Of a text, its mark (four bytes): the code of what opening finds. -/
def opnX (t m : ByteArray) : Int := if t.size < 8 then 8 else if ((t.extract 0 4).toList == m.toList) = false then 3 else if (gotS t : Int) ≠ dueS t then 9 else 0

/-- What unseal answers: nil and an error, or a reader. -/
def UnsAns (t m : ByteArray) (a1 a2 a3 a4 : Addr) (w : World) (e : Ending) (w' : World) : Prop :=
  Below w.heap.size w w' ∧ ((opnX t m = 8 ∧ ∃ nm, e = .returned (.tuple #[.pointer none, argErr nm a1])) ∨ (opnX t m = 3 ∧ ∃ nm, e = .returned (.tuple #[.pointer none, argErr nm a2])) ∨ (opnX t m = 9 ∧ ∃ nm, e = .returned (.tuple #[.pointer none, argErr nm a3])) ∨
    (opnX t m = 0 ∧ ∃ g, w.heap.size ≤ g ∧ e = .returned (.tuple #[.pointer (some ⟨g, 0, none⟩), .nilIface]) ∧ RdAt w' g (inT t) ⟨0, false⟩ a4))

set_option maxRecDepth 100000 in
set_option maxHeartbeats 4000000 in
theorem unsealC (t m : ByteArray) (a0 a1 a2 a3 a4 : Addr) (w : World) (ht : t.size ≤ 65536) (hm : m.size = 4) (hL : LaidAt w a0 a1) (hM : MoreAt w a0 a1 a2 a3 a4) :
    Calls Tryz.prog 45 #[.string t, .string m] w fun e w' => UnsAns t m a1 a2 a3 a4 w e w' := by
  have h1 := hL.s
  have h2 := hM.f
  have h3 := hM.u
  unfold ErrVar at h2 h3
  clear hL hM
  by_cases h8 : t.size < 8
  · have ho : opnX t m = 8 := by unfold opnX; rw [if_pos h8]
    clear h2 h3
    go_enter Tryz.func45, Tryz.ntmps45
    go_wp2_with fail
    go_region
    all_goals
      go_wp2_with fail
      go_ret2
      exact ⟨(Below.refl _ _).drew, .inl ⟨ho, _, rfl⟩⟩
  have hpre := Lib.hasPrefix_raw t m
  rw [hm, show decide (4 ≤ t.size) = true by simp; omega, Bool.true_and] at hpre
  have hp : ∀ w' : World, Calls Tryz.prog 74 #[.string t, .string m] w' fun e w'' => e = .returned (.bool ((t.extract 0 4).toList == m.toList)) ∧ w'' = w' := fun w' => by
    rw [hpre]; exact Tryz.strings_HasPrefix t m w'
  obtain ⟨e, he⟩ : ∃ e, t.size = e + 4 := ⟨t.size - 4, by omega⟩
  have hez : (t.size : Int) - 4 = (e : Int) := by omega
  have hwz : IntKind.i64.wrap ((t.size : Int) - 4) = (e : Int) := by rw [IntKind.wrap_i64]; omega
  have HEQ : Hid (t.size = e + 4) := he
  have he0 : (0 : Int) ≤ (e : Int) := by omega
  have he1 : (e : Int) ≤ (t.size : Int) := by omega
  have he4 : (4 : Int) ≤ (e : Int) := by omega
  have HP : Hid (∀ w' : World, _) := hp
  obtain ⟨b, hb⟩ : ∃ b, ((t.extract 0 4).toList == m.toList) = b := ⟨_, rfl⟩
  rw [hb] at hp
  have HPB : Hid (∀ w' : World, Calls Tryz.prog 74 #[.string t, .string m] w' fun e w'' => e = .returned (.bool b) ∧ w'' = w') := hp
  clear hp hpre HP
  cases b
  · have ho : opnX t m = 3 := by unfold opnX; rw [if_neg h8, if_pos hb]
    clear hb h1 h3 h8 he
    go_enter Tryz.func45, Tryz.ntmps45
    go_wp2_with fail
    refine (HPB.out _).mono ?_
    rintro e' w1 ⟨rfl, rfl⟩
    go_wp2_with fail
    go_region
    all_goals
      go_wp2_with fail
      go_ret2
      exact ⟨(Below.refl _ _).drew, .inr (.inl ⟨ho, _, rfl⟩)⟩
  have hgl := gotS_lt t
  have ga : ∀ w' : World, Calls Tryz.prog 75 #[.string (t.extract e t.size)] w' fun e w'' => e = .returned (.int .u32 (gotS t)) ∧ w'' = w' := fun w' => by
    have h := gather_u32 (t.extract e t.size) w' (by rw [ByteArray.size_extract]; omega)
    have hv : valF (bt (t.extract e t.size)) (t.extract e t.size).size = gotS t := by
      have := cut_val t e 4 (by omega)
      rw [← he] at this
      rw [this]
      unfold gotS
      rw [show t.size - 4 = e by omega]
    rw [hv] at h
    exact h
  have su : ∀ w' : World, Calls Tryz.prog 72 #[.string (t.extract 0 e)] w' fun e w'' => e = .returned (.int .i64 (dueS t)) ∧ w'' = w' := fun w' => by
    have h := implSum_any (t.extract 0 e) w' (by rw [ByteArray.size_extract]; omega)
    unfold dueS
    rw [show t.size - 4 = e by omega]
    exact h
  have ein : inT t = t.extract 4 e := by unfold inT; rw [show t.size - 4 = e by omega]
  obtain ⟨q, hq⟩ : ∃ q, gotS t = q := ⟨_, rfl⟩
  obtain ⟨d, hd⟩ : ∃ q, dueS t = q := ⟨_, rfl⟩
  obtain ⟨I, hI⟩ : ∃ q, t.extract 4 e = q := ⟨_, rfl⟩
  have hx : ∀ x, (if (q : Int) ≠ d then (9 : Int) else 0) = x → opnX t m = x := fun x h => by unfold opnX; rw [if_neg h8, hb, if_neg (by decide), hq, hd]; exact h
  rw [hq] at ga hgl
  rw [hd] at su
  rw [hI] at ein
  have hqw : IntKind.i64.wrap (q : Int) = (q : Int) := by rw [IntKind.wrap_i64]; omega
  have GA : Hid (∀ w' : World, _) := ga
  have SU : Hid (∀ w' : World, _) := su
  have HXX : Hid (∀ x, (if (q : Int) ≠ d then (9 : Int) else 0) = x → opnX t m = x) := hx
  have EIN : Hid (inT t = I) := ein
  have hi1 : (0 : Int) ≤ (t.size : Int) := by omega
  have hi2 : (4 : Int) ≤ (t.size : Int) := by omega
  clear ga su hx ein hb h1 h2 h8 hq hd he
  by_cases hqd : (q : Int) = d
  · have ho := HXX.out 0 (by rw [if_neg (by simpa using hqd)])
    subst hqd
    clear HXX h3
    go_enter Tryz.func45, Tryz.ntmps45
    go_wp2_with fail
    refine (HPB.out _).mono ?_
    rintro e' w1 ⟨rfl, rfl⟩
    go_wp2_with fail
    go_region_held3 (fun _ => True) (trivial) (first | (go_at_call 75; refine (GA.out _).mono ?_; rintro e1 w2 ⟨rfl, rfl⟩) | (go_at_call 72; refine (SU.out _).mono ?_; rintro e2 w3 ⟨rfl, rfl⟩))
    all_goals
      go_wp2_with fail
      go_ret2
      refine ⟨((Below.refl _ _).drew).alloc (Nat.le_refl _) _, .inr (.inr (.inr ⟨ho, _, Nat.le_refl _, rfl, ?_⟩))⟩
      have hsz : I.extract 0 I.size = I := by simp
      refine ⟨.nilIface, ?_, .inl ⟨rfl, rfl⟩⟩
      rw [EIN.out]
      show Lies _ _ _ #[.string (I.extract 0 I.size), .nilIface]
      rw [hsz]
      exact Lies.new _ _ _
  · have ho := HXX.out 9 (by rw [if_pos hqd])
    have hqb : ((q : Int) == d) = false := by simpa using hqd
    clear HXX
    go_enter Tryz.func45, Tryz.ntmps45
    go_wp2_with fail
    refine (HPB.out _).mono ?_
    rintro e' w1 ⟨rfl, rfl⟩
    go_wp2_with fail
    go_region_held3 (fun _ => True) (trivial) (first | (go_at_call 75; refine (GA.out _).mono ?_; rintro e1 w2 ⟨rfl, rfl⟩) | (go_at_call 72; refine (SU.out _).mono ?_; rintro e2 w3 ⟨rfl, rfl⟩))
    all_goals
      go_wp2_with fail
      go_region
      all_goals
        go_wp2_with fail
        go_ret2
        exact ⟨((Below.refl _ _).drew).drew, .inr (.inr (.inl ⟨ho, _, rfl⟩))⟩
end Go.Proofs.YthihlbfmpkjhpaaGreatDoor

namespace Go.Proofs.YthihlbfmpkjhpaaGreatDoor
open Go Go.RowKit
set_option linter.unusedVariables false

section
variable {P : Program}
theorem results_rd2 {fn : Func} {p q : Tmp} {ty : TypeId} (h : fn.results = #[.cell p ty, .tmp q]) (tmps : Array Value) (w : World) (g : Nat) (t : TypeId) (cs : Array Value) (d : TypeDesc)
    (hp : tmps.getD p undef = .pointer (some ⟨g, 0, none⟩)) (hb : Lies w g t cs) (hu : P.underlying ty = some d) (hd : d.isRow = true) (hi : (P.info? ty).map (·.size) = some cs.size) :
    (results fn tmps).run P w = .ok (.tuple #[.agg cs, tmps.getD q undef]) w := by
  have hl := run_loadVar_row (P := P) w g t ty cs (0, 0) d hb hu (by cases d <;> simp_all) hi
  have hp' : tmps[p]?.getD undef = .pointer (some ⟨g, 0, none⟩) := by simpa using hp
  simp [results, h, hp', asAddr, hl]
end

abbrev pim : ByteArray := { data := #[80, 73, 77, 49] }
def z0 : RS := ⟨0, false⟩
/-- What ReadImage takes: code, data, how many symbols, the symbols; where the reader stands at last. -/
def rdC (t : ByteArray) : ByteArray := z0.ct (inT t) 2
def rdD (t : ByteArray) : ByteArray := (z0.i1 (inT t)).ct (inT t) 2
def rdN (t : ByteArray) : Nat := z0.iN (inT t)
def rdS (t : ByteArray) : Nat → SymD := z0.iS (inT t)
def rdE (t : ByteArray) : RS := z0.iE (inT t)
/-- Its code; b: whether the image that it took is right. -/
def rdX (t : ByteArray) (b : Bool) : Int :=
  if 65536 < t.size then 2 else if opnX t pim ≠ 0 then opnX t pim else if (rdE t).bad = true then 22 else if (rdE t).p < (inT t).size then 8 else if b = false then 1 else 0
def RdAns (B : Nat) (t : ByteArray) (b : Bool) (w : World) (e : Ending) (w' : World) : Prop :=
  Below B w w' ∧ ((rdX t b ≠ 0 ∧ e = .returned (.tuple #[.agg #[.string ByteArray.empty, .string ByteArray.empty, .slice none 0 0], .int .i64 (rdX t b)])) ∨
    (rdX t b = 0 ∧ ∃ q cap, e = .returned (.tuple #[.agg #[.string (rdC t), .string (rdD t), .slice q (rdN t) cap], .int .i64 0]) ∧ rdN t ≤ cap ∧ OwnS w' B q (rdN t) (rdS t)))
theorem inT_size (t : ByteArray) : (inT t).size ≤ t.size := by unfold inT; rw [ByteArray.size_extract]; omega
theorem rdC_size (t : ByteArray) : (rdC t).size ≤ t.size := Nat.le_trans (RS.tk_le _ _ _) (inT_size t)
theorem rdD_size (t : ByteArray) : (rdD t).size ≤ t.size := Nat.le_trans (RS.tk_le _ _ _) (inT_size t)
theorem rdN_le (t : ByteArray) : rdN t ≤ 255 := by have := (z0.i2 (inT t)).nb1_lt (inT t); unfold rdN RS.iN; omega
theorem rdS_wf (t : ByteArray) (i : Nat) : (rdS t i).wf := RS.sy_wf
theorem rdE_le (t : ByteArray) : (rdE t).p ≤ (inT t).size := RS.at_le (RS.le _ (RS.cx_le _ (RS.cx_le _ (Nat.zero_le _)))) _

set_option maxRecDepth 100000 in
set_option maxHeartbeats 4000000 in
theorem progReadLong (t : ByteArray) (b : Bool) (w : World) (ht : t.size ≤ maxLen) (h : 65536 < t.size) :
    Calls Tryz.prog 20 #[.string t] w fun e w' => RdAns w.heap.size t b w e w' := by
  have hx : rdX t b = 2 := by unfold rdX; rw [if_pos h]
  unfold maxLen at ht
  have lie := Lies.new w #[.string ByteArray.empty, .string ByteArray.empty, .slice none 0 0] 30
  have LIE : Hid (Lies (w.alloc (.cells #[.string ByteArray.empty, .string ByteArray.empty, .slice none 0 0] 30)) w.heap.size 30 #[.string ByteArray.empty, .string ByteArray.empty, .slice none 0 0]) := lie
  have bA := grown1' w (.cells #[.string ByteArray.empty, .string ByteArray.empty, .slice none 0 0] 30)
  have HX : Hid (rdX t b = 2) := hx
  have BA : Hid (Below w.heap.size w (w.alloc (.cells #[.string ByteArray.empty, .string ByteArray.empty, .slice none 0 0] 30))) := bA
  clear lie hx bA
  go_enter Tryz.func20, Tryz.ntmps20
  go_wp2_with fail
  have hi3 : (Tryz.prog.info? 30).map (·.size) = some (#[Value.string ByteArray.empty, .string ByteArray.empty, .slice none 0 0] : Array Value).size := by kernel_rfl
  refine bodyPost_ret (results_rd2 rfl _ _ _ _ _ _ rfl LIE.out Tryz.underlying30 rfl hi3) rfl ?_
  unfold RdAns
  rw [HX.out]
  exact ⟨BA.out, .inl ⟨by decide, rfl⟩⟩
end Go.Proofs.YthihlbfmpkjhpaaGreatDoor
