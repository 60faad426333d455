/- ReadImage of the model, of texts that are not too long. Marks: a number's text, the marks of a list of symbols, and whether they still stand. ReadImage of both: what they answer at a text; the marks; what stands through the law's calls. -/
import Derived.Test.YthihlbfmpkjhpaaGreatDoorGXReadImage2
import Derived.Deep.RegionHeld3
import Derived.Test.YthihlbfmpkjhpaaGreatDoorGXReadImage1
import Derived.Laws.IdiomStrings
import Derived.Test.YthihlbfmpkjhpaaGreatDoorGXImageText1
namespace Go.Proofs.YthihlbfmpkjhpaaGreatDoor
open Go Go.RowKit
set_option linter.unusedVariables false

theorem MdAt.putOther {w : World} {g : Nat} {t : ByteArray} {r : RS} {Y j : Nat} (h : MdAt w g t r) (hY : g ≠ Y) (v : Value) : MdAt (w.setCell ⟨Y, j, none⟩ v) g t r := Lies.putOther h (a := ⟨Y, j, none⟩) hY v
theorem MdAt.grown {a b : World} {row : Option Nat} {g : Nat} {t : ByteArray} {r : RS} (h : MdAt a g t r) (hg : a.grownBy b row) (hr : row ≠ some g) : MdAt b g t r := Lies.grown h hg hr

theorem row_below5 {W W' : World} {B e size n : Nat} {v : Value} {xs : List Value} (h : W.ownsRow B e size v n xs) (hb : Below W.heap.size W W') : W'.ownsRow B e size v n xs := by
  refine ⟨h.1, ?_⟩
  rcases h.2 with hv | ⟨g, cap, cur, h1, h2, h3, h4⟩
  · exact .inl hv
  · exact .inr ⟨g, cap, cur, h1, h2, (hb.block g (Array.getElem?_eq_some_iff.1 h3).1).trans h3, h4⟩
/-- The rounds' symbols, and what stands behind them. -/
structure RdRow (w1 wr : World) (g Y B : Nat) (I C D : ByteArray) (r3 : RS) (S : Nat → SymD) (m : Nat) (v : Value) : Prop where
  y : Lies wr Y 30 #[.string C, .string D, v]
  own : wr.ownsRow B 76 5 v m (cellsS S m)
  md : MdAt wr g I (RS.at I r3 m)
  u : But g w1 wr

set_option maxRecDepth 100000 in
set_option maxHeartbeats 16000000 in
theorem specRead (t : ByteArray) (b : Bool) (w : World) (ht : t.size ≤ 65536) (hb : OKIs (rdC t) (rdD t) (rdN t) (rdS t) b) :
    Calls Tryz.prog 19 #[.string t] w fun e w' => RdAns w.heap.size t b w e w' := by
  obtain ⟨i0, hi0, hz0, hz1, hz2⟩ := info_parts Tryz.info_symb
  have hti := inT_size t
  have hEp := rdE_le t
  have hX1 : ∀ x, opnX t pim = x → x ≠ 0 → rdX t b = x := fun x h1 h2 => by unfold rdX; rw [if_neg (by omega), h1, if_pos h2]
  have hX2 : opnX t pim = 0 → rdX t b = if (rdE t).bad = true then 22 else if (rdE t).p < (inT t).size then 8 else if b = false then 1 else 0 := fun h1 => by unfold rdX; rw [if_neg (by omega), h1, if_neg (by simp)]
  have bA := grown1' w (.cells #[.string ByteArray.empty, .string ByteArray.empty, .slice none 0 0] 30)
  have lie := Lies.new w #[.string ByteArray.empty, .string ByteArray.empty, .slice none 0 0] 30
  obtain ⟨w0, hv0⟩ : ∃ v, w.alloc (.cells #[.string ByteArray.empty, .string ByteArray.empty, .slice none 0 0] 30) = v := ⟨_, rfl⟩
  obtain ⟨X, hX⟩ : ∃ X, w.heap.size = X := ⟨_, rfl⟩
  rw [hv0] at bA
  rw [hv0, hX] at lie
  have hXlt : X < w0.heap.size := lie.lt
  have HV0 : Hid (_ = w0) := hv0
  have HXX : Hid (w.heap.size = X) := hX
  have hXX : w.heap.size ≤ X := by omega
  have LX0 : Hid (Lies w0 X 30 #[.string ByteArray.empty, .string ByteArray.empty, .slice none 0 0]) := lie
  have B0 : Hid (Below w.heap.size w w0) := bA
  have op := openM t pim w0 ht rfl
  have hemp : ({ data := #[] } : ByteArray) = ByteArray.empty := rfl
  have HX1 : Hid (∀ x, opnX t pim = x → x ≠ 0 → rdX t b = x) := hX1
  have HX2 : Hid (opnX t pim = 0 → rdX t b = if (rdE t).bad = true then 22 else if (rdE t).p < (inT t).size then 8 else if b = false then 1 else 0) := hX2
  have HEP : Hid ((rdE t).p ≤ (inT t).size) := hEp
  have HTI : Hid ((inT t).size ≤ t.size) := hti
  have HBB : Hid (OKIs (rdC t) (rdD t) (rdN t) (rdS t) b) := hb
  clear hX1 hX2 bA lie hv0 hX hEp hti hb
  unfold OpnM at op
  obtain ⟨oc, hoc⟩ : ∃ oc, opnX t pim = oc := ⟨_, rfl⟩
  rw [hoc] at op
  have HOC : Hid (opnX t pim = oc) := hoc
  clear hoc
  go_enter Tryz.func19, Tryz.ntmps19
  go_wp2_with fail
  try rw [hemp]
  rw [HV0.out]
  try rw [HXX.out]
  refine op.mono ?_
  rintro e w1 ⟨g, hg, rfl, hb1, hmd⟩
  have lx1 := LX0.out.below hb1 hXlt
  have B1 : Hid (Below w.heap.size w w1) := B0.out.trans (hb1.mono B0.out.size)
  have LX1 : Hid (Lies w1 X 30 #[.string ByteArray.empty, .string ByteArray.empty, .slice none 0 0]) := lx1
  have hX1lt : X < w1.heap.size := lx1.lt
  have hs01 : w0.heap.size ≤ w1.heap.size := hb1.size
  have HMD : Hid (oc = 0 → MdAt w1 g (inT t) ⟨0, false⟩) := hmd
  clear op hb1 hmd lx1
  by_cases h0 : oc = 0
  · subst h0
    have hXC := HX2.out HOC.out
    have HXC : Hid (rdX t b = if (rdE t).bad = true then 22 else if (rdE t).p < (inT t).size then 8 else if b = false then 1 else 0) := hXC
    have md1 : Hid (MdAt w1 g (inT t) z0) := HMD.out rfl
    clear HX1 HX2 hXC HMD
    have hgX : g ≠ X := by omega
    have hgw : w.heap.size ≤ g := by have := B0.out.size; omega
    have hglt : g < w1.heap.size := Lies.lt md1.out
    have hN := rdN_le t
    have hC : rdC t = z0.ct (inT t) 2 := rfl
    have hD : rdD t = (z0.i1 (inT t)).ct (inT t) 2 := rfl
    have hNN : rdN t = z0.iN (inT t) := rfl
    have hS : rdS t = z0.iS (inT t) := rfl
    have hrE : rdE t = z0.iE (inT t) := rfl
    have HPB : Hid (OKIs (rdC t) (rdD t) (rdN t) (rdS t) b) := HBB.out
    obtain ⟨I, hI⟩ : ∃ C, inT t = C := ⟨_, rfl⟩
    rw [hI] at hC hD hNN hS hrE
    have hIs : I.size ≤ 65536 := by rw [← hI]; exact Nat.le_trans HTI.out ht
    have MD1 : Hid (MdAt w1 g I z0) := by rw [← hI]; exact md1.out
    have p0 : z0.p ≤ I.size := Nat.zero_le _
    have p0' : (z0.nx I 2).p ≤ I.size := RS.le _ p0
    have p1 : (z0.i1 I).p ≤ I.size := RS.cx_le _ p0
    have p1' : ((z0.i1 I).nx I 2).p ≤ I.size := RS.le _ p1
    have p2 : (z0.i2 I).p ≤ I.size := RS.cx_le _ p1
    have p3 : (z0.i3 I).p ≤ I.size := RS.le _ p2
    have n1 := z0.nb_lt I 2 (by omega)
    have n2 := (z0.i1 I).nb_lt I 2 (by omega)
    have tk1 : ∀ w', MdAt w' g I (z0.nx I 2) → Calls Tryz.prog 42 #[.pointer (some ⟨g, 0, none⟩), .int .i64 (z0.nb I 2)] w' fun e w'' => TkM (.string (rdC t)) g I (z0.i1 I) w' e w'' := fun w' h => by
      rw [hC]; exact takeM g I (z0.nx I 2) (z0.nb I 2) w' hIs (by omega) p0' h
    have tk2 : ∀ w', MdAt w' g I ((z0.i1 I).nx I 2) → Calls Tryz.prog 42 #[.pointer (some ⟨g, 0, none⟩), .int .i64 ((z0.i1 I).nb I 2)] w' fun e w'' => TkM (.string (rdD t)) g I (z0.i2 I) w' e w'' := fun w' h => by
      rw [hD]; exact takeM g I ((z0.i1 I).nx I 2) ((z0.i1 I).nb I 2) w' hIs (by omega) p1' h
    have nu3 : ∀ w', MdAt w' g I (z0.i2 I) → Calls Tryz.prog 43 #[.pointer (some ⟨g, 0, none⟩), .int .i64 1] w' fun e w'' => TkM (.int .i64 (rdN t)) g I (z0.i3 I) w' e w'' := fun w' h => by
      rw [hNN]; exact numM g I (z0.i2 I) 1 w' hIs (by omega) p2 h
    have nu1 := fun w' h => numM g I z0 2 w' hIs (by omega) p0 h
    have nu2 := fun w' h => numM g I (z0.i1 I) 2 w' hIs (by omega) p1 h
    have hrE2 : rdE t = RS.at I (z0.i3 I) (rdN t) := by rw [hNN]; exact hrE
    obtain ⟨C, eC⟩ : ∃ C, rdC t = C := ⟨_, rfl⟩
    obtain ⟨D, eD⟩ : ∃ C, rdD t = C := ⟨_, rfl⟩
    obtain ⟨N, eN⟩ : ∃ C, rdN t = C := ⟨_, rfl⟩
    obtain ⟨S, eS⟩ : ∃ C, rdS t = C := ⟨_, rfl⟩
    obtain ⟨r1, er1⟩ : ∃ C, z0.i1 I = C := ⟨_, rfl⟩
    obtain ⟨r2, er2⟩ : ∃ C, z0.i2 I = C := ⟨_, rfl⟩
    obtain ⟨r3, er3⟩ : ∃ C, z0.i3 I = C := ⟨_, rfl⟩
    obtain ⟨q0, eq0⟩ : ∃ C, z0.nx I 2 = C := ⟨_, rfl⟩
    obtain ⟨q1, eq1⟩ : ∃ C, r1.nx I 2 = C := ⟨_, rfl⟩
    obtain ⟨k0, ek0⟩ : ∃ C, z0.nb I 2 = C := ⟨_, rfl⟩
    obtain ⟨k1, ek1⟩ : ∃ C, r1.nb I 2 = C := ⟨_, rfl⟩
    rw [eC, er1, eq0, ek0] at tk1
    rw [eD, er1, er2, eq1, ek1] at tk2
    rw [eN, er2, er3] at nu3
    rw [eq0, ek0] at nu1
    rw [er1, eq1, ek1] at nu2
    have HSM : Hid (∀ m, S m = (RS.at I r3 m).sy I) := fun m => by rw [← eS, hS, ← er3]; rfl
    have HP3 : Hid (∀ m, (RS.at I r3 m).p ≤ I.size) := fun m => by rw [← er3]; exact RS.at_le p3 m
    rw [eN] at hN
    have HRE : Hid (rdE t = RS.at I r3 N) := by show rdE t = RS.at I r3 N; rw [hrE2, er3, eN]
    have HPB2 : Hid (OKIs C D N S b) := by rw [← eC, ← eD, ← eN, ← eS]; exact HPB.out
    have HXC2 : Hid (rdX t b = if (RS.at I r3 N).bad = true then 22 else if (RS.at I r3 N).p < I.size then 8 else if b = false then 1 else 0) := by rw [← HRE.out, ← hI]; exact HXC.out
    have EP2 : Hid ((RS.at I r3 N).p ≤ I.size) := by rw [← HRE.out, ← hI]; exact HEP.out
    have HC : Hid (rdC t = C) := eC
    have HD : Hid (rdD t = D) := eD
    have HN : Hid (rdN t = N) := eN
    have HS : Hid (rdS t = S) := eS
    have T1 : Hid (∀ w' : World, MdAt w' g I q0 → _) := tk1
    have T2 : Hid (∀ w' : World, MdAt w' g I q1 → _) := tk2
    have V1 : Hid (∀ w' : World, MdAt w' g I z0 → _) := nu1
    have V2 : Hid (∀ w' : World, MdAt w' g I r1 → _) := nu2
    have V3 : Hid (∀ w' : World, MdAt w' g I r2 → _) := nu3
    clear hC hD hNN hS hrE hrE2 eC eD eN eS er1 er2 er3 eq0 eq1 ek0 ek1 tk1 tk2 nu1 nu2 nu3 n1 n2 p0 p0' p1 p1' p2 p3 md1 HXC HEP HTI HBB HPB hI HRE HOC
    have bY := grown1' w1 (.cells #[.string ByteArray.empty, .string ByteArray.empty, .slice none 0 0] 30)
    have lieY := Lies.new w1 #[.string ByteArray.empty, .string ByteArray.empty, .slice none 0 0] 30
    obtain ⟨v0, hv1⟩ : ∃ v, w1.alloc (.cells #[.string ByteArray.empty, .string ByteArray.empty, .slice none 0 0] 30) = v := ⟨_, rfl⟩
    obtain ⟨Y, hY⟩ : ∃ Y, w1.heap.size = Y := ⟨_, rfl⟩
    rw [hv1] at bY lieY
    rw [hY] at lieY
    have hgY : g ≠ Y := by omega
    have hXY : X ≠ Y := by omega
    have hwY : w1.heap.size ≤ Y := by omega
    have HV1 : Hid (_ = v0) := hv1
    have HYY : Hid (w1.heap.size = Y) := hY
    have M0 : Hid (MdAt v0 g I z0) := MD1.out.below bY
    have U0 : Hid (But g w1 v0) := But.of_below bY
    have LY0 : Hid (Lies v0 Y 30 #[.string ByteArray.empty, .string ByteArray.empty, .slice none 0 0]) := lieY
    clear bY lieY hv1 hY MD1
    go_wp2_with fail
    try rw [hemp]
    rw [HV1.out]
    try rw [HYY.out]
    refine (V1.out _ M0.out).mono ?_
    rintro e u0 ⟨rfl, hm, hb⟩
    have M : Hid (MdAt u0 g I q0) := hm
    have U : Hid (But g w1 u0) := U0.out.trans hb
    have LY : Hid (Lies u0 Y 30 #[.string ByteArray.empty, .string ByteArray.empty, .slice none 0 0]) := LY0.out.but hb (Ne.symm hgY)
    clear hm hb
    go_wp2_with fail
    refine (T1.out _ M.out).mono ?_
    rintro e x0 ⟨rfl, hm, hb⟩
    have M' : Hid (MdAt x0 g I r1) := hm
    have U' : Hid (But g w1 x0) := U.out.trans hb
    have ly := LY.out.but hb (Ne.symm hgY)
    have f := ly.fro 0
    have hcell : x0.cell? ⟨Y, 0, none⟩ = some (.string ByteArray.empty) := ly.cell (j := 0) rfl
    obtain ⟨v1, hv⟩ : ∃ v, x0.setCell ⟨Y, 0, none⟩ (.string C) = v := ⟨_, rfl⟩
    have M1 : Hid (MdAt v1 g I r1) := by rw [← hv]; exact M'.out.putOther hgY _
    have U1 : Hid (But g w1 v1) := by rw [← hv]; exact U'.out.putNew hwY _
    have LY1 : Hid (Lies v1 Y 30 #[.string C, .string ByteArray.empty, .slice none 0 0]) := by rw [← hv]; exact ly.put 0 _
    clear hm hb ly M U LY M' U'
    go_wp2_with fail
    try rw [hv]
    clear hv f hcell
    refine (V2.out _ M1.out).mono ?_
    rintro e u1 ⟨rfl, hm, hb⟩
    have M : Hid (MdAt u1 g I q1) := hm
    have U : Hid (But g w1 u1) := U1.out.trans hb
    have LY : Hid (Lies u1 Y 30 #[.string C, .string ByteArray.empty, .slice none 0 0]) := LY1.out.but hb (Ne.symm hgY)
    clear hm hb
    go_wp2_with fail
    refine (T2.out _ M.out).mono ?_
    rintro e x1 ⟨rfl, hm, hb⟩
    have M' : Hid (MdAt x1 g I r2) := hm
    have U' : Hid (But g w1 x1) := U.out.trans hb
    have ly := LY.out.but hb (Ne.symm hgY)
    have f := ly.fro 1
    have hcell : x1.cell? ⟨Y, 1, none⟩ = some (.string ByteArray.empty) := ly.cell (j := 1) rfl
    obtain ⟨v2, hv⟩ : ∃ v, x1.setCell ⟨Y, 1, none⟩ (.string D) = v := ⟨_, rfl⟩
    have M2 : Hid (MdAt v2 g I r2) := by rw [← hv]; exact M'.out.putOther hgY _
    have U2 : Hid (But g w1 v2) := by rw [← hv]; exact U'.out.putNew hwY _
    have LY2 : Hid (Lies v2 Y 30 #[.string C, .string D, .slice none 0 0]) := by rw [← hv]; exact ly.put 1 _
    clear hm hb ly M U LY M' U'
    go_wp2_with fail
    try rw [hv]
    clear hv f hcell
    refine (V3.out _ M2.out).mono ?_
    rintro e w3 ⟨rfl, hm, hb⟩
    have R3 : Hid (RdRow w1 w3 g Y w1.heap.size I C D r3 S 0 (.slice none 0 0)) := ⟨LY2.out.but hb (Ne.symm hgY), World.ownsRow_nil _ _ _ _, hm, U2.out.trans hb⟩
    clear hm hb M0 M1 M2 U0 U1 U2 LY0 LY1 LY2 V1 V2 V3 T1 T2
    go_wp2_with fail
    go_loopw [8] (fun i wr => ∃ (m : Nat) (v : Value), m ≤ N ∧ i = .int .i64 m ∧ Hid (RdRow w1 wr g Y w1.heap.size I C D r3 S m v)) (fun i _ => N - (intOf i).toNat)
    case atStart => exact ⟨0, _, Nat.zero_le _, rfl, R3⟩
    case round =>
      obtain ⟨m, v, hm, rfl, RR⟩ := hrel
      by_cases hlt : m < N
      · have py := HP3.out m
        have eC := cellsS_succ S m
        rw [HSM.out m] at eC
        have na := fun w' (h : MdAt w' g I (RS.at I r3 m)) => nameM g I (RS.at I r3 m) w' hIs py h
        have py1 : ((RS.at I r3 m).r1 I).p ≤ I.size := RS.cx_le _ py
        have py2 : ((RS.at I r3 m).r2 I).p ≤ I.size := RS.le _ py1
        have py3 : ((RS.at I r3 m).r3 I).p ≤ I.size := RS.le _ py2
        have py4 : ((RS.at I r3 m).r4 I).p ≤ I.size := RS.le _ py3
        have a1 := fun w' (h : MdAt w' g I ((RS.at I r3 m).r1 I)) => numM g I ((RS.at I r3 m).r1 I) 1 w' hIs (by omega) py1 h
        have a2 := fun w' (h : MdAt w' g I ((RS.at I r3 m).r2 I)) => numM g I ((RS.at I r3 m).r2 I) 2 w' hIs (by omega) py2 h
        have a3 := fun w' (h : MdAt w' g I ((RS.at I r3 m).r3 I)) => numM g I ((RS.at I r3 m).r3 I) 2 w' hIs (by omega) py3 h
        have a4 := fun w' (h : MdAt w' g I ((RS.at I r3 m).r4 I)) => numM g I ((RS.at I r3 m).r4 I) 1 w' hIs (by omega) py4 h
        rw [show ((RS.at I r3 m).sy I).nm = (RS.at I r3 m).ct I 1 from rfl, show ((RS.at I r3 m).sy I).kd = ((RS.at I r3 m).r1 I).nb I 1 from rfl, show ((RS.at I r3 m).sy I).pl = ((RS.at I r3 m).r2 I).nb I 2 from rfl, show ((RS.at I r3 m).sy I).sz = ((RS.at I r3 m).r3 I).nb I 2 from rfl, show ((RS.at I r3 m).sy I).fr = ((RS.at I r3 m).r4 I).nb I 1 from rfl] at eC
        rw [show (RS.at I r3 m).cx I 1 = (RS.at I r3 m).r1 I from rfl] at na
        rw [show ((RS.at I r3 m).r1 I).nx I 1 = (RS.at I r3 m).r2 I from rfl] at a1
        rw [show ((RS.at I r3 m).r2 I).nx I 2 = (RS.at I r3 m).r3 I from rfl] at a2
        rw [show ((RS.at I r3 m).r3 I).nx I 2 = (RS.at I r3 m).r4 I from rfl] at a3
        rw [show ((RS.at I r3 m).r4 I).nx I 1 = RS.at I r3 (m + 1) from rfl] at a4
        obtain ⟨nm, e0⟩ : ∃ y, (RS.at I r3 m).ct I 1 = y := ⟨_, rfl⟩
        obtain ⟨kd, e1⟩ : ∃ y, ((RS.at I r3 m).r1 I).nb I 1 = y := ⟨_, rfl⟩
        obtain ⟨pl, e2⟩ : ∃ y, ((RS.at I r3 m).r2 I).nb I 2 = y := ⟨_, rfl⟩
        obtain ⟨sz, e3⟩ : ∃ y, ((RS.at I r3 m).r3 I).nb I 2 = y := ⟨_, rfl⟩
        obtain ⟨fr, e4⟩ : ∃ y, ((RS.at I r3 m).r4 I).nb I 1 = y := ⟨_, rfl⟩
        rw [e0] at na eC
        rw [e1] at a1 eC
        rw [e2] at a2 eC
        rw [e3] at a3 eC
        rw [e4] at a4 eC
        obtain ⟨s0, f0⟩ : ∃ y, RS.at I r3 m = y := ⟨_, rfl⟩
        obtain ⟨s1, f1⟩ : ∃ y, (RS.at I r3 m).r1 I = y := ⟨_, rfl⟩
        obtain ⟨s2, f2⟩ : ∃ y, (RS.at I r3 m).r2 I = y := ⟨_, rfl⟩
        obtain ⟨s3, f3⟩ : ∃ y, (RS.at I r3 m).r3 I = y := ⟨_, rfl⟩
        obtain ⟨s4, f4⟩ : ∃ y, (RS.at I r3 m).r4 I = y := ⟨_, rfl⟩
        obtain ⟨s5, f5⟩ : ∃ y, RS.at I r3 (m + 1) = y := ⟨_, rfl⟩
        rw [f1] at na a1
        rw [f2] at a1 a2
        rw [f3] at a2 a3
        rw [f4] at a3 a4
        rw [f5] at a4
        rw [f0] at na
        have F5 : Hid (RS.at I r3 (m + 1) = s5) := f5
        have EC : Hid (cellsS S (m + 1) = cellsS S m ++ [.string nm, .int .i64 kd, .int .i64 pl, .int .i64 sz, .int .i64 fr]) := eC
        have A0 : Hid (∀ w' : World, MdAt w' g I s0 → _) := na
        have A1 : Hid (∀ w' : World, MdAt w' g I s1 → _) := a1
        have A2 : Hid (∀ w' : World, MdAt w' g I s2 → _) := a2
        have A3 : Hid (∀ w' : World, MdAt w' g I s3 → _) := a3
        have A4 : Hid (∀ w' : World, MdAt w' g I s4 → _) := a4
        have MD0 : Hid (MdAt wr g I s0) := by rw [← f0]; exact RR.out.md
        have LYr : Hid (Lies wr Y 30 #[.string C, .string D, v]) := RR.out.y
        have OWr : Hid (wr.ownsRow w1.heap.size 76 5 v m (cellsS S m)) := RR.out.own
        have Ur : Hid (But g w1 wr) := RR.out.u
        have HVY : Hid (v.ownBlock ≠ some Y) := ownBlock_ne5 RR.out.own RR.out.y (by decide)
        have HVG : Hid (v.ownBlock ≠ some g) := ownBlock_ne5 RR.out.own RR.out.md (by decide)
        clear py py1 py2 py3 py4 eC na a1 a2 a3 a4 e0 e1 e2 e3 e4 f0 f1 f2 f3 f4 f5 RR
        go_wp2_with fail
        refine (A0.out _ MD0.out).mono ?_
        rintro e w2 ⟨rfl, hmd, hb⟩
        have bZ := grown1' w2 (.cells #[.string nm, .int .i64 0, .int .i64 0, .int .i64 0, .int .i64 0] 76)
        have lieZ := Lies.new w2 #[.string nm, .int .i64 0, .int .i64 0, .int .i64 0, .int .i64 0] 76
        have LY2 := LYr.out.but hb (Ne.symm hgY)
        have hYZ : Y < w2.heap.size := LY2.lt
        have hgZ : g < w2.heap.size := Lies.lt hmd
        have OW2 := row_but OWr.out hb HVG.out
        have hw1Z : w1.heap.size ≤ w2.heap.size := Nat.le_trans Ur.out.size hb.size
        obtain ⟨v0, hv0⟩ : ∃ v, w2.alloc (.cells #[.string nm, .int .i64 0, .int .i64 0, .int .i64 0, .int .i64 0] 76) = v := ⟨_, rfl⟩
        obtain ⟨Zm, hZm⟩ : ∃ y, w2.heap.size = y := ⟨_, rfl⟩
        rw [hv0] at bZ lieZ
        rw [hZm] at lieZ hYZ hgZ hw1Z
        have hYZ' : Y ≠ Zm := by omega
        have hgZ' : g ≠ Zm := by omega
        have HV2 : Hid (_ = v0) := hv0
        have HZ2 : Hid (w2.heap.size = Zm) := hZm
        have N0 : Hid (MdAt v0 g I s1) := hmd.below bZ
        have P0 : Hid (But g w1 v0) := (Ur.out.trans hb).trans (But.of_below bZ)
        have LYz0 : Hid (Lies v0 Y 30 #[.string C, .string D, v]) := LY2.below bZ LY2.lt
        have OWz0 : Hid (v0.ownsRow w1.heap.size 76 5 v m (cellsS S m)) := row_below5 OW2 bZ
        have LZ0 : Hid (Lies v0 Zm 76 #[.string nm, .int .i64 0, .int .i64 0, .int .i64 0, .int .i64 0]) := lieZ
        have HVZ : Hid (v.ownBlock ≠ some Zm) := by
          intro e
          have h1 := (OW2.lt Zm e).2
          omega
        clear hmd hb bZ lieZ LY2 OW2 hv0 hZm
        go_wp2_with fail
        try rw [hemp]
        rw [HV2.out]
        try rw [HZ2.out]
        refine (A1.out _ N0.out).mono ?_
        rintro e x0 ⟨rfl, hmd, hb⟩
        have lz := LZ0.out.but hb (Ne.symm hgZ')
        have ff := lz.fro 1
        have hcell : x0.cell? ⟨Zm, 1, none⟩ = some (.int .i64 0) := lz.cell (j := 1) rfl
        obtain ⟨v1, hv⟩ : ∃ v, x0.setCell ⟨Zm, 1, none⟩ (.int .i64 kd) = v := ⟨_, rfl⟩
        have N1 : Hid (MdAt v1 g I s2) := by rw [← hv]; exact hmd.putOther hgZ' _
        have P1 : Hid (But g w1 v1) := by rw [← hv]; exact (P0.out.trans hb).putNew hw1Z _
        have LYz1 : Hid (Lies v1 Y 30 #[.string C, .string D, v]) := by rw [← hv]; exact (LYz0.out.but hb (Ne.symm hgY)).putOther (a := ⟨Zm, 1, none⟩) hYZ' _
        have OWz1 : Hid (v1.ownsRow w1.heap.size 76 5 v m (cellsS S m)) := by rw [← hv]; exact row_set (row_but OWz0.out hb HVG.out) HVZ.out
        have LZ1 : Hid (Lies v1 Zm 76 #[.string nm, .int .i64 kd, .int .i64 0, .int .i64 0, .int .i64 0]) := by rw [← hv]; exact lz.put 1 _
        clear hmd hb lz
        go_wp2_with fail
        try rw [hv]
        clear hv ff hcell
        refine (A2.out _ N1.out).mono ?_
        rintro e x1 ⟨rfl, hmd, hb⟩
        have lz := LZ1.out.but hb (Ne.symm hgZ')
        have ff := lz.fro 2
        have hcell : x1.cell? ⟨Zm, 2, none⟩ = some (.int .i64 0) := lz.cell (j := 2) rfl
        obtain ⟨v2, hv⟩ : ∃ v, x1.setCell ⟨Zm, 2, none⟩ (.int .i64 pl) = v := ⟨_, rfl⟩
        have N2 : Hid (MdAt v2 g I s3) := by rw [← hv]; exact hmd.putOther hgZ' _
        have P2 : Hid (But g w1 v2) := by rw [← hv]; exact (P1.out.trans hb).putNew hw1Z _
        have LYz2 : Hid (Lies v2 Y 30 #[.string C, .string D, v]) := by rw [← hv]; exact (LYz1.out.but hb (Ne.symm hgY)).putOther (a := ⟨Zm, 2, none⟩) hYZ' _
        have OWz2 : Hid (v2.ownsRow w1.heap.size 76 5 v m (cellsS S m)) := by rw [← hv]; exact row_set (row_but OWz1.out hb HVG.out) HVZ.out
        have LZ2 : Hid (Lies v2 Zm 76 #[.string nm, .int .i64 kd, .int .i64 pl, .int .i64 0, .int .i64 0]) := by rw [← hv]; exact lz.put 2 _
        clear hmd hb lz
        go_wp2_with fail
        try rw [hv]
        clear hv ff hcell
        refine (A3.out _ N2.out).mono ?_
        rintro e x2 ⟨rfl, hmd, hb⟩
        have lz := LZ2.out.but hb (Ne.symm hgZ')
        have ff := lz.fro 3
        have hcell : x2.cell? ⟨Zm, 3, none⟩ = some (.int .i64 0) := lz.cell (j := 3) rfl
        obtain ⟨v3, hv⟩ : ∃ v, x2.setCell ⟨Zm, 3, none⟩ (.int .i64 sz) = v := ⟨_, rfl⟩
        have N3 : Hid (MdAt v3 g I s4) := by rw [← hv]; exact hmd.putOther hgZ' _
        have P3 : Hid (But g w1 v3) := by rw [← hv]; exact (P2.out.trans hb).putNew hw1Z _
        have LYz3 : Hid (Lies v3 Y 30 #[.string C, .string D, v]) := by rw [← hv]; exact (LYz2.out.but hb (Ne.symm hgY)).putOther (a := ⟨Zm, 3, none⟩) hYZ' _
        have OWz3 : Hid (v3.ownsRow w1.heap.size 76 5 v m (cellsS S m)) := by rw [← hv]; exact row_set (row_but OWz2.out hb HVG.out) HVZ.out
        have LZ3 : Hid (Lies v3 Zm 76 #[.string nm, .int .i64 kd, .int .i64 pl, .int .i64 sz, .int .i64 0]) := by rw [← hv]; exact lz.put 3 _
        clear hmd hb lz
        go_wp2_with fail
        try rw [hv]
        clear hv ff hcell
        refine (A4.out _ N3.out).mono ?_
        rintro e x3 ⟨rfl, hmd, hb⟩
        have lz := LZ3.out.but hb (Ne.symm hgZ')
        have ff := lz.fro 4
        have hcell : x3.cell? ⟨Zm, 4, none⟩ = some (.int .i64 0) := lz.cell (j := 4) rfl
        obtain ⟨v4, hv⟩ : ∃ v, x3.setCell ⟨Zm, 4, none⟩ (.int .i64 fr) = v := ⟨_, rfl⟩
        have N4 : Hid (MdAt v4 g I s5) := by rw [← hv]; exact hmd.putOther hgZ' _
        have P4 : Hid (But g w1 v4) := by rw [← hv]; exact (P3.out.trans hb).putNew hw1Z _
        have LYz4 : Hid (Lies v4 Y 30 #[.string C, .string D, v]) := by rw [← hv]; exact (LYz3.out.but hb (Ne.symm hgY)).putOther (a := ⟨Zm, 4, none⟩) hYZ' _
        have OWz4 : Hid (v4.ownsRow w1.heap.size 76 5 v m (cellsS S m)) := by rw [← hv]; exact row_set (row_but OWz3.out hb HVG.out) HVZ.out
        have LZ4 : Hid (Lies v4 Zm 76 #[.string nm, .int .i64 kd, .int .i64 pl, .int .i64 sz, .int .i64 fr]) := by rw [← hv]; exact lz.put 4 _
        clear hmd hb lz
        have g0 := LZ4.out.cell (j := 0) rfl
        have g1 := LZ4.out.cell (j := 1) rfl
        have g2 := LZ4.out.cell (j := 2) rfl
        have g3 := LZ4.out.cell (j := 3) rfl
        have g4 := LZ4.out.cell (j := 4) rfl
        have y4 := LYz4.out.cell (j := 2) rfl
        have sz4 := P4.out.size
        go_wp2_with (at_builtin; refine wpList_append_lies _ rfl _ _ 28 rfl w1.heap.size 76 i0 _ 5 48 Tryz.underlying28 hi0 hz0 hz1 hz2 rfl (by decide) _ _ _ rfl (OWz4.out.alloc _) ⟨v4.heap.size, 0, none⟩ 1 1 [.string nm, .int .i64 kd, .int .i64 pl, .int .i64 sz, .int .i64 fr] rfl rfl (World.news_of_block (cs := #[.string nm, .int .i64 kd, .int .i64 pl, .int .i64 sz, .int .i64 fr]) (t := 76) (fr := (0, 0)) (heap_alloc_new v4 _)) (by simp [Value.oneCell']) (by omega) (by unfold maxLen; omega) (by omega) (by simp; omega) (v4.heap.size + 1) (by simp) ?_; intro gg cap2 w7 hown7 hgrow hat hlt7; have LY7 := (LYz4.out.alloc (.cells #[.string nm, .int .i64 kd, .int .i64 pl, .int .i64 sz, .int .i64 fr] 76)).grown hgrow HVY.out; have y7 := LY7.cell (j := 2) rfl; have f7 := LY7.fro 2)
        have hvY' : (Value.slice (some ⟨gg, 0, none⟩) (m + 1) cap2).ownBlock ≠ some Y := ownBlock_ne5 hown7 LY7 (by decide)
        have RR7 : Hid (RdRow w1 (w7.setCell ⟨Y, 2, none⟩ (.slice (some ⟨gg, 0, none⟩) (m + 1) cap2)) g Y w1.heap.size I C D r3 S (m + 1) (.slice (some ⟨gg, 0, none⟩) (m + 1) cap2)) :=
          ⟨LY7.put 2 _, by rw [EC.out]; exact row_set hown7 hvY', by rw [F5.out]; exact ((N4.out.below (grown1' v4 _)).grown hgrow HVG.out).putOther hgY _, ((P4.out.alloc _).grown hgrow (fun k hk => (OWz4.out.lt k hk).1)).putNew hwY _⟩
        clear hown7 hgrow hat LY7 y7 f7 hv ff hcell
        go_roundw
        case rel => exact ⟨m + 1, _, by omega, by go_num, RR7⟩
        case measure => simp [intOf]; omega
      · obtain rfl : m = N := by omega
        obtain ⟨q, cap, rfl, hcap, own⟩ := ownS_of_row RR.out.own
        have hgX' : X ≠ g := Ne.symm hgX
        have B3 : Hid (Below w.heap.size w wr) := B1.out.trans (RR.out.u.below hgw B1.out.size)
        have LX3 : Hid (Lies wr X 30 #[.string ByteArray.empty, .string ByteArray.empty, .slice none 0 0]) := LX1.out.but RR.out.u hgX'
        have own3 : Hid (OwnS wr w.heap.size q m S) := own.low B1.out.size
        have hqX : m = 0 ∨ q ≠ some ⟨X, 0, none⟩ := by
          rcases own with h | ⟨k, h1, h2, _⟩
          · exact .inl h
          · exact .inr (fun e => by rw [h1] at e; simp at e <;> omega)
        have HQ : Hid (m = 0 ∨ q ≠ some ⟨X, 0, none⟩) := hqX
        have md := RR.out.md
        have LY3 := RR.out.y
        have y0 := LY3.cell (j := 0) rfl
        have y1 := LY3.cell (j := 1) rfl
        have y2 := LY3.cell (j := 2) rfl
        have LYH : Hid (Lies wr Y 30 #[.string C, .string D, .slice q m cap]) := LY3
        have hYlt : Y < wr.heap.size := LY3.lt
        have hXlt3 : X < wr.heap.size := LX3.out.lt
        obtain ⟨rE, hrE⟩ : ∃ y, RS.at I r3 m = y := ⟨_, rfl⟩
        have HXC3 : Hid (rdX t b = if rE.bad = true then 22 else if rE.p < I.size then 8 else if b = false then 1 else 0) := by rw [← hrE]; exact HXC2.out
        have hEP3 : rE.p ≤ I.size := by rw [← hrE]; exact EP2.out
        rw [hrE] at md
        unfold MdAt at md
        have k0 := Lies.cell md (j := 0) rfl
        have k1 := Lies.cell md (j := 1) rfl
        have k2 := Lies.cell md (j := 2) rfl
        obtain ⟨pE, bE⟩ := rE
        simp only at k0 k1 k2 hEP3
        have f0 := LX3.out.fro 0
        have f1 := LX3.out.fro 1
        have f2 := LX3.out.fro 2
        have c0 := LX3.out.cell (j := 0) rfl
        have c1 := LX3.out.cell (j := 1) rfl
        have c2 := LX3.out.cell (j := 2) rfl
        clear hqX md LY3 own hrE HXC2 EP2 RR hgX'
        cases bE
        · by_cases hpl : pE < I.size
          · have hx : rdX t b = 8 := by rw [HXC3.out]; rw [if_neg (by simp), if_pos hpl]
            have HX : Hid (rdX t b = 8) := hx
            have hpl' : (pE : Int) < (I.size : Int) := by omega
            clear hx HXC3
            go_wp2_with fail
            go_region
            all_goals
              have h0 : wr.drew.frozen? ⟨X, 0, none⟩ = false := f0
              have h1 : wr.drew.frozen? ⟨X, 1, none⟩ = false := f1
              have h2 : wr.drew.frozen? ⟨X, 2, none⟩ = false := f2
              go_wp2_with fail
              try rw [hemp]
              have n1 := ((LX3.out.drew.put 0 (.string ByteArray.empty)).put 1 (.string ByteArray.empty)).put 2 (.slice none 0 0)
              have bb := ((B3.out.drew.setCell (p := ⟨X, 0, none⟩) hXX (.string ByteArray.empty)).setCell (p := ⟨X, 1, none⟩) hXX (.string ByteArray.empty)).setCell (p := ⟨X, 2, none⟩) hXX (.slice none 0 0)
              have hi3 : (Tryz.prog.info? 30).map (·.size) = some (#[Value.string ByteArray.empty, .string ByteArray.empty, .slice none 0 0] : Array Value).size := by kernel_rfl
              refine bodyPost_ret (results_rd2 rfl _ _ _ _ _ _ rfl n1 Tryz.underlying30 rfl hi3) rfl ?_
              unfold RdAns
              rw [HX.out]
              exact ⟨bb, .inl ⟨by simp, rfl⟩⟩
          · have hx : rdX t b = if b = false then 1 else 0 := by rw [HXC3.out]; rw [if_neg (by simp), if_neg hpl]
            have HX : Hid (rdX t b = if b = false then 1 else 0) := hx
            obtain rfl : pE = I.size := by omega
            have ok := fun w' (h : SymsAt w' q m S) => HPB2.out q cap w' h
            have OK : Hid (∀ w' : World, SymsAt w' q m S → _) := ok
            clear hx HXC3 ok f0 f1 f2
            go_wp2_with fail
            go_region
            all_goals
              go_wp2_with fail
              refine (OK.out _ (show SymsAt wr.drew q m S from own3.out.syms)).mono ?_
              rintro e w4 ⟨rfl, hb4⟩
              have lx4 := LX3.out.drew.below hb4 hXlt3
              have h0 := lx4.fro 0
              have h1 := lx4.fro 1
              have h2 := lx4.fro 2
              have d0 := lx4.cell (j := 0) rfl
              have d1 := lx4.cell (j := 1) rfl
              have d2 := lx4.cell (j := 2) rfl
              have ly4 := LYH.out.drew.below hb4 hYlt
              have z0 := ly4.cell (j := 0) rfl
              have z1 := ly4.cell (j := 1) rfl
              have z2 := ly4.cell (j := 2) rfl
              have LX4 : Hid (Lies w4 X 30 #[.string ByteArray.empty, .string ByteArray.empty, .slice none 0 0]) := lx4
              have B4 : Hid (Below w.heap.size w w4) := B3.out.drew.trans (hb4.mono B3.out.size)
              have own4 : Hid (OwnS w4 w.heap.size q m S) := own3.out.below (w := wr) ⟨hb4.os, hb4.tape, hb4.output, hb4.size, hb4.block⟩
              clear hb4 lx4 ly4 k0 k1 k2 c0 c1 c2 y0 y1 y2 LX3 LYH own3
              cases b
              · go_wp2_with fail
                try rw [hemp]
                have n1 := ((LX4.out.put 0 (.string ByteArray.empty)).put 1 (.string ByteArray.empty)).put 2 (.slice none 0 0)
                have bb := ((B4.out.setCell (p := ⟨X, 0, none⟩) hXX (.string ByteArray.empty)).setCell (p := ⟨X, 1, none⟩) hXX (.string ByteArray.empty)).setCell (p := ⟨X, 2, none⟩) hXX (.slice none 0 0)
                have hi3 : (Tryz.prog.info? 30).map (·.size) = some (#[Value.string ByteArray.empty, .string ByteArray.empty, .slice none 0 0] : Array Value).size := by kernel_rfl
                refine bodyPost_ret (results_rd2 rfl _ _ _ _ _ _ rfl n1 Tryz.underlying30 rfl hi3) rfl ?_
                have ex : rdX t false = 1 := by have := HX.out; simpa using this
                unfold RdAns
                rw [ex]
                exact ⟨bb, .inl ⟨by simp, rfl⟩⟩
              · go_wp2_with fail
                have n1 := ((LX4.out.put 0 (.string C)).put 1 (.string D)).put 2 (.slice q m cap)
                have bb := ((B4.out.setCell (p := ⟨X, 0, none⟩) hXX (.string C)).setCell (p := ⟨X, 1, none⟩) hXX (.string D)).setCell (p := ⟨X, 2, none⟩) hXX (.slice q m cap)
                have hi3 : (Tryz.prog.info? 30).map (·.size) = some (#[Value.string C, .string D, .slice q m cap] : Array Value).size := by kernel_rfl
                refine bodyPost_ret (results_rd2 rfl _ _ _ _ _ _ rfl n1 Tryz.underlying30 rfl hi3) rfl ?_
                have ex : rdX t true = 0 := by have := HX.out; simpa using this
                unfold RdAns
                rw [ex, HC.out, HD.out, HN.out, HS.out]
                refine ⟨bb, .inr ⟨rfl, q, cap, rfl, hcap, ?_⟩⟩
                rcases HQ.out with h | hqX
                · exact .inl h
                · exact ((own4.out.putNew hqX _).putNew hqX _).putNew hqX _
        · have hx : rdX t b = 22 := by rw [HXC3.out]; rw [if_pos rfl]
          have HX : Hid (rdX t b = 22) := hx
          clear hx HXC3
          go_wp2_with fail
          try rw [hemp]
          have n1 := ((LX3.out.put 0 (.string ByteArray.empty)).put 1 (.string ByteArray.empty)).put 2 (.slice none 0 0)
          have bb := ((B3.out.setCell (p := ⟨X, 0, none⟩) hXX (.string ByteArray.empty)).setCell (p := ⟨X, 1, none⟩) hXX (.string ByteArray.empty)).setCell (p := ⟨X, 2, none⟩) hXX (.slice none 0 0)
          have hi3 : (Tryz.prog.info? 30).map (·.size) = some (#[Value.string ByteArray.empty, .string ByteArray.empty, .slice none 0 0] : Array Value).size := by kernel_rfl
          refine bodyPost_ret (results_rd2 rfl _ _ _ _ _ _ rfl n1 Tryz.underlying30 rfl hi3) rfl ?_
          unfold RdAns
          rw [HX.out]
          exact ⟨bb, .inl ⟨by simp, rfl⟩⟩
  · have hx := HX1.out oc HOC.out h0
    have HX : Hid (rdX t b = oc) := hx
    have f0 := LX1.out.fro 0
    have f1 := LX1.out.fro 1
    have f2 := LX1.out.fro 2
    have c0 := LX1.out.cell (j := 0) rfl
    have c1 := LX1.out.cell (j := 1) rfl
    have c2 := LX1.out.cell (j := 2) rfl
    have h0b : (oc == 0) = false := by simpa using h0
    have H0 : Hid (oc ≠ 0) := h0
    clear hx HX1 HX2 HMD HEP HTI HBB HOC
    go_wp2_with fail
    try rw [hemp]
    have n1 := ((LX1.out.put 0 (.string ByteArray.empty)).put 1 (.string ByteArray.empty)).put 2 (.slice none 0 0)
    have bb := ((B1.out.setCell (p := ⟨X, 0, none⟩) hXX (.string ByteArray.empty)).setCell (p := ⟨X, 1, none⟩) hXX (.string ByteArray.empty)).setCell (p := ⟨X, 2, none⟩) hXX (.slice none 0 0)
    have hi3 : (Tryz.prog.info? 30).map (·.size) = some (#[Value.string ByteArray.empty, .string ByteArray.empty, .slice none 0 0] : Array Value).size := by kernel_rfl
    refine bodyPost_ret (results_rd2 rfl _ _ _ _ _ _ rfl n1 Tryz.underlying30 rfl hi3) rfl ?_
    unfold RdAns
    rw [HX.out]
    exact ⟨bb, .inl ⟨H0.out, rfl⟩⟩
end Go.Proofs.YthihlbfmpkjhpaaGreatDoor

namespace Go.Proofs.YthihlbfmpkjhpaaGreatDoor
open Go Go.RowKit
set_option linter.unusedVariables false

theorem convOneM (w : World) (x : UInt8) : (convert 59 9 (.slice (some ⟨w.heap.size, 0, none⟩) 1 1)).run Tryz.prog (w.alloc (.cells #[.int .u8 (x.toNat : Int)] 5)) = .ok (.string ⟨#[x]⟩) (w.alloc (.cells #[.int .u8 (x.toNat : Int)] 5)) :=
  run_convert_bytes_back (w.alloc (.cells #[.int .u8 (x.toNat : Int)] 5)) 59 9 5 ⟨w.heap.size, 0, none⟩ 1 [x] Tryz.underlying59 Tryz.underlying5 Tryz.underlying9 (fun j hj => by
    obtain rfl : j = 0 := by simp at hj; omega
    exact World.news_of_block (cs := #[.int .u8 (x.toNat : Int)]) (t := 5) (fr := (0, 0)) (heap_alloc_new w _) 0 _ rfl)
def mdig (u : Nat) : UInt8 := UInt8.ofNat (48 + u % 10)
theorem mdig_nat (u : Nat) : ((mdig u).toNat : Int) = 48 + u % 10 := by
  unfold mdig
  rw [UInt8.toNat_ofNat_of_lt' (by unfold UInt8.size; omega)]
  omega
theorem mwrap8 (u : Nat) : IntKind.u8.wrap ((mdig u).toNat : Int) = ((mdig u).toNat : Int) := by
  rw [mdig_nat]
  unfold IntKind.wrap
  simp [IntKind.bits, IntKind.signed]
  omega
theorem mwrap64 (x : Int) (h0 : -9223372036854775808 ≤ x) (h1 : x ≤ 9223372036854775807) : IntKind.i64.wrap x = x := by
  unfold IntKind.wrap
  simp [IntKind.bits, IntKind.signed]
  omega
/-- The digits of k ahead of a; f rounds at most. -/
def mtGo : Nat → Nat → ByteArray → ByteArray
  | 0, _, a => a
  | f + 1, k, a => if k = 0 then a else mtGo f (k / 10) (⟨#[mdig k]⟩ ++ a)
theorem mtGo_zero (f : Nat) (a : ByteArray) : mtGo f 0 a = a := by cases f <;> simp [mtGo]
theorem mtGo_succ (f k : Nat) (a : ByteArray) (h : 0 < k) : mtGo (f + 1) k a = mtGo f (k / 10) (⟨#[mdig k]⟩ ++ a) := by
  show (if k = 0 then a else _) = _
  rw [if_neg (by omega)]
def mtS (k : Nat) : ByteArray := ⟨#[109]⟩ ++ mtGo k k ⟨#[]⟩

set_option maxRecDepth 100000 in
set_option maxHeartbeats 2000000 in
theorem markTextC (k : Nat) (w : World) (hk : 0 < k) (hK : k ≤ 900000) :
    Calls Tryz.prog 80 #[.int .i64 k] w fun e w' => e = .returned (.string (mtS k)) ∧ Below w.heap.size w w' := by
  have hk0 : ¬ (k : Int) ≤ 0 := by omega
  go_enter Tryz.func80, Tryz.ntmps80
  go_wp2
  go_loopw [0, 3] (fun m o wr => ∃ (j f : Nat) (a : ByteArray), m = .int .i64 j ∧ o = .string a ∧ j ≤ f ∧ f ≤ k ∧ a.size + f ≤ k ∧ mtGo f j a = mtGo k k ⟨#[]⟩ ∧ Below w.heap.size w wr) (fun m _ _ => (intOf m).toNat)
  case atStart => exact ⟨k, k, _, rfl, rfl, Nat.le_refl _, Nat.le_refl _, Nat.le_of_eq (Nat.zero_add k), rfl, Below.refl _ _⟩
  case round =>
    obtain ⟨j, f, a, rfl, rfl, hjf, hfk, has, hgo, hB⟩ := hrel
    by_cases hj : 0 < j
    · cases f with
      | zero => omega
      | succ f =>
        rw [mtGo_succ f j a hj] at hgo
        have hx := mdig_nat j
        have hw := mwrap8 j
        obtain ⟨x, ex⟩ : ∃ x, mdig j = x := ⟨_, rfl⟩
        obtain ⟨q, eq⟩ : ∃ q, j / 10 = q := ⟨_, rfl⟩
        obtain ⟨r, er⟩ : ∃ r, j % 10 = r := ⟨_, rfl⟩
        rw [ex, eq] at hgo
        rw [ex] at hx hw
        have hv : 48 + (r : Int) = (x.toNat : Int) := by omega
        have hqd : (j : Int) / 10 = (q : Int) := by omega
        have hrd : (j : Int) % 10 = (r : Int) := by omega
        have hrt : (j : Int).tmod 10 = (r : Int) := by rw [Int.tmod_eq_emod_of_nonneg (by omega)]; exact hrd
        have hqt : (j : Int).tdiv 10 = (q : Int) := by rw [Int.tdiv_eq_ediv_of_nonneg (by omega)]; exact hqd
        have hqw : IntKind.i64.wrap (q : Int) = (q : Int) := mwrap64 _ (by omega) (by omega)
        have hxw : IntKind.i64.wrap (x.toNat : Int) = (x.toNat : Int) := mwrap64 _ (by omega) (by omega)
        have hm : ((j : Int) == -9223372036854775808) = false := by simp <;> omega
        have hqj : q < j := by omega
        have hqf : q ≤ f := by omega
        have hc := convOneM
        have hadd : ∀ w : World, (Op.stringOp .add ⟨#[x]⟩ a).run Tryz.prog w = .ok (.string (⟨#[x]⟩ ++ a)) w := fun w => run_string_add_sum w _ _ (by show 1 + a.size ≤ _; omega)
        have hsz : ((⟨#[x]⟩ : ByteArray) ++ a).size = 1 + a.size := by rw [ByteArray.size_append]; rfl
        clear hx ex eq er
        go_wp2
        go_roundw
        case rel => exact ⟨q, f, ⟨#[x]⟩ ++ a, rfl, rfl, hqf, by omega, by omega, hgo, hB.alloc hB.size _⟩
        case measure => simp [intOf]; omega
    · obtain rfl : j = 0 := by omega
      rw [mtGo_zero] at hgo
      subst hgo
      have hadd : ∀ w : World, (Op.stringOp .add ⟨#[109]⟩ (mtGo k k ⟨#[]⟩)).run Tryz.prog w = .ok (.string (⟨#[109]⟩ ++ mtGo k k ⟨#[]⟩)) w := fun w => run_string_add_sum w _ _ (by show 1 + _ ≤ _; omega)
      go_wp2
      go_ret
      exact ⟨rfl, hB⟩

theorem FRow.put {w : World} {g m : Nat} {V : Nat → Value} (h : FRow w g 0 m V) (t : Nat) (ht : t < m) (x : Value) : FRow (w.setCell ⟨g, t, none⟩ x) g 0 m (fun i => if i = t then x else V i) := by
  refine ⟨fun i hi => ?_, fun i hi => by rw [World.frozen?_setCell]; exact h.2 i hi⟩
  have hi0 := h.1 i hi
  have ht0 := h.1 t ht
  rw [Nat.zero_add] at hi0 ht0 ⊢
  show _ = some (if i = t then x else V i)
  by_cases e : i = t
  · subst e
    rw [if_pos rfl]
    exact World.cell?_setCell_same' _ _ _ (by rw [ht0]; rfl)
  · rw [if_neg e, World.cell?_setCell_other _ _ _ _ (fun c => e (by have := congrArg Addr.off c; simp at this; omega))]
    exact hi0
theorem FRow.congr {w : World} {g m : Nat} {V V' : Nat → Value} (h : FRow w g 0 m V) (e : ∀ i, i < m → V i = V' i) : FRow w g 0 m V' := ⟨fun i hi => (h.1 i hi).trans (by rw [e i hi]), h.2⟩

def mkS (s i : Nat) : SymD := ⟨mtS (s + 5 * i), ((s + 5 * i : Nat) : Int) + 1, ((s + 5 * i : Nat) : Int) + 1 + 1, ((s + 5 * i : Nat) : Int) + 1 + 1 + 1, ((s + 5 * i : Nat) : Int) + 1 + 1 + 1 + 1⟩
def mixS (s : Nat) (S : Nat → SymD) (k i : Nat) : SymD := if i < k then mkS s i else S i
theorem mix_step (s k : Nat) (S : Nat → SymD) (i : Nat) : (if i = k * 5 + 4 then Value.int .i64 (mkS s k).fr else if i = k * 5 + 3 then .int .i64 (mkS s k).sz else if i = k * 5 + 2 then .int .i64 (mkS s k).pl else if i = k * 5 + 1 then .int .i64 (mkS s k).kd else if i = k * 5 then .string (mkS s k).nm else symV (mixS s S k) i) = symV (mixS s S (k + 1)) i := by
  have hk : mixS s S (k + 1) k = mkS s k := by unfold mixS; rw [if_pos (Nat.lt_succ_self k)]
  by_cases e4 : i = k * 5 + 4
  · rw [if_pos e4, e4, symV4, hk]
  by_cases e3 : i = k * 5 + 3
  · rw [if_neg e4, if_pos e3, e3, symV3, hk]
  by_cases e2 : i = k * 5 + 2
  · rw [if_neg e4, if_neg e3, if_pos e2, e2, symV2, hk]
  by_cases e1 : i = k * 5 + 1
  · rw [if_neg e4, if_neg e3, if_neg e2, if_pos e1, e1, symV1, hk]
  by_cases e0 : i = k * 5
  · rw [if_neg e4, if_neg e3, if_neg e2, if_neg e1, if_pos e0, e0, symV0, hk]
  · rw [if_neg e4, if_neg e3, if_neg e2, if_neg e1, if_neg e0]
    have hq : i / 5 ≠ k := by omega
    have hmx : mixS s S k (i / 5) = mixS s S (k + 1) (i / 5) := by
      unfold mixS
      by_cases h : i / 5 < k
      · rw [if_pos h, if_pos (by omega)]
      · rw [if_neg h, if_neg (by omega)]
    unfold symV
    rw [hmx]

/-- Of the old blocks only the one that p points to may have changed. -/
structure ButO (p : Option Addr) (w w' : World) : Prop where
  os : w'.os = w.os
  tape : w'.tape = w.tape
  output : w'.output = w.output
  size : w.heap.size ≤ w'.heap.size
  block : ∀ k, k < w.heap.size → p ≠ some ⟨k, 0, none⟩ → w'.heap[k]? = w.heap[k]?
theorem ButO.refl (p : Option Addr) (w : World) : ButO p w w := ⟨rfl, rfl, rfl, Nat.le_refl _, fun _ _ _ => rfl⟩
theorem ButO.trans {p : Option Addr} {a b c : World} (h : ButO p a b) (k : ButO p b c) : ButO p a c :=
  ⟨k.os.trans h.os, k.tape.trans h.tape, k.output.trans h.output, Nat.le_trans h.size k.size, fun i hi hg => (k.block i (Nat.lt_of_lt_of_le hi h.size) hg).trans (h.block i hi hg)⟩
theorem ButO.of_below {p : Option Addr} {w w' : World} (h : Below w.heap.size w w') : ButO p w w' := ⟨h.os, h.tape, h.output, h.size, fun k hk _ => h.block k hk⟩
theorem ButO.set {g j : Nat} {w w' : World} (h : ButO (some ⟨g, 0, none⟩) w w') (v : Value) : ButO (some ⟨g, 0, none⟩) w (w'.setCell ⟨g, j, none⟩ v) :=
  h.trans ⟨rfl, rfl, rfl, by simp [World.setCell], fun k _ hg => Below.heap_setCell w' ⟨g, j, none⟩ v k (fun e => hg (by rw [e]))⟩
theorem ButO.below {p : Option Addr} {B : Nat} {w w' : World} (h : ButO p w w') (hp : ∀ k, k < B → p ≠ some ⟨k, 0, none⟩) (hw : B ≤ w.heap.size) : Below B w w' :=
  ⟨h.os, h.tape, h.output, h.size, fun k hk => h.block k (Nat.lt_of_lt_of_le hk hw) (hp k hk)⟩
theorem ButO.cell {p : Option Addr} {w w' : World} (h : ButO p w w') {k j : Nat} {v : Value} (hc : w.cell? ⟨k, j, none⟩ = some v) (hk : p ≠ some ⟨k, 0, none⟩) : w'.cell? ⟨k, j, none⟩ = some v := by
  have hlt := World.block_lt_of_cell? w _ hc
  exact (World.cell?_of_block (w := w) (h.block k hlt hk)).trans hc
/-- Where the list lies, if it has elements. -/
def qn (p : Option Addr) (n : Nat) : Option Addr := if n = 0 then none else p
theorem OwnS.not_at {w : World} {B : Nat} {p : Option Addr} {n : Nat} {S : Nat → SymD} (h : OwnS w B p n S) (k : Nat) (hk : k < B ∨ w.heap.size ≤ k) : qn p n ≠ some ⟨k, 0, none⟩ := by
  unfold qn
  rcases h with h | ⟨g, rfl, h2, h3, _⟩
  · rw [if_pos h]; simp
  · split
    · simp
    · intro e
      have e1 : g = k := by
        have e2 := congrArg (fun o => (o.map Addr.block).getD 0) e
        exact e2
      omega

set_option maxRecDepth 100000 in
set_option maxHeartbeats 4000000 in
/-- Marked: no block but the list's own is touched. -/
theorem markSyms (B : Nat) (p : Option Addr) (n c s : Nat) (S : Nat → SymD) (w : World) (hn : n ≤ 10000) (hs : s ≤ 100000) (hs0 : 0 < s) (hBw : B ≤ w.heap.size) (ho : OwnS w B p n S) :
    Calls Tryz.prog 49 #[.slice p n c, .int .i64 s] w fun e w' => e = .returned (.int .i64 ((s + 5 * n : Nat) : Int)) ∧ ButO (qn p n) w w' ∧ OwnS w' B p n (mkS s) := by
  go_enter Tryz.func49, Tryz.ntmps49
  go_wp2
  go_loopw [1, 5] (fun m i wr => ∃ k : Nat, k ≤ n ∧ i = .int .i64 k ∧ m = .int .i64 ((s + 5 * k : Nat) : Int) ∧ ButO (qn p n) w wr ∧ OwnS wr B p n (mixS s S k)) (fun _ i _ => n - (intOf i).toNat)
  case atStart => exact ⟨0, Nat.zero_le _, rfl, by simp, ButO.refl _ _, ho⟩
  case round =>
    obtain ⟨k, hk, rfl, rfl, hB, hf⟩ := hrel
    by_cases hlt : k < n
    · rcases hf with h0 | ⟨g, rfl, hg, hgl, hf⟩
      · omega
      have hqn : qn (some ⟨g, 0, none⟩) n = some ⟨g, 0, none⟩ := if_neg (by omega)
      rw [hqn] at hB
      have HQN : Hid (qn (some ⟨g, 0, none⟩) n = some ⟨g, 0, none⟩) := hqn
      clear hqn
      have hms : mkS s k = ⟨mtS (s + 5 * k), ((s + 5 * k : Nat) : Int) + 1, ((s + 5 * k : Nat) : Int) + 1 + 1, ((s + 5 * k : Nat) : Int) + 1 + 1 + 1, ((s + 5 * k : Nat) : Int) + 1 + 1 + 1 + 1⟩ := rfl
      have hnx : s + 5 * (k + 1) = s + 5 * k + 5 := by omega
      have hu1 : s + 5 * k ≤ 200000 := by omega
      have hu0 : 0 < s + 5 * k := by omega
      obtain ⟨u, hu⟩ : ∃ u, s + 5 * k = u := ⟨_, rfl⟩
      rw [hu] at hms hnx hu1 hu0 ⊢
      have hstep := mix_step s k S
      rw [hms] at hstep
      have HST : Hid (∀ i, _) := hstep
      have HNX : Hid (s + 5 * (k + 1) = u + 5) := hnx
      clear hms hstep hnx hu ho
      go_wp2_with fail
      refine (markTextC u _ hu0 (by omega)).mono ?_
      rintro e w1 ⟨rfl, hb1⟩
      have hB1 := hB.trans (ButO.of_below hb1)
      have hf1 := hf.below hb1 hgl
      obtain ⟨x0, x1, x2, x3, x4⟩ := hf1.1.sym hlt
      have f0 := hf1.2 (k * 5) (by omega)
      have f1 := hf1.2 (k * 5 + 1) (by omega)
      have f2 := hf1.2 (k * 5 + 2) (by omega)
      have f3 := hf1.2 (k * 5 + 3) (by omega)
      have f4 := hf1.2 (k * 5 + 4) (by omega)
      rw [Nat.zero_add] at x0 x1 x2 x3 x4 f0 f1 f2 f3 f4
      have F5 := ((((hf1.put (k * 5) (by omega) (.string (mtS u))).put (k * 5 + 1) (by omega) (.int .i64 ((u : Int) + 1))).put (k * 5 + 2) (by omega) (.int .i64 ((u : Int) + 1 + 1))).put (k * 5 + 3) (by omega) (.int .i64 ((u : Int) + 1 + 1 + 1))).put (k * 5 + 4) (by omega) (.int .i64 ((u : Int) + 1 + 1 + 1 + 1))
      have B5 := ((((hB1.set (j := k * 5) (.string (mtS u))).set (j := k * 5 + 1) (.int .i64 ((u : Int) + 1))).set (j := k * 5 + 2) (.int .i64 ((u : Int) + 1 + 1))).set (j := k * 5 + 3) (.int .i64 ((u : Int) + 1 + 1 + 1))).set (j := k * 5 + 4) (.int .i64 ((u : Int) + 1 + 1 + 1 + 1))
      have G5 := Nat.lt_of_lt_of_le hgl hb1.size
      have HF5 : Hid (FRow _ g 0 (n * 5) _) := F5
      have HB5 : Hid (ButO (some ⟨g, 0, none⟩) w _) := B5
      clear hf hf1 F5 B5 hb1 hB1 hB hBw
      go_wp2_with fail
      go_roundw
      case rel =>
        refine ⟨k + 1, by omega, by go_num, ?_, by rw [HQN.out]; exact HB5.out, .inr ⟨g, rfl, hg, by simpa using G5, HF5.out.congr (fun i _ => HST.out i)⟩⟩
        rw [HNX.out]
        first | rfl | (congr 1; omega) | go_num
      case measure => simp [intOf]; omega
    · obtain rfl : k = n := by omega
      go_wp2
      go_ret
      refine ⟨rfl, hB, ?_⟩
      rcases hf with h0 | ⟨g, h1, h2, h3, hf⟩
      · exact .inl h0
      · refine .inr ⟨g, h1, h2, h3, hf.congr (fun i hi => ?_)⟩
        unfold symV mixS
        have : i / 5 < k := by omega
        simp only [if_pos this]

set_option maxRecDepth 100000 in
set_option maxHeartbeats 4000000 in
/-- They still stand. -/
theorem heldSyms (B : Nat) (p : Option Addr) (n c s : Nat) (w : World) (hn : n ≤ 10000) (hs : s ≤ 100000) (hs0 : 0 < s) (ho : OwnS w B p n (mkS s)) :
    Calls Tryz.prog 50 #[.slice p n c, .int .i64 s] w fun e w' => e = .returned (.int .i64 ((s + 5 * n : Nat) : Int)) ∧ Below w.heap.size w w' := by
  go_enter Tryz.func50, Tryz.ntmps50
  go_wp2
  go_loopw [1, 5] (fun m i wr => ∃ k : Nat, k ≤ n ∧ i = .int .i64 k ∧ m = .int .i64 ((s + 5 * k : Nat) : Int) ∧ Below w.heap.size w wr) (fun _ i _ => n - (intOf i).toNat)
  case atStart => exact ⟨0, Nat.zero_le _, rfl, by simp, Below.refl _ _⟩
  case round =>
    obtain ⟨k, hk, rfl, rfl, hB⟩ := hrel
    by_cases hlt : k < n
    · rcases ho with h0 | ⟨g, rfl, hg, hgl, hf⟩
      · omega
      have hnx : s + 5 * (k + 1) = s + 5 * k + 5 := by omega
      have hu1 : s + 5 * k ≤ 200000 := by omega
      have hu0 : 0 < s + 5 * k := by omega
      have hfr := hf.below hB hgl
      have hglr := Nat.lt_of_lt_of_le hgl hB.size
      obtain ⟨x0, x1, x2, x3, x4⟩ := hfr.1.sym hlt
      have e0 : (mkS s k).nm = mtS (s + 5 * k) := rfl
      have e1 : (mkS s k).kd = ((s + 5 * k : Nat) : Int) + 1 := rfl
      have e2 : (mkS s k).pl = ((s + 5 * k : Nat) : Int) + 1 + 1 := rfl
      have e3 : (mkS s k).sz = ((s + 5 * k : Nat) : Int) + 1 + 1 + 1 := rfl
      have e4 : (mkS s k).fr = ((s + 5 * k : Nat) : Int) + 1 + 1 + 1 + 1 := rfl
      obtain ⟨u, hu⟩ : ∃ u, s + 5 * k = u := ⟨_, rfl⟩
      rw [hu] at hnx hu1 hu0 e0 e1 e2 e3 e4 ⊢
      rw [Nat.zero_add, e0] at x0
      rw [Nat.zero_add, e1] at x1
      rw [Nat.zero_add, e2] at x2
      rw [Nat.zero_add, e3] at x3
      rw [Nat.zero_add, e4] at x4
      have HNX : Hid (s + 5 * (k + 1) = u + 5) := hnx
      have HB : Hid (Below w.heap.size w wr) := hB
      have TX : Hid (∀ W : World, W.heap.size = wr.heap.size → (∀ j, W.cell? ⟨g, j, none⟩ = wr.cell? ⟨g, j, none⟩) → (∀ w', Below W.heap.size W w' → Below w.heap.size w w') → Calls Tryz.prog 80 #[.int .i64 u] W fun e w' => e = .returned (.string (mtS u)) ∧ Below w.heap.size w w' ∧ w'.cell? ⟨g, k * 5, none⟩ = some (.string (mtS u)) ∧ w'.cell? ⟨g, k * 5 + 1, none⟩ = some (.int .i64 ((u : Int) + 1)) ∧ w'.cell? ⟨g, k * 5 + 2, none⟩ = some (.int .i64 ((u : Int) + 1 + 1)) ∧ w'.cell? ⟨g, k * 5 + 3, none⟩ = some (.int .i64 ((u : Int) + 1 + 1 + 1)) ∧ w'.cell? ⟨g, k * 5 + 4, none⟩ = some (.int .i64 ((u : Int) + 1 + 1 + 1 + 1))) := by
        intro W hz hc hbl
        refine (markTextC u W hu0 (by omega)).mono ?_
        rintro e w' ⟨rfl, hb⟩
        have key : ∀ j, w'.cell? ⟨g, j, none⟩ = wr.cell? ⟨g, j, none⟩ := fun j => (hb.cell (p := ⟨g, j, none⟩) (by rw [hz]; exact hglr)).trans (hc j)
        exact ⟨rfl, hbl w' hb, (key _).trans x0, (key _).trans x1, (key _).trans x2, (key _).trans x3, (key _).trans x4⟩
      have T1 := TX.out wr rfl (fun _ => rfl) (fun w' hb => HB.out.trans (hb.mono HB.out.size))
      have T2 := TX.out wr.drew rfl (fun _ => rfl) (fun w' hb => HB.out.drew.trans (hb.mono HB.out.size))
      have HT1 : Hid (Calls Tryz.prog 80 #[.int .i64 u] wr _) := T1
      have HT2 : Hid (Calls Tryz.prog 80 #[.int .i64 u] wr.drew _) := T2
      clear T1 T2 TX hf hfr hB hu e0 e1 e2 e3 e4 hnx x1 x2 x3 x4
      go_wp2
      go_region_with ((go_at_call 80; first | refine HT1.out.mono ?_ | refine HT2.out.mono ?_; rintro e w1 ⟨rfl, hb1, y0, y1, y2, y3, y4⟩))
      all_goals
        clear HT1 HT2
        go_wp2
        go_roundw
        case rel =>
          refine ⟨k + 1, by omega, by go_num, ?_, hb1⟩
          rw [HNX.out]
          first | rfl | (congr 1; omega) | go_num
        case measure => simp [intOf]; omega
    · obtain rfl : k = n := by omega
      go_wp2
      go_ret
      exact ⟨rfl, hB⟩

set_option maxRecDepth 100000 in
set_option maxHeartbeats 2000000 in
theorem markImg (B : Nat) (c d : ByteArray) (p : Option Addr) (n cp s : Nat) (S : Nat → SymD) (w : World) (hn : n ≤ 10000) (hs : s ≤ 100000) (hs0 : 0 < s) (hBw : B ≤ w.heap.size) (ho : OwnS w B p n S) :
    Calls Tryz.prog 21 #[.agg #[.string c, .string d, .slice p n cp], .int .i64 s] w fun e w' => e = .returned (.int .i64 ((s + 5 * n : Nat) : Int)) ∧ ButO (qn p n) w w' ∧ OwnS w' B p n (mkS s) := by
  have bA : Below w.heap.size w (w.alloc (.cells #[.string c, .string d, .slice p n cp] 30)) := (Below.refl _ _).alloc (Nat.le_refl _) _
  have ho1 := ho.below bA
  have HB : Hid (Below w.heap.size w (w.alloc (.cells #[.string c, .string d, .slice p n cp] 30))) := bA
  clear ho bA
  go_enter Tryz.func21, Tryz.ntmps21
  go_wp2_with fail
  refine (markSyms B p n cp s S _ hn hs hs0 (Nat.le_trans hBw HB.out.size) ho1).mono ?_
  rintro e w1 ⟨rfl, hb1, ho2⟩
  have hb2 := (ButO.of_below HB.out).trans hb1
  clear hb1 ho1
  go_wp2_with fail
  go_ret
  exact ⟨rfl, hb2, ho2⟩
set_option maxRecDepth 100000 in
set_option maxHeartbeats 2000000 in
theorem heldImg (B : Nat) (c d : ByteArray) (p : Option Addr) (n cp s : Nat) (w : World) (hn : n ≤ 10000) (hs : s ≤ 100000) (hs0 : 0 < s) (ho : OwnS w B p n (mkS s)) :
    Calls Tryz.prog 22 #[.agg #[.string c, .string d, .slice p n cp], .int .i64 s] w fun e w' => e = .returned (.int .i64 ((s + 5 * n : Nat) : Int)) ∧ Below w.heap.size w w' := by
  have bA : Below w.heap.size w (w.alloc (.cells #[.string c, .string d, .slice p n cp] 30)) := (Below.refl _ _).alloc (Nat.le_refl _) _
  have ho1 := ho.below bA
  have hr : ¬ (((s + 5 * n : Nat) : Int) < 0) := by omega
  obtain ⟨r, hr'⟩ : ∃ r, s + 5 * n = r := ⟨_, rfl⟩
  have HB : Hid (Below w.heap.size w (w.alloc (.cells #[.string c, .string d, .slice p n cp] 30))) := bA
  clear ho bA
  go_enter Tryz.func22, Tryz.ntmps22
  go_wp2_with fail
  refine (heldSyms B p n cp s _ hn hs hs0 ho1).mono ?_
  rintro e w1 ⟨rfl, hb1⟩
  have hb2 := HB.out.trans (hb1.mono HB.out.size)
  clear hb1 ho1
  rw [hr'] at hr ⊢
  go_wp2_with fail
  go_ret
  exact ⟨by subst hr'; rfl, hb2⟩
end Go.Proofs.YthihlbfmpkjhpaaGreatDoor

namespace Go.Proofs.YthihlbfmpkjhpaaGreatDoor
open Go Go.RowKit
set_option linter.unusedVariables false

/-- One answer: an image of the call's own, and a code. -/
def RdOne (B : Nat) (C D : ByteArray) (n : Nat) (S : Nat → SymD) (x : Int) (w : World) (e : Ending) (w' : World) : Prop :=
  Below B w w' ∧ ∃ q cap, e = .returned (.tuple #[.agg #[.string C, .string D, .slice q n cap], .int .i64 x]) ∧ OwnS w' B q n S
theorem RdAns.one {B : Nat} {t : ByteArray} {b : Bool} {w w' : World} {e : Ending} (h : RdAns B t b w e w') :
    RdOne B (if rdX t b = 0 then rdC t else ByteArray.empty) (if rdX t b = 0 then rdD t else ByteArray.empty) (if rdX t b = 0 then rdN t else 0) (rdS t) (rdX t b) w e w' := by
  obtain ⟨hb, h⟩ := h
  rcases h with ⟨hx, rfl⟩ | ⟨hx, q, cap, rfl, _, ow⟩
  · rw [if_neg hx, if_neg hx, if_neg hx]
    exact ⟨hb, none, 0, rfl, .inl rfl⟩
  · rw [if_pos hx, if_pos hx, if_pos hx, hx]
    exact ⟨hb, q, cap, rfl, ow⟩
theorem readBoth (t : ByteArray) (ht : t.size ≤ 1048576) : ∃ (C D : ByteArray) (n : Nat) (S : Nat → SymD) (x : Int), n ≤ 255 ∧
    (∀ w, Calls Tryz.prog 19 #[.string t] w fun e w' => RdOne w.heap.size C D n S x w e w') ∧
    (∀ w, Laid w → Calls Tryz.prog 20 #[.string t] w fun e w' => RdOne w.heap.size C D n S x w e w') := by
  have key : ∀ b, (∀ w, Calls Tryz.prog 19 #[.string t] w fun e w' => RdAns w.heap.size t b w e w') → (∀ w, Laid w → Calls Tryz.prog 20 #[.string t] w fun e w' => RdAns w.heap.size t b w e w') → _ := fun b hs hi =>
    (⟨_, _, (if rdX t b = 0 then rdN t else 0), _, _, by have := rdN_le t; split <;> omega, fun w => (hs w).mono fun e w' h => h.one, fun w hL => (hi w hL).mono fun e w' h => h.one⟩ : ∃ (C D : ByteArray) (n : Nat) (S : Nat → SymD) (x : Int), n ≤ 255 ∧
    (∀ w, Calls Tryz.prog 19 #[.string t] w fun e w' => RdOne w.heap.size C D n S x w e w') ∧
    (∀ w, Laid w → Calls Tryz.prog 20 #[.string t] w fun e w' => RdOne w.heap.size C D n S x w e w'))
  by_cases h : 65536 < t.size
  · exact key false (fun w => specReadLong t false w (by unfold maxLen; omega) h) (fun w _ => progReadLong t false w (by unfold maxLen; omega) h)
  · have hC := rdC_size t
    have hD := rdD_size t
    have hN := rdN_le t
    obtain ⟨b, hO, hP, _⟩ := okSmall (rdC t) (rdD t) (rdN t) (rdS t) (by omega) (by omega) (by omega) (fun i _ => rdS_wf t i)
    exact key b (fun w => specRead t b w (by omega) hO) (fun w hL => progRead t b w (by omega) hL hP)

theorem markOne (B : Nat) (c d : ByteArray) (p : Option Addr) (n cp r : Nat) (hr : 1 + 5 * n = r) (S : Nat → SymD) (w : World) (hn : n ≤ 255) (hBw : B ≤ w.heap.size) (ho : OwnS w B p n S) :
    Calls Tryz.prog 21 #[.agg #[.string c, .string d, .slice p n cp], .int .i64 1] w fun e w' => e = .returned (.int .i64 (r : Int)) ∧ ButO (qn p n) w w' ∧ OwnS w' B p n (mkS 1) := by
  subst hr
  exact markImg B c d p n cp 1 S w (by omega) (by omega) (by omega) hBw ho
theorem heldOne (B : Nat) (c d : ByteArray) (p : Option Addr) (n cp r : Nat) (hr : 1 + 5 * n = r) (w : World) (hn : n ≤ 255) (ho : OwnS w B p n (mkS 1)) :
    Calls Tryz.prog 22 #[.agg #[.string c, .string d, .slice p n cp], .int .i64 1] w fun e w' => e = .returned (.int .i64 (r : Int)) ∧ Below w.heap.size w w' := by
  subst hr
  exact heldImg B c d p n cp 1 w (by omega) (by omega) (by omega) ho

/-- A list of symbols below U. -/
def SymIn (w : World) (U : Nat) (p : Option Addr) (n : Nat) (S : Nat → SymD) : Prop := n = 0 ∨ ∃ g, p = some ⟨g, 0, none⟩ ∧ g < U ∧ VRow w g 0 (n * 5) (symV S)
theorem OwnS.symIn {w : World} {B : Nat} {p : Option Addr} {n : Nat} {S : Nat → SymD} (h : OwnS w B p n S) : SymIn w w.heap.size p n S := by
  rcases h with h | ⟨g, h1, _, h3, h4⟩
  · exact .inl h
  · exact .inr ⟨g, h1, h3, h4.1⟩
theorem SymIn.below {w w' : World} {U : Nat} {p : Option Addr} {n : Nat} {S : Nat → SymD} (h : SymIn w U p n S) (hb : Below U w w') : SymIn w' U p n S := by
  rcases h with h | ⟨g, h1, h2, h3⟩
  · exact .inl h
  · exact .inr ⟨g, h1, h2, h3.below hb h2⟩
theorem SymIn.syms {w : World} {U : Nat} {p : Option Addr} {n : Nat} {S : Nat → SymD} (h : SymIn w U p n S) (hu : U ≤ w.heap.size) : SymsAt w p n S := by
  rcases h with h | ⟨g, h1, h2, h3⟩
  · exact .inl h
  · exact .inr ⟨g, 0, h1, Nat.lt_of_lt_of_le h2 hu, h3⟩
/-- What stands between the law's calls: the model's image at X, the program's at Y, and their lists. -/
structure RdSt (W0 : World) (X Y U V : Nat) (C D : ByteArray) (q q2 : Option Addr) (n cap cap2 : Nat) (S S2 : Nat → SymD) (w : World) : Prop where
  b : Below W0.heap.size W0 w
  x0 : w.cell? ⟨X, 0, none⟩ = some (.string C)
  x1 : w.cell? ⟨X, 1, none⟩ = some (.string D)
  x2 : w.cell? ⟨X, 2, none⟩ = some (.slice q n cap)
  y0 : w.cell? ⟨Y, 0, none⟩ = some (.string C)
  y1 : w.cell? ⟨Y, 1, none⟩ = some (.string D)
  y2 : w.cell? ⟨Y, 2, none⟩ = some (.slice q2 n cap2)
  sy : SymIn w U q n S
  ow : OwnS w V q2 n S2
  lx : X < w.heap.size
  ly : Y < w.heap.size
  lu : U ≤ w.heap.size
  lv : V ≤ w.heap.size
  l0 : W0.heap.size ≤ V
  xv : X < V
  uv : U ≤ V
  yv : qn q2 n ≠ some ⟨Y, 0, none⟩
theorem RdSt.next {W0 : World} {X Y U V : Nat} {C D : ByteArray} {q q2 : Option Addr} {n cap cap2 : Nat} {S S2 : Nat → SymD} {w w' : World} (h : RdSt W0 X Y U V C D q q2 n cap cap2 S S2 w) (hb : Below w.heap.size w w') : RdSt W0 X Y U V C D q q2 n cap cap2 S S2 w' where
  b := h.b.trans (hb.mono h.b.size)
  x0 := (hb.cell (p := ⟨X, 0, none⟩) h.lx).trans h.x0
  x1 := (hb.cell (p := ⟨X, 1, none⟩) h.lx).trans h.x1
  x2 := (hb.cell (p := ⟨X, 2, none⟩) h.lx).trans h.x2
  y0 := (hb.cell (p := ⟨Y, 0, none⟩) h.ly).trans h.y0
  y1 := (hb.cell (p := ⟨Y, 1, none⟩) h.ly).trans h.y1
  y2 := (hb.cell (p := ⟨Y, 2, none⟩) h.ly).trans h.y2
  sy := h.sy.below (hb.mono h.lu)
  ow := h.ow.below hb
  lx := Nat.lt_of_lt_of_le h.lx hb.size
  ly := Nat.lt_of_lt_of_le h.ly hb.size
  lu := Nat.le_trans h.lu hb.size
  lv := Nat.le_trans h.lv hb.size
  l0 := h.l0
  xv := h.xv
  uv := h.uv
  yv := h.yv
theorem RdSt.mark {W0 : World} {X Y U V : Nat} {C D : ByteArray} {q q2 : Option Addr} {n cap cap2 : Nat} {S S2 S3 : Nat → SymD} {w w' : World} (h : RdSt W0 X Y U V C D q q2 n cap cap2 S S2 w) (hb : ButO (qn q2 n) w w') (ho : OwnS w' V q2 n S3) : RdSt W0 X Y U V C D q q2 n cap cap2 S S3 w' where
  b := h.b.trans (hb.below (fun k hk => h.ow.not_at k (.inl (Nat.lt_of_lt_of_le hk h.l0))) (Nat.le_trans h.l0 h.lv))
  x0 := hb.cell h.x0 (h.ow.not_at X (.inl h.xv))
  x1 := hb.cell h.x1 (h.ow.not_at X (.inl h.xv))
  x2 := hb.cell h.x2 (h.ow.not_at X (.inl h.xv))
  y0 := hb.cell h.y0 h.yv
  y1 := hb.cell h.y1 h.yv
  y2 := hb.cell h.y2 h.yv
  sy := h.sy.below (hb.below (fun k hk => h.ow.not_at k (.inl (Nat.lt_of_lt_of_le hk h.uv))) h.lu)
  ow := ho
  lx := Nat.lt_of_lt_of_le h.lx hb.size
  ly := Nat.lt_of_lt_of_le h.ly hb.size
  lu := Nat.le_trans h.lu hb.size
  lv := Nat.le_trans h.lv hb.size
  l0 := h.l0
  xv := h.xv
  uv := h.uv
  yv := h.yv
theorem RdSt.start {W0 w1 w2 : World} {C D : ByteArray} {q q2 : Option Addr} {n cap cap2 : Nat} {S : Nat → SymD} (hb1 : Below W0.heap.size W0 w1) (ow1 : OwnS w1 W0.heap.size q n S)
    (hb2 : Below (w1.alloc (.cells #[.string C, .string D, .slice q n cap] 30)).heap.size (w1.alloc (.cells #[.string C, .string D, .slice q n cap] 30)) w2) (ow2 : OwnS w2 (w1.alloc (.cells #[.string C, .string D, .slice q n cap] 30)).heap.size q2 n S) :
    RdSt W0 w1.heap.size w2.heap.size w1.heap.size (w1.heap.size + 1) C D q q2 n cap cap2 S S (w2.alloc (.cells #[.string C, .string D, .slice q2 n cap2] 30)) := by
  have bA := grown1' w1 (.cells #[.string C, .string D, .slice q n cap] 30)
  have bZ := grown1' w2 (.cells #[.string C, .string D, .slice q2 n cap2] 30)
  have x0 : (w1.alloc (.cells #[.string C, .string D, .slice q n cap] 30)).cell? ⟨w1.heap.size, 0, none⟩ = some (.string C) := by simp
  have x1 : (w1.alloc (.cells #[.string C, .string D, .slice q n cap] 30)).cell? ⟨w1.heap.size, 1, none⟩ = some (.string D) := by simp
  have x2 : (w1.alloc (.cells #[.string C, .string D, .slice q n cap] 30)).cell? ⟨w1.heap.size, 2, none⟩ = some (.slice q n cap) := by simp
  have hs1 : (w1.alloc (.cells #[.string C, .string D, .slice q n cap] 30)).heap.size = w1.heap.size + 1 := by simp
  have b12 : Below w1.heap.size w1 w2 := bA.trans (hb2.mono (by omega))
  have hs2 := hb2.size
  rw [hs1] at hs2
  have lx1 : w1.heap.size < (w1.alloc (.cells #[.string C, .string D, .slice q n cap] 30)).heap.size := by omega
  have lx2 : w1.heap.size < w2.heap.size := by omega
  have hz : (w2.alloc (.cells #[.string C, .string D, .slice q2 n cap2] 30)).heap.size = w2.heap.size + 1 := by simp
  have h01 := hb1.size
  rw [hs1] at ow2
  exact {
    b := hb1.trans ((b12.trans (bZ.mono (by omega))).mono h01)
    x0 := (bZ.cell (p := ⟨w1.heap.size, 0, none⟩) lx2).trans ((hb2.cell (p := ⟨w1.heap.size, 0, none⟩) lx1).trans x0)
    x1 := (bZ.cell (p := ⟨w1.heap.size, 1, none⟩) lx2).trans ((hb2.cell (p := ⟨w1.heap.size, 1, none⟩) lx1).trans x1)
    x2 := (bZ.cell (p := ⟨w1.heap.size, 2, none⟩) lx2).trans ((hb2.cell (p := ⟨w1.heap.size, 2, none⟩) lx1).trans x2)
    y0 := by simp
    y1 := by simp
    y2 := by simp
    sy := ow1.symIn.below (b12.trans (bZ.mono (by omega)))
    ow := ow2.below bZ
    lx := by omega
    ly := by omega
    lu := by omega
    lv := by omega
    l0 := by omega
    xv := by omega
    uv := by omega
    yv := ow2.not_at _ (.inr (Nat.le_refl _)) }
end Go.Proofs.YthihlbfmpkjhpaaGreatDoor
