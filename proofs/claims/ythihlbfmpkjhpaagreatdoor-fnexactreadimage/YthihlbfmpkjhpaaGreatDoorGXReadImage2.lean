/- ReadImage of the program, of texts that are not too long. The model's reader. The model's opening of a text. ReadImage of the model. -/
import Derived.Test.YthihlbfmpkjhpaaGreatDoorGXReadImage1
import Derived.Test.YthihlbfmpkjhpaaGreatDoorGXImageText1
namespace Go.Proofs.YthihlbfmpkjhpaaGreatDoor
open Go Go.RowKit
set_option linter.unusedVariables false

set_option maxRecDepth 100000 in
set_option maxHeartbeats 8000000 in
theorem progRead (t : ByteArray) (b : Bool) (w : World) (ht : t.size ≤ 65536) (hL : Laid w) (hb : PrOK (rdC t) (rdD t) (rdN t) (rdS t) b) :
    Calls Tryz.prog 20 #[.string t] w fun e w' => RdAns w.heap.size t b w e w' := by
  obtain ⟨a0, a1, hLa⟩ := hL
  obtain ⟨a2, a3, a4, hMo⟩ := hLa.more
  have hti := inT_size t
  have hEp := rdE_le t
  have hX1 : ∀ x, opnX t pim = x → x ≠ 0 → rdX t b = x := fun x h1 h2 => by unfold rdX; rw [if_neg (by omega), h1, if_pos h2]
  have hX2 : opnX t pim = 0 → rdX t b = if (rdE t).bad = true then 22 else if (rdE t).p < (inT t).size then 8 else if b = false then 1 else 0 := fun h1 => by unfold rdX; rw [if_neg (by omega), h1, if_neg (by simp)]
  have bA := grown1' w (.cells #[.string ByteArray.empty, .string ByteArray.empty, .slice none 0 0] 30)
  have lie := Lies.new w #[.string ByteArray.empty, .string ByteArray.empty, .slice none 0 0] 30
  have hL1 := hLa.below bA
  have hM1 := hMo.below bA
  obtain ⟨w0, hv0⟩ : ∃ v, w.alloc (.cells #[.string ByteArray.empty, .string ByteArray.empty, .slice none 0 0] 30) = v := ⟨_, rfl⟩
  obtain ⟨X, hX⟩ : ∃ X, w.heap.size = X := ⟨_, rfl⟩
  rw [hv0] at bA hL1 hM1
  rw [hv0, hX] at lie
  have hXlt : X < w0.heap.size := lie.lt
  have HV0 : Hid (_ = w0) := hv0
  have HXX : Hid (w.heap.size = X) := hX
  have LX0 : Hid (Lies w0 X 30 #[.string ByteArray.empty, .string ByteArray.empty, .slice none 0 0]) := lie
  have B0 : Hid (Below w.heap.size w w0) := bA
  have HL1 : Hid (LaidAt w0 a0 a1) := hL1
  have HM1 : Hid (MoreAt w0 a0 a1 a2 a3 a4) := hM1
  have un := unsealC t pim a0 a1 a2 a3 a4 w0 ht rfl hL1 hM1
  have hemp : ({ data := #[] } : ByteArray) = ByteArray.empty := rfl
  have HX1 : Hid (∀ x, opnX t pim = x → x ≠ 0 → rdX t b = x) := hX1
  have HX2 : Hid (opnX t pim = 0 → rdX t b = if (rdE t).bad = true then 22 else if (rdE t).p < (inT t).size then 8 else if b = false then 1 else 0) := hX2
  have HLw : Hid (LaidAt w a0 a1) := hLa
  have HMw : Hid (MoreAt w a0 a1 a2 a3 a4) := hMo
  have HEP : Hid ((rdE t).p ≤ (inT t).size) := hEp
  have HTI : Hid ((inT t).size ≤ t.size) := hti
  have HBB : Hid (PrOK (rdC t) (rdD t) (rdN t) (rdS t) b) := hb
  clear hX1 hX2 bA lie hL1 hM1 hLa hMo hv0 hX hEp hti hb
  go_enter Tryz.func20, Tryz.ntmps20
  go_wp2_with fail
  try rw [hemp]
  rw [HV0.out]
  try rw [HXX.out]
  refine un.mono ?_
  rintro e w1 ⟨hb1, hcase⟩
  have lx1 := LX0.out.below hb1 hXlt
  have B1 : Hid (Below w.heap.size w w1) := B0.out.trans (hb1.mono B0.out.size)
  have LX1 : Hid (Lies w1 X 30 #[.string ByteArray.empty, .string ByteArray.empty, .slice none 0 0]) := lx1
  have L1 : Hid (LaidAt w1 a0 a1) := HL1.out.below hb1
  have M1 : Hid (MoreAt w1 a0 a1 a2 a3 a4) := HM1.out.below hb1
  have hX1lt : X < w1.heap.size := lx1.lt
  have hs01 : w0.heap.size ≤ w1.heap.size := hb1.size
  clear un hb1 lx1
  have hXX : w.heap.size ≤ X := by rw [HXX.out]; exact Nat.le_refl _
  rcases hcase with ⟨ho, nm, rfl⟩ | ⟨ho, nm, rfl⟩ | ⟨ho, nm, rfl⟩ | ⟨ho, g, hg, rfl, hrd⟩
  · have hx := HX1.out 8 ho (by decide)
    have HX : Hid (rdX t b = 8) := hx
    clear hx HX1 HX2 ho HEP HTI HBB
    go_wp2_with fail
    refine (code_size nm _ a0 a1 L1.out).mono ?_
    rintro e w2 ⟨rfl, hb2⟩
    have lx2 := LX1.out.below hb2 hX1lt
    have f0 := lx2.fro 0
    have f1 := lx2.fro 1
    have f2 := lx2.fro 2
    have c0 := lx2.cell (j := 0) rfl
    have c1 := lx2.cell (j := 1) rfl
    have c2 := lx2.cell (j := 2) rfl
    have LX2 : Hid (Lies w2 X 30 #[.string ByteArray.empty, .string ByteArray.empty, .slice none 0 0]) := lx2
    have B2 : Hid (Below w.heap.size w w2) := B1.out.trans (hb2.mono B1.out.size)
    clear hb2 lx2
    go_wp2_with fail
    try rw [hemp]
    have n1 := ((LX2.out.put 0 (.string ByteArray.empty)).put 1 (.string ByteArray.empty)).put 2 (.slice none 0 0)
    have bb := ((B2.out.setCell (p := ⟨X, 0, none⟩) hXX (.string ByteArray.empty)).setCell (p := ⟨X, 1, none⟩) hXX (.string ByteArray.empty)).setCell (p := ⟨X, 2, none⟩) hXX (.slice none 0 0)
    have hi3 : (Tryz.prog.info? 30).map (·.size) = some (#[Value.string ByteArray.empty, .string ByteArray.empty, .slice none 0 0] : Array Value).size := by kernel_rfl
    refine bodyPost_ret (results_rd2 rfl _ _ _ _ _ _ rfl n1 Tryz.underlying30 rfl hi3) rfl ?_
    unfold RdAns
    rw [HX.out]
    exact ⟨bb, .inl ⟨by decide, rfl⟩⟩
  · have hx := HX1.out 3 ho (by decide)
    have HX : Hid (rdX t b = 3) := hx
    clear hx HX1 HX2 ho HEP HTI HBB
    go_wp2_with fail
    refine (code_form nm _ a0 a1 a2 a3 a4 L1.out M1.out).mono ?_
    rintro e w2 ⟨rfl, hb2⟩
    have lx2 := LX1.out.below hb2 hX1lt
    have f0 := lx2.fro 0
    have f1 := lx2.fro 1
    have f2 := lx2.fro 2
    have c0 := lx2.cell (j := 0) rfl
    have c1 := lx2.cell (j := 1) rfl
    have c2 := lx2.cell (j := 2) rfl
    have LX2 : Hid (Lies w2 X 30 #[.string ByteArray.empty, .string ByteArray.empty, .slice none 0 0]) := lx2
    have B2 : Hid (Below w.heap.size w w2) := B1.out.trans (hb2.mono B1.out.size)
    clear hb2 lx2
    go_wp2_with fail
    try rw [hemp]
    have n1 := ((LX2.out.put 0 (.string ByteArray.empty)).put 1 (.string ByteArray.empty)).put 2 (.slice none 0 0)
    have bb := ((B2.out.setCell (p := ⟨X, 0, none⟩) hXX (.string ByteArray.empty)).setCell (p := ⟨X, 1, none⟩) hXX (.string ByteArray.empty)).setCell (p := ⟨X, 2, none⟩) hXX (.slice none 0 0)
    have hi3 : (Tryz.prog.info? 30).map (·.size) = some (#[Value.string ByteArray.empty, .string ByteArray.empty, .slice none 0 0] : Array Value).size := by kernel_rfl
    refine bodyPost_ret (results_rd2 rfl _ _ _ _ _ _ rfl n1 Tryz.underlying30 rfl hi3) rfl ?_
    unfold RdAns
    rw [HX.out]
    exact ⟨bb, .inl ⟨by decide, rfl⟩⟩
  · have hx := HX1.out 9 ho (by decide)
    have HX : Hid (rdX t b = 9) := hx
    clear hx HX1 HX2 ho HEP HTI HBB
    go_wp2_with fail
    refine (code_sum nm _ a0 a1 a2 a3 a4 L1.out M1.out).mono ?_
    rintro e w2 ⟨rfl, hb2⟩
    have lx2 := LX1.out.below hb2 hX1lt
    have f0 := lx2.fro 0
    have f1 := lx2.fro 1
    have f2 := lx2.fro 2
    have c0 := lx2.cell (j := 0) rfl
    have c1 := lx2.cell (j := 1) rfl
    have c2 := lx2.cell (j := 2) rfl
    have LX2 : Hid (Lies w2 X 30 #[.string ByteArray.empty, .string ByteArray.empty, .slice none 0 0]) := lx2
    have B2 : Hid (Below w.heap.size w w2) := B1.out.trans (hb2.mono B1.out.size)
    clear hb2 lx2
    go_wp2_with fail
    try rw [hemp]
    have n1 := ((LX2.out.put 0 (.string ByteArray.empty)).put 1 (.string ByteArray.empty)).put 2 (.slice none 0 0)
    have bb := ((B2.out.setCell (p := ⟨X, 0, none⟩) hXX (.string ByteArray.empty)).setCell (p := ⟨X, 1, none⟩) hXX (.string ByteArray.empty)).setCell (p := ⟨X, 2, none⟩) hXX (.slice none 0 0)
    have hi3 : (Tryz.prog.info? 30).map (·.size) = some (#[Value.string ByteArray.empty, .string ByteArray.empty, .slice none 0 0] : Array Value).size := by kernel_rfl
    refine bodyPost_ret (results_rd2 rfl _ _ _ _ _ _ rfl n1 Tryz.underlying30 rfl hi3) rfl ?_
    unfold RdAns
    rw [HX.out]
    exact ⟨bb, .inl ⟨by decide, rfl⟩⟩
  · have hX := HX2.out ho
    have HXC : Hid (rdX t b = if (rdE t).bad = true then 22 else if (rdE t).p < (inT t).size then 8 else if b = false then 1 else 0) := hX
    have hgl : 4 < w0.heap.size := World.block_lt_of_cell? w0 _ HM1.out.e
    have hge : 4 ≠ g := by omega
    have hgX : X ≠ g := by omega
    have im := imgC g (inT t) z0 a4 w1 (by have := HTI.out; omega) (Nat.zero_le _) hrd M1.out.e hge
    unfold ImAns at im
    have hN := rdN_le t
    have hti := HTI.out
    have EP : Hid ((rdE t).p ≤ (inT t).size) := HEP.out
    rw [show z0.ct (inT t) 2 = rdC t from rfl, show (z0.i1 (inT t)).ct (inT t) 2 = rdD t from rfl, show z0.iN (inT t) = rdN t from rfl, show z0.iS (inT t) = rdS t from rfl, show z0.iE (inT t) = rdE t from rfl] at im
    have HPB : Hid (PrOK (rdC t) (rdD t) (rdN t) (rdS t) b) := HBB.out
    obtain ⟨C, hC⟩ : ∃ C, rdC t = C := ⟨_, rfl⟩
    obtain ⟨D, hD⟩ : ∃ C, rdD t = C := ⟨_, rfl⟩
    obtain ⟨N, hNN⟩ : ∃ C, rdN t = C := ⟨_, rfl⟩
    obtain ⟨S, hS⟩ : ∃ C, rdS t = C := ⟨_, rfl⟩
    obtain ⟨rE, hrE⟩ : ∃ C, rdE t = C := ⟨_, rfl⟩
    obtain ⟨I, hI⟩ : ∃ C, inT t = C := ⟨_, rfl⟩
    rw [hC, hD, hNN, hS, hrE, hI] at im
    rw [hNN] at hN
    rw [hI] at hti
    have HPB2 : Hid (PrOK C D N S b) := by rw [← hC, ← hD, ← hNN, ← hS]; exact HPB.out
    have HXC2 : Hid (rdX t b = if rE.bad = true then 22 else if rE.p < I.size then 8 else if b = false then 1 else 0) := by rw [← hrE, ← hI]; exact HXC.out
    have EP2 : Hid (rE.p ≤ I.size) := by rw [← hrE, ← hI]; exact EP.out
    have HC : Hid (rdC t = C) := hC
    have HD : Hid (rdD t = D) := hD
    have HN : Hid (rdN t = N) := hNN
    have HS : Hid (rdS t = S) := hS
    clear hX ho hC hD hNN hS hrE hI HXC EP HPB hrd HEP HTI HBB HX1 HX2
    go_wp2_with fail
    refine im.mono ?_
    rintro e w2 ⟨q, cap, rfl, hcap, own, rd2, ub⟩
    have hgw : w.heap.size ≤ g := by have := B0.out.size; omega
    have B2 : Hid (Below w.heap.size w w2) := B1.out.trans (ub.below hgw B1.out.size)
    have LX2 : Hid (Lies w2 X 30 #[.string ByteArray.empty, .string ByteArray.empty, .slice none 0 0]) := LX1.out.but ub hgX
    have hqX : N = 0 ∨ q ≠ some ⟨X, 0, none⟩ := by
      rcases own with h | ⟨k, h1, h2, _⟩
      · exact .inl h
      · exact .inr (fun e => by rw [h1] at e; simp at e <;> omega)
    have HQ : Hid (N = 0 ∨ q ≠ some ⟨X, 0, none⟩) := hqX
    clear hqX
    have bY := grown1' w2 (.cells #[.string C, .string D, .slice q N cap] 30)
    have lieY := Lies.new w2 #[.string C, .string D, .slice q N cap] 30
    have B3 : Hid (Below w.heap.size w (w2.alloc (.cells #[.string C, .string D, .slice q N cap] 30))) := B2.out.trans (bY.mono B2.out.size)
    have LX3 : Hid (Lies (w2.alloc (.cells #[.string C, .string D, .slice q N cap] 30)) X 30 #[.string ByteArray.empty, .string ByteArray.empty, .slice none 0 0]) := LX2.out.alloc _
    have own3 : Hid (OwnS (w2.alloc (.cells #[.string C, .string D, .slice q N cap] 30)) w.heap.size q N S) := (own.below bY).low B1.out.size
    have en := endC g I rE a1 a4 (w2.alloc (.cells #[.string C, .string D, .slice q N cap] 30)) (by omega) EP2.out (rd2.below bY) (HLw.out.below B3.out).s
    have hlt3 : w2.heap.size < (w2.alloc (.cells #[.string C, .string D, .slice q N cap] 30)).heap.size := lieY.lt
    have LY3 : Hid (Lies (w2.alloc (.cells #[.string C, .string D, .slice q N cap] 30)) w2.heap.size 30 #[.string C, .string D, .slice q N cap]) := lieY
    have hX2 : X < w2.heap.size := LX2.out.lt
    have hXs3 : X < (w2.alloc (.cells #[.string C, .string D, .slice q N cap] 30)).heap.size := by omega
    clear own rd2 ub bY lieY im LX1 L1 M1 LX0 HL1 HM1 LX2
    go_wp2_with fail
    refine en.mono ?_
    rintro e w3 ⟨⟨v, rfl, hv⟩, rfl⟩
    obtain ⟨w3, hw3⟩ : ∃ v, (w2.alloc (.cells #[.string C, .string D, .slice q N cap] 30)) = v := ⟨_, rfl⟩
    obtain ⟨Y, hY⟩ : ∃ Y, w2.heap.size = Y := ⟨_, rfl⟩
    rw [hw3] at B3 LX3 own3 LY3 hlt3 hXs3
    rw [hY] at LY3 hlt3
    have hL3 := HLw.out.below B3.out
    have hM3 := HMw.out.below B3.out
    have L3 : Hid (LaidAt w3 a0 a1) := hL3
    have M3 : Hid (MoreAt w3 a0 a1 a2 a3 a4) := hM3
    clear hL3 hM3 en
    rcases hv with ⟨hbad, nm, rfl⟩ | ⟨hbad, hlt, nm, rfl⟩ | ⟨hbad, hpe, rfl⟩
    · have hx : rdX t b = 22 := by rw [HXC2.out]; rw [if_pos hbad]
      have HX : Hid (rdX t b = 22) := hx
      clear hx HXC2 HPB2 EP2 own3 hbad
      go_wp2_with fail
      try rw [hw3]
      clear hw3 hY
      refine (code_end nm _ a0 a1 a2 a3 a4 L3.out M3.out).mono ?_
      rintro e w4 ⟨rfl, hb4⟩
      have lx4 := LX3.out.below hb4 hXs3
      have f0 := lx4.fro 0
      have f1 := lx4.fro 1
      have f2 := lx4.fro 2
      have c0 := lx4.cell (j := 0) rfl
      have c1 := lx4.cell (j := 1) rfl
      have c2 := lx4.cell (j := 2) rfl
      have LX4 : Hid (Lies w4 X 30 #[.string ByteArray.empty, .string ByteArray.empty, .slice none 0 0]) := lx4
      have B4 : Hid (Below w.heap.size w w4) := B3.out.trans (hb4.mono B3.out.size)
      clear hb4 lx4
      go_wp2_with fail
      try rw [hemp]
      have n1 := ((LX4.out.put 0 (.string ByteArray.empty)).put 1 (.string ByteArray.empty)).put 2 (.slice none 0 0)
      have bb := ((B4.out.setCell (p := ⟨X, 0, none⟩) hXX (.string ByteArray.empty)).setCell (p := ⟨X, 1, none⟩) hXX (.string ByteArray.empty)).setCell (p := ⟨X, 2, none⟩) hXX (.slice none 0 0)
      have hi3 : (Tryz.prog.info? 30).map (·.size) = some (#[Value.string ByteArray.empty, .string ByteArray.empty, .slice none 0 0] : Array Value).size := by kernel_rfl
      refine bodyPost_ret (results_rd2 rfl _ _ _ _ _ _ rfl n1 Tryz.underlying30 rfl hi3) rfl ?_
      unfold RdAns
      rw [HX.out]
      exact ⟨bb, .inl ⟨by decide, rfl⟩⟩
    · have hx : rdX t b = 8 := by rw [HXC2.out]; rw [if_neg (by rw [hbad]; decide), if_pos hlt]
      have HX : Hid (rdX t b = 8) := hx
      clear hx HXC2 HPB2 EP2 own3 hbad
      go_wp2_with fail
      try rw [hw3]
      clear hw3 hY
      refine (code_size nm _ a0 a1 L3.out).mono ?_
      rintro e w4 ⟨rfl, hb4⟩
      have lx4 := LX3.out.below hb4 hXs3
      have f0 := lx4.fro 0
      have f1 := lx4.fro 1
      have f2 := lx4.fro 2
      have c0 := lx4.cell (j := 0) rfl
      have c1 := lx4.cell (j := 1) rfl
      have c2 := lx4.cell (j := 2) rfl
      have LX4 : Hid (Lies w4 X 30 #[.string ByteArray.empty, .string ByteArray.empty, .slice none 0 0]) := lx4
      have B4 : Hid (Below w.heap.size w w4) := B3.out.trans (hb4.mono B3.out.size)
      clear hb4 lx4
      go_wp2_with fail
      try rw [hemp]
      have n1 := ((LX4.out.put 0 (.string ByteArray.empty)).put 1 (.string ByteArray.empty)).put 2 (.slice none 0 0)
      have bb := ((B4.out.setCell (p := ⟨X, 0, none⟩) hXX (.string ByteArray.empty)).setCell (p := ⟨X, 1, none⟩) hXX (.string ByteArray.empty)).setCell (p := ⟨X, 2, none⟩) hXX (.slice none 0 0)
      have hi3 : (Tryz.prog.info? 30).map (·.size) = some (#[Value.string ByteArray.empty, .string ByteArray.empty, .slice none 0 0] : Array Value).size := by kernel_rfl
      refine bodyPost_ret (results_rd2 rfl _ _ _ _ _ _ rfl n1 Tryz.underlying30 rfl hi3) rfl ?_
      unfold RdAns
      rw [HX.out]
      exact ⟨bb, .inl ⟨by decide, rfl⟩⟩
    · have hx : rdX t b = if b = false then 1 else 0 := by rw [HXC2.out]; rw [if_neg (by rw [hbad]; decide), if_neg (by omega)]
      have HX : Hid (rdX t b = if b = false then 1 else 0) := hx
      have ok := HPB2.out q cap w3 hcap ⟨a0, a1, L3.out⟩ own3.out.syms
      have y0 := LY3.out.cell (j := 0) rfl
      have y1 := LY3.out.cell (j := 1) rfl
      have y2 := LY3.out.cell (j := 2) rfl
      clear hx HXC2 HPB2 EP2 hbad hpe
      go_wp2_with fail
      try rw [hw3]
      clear hw3
      refine ok.mono ?_
      rintro e w4 ⟨rfl, hb4⟩
      have lx4 := LX3.out.below hb4 hXs3
      have f0 := lx4.fro 0
      have f1 := lx4.fro 1
      have f2 := lx4.fro 2
      have c0 := lx4.cell (j := 0) rfl
      have c1 := lx4.cell (j := 1) rfl
      have c2 := lx4.cell (j := 2) rfl
      have ly4 := LY3.out.below hb4 hlt3
      have d0 := ly4.cell (j := 0) rfl
      have d1 := ly4.cell (j := 1) rfl
      have d2 := ly4.cell (j := 2) rfl
      have LX4 : Hid (Lies w4 X 30 #[.string ByteArray.empty, .string ByteArray.empty, .slice none 0 0]) := lx4
      have B4 : Hid (Below w.heap.size w w4) := B3.out.trans (hb4.mono B3.out.size)
      have own4 : Hid (OwnS w4 w.heap.size q N S) := own3.out.below hb4
      clear hb4 lx4 ly4 ok y0 y1 y2 LX3 LY3 own3
      cases b
      · go_wp2_with fail
        try rw [hemp]
        have n1 := ((LX4.out.put 0 (.string ByteArray.empty)).put 1 (.string ByteArray.empty)).put 2 (.slice none 0 0)
        have bb := ((B4.out.setCell (p := ⟨X, 0, none⟩) hXX (.string ByteArray.empty)).setCell (p := ⟨X, 1, none⟩) hXX (.string ByteArray.empty)).setCell (p := ⟨X, 2, none⟩) hXX (.slice none 0 0)
        have hi3 : (Tryz.prog.info? 30).map (·.size) = some (#[Value.string ByteArray.empty, .string ByteArray.empty, .slice none 0 0] : Array Value).size := by kernel_rfl
        refine bodyPost_ret (results_rd2 rfl _ _ _ _ _ _ rfl n1 Tryz.underlying30 rfl hi3) rfl ?_
        have ex : rdX t false = 1 := by have := HX.out; simpa using this
        unfold RdAns
        rw [ex]
        exact ⟨bb, .inl ⟨by decide, rfl⟩⟩
      · go_wp2_with fail
        have n1 := ((LX4.out.put 0 (.string C)).put 1 (.string D)).put 2 (.slice q N cap)
        have bb := ((B4.out.setCell (p := ⟨X, 0, none⟩) hXX (.string C)).setCell (p := ⟨X, 1, none⟩) hXX (.string D)).setCell (p := ⟨X, 2, none⟩) hXX (.slice q N cap)
        have hi3 : (Tryz.prog.info? 30).map (·.size) = some (#[Value.string C, .string D, .slice q N cap] : Array Value).size := by kernel_rfl
        refine bodyPost_ret (results_rd2 rfl _ _ _ _ _ _ rfl n1 Tryz.underlying30 rfl hi3) rfl ?_
        have ex : rdX t true = 0 := by have := HX.out; simpa using this
        unfold RdAns
        rw [ex, HC.out, HD.out, HN.out, HS.out]
        refine ⟨bb, .inr ⟨rfl, q, cap, rfl, hcap, ?_⟩⟩
        rcases HQ.out with h | hqX
        · exact .inl h
        · exact ((own4.out.putNew hqX _).putNew hqX _).putNew hqX _
end Go.Proofs.YthihlbfmpkjhpaaGreatDoor

namespace Go.Proofs.YthihlbfmpkjhpaaGreatDoor
open Go Go.RowKit
set_option linter.unusedVariables false

/-- The model's reader at block g of text t stands at r. -/
def MdAt (w : World) (g : Nat) (t : ByteArray) (r : RS) : Prop := Lies w g 78 #[.string t, .int .i64 r.p, .bool r.bad]
theorem MdAt.below {w w' : World} {g : Nat} {t : ByteArray} {r : RS} (h : MdAt w g t r) (hb : Below w.heap.size w w') : MdAt w' g t r := (hb.block g (Lies.lt h)).trans h
def TkM (v : Value) (g : Nat) (t : ByteArray) (r : RS) (w : World) (e : Ending) (w' : World) : Prop := e = .returned v ∧ MdAt w' g t r ∧ But g w w'

set_option maxRecDepth 100000 in
set_option maxHeartbeats 4000000 in
theorem takeM (g : Nat) (t : ByteArray) (r : RS) (n : Nat) (w : World) (ht : t.size ≤ 65536) (hn : n ≤ 70000) (hp : r.p ≤ t.size) (h : MdAt w g t r) :
    Calls Tryz.prog 42 #[.pointer (some ⟨g, 0, none⟩), .int .i64 n] w fun e w' => TkM (.string (r.tk t n)) g t (r.nx t n) w e w' := by
  obtain ⟨p, bad⟩ := r
  unfold MdAt at h
  simp only at h hp
  have m0 := Lies.cell h (j := 0) rfl
  have m1 := Lies.cell h (j := 1) rfl
  have m2 := Lies.cell h (j := 2) rfl
  have f1 := Lies.fro h 1
  have f2 := Lies.fro h 2
  have H : Hid (Lies w g 78 #[.string t, .int .i64 p, .bool bad]) := h
  clear h
  cases bad
  · by_cases h1 : p + n ≤ t.size
    · obtain ⟨e1, e2⟩ := RS.yes (t := t) (r := ⟨p, false⟩) (n := n) rfl h1
      rw [e1, e2]
      simp only
      have q1 : IntKind.i64.wrap ((t.size : Int) - (p : Int)) = (t.size : Int) - p := by rw [IntKind.wrap_i64]; omega
      obtain ⟨e, he⟩ : ∃ e : Nat, p + n = e := ⟨_, rfl⟩
      rw [he]
      have q2 : IntKind.i64.wrap ((p : Int) + (n : Int)) = (e : Int) := by rw [IntKind.wrap_i64]; omega
      have q5 : (p : Int) + (n : Int) = (e : Int) := by omega
      have q3 : IntKind.i64.wrap ((e : Int) - (n : Int)) = (p : Int) := by rw [IntKind.wrap_i64]; omega
      have q4 : (e : Int) - (n : Int) = (p : Int) := by omega
      have d1 : decide ((t.size : Int) - (p : Int) < (n : Int)) = false := by simp; omega
      have b1 : (0 : Int) ≤ (p : Int) := by omega
      have b2 : (p : Int) ≤ (e : Int) := by omega
      have b3 : (e : Int) ≤ (t.size : Int) := by omega
      have HE : Hid (p + n = e) := he
      clear e1 e2 he h1
      go_enter Tryz.func42, Tryz.ntmps42
      go_wp2_with fail
      go_region_held3 (fun w' => w'.cell? ⟨g, 0, none⟩ = some (.string t) ∧ w'.cell? ⟨g, 1, none⟩ = some (.int .i64 p) ∧ w'.cell? ⟨g, 2, none⟩ = some (.bool false)) (go_keep) (fail)
      obtain ⟨v1, hv⟩ : ∃ v, w.drew.setCell ⟨g, 1, none⟩ (.int .i64 e) = v := ⟨_, rfl⟩
      have H1 : Hid (Lies v1 g 78 #[.string t, .int .i64 e, .bool false]) := by rw [← hv]; exact H.out.drew.put 1 _
      have U1 : Hid (But g w v1) := by rw [← hv]; exact (But.of_below ((Below.refl _ _).drew)).trans (But.setCell w.drew _)
      have k0 := H1.out.cell (j := 0) rfl
      have k1 := H1.out.cell (j := 1) rfl
      go_wp2_with fail
      try rw [hv]
      clear hv
      go_region
      all_goals
        go_wp2_with fail
        go_ret
        exact ⟨rfl, H1.out.drew, U1.out.trans (But.of_below ((Below.refl _ _).drew))⟩
    · obtain ⟨e1, e2⟩ := RS.no (t := t) (r := ⟨p, false⟩) (n := n) (.inr (by simp only; omega))
      rw [e1, e2]
      simp only
      have q1 : IntKind.i64.wrap ((t.size : Int) - (p : Int)) = (t.size : Int) - p := by rw [IntKind.wrap_i64]; omega
      have d1 : decide ((t.size : Int) - (p : Int) < (n : Int)) = true := by simp; omega
      clear e1 e2 h1
      go_enter Tryz.func42, Tryz.ntmps42
      go_wp2_with fail
      go_region_held3 (fun w' => w'.cell? ⟨g, 0, none⟩ = some (.string t) ∧ w'.cell? ⟨g, 1, none⟩ = some (.int .i64 p) ∧ w'.cell? ⟨g, 2, none⟩ = some (.bool false)) (go_keep) (fail)
      all_goals
        go_wp2_with fail
        go_ret
        exact ⟨rfl, H.out.drew.put 2 _, (But.of_below ((Below.refl _ _).drew)).trans (But.setCell w.drew _)⟩
  · obtain ⟨e1, e2⟩ := RS.no (t := t) (r := ⟨p, true⟩) (n := n) (.inl rfl)
    rw [e1, e2]
    simp only
    clear e1 e2
    go_enter Tryz.func42, Tryz.ntmps42
    go_wp2_with fail
    go_region
    all_goals
      go_wp2_with fail
      go_ret
      exact ⟨rfl, H.out.drew.put 2 _, (But.of_below ((Below.refl _ _).drew)).trans (But.setCell w.drew _)⟩

theorem nb_takeV {t : ByteArray} {r : RS} {n : Nat} (hn : n ≤ 2) (h : (r.tk t n).size = n) : takeV (r.tk t n) 0 n = (r.nb t n : Int) := by
  have hv := r.nb_lt t n hn
  have e : valF (fun i => bt (r.tk t n) (0 + i)) n = r.nb t n := by
    unfold RS.nb
    rw [h]
    exact valF_congr _ _ n (fun i _ => by rw [Nat.zero_add])
  unfold takeV
  rw [e, IntKind.wrap_i64]
  omega
theorem numM (g : Nat) (t : ByteArray) (r : RS) (n : Nat) (w : World) (ht : t.size ≤ 65536) (hn : n ≤ 2) (hp : r.p ≤ t.size) (h : MdAt w g t r) :
    Calls Tryz.prog 43 #[.pointer (some ⟨g, 0, none⟩), .int .i64 n] w fun e w' => TkM (.int .i64 (r.nb t n)) g t (r.nx t n) w e w' := by
  have tm := takeM g t r n w ht (by omega) hp h
  have hs := r.tk_size t n
  by_cases h1 : r.bad = false ∧ r.p + n ≤ t.size
  · obtain ⟨e1, e2⟩ := RS.yes (t := t) (r := r) (n := n) h1.1 h1.2
    have hsz : (r.tk t n).size = n := by rw [e2, ByteArray.size_extract]; omega
    have tv := nb_takeV hn hsz
    have tk : ∀ w' : World, Calls Tryz.prog 73 #[.string (r.tk t n), .int .i64 0, .int .i64 n] w' fun e w'' => e = .returned (.int .i64 (r.nb t n)) ∧ w'' = w' := fun w' => by
      have := specTake0 (r.tk t n) 0 n w' (by omega) (by omega) (by omega)
      rw [tv] at this
      exact this
    have hb : (r.nx t n).bad = false := by rw [e1]
    obtain ⟨T, hT⟩ : ∃ T, r.tk t n = T := ⟨_, rfl⟩
    obtain ⟨v, hvv⟩ : ∃ v, r.nb t n = v := ⟨_, rfl⟩
    obtain ⟨r', hr'⟩ : ∃ v, r.nx t n = v := ⟨_, rfl⟩
    rw [hT, hvv] at tk
    rw [hT, hr'] at tm
    rw [hr'] at hb ⊢
    rw [hvv]
    have TK : Hid (∀ w' : World, _) := tk
    clear tk hT hvv hr' h tv hsz e1 e2 h1 hs
    go_enter Tryz.func43, Tryz.ntmps43
    go_wp2_with fail
    refine tm.mono ?_
    rintro e w1 ⟨rfl, h1, hb1⟩
    have m2 := Lies.cell h1 (j := 2) rfl
    rw [hb] at m2
    have H1 : Hid (MdAt w1 g t r') := h1
    have B1 : Hid (But g w w1) := hb1
    clear h1 hb1 tm
    go_wp2_with fail
    refine (TK.out _).mono ?_
    rintro e w2 ⟨rfl, rfl⟩
    clear TK
    go_wp2_with fail
    go_ret
    exact ⟨rfl, H1.out, B1.out⟩
  · have h2 : r.bad = true ∨ t.size < r.p + n := by
      cases hb : r.bad
      · rw [hb] at h1; right; simp at h1; exact h1
      · exact .inl rfl
    obtain ⟨e1, e2⟩ := RS.no (t := t) (r := r) (n := n) h2
    have hv : (r.nb t n : Int) = 0 := by unfold RS.nb; rw [e2]; rfl
    have hb : (r.nx t n).bad = true := by rw [e1]
    rw [hv]
    obtain ⟨r', hr'⟩ : ∃ v, r.nx t n = v := ⟨_, rfl⟩
    rw [hr'] at tm hb ⊢
    rw [e2] at tm
    clear hv hr' h e1 e2 h1 h2 hs
    go_enter Tryz.func43, Tryz.ntmps43
    go_wp2_with fail
    refine tm.mono ?_
    rintro e w1 ⟨rfl, h1, hb1⟩
    have m2 := Lies.cell h1 (j := 2) rfl
    rw [hb] at m2
    have H1 : Hid (MdAt w1 g t r') := h1
    have B1 : Hid (But g w w1) := hb1
    clear h1 hb1 tm
    go_wp2_with fail
    go_ret
    exact ⟨rfl, H1.out, B1.out⟩

theorem nameM (g : Nat) (t : ByteArray) (r : RS) (w : World) (ht : t.size ≤ 65536) (hp : r.p ≤ t.size) (h : MdAt w g t r) :
    Calls Tryz.prog 44 #[.pointer (some ⟨g, 0, none⟩)] w fun e w' => TkM (.string (r.ct t 1)) g t (r.cx t 1) w e w' := by
  have hv := r.nb1_lt t
  have nu := numM g t r 1 w ht (by omega) hp h
  have hp1 := RS.le 1 hp
  unfold RS.ct RS.cx
  obtain ⟨r', hr'⟩ : ∃ v, r.nx t 1 = v := ⟨_, rfl⟩
  obtain ⟨v, hvv⟩ : ∃ v, r.nb t 1 = v := ⟨_, rfl⟩
  rw [hr'] at nu hp1 ⊢
  rw [hvv] at nu hv ⊢
  clear h hr' hvv
  go_enter Tryz.func44, Tryz.ntmps44
  go_wp2_with fail
  refine nu.mono ?_
  rintro e w1 ⟨rfl, h1, hb1⟩
  have B1 : Hid (But g w w1) := hb1
  have by1 := takeM g t r' v w1 ht (by omega) hp1 h1
  clear h1 hb1 nu
  go_wp2_with fail
  refine by1.mono ?_
  rintro e w2 ⟨rfl, h2, hb2⟩
  have H2 : Hid (MdAt w2 g t (r'.nx t v)) := h2
  have B2 : Hid (But g w w2) := B1.out.trans hb2
  clear h2 hb2 by1
  go_wp2_with fail
  go_ret
  exact ⟨rfl, H2.out, B2.out⟩
end Go.Proofs.YthihlbfmpkjhpaaGreatDoor

namespace Go.Proofs.YthihlbfmpkjhpaaGreatDoor
open Go Go.RowKit
set_option linter.unusedVariables false

def OpnM (t m : ByteArray) (w : World) (e : Ending) (w' : World) : Prop :=
  ∃ g, w.heap.size ≤ g ∧ e = .returned (.tuple #[.pointer (some ⟨g, 0, none⟩), .int .i64 (opnX t m)]) ∧ Below w.heap.size w w' ∧ (opnX t m = 0 → MdAt w' g (inT t) ⟨0, false⟩)

set_option maxRecDepth 100000 in
set_option maxHeartbeats 4000000 in
theorem openM (t m : ByteArray) (w : World) (ht : t.size ≤ 65536) (hm : m.size = 4) :
    Calls Tryz.prog 41 #[.string t, .string m] w fun e w' => OpnM t m w e w' := by
  have bA := grown1' w (.cells #[.string { data := #[] }, .int .i64 0, .bool false] 78)
  have lie := Lies.new w #[.string { data := #[] }, .int .i64 0, .bool false] 78
  by_cases h8 : t.size < 8
  · have ho : opnX t m = 8 := by unfold opnX; rw [if_pos h8]
    clear lie
    go_enter Tryz.func41, Tryz.ntmps41
    go_wp2_with fail
    go_ret2
    exact ⟨_, Nat.le_refl _, by rw [ho]; rfl, bA, fun h => by rw [ho] at h; cases h⟩
  have h8' : (8 : Int) ≤ (t.size : Int) := by omega
  have h4 : (4 : Int) ≤ (t.size : Int) := by omega
  obtain ⟨b, hb⟩ : ∃ b, ((t.extract 0 4).toList == m.toList) = b := ⟨_, rfl⟩
  cases b
  · have ho : opnX t m = 3 := by unfold opnX; rw [if_neg h8, if_pos hb]
    clear lie h8
    go_enter Tryz.func41, Tryz.ntmps41
    go_wp2_with fail
    go_ret2
    exact ⟨_, Nat.le_refl _, by rw [ho]; rfl, bA, fun h => by rw [ho] at h; cases h⟩
  obtain ⟨e, he⟩ : ∃ e, t.size = e + 4 := ⟨t.size - 4, by omega⟩
  have hez : (t.size : Int) - 4 = (e : Int) := by omega
  have hwz : IntKind.i64.wrap ((t.size : Int) - 4) = (e : Int) := by rw [IntKind.wrap_i64]; omega
  have he0 : (0 : Int) ≤ (e : Int) := by omega
  have he1 : (e : Int) ≤ (t.size : Int) := by omega
  have he4 : (4 : Int) ≤ (e : Int) := by omega
  have hgl := gotS_lt t
  have tk : ∀ w' : World, Calls Tryz.prog 73 #[.string t, .int .i64 e, .int .i64 4] w' fun e w'' => e = .returned (.int .i64 (gotS t)) ∧ w'' = w' := fun w' => by
    have h := specTake0 t e 4 w' ht (by omega) (by omega)
    have hv : takeV t e 4 = (gotS t : Int) := by
      unfold takeV gotS
      rw [show t.size - 4 = e by omega]
      have := valF_lt (fun i => bt t (e + i)) 4
      have h5 : (256 : Nat) ^ 4 = 4294967296 := by decide
      rw [IntKind.wrap_i64]
      omega
    rw [hv] at h
    exact h
  have su : ∀ w' : World, Calls Tryz.prog 65 #[.string (t.extract 0 e)] w' fun e w'' => e = .returned (.int .i64 (dueS t)) ∧ w'' = w' := fun w' => by
    have h := specSum0_any (t.extract 0 e) w' (by rw [ByteArray.size_extract]; omega)
    unfold dueS
    rw [show t.size - 4 = e by omega]
    exact h
  have ein : inT t = t.extract 4 e := by unfold inT; rw [show t.size - 4 = e by omega]
  obtain ⟨q, hq⟩ : ∃ q, gotS t = q := ⟨_, rfl⟩
  obtain ⟨d, hd⟩ : ∃ q, dueS t = q := ⟨_, rfl⟩
  obtain ⟨I, hI⟩ : ∃ q, t.extract 4 e = q := ⟨_, rfl⟩
  have hx : ∀ x, (if (q : Int) ≠ d then (9 : Int) else 0) = x → opnX t m = x := fun x h => by unfold opnX; rw [if_neg h8, hb, if_neg (by decide), hq, hd]; exact h
  rw [hq] at tk hgl
  rw [hd] at su
  rw [hI] at ein
  have TK : Hid (∀ w' : World, _) := tk
  have SU : Hid (∀ w' : World, _) := su
  have HXX : Hid (∀ x, (if (q : Int) ≠ d then (9 : Int) else 0) = x → opnX t m = x) := hx
  have EIN : Hid (inT t = I) := ein
  have hlt := lie.lt
  have f0 := lie.fro 0
  have m0 := lie.cell (j := 0) rfl
  obtain ⟨v0, hv0⟩ : ∃ v, w.alloc (.cells #[.string { data := #[] }, .int .i64 0, .bool false] 78) = v := ⟨_, rfl⟩
  obtain ⟨X, hX⟩ : ∃ X, w.heap.size = X := ⟨_, rfl⟩
  rw [hv0, hX] at lie hlt f0 m0
  rw [hv0] at bA
  have LIE : Hid (Lies v0 X 78 #[.string { data := #[] }, .int .i64 0, .bool false]) := lie
  have BA : Hid (Below w.heap.size w v0) := bA
  have HX : Hid (w.heap.size = X) := hX
  clear tk su hx ein h8 hq hd he lie bA
  by_cases hqd : (q : Int) = d
  · have ho := HXX.out 0 (by rw [if_neg (by simpa using hqd)])
    subst hqd
    clear HXX
    go_enter Tryz.func41, Tryz.ntmps41
    go_wp2_with fail
    try rw [hv0]
    try rw [hX]
    go_region_held3 (fun _ => True) (trivial) (first | (go_at_call 73; refine (TK.out _).mono ?_; rintro e1 w2 ⟨rfl, rfl⟩) | (go_at_call 65; refine (SU.out _).mono ?_; rintro e2 w3 ⟨rfl, rfl⟩))
    all_goals
      clear hX hv0
      have g0 : v0.drew.frozen? ⟨X, 0, none⟩ = false := f0
      go_wp2_with fail
      go_ret2
      refine ⟨X, by rw [HX.out]; exact Nat.le_refl _, by rw [ho]; rfl, (BA.out.drew).setCell (p := ⟨X, 0, none⟩) (by show w.heap.size ≤ X; rw [HX.out]; exact Nat.le_refl _) _, fun _ => ?_⟩
      unfold MdAt
      rw [EIN.out]
      exact LIE.out.drew.put 0 _
  · have ho := HXX.out 9 (by rw [if_pos hqd])
    have hqb : ((q : Int) == d) = false := by simpa using hqd
    clear HXX
    go_enter Tryz.func41, Tryz.ntmps41
    go_wp2_with fail
    try rw [hv0]
    try rw [hX]
    go_region_held3 (fun _ => True) (trivial) (first | (go_at_call 73; refine (TK.out _).mono ?_; rintro e1 w2 ⟨rfl, rfl⟩) | (go_at_call 65; refine (SU.out _).mono ?_; rintro e2 w3 ⟨rfl, rfl⟩))
    all_goals
      clear hX hv0
      go_wp2_with fail
      go_ret2
      exact ⟨X, by rw [HX.out]; exact Nat.le_refl _, by rw [ho]; rfl, BA.out.drew, fun h => by rw [ho] at h; cases h⟩
end Go.Proofs.YthihlbfmpkjhpaaGreatDoor

namespace Go.Proofs.YthihlbfmpkjhpaaGreatDoor
open Go Go.RowKit
set_option linter.unusedVariables false

set_option maxRecDepth 100000 in
set_option maxHeartbeats 4000000 in
theorem specReadLong (t : ByteArray) (b : Bool) (w : World) (ht : t.size ≤ maxLen) (h : 65536 < t.size) :
    Calls Tryz.prog 19 #[.string t] w fun e w' => RdAns w.heap.size t b w e w' := by
  have hx : rdX t b = 2 := by unfold rdX; rw [if_pos h]
  unfold maxLen at ht
  have lie := Lies.new w #[.string ByteArray.empty, .string ByteArray.empty, .slice none 0 0] 30
  have LIE : Hid (Lies (w.alloc (.cells #[.string ByteArray.empty, .string ByteArray.empty, .slice none 0 0] 30)) w.heap.size 30 #[.string ByteArray.empty, .string ByteArray.empty, .slice none 0 0]) := lie
  have bA := grown1' w (.cells #[.string ByteArray.empty, .string ByteArray.empty, .slice none 0 0] 30)
  have HX : Hid (rdX t b = 2) := hx
  have BA : Hid (Below w.heap.size w (w.alloc (.cells #[.string ByteArray.empty, .string ByteArray.empty, .slice none 0 0] 30))) := bA
  clear lie hx bA
  go_enter Tryz.func19, Tryz.ntmps19
  go_wp2_with fail
  have hi3 : (Tryz.prog.info? 30).map (·.size) = some (#[Value.string ByteArray.empty, .string ByteArray.empty, .slice none 0 0] : Array Value).size := by kernel_rfl
  refine bodyPost_ret (results_rd2 rfl _ _ _ _ _ _ rfl LIE.out Tryz.underlying30 rfl hi3) rfl ?_
  unfold RdAns
  rw [HX.out]
  exact ⟨BA.out, .inl ⟨by decide, rfl⟩⟩
end Go.Proofs.YthihlbfmpkjhpaaGreatDoor
