/- The program's writer of objects: a name, a bool, a function, data, a relocation, a declaration, lists of them (gen_objw.py). -/
import Derived.Test.YtdcjddiigipdmaaWrtO
namespace Go.Proofs.Ytdcjddiigipdmaa
open Go Go.RowKit
set_option linter.unusedVariables false

theorem KeepT.drew {b : Nat} {w w' : World} (h : KeepT b w.drew w') : KeepT b w w' := h
theorem below_drew {B : Nat} {w w' : World} (h : Below B w.drew w') (hB : B ≤ w.heap.size) : Below B w w' := ((Below.refl w.heap.size w).drew.mono hB).trans h
theorem Wr.drew {w : World} {B b : Nat} {l : List UInt8} (h : Wr w B b l) : Wr w.drew B b l := h.below (Below.refl _ _).drew
/-- The same contract, told of a world ahead of a draw. -/
theorem numD (B b : Nat) (l : List UInt8) (v : Int) (n : Nat) (w : World) (h : Wr w B b l) (hB : B ≤ w.heap.size) (hl : l.length ≤ 900000) (hn : n ≤ 8) :
    Calls Try.prog 98 #[.pointer (some ⟨b, 0, none⟩), .int .i64 v, .int .i64 n] w.drew fun e w' => WrAns (.tuple #[]) B b (l ++ leN v n) w e w' :=
  (putNum B b l v n w.drew h.drew hB (by omega) hn).mono (fun e w' k => ⟨k.1, k.2.1, below_drew k.2.2.1 hB, KeepT.drew k.2.2.2⟩)
theorem num1D (B b : Nat) (l : List UInt8) (v : Int) (w : World) (h : Wr w B b l) (hB : B ≤ w.heap.size) (hl : l.length ≤ 900000) :
    Calls Try.prog 98 #[.pointer (some ⟨b, 0, none⟩), .int .i64 v, .int .i64 1] w.drew fun e w' => WrAns (.tuple #[]) B b (l ++ leN v 1) w e w' := numD B b l v 1 w h hB hl (by omega)
theorem num4D (B b : Nat) (l : List UInt8) (v : Int) (w : World) (h : Wr w B b l) (hB : B ≤ w.heap.size) (hl : l.length ≤ 900000) :
    Calls Try.prog 98 #[.pointer (some ⟨b, 0, none⟩), .int .i64 v, .int .i64 4] w.drew fun e w' => WrAns (.tuple #[]) B b (l ++ leN v 4) w e w' := numD B b l v 4 w h hB hl (by omega)
theorem cntD (B b : Nat) (l : List UInt8) (t : ByteArray) (w : World) (h : Wr w B b l) (hB : B ≤ w.heap.size) (hl : l.length ≤ 800000) (ht : t.size ≤ 1000) :
    Calls Try.prog 123 #[.pointer (some ⟨b, 0, none⟩), .string t, .int .i64 1] w.drew fun e w' => WrAns (.tuple #[]) B b (l ++ (leN t.size 1 ++ t.data.toList)) w e w' :=
  (putCounted B b l t 1 w.drew h.drew hB (by omega) (by omega) (by omega)).mono (fun e w' k => ⟨k.1, by have := k.2.1; rwa [List.append_assoc] at this, below_drew k.2.2.1 hB, KeepT.drew k.2.2.2⟩)
theorem txtD (B b : Nat) (l : List UInt8) (t : ByteArray) (w : World) (h : Wr w B b l) (hB : B ≤ w.heap.size) (hl : l.length ≤ 800000) (ht : t.size ≤ 1000) :
    Calls Try.prog 51 #[.pointer (some ⟨b, 0, none⟩), .string t] w.drew fun e w' => WrAns (.tuple #[.int .i64 t.size, .nilIface]) B b (l ++ t.data.toList) w e w' :=
  (putText B b l t w.drew h.drew hB (by omega) (by omega)).mono (fun e w' k => ⟨k.1, k.2.1, below_drew k.2.2.1 hB, KeepT.drew k.2.2.2⟩)

set_option maxHeartbeats 2000000 in
theorem putNm (B b : Nat) (l : List UInt8) (t : ByteArray) (w : World) (h : Wr w B b l) (hB : B ≤ w.heap.size) (hl : l.length ≤ 800000) (ht : t.size ≤ 1000) :
    Calls Try.prog 97 #[.pointer (some ⟨b, 0, none⟩), .string t] w fun e w' => WrAns (.tuple #[]) B b (l ++ (leN t.size 1 ++ t.data.toList)) w e w' := by
  have P := (putCounted B b l t 1 w h hB (by omega) (by omega) (by omega))
  have PD := cntD B b l t w h hB hl ht
  have HP : Hid (Calls _ _ _ _ _) := P
  have HPD : Hid (Calls _ _ _ _ _) := PD
  clear P PD
  go_enter Try.func97, Try.ntmps97
  go_wp2_with fail
  first
    | (refine HP.out.mono ?_; rintro e w1 ⟨rfl, hw, hb, hk⟩; have hw2 : Wr w1 B b (l ++ (leN t.size 1 ++ t.data.toList)) := by { have := hw; rwa [List.append_assoc] at this }; have HH : Hid (_ ∧ _ ∧ _) := ⟨hw2, hb, hk⟩; clear hw hw2 hb hk; go_wp2_with fail; go_end0; exact ⟨rfl, HH.out.1, HH.out.2.1, HH.out.2.2⟩)
    | (go_region_held3 (fun w' => True) (trivial) ((go_at_call 123; (with_reducible refine HPD.out.mono ?_); rintro e w1 ⟨rfl, hw, hb, hk⟩; have HH : Hid (_ ∧ _ ∧ _) := ⟨hw, hb, hk⟩; clear hw hb hk)); go_wp2_with fail; go_end0; exact ⟨rfl, HH.out.1, HH.out.2.1, HH.out.2.2⟩)
set_option maxHeartbeats 2000000 in
theorem putFlag (B b : Nat) (l : List UInt8) (t : Bool) (w : World) (h : Wr w B b l) (hB : B ≤ w.heap.size) (hl : l.length ≤ 800000) :
    Calls Try.prog 125 #[.pointer (some ⟨b, 0, none⟩), .bool t] w fun e w' => WrAns (.tuple #[]) B b (l ++ leN (bitI t) 1) w e w' := by
  have P1 := putNum B b l 1 1 w h hB (by omega) (by omega)
  have P0 := putNum B b l 0 1 w h hB (by omega) (by omega)
  have HP1 : Hid (Calls _ _ _ _ _) := P1
  have HP0 : Hid (Calls _ _ _ _ _) := P0
  clear P1 P0
  cases t with
  | true =>
    go_enter Try.func125, Try.ntmps125
    go_wp2_with fail
    refine HP1.out.mono ?_
    rintro e w1 ⟨rfl, hw, hb, hk⟩
    have HH : Hid (Wr w1 B b (l ++ leN (bitI true) 1) ∧ _ ∧ _) := ⟨hw, hb, hk⟩
    clear hw hb hk
    go_wp2_with fail
    go_end0
    exact ⟨rfl, HH.out.1, HH.out.2.1, HH.out.2.2⟩
  | false =>
    go_enter Try.func125, Try.ntmps125
    go_wp2_with fail
    refine HP0.out.mono ?_
    rintro e w1 ⟨rfl, hw, hb, hk⟩
    have HH : Hid (Wr w1 B b (l ++ leN (bitI false) 1) ∧ _ ∧ _) := ⟨hw, hb, hk⟩
    clear hw hb hk
    go_wp2_with fail
    go_end0
    exact ⟨rfl, HH.out.1, HH.out.2.1, HH.out.2.2⟩


set_option maxRecDepth 100000 in
set_option maxHeartbeats 4000000 in
theorem putFnO (B b : Nat) (l : List UInt8) (nm : ByteArray) (rp : Bool) (fr : Int) (cod : ByteArray) (w : World) (h : Wr w B b l) (hB : B ≤ w.heap.size) (hl : l.length ≤ 700000) (hnm : nm.size ≤ 256) (hcod : cod.size ≤ 256) :
    Calls Try.prog 100 #[.pointer (some ⟨b, 0, none⟩), .agg #[.string nm, .bool rp, .int .i64 fr, .string cod]] w fun e w' => WrAns (.tuple #[]) B b (l ++ fnL ⟨nm, rp, fr, cod⟩) w e w' := by
  have hlt := h.lt
  have bX := grown1' w (.cells #[.string nm, .bool rp, .int .i64 fr, .string cod] 85)
  have h1 := h.below bX
  have lie := Lies.new w #[.string nm, .bool rp, .int .i64 fr, .string cod] 85
  go_enter Try.func100, Try.ntmps100
  go_wp2_with fail
  obtain ⟨W0, hW⟩ : ∃ W, (w.alloc (.cells #[.string nm, .bool rp, .int .i64 fr, .string cod] 85)) = W := ⟨_, rfl⟩
  obtain ⟨Y, hY⟩ : ∃ Y, w.heap.size = Y := ⟨_, rfl⟩
  rw [hW] at bX h1 lie ⊢
  have HB0 : Hid (Below B w W0) := bX.mono hB
  have HK0 : Hid (KeepT b w W0) := KeepT.of_below bX
  rw [hY] at lie ⊢
  have hne : Y ≠ b := by omega
  have hs0 : B ≤ W0.heap.size := Nat.le_trans hB bX.size
  have H0 : Hid (Wr W0 B b l) := h1
  have L0 : Hid (Lies W0 Y 85 #[.string nm, .bool rp, .int .i64 fr, .string cod]) := lie
  have nnm := len_toList nm
  have ncod := len_toList cod
  have hqd : ((cod.size : Int)).tdiv 4 = (cod.size : Int) / 4 := Int.tdiv_eq_ediv_of_nonneg (by omega)
  have hqw : IntKind.i64.wrap ((cod.size : Int) / 4) = (cod.size : Int) / 4 := by rw [IntKind.wrap_i64]; omega
  clear h h1 bX hW hY hlt
  have c0 : W0.cell? ⟨Y, 0, none⟩ = some (.string nm) := lie.cell (j := 0) rfl
  have c1 : W0.cell? ⟨Y, 1, none⟩ = some (.bool rp) := lie.cell (j := 1) rfl
  have c2 : W0.cell? ⟨Y, 2, none⟩ = some (.int .i64 fr) := lie.cell (j := 2) rfl
  have c3 : W0.cell? ⟨Y, 3, none⟩ = some (.string cod) := lie.cell (j := 3) rfl
  clear lie
  have P := putNm B b (l) nm W0 H0.out hs0 (by omega) (by omega)
  have HP : Hid (Calls _ _ _ _ _) := P
  clear P
  refine HP.out.mono ?_
  rintro e W1 ⟨rfl, hw, hb, hk⟩
  have lc := L0.out.keep hk hne (by decide)
  have hs1 : B ≤ W1.heap.size := Nat.le_trans hs0 hb.size
  have H1 : Hid (Wr W1 B b (l ++ (leN nm.size 1 ++ nm.data.toList))) := hw
  have HB1 : Hid (Below B w W1) := HB0.out.trans hb
  have HK1 : Hid (KeepT b w W1) := HK0.out.trans hk
  have L1 : Hid (Lies W1 Y 85 #[.string nm, .bool rp, .int .i64 fr, .string cod]) := lc
  clear hw hb hk HP H0 HB0 HK0 L0 c0 c1 c2 c3
  have c0 : W1.cell? ⟨Y, 0, none⟩ = some (.string nm) := lc.cell (j := 0) rfl
  have c1 : W1.cell? ⟨Y, 1, none⟩ = some (.bool rp) := lc.cell (j := 1) rfl
  have c2 : W1.cell? ⟨Y, 2, none⟩ = some (.int .i64 fr) := lc.cell (j := 2) rfl
  have c3 : W1.cell? ⟨Y, 3, none⟩ = some (.string cod) := lc.cell (j := 3) rfl
  clear lc
  go_wp2_with fail
  have P := putFlag B b (l ++ (leN nm.size 1 ++ nm.data.toList)) rp W1 H1.out hs1 (by simp only [List.length_append, leN_len]; omega)
  have HP : Hid (Calls _ _ _ _ _) := P
  clear P
  refine HP.out.mono ?_
  rintro e W2 ⟨rfl, hw, hb, hk⟩
  have lc := L1.out.keep hk hne (by decide)
  have hs2 : B ≤ W2.heap.size := Nat.le_trans hs1 hb.size
  have H2 : Hid (Wr W2 B b (l ++ (leN nm.size 1 ++ nm.data.toList) ++ leN (bitI rp) 1)) := hw
  have HB2 : Hid (Below B w W2) := HB1.out.trans hb
  have HK2 : Hid (KeepT b w W2) := HK1.out.trans hk
  have L2 : Hid (Lies W2 Y 85 #[.string nm, .bool rp, .int .i64 fr, .string cod]) := lc
  clear hw hb hk HP H1 HB1 HK1 L1 c0 c1 c2 c3
  have c0 : W2.cell? ⟨Y, 0, none⟩ = some (.string nm) := lc.cell (j := 0) rfl
  have c1 : W2.cell? ⟨Y, 1, none⟩ = some (.bool rp) := lc.cell (j := 1) rfl
  have c2 : W2.cell? ⟨Y, 2, none⟩ = some (.int .i64 fr) := lc.cell (j := 2) rfl
  have c3 : W2.cell? ⟨Y, 3, none⟩ = some (.string cod) := lc.cell (j := 3) rfl
  clear lc
  go_wp2_with fail
  have P := num1D B b (l ++ (leN nm.size 1 ++ nm.data.toList) ++ leN (bitI rp) 1) (fr) W2 H2.out hs2 (by simp only [List.length_append, leN_len]; omega)
  have HP : Hid (Calls _ _ _ _ _) := P
  clear P
  go_region_held3 (fun w' => w'.cell? ⟨Y, 0, none⟩ = some (.string nm) ∧ w'.cell? ⟨Y, 1, none⟩ = some (.bool rp) ∧ w'.cell? ⟨Y, 2, none⟩ = some (.int .i64 fr) ∧ w'.cell? ⟨Y, 3, none⟩ = some (.string cod)) (go_keep) ((go_at_call 98; (with_reducible refine HP.out.mono ?_); rintro e W3 ⟨rfl, hw, hb, hk⟩; have lc := L2.out.keep hk hne (by decide); have d0 : World.cell? _ ⟨Y, 0, none⟩ = some (.string nm) := lc.cell (j := 0) rfl; have d1 : World.cell? _ ⟨Y, 1, none⟩ = some (.bool rp) := lc.cell (j := 1) rfl; have d2 : World.cell? _ ⟨Y, 2, none⟩ = some (.int .i64 fr) := lc.cell (j := 2) rfl; have d3 : World.cell? _ ⟨Y, 3, none⟩ = some (.string cod) := lc.cell (j := 3) rfl))
  have hs3 : B ≤ W3.heap.size := Nat.le_trans hs2 hb.size
  have H3 : Hid (Wr W3 B b (l ++ (leN nm.size 1 ++ nm.data.toList) ++ leN (bitI rp) 1 ++ leN (fr) 1)) := hw
  have HB3 : Hid (Below B w W3) := HB2.out.trans hb
  have HK3 : Hid (KeepT b w W3) := HK2.out.trans hk
  have L3 : Hid (Lies W3 Y 85 #[.string nm, .bool rp, .int .i64 fr, .string cod]) := lc
  clear hw hb hk HP H2 HB2 HK2 L2 c0 c1 c2 c3 d0 d1 d2 d3
  have c0 : W3.cell? ⟨Y, 0, none⟩ = some (.string nm) := lc.cell (j := 0) rfl
  have c1 : W3.cell? ⟨Y, 1, none⟩ = some (.bool rp) := lc.cell (j := 1) rfl
  have c2 : W3.cell? ⟨Y, 2, none⟩ = some (.int .i64 fr) := lc.cell (j := 2) rfl
  have c3 : W3.cell? ⟨Y, 3, none⟩ = some (.string cod) := lc.cell (j := 3) rfl
  clear lc
  go_wp2_with fail
  have P := num1D B b (l ++ (leN nm.size 1 ++ nm.data.toList) ++ leN (bitI rp) 1 ++ leN (fr) 1) (((cod.size : Int) / 4)) W3 H3.out hs3 (by simp only [List.length_append, leN_len]; omega)
  have HP : Hid (Calls _ _ _ _ _) := P
  clear P
  go_region_held3 (fun w' => w'.cell? ⟨Y, 0, none⟩ = some (.string nm) ∧ w'.cell? ⟨Y, 1, none⟩ = some (.bool rp) ∧ w'.cell? ⟨Y, 2, none⟩ = some (.int .i64 fr) ∧ w'.cell? ⟨Y, 3, none⟩ = some (.string cod)) (go_keep) ((go_at_call 98; (with_reducible refine HP.out.mono ?_); rintro e W4 ⟨rfl, hw, hb, hk⟩; have lc := L3.out.keep hk hne (by decide); have d0 : World.cell? _ ⟨Y, 0, none⟩ = some (.string nm) := lc.cell (j := 0) rfl; have d1 : World.cell? _ ⟨Y, 1, none⟩ = some (.bool rp) := lc.cell (j := 1) rfl; have d2 : World.cell? _ ⟨Y, 2, none⟩ = some (.int .i64 fr) := lc.cell (j := 2) rfl; have d3 : World.cell? _ ⟨Y, 3, none⟩ = some (.string cod) := lc.cell (j := 3) rfl))
  have hs4 : B ≤ W4.heap.size := Nat.le_trans hs3 hb.size
  have H4 : Hid (Wr W4 B b (l ++ (leN nm.size 1 ++ nm.data.toList) ++ leN (bitI rp) 1 ++ leN (fr) 1 ++ leN (((cod.size : Int) / 4)) 1)) := hw
  have HB4 : Hid (Below B w W4) := HB3.out.trans hb
  have HK4 : Hid (KeepT b w W4) := HK3.out.trans hk
  have L4 : Hid (Lies W4 Y 85 #[.string nm, .bool rp, .int .i64 fr, .string cod]) := lc
  clear hw hb hk HP H3 HB3 HK3 L3 c0 c1 c2 c3 d0 d1 d2 d3
  have c0 : W4.cell? ⟨Y, 0, none⟩ = some (.string nm) := lc.cell (j := 0) rfl
  have c1 : W4.cell? ⟨Y, 1, none⟩ = some (.bool rp) := lc.cell (j := 1) rfl
  have c2 : W4.cell? ⟨Y, 2, none⟩ = some (.int .i64 fr) := lc.cell (j := 2) rfl
  have c3 : W4.cell? ⟨Y, 3, none⟩ = some (.string cod) := lc.cell (j := 3) rfl
  clear lc
  go_wp2_with fail
  have P := txtD B b (l ++ (leN nm.size 1 ++ nm.data.toList) ++ leN (bitI rp) 1 ++ leN (fr) 1 ++ leN (((cod.size : Int) / 4)) 1) cod W4 H4.out hs4 (by simp only [List.length_append, leN_len]; omega) (by omega)
  have HP : Hid (Calls _ _ _ _ _) := P
  clear P
  go_region_held3 (fun w' => w'.cell? ⟨Y, 0, none⟩ = some (.string nm) ∧ w'.cell? ⟨Y, 1, none⟩ = some (.bool rp) ∧ w'.cell? ⟨Y, 2, none⟩ = some (.int .i64 fr) ∧ w'.cell? ⟨Y, 3, none⟩ = some (.string cod)) (go_keep) ((go_at_call 51; (with_reducible refine HP.out.mono ?_); rintro e W5 ⟨rfl, hw, hb, hk⟩; have lc := L4.out.keep hk hne (by decide); have d0 : World.cell? _ ⟨Y, 0, none⟩ = some (.string nm) := lc.cell (j := 0) rfl; have d1 : World.cell? _ ⟨Y, 1, none⟩ = some (.bool rp) := lc.cell (j := 1) rfl; have d2 : World.cell? _ ⟨Y, 2, none⟩ = some (.int .i64 fr) := lc.cell (j := 2) rfl; have d3 : World.cell? _ ⟨Y, 3, none⟩ = some (.string cod) := lc.cell (j := 3) rfl))
  have hs5 : B ≤ W5.heap.size := Nat.le_trans hs4 hb.size
  have H5 : Hid (Wr W5 B b (l ++ (leN nm.size 1 ++ nm.data.toList) ++ leN (bitI rp) 1 ++ leN (fr) 1 ++ leN (((cod.size : Int) / 4)) 1 ++ cod.data.toList)) := hw
  have HB5 : Hid (Below B w W5) := HB4.out.trans hb
  have HK5 : Hid (KeepT b w W5) := HK4.out.trans hk
  have L5 : Hid (Lies W5 Y 85 #[.string nm, .bool rp, .int .i64 fr, .string cod]) := lc
  clear hw hb hk HP H4 HB4 HK4 L4 c0 c1 c2 c3 d0 d1 d2 d3
  have c0 : W5.cell? ⟨Y, 0, none⟩ = some (.string nm) := lc.cell (j := 0) rfl
  have c1 : W5.cell? ⟨Y, 1, none⟩ = some (.bool rp) := lc.cell (j := 1) rfl
  have c2 : W5.cell? ⟨Y, 2, none⟩ = some (.int .i64 fr) := lc.cell (j := 2) rfl
  have c3 : W5.cell? ⟨Y, 3, none⟩ = some (.string cod) := lc.cell (j := 3) rfl
  clear lc
  go_wp2_with fail
  go_end0
  have e9 : l ++ (leN nm.size 1 ++ nm.data.toList) ++ leN (bitI rp) 1 ++ leN (fr) 1 ++ leN (((cod.size : Int) / 4)) 1 ++ cod.data.toList = l ++ fnL ⟨nm, rp, fr, cod⟩ := by unfold fnL; simp only [List.append_assoc]
  exact ⟨rfl, by rw [← e9]; exact H5.out, HB5.out, HK5.out⟩

set_option maxRecDepth 100000 in
set_option maxHeartbeats 4000000 in
theorem putDtO (B b : Nat) (l : List UInt8) (nm : ByteArray) (bs : ByteArray) (w : World) (h : Wr w B b l) (hB : B ≤ w.heap.size) (hl : l.length ≤ 700000) (hnm : nm.size ≤ 256) (hbs : bs.size ≤ 256) :
    Calls Try.prog 102 #[.pointer (some ⟨b, 0, none⟩), .agg #[.string nm, .string bs]] w fun e w' => WrAns (.tuple #[]) B b (l ++ dtL ⟨nm, bs⟩) w e w' := by
  have hlt := h.lt
  have bX := grown1' w (.cells #[.string nm, .string bs] 87)
  have h1 := h.below bX
  have lie := Lies.new w #[.string nm, .string bs] 87
  go_enter Try.func102, Try.ntmps102
  go_wp2_with fail
  obtain ⟨W0, hW⟩ : ∃ W, (w.alloc (.cells #[.string nm, .string bs] 87)) = W := ⟨_, rfl⟩
  obtain ⟨Y, hY⟩ : ∃ Y, w.heap.size = Y := ⟨_, rfl⟩
  rw [hW] at bX h1 lie ⊢
  have HB0 : Hid (Below B w W0) := bX.mono hB
  have HK0 : Hid (KeepT b w W0) := KeepT.of_below bX
  rw [hY] at lie ⊢
  have hne : Y ≠ b := by omega
  have hs0 : B ≤ W0.heap.size := Nat.le_trans hB bX.size
  have H0 : Hid (Wr W0 B b l) := h1
  have L0 : Hid (Lies W0 Y 87 #[.string nm, .string bs]) := lie
  have nnm := len_toList nm
  have nbs := len_toList bs
  clear h h1 bX hW hY hlt
  have c0 : W0.cell? ⟨Y, 0, none⟩ = some (.string nm) := lie.cell (j := 0) rfl
  have c1 : W0.cell? ⟨Y, 1, none⟩ = some (.string bs) := lie.cell (j := 1) rfl
  clear lie
  have P := putNm B b (l) nm W0 H0.out hs0 (by omega) (by omega)
  have HP : Hid (Calls _ _ _ _ _) := P
  clear P
  refine HP.out.mono ?_
  rintro e W1 ⟨rfl, hw, hb, hk⟩
  have lc := L0.out.keep hk hne (by decide)
  have hs1 : B ≤ W1.heap.size := Nat.le_trans hs0 hb.size
  have H1 : Hid (Wr W1 B b (l ++ (leN nm.size 1 ++ nm.data.toList))) := hw
  have HB1 : Hid (Below B w W1) := HB0.out.trans hb
  have HK1 : Hid (KeepT b w W1) := HK0.out.trans hk
  have L1 : Hid (Lies W1 Y 87 #[.string nm, .string bs]) := lc
  clear hw hb hk HP H0 HB0 HK0 L0 c0 c1
  have c0 : W1.cell? ⟨Y, 0, none⟩ = some (.string nm) := lc.cell (j := 0) rfl
  have c1 : W1.cell? ⟨Y, 1, none⟩ = some (.string bs) := lc.cell (j := 1) rfl
  clear lc
  go_wp2_with fail
  have P := cntD B b (l ++ (leN nm.size 1 ++ nm.data.toList)) bs W1 H1.out hs1 (by simp only [List.length_append, leN_len]; omega) (by omega)
  have HP : Hid (Calls _ _ _ _ _) := P
  clear P
  go_region_held3 (fun w' => w'.cell? ⟨Y, 0, none⟩ = some (.string nm) ∧ w'.cell? ⟨Y, 1, none⟩ = some (.string bs)) (go_keep) ((go_at_call 123; (with_reducible refine HP.out.mono ?_); rintro e W2 ⟨rfl, hw, hb, hk⟩; have lc := L1.out.keep hk hne (by decide); have d0 : World.cell? _ ⟨Y, 0, none⟩ = some (.string nm) := lc.cell (j := 0) rfl; have d1 : World.cell? _ ⟨Y, 1, none⟩ = some (.string bs) := lc.cell (j := 1) rfl))
  have hs2 : B ≤ W2.heap.size := Nat.le_trans hs1 hb.size
  have H2 : Hid (Wr W2 B b (l ++ (leN nm.size 1 ++ nm.data.toList) ++ (leN bs.size 1 ++ bs.data.toList))) := hw
  have HB2 : Hid (Below B w W2) := HB1.out.trans hb
  have HK2 : Hid (KeepT b w W2) := HK1.out.trans hk
  have L2 : Hid (Lies W2 Y 87 #[.string nm, .string bs]) := lc
  clear hw hb hk HP H1 HB1 HK1 L1 c0 c1 d0 d1
  have c0 : W2.cell? ⟨Y, 0, none⟩ = some (.string nm) := lc.cell (j := 0) rfl
  have c1 : W2.cell? ⟨Y, 1, none⟩ = some (.string bs) := lc.cell (j := 1) rfl
  clear lc
  go_wp2_with fail
  go_end0
  have e9 : l ++ (leN nm.size 1 ++ nm.data.toList) ++ (leN bs.size 1 ++ bs.data.toList) = l ++ dtL ⟨nm, bs⟩ := by unfold dtL; simp only [List.append_assoc]
  exact ⟨rfl, by rw [← e9]; exact H2.out, HB2.out, HK2.out⟩

set_option maxRecDepth 100000 in
set_option maxHeartbeats 4000000 in
theorem putRlO (B b : Nat) (l : List UInt8) (un : Int) (pl : Int) (kd : Int) (sy : ByteArray) (ad : Int) (w : World) (h : Wr w B b l) (hB : B ≤ w.heap.size) (hl : l.length ≤ 700000) (hsy : sy.size ≤ 256) :
    Calls Try.prog 104 #[.pointer (some ⟨b, 0, none⟩), .agg #[.int .i64 un, .int .i64 pl, .int .i64 kd, .string sy, .int .i64 ad]] w fun e w' => WrAns (.tuple #[]) B b (l ++ rlL ⟨un, pl, kd, sy, ad⟩) w e w' := by
  have hlt := h.lt
  have bX := grown1' w (.cells #[.int .i64 un, .int .i64 pl, .int .i64 kd, .string sy, .int .i64 ad] 96)
  have h1 := h.below bX
  have lie := Lies.new w #[.int .i64 un, .int .i64 pl, .int .i64 kd, .string sy, .int .i64 ad] 96
  go_enter Try.func104, Try.ntmps104
  go_wp2_with fail
  obtain ⟨W0, hW⟩ : ∃ W, (w.alloc (.cells #[.int .i64 un, .int .i64 pl, .int .i64 kd, .string sy, .int .i64 ad] 96)) = W := ⟨_, rfl⟩
  obtain ⟨Y, hY⟩ : ∃ Y, w.heap.size = Y := ⟨_, rfl⟩
  rw [hW] at bX h1 lie ⊢
  have HB0 : Hid (Below B w W0) := bX.mono hB
  have HK0 : Hid (KeepT b w W0) := KeepT.of_below bX
  rw [hY] at lie ⊢
  have hne : Y ≠ b := by omega
  have hs0 : B ≤ W0.heap.size := Nat.le_trans hB bX.size
  have H0 : Hid (Wr W0 B b l) := h1
  have L0 : Hid (Lies W0 Y 96 #[.int .i64 un, .int .i64 pl, .int .i64 kd, .string sy, .int .i64 ad]) := lie
  have nsy := len_toList sy
  clear h h1 bX hW hY hlt
  have c0 : W0.cell? ⟨Y, 0, none⟩ = some (.int .i64 un) := lie.cell (j := 0) rfl
  have c1 : W0.cell? ⟨Y, 1, none⟩ = some (.int .i64 pl) := lie.cell (j := 1) rfl
  have c2 : W0.cell? ⟨Y, 2, none⟩ = some (.int .i64 kd) := lie.cell (j := 2) rfl
  have c3 : W0.cell? ⟨Y, 3, none⟩ = some (.string sy) := lie.cell (j := 3) rfl
  have c4 : W0.cell? ⟨Y, 4, none⟩ = some (.int .i64 ad) := lie.cell (j := 4) rfl
  clear lie
  have P := num1D B b (l) (un) W0 H0.out hs0 (by omega)
  have HP : Hid (Calls _ _ _ _ _) := P
  clear P
  go_region_held3 (fun w' => w'.cell? ⟨Y, 0, none⟩ = some (.int .i64 un) ∧ w'.cell? ⟨Y, 1, none⟩ = some (.int .i64 pl) ∧ w'.cell? ⟨Y, 2, none⟩ = some (.int .i64 kd) ∧ w'.cell? ⟨Y, 3, none⟩ = some (.string sy) ∧ w'.cell? ⟨Y, 4, none⟩ = some (.int .i64 ad)) (go_keep) ((go_at_call 98; (with_reducible refine HP.out.mono ?_); rintro e W1 ⟨rfl, hw, hb, hk⟩; have lc := L0.out.keep hk hne (by decide); have d0 : World.cell? _ ⟨Y, 0, none⟩ = some (.int .i64 un) := lc.cell (j := 0) rfl; have d1 : World.cell? _ ⟨Y, 1, none⟩ = some (.int .i64 pl) := lc.cell (j := 1) rfl; have d2 : World.cell? _ ⟨Y, 2, none⟩ = some (.int .i64 kd) := lc.cell (j := 2) rfl; have d3 : World.cell? _ ⟨Y, 3, none⟩ = some (.string sy) := lc.cell (j := 3) rfl; have d4 : World.cell? _ ⟨Y, 4, none⟩ = some (.int .i64 ad) := lc.cell (j := 4) rfl))
  have hs1 : B ≤ W1.heap.size := Nat.le_trans hs0 hb.size
  have H1 : Hid (Wr W1 B b (l ++ leN (un) 1)) := hw
  have HB1 : Hid (Below B w W1) := HB0.out.trans hb
  have HK1 : Hid (KeepT b w W1) := HK0.out.trans hk
  have L1 : Hid (Lies W1 Y 96 #[.int .i64 un, .int .i64 pl, .int .i64 kd, .string sy, .int .i64 ad]) := lc
  clear hw hb hk HP H0 HB0 HK0 L0 c0 c1 c2 c3 c4 d0 d1 d2 d3 d4
  have c0 : W1.cell? ⟨Y, 0, none⟩ = some (.int .i64 un) := lc.cell (j := 0) rfl
  have c1 : W1.cell? ⟨Y, 1, none⟩ = some (.int .i64 pl) := lc.cell (j := 1) rfl
  have c2 : W1.cell? ⟨Y, 2, none⟩ = some (.int .i64 kd) := lc.cell (j := 2) rfl
  have c3 : W1.cell? ⟨Y, 3, none⟩ = some (.string sy) := lc.cell (j := 3) rfl
  have c4 : W1.cell? ⟨Y, 4, none⟩ = some (.int .i64 ad) := lc.cell (j := 4) rfl
  clear lc
  go_wp2_with fail
  have P := num1D B b (l ++ leN (un) 1) (pl) W1 H1.out hs1 (by simp only [List.length_append, leN_len]; omega)
  have HP : Hid (Calls _ _ _ _ _) := P
  clear P
  go_region_held3 (fun w' => w'.cell? ⟨Y, 0, none⟩ = some (.int .i64 un) ∧ w'.cell? ⟨Y, 1, none⟩ = some (.int .i64 pl) ∧ w'.cell? ⟨Y, 2, none⟩ = some (.int .i64 kd) ∧ w'.cell? ⟨Y, 3, none⟩ = some (.string sy) ∧ w'.cell? ⟨Y, 4, none⟩ = some (.int .i64 ad)) (go_keep) ((go_at_call 98; (with_reducible refine HP.out.mono ?_); rintro e W2 ⟨rfl, hw, hb, hk⟩; have lc := L1.out.keep hk hne (by decide); have d0 : World.cell? _ ⟨Y, 0, none⟩ = some (.int .i64 un) := lc.cell (j := 0) rfl; have d1 : World.cell? _ ⟨Y, 1, none⟩ = some (.int .i64 pl) := lc.cell (j := 1) rfl; have d2 : World.cell? _ ⟨Y, 2, none⟩ = some (.int .i64 kd) := lc.cell (j := 2) rfl; have d3 : World.cell? _ ⟨Y, 3, none⟩ = some (.string sy) := lc.cell (j := 3) rfl; have d4 : World.cell? _ ⟨Y, 4, none⟩ = some (.int .i64 ad) := lc.cell (j := 4) rfl))
  have hs2 : B ≤ W2.heap.size := Nat.le_trans hs1 hb.size
  have H2 : Hid (Wr W2 B b (l ++ leN (un) 1 ++ leN (pl) 1)) := hw
  have HB2 : Hid (Below B w W2) := HB1.out.trans hb
  have HK2 : Hid (KeepT b w W2) := HK1.out.trans hk
  have L2 : Hid (Lies W2 Y 96 #[.int .i64 un, .int .i64 pl, .int .i64 kd, .string sy, .int .i64 ad]) := lc
  clear hw hb hk HP H1 HB1 HK1 L1 c0 c1 c2 c3 c4 d0 d1 d2 d3 d4
  have c0 : W2.cell? ⟨Y, 0, none⟩ = some (.int .i64 un) := lc.cell (j := 0) rfl
  have c1 : W2.cell? ⟨Y, 1, none⟩ = some (.int .i64 pl) := lc.cell (j := 1) rfl
  have c2 : W2.cell? ⟨Y, 2, none⟩ = some (.int .i64 kd) := lc.cell (j := 2) rfl
  have c3 : W2.cell? ⟨Y, 3, none⟩ = some (.string sy) := lc.cell (j := 3) rfl
  have c4 : W2.cell? ⟨Y, 4, none⟩ = some (.int .i64 ad) := lc.cell (j := 4) rfl
  clear lc
  go_wp2_with fail
  have P := num1D B b (l ++ leN (un) 1 ++ leN (pl) 1) (kd) W2 H2.out hs2 (by simp only [List.length_append, leN_len]; omega)
  have HP : Hid (Calls _ _ _ _ _) := P
  clear P
  go_region_held3 (fun w' => w'.cell? ⟨Y, 0, none⟩ = some (.int .i64 un) ∧ w'.cell? ⟨Y, 1, none⟩ = some (.int .i64 pl) ∧ w'.cell? ⟨Y, 2, none⟩ = some (.int .i64 kd) ∧ w'.cell? ⟨Y, 3, none⟩ = some (.string sy) ∧ w'.cell? ⟨Y, 4, none⟩ = some (.int .i64 ad)) (go_keep) ((go_at_call 98; (with_reducible refine HP.out.mono ?_); rintro e W3 ⟨rfl, hw, hb, hk⟩; have lc := L2.out.keep hk hne (by decide); have d0 : World.cell? _ ⟨Y, 0, none⟩ = some (.int .i64 un) := lc.cell (j := 0) rfl; have d1 : World.cell? _ ⟨Y, 1, none⟩ = some (.int .i64 pl) := lc.cell (j := 1) rfl; have d2 : World.cell? _ ⟨Y, 2, none⟩ = some (.int .i64 kd) := lc.cell (j := 2) rfl; have d3 : World.cell? _ ⟨Y, 3, none⟩ = some (.string sy) := lc.cell (j := 3) rfl; have d4 : World.cell? _ ⟨Y, 4, none⟩ = some (.int .i64 ad) := lc.cell (j := 4) rfl))
  have hs3 : B ≤ W3.heap.size := Nat.le_trans hs2 hb.size
  have H3 : Hid (Wr W3 B b (l ++ leN (un) 1 ++ leN (pl) 1 ++ leN (kd) 1)) := hw
  have HB3 : Hid (Below B w W3) := HB2.out.trans hb
  have HK3 : Hid (KeepT b w W3) := HK2.out.trans hk
  have L3 : Hid (Lies W3 Y 96 #[.int .i64 un, .int .i64 pl, .int .i64 kd, .string sy, .int .i64 ad]) := lc
  clear hw hb hk HP H2 HB2 HK2 L2 c0 c1 c2 c3 c4 d0 d1 d2 d3 d4
  have c0 : W3.cell? ⟨Y, 0, none⟩ = some (.int .i64 un) := lc.cell (j := 0) rfl
  have c1 : W3.cell? ⟨Y, 1, none⟩ = some (.int .i64 pl) := lc.cell (j := 1) rfl
  have c2 : W3.cell? ⟨Y, 2, none⟩ = some (.int .i64 kd) := lc.cell (j := 2) rfl
  have c3 : W3.cell? ⟨Y, 3, none⟩ = some (.string sy) := lc.cell (j := 3) rfl
  have c4 : W3.cell? ⟨Y, 4, none⟩ = some (.int .i64 ad) := lc.cell (j := 4) rfl
  clear lc
  go_wp2_with fail
  have P := putNm B b (l ++ leN (un) 1 ++ leN (pl) 1 ++ leN (kd) 1) sy W3 H3.out hs3 (by simp only [List.length_append, leN_len]; omega) (by omega)
  have HP : Hid (Calls _ _ _ _ _) := P
  clear P
  refine HP.out.mono ?_
  rintro e W4 ⟨rfl, hw, hb, hk⟩
  have lc := L3.out.keep hk hne (by decide)
  have hs4 : B ≤ W4.heap.size := Nat.le_trans hs3 hb.size
  have H4 : Hid (Wr W4 B b (l ++ leN (un) 1 ++ leN (pl) 1 ++ leN (kd) 1 ++ (leN sy.size 1 ++ sy.data.toList))) := hw
  have HB4 : Hid (Below B w W4) := HB3.out.trans hb
  have HK4 : Hid (KeepT b w W4) := HK3.out.trans hk
  have L4 : Hid (Lies W4 Y 96 #[.int .i64 un, .int .i64 pl, .int .i64 kd, .string sy, .int .i64 ad]) := lc
  clear hw hb hk HP H3 HB3 HK3 L3 c0 c1 c2 c3 c4
  have c0 : W4.cell? ⟨Y, 0, none⟩ = some (.int .i64 un) := lc.cell (j := 0) rfl
  have c1 : W4.cell? ⟨Y, 1, none⟩ = some (.int .i64 pl) := lc.cell (j := 1) rfl
  have c2 : W4.cell? ⟨Y, 2, none⟩ = some (.int .i64 kd) := lc.cell (j := 2) rfl
  have c3 : W4.cell? ⟨Y, 3, none⟩ = some (.string sy) := lc.cell (j := 3) rfl
  have c4 : W4.cell? ⟨Y, 4, none⟩ = some (.int .i64 ad) := lc.cell (j := 4) rfl
  clear lc
  go_wp2_with fail
  have P := num4D B b (l ++ leN (un) 1 ++ leN (pl) 1 ++ leN (kd) 1 ++ (leN sy.size 1 ++ sy.data.toList)) (ad) W4 H4.out hs4 (by simp only [List.length_append, leN_len]; omega)
  have HP : Hid (Calls _ _ _ _ _) := P
  clear P
  go_region_held3 (fun w' => w'.cell? ⟨Y, 0, none⟩ = some (.int .i64 un) ∧ w'.cell? ⟨Y, 1, none⟩ = some (.int .i64 pl) ∧ w'.cell? ⟨Y, 2, none⟩ = some (.int .i64 kd) ∧ w'.cell? ⟨Y, 3, none⟩ = some (.string sy) ∧ w'.cell? ⟨Y, 4, none⟩ = some (.int .i64 ad)) (go_keep) ((go_at_call 98; (with_reducible refine HP.out.mono ?_); rintro e W5 ⟨rfl, hw, hb, hk⟩; have lc := L4.out.keep hk hne (by decide); have d0 : World.cell? _ ⟨Y, 0, none⟩ = some (.int .i64 un) := lc.cell (j := 0) rfl; have d1 : World.cell? _ ⟨Y, 1, none⟩ = some (.int .i64 pl) := lc.cell (j := 1) rfl; have d2 : World.cell? _ ⟨Y, 2, none⟩ = some (.int .i64 kd) := lc.cell (j := 2) rfl; have d3 : World.cell? _ ⟨Y, 3, none⟩ = some (.string sy) := lc.cell (j := 3) rfl; have d4 : World.cell? _ ⟨Y, 4, none⟩ = some (.int .i64 ad) := lc.cell (j := 4) rfl))
  have hs5 : B ≤ W5.heap.size := Nat.le_trans hs4 hb.size
  have H5 : Hid (Wr W5 B b (l ++ leN (un) 1 ++ leN (pl) 1 ++ leN (kd) 1 ++ (leN sy.size 1 ++ sy.data.toList) ++ leN (ad) 4)) := hw
  have HB5 : Hid (Below B w W5) := HB4.out.trans hb
  have HK5 : Hid (KeepT b w W5) := HK4.out.trans hk
  have L5 : Hid (Lies W5 Y 96 #[.int .i64 un, .int .i64 pl, .int .i64 kd, .string sy, .int .i64 ad]) := lc
  clear hw hb hk HP H4 HB4 HK4 L4 c0 c1 c2 c3 c4 d0 d1 d2 d3 d4
  have c0 : W5.cell? ⟨Y, 0, none⟩ = some (.int .i64 un) := lc.cell (j := 0) rfl
  have c1 : W5.cell? ⟨Y, 1, none⟩ = some (.int .i64 pl) := lc.cell (j := 1) rfl
  have c2 : W5.cell? ⟨Y, 2, none⟩ = some (.int .i64 kd) := lc.cell (j := 2) rfl
  have c3 : W5.cell? ⟨Y, 3, none⟩ = some (.string sy) := lc.cell (j := 3) rfl
  have c4 : W5.cell? ⟨Y, 4, none⟩ = some (.int .i64 ad) := lc.cell (j := 4) rfl
  clear lc
  go_wp2_with fail
  go_end0
  have e9 : l ++ leN (un) 1 ++ leN (pl) 1 ++ leN (kd) 1 ++ (leN sy.size 1 ++ sy.data.toList) ++ leN (ad) 4 = l ++ rlL ⟨un, pl, kd, sy, ad⟩ := by unfold rlL; simp only [List.append_assoc]
  exact ⟨rfl, by rw [← e9]; exact H5.out, HB5.out, HK5.out⟩

set_option maxRecDepth 100000 in
set_option maxHeartbeats 4000000 in
theorem putShO (B b : Nat) (l : List UInt8) (id : Int) (fe : Bool) (w : World) (h : Wr w B b l) (hB : B ≤ w.heap.size) (hl : l.length ≤ 700000)  :
    Calls Try.prog 106 #[.pointer (some ⟨b, 0, none⟩), .agg #[.int .i64 id, .bool fe]] w fun e w' => WrAns (.tuple #[]) B b (l ++ shL ⟨id, fe⟩) w e w' := by
  have hlt := h.lt
  have bX := grown1' w (.cells #[.int .i64 id, .bool fe] 98)
  have h1 := h.below bX
  have lie := Lies.new w #[.int .i64 id, .bool fe] 98
  go_enter Try.func106, Try.ntmps106
  go_wp2_with fail
  obtain ⟨W0, hW⟩ : ∃ W, (w.alloc (.cells #[.int .i64 id, .bool fe] 98)) = W := ⟨_, rfl⟩
  obtain ⟨Y, hY⟩ : ∃ Y, w.heap.size = Y := ⟨_, rfl⟩
  rw [hW] at bX h1 lie ⊢
  have HB0 : Hid (Below B w W0) := bX.mono hB
  have HK0 : Hid (KeepT b w W0) := KeepT.of_below bX
  rw [hY] at lie ⊢
  have hne : Y ≠ b := by omega
  have hs0 : B ≤ W0.heap.size := Nat.le_trans hB bX.size
  have H0 : Hid (Wr W0 B b l) := h1
  have L0 : Hid (Lies W0 Y 98 #[.int .i64 id, .bool fe]) := lie
  clear h h1 bX hW hY hlt
  have c0 : W0.cell? ⟨Y, 0, none⟩ = some (.int .i64 id) := lie.cell (j := 0) rfl
  have c1 : W0.cell? ⟨Y, 1, none⟩ = some (.bool fe) := lie.cell (j := 1) rfl
  clear lie
  have P := num1D B b (l) (id) W0 H0.out hs0 (by omega)
  have HP : Hid (Calls _ _ _ _ _) := P
  clear P
  go_region_held3 (fun w' => w'.cell? ⟨Y, 0, none⟩ = some (.int .i64 id) ∧ w'.cell? ⟨Y, 1, none⟩ = some (.bool fe)) (go_keep) ((go_at_call 98; (with_reducible refine HP.out.mono ?_); rintro e W1 ⟨rfl, hw, hb, hk⟩; have lc := L0.out.keep hk hne (by decide); have d0 : World.cell? _ ⟨Y, 0, none⟩ = some (.int .i64 id) := lc.cell (j := 0) rfl; have d1 : World.cell? _ ⟨Y, 1, none⟩ = some (.bool fe) := lc.cell (j := 1) rfl))
  have hs1 : B ≤ W1.heap.size := Nat.le_trans hs0 hb.size
  have H1 : Hid (Wr W1 B b (l ++ leN (id) 1)) := hw
  have HB1 : Hid (Below B w W1) := HB0.out.trans hb
  have HK1 : Hid (KeepT b w W1) := HK0.out.trans hk
  have L1 : Hid (Lies W1 Y 98 #[.int .i64 id, .bool fe]) := lc
  clear hw hb hk HP H0 HB0 HK0 L0 c0 c1 d0 d1
  have c0 : W1.cell? ⟨Y, 0, none⟩ = some (.int .i64 id) := lc.cell (j := 0) rfl
  have c1 : W1.cell? ⟨Y, 1, none⟩ = some (.bool fe) := lc.cell (j := 1) rfl
  clear lc
  go_wp2_with fail
  have P := putFlag B b (l ++ leN (id) 1) fe W1 H1.out hs1 (by simp only [List.length_append, leN_len]; omega)
  have HP : Hid (Calls _ _ _ _ _) := P
  clear P
  refine HP.out.mono ?_
  rintro e W2 ⟨rfl, hw, hb, hk⟩
  have lc := L1.out.keep hk hne (by decide)
  have hs2 : B ≤ W2.heap.size := Nat.le_trans hs1 hb.size
  have H2 : Hid (Wr W2 B b (l ++ leN (id) 1 ++ leN (bitI fe) 1)) := hw
  have HB2 : Hid (Below B w W2) := HB1.out.trans hb
  have HK2 : Hid (KeepT b w W2) := HK1.out.trans hk
  have L2 : Hid (Lies W2 Y 98 #[.int .i64 id, .bool fe]) := lc
  clear hw hb hk HP H1 HB1 HK1 L1 c0 c1
  have c0 : W2.cell? ⟨Y, 0, none⟩ = some (.int .i64 id) := lc.cell (j := 0) rfl
  have c1 : W2.cell? ⟨Y, 1, none⟩ = some (.bool fe) := lc.cell (j := 1) rfl
  clear lc
  go_wp2_with fail
  go_end0
  have e9 : l ++ leN (id) 1 ++ leN (bitI fe) 1 = l ++ shL ⟨id, fe⟩ := by unfold shL; simp only [List.append_assoc]
  exact ⟨rfl, by rw [← e9]; exact H2.out, HB2.out, HK2.out⟩

set_option maxRecDepth 100000 in
set_option maxHeartbeats 4000000 in
theorem eachF (B b : Nat) (l : List UInt8) (p : Option Addr) (n c : Nat) (S : Nat → FunD) (w : World) (h : Wr w B b l) (hB : B ≤ w.heap.size) (hl : l.length ≤ 100000) (hn : n ≤ 100) (hp : RowsLow w B p n 4 (funV S)) (hz : ∀ i, i < n → (S i).nm.size ≤ 256 ∧ (S i).cd.size ≤ 256) :
    Calls Try.prog 99 #[.pointer (some ⟨b, 0, none⟩), .slice p n c, .func (.func 100) #[.pointer (some ⟨b, 0, none⟩)] #[]] w fun e w' => WrAns (.tuple #[]) B b (l ++ leN n 1 ++ catL (fun i => fnL (S i)) n) w e w' := by
  have HP : Hid (RowsLow w B p n 4 (funV S)) := hp
  have P := putNum B b l n 1 w h hB (by omega) (by omega)
  have HPP : Hid (Calls _ _ _ _ _) := P
  clear P hp h
  go_enter Try.func99, Try.ntmps99
  go_wp2_with fail
  refine HPP.out.mono ?_
  rintro e W1 ⟨rfl, hw, hb, hk⟩
  have H1 : Hid (Wr W1 B b (l ++ leN n 1)) := hw
  have HB1 : Hid (Below B w W1) := hb
  have HK1 : Hid (KeepT b w W1) := hk
  clear hw hb hk HPP
  go_wp2_with fail
  go_loopw [14] (fun i wr => ∃ k : Nat, k ≤ n ∧ i = .int .i64 k ∧ Hid (Wr wr B b (l ++ leN n 1 ++ catL (fun i => fnL (S i)) k)) ∧ Hid (Below B w wr) ∧ Hid (KeepT b w wr)) (fun i _ => n - (intOf i).toNat)
  case atStart => exact ⟨0, Nat.zero_le _, rfl, by rw [show catL (fun i => fnL (S i)) 0 = [] from rfl, List.append_nil]; exact H1, HB1, HK1⟩
  case round =>
    obtain ⟨k, hk, rfl, HW, HB, HK⟩ := hrel
    have hsr : B ≤ wr.heap.size := Nat.le_trans hB HB.out.size
    by_cases hlt : k < n
    · rcases HP.out.below HB.out with hp | ⟨bb, oo, hpf, hbb, hp⟩
      · omega
      obtain ⟨x0, x1, x2, x3⟩ := hp.fun hlt
      have hlen := catL_len (f := fun i => fnL (S i)) (K := 600) (n := n) (fun i hi => by
        show (fnL (S i)).length ≤ _
        rw [fnL_len]; have := hz i hi; omega) k hk
      have hstep : catL (fun i => fnL (S i)) (k + 1) = catL (fun i => fnL (S i)) k ++ fnL (S k) := rfl
      have hcur : (l ++ leN n 1 ++ catL (fun i => fnL (S i)) k).length ≤ 700000 := by simp only [List.length_append, leN_len]; omega
      obtain ⟨z1, z2⟩ := hz k hlt
      obtain ⟨dd, hdd⟩ : ∃ d, S k = d := ⟨_, rfl⟩
      rw [hdd] at hstep x0 x1 x2 x3 z1 z2
      obtain ⟨nm, rp, fr, cod⟩ := dd

      have x0 : wr.cell? ⟨bb, oo + k * 4, none⟩ = some (.string nm) := x0
      have x1 : wr.cell? ⟨bb, oo + k * 4 + 1, none⟩ = some (.bool rp) := x1
      have x2 : wr.cell? ⟨bb, oo + k * 4 + 2, none⟩ = some (.int .i64 fr) := x2
      have x3 : wr.cell? ⟨bb, oo + k * 4 + 3, none⟩ = some (.string cod) := x3
      have z1 : nm.size ≤ 256 := z1
      have z2 : cod.size ≤ 256 := z2
      have hst2 : catL (fun i => fnL (S i)) (k + 1) = catL (fun i => fnL (S i)) k ++ fnL ⟨nm, rp, fr, cod⟩ := hstep
      have HST : Hid (_ = _ ++ fnL ⟨nm, rp, fr, cod⟩) := hst2
      have bY := grown1' wr (.cells #[.string nm, .bool rp, .int .i64 fr, .string cod] 85)
      have HWY : Hid (Wr (wr.alloc (.cells #[.string nm, .bool rp, .int .i64 fr, .string cod] 85)) B b (l ++ leN n 1 ++ catL (fun i => fnL (S i)) k)) := HW.out.below bY
      have HBY : Hid (Below B w (wr.alloc (.cells #[.string nm, .bool rp, .int .i64 fr, .string cod] 85))) := HB.out.trans (bY.mono hsr)
      have HKY : Hid (KeepT b w (wr.alloc (.cells #[.string nm, .bool rp, .int .i64 fr, .string cod] 85))) := HK.out.trans (KeepT.of_below bY)
      have hsY : B ≤ (wr.alloc (.cells #[.string nm, .bool rp, .int .i64 fr, .string cod] 85)).heap.size := Nat.le_trans hsr bY.size
      clear hp bY hstep hst2 hdd hlen
      try rw [hpf] at *
      go_wp2_with fail
      refine (putFnO B b _ nm rp fr cod _ HWY.out hsY hcur z1 z2).mono ?_
      rintro e W5 ⟨rfl, hw, hb, hkk⟩
      have H5 : Hid (Wr W5 B b (l ++ leN n 1 ++ catL (fun i => fnL (S i)) (k + 1))) := by
        show Wr W5 B b _
        rw [HST.out, ← List.append_assoc]; exact hw
      have HB5 : Hid (Below B w W5) := HBY.out.trans hb
      have HK5 : Hid (KeepT b w W5) := HKY.out.trans hkk
      clear hw hb hkk HST HWY HBY HKY x0 x1 x2 x3
      go_wp2_with fail
      go_roundw
      case rel =>
        first
          | exact ⟨k + 1, by omega, by go_num, H5, HB5, HK5⟩
          | ((repeat (refine Exists.intro _ ?_)); exact ⟨⟨k + 1, by omega, by go_num, H5, HB5, HK5⟩, rfl⟩)
      case measure => simp [intOf]; omega
    · obtain rfl : k = n := by omega
      go_wp2_with fail
      go_end0
      exact ⟨rfl, HW.out, HB.out, HK.out⟩

set_option maxRecDepth 100000 in
set_option maxHeartbeats 4000000 in
theorem eachD (B b : Nat) (l : List UInt8) (p : Option Addr) (n c : Nat) (S : Nat → DatD) (w : World) (h : Wr w B b l) (hB : B ≤ w.heap.size) (hl : l.length ≤ 100000) (hn : n ≤ 100) (hp : RowsLow w B p n 2 (datV S)) (hz : ∀ i, i < n → (S i).nm.size ≤ 256 ∧ (S i).bs.size ≤ 256) :
    Calls Try.prog 101 #[.pointer (some ⟨b, 0, none⟩), .slice p n c, .func (.func 102) #[.pointer (some ⟨b, 0, none⟩)] #[]] w fun e w' => WrAns (.tuple #[]) B b (l ++ leN n 1 ++ catL (fun i => dtL (S i)) n) w e w' := by
  have HP : Hid (RowsLow w B p n 2 (datV S)) := hp
  have P := putNum B b l n 1 w h hB (by omega) (by omega)
  have HPP : Hid (Calls _ _ _ _ _) := P
  clear P hp h
  go_enter Try.func101, Try.ntmps101
  go_wp2_with fail
  refine HPP.out.mono ?_
  rintro e W1 ⟨rfl, hw, hb, hk⟩
  have H1 : Hid (Wr W1 B b (l ++ leN n 1)) := hw
  have HB1 : Hid (Below B w W1) := hb
  have HK1 : Hid (KeepT b w W1) := hk
  clear hw hb hk HPP
  go_wp2_with fail
  go_loopw [14] (fun i wr => ∃ k : Nat, k ≤ n ∧ i = .int .i64 k ∧ Hid (Wr wr B b (l ++ leN n 1 ++ catL (fun i => dtL (S i)) k)) ∧ Hid (Below B w wr) ∧ Hid (KeepT b w wr)) (fun i _ => n - (intOf i).toNat)
  case atStart => exact ⟨0, Nat.zero_le _, rfl, by rw [show catL (fun i => dtL (S i)) 0 = [] from rfl, List.append_nil]; exact H1, HB1, HK1⟩
  case round =>
    obtain ⟨k, hk, rfl, HW, HB, HK⟩ := hrel
    have hsr : B ≤ wr.heap.size := Nat.le_trans hB HB.out.size
    by_cases hlt : k < n
    · rcases HP.out.below HB.out with hp | ⟨bb, oo, hpf, hbb, hp⟩
      · omega
      obtain ⟨x0, x1⟩ := hp.dat hlt
      have hlen := catL_len (f := fun i => dtL (S i)) (K := 600) (n := n) (fun i hi => by
        show (dtL (S i)).length ≤ _
        rw [dtL_len]; have := hz i hi; omega) k hk
      have hstep : catL (fun i => dtL (S i)) (k + 1) = catL (fun i => dtL (S i)) k ++ dtL (S k) := rfl
      have hcur : (l ++ leN n 1 ++ catL (fun i => dtL (S i)) k).length ≤ 700000 := by simp only [List.length_append, leN_len]; omega
      obtain ⟨z1, z2⟩ := hz k hlt
      obtain ⟨dd, hdd⟩ : ∃ d, S k = d := ⟨_, rfl⟩
      rw [hdd] at hstep x0 x1 z1 z2
      obtain ⟨nm, bs⟩ := dd

      have x0 : wr.cell? ⟨bb, oo + k * 2, none⟩ = some (.string nm) := x0
      have x1 : wr.cell? ⟨bb, oo + k * 2 + 1, none⟩ = some (.string bs) := x1
      have z1 : nm.size ≤ 256 := z1
      have z2 : bs.size ≤ 256 := z2
      have hst2 : catL (fun i => dtL (S i)) (k + 1) = catL (fun i => dtL (S i)) k ++ dtL ⟨nm, bs⟩ := hstep
      have HST : Hid (_ = _ ++ dtL ⟨nm, bs⟩) := hst2
      have bY := grown1' wr (.cells #[.string nm, .string bs] 87)
      have HWY : Hid (Wr (wr.alloc (.cells #[.string nm, .string bs] 87)) B b (l ++ leN n 1 ++ catL (fun i => dtL (S i)) k)) := HW.out.below bY
      have HBY : Hid (Below B w (wr.alloc (.cells #[.string nm, .string bs] 87))) := HB.out.trans (bY.mono hsr)
      have HKY : Hid (KeepT b w (wr.alloc (.cells #[.string nm, .string bs] 87))) := HK.out.trans (KeepT.of_below bY)
      have hsY : B ≤ (wr.alloc (.cells #[.string nm, .string bs] 87)).heap.size := Nat.le_trans hsr bY.size
      clear hp bY hstep hst2 hdd hlen
      try rw [hpf] at *
      go_wp2_with fail
      refine (putDtO B b _ nm bs _ HWY.out hsY hcur z1 z2).mono ?_
      rintro e W5 ⟨rfl, hw, hb, hkk⟩
      have H5 : Hid (Wr W5 B b (l ++ leN n 1 ++ catL (fun i => dtL (S i)) (k + 1))) := by
        show Wr W5 B b _
        rw [HST.out, ← List.append_assoc]; exact hw
      have HB5 : Hid (Below B w W5) := HBY.out.trans hb
      have HK5 : Hid (KeepT b w W5) := HKY.out.trans hkk
      clear hw hb hkk HST HWY HBY HKY x0 x1
      go_wp2_with fail
      go_roundw
      case rel =>
        first
          | exact ⟨k + 1, by omega, by go_num, H5, HB5, HK5⟩
          | ((repeat (refine Exists.intro _ ?_)); exact ⟨⟨k + 1, by omega, by go_num, H5, HB5, HK5⟩, rfl⟩)
      case measure => simp [intOf]; omega
    · obtain rfl : k = n := by omega
      go_wp2_with fail
      go_end0
      exact ⟨rfl, HW.out, HB.out, HK.out⟩

set_option maxRecDepth 100000 in
set_option maxHeartbeats 4000000 in
theorem eachR (B b : Nat) (l : List UInt8) (p : Option Addr) (n c : Nat) (S : Nat → RelD) (w : World) (h : Wr w B b l) (hB : B ≤ w.heap.size) (hl : l.length ≤ 100000) (hn : n ≤ 100) (hp : RowsLow w B p n 5 (relV S)) (hz : ∀ i, i < n → (S i).sy.size ≤ 256) :
    Calls Try.prog 103 #[.pointer (some ⟨b, 0, none⟩), .slice p n c, .func (.func 104) #[.pointer (some ⟨b, 0, none⟩)] #[]] w fun e w' => WrAns (.tuple #[]) B b (l ++ leN n 1 ++ catL (fun i => rlL (S i)) n) w e w' := by
  have HP : Hid (RowsLow w B p n 5 (relV S)) := hp
  have P := putNum B b l n 1 w h hB (by omega) (by omega)
  have HPP : Hid (Calls _ _ _ _ _) := P
  clear P hp h
  go_enter Try.func103, Try.ntmps103
  go_wp2_with fail
  refine HPP.out.mono ?_
  rintro e W1 ⟨rfl, hw, hb, hk⟩
  have H1 : Hid (Wr W1 B b (l ++ leN n 1)) := hw
  have HB1 : Hid (Below B w W1) := hb
  have HK1 : Hid (KeepT b w W1) := hk
  clear hw hb hk HPP
  go_wp2_with fail
  go_loopw [14] (fun i wr => ∃ k : Nat, k ≤ n ∧ i = .int .i64 k ∧ Hid (Wr wr B b (l ++ leN n 1 ++ catL (fun i => rlL (S i)) k)) ∧ Hid (Below B w wr) ∧ Hid (KeepT b w wr)) (fun i _ => n - (intOf i).toNat)
  case atStart => exact ⟨0, Nat.zero_le _, rfl, by rw [show catL (fun i => rlL (S i)) 0 = [] from rfl, List.append_nil]; exact H1, HB1, HK1⟩
  case round =>
    obtain ⟨k, hk, rfl, HW, HB, HK⟩ := hrel
    have hsr : B ≤ wr.heap.size := Nat.le_trans hB HB.out.size
    by_cases hlt : k < n
    · rcases HP.out.below HB.out with hp | ⟨bb, oo, hpf, hbb, hp⟩
      · omega
      obtain ⟨x0, x1, x2, x3, x4⟩ := hp.rel hlt
      have hlen := catL_len (f := fun i => rlL (S i)) (K := 600) (n := n) (fun i hi => by
        show (rlL (S i)).length ≤ _
        rw [rlL_len]; have := hz i hi; omega) k hk
      have hstep : catL (fun i => rlL (S i)) (k + 1) = catL (fun i => rlL (S i)) k ++ rlL (S k) := rfl
      have hcur : (l ++ leN n 1 ++ catL (fun i => rlL (S i)) k).length ≤ 700000 := by simp only [List.length_append, leN_len]; omega
      have z1 := hz k hlt
      obtain ⟨dd, hdd⟩ : ∃ d, S k = d := ⟨_, rfl⟩
      rw [hdd] at hstep x0 x1 x2 x3 x4 z1
      obtain ⟨un, pl, kd, sy, ad⟩ := dd

      have x0 : wr.cell? ⟨bb, oo + k * 5, none⟩ = some (.int .i64 un) := x0
      have x1 : wr.cell? ⟨bb, oo + k * 5 + 1, none⟩ = some (.int .i64 pl) := x1
      have x2 : wr.cell? ⟨bb, oo + k * 5 + 2, none⟩ = some (.int .i64 kd) := x2
      have x3 : wr.cell? ⟨bb, oo + k * 5 + 3, none⟩ = some (.string sy) := x3
      have x4 : wr.cell? ⟨bb, oo + k * 5 + 4, none⟩ = some (.int .i64 ad) := x4
      have z1 : sy.size ≤ 256 := z1
      have hst2 : catL (fun i => rlL (S i)) (k + 1) = catL (fun i => rlL (S i)) k ++ rlL ⟨un, pl, kd, sy, ad⟩ := hstep
      have HST : Hid (_ = _ ++ rlL ⟨un, pl, kd, sy, ad⟩) := hst2
      have bY := grown1' wr (.cells #[.int .i64 un, .int .i64 pl, .int .i64 kd, .string sy, .int .i64 ad] 96)
      have HWY : Hid (Wr (wr.alloc (.cells #[.int .i64 un, .int .i64 pl, .int .i64 kd, .string sy, .int .i64 ad] 96)) B b (l ++ leN n 1 ++ catL (fun i => rlL (S i)) k)) := HW.out.below bY
      have HBY : Hid (Below B w (wr.alloc (.cells #[.int .i64 un, .int .i64 pl, .int .i64 kd, .string sy, .int .i64 ad] 96))) := HB.out.trans (bY.mono hsr)
      have HKY : Hid (KeepT b w (wr.alloc (.cells #[.int .i64 un, .int .i64 pl, .int .i64 kd, .string sy, .int .i64 ad] 96))) := HK.out.trans (KeepT.of_below bY)
      have hsY : B ≤ (wr.alloc (.cells #[.int .i64 un, .int .i64 pl, .int .i64 kd, .string sy, .int .i64 ad] 96)).heap.size := Nat.le_trans hsr bY.size
      clear hp bY hstep hst2 hdd hlen
      try rw [hpf] at *
      go_wp2_with fail
      refine (putRlO B b _ un pl kd sy ad _ HWY.out hsY hcur z1).mono ?_
      rintro e W5 ⟨rfl, hw, hb, hkk⟩
      have H5 : Hid (Wr W5 B b (l ++ leN n 1 ++ catL (fun i => rlL (S i)) (k + 1))) := by
        show Wr W5 B b _
        rw [HST.out, ← List.append_assoc]; exact hw
      have HB5 : Hid (Below B w W5) := HBY.out.trans hb
      have HK5 : Hid (KeepT b w W5) := HKY.out.trans hkk
      clear hw hb hkk HST HWY HBY HKY x0 x1 x2 x3 x4
      go_wp2_with fail
      go_roundw
      case rel =>
        first
          | exact ⟨k + 1, by omega, by go_num, H5, HB5, HK5⟩
          | ((repeat (refine Exists.intro _ ?_)); exact ⟨⟨k + 1, by omega, by go_num, H5, HB5, HK5⟩, rfl⟩)
      case measure => simp [intOf]; omega
    · obtain rfl : k = n := by omega
      go_wp2_with fail
      go_end0
      exact ⟨rfl, HW.out, HB.out, HK.out⟩

set_option maxRecDepth 100000 in
set_option maxHeartbeats 4000000 in
theorem eachS (B b : Nat) (l : List UInt8) (p : Option Addr) (n c : Nat) (S : Nat → ShaD) (w : World) (h : Wr w B b l) (hB : B ≤ w.heap.size) (hl : l.length ≤ 100000) (hn : n ≤ 100) (hp : RowsLow w B p n 2 (shaV S)) :
    Calls Try.prog 105 #[.pointer (some ⟨b, 0, none⟩), .slice p n c, .func (.func 106) #[.pointer (some ⟨b, 0, none⟩)] #[]] w fun e w' => WrAns (.tuple #[]) B b (l ++ leN n 1 ++ catL (fun i => shL (S i)) n) w e w' := by
  have HP : Hid (RowsLow w B p n 2 (shaV S)) := hp
  have P := putNum B b l n 1 w h hB (by omega) (by omega)
  have HPP : Hid (Calls _ _ _ _ _) := P
  clear P hp h
  go_enter Try.func105, Try.ntmps105
  go_wp2_with fail
  refine HPP.out.mono ?_
  rintro e W1 ⟨rfl, hw, hb, hk⟩
  have H1 : Hid (Wr W1 B b (l ++ leN n 1)) := hw
  have HB1 : Hid (Below B w W1) := hb
  have HK1 : Hid (KeepT b w W1) := hk
  clear hw hb hk HPP
  go_wp2_with fail
  go_loopw [14] (fun i wr => ∃ k : Nat, k ≤ n ∧ i = .int .i64 k ∧ Hid (Wr wr B b (l ++ leN n 1 ++ catL (fun i => shL (S i)) k)) ∧ Hid (Below B w wr) ∧ Hid (KeepT b w wr)) (fun i _ => n - (intOf i).toNat)
  case atStart => exact ⟨0, Nat.zero_le _, rfl, by rw [show catL (fun i => shL (S i)) 0 = [] from rfl, List.append_nil]; exact H1, HB1, HK1⟩
  case round =>
    obtain ⟨k, hk, rfl, HW, HB, HK⟩ := hrel
    have hsr : B ≤ wr.heap.size := Nat.le_trans hB HB.out.size
    by_cases hlt : k < n
    · rcases HP.out.below HB.out with hp | ⟨bb, oo, hpf, hbb, hp⟩
      · omega
      obtain ⟨x0, x1⟩ := hp.sha hlt
      have hlen := catL_len (f := fun i => shL (S i)) (K := 600) (n := n) (fun i hi => by
        show (shL (S i)).length ≤ _
        rw [shL_len]; omega) k hk
      have hstep : catL (fun i => shL (S i)) (k + 1) = catL (fun i => shL (S i)) k ++ shL (S k) := rfl
      have hcur : (l ++ leN n 1 ++ catL (fun i => shL (S i)) k).length ≤ 700000 := by simp only [List.length_append, leN_len]; omega
      obtain ⟨dd, hdd⟩ : ∃ d, S k = d := ⟨_, rfl⟩
      rw [hdd] at hstep x0 x1
      obtain ⟨id, fe⟩ := dd

      have x0 : wr.cell? ⟨bb, oo + k * 2, none⟩ = some (.int .i64 id) := x0
      have x1 : wr.cell? ⟨bb, oo + k * 2 + 1, none⟩ = some (.bool fe) := x1
      have hst2 : catL (fun i => shL (S i)) (k + 1) = catL (fun i => shL (S i)) k ++ shL ⟨id, fe⟩ := hstep
      have HST : Hid (_ = _ ++ shL ⟨id, fe⟩) := hst2
      have bY := grown1' wr (.cells #[.int .i64 id, .bool fe] 98)
      have HWY : Hid (Wr (wr.alloc (.cells #[.int .i64 id, .bool fe] 98)) B b (l ++ leN n 1 ++ catL (fun i => shL (S i)) k)) := HW.out.below bY
      have HBY : Hid (Below B w (wr.alloc (.cells #[.int .i64 id, .bool fe] 98))) := HB.out.trans (bY.mono hsr)
      have HKY : Hid (KeepT b w (wr.alloc (.cells #[.int .i64 id, .bool fe] 98))) := HK.out.trans (KeepT.of_below bY)
      have hsY : B ≤ (wr.alloc (.cells #[.int .i64 id, .bool fe] 98)).heap.size := Nat.le_trans hsr bY.size
      clear hp bY hstep hst2 hdd hlen
      try rw [hpf] at *
      go_wp2_with fail
      refine (putShO B b _ id fe _ HWY.out hsY hcur).mono ?_
      rintro e W5 ⟨rfl, hw, hb, hkk⟩
      have H5 : Hid (Wr W5 B b (l ++ leN n 1 ++ catL (fun i => shL (S i)) (k + 1))) := by
        show Wr W5 B b _
        rw [HST.out, ← List.append_assoc]; exact hw
      have HB5 : Hid (Below B w W5) := HBY.out.trans hb
      have HK5 : Hid (KeepT b w W5) := HKY.out.trans hkk
      clear hw hb hkk HST HWY HBY HKY x0 x1
      go_wp2_with fail
      go_roundw
      case rel =>
        first
          | exact ⟨k + 1, by omega, by go_num, H5, HB5, HK5⟩
          | ((repeat (refine Exists.intro _ ?_)); exact ⟨⟨k + 1, by omega, by go_num, H5, HB5, HK5⟩, rfl⟩)
      case measure => simp [intOf]; omega
    · obtain rfl : k = n := by omega
      go_wp2_with fail
      go_end0
      exact ⟨rfl, HW.out, HB.out, HK.out⟩
end Go.Proofs.Ytdcjddiigipdmaa
