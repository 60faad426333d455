/- The program's text of an object (gen_objtb.py). -/
import Derived.Test.YtdcjddiigipdmaaObjW
namespace Go.Proofs.Ytdcjddiigipdmaa
open Go Go.RowKit
set_option linter.unusedVariables false

structure ObjLow (w : World) (B : Nat) (q : ObjPt) (o : ObjD) : Prop where
  f : RowsLow w B q.pf o.nf 4 (funV o.F)
  d : RowsLow w B q.pd o.nd 2 (datV o.D)
  r : RowsLow w B q.pr o.nr 5 (relV o.R)
  s : RowsLow w B q.ps o.ns 2 (shaV o.S)
theorem ObjLow.below {w w' : World} {B : Nat} {q : ObjPt} {o : ObjD} (h : ObjLow w B q o) (hb : Below B w w') : ObjLow w' B q o := ⟨h.f.below hb, h.d.below hb, h.r.below hb, h.s.below hb⟩
theorem ObjAt.low {w : World} {q : ObjPt} {o : ObjD} (h : ObjAt w q o) : ObjLow w w.heap.size q o := ⟨h.f.low, h.d.low, h.r.low, h.s.low⟩
theorem RowsLow.drew {w : World} {B : Nat} {p : Option Addr} {n m : Nat} {V : Nat → Value} (h : RowsLow w B p n m V) : RowsLow w.drew B p n m V := h

set_option maxRecDepth 100000 in
set_option maxHeartbeats 8000000 in
theorem putObj (B b : Nat) (q : ObjPt) (o : ObjD) (w : World) (h : Wr w B b [80, 79, 66, 49]) (hB : B ≤ w.heap.size) (sm : SmallO o) (hp : ObjLow w B q o) :
    Calls Try.prog 52 #[.pointer (some ⟨b, 0, none⟩), .agg (objC o q)] w fun e w' => WrAns (.tuple #[]) B b (objL o) w e w' := by
  have hlt := h.lt
  have bX := grown1' w (.cells (objC o q) 36)
  have h1 := h.below bX
  have lie := Lies.new w (objC o q) 36
  have q1 := sm.nf
  have q2 := sm.nd
  have q3 := sm.nr
  have q4 := sm.ns
  have q5 := sm.nm
  have SM : Hid (SmallO o) := sm
  have pl := hp.below (bX.mono hB)
  go_enter Try.func52, Try.ntmps52
  go_wp2_with fail
  obtain ⟨W0, hW⟩ : ∃ W, (w.alloc (.cells #[.string o.nm, .int .i64 o.dp, .slice q.pf o.nf q.kf, .slice q.pd o.nd q.kd, .slice q.pr o.nr q.kr, .slice q.ps o.ns q.ks] 36)) = W := ⟨_, rfl⟩
  obtain ⟨Y, hY⟩ : ∃ Y, w.heap.size = Y := ⟨_, rfl⟩
  rw [hW] at bX h1 lie pl ⊢
  have HB0 : Hid (Below B w W0) := bX.mono hB
  have HK0 : Hid (KeepT b w W0) := KeepT.of_below bX
  rw [hY] at lie ⊢
  have hne : Y ≠ b := by omega
  have hs0 : B ≤ W0.heap.size := Nat.le_trans hB bX.size
  have H0 : Hid (Wr W0 B b [80, 79, 66, 49]) := h1
  have L0 : Hid (Lies W0 Y 36 (objC o q)) := lie
  have P0 : Hid (ObjLow W0 B q o) := pl
  clear h h1 bX hW hY hlt sm hp pl
  have c0 := obj0 lie
  have c1 := obj1 lie
  have c2 := obj2 lie
  have c3 := obj3 lie
  have c4 := obj4 lie
  have c5 := obj5 lie
  clear lie
  have P := putNm B b [80, 79, 66, 49] o.nm W0 H0.out hs0 (by simp) (by omega)
  have HP : Hid (Calls _ _ _ _ _) := P
  clear P
  refine HP.out.mono ?_
  rintro e W1 ⟨rfl, hw, hb, hk⟩
  have lc := L0.out.keep hk hne (by decide)
  have hs1 : B ≤ W1.heap.size := Nat.le_trans hs0 hb.size
  have H1 : Hid (Wr W1 B b ([80, 79, 66, 49] ++ (leN o.nm.size 1 ++ o.nm.data.toList))) := hw
  have HB1 : Hid (Below B w W1) := HB0.out.trans hb
  have HK1 : Hid (KeepT b w W1) := HK0.out.trans hk
  have L1 : Hid (Lies W1 Y 36 (objC o q)) := lc
  have P1 : Hid (ObjLow W1 B q o) := P0.out.below hb
  clear hw hb hk HP H0 HB0 HK0 L0 P0 c0 c1 c2 c3 c4 c5
  have c0 := obj0 lc
  have c1 := obj1 lc
  have c2 := obj2 lc
  have c3 := obj3 lc
  have c4 := obj4 lc
  have c5 := obj5 lc
  clear lc
  go_wp2_with fail
  have nl := len_toList o.nm
  have P := num1D B b ([80, 79, 66, 49] ++ (leN o.nm.size 1 ++ o.nm.data.toList)) o.dp W1 H1.out hs1 (by simp only [List.length_append, leN_len, List.length_cons, List.length_nil]; omega)
  have HP : Hid (Calls _ _ _ _ _) := P
  clear P
  go_region_held3 (fun w' => w'.cell? ⟨Y, 0, none⟩ = some (.string o.nm) ∧ w'.cell? ⟨Y, 1, none⟩ = some (.int .i64 o.dp) ∧ w'.cell? ⟨Y, 2, none⟩ = some (.slice q.pf o.nf q.kf) ∧ w'.cell? ⟨Y, 3, none⟩ = some (.slice q.pd o.nd q.kd) ∧ w'.cell? ⟨Y, 4, none⟩ = some (.slice q.pr o.nr q.kr) ∧ w'.cell? ⟨Y, 5, none⟩ = some (.slice q.ps o.ns q.ks)) (go_keep) ((go_at_call 98; (with_reducible refine HP.out.mono ?_); rintro e W2 ⟨rfl, hw, hb, hk⟩; have lc := L1.out.keep hk hne (by decide); have d0 := obj0 lc; have d1 := obj1 lc; have d2 := obj2 lc; have d3 := obj3 lc; have d4 := obj4 lc; have d5 := obj5 lc))
  have hs2 : B ≤ W2.heap.size := Nat.le_trans hs1 hb.size
  have H2 : Hid (Wr W2 B b ([80, 79, 66, 49] ++ (leN o.nm.size 1 ++ o.nm.data.toList) ++ leN o.dp 1)) := hw
  have HB2 : Hid (Below B w W2) := HB1.out.trans hb
  have HK2 : Hid (KeepT b w W2) := HK1.out.trans hk
  have L2 : Hid (Lies W2 Y 36 (objC o q)) := lc
  have P2 : Hid (ObjLow W2 B q o) := P1.out.below hb
  clear hw hb hk HP H1 HB1 HK1 L1 P1 c0 c1 c2 c3 c4 c5 d0 d1 d2 d3 d4 d5
  have c0 := obj0 lc
  have c1 := obj1 lc
  have c2 := obj2 lc
  have c3 := obj3 lc
  have c4 := obj4 lc
  have c5 := obj5 lc
  clear lc
  go_wp2_with fail
  have e3 : hdL o ++ cF o o.nf = [80, 79, 66, 49] ++ (leN o.nm.size 1 ++ o.nm.data.toList) ++ leN o.dp 1 ++ leN o.nf 1 ++ catL (fun i => fnL (o.F i)) o.nf := by unfold hdL cF; simp only [List.append_assoc]
  have P := (eachF B b ([80, 79, 66, 49] ++ (leN o.nm.size 1 ++ o.nm.data.toList) ++ leN o.dp 1) q.pf o.nf q.kf o.F W2.drew H2.out.drew hs2 (by simp only [List.length_append, leN_len, List.length_cons, List.length_nil]; omega) (by omega) P2.out.f.drew (fun i hi => ⟨by have := (SM.out.f i hi).1; omega, by have := (SM.out.f i hi).2; omega⟩)).mono (R' := fun e w' => WrAns (.tuple #[]) B b ([80, 79, 66, 49] ++ (leN o.nm.size 1 ++ o.nm.data.toList) ++ leN o.dp 1 ++ leN o.nf 1 ++ catL (fun i => fnL (o.F i)) o.nf) W2 e w') (fun e w' k => ⟨k.1, k.2.1, below_drew k.2.2.1 hs2, KeepT.drew k.2.2.2⟩)
  have HP : Hid (Calls _ _ _ _ _) := P
  clear P
  go_region_held3 (fun w' => w'.cell? ⟨Y, 0, none⟩ = some (.string o.nm) ∧ w'.cell? ⟨Y, 1, none⟩ = some (.int .i64 o.dp) ∧ w'.cell? ⟨Y, 2, none⟩ = some (.slice q.pf o.nf q.kf) ∧ w'.cell? ⟨Y, 3, none⟩ = some (.slice q.pd o.nd q.kd) ∧ w'.cell? ⟨Y, 4, none⟩ = some (.slice q.pr o.nr q.kr) ∧ w'.cell? ⟨Y, 5, none⟩ = some (.slice q.ps o.ns q.ks)) (go_keep) ((go_at_call 99; (with_reducible refine HP.out.mono ?_); rintro e W3 ⟨rfl, hw, hb, hk⟩; have lc := L2.out.keep hk hne (by decide); have d0 := obj0 lc; have d1 := obj1 lc; have d2 := obj2 lc; have d3 := obj3 lc; have d4 := obj4 lc; have d5 := obj5 lc))
  have hs3 : B ≤ W3.heap.size := Nat.le_trans hs2 hb.size
  have H3 : Hid (Wr W3 B b (hdL o ++ cF o o.nf)) := (by show Wr W3 B b (hdL o ++ cF o o.nf); rw [e3]; exact hw)
  have HB3 : Hid (Below B w W3) := HB2.out.trans hb
  have HK3 : Hid (KeepT b w W3) := HK2.out.trans hk
  have L3 : Hid (Lies W3 Y 36 (objC o q)) := lc
  have P3 : Hid (ObjLow W3 B q o) := P2.out.below hb
  clear hw hb hk HP H2 HB2 HK2 L2 P2 c0 c1 c2 c3 c4 c5 d0 d1 d2 d3 d4 d5
  have c0 := obj0 lc
  have c1 := obj1 lc
  have c2 := obj2 lc
  have c3 := obj3 lc
  have c4 := obj4 lc
  have c5 := obj5 lc
  clear lc
  go_wp2_with fail
  have g1 := SM.out.pH
  have g2 := SM.out.lF (Nat.le_refl o.nf)
  have e4 : preD o ++ cD o o.nd = hdL o ++ cF o o.nf ++ leN o.nd 1 ++ catL (fun i => dtL (o.D i)) o.nd := rfl
  have P := (eachD B b (hdL o ++ cF o o.nf) q.pd o.nd q.kd o.D W3.drew H3.out.drew hs3 (by rw [List.length_append]; omega) (by omega) P3.out.d.drew (fun i hi => ⟨by have := (SM.out.d i hi).1; omega, by have := (SM.out.d i hi).2; omega⟩)).mono (R' := fun e w' => WrAns (.tuple #[]) B b (hdL o ++ cF o o.nf ++ leN o.nd 1 ++ catL (fun i => dtL (o.D i)) o.nd) W3 e w') (fun e w' k => ⟨k.1, k.2.1, below_drew k.2.2.1 hs3, KeepT.drew k.2.2.2⟩)
  have HP : Hid (Calls _ _ _ _ _) := P
  clear P
  go_region_held3 (fun w' => w'.cell? ⟨Y, 0, none⟩ = some (.string o.nm) ∧ w'.cell? ⟨Y, 1, none⟩ = some (.int .i64 o.dp) ∧ w'.cell? ⟨Y, 2, none⟩ = some (.slice q.pf o.nf q.kf) ∧ w'.cell? ⟨Y, 3, none⟩ = some (.slice q.pd o.nd q.kd) ∧ w'.cell? ⟨Y, 4, none⟩ = some (.slice q.pr o.nr q.kr) ∧ w'.cell? ⟨Y, 5, none⟩ = some (.slice q.ps o.ns q.ks)) (go_keep) ((go_at_call 101; (with_reducible refine HP.out.mono ?_); rintro e W4 ⟨rfl, hw, hb, hk⟩; have lc := L3.out.keep hk hne (by decide); have d0 := obj0 lc; have d1 := obj1 lc; have d2 := obj2 lc; have d3 := obj3 lc; have d4 := obj4 lc; have d5 := obj5 lc))
  have hs4 : B ≤ W4.heap.size := Nat.le_trans hs3 hb.size
  have H4 : Hid (Wr W4 B b (preD o ++ cD o o.nd)) := (by show Wr W4 B b (preD o ++ cD o o.nd); rw [e4]; exact hw)
  have HB4 : Hid (Below B w W4) := HB3.out.trans hb
  have HK4 : Hid (KeepT b w W4) := HK3.out.trans hk
  have L4 : Hid (Lies W4 Y 36 (objC o q)) := lc
  have P4 : Hid (ObjLow W4 B q o) := P3.out.below hb
  clear hw hb hk HP H3 HB3 HK3 L3 P3 c0 c1 c2 c3 c4 c5 d0 d1 d2 d3 d4 d5
  have c0 := obj0 lc
  have c1 := obj1 lc
  have c2 := obj2 lc
  have c3 := obj3 lc
  have c4 := obj4 lc
  have c5 := obj5 lc
  clear lc
  go_wp2_with fail
  have g3 := SM.out.pD
  have g4 := SM.out.lD (Nat.le_refl o.nd)
  have e5 : preR o ++ cR o o.nr = preD o ++ cD o o.nd ++ leN o.nr 1 ++ catL (fun i => rlL (o.R i)) o.nr := rfl
  have P := (eachR B b (preD o ++ cD o o.nd) q.pr o.nr q.kr o.R W4.drew H4.out.drew hs4 (by rw [List.length_append]; omega) (by omega) P4.out.r.drew (fun i hi => by have := SM.out.r i hi; omega)).mono (R' := fun e w' => WrAns (.tuple #[]) B b (preD o ++ cD o o.nd ++ leN o.nr 1 ++ catL (fun i => rlL (o.R i)) o.nr) W4 e w') (fun e w' k => ⟨k.1, k.2.1, below_drew k.2.2.1 hs4, KeepT.drew k.2.2.2⟩)
  have HP : Hid (Calls _ _ _ _ _) := P
  clear P
  go_region_held3 (fun w' => w'.cell? ⟨Y, 0, none⟩ = some (.string o.nm) ∧ w'.cell? ⟨Y, 1, none⟩ = some (.int .i64 o.dp) ∧ w'.cell? ⟨Y, 2, none⟩ = some (.slice q.pf o.nf q.kf) ∧ w'.cell? ⟨Y, 3, none⟩ = some (.slice q.pd o.nd q.kd) ∧ w'.cell? ⟨Y, 4, none⟩ = some (.slice q.pr o.nr q.kr) ∧ w'.cell? ⟨Y, 5, none⟩ = some (.slice q.ps o.ns q.ks)) (go_keep) ((go_at_call 103; (with_reducible refine HP.out.mono ?_); rintro e W5 ⟨rfl, hw, hb, hk⟩; have lc := L4.out.keep hk hne (by decide); have d0 := obj0 lc; have d1 := obj1 lc; have d2 := obj2 lc; have d3 := obj3 lc; have d4 := obj4 lc; have d5 := obj5 lc))
  have hs5 : B ≤ W5.heap.size := Nat.le_trans hs4 hb.size
  have H5 : Hid (Wr W5 B b (preR o ++ cR o o.nr)) := (by show Wr W5 B b (preR o ++ cR o o.nr); rw [e5]; exact hw)
  have HB5 : Hid (Below B w W5) := HB4.out.trans hb
  have HK5 : Hid (KeepT b w W5) := HK4.out.trans hk
  have L5 : Hid (Lies W5 Y 36 (objC o q)) := lc
  have P5 : Hid (ObjLow W5 B q o) := P4.out.below hb
  clear hw hb hk HP H4 HB4 HK4 L4 P4 c0 c1 c2 c3 c4 c5 d0 d1 d2 d3 d4 d5
  have c0 := obj0 lc
  have c1 := obj1 lc
  have c2 := obj2 lc
  have c3 := obj3 lc
  have c4 := obj4 lc
  have c5 := obj5 lc
  clear lc
  go_wp2_with fail
  have g5 := SM.out.pR
  have g6 := SM.out.lR (Nat.le_refl o.nr)
  have e6 : objL o = preR o ++ cR o o.nr ++ leN o.ns 1 ++ catL (fun i => shL (o.S i)) o.ns := rfl
  have P := (eachS B b (preR o ++ cR o o.nr) q.ps o.ns q.ks o.S W5.drew H5.out.drew hs5 (by rw [List.length_append]; omega) (by omega) P5.out.s.drew).mono (R' := fun e w' => WrAns (.tuple #[]) B b (preR o ++ cR o o.nr ++ leN o.ns 1 ++ catL (fun i => shL (o.S i)) o.ns) W5 e w') (fun e w' k => ⟨k.1, k.2.1, below_drew k.2.2.1 hs5, KeepT.drew k.2.2.2⟩)
  have HP : Hid (Calls _ _ _ _ _) := P
  clear P
  go_region_held3 (fun w' => w'.cell? ⟨Y, 0, none⟩ = some (.string o.nm) ∧ w'.cell? ⟨Y, 1, none⟩ = some (.int .i64 o.dp) ∧ w'.cell? ⟨Y, 2, none⟩ = some (.slice q.pf o.nf q.kf) ∧ w'.cell? ⟨Y, 3, none⟩ = some (.slice q.pd o.nd q.kd) ∧ w'.cell? ⟨Y, 4, none⟩ = some (.slice q.pr o.nr q.kr) ∧ w'.cell? ⟨Y, 5, none⟩ = some (.slice q.ps o.ns q.ks)) (go_keep) ((go_at_call 105; (with_reducible refine HP.out.mono ?_); rintro e W6 ⟨rfl, hw, hb, hk⟩; have lc := L5.out.keep hk hne (by decide); have d0 := obj0 lc; have d1 := obj1 lc; have d2 := obj2 lc; have d3 := obj3 lc; have d4 := obj4 lc; have d5 := obj5 lc))
  have hs6 : B ≤ W6.heap.size := Nat.le_trans hs5 hb.size
  have H6 : Hid (Wr W6 B b (objL o)) := (by show Wr W6 B b (objL o); rw [e6]; exact hw)
  have HB6 : Hid (Below B w W6) := HB5.out.trans hb
  have HK6 : Hid (KeepT b w W6) := HK5.out.trans hk
  have L6 : Hid (Lies W6 Y 36 (objC o q)) := lc
  have P6 : Hid (ObjLow W6 B q o) := P5.out.below hb
  clear hw hb hk HP H5 HB5 HK5 L5 P5 c0 c1 c2 c3 c4 c5 d0 d1 d2 d3 d4 d5
  have c0 := obj0 lc
  have c1 := obj1 lc
  have c2 := obj2 lc
  have c3 := obj3 lc
  have c4 := obj4 lc
  have c5 := obj5 lc
  clear lc
  go_wp2_with fail
  go_end0
  exact ⟨rfl, H6.out, HB6.out, HK6.out⟩

theorem sumNatO (l : List UInt8) : ∃ x : Nat, sumL l = (x : Int) ∧ x < 65521 := by
  obtain ⟨h0, h1⟩ := sumL_bd l
  exact ⟨(sumL l).toNat, by omega, by omega⟩
set_option maxHeartbeats 2000000 in
theorem sealedO (B b : Nat) (l : List UInt8) (w : World) (h : Wr w B b l) (hB : B ≤ w.heap.size) (h0 : l ≠ []) (hl : l.length ≤ 2500) :
    Calls Try.prog 53 #[.pointer (some ⟨b, 0, none⟩)] w fun e w' => e = .returned (.string ⟨(sealL l).toArray⟩) ∧ Below B w w' := by
  obtain ⟨x, hx, hx1⟩ := sumNatO l
  have hux : u64 (x : Int) = x := by unfold u64; omega
  have e9 : sealL l = l ++ leL x 4 := by unfold sealL; rw [hx, hux]
  have H : Hid (Wr w B b l) := h
  have sm := fun w' => implSum_any ⟨l.toArray⟩ w' (show l.toArray.size ≤ 65536 by rw [List.size_toArray]; omega)
  have sp := fun w' => spread_u32 x 4 w' (by omega) (by omega)
  obtain ⟨T, hT⟩ : ∃ T : ByteArray, (⟨l.toArray⟩ : ByteArray) = T := ⟨_, rfl⟩
  obtain ⟨Z, hZ⟩ : ∃ Z : ByteArray, (⟨(leL x 4).toArray⟩ : ByteArray) = Z := ⟨_, rfl⟩
  have hTs : T.size ≤ 2500 := by rw [← hT]; show l.toArray.size ≤ 2500; rw [List.size_toArray]; omega
  have hZs : Z.size ≤ 4 := by rw [← hZ]; show (leL x 4).toArray.size ≤ 4; rw [List.size_toArray, leL_len]; omega
  have eTl : T.data.toList = l := by rw [← hT]
  have e8 : T ++ Z = ⟨(sealL l).toArray⟩ := bytes_eq (by rw [app_data, ← hT, ← hZ, e9])
  have E8 : Hid (T ++ Z = ⟨(sealL l).toArray⟩) := e8
  have st := stringW B b l w h h0
  rw [hT] at sm st
  rw [hZ] at sp
  rw [eTl, hx] at sm
  have hxu : IntKind.u32.wrap (x : Int) = (x : Int) := by show (x : Int) % 4294967296 = _; omega
  clear h hx hux e9 hT hZ e8 eTl h0 hl
  go_enter Try.func53, Try.ntmps53
  go_wp2_with fail
  refine st.mono ?_
  rintro e w1 ⟨rfl, hb1⟩
  have B1 : Hid (Below B w w1) := hb1
  have s1 := hb1.size
  clear hb1 st
  go_wp2_with fail
  refine (sm _).mono ?_
  rintro e w2 ⟨rfl, rfl⟩
  go_wp2_with fail
  refine (sp _).mono ?_
  rintro e w3 ⟨rfl, hb3⟩
  have B3 : Hid (Below B w w3) := B1.out.trans (hb3.mono (by omega))
  clear hb3 sm sp
  go_wp2_with fail
  go_ret
  exact ⟨by show Ending.returned (.string (T ++ Z)) = _; rw [E8.out], B3.out⟩

/-- A text and a code. -/
def TxtO (B : Nat) (x : ByteArray) (y : Int) (w : World) (e : Ending) (w' : World) : Prop := e = .returned (.tuple #[.string x, .int .i64 y]) ∧ Below B w w'
/-- What ObjectText answers. -/
def otO (o : ObjD) : ByteArray × Int := if (lintO o).2 ≠ 0 then (⟨#[]⟩, 1) else (⟨(sealL (objL o)).toArray⟩, 0)
theorem objL_ne (o : ObjD) : objL o ≠ [] := by
  intro e
  have : (objL o).length = 0 := by rw [e]; rfl
  unfold objL preS preR preD at this
  simp only [List.length_append] at this
  rw [hdL_len] at this
  omega
set_option maxRecDepth 100000 in
set_option maxHeartbeats 4000000 in
theorem progTextO (q : ObjPt) (o : ObjD) (w : World) (hz : o.fits) (hw : o.wf) (hp : ObjAt w q o) (x : ByteArray) (y : Int) (hl : otO o = (x, y)) :
    Calls Try.prog 18 #[.agg (objC o q)] w fun e w' => TxtO w.heap.size x y w e w' := by
  have bA := grown1' w (.cells (objC o q) 36)
  have lA := Lies.new w (objC o q) 36
  have hpA := hp.below bA
  have HA : Hid (Below w.heap.size w _) := bA
  have HL : Hid (Lies _ w.heap.size 36 (objC o q)) := lA
  have OK := progObjectOK q o _ hz hw hpA
  have HPA : Hid (ObjAt _ q o) := hpA
  obtain ⟨ok, hok⟩ : ∃ b, ((lintO o).2 == 0) = b := ⟨_, rfl⟩
  rw [hok] at OK
  have HOK : Hid (_ = ok) := hok
  have HUS : Hid (otO o = (x, y)) := hl
  have hlt := lA.lt
  clear bA lA hp hpA hok hl
  go_enter Try.func18, Try.ntmps18
  go_wp2_with fail
  refine OK.mono ?_
  rintro e w1 ⟨rfl, hb⟩
  have B := HA.out.trans (hb.mono HA.out.size)
  have Lq := HL.out.below hb hlt
  have hO := HPA.out.below hb
  clear OK hb HA HL HPA
  have HA : Hid (Below w.heap.size w w1) := B
  have HO : Hid (ObjAt w1 q o) := hO
  have HL : Hid (Lies w1 w.heap.size 36 (objC o q)) := Lq
  have hlt1 := Lq.lt
  clear B Lq hO
  have e := HUS.out
  unfold otO at e
  cases ok with
  | false =>
    rw [if_pos (by have := HOK.out; simpa using this)] at e
    obtain ⟨rfl, rfl⟩ : (⟨#[]⟩ : ByteArray) = x ∧ 1 = y := by simpa using e
    clear e HUS
    go_wp2_with fail
    go_ret2
    exact ⟨rfl, HA.out⟩
  | true =>
    have hok2 : (lintO o).2 = 0 := by have := HOK.out; simpa using this
    rw [if_neg (by simpa using hok2)] at e
    obtain ⟨hX, rfl⟩ : (⟨(sealL (objL o)).toArray⟩ : ByteArray) = x ∧ 0 = y := by simpa using e
    have SM : Hid (SmallO o) := small_ok hok2
    have hlen := SM.out.pO
    have HX : Hid ((⟨(sealL (objL o)).toArray⟩ : ByteArray) = x) := hX
    have bW := grown1' w1 (.cells #[.pointer none, .slice none 0 0] 76)
    have isb : Wr (w1.alloc (.cells #[.pointer none, .slice none 0 0] 76)) w1.heap.size w1.heap.size [] := Lib.fresh_isBuilder 76 5 w1
    have low := HO.out.low.below bW
    have lie := HL.out.below bW hlt1
    clear e HUS hok2 hX
    go_wp2_with fail
    obtain ⟨w3, hW3⟩ : ∃ W, (w1.alloc (.cells #[.pointer none, .slice none 0 0] 76)) = W := ⟨_, rfl⟩
    obtain ⟨B, hB⟩ : ∃ B, w1.heap.size = B := ⟨_, rfl⟩
    rw [hW3] at bW isb low lie ⊢
    rw [hB] at bW isb low ⊢
    have W3 : Hid (Wr w3 B B []) := isb
    have s3 : B ≤ w3.heap.size := by rw [← hB]; exact bW.size
    have HBW : Hid (Below B w1 w3) := bW
    have LOW3 : Hid (ObjLow w3 B q o) := low
    have LIE3 : Hid (Lies w3 w.heap.size 36 (objC o q)) := lie
    have hlB : w.heap.size < B := by omega
    have hneB : w.heap.size ≠ B := by omega
    clear hW3 hB isb low lie bW HO HL
    refine (putText B B [] { data := #[80, 79, 66, 49] } w3 W3.out s3 (by simp) (by decide)).mono ?_
    rintro e w4 ⟨rfl, hw4, hb4, hk4⟩
    have s4 : B ≤ w4.heap.size := Nat.le_trans s3 hb4.size
    have W4 : Hid (Wr w4 B B [80, 79, 66, 49]) := hw4
    have HB4 : Hid (Below B w1 w4) := HBW.out.trans hb4
    have LOW4 : Hid (ObjLow w4 B q o) := LOW3.out.below hb4
    have lie4 := LIE3.out.below hb4 hlB
    have m0 := obj0 lie4
    have m1 := obj1 lie4
    have m2 := obj2 lie4
    have m3 := obj3 lie4
    have m4 := obj4 lie4
    have m5 := obj5 lie4
    clear hw4 hb4 hk4 W3 lie4 LIE3 LOW3 HBW
    go_wp2_with fail
    refine (putObj B B q o w4 W4.out s4 SM.out LOW4.out).mono ?_
    rintro e w5 ⟨rfl, hw5, hb5, hk5⟩
    have s5 : B ≤ w5.heap.size := Nat.le_trans s4 hb5.size
    have HB5 : Hid (Below B w1 w5) := HB4.out.trans hb5
    have sl := sealedO B B (objL o) w5 hw5 s5 (objL_ne o) (by omega)
    rw [HX.out] at sl
    have SL : Hid (Calls _ _ _ _ _) := sl
    clear hw5 hb5 hk5 W4 LOW4 HB4 sl m0 m1 m2 m3 m4 m5
    go_wp2_with fail
    refine SL.out.mono ?_
    rintro e w6 ⟨rfl, hb6⟩
    have B6 : Below w.heap.size w w6 := HA.out.trans ((HB5.out.trans hb6).mono (Nat.le_of_lt hlB))
    clear hb6 SL
    go_wp2_with fail
    go_ret2
    exact ⟨rfl, B6⟩
end Go.Proofs.Ytdcjddiigipdmaa
