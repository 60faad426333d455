/- The model's text of an object (gen_objt.py). -/
import Derived.Test.YtdcjddiigipdmaaObjT
import Derived.Test.YtdcjddiigipdmaaLitC
import Derived.Test.YtdcjddiigipdmaaSum
import Derived.Test.YtdcjddiigipdmaaObjS6
import Derived.Deep.RegionHeld3
namespace Go.Proofs.Ytdcjddiigipdmaa
open Go Go.RowKit
set_option linter.unusedVariables false

theorem addT (a b : ByteArray) (h : a.size + b.size ≤ 1000000) : ∀ w : World, (Op.stringOp .add a b).run Try.prog w = .ok (.string (a ++ b)) w :=
  fun w => run_string_add_sum w a b (by omega)
theorem convOneT (w : World) (x : UInt8) : (convert 70 9 (.slice (some ⟨w.heap.size, 0, none⟩) 1 1)).run Try.prog (w.alloc (.cells #[.int .u8 (x.toNat : Int)] 5)) = .ok (.string ⟨#[x]⟩) (w.alloc (.cells #[.int .u8 (x.toNat : Int)] 5)) :=
  run_convert_bytes_back (w.alloc (.cells #[.int .u8 (x.toNat : Int)] 5)) 70 9 5 ⟨w.heap.size, 0, none⟩ 1 [x] Try.underlying70 Try.underlying5 Try.underlying9 (fun j hj => by
    obtain rfl : j = 0 := by simp at hj; omega
    exact World.news_of_block (cs := #[.int .u8 (x.toNat : Int)]) (t := 5) (fr := (0, 0)) (heap_alloc_new w _) 0 _ rfl)
theorem nameT2 (nm : ByteArray) (w : World) (hn : nm.size ≤ 255) :
    Calls Try.prog 92 #[.string nm] w fun e w' => e = .returned (.string (leT nm.size 1 ++ nm)) ∧ Below w.heap.size w w' := by
  have hx : ((leAt (u64 nm.size) 0).toNat : Int) = (nm.size : Int) := by
    rw [leAt_nat]
    have : u64 (nm.size : Int) = nm.size := by unfold u64; omega
    rw [this]
    simp
    omega
  have e1 : leT nm.size 1 = ⟨#[leAt (u64 nm.size) 0]⟩ := by
    unfold leT leL
    simp [List.range_succ]
  have hcv := convOneT w (leAt (u64 nm.size) 0)
  rw [hx] at hcv
  rw [e1]
  have had := addT ⟨#[leAt (u64 nm.size) 0]⟩ nm (by show 1 + nm.size ≤ _; omega)
  have bA := grown1' w (.cells #[.int .u8 (nm.size : Int)] 5)
  have hm : (nm.size : Int) ≤ 255 := by omega
  clear hx e1
  go_enter Try.func92, Try.ntmps92
  go_wp2
  go_ret
  exact ⟨rfl, bA⟩
theorem bitS (b : Bool) (w : World) : Calls Try.prog 94 #[.bool b] w fun e w' => e = .returned (.int .i64 (bitI b)) ∧ Below w.heap.size w w' := by
  cases b with
  | true =>
    go_enter Try.func94, Try.ntmps94
    go_wp2
    go_ret
    exact ⟨rfl, Below.refl _ _⟩
  | false =>
    go_enter Try.func94, Try.ntmps94
    go_wp2
    go_ret
    exact ⟨rfl, Below.refl _ _⟩
theorem litT (v : Int) (n : Nat) (w : World) (hn : n ≤ 8) : Calls Try.prog 93 #[.int .i64 v, .int .i64 n] w fun e w' => e = .returned (.string (leT v n)) ∧ Below w.heap.size w w' := specLittle0 v n w hn


set_option maxRecDepth 100000 in
set_option maxHeartbeats 16000000 in
theorem textO (q : ObjPt) (o : ObjD) (w : World) (sm : SmallO o) (hp : ObjAt w q o) :
    Calls Try.prog 50 #[.agg (objC o q)] w fun e w' => e = .returned (.string ⟨(sealL (objL o)).toArray⟩) ∧ Below w.heap.size w w' := by
  have bA := grown1' w (.cells (objC o q) 36)
  have lA := Lies.new w (objC o q) 36
  have hpA := hp.below bA
  have q1 := sm.nf
  have q2 := sm.nd
  have q3 := sm.nr
  have q4 := sm.ns
  have q5 := sm.nm
  have SM : Hid (SmallO o) := sm
  obtain ⟨tA, htA⟩ : ∃ t, leT o.nm.size 1 ++ o.nm = t := ⟨_, rfl⟩
  have cA : ∀ W : World, Calls Try.prog 92 #[.string o.nm] W fun e w' => e = .returned (.string tA) ∧ Below W.heap.size W w' := fun W => by rw [← htA]; exact nameT2 o.nm W (by omega)
  have dA : tA.data.toList = leN o.nm.size 1 ++ o.nm.data.toList := by rw [← htA, app_data, leT_N]
  have zA : tA.size = o.nm.size + 1 := by rw [← htA, ByteArray.size_append, leT_size]; omega
  have CA : Hid (∀ W : World, _) := cA
  obtain ⟨tB, htB⟩ : ∃ t, leT (o.dp) 1 = t := ⟨_, rfl⟩
  have cB : ∀ W : World, Calls Try.prog 93 #[.int .i64 (o.dp), .int .i64 1] W fun e w' => e = .returned (.string tB) ∧ Below W.heap.size W w' := fun W => by rw [← htB]; exact litT (o.dp) 1 W (by omega)
  have dB : tB.data.toList = leN (o.dp) 1 := by rw [← htB, leT_N]
  have zB : tB.size = 1 := by rw [← htB, leT_size]
  have CB : Hid (∀ W : World, _) := cB
  obtain ⟨tC, htC⟩ : ∃ t, leT ((o.nf : Int)) 1 = t := ⟨_, rfl⟩
  have cC : ∀ W : World, Calls Try.prog 93 #[.int .i64 ((o.nf : Int)), .int .i64 1] W fun e w' => e = .returned (.string tC) ∧ Below W.heap.size W w' := fun W => by rw [← htC]; exact litT ((o.nf : Int)) 1 W (by omega)
  have dC : tC.data.toList = leN ((o.nf : Int)) 1 := by rw [← htC, leT_N]
  have zC : tC.size = 1 := by rw [← htC, leT_size]
  have CC : Hid (∀ W : World, _) := cC
  clear cA cB cC
  have zM : (⟨#[80, 79, 66, 49]⟩ : ByteArray).size = 4 := rfl
  have av1 := addT (⟨#[80, 79, 66, 49]⟩ : ByteArray) tA (by omega)
  obtain ⟨v1, gv1⟩ : ∃ v, (⟨#[80, 79, 66, 49]⟩ : ByteArray) ++ tA = v := ⟨_, rfl⟩
  rw [gv1] at av1
  have yv1 : v1.size = (⟨#[80, 79, 66, 49]⟩ : ByteArray).size + tA.size := by rw [← gv1, ByteArray.size_append]
  have xv1 : v1.data.toList = (⟨#[80, 79, 66, 49]⟩ : ByteArray).data.toList ++ tA.data.toList := by rw [← gv1, app_data]
  clear gv1
  have av2 := addT v1 tB (by omega)
  obtain ⟨v2, gv2⟩ : ∃ v, v1 ++ tB = v := ⟨_, rfl⟩
  rw [gv2] at av2
  have yv2 : v2.size = v1.size + tB.size := by rw [← gv2, ByteArray.size_append]
  have xv2 : v2.data.toList = v1.data.toList ++ tB.data.toList := by rw [← gv2, app_data]
  clear gv2
  have av3 := addT v2 tC (by omega)
  obtain ⟨v3, gv3⟩ : ∃ v, v2 ++ tC = v := ⟨_, rfl⟩
  rw [gv3] at av3
  have yv3 : v3.size = v2.size + tC.size := by rw [← gv3, ByteArray.size_append]
  have xv3 : v3.data.toList = v2.data.toList ++ tC.data.toList := by rw [← gv3, app_data]
  clear gv3
  have hd0 : v3.data.toList = hdL o := by
    rw [xv3, xv2, xv1, dA, dB, dC]
    unfold hdL
    simp only [List.append_assoc]
  have hT0 : v3.size ≤ 2500 := by omega
  have HT0 : Hid (v3.data.toList = hdL o) := hd0
  clear hd0 htA htB htC dA dB dC xv1 xv2 xv3 sm hp
  go_enter Try.func50, Try.ntmps50
  go_wp2_with fail
  obtain ⟨W0, hW0⟩ : ∃ V, w.alloc (.cells #[.string o.nm, .int .i64 o.dp, .slice q.pf o.nf q.kf, .slice q.pd o.nd q.kd, .slice q.pr o.nr q.kr, .slice q.ps o.ns q.ks] 36) = V := ⟨_, rfl⟩
  obtain ⟨X, hX⟩ : ∃ X, w.heap.size = X := ⟨_, rfl⟩
  rw [hW0] at bA lA hpA ⊢
  rw [hX] at lA ⊢
  have HXX : Hid (w.heap.size = X) := hX
  have HA : Hid (Below w.heap.size w W0) := bA
  have HL0 : Hid (Lies W0 X 36 (objC o q)) := lA
  have HO0 : Hid (ObjAt W0 q o) := hpA
  have hlt0 := lA.lt
  have i0 := obj0 lA
  have i1 := obj1 lA
  have i2 := obj2 lA
  clear hW0 hX bA lA hpA
  go_region_held3 (fun w' => w'.cell? ⟨X, 0, none⟩ = some (.string o.nm) ∧ w'.cell? ⟨X, 1, none⟩ = some (.int .i64 o.dp) ∧ w'.cell? ⟨X, 2, none⟩ = some (.slice q.pf o.nf q.kf)) (go_keep) (first | (go_at_call 92; (with_reducible refine (CA.out _).mono ?_); rintro e uA ⟨rfl, hbn⟩; have bc : Below W0.heap.size W0 uA := (by first | exact bc.trans (hbn.mono bc.size) | exact (Below.refl W0.heap.size W0).drew.trans hbn | exact hbn); have lc := HL0.out.below bc hlt0; have f0 := obj0 lc; have f1 := obj1 lc; have f2 := obj2 lc; clear hbn CA) | (go_at_call 93; (with_reducible refine (CB.out _).mono ?_); rintro e uB ⟨rfl, hbn⟩; have bc : Below W0.heap.size W0 uB := (by first | exact bc.trans (hbn.mono bc.size) | exact (Below.refl W0.heap.size W0).drew.trans hbn | exact hbn); have lc := HL0.out.below bc hlt0; have f0 := obj0 lc; have f1 := obj1 lc; have f2 := obj2 lc; clear hbn CB) | (go_at_call 93; (with_reducible refine (CC.out _).mono ?_); rintro e uC ⟨rfl, hbn⟩; have bc : Below W0.heap.size W0 uC := (by first | exact bc.trans (hbn.mono bc.size) | exact (Below.refl W0.heap.size W0).drew.trans hbn | exact hbn); have lc := HL0.out.below bc hlt0; have f0 := obj0 lc; have f1 := obj1 lc; have f2 := obj2 lc; clear hbn CC))
  have HAx : Hid (Below w.heap.size w uC) := HA.out.trans (bc.mono HA.out.size)
  have HL : Hid (Lies uC X 36 (objC o q)) := HL0.out.below bc hlt0
  have HO : Hid (ObjAt uC q o) := HO0.out.below bc
  obtain ⟨Wx, rfl⟩ : ∃ W, W = uC := ⟨_, rfl⟩
  have hltx := HL.out.lt
  clear bc f0 f1 f2 lc i0 i1 i2 HL0 HO0 HA hlt0 av1 av2 av3 yv1 yv2 zA zB zC zM
  obtain ⟨T0, rfl⟩ : ∃ T, T = v3 := ⟨_, rfl⟩
  clear yv3
  go_wp2_with fail
  go_loopw [3, 4] (fun t i wr => ∃ (m : Nat) (T : ByteArray), m ≤ o.nf ∧ i = .int .i64 m ∧ t = .string T ∧ T.size ≤ 2500 ∧ Hid (T.data.toList = hdL o ++ cF o m) ∧ Below Wx.heap.size Wx wr) (fun _ i _ => o.nf - (intOf i).toNat)
  case atStart => exact ⟨0, T0, Nat.zero_le _, rfl, rfl, hT0, by rw [show cF o 0 = [] from rfl, List.append_nil]; exact HT0, Below.refl _ _⟩
  case round =>
    obtain ⟨m, T, hm, rfl, rfl, hT, HT, hB⟩ := hrel
    have lr := HL.out.below hB hltx
    have j2 := obj2 lr
    by_cases hlt : m < o.nf
    · rcases (HO.out.below hB).f with hp1 | ⟨bb, oo, hpf, hbb, hp1⟩
      · omega
      obtain ⟨x0, x1, x2, x3⟩ := hp1.fun hlt
      have hszl : T.size ≤ 2500 := hT
      obtain ⟨s1, s2⟩ := SM.out.f m hlt
      have hstep : cF o (m + 1) = cF o m ++ fnL (o.F m) := rfl
      have hnx := SM.out.lF (m := m + 1) (by omega)
      have hpre := SM.out.pH
      obtain ⟨dd, hdd⟩ : ∃ d, o.F m = d := ⟨_, rfl⟩
      rw [hdd] at hstep x0 x1 x2 x3 s1 s2
      obtain ⟨nm, rp, fr, cod⟩ := dd
      have hst2 : cF o (m + 1) = cF o m ++ fnL ⟨nm, rp, fr, cod⟩ := hstep
      have x0 : wr.cell? ⟨bb, oo + m * 4, none⟩ = some (.string nm) := x0
      have x1 : wr.cell? ⟨bb, oo + m * 4 + 1, none⟩ = some (.bool rp) := x1
      have x2 : wr.cell? ⟨bb, oo + m * 4 + 2, none⟩ = some (.int .i64 fr) := x2
      have x3 : wr.cell? ⟨bb, oo + m * 4 + 3, none⟩ = some (.string cod) := x3
      have s1 : nm.size ≤ 20 := s1
      have s2 : cod.size ≤ 256 := s2
      have HST : Hid (cF o (m + 1) = cF o m ++ fnL ⟨nm, rp, fr, cod⟩) := hst2
      rw [hpf] at j2
      clear hpf
      obtain ⟨tA, htA⟩ : ∃ t, leT nm.size 1 ++ nm = t := ⟨_, rfl⟩
      have cA : ∀ W : World, Calls Try.prog 92 #[.string nm] W fun e w' => e = .returned (.string tA) ∧ Below W.heap.size W w' := fun W => by rw [← htA]; exact nameT2 nm W (by omega)
      have dA : tA.data.toList = leN nm.size 1 ++ nm.data.toList := by rw [← htA, app_data, leT_N]
      have zA : tA.size = nm.size + 1 := by rw [← htA, ByteArray.size_append, leT_size]; omega
      have CA : Hid (∀ W : World, _) := cA
      obtain ⟨iB, hiB⟩ : ∃ i, bitI rp = i := ⟨_, rfl⟩
      have cB : ∀ W : World, Calls Try.prog 94 #[.bool rp] W fun e w' => e = .returned (.int .i64 iB) ∧ Below W.heap.size W w' := fun W => by rw [← hiB]; exact bitS rp W
      have CB : Hid (∀ W : World, _) := cB
      obtain ⟨tC, htC⟩ : ∃ t, leT (iB) 1 = t := ⟨_, rfl⟩
      have cC : ∀ W : World, Calls Try.prog 93 #[.int .i64 (iB), .int .i64 1] W fun e w' => e = .returned (.string tC) ∧ Below W.heap.size W w' := fun W => by rw [← htC]; exact litT (iB) 1 W (by omega)
      have dC : tC.data.toList = leN (iB) 1 := by rw [← htC, leT_N]
      have zC : tC.size = 1 := by rw [← htC, leT_size]
      have CC : Hid (∀ W : World, _) := cC
      obtain ⟨tE, htE⟩ : ∃ t, leT (fr) 1 = t := ⟨_, rfl⟩
      have cE : ∀ W : World, Calls Try.prog 93 #[.int .i64 (fr), .int .i64 1] W fun e w' => e = .returned (.string tE) ∧ Below W.heap.size W w' := fun W => by rw [← htE]; exact litT (fr) 1 W (by omega)
      have dE : tE.data.toList = leN (fr) 1 := by rw [← htE, leT_N]
      have zE : tE.size = 1 := by rw [← htE, leT_size]
      have CE : Hid (∀ W : World, _) := cE
      obtain ⟨tG, htG⟩ : ∃ t, leT ((cod.size : Int) / 4) 1 = t := ⟨_, rfl⟩
      have cG : ∀ W : World, Calls Try.prog 93 #[.int .i64 ((cod.size : Int) / 4), .int .i64 1] W fun e w' => e = .returned (.string tG) ∧ Below W.heap.size W w' := fun W => by rw [← htG]; exact litT ((cod.size : Int) / 4) 1 W (by omega)
      have dG : tG.data.toList = leN ((cod.size : Int) / 4) 1 := by rw [← htG, leT_N]
      have zG : tG.size = 1 := by rw [← htG, leT_size]
      have CG : Hid (∀ W : World, _) := cG
      clear cA cB cC cE cG
      have hqd : ((cod.size : Int)).tdiv 4 = (cod.size : Int) / 4 := Int.tdiv_eq_ediv_of_nonneg (by omega)
      have hqw : IntKind.i64.wrap ((cod.size : Int) / 4) = (cod.size : Int) / 4 := by rw [IntKind.wrap_i64]; omega
      have av1 := addT tA tC (by omega)
      obtain ⟨v1, gv1⟩ : ∃ v, tA ++ tC = v := ⟨_, rfl⟩
      rw [gv1] at av1
      have yv1 : v1.size = tA.size + tC.size := by rw [← gv1, ByteArray.size_append]
      have xv1 : v1.data.toList = tA.data.toList ++ tC.data.toList := by rw [← gv1, app_data]
      clear gv1
      have av2 := addT v1 tE (by omega)
      obtain ⟨v2, gv2⟩ : ∃ v, v1 ++ tE = v := ⟨_, rfl⟩
      rw [gv2] at av2
      have yv2 : v2.size = v1.size + tE.size := by rw [← gv2, ByteArray.size_append]
      have xv2 : v2.data.toList = v1.data.toList ++ tE.data.toList := by rw [← gv2, app_data]
      clear gv2
      have av3 := addT v2 tG (by omega)
      obtain ⟨v3, gv3⟩ : ∃ v, v2 ++ tG = v := ⟨_, rfl⟩
      rw [gv3] at av3
      have yv3 : v3.size = v2.size + tG.size := by rw [← gv3, ByteArray.size_append]
      have xv3 : v3.data.toList = v2.data.toList ++ tG.data.toList := by rw [← gv3, app_data]
      clear gv3
      have av4 := addT v3 cod (by omega)
      obtain ⟨v4, gv4⟩ : ∃ v, v3 ++ cod = v := ⟨_, rfl⟩
      rw [gv4] at av4
      have yv4 : v4.size = v3.size + cod.size := by rw [← gv4, ByteArray.size_append]
      have xv4 : v4.data.toList = v3.data.toList ++ cod.data.toList := by rw [← gv4, app_data]
      clear gv4
      have aT := addT T v4 (by omega)
      obtain ⟨T2, gT⟩ : ∃ v, T ++ v4 = v := ⟨_, rfl⟩
      rw [gT] at aT
      have hd2 : T2.data.toList = hdL o ++ cF o (m + 1) := by
        rw [HST.out, ← gT, app_data, HT.out, List.append_assoc]
        congr 2
        rw [xv4, xv3, xv2, xv1, dA, dC, dE, dG]
        unfold fnL
        simp only [List.append_assoc, hiB]
      have hT2 : T2.size ≤ 2500 := by rw [← len_toList, hd2, List.length_append]; omega
      have HD2 : Hid (T2.data.toList = hdL o ++ cF o (m + 1)) := hd2
      have HBr : Hid (Below Wx.heap.size Wx wr) := hB
      clear hd2 gT hst2 hstep hdd htA dA hiB htC dC htE dE htG dG hnx hpre HT HST xv1 xv2 xv3 xv4
      have bX := grown1' wr (.cells #[.string nm, .bool rp, .int .i64 fr, .string cod] 85)
      have lX := Lies.new wr #[.string nm, .bool rp, .int .i64 fr, .string cod] 85
      go_wp2_with fail
      obtain ⟨W1, hW1⟩ : ∃ W, wr.alloc (.cells #[.string nm, .bool rp, .int .i64 fr, .string cod] 85) = W := ⟨_, rfl⟩
      obtain ⟨Y, hY⟩ : ∃ Y, wr.heap.size = Y := ⟨_, rfl⟩
      rw [hW1] at bX lX ⊢
      rw [hY] at lX ⊢
      have HB1 : Hid (Below Wx.heap.size Wx W1) := HBr.out.trans (bX.mono HBr.out.size)
      have HLX : Hid (Lies W1 Y 85 #[.string nm, .bool rp, .int .i64 fr, .string cod]) := lX
      have hYl := lX.lt
      have s0x : W1.cell? ⟨Y, 0, none⟩ = some (.string nm) := lX.cell (j := 0) rfl
      have s1x : W1.cell? ⟨Y, 1, none⟩ = some (.bool rp) := lX.cell (j := 1) rfl
      have s2x : W1.cell? ⟨Y, 2, none⟩ = some (.int .i64 fr) := lX.cell (j := 2) rfl
      have s3x : W1.cell? ⟨Y, 3, none⟩ = some (.string cod) := lX.cell (j := 3) rfl
      clear bX lX hW1 hY hB lr j2 hp1 x0 x1 x2 x3
      go_region_held3 (fun w' => w'.cell? ⟨Y, 0, none⟩ = some (.string nm) ∧ w'.cell? ⟨Y, 1, none⟩ = some (.bool rp) ∧ w'.cell? ⟨Y, 2, none⟩ = some (.int .i64 fr) ∧ w'.cell? ⟨Y, 3, none⟩ = some (.string cod)) (go_keep) (first | (go_at_call 92; (with_reducible refine (CA.out _).mono ?_); rintro e uA ⟨rfl, hbn⟩; have bc : Below W1.heap.size W1 uA := (by first | exact bc.trans (hbn.mono bc.size) | exact (Below.refl W1.heap.size W1).drew.trans hbn | exact hbn); have lc := HLX.out.below bc hYl; have f0 : World.cell? _ ⟨Y, 0, none⟩ = some (.string nm) := lc.cell (j := 0) rfl; have f1 : World.cell? _ ⟨Y, 1, none⟩ = some (.bool rp) := lc.cell (j := 1) rfl; have f2 : World.cell? _ ⟨Y, 2, none⟩ = some (.int .i64 fr) := lc.cell (j := 2) rfl; have f3 : World.cell? _ ⟨Y, 3, none⟩ = some (.string cod) := lc.cell (j := 3) rfl; clear hbn CA) | (go_at_call 94; (with_reducible refine (CB.out _).mono ?_); rintro e uB ⟨rfl, hbn⟩; have bc : Below W1.heap.size W1 uB := (by first | exact bc.trans (hbn.mono bc.size) | exact (Below.refl W1.heap.size W1).drew.trans hbn | exact hbn); have lc := HLX.out.below bc hYl; have f0 : World.cell? _ ⟨Y, 0, none⟩ = some (.string nm) := lc.cell (j := 0) rfl; have f1 : World.cell? _ ⟨Y, 1, none⟩ = some (.bool rp) := lc.cell (j := 1) rfl; have f2 : World.cell? _ ⟨Y, 2, none⟩ = some (.int .i64 fr) := lc.cell (j := 2) rfl; have f3 : World.cell? _ ⟨Y, 3, none⟩ = some (.string cod) := lc.cell (j := 3) rfl; clear hbn CB) | (go_at_call 93; (with_reducible refine (CC.out _).mono ?_); rintro e uC ⟨rfl, hbn⟩; have bc : Below W1.heap.size W1 uC := (by first | exact bc.trans (hbn.mono bc.size) | exact (Below.refl W1.heap.size W1).drew.trans hbn | exact hbn); have lc := HLX.out.below bc hYl; have f0 : World.cell? _ ⟨Y, 0, none⟩ = some (.string nm) := lc.cell (j := 0) rfl; have f1 : World.cell? _ ⟨Y, 1, none⟩ = some (.bool rp) := lc.cell (j := 1) rfl; have f2 : World.cell? _ ⟨Y, 2, none⟩ = some (.int .i64 fr) := lc.cell (j := 2) rfl; have f3 : World.cell? _ ⟨Y, 3, none⟩ = some (.string cod) := lc.cell (j := 3) rfl; clear hbn CC) | (go_at_call 93; (with_reducible refine (CE.out _).mono ?_); rintro e uE ⟨rfl, hbn⟩; have bc : Below W1.heap.size W1 uE := (by first | exact bc.trans (hbn.mono bc.size) | exact (Below.refl W1.heap.size W1).drew.trans hbn | exact hbn); have lc := HLX.out.below bc hYl; have f0 : World.cell? _ ⟨Y, 0, none⟩ = some (.string nm) := lc.cell (j := 0) rfl; have f1 : World.cell? _ ⟨Y, 1, none⟩ = some (.bool rp) := lc.cell (j := 1) rfl; have f2 : World.cell? _ ⟨Y, 2, none⟩ = some (.int .i64 fr) := lc.cell (j := 2) rfl; have f3 : World.cell? _ ⟨Y, 3, none⟩ = some (.string cod) := lc.cell (j := 3) rfl; clear hbn CE) | (go_at_call 93; (with_reducible refine (CG.out _).mono ?_); rintro e uG ⟨rfl, hbn⟩; have bc : Below W1.heap.size W1 uG := (by first | exact bc.trans (hbn.mono bc.size) | exact (Below.refl W1.heap.size W1).drew.trans hbn | exact hbn); have lc := HLX.out.below bc hYl; have f0 : World.cell? _ ⟨Y, 0, none⟩ = some (.string nm) := lc.cell (j := 0) rfl; have f1 : World.cell? _ ⟨Y, 1, none⟩ = some (.bool rp) := lc.cell (j := 1) rfl; have f2 : World.cell? _ ⟨Y, 2, none⟩ = some (.int .i64 fr) := lc.cell (j := 2) rfl; have f3 : World.cell? _ ⟨Y, 3, none⟩ = some (.string cod) := lc.cell (j := 3) rfl; clear hbn CG))
      have HB9 : Hid (Below Wx.heap.size Wx uG) := HB1.out.trans (bc.mono HB1.out.size)
      clear bc
      go_wp2_with fail
      go_roundw
      case rel =>
        first
          | exact ⟨m + 1, T2, by omega, by go_num, rfl, hT2, HD2, HB9.out⟩
          | ((repeat apply Exists.intro); exact ⟨⟨m + 1, T2, by omega, by go_num, rfl, hT2, HD2, HB9.out⟩, rfl⟩)
      case measure => simp [intOf]; omega
    · obtain rfl : m = o.nf := by omega
      have HTm : Hid (T.data.toList = hdL o ++ cF o o.nf) := HT
      have hl1 := SM.out.lF (Nat.le_refl o.nf)
      have hl0 := SM.out.pH
      have hTs : T.size ≤ 2450 := by rw [← len_toList, HTm.out, List.length_append]; omega
      clear hl0 hl1
      obtain ⟨tA, htA⟩ : ∃ t, leT ((o.nd : Int)) 1 = t := ⟨_, rfl⟩
      have cA : ∀ W : World, Calls Try.prog 93 #[.int .i64 ((o.nd : Int)), .int .i64 1] W fun e w' => e = .returned (.string tA) ∧ Below W.heap.size W w' := fun W => by rw [← htA]; exact litT ((o.nd : Int)) 1 W (by omega)
      have dA : tA.data.toList = leN ((o.nd : Int)) 1 := by rw [← htA, leT_N]
      have zA : tA.size = 1 := by rw [← htA, leT_size]
      have CA : Hid (∀ W : World, _) := cA
      clear cA
      have aT := addT T tA (by omega)
      obtain ⟨T1, gT⟩ : ∃ v, T ++ tA = v := ⟨_, rfl⟩
      rw [gT] at aT
      have HT1 : Hid (T1.data.toList = preD o) := by
        show T1.data.toList = _
        rw [← gT, app_data, HTm.out, dA]
        rfl
      have hT1 : T1.size ≤ 2500 := by rw [← gT, ByteArray.size_append]; omega
      have HBr : Hid (Below Wx.heap.size Wx wr) := hB
      have j3' := obj3 lr
      clear gT htA dA HTm HT hB
      go_wp2_with fail
      refine (CA.out _).mono ?_
      rintro e W9 ⟨rfl, hbn⟩
      have b9 := HBr.out.trans (hbn.mono HBr.out.size)
      have nA : Below w.heap.size w W9 := HAx.out.trans (b9.mono HAx.out.size)
      have nL := HL.out.below b9 hltx
      have nO := HO.out.below b9
      clear HAx HL HO hltx lr j2 j3' hbn b9 HBr CA
      have HAx : Hid (Below w.heap.size w W9) := nA
      have HL : Hid (Lies W9 X 36 (objC o q)) := nL
      have HO : Hid (ObjAt W9 q o) := nO
      have hltx := nL.lt
      clear nA nL nO
      clear hT0 HT0
      obtain ⟨Wx, rfl⟩ : ∃ W, W = W9 := ⟨_, rfl⟩
      obtain ⟨T0, rfl⟩ : ∃ T, T = T1 := ⟨_, rfl⟩
      have hT0 := hT1
      have HT0 := HT1
      clear hT1 HT1
      go_wp2_with fail
      go_loopw [3, 6] (fun t i wr => ∃ (m : Nat) (T : ByteArray), m ≤ o.nd ∧ i = .int .i64 m ∧ t = .string T ∧ T.size ≤ 2500 ∧ Hid (T.data.toList = preD o ++ cD o m) ∧ Below Wx.heap.size Wx wr) (fun _ i _ => o.nd - (intOf i).toNat)
      case atStart => exact ⟨0, T0, Nat.zero_le _, rfl, rfl, hT0, by rw [show cD o 0 = [] from rfl, List.append_nil]; exact HT0, Below.refl _ _⟩
      case round =>
        obtain ⟨m, T, hm, rfl, rfl, hT, HT, hB⟩ := hrel
        have lr := HL.out.below hB hltx
        have j3 := obj3 lr
        by_cases hlt : m < o.nd
        · rcases (HO.out.below hB).d with hp1 | ⟨bb, oo, hpf, hbb, hp1⟩
          · omega
          obtain ⟨x0, x1⟩ := hp1.dat hlt
          have hszl : T.size ≤ 2500 := hT
          obtain ⟨s1, s2⟩ := SM.out.d m hlt
          have hstep : cD o (m + 1) = cD o m ++ dtL (o.D m) := rfl
          have hnx := SM.out.lD (m := m + 1) (by omega)
          have hpre := SM.out.pD
          obtain ⟨dd, hdd⟩ : ∃ d, o.D m = d := ⟨_, rfl⟩
          rw [hdd] at hstep x0 x1 s1 s2
          obtain ⟨nm, bs⟩ := dd
          have hst2 : cD o (m + 1) = cD o m ++ dtL ⟨nm, bs⟩ := hstep
          have x0 : wr.cell? ⟨bb, oo + m * 2, none⟩ = some (.string nm) := x0
          have x1 : wr.cell? ⟨bb, oo + m * 2 + 1, none⟩ = some (.string bs) := x1
          have s1 : nm.size ≤ 20 := s1
          have s2 : bs.size ≤ 64 := s2
          have HST : Hid (cD o (m + 1) = cD o m ++ dtL ⟨nm, bs⟩) := hst2
          rw [hpf] at j3
          clear hpf
          obtain ⟨tA, htA⟩ : ∃ t, leT nm.size 1 ++ nm = t := ⟨_, rfl⟩
          have cA : ∀ W : World, Calls Try.prog 92 #[.string nm] W fun e w' => e = .returned (.string tA) ∧ Below W.heap.size W w' := fun W => by rw [← htA]; exact nameT2 nm W (by omega)
          have dA : tA.data.toList = leN nm.size 1 ++ nm.data.toList := by rw [← htA, app_data, leT_N]
          have zA : tA.size = nm.size + 1 := by rw [← htA, ByteArray.size_append, leT_size]; omega
          have CA : Hid (∀ W : World, _) := cA
          obtain ⟨tB, htB⟩ : ∃ t, leT bs.size 1 ++ bs = t := ⟨_, rfl⟩
          have cB : ∀ W : World, Calls Try.prog 92 #[.string bs] W fun e w' => e = .returned (.string tB) ∧ Below W.heap.size W w' := fun W => by rw [← htB]; exact nameT2 bs W (by omega)
          have dB : tB.data.toList = leN bs.size 1 ++ bs.data.toList := by rw [← htB, app_data, leT_N]
          have zB : tB.size = bs.size + 1 := by rw [← htB, ByteArray.size_append, leT_size]; omega
          have CB : Hid (∀ W : World, _) := cB
          clear cA cB
          have av1 := addT tA tB (by omega)
          obtain ⟨v1, gv1⟩ : ∃ v, tA ++ tB = v := ⟨_, rfl⟩
          rw [gv1] at av1
          have yv1 : v1.size = tA.size + tB.size := by rw [← gv1, ByteArray.size_append]
          have xv1 : v1.data.toList = tA.data.toList ++ tB.data.toList := by rw [← gv1, app_data]
          clear gv1
          have aT := addT T v1 (by omega)
          obtain ⟨T2, gT⟩ : ∃ v, T ++ v1 = v := ⟨_, rfl⟩
          rw [gT] at aT
          have hd2 : T2.data.toList = preD o ++ cD o (m + 1) := by
            rw [HST.out, ← gT, app_data, HT.out, List.append_assoc]
            congr 2
            rw [xv1, dA, dB]
            unfold dtL
            simp only [List.append_assoc]
          have hT2 : T2.size ≤ 2500 := by rw [← len_toList, hd2, List.length_append]; omega
          have HD2 : Hid (T2.data.toList = preD o ++ cD o (m + 1)) := hd2
          have HBr : Hid (Below Wx.heap.size Wx wr) := hB
          clear hd2 gT hst2 hstep hdd htA dA htB dB hnx hpre HT HST xv1
          have HLr : Hid (Lies wr X 36 (objC o q)) := lr
          have hXr := lr.lt
          have HV : Hid (VRow wr bb oo (o.nd * 2) (datV o.D)) := hp1
          have hm0 : (0 : Int) ≤ (m : Int) := by omega
          have hm1 : (m : Int) < (o.nd : Int) := by omega
          clear lr hB hp1
          go_wp2_with fail
          go_region_held3 (fun w' => w'.cell? ⟨X, 3, none⟩ = some (.slice (some ⟨bb, oo, none⟩) o.nd q.kd) ∧ w'.cell? ⟨bb, oo + m * 2, none⟩ = some (.string nm) ∧ w'.cell? ⟨bb, oo + m * 2 + 1, none⟩ = some (.string bs)) (go_keep) (first | (go_at_call 92; (with_reducible refine (CA.out _).mono ?_); rintro e uA ⟨rfl, hbn⟩; have bc : Below wr.heap.size wr uA := (by first | exact bc.trans (hbn.mono bc.size) | exact (Below.refl wr.heap.size wr).drew.trans hbn | exact hbn); have f9 := (bc.cell (p := ⟨X, 3, none⟩) hXr).trans j3; have f0 := (bc.cell (p := ⟨bb, oo + m * 2, none⟩) hbb).trans x0; have f1 := (bc.cell (p := ⟨bb, oo + m * 2 + 1, none⟩) hbb).trans x1; clear hbn CA) | (go_at_call 92; (with_reducible refine (CB.out _).mono ?_); rintro e uB ⟨rfl, hbn⟩; have bc : Below wr.heap.size wr uB := (by first | exact bc.trans (hbn.mono bc.size) | exact (Below.refl wr.heap.size wr).drew.trans hbn | exact hbn); have f9 := (bc.cell (p := ⟨X, 3, none⟩) hXr).trans j3; have f0 := (bc.cell (p := ⟨bb, oo + m * 2, none⟩) hbb).trans x0; have f1 := (bc.cell (p := ⟨bb, oo + m * 2 + 1, none⟩) hbb).trans x1; clear hbn CB))
          have HB9 : Hid (Below Wx.heap.size Wx uB) := HBr.out.trans (bc.mono HBr.out.size)
          clear bc
          go_wp2_with fail
          go_roundw
          case rel =>
            first
              | exact ⟨m + 1, T2, by omega, by go_num, rfl, hT2, HD2, HB9.out⟩
              | ((repeat apply Exists.intro); exact ⟨⟨m + 1, T2, by omega, by go_num, rfl, hT2, HD2, HB9.out⟩, rfl⟩)
          case measure => simp [intOf]; omega
        · obtain rfl : m = o.nd := by omega
          have HTm : Hid (T.data.toList = preD o ++ cD o o.nd) := HT
          have hl1 := SM.out.lD (Nat.le_refl o.nd)
          have hl0 := SM.out.pD
          have hTs : T.size ≤ 2450 := by rw [← len_toList, HTm.out, List.length_append]; omega
          clear hl0 hl1
          obtain ⟨tA, htA⟩ : ∃ t, leT ((o.nr : Int)) 1 = t := ⟨_, rfl⟩
          have cA : ∀ W : World, Calls Try.prog 93 #[.int .i64 ((o.nr : Int)), .int .i64 1] W fun e w' => e = .returned (.string tA) ∧ Below W.heap.size W w' := fun W => by rw [← htA]; exact litT ((o.nr : Int)) 1 W (by omega)
          have dA : tA.data.toList = leN ((o.nr : Int)) 1 := by rw [← htA, leT_N]
          have zA : tA.size = 1 := by rw [← htA, leT_size]
          have CA : Hid (∀ W : World, _) := cA
          clear cA
          have aT := addT T tA (by omega)
          obtain ⟨T1, gT⟩ : ∃ v, T ++ tA = v := ⟨_, rfl⟩
          rw [gT] at aT
          have HT1 : Hid (T1.data.toList = preR o) := by
            show T1.data.toList = _
            rw [← gT, app_data, HTm.out, dA]
            rfl
          have hT1 : T1.size ≤ 2500 := by rw [← gT, ByteArray.size_append]; omega
          have HBr : Hid (Below Wx.heap.size Wx wr) := hB
          have j4' := obj4 lr
          clear gT htA dA HTm HT hB
          go_wp2_with fail
          refine (CA.out _).mono ?_
          rintro e W9 ⟨rfl, hbn⟩
          have b9 := HBr.out.trans (hbn.mono HBr.out.size)
          have nA : Below w.heap.size w W9 := HAx.out.trans (b9.mono HAx.out.size)
          have nL := HL.out.below b9 hltx
          have nO := HO.out.below b9
          clear HAx HL HO hltx lr j3 j4' hbn b9 HBr CA
          have HAx : Hid (Below w.heap.size w W9) := nA
          have HL : Hid (Lies W9 X 36 (objC o q)) := nL
          have HO : Hid (ObjAt W9 q o) := nO
          have hltx := nL.lt
          clear nA nL nO
          clear hT0 HT0
          obtain ⟨Wx, rfl⟩ : ∃ W, W = W9 := ⟨_, rfl⟩
          obtain ⟨T0, rfl⟩ : ∃ T, T = T1 := ⟨_, rfl⟩
          have hT0 := hT1
          have HT0 := HT1
          clear hT1 HT1
          go_wp2_with fail
          go_loopw [3, 7] (fun t i wr => ∃ (m : Nat) (T : ByteArray), m ≤ o.nr ∧ i = .int .i64 m ∧ t = .string T ∧ T.size ≤ 2500 ∧ Hid (T.data.toList = preR o ++ cR o m) ∧ Below Wx.heap.size Wx wr) (fun _ i _ => o.nr - (intOf i).toNat)
          case atStart => exact ⟨0, T0, Nat.zero_le _, rfl, rfl, hT0, by rw [show cR o 0 = [] from rfl, List.append_nil]; exact HT0, Below.refl _ _⟩
          case round =>
            obtain ⟨m, T, hm, rfl, rfl, hT, HT, hB⟩ := hrel
            have lr := HL.out.below hB hltx
            have j4 := obj4 lr
            by_cases hlt : m < o.nr
            · rcases (HO.out.below hB).r with hp1 | ⟨bb, oo, hpf, hbb, hp1⟩
              · omega
              obtain ⟨x0, x1, x2, x3, x4⟩ := hp1.rel hlt
              have hszl : T.size ≤ 2500 := hT
              have s1 := SM.out.r m hlt
              have hstep : cR o (m + 1) = cR o m ++ rlL (o.R m) := rfl
              have hnx := SM.out.lR (m := m + 1) (by omega)
              have hpre := SM.out.pR
              obtain ⟨dd, hdd⟩ : ∃ d, o.R m = d := ⟨_, rfl⟩
              rw [hdd] at hstep x0 x1 x2 x3 x4 s1
              obtain ⟨un, pl, kd, sy, ad⟩ := dd
              have hst2 : cR o (m + 1) = cR o m ++ rlL ⟨un, pl, kd, sy, ad⟩ := hstep
              have x0 : wr.cell? ⟨bb, oo + m * 5, none⟩ = some (.int .i64 un) := x0
              have x1 : wr.cell? ⟨bb, oo + m * 5 + 1, none⟩ = some (.int .i64 pl) := x1
              have x2 : wr.cell? ⟨bb, oo + m * 5 + 2, none⟩ = some (.int .i64 kd) := x2
              have x3 : wr.cell? ⟨bb, oo + m * 5 + 3, none⟩ = some (.string sy) := x3
              have x4 : wr.cell? ⟨bb, oo + m * 5 + 4, none⟩ = some (.int .i64 ad) := x4
              have s1 : sy.size ≤ 20 := s1
              have HST : Hid (cR o (m + 1) = cR o m ++ rlL ⟨un, pl, kd, sy, ad⟩) := hst2
              rw [hpf] at j4
              clear hpf
              obtain ⟨tA, htA⟩ : ∃ t, leT (un) 1 = t := ⟨_, rfl⟩
              have cA : ∀ W : World, Calls Try.prog 93 #[.int .i64 (un), .int .i64 1] W fun e w' => e = .returned (.string tA) ∧ Below W.heap.size W w' := fun W => by rw [← htA]; exact litT (un) 1 W (by omega)
              have dA : tA.data.toList = leN (un) 1 := by rw [← htA, leT_N]
              have zA : tA.size = 1 := by rw [← htA, leT_size]
              have CA : Hid (∀ W : World, _) := cA
              obtain ⟨tB, htB⟩ : ∃ t, leT (pl) 1 = t := ⟨_, rfl⟩
              have cB : ∀ W : World, Calls Try.prog 93 #[.int .i64 (pl), .int .i64 1] W fun e w' => e = .returned (.string tB) ∧ Below W.heap.size W w' := fun W => by rw [← htB]; exact litT (pl) 1 W (by omega)
              have dB : tB.data.toList = leN (pl) 1 := by rw [← htB, leT_N]
              have zB : tB.size = 1 := by rw [← htB, leT_size]
              have CB : Hid (∀ W : World, _) := cB
              obtain ⟨tC, htC⟩ : ∃ t, leT (kd) 1 = t := ⟨_, rfl⟩
              have cC : ∀ W : World, Calls Try.prog 93 #[.int .i64 (kd), .int .i64 1] W fun e w' => e = .returned (.string tC) ∧ Below W.heap.size W w' := fun W => by rw [← htC]; exact litT (kd) 1 W (by omega)
              have dC : tC.data.toList = leN (kd) 1 := by rw [← htC, leT_N]
              have zC : tC.size = 1 := by rw [← htC, leT_size]
              have CC : Hid (∀ W : World, _) := cC
              obtain ⟨tE, htE⟩ : ∃ t, leT sy.size 1 ++ sy = t := ⟨_, rfl⟩
              have cE : ∀ W : World, Calls Try.prog 92 #[.string sy] W fun e w' => e = .returned (.string tE) ∧ Below W.heap.size W w' := fun W => by rw [← htE]; exact nameT2 sy W (by omega)
              have dE : tE.data.toList = leN sy.size 1 ++ sy.data.toList := by rw [← htE, app_data, leT_N]
              have zE : tE.size = sy.size + 1 := by rw [← htE, ByteArray.size_append, leT_size]; omega
              have CE : Hid (∀ W : World, _) := cE
              obtain ⟨tG, htG⟩ : ∃ t, leT (ad) 4 = t := ⟨_, rfl⟩
              have cG : ∀ W : World, Calls Try.prog 93 #[.int .i64 (ad), .int .i64 4] W fun e w' => e = .returned (.string tG) ∧ Below W.heap.size W w' := fun W => by rw [← htG]; exact litT (ad) 4 W (by omega)
              have dG : tG.data.toList = leN (ad) 4 := by rw [← htG, leT_N]
              have zG : tG.size = 4 := by rw [← htG, leT_size]
              have CG : Hid (∀ W : World, _) := cG
              clear cA cB cC cE cG
              have av1 := addT tA tB (by omega)
              obtain ⟨v1, gv1⟩ : ∃ v, tA ++ tB = v := ⟨_, rfl⟩
              rw [gv1] at av1
              have yv1 : v1.size = tA.size + tB.size := by rw [← gv1, ByteArray.size_append]
              have xv1 : v1.data.toList = tA.data.toList ++ tB.data.toList := by rw [← gv1, app_data]
              clear gv1
              have av2 := addT v1 tC (by omega)
              obtain ⟨v2, gv2⟩ : ∃ v, v1 ++ tC = v := ⟨_, rfl⟩
              rw [gv2] at av2
              have yv2 : v2.size = v1.size + tC.size := by rw [← gv2, ByteArray.size_append]
              have xv2 : v2.data.toList = v1.data.toList ++ tC.data.toList := by rw [← gv2, app_data]
              clear gv2
              have av3 := addT v2 tE (by omega)
              obtain ⟨v3, gv3⟩ : ∃ v, v2 ++ tE = v := ⟨_, rfl⟩
              rw [gv3] at av3
              have yv3 : v3.size = v2.size + tE.size := by rw [← gv3, ByteArray.size_append]
              have xv3 : v3.data.toList = v2.data.toList ++ tE.data.toList := by rw [← gv3, app_data]
              clear gv3
              have av4 := addT v3 tG (by omega)
              obtain ⟨v4, gv4⟩ : ∃ v, v3 ++ tG = v := ⟨_, rfl⟩
              rw [gv4] at av4
              have yv4 : v4.size = v3.size + tG.size := by rw [← gv4, ByteArray.size_append]
              have xv4 : v4.data.toList = v3.data.toList ++ tG.data.toList := by rw [← gv4, app_data]
              clear gv4
              have aT := addT T v4 (by omega)
              obtain ⟨T2, gT⟩ : ∃ v, T ++ v4 = v := ⟨_, rfl⟩
              rw [gT] at aT
              have hd2 : T2.data.toList = preR o ++ cR o (m + 1) := by
                rw [HST.out, ← gT, app_data, HT.out, List.append_assoc]
                congr 2
                rw [xv4, xv3, xv2, xv1, dA, dB, dC, dE, dG]
                unfold rlL
                simp only [List.append_assoc]
              have hT2 : T2.size ≤ 2500 := by rw [← len_toList, hd2, List.length_append]; omega
              have HD2 : Hid (T2.data.toList = preR o ++ cR o (m + 1)) := hd2
              have HBr : Hid (Below Wx.heap.size Wx wr) := hB
              clear hd2 gT hst2 hstep hdd htA dA htB dB htC dC htE dE htG dG hnx hpre HT HST xv1 xv2 xv3 xv4
              have bX := grown1' wr (.cells #[.int .i64 un, .int .i64 pl, .int .i64 kd, .string sy, .int .i64 ad] 96)
              have lX := Lies.new wr #[.int .i64 un, .int .i64 pl, .int .i64 kd, .string sy, .int .i64 ad] 96
              go_wp2_with fail
              obtain ⟨W1, hW1⟩ : ∃ W, wr.alloc (.cells #[.int .i64 un, .int .i64 pl, .int .i64 kd, .string sy, .int .i64 ad] 96) = W := ⟨_, rfl⟩
              obtain ⟨Y, hY⟩ : ∃ Y, wr.heap.size = Y := ⟨_, rfl⟩
              rw [hW1] at bX lX ⊢
              rw [hY] at lX ⊢
              have HB1 : Hid (Below Wx.heap.size Wx W1) := HBr.out.trans (bX.mono HBr.out.size)
              have HLX : Hid (Lies W1 Y 96 #[.int .i64 un, .int .i64 pl, .int .i64 kd, .string sy, .int .i64 ad]) := lX
              have hYl := lX.lt
              have s0x : W1.cell? ⟨Y, 0, none⟩ = some (.int .i64 un) := lX.cell (j := 0) rfl
              have s1x : W1.cell? ⟨Y, 1, none⟩ = some (.int .i64 pl) := lX.cell (j := 1) rfl
              have s2x : W1.cell? ⟨Y, 2, none⟩ = some (.int .i64 kd) := lX.cell (j := 2) rfl
              have s3x : W1.cell? ⟨Y, 3, none⟩ = some (.string sy) := lX.cell (j := 3) rfl
              have s4x : W1.cell? ⟨Y, 4, none⟩ = some (.int .i64 ad) := lX.cell (j := 4) rfl
              clear bX lX hW1 hY hB lr j4 hp1 x0 x1 x2 x3 x4
              go_region_held3 (fun w' => w'.cell? ⟨Y, 0, none⟩ = some (.int .i64 un) ∧ w'.cell? ⟨Y, 1, none⟩ = some (.int .i64 pl) ∧ w'.cell? ⟨Y, 2, none⟩ = some (.int .i64 kd) ∧ w'.cell? ⟨Y, 3, none⟩ = some (.string sy) ∧ w'.cell? ⟨Y, 4, none⟩ = some (.int .i64 ad)) (go_keep) (first | (go_at_call 93; (with_reducible refine (CA.out _).mono ?_); rintro e uA ⟨rfl, hbn⟩; have bc : Below W1.heap.size W1 uA := (by first | exact bc.trans (hbn.mono bc.size) | exact (Below.refl W1.heap.size W1).drew.trans hbn | exact hbn); have lc := HLX.out.below bc hYl; have f0 : World.cell? _ ⟨Y, 0, none⟩ = some (.int .i64 un) := lc.cell (j := 0) rfl; have f1 : World.cell? _ ⟨Y, 1, none⟩ = some (.int .i64 pl) := lc.cell (j := 1) rfl; have f2 : World.cell? _ ⟨Y, 2, none⟩ = some (.int .i64 kd) := lc.cell (j := 2) rfl; have f3 : World.cell? _ ⟨Y, 3, none⟩ = some (.string sy) := lc.cell (j := 3) rfl; have f4 : World.cell? _ ⟨Y, 4, none⟩ = some (.int .i64 ad) := lc.cell (j := 4) rfl; clear hbn CA) | (go_at_call 93; (with_reducible refine (CB.out _).mono ?_); rintro e uB ⟨rfl, hbn⟩; have bc : Below W1.heap.size W1 uB := (by first | exact bc.trans (hbn.mono bc.size) | exact (Below.refl W1.heap.size W1).drew.trans hbn | exact hbn); have lc := HLX.out.below bc hYl; have f0 : World.cell? _ ⟨Y, 0, none⟩ = some (.int .i64 un) := lc.cell (j := 0) rfl; have f1 : World.cell? _ ⟨Y, 1, none⟩ = some (.int .i64 pl) := lc.cell (j := 1) rfl; have f2 : World.cell? _ ⟨Y, 2, none⟩ = some (.int .i64 kd) := lc.cell (j := 2) rfl; have f3 : World.cell? _ ⟨Y, 3, none⟩ = some (.string sy) := lc.cell (j := 3) rfl; have f4 : World.cell? _ ⟨Y, 4, none⟩ = some (.int .i64 ad) := lc.cell (j := 4) rfl; clear hbn CB) | (go_at_call 93; (with_reducible refine (CC.out _).mono ?_); rintro e uC ⟨rfl, hbn⟩; have bc : Below W1.heap.size W1 uC := (by first | exact bc.trans (hbn.mono bc.size) | exact (Below.refl W1.heap.size W1).drew.trans hbn | exact hbn); have lc := HLX.out.below bc hYl; have f0 : World.cell? _ ⟨Y, 0, none⟩ = some (.int .i64 un) := lc.cell (j := 0) rfl; have f1 : World.cell? _ ⟨Y, 1, none⟩ = some (.int .i64 pl) := lc.cell (j := 1) rfl; have f2 : World.cell? _ ⟨Y, 2, none⟩ = some (.int .i64 kd) := lc.cell (j := 2) rfl; have f3 : World.cell? _ ⟨Y, 3, none⟩ = some (.string sy) := lc.cell (j := 3) rfl; have f4 : World.cell? _ ⟨Y, 4, none⟩ = some (.int .i64 ad) := lc.cell (j := 4) rfl; clear hbn CC) | (go_at_call 92; (with_reducible refine (CE.out _).mono ?_); rintro e uE ⟨rfl, hbn⟩; have bc : Below W1.heap.size W1 uE := (by first | exact bc.trans (hbn.mono bc.size) | exact (Below.refl W1.heap.size W1).drew.trans hbn | exact hbn); have lc := HLX.out.below bc hYl; have f0 : World.cell? _ ⟨Y, 0, none⟩ = some (.int .i64 un) := lc.cell (j := 0) rfl; have f1 : World.cell? _ ⟨Y, 1, none⟩ = some (.int .i64 pl) := lc.cell (j := 1) rfl; have f2 : World.cell? _ ⟨Y, 2, none⟩ = some (.int .i64 kd) := lc.cell (j := 2) rfl; have f3 : World.cell? _ ⟨Y, 3, none⟩ = some (.string sy) := lc.cell (j := 3) rfl; have f4 : World.cell? _ ⟨Y, 4, none⟩ = some (.int .i64 ad) := lc.cell (j := 4) rfl; clear hbn CE) | (go_at_call 93; (with_reducible refine (CG.out _).mono ?_); rintro e uG ⟨rfl, hbn⟩; have bc : Below W1.heap.size W1 uG := (by first | exact bc.trans (hbn.mono bc.size) | exact (Below.refl W1.heap.size W1).drew.trans hbn | exact hbn); have lc := HLX.out.below bc hYl; have f0 : World.cell? _ ⟨Y, 0, none⟩ = some (.int .i64 un) := lc.cell (j := 0) rfl; have f1 : World.cell? _ ⟨Y, 1, none⟩ = some (.int .i64 pl) := lc.cell (j := 1) rfl; have f2 : World.cell? _ ⟨Y, 2, none⟩ = some (.int .i64 kd) := lc.cell (j := 2) rfl; have f3 : World.cell? _ ⟨Y, 3, none⟩ = some (.string sy) := lc.cell (j := 3) rfl; have f4 : World.cell? _ ⟨Y, 4, none⟩ = some (.int .i64 ad) := lc.cell (j := 4) rfl; clear hbn CG))
              have HB9 : Hid (Below Wx.heap.size Wx uG) := HB1.out.trans (bc.mono HB1.out.size)
              clear bc
              go_wp2_with fail
              go_roundw
              case rel =>
                first
                  | exact ⟨m + 1, T2, by omega, by go_num, rfl, hT2, HD2, HB9.out⟩
                  | ((repeat apply Exists.intro); exact ⟨⟨m + 1, T2, by omega, by go_num, rfl, hT2, HD2, HB9.out⟩, rfl⟩)
              case measure => simp [intOf]; omega
            · obtain rfl : m = o.nr := by omega
              have HTm : Hid (T.data.toList = preR o ++ cR o o.nr) := HT
              have hl1 := SM.out.lR (Nat.le_refl o.nr)
              have hl0 := SM.out.pR
              have hTs : T.size ≤ 2450 := by rw [← len_toList, HTm.out, List.length_append]; omega
              clear hl0 hl1
              obtain ⟨tA, htA⟩ : ∃ t, leT ((o.ns : Int)) 1 = t := ⟨_, rfl⟩
              have cA : ∀ W : World, Calls Try.prog 93 #[.int .i64 ((o.ns : Int)), .int .i64 1] W fun e w' => e = .returned (.string tA) ∧ Below W.heap.size W w' := fun W => by rw [← htA]; exact litT ((o.ns : Int)) 1 W (by omega)
              have dA : tA.data.toList = leN ((o.ns : Int)) 1 := by rw [← htA, leT_N]
              have zA : tA.size = 1 := by rw [← htA, leT_size]
              have CA : Hid (∀ W : World, _) := cA
              clear cA
              have aT := addT T tA (by omega)
              obtain ⟨T1, gT⟩ : ∃ v, T ++ tA = v := ⟨_, rfl⟩
              rw [gT] at aT
              have HT1 : Hid (T1.data.toList = preS o) := by
                show T1.data.toList = _
                rw [← gT, app_data, HTm.out, dA]
                rfl
              have hT1 : T1.size ≤ 2500 := by rw [← gT, ByteArray.size_append]; omega
              have HBr : Hid (Below Wx.heap.size Wx wr) := hB
              have j5' := obj5 lr
              clear gT htA dA HTm HT hB
              go_wp2_with fail
              refine (CA.out _).mono ?_
              rintro e W9 ⟨rfl, hbn⟩
              have b9 := HBr.out.trans (hbn.mono HBr.out.size)
              have nA : Below w.heap.size w W9 := HAx.out.trans (b9.mono HAx.out.size)
              have nL := HL.out.below b9 hltx
              have nO := HO.out.below b9
              clear HAx HL HO hltx lr j4 j5' hbn b9 HBr CA
              have HAx : Hid (Below w.heap.size w W9) := nA
              have HL : Hid (Lies W9 X 36 (objC o q)) := nL
              have HO : Hid (ObjAt W9 q o) := nO
              have hltx := nL.lt
              clear nA nL nO
              clear hT0 HT0
              obtain ⟨Wx, rfl⟩ : ∃ W, W = W9 := ⟨_, rfl⟩
              obtain ⟨T0, rfl⟩ : ∃ T, T = T1 := ⟨_, rfl⟩
              have hT0 := hT1
              have HT0 := HT1
              clear hT1 HT1
              go_wp2_with fail
              go_loopw [3, 9] (fun t i wr => ∃ (m : Nat) (T : ByteArray), m ≤ o.ns ∧ i = .int .i64 m ∧ t = .string T ∧ T.size ≤ 2500 ∧ Hid (T.data.toList = preS o ++ cS o m) ∧ Below Wx.heap.size Wx wr) (fun _ i _ => o.ns - (intOf i).toNat)
              case atStart => exact ⟨0, T0, Nat.zero_le _, rfl, rfl, hT0, by rw [show cS o 0 = [] from rfl, List.append_nil]; exact HT0, Below.refl _ _⟩
              case round =>
                obtain ⟨m, T, hm, rfl, rfl, hT, HT, hB⟩ := hrel
                have lr := HL.out.below hB hltx
                have j5 := obj5 lr
                by_cases hlt : m < o.ns
                · rcases (HO.out.below hB).s with hp1 | ⟨bb, oo, hpf, hbb, hp1⟩
                  · omega
                  obtain ⟨x0, x1⟩ := hp1.sha hlt
                  have hszl : T.size ≤ 2500 := hT
                  have hstep : cS o (m + 1) = cS o m ++ shL (o.S m) := rfl
                  have hnx := SM.out.lS (m := m + 1) (by omega)
                  have hpre := SM.out.pS
                  obtain ⟨dd, hdd⟩ : ∃ d, o.S m = d := ⟨_, rfl⟩
                  rw [hdd] at hstep x0 x1
                  obtain ⟨id, fe⟩ := dd
                  have hst2 : cS o (m + 1) = cS o m ++ shL ⟨id, fe⟩ := hstep
                  have x0 : wr.cell? ⟨bb, oo + m * 2, none⟩ = some (.int .i64 id) := x0
                  have x1 : wr.cell? ⟨bb, oo + m * 2 + 1, none⟩ = some (.bool fe) := x1
                  have HST : Hid (cS o (m + 1) = cS o m ++ shL ⟨id, fe⟩) := hst2
                  rw [hpf] at j5
                  clear hpf
                  obtain ⟨tA, htA⟩ : ∃ t, leT (id) 1 = t := ⟨_, rfl⟩
                  have cA : ∀ W : World, Calls Try.prog 93 #[.int .i64 (id), .int .i64 1] W fun e w' => e = .returned (.string tA) ∧ Below W.heap.size W w' := fun W => by rw [← htA]; exact litT (id) 1 W (by omega)
                  have dA : tA.data.toList = leN (id) 1 := by rw [← htA, leT_N]
                  have zA : tA.size = 1 := by rw [← htA, leT_size]
                  have CA : Hid (∀ W : World, _) := cA
                  obtain ⟨iB, hiB⟩ : ∃ i, bitI fe = i := ⟨_, rfl⟩
                  have cB : ∀ W : World, Calls Try.prog 94 #[.bool fe] W fun e w' => e = .returned (.int .i64 iB) ∧ Below W.heap.size W w' := fun W => by rw [← hiB]; exact bitS fe W
                  have CB : Hid (∀ W : World, _) := cB
                  obtain ⟨tC, htC⟩ : ∃ t, leT (iB) 1 = t := ⟨_, rfl⟩
                  have cC : ∀ W : World, Calls Try.prog 93 #[.int .i64 (iB), .int .i64 1] W fun e w' => e = .returned (.string tC) ∧ Below W.heap.size W w' := fun W => by rw [← htC]; exact litT (iB) 1 W (by omega)
                  have dC : tC.data.toList = leN (iB) 1 := by rw [← htC, leT_N]
                  have zC : tC.size = 1 := by rw [← htC, leT_size]
                  have CC : Hid (∀ W : World, _) := cC
                  clear cA cB cC
                  have av1 := addT tA tC (by omega)
                  obtain ⟨v1, gv1⟩ : ∃ v, tA ++ tC = v := ⟨_, rfl⟩
                  rw [gv1] at av1
                  have yv1 : v1.size = tA.size + tC.size := by rw [← gv1, ByteArray.size_append]
                  have xv1 : v1.data.toList = tA.data.toList ++ tC.data.toList := by rw [← gv1, app_data]
                  clear gv1
                  have aT := addT T v1 (by omega)
                  obtain ⟨T2, gT⟩ : ∃ v, T ++ v1 = v := ⟨_, rfl⟩
                  rw [gT] at aT
                  have hd2 : T2.data.toList = preS o ++ cS o (m + 1) := by
                    rw [HST.out, ← gT, app_data, HT.out, List.append_assoc]
                    congr 2
                    rw [xv1, dA, dC]
                    unfold shL
                    simp only [hiB]
                  have hT2 : T2.size ≤ 2500 := by rw [← len_toList, hd2, List.length_append]; omega
                  have HD2 : Hid (T2.data.toList = preS o ++ cS o (m + 1)) := hd2
                  have HBr : Hid (Below Wx.heap.size Wx wr) := hB
                  clear hd2 gT hst2 hstep hdd htA dA hiB htC dC hnx hpre HT HST xv1
                  have HLr : Hid (Lies wr X 36 (objC o q)) := lr
                  have hXr := lr.lt
                  have HV : Hid (VRow wr bb oo (o.ns * 2) (shaV o.S)) := hp1
                  have hm0 : (0 : Int) ≤ (m : Int) := by omega
                  have hm1 : (m : Int) < (o.ns : Int) := by omega
                  clear lr hB hp1
                  go_wp2_with fail
                  go_region_held3 (fun w' => w'.cell? ⟨X, 5, none⟩ = some (.slice (some ⟨bb, oo, none⟩) o.ns q.ks) ∧ w'.cell? ⟨bb, oo + m * 2, none⟩ = some (.int .i64 id) ∧ w'.cell? ⟨bb, oo + m * 2 + 1, none⟩ = some (.bool fe)) (go_keep) (first | (go_at_call 93; (with_reducible refine (CA.out _).mono ?_); rintro e uA ⟨rfl, hbn⟩; have bc : Below wr.heap.size wr uA := (by first | exact bc.trans (hbn.mono bc.size) | exact (Below.refl wr.heap.size wr).drew.trans hbn | exact hbn); have f9 := (bc.cell (p := ⟨X, 5, none⟩) hXr).trans j5; have f0 := (bc.cell (p := ⟨bb, oo + m * 2, none⟩) hbb).trans x0; have f1 := (bc.cell (p := ⟨bb, oo + m * 2 + 1, none⟩) hbb).trans x1; clear hbn CA) | (go_at_call 94; (with_reducible refine (CB.out _).mono ?_); rintro e uB ⟨rfl, hbn⟩; have bc : Below wr.heap.size wr uB := (by first | exact bc.trans (hbn.mono bc.size) | exact (Below.refl wr.heap.size wr).drew.trans hbn | exact hbn); have f9 := (bc.cell (p := ⟨X, 5, none⟩) hXr).trans j5; have f0 := (bc.cell (p := ⟨bb, oo + m * 2, none⟩) hbb).trans x0; have f1 := (bc.cell (p := ⟨bb, oo + m * 2 + 1, none⟩) hbb).trans x1; clear hbn CB) | (go_at_call 93; (with_reducible refine (CC.out _).mono ?_); rintro e uC ⟨rfl, hbn⟩; have bc : Below wr.heap.size wr uC := (by first | exact bc.trans (hbn.mono bc.size) | exact (Below.refl wr.heap.size wr).drew.trans hbn | exact hbn); have f9 := (bc.cell (p := ⟨X, 5, none⟩) hXr).trans j5; have f0 := (bc.cell (p := ⟨bb, oo + m * 2, none⟩) hbb).trans x0; have f1 := (bc.cell (p := ⟨bb, oo + m * 2 + 1, none⟩) hbb).trans x1; clear hbn CC))
                  have HB9 : Hid (Below Wx.heap.size Wx uC) := HBr.out.trans (bc.mono HBr.out.size)
                  clear bc
                  go_wp2_with fail
                  go_roundw
                  case rel =>
                    first
                      | exact ⟨m + 1, T2, by omega, by go_num, rfl, hT2, HD2, HB9.out⟩
                      | ((repeat apply Exists.intro); exact ⟨⟨m + 1, T2, by omega, by go_num, rfl, hT2, HD2, HB9.out⟩, rfl⟩)
                  case measure => simp [intOf]; omega
                · obtain rfl : m = o.ns := by omega
                  have HTm : Hid (T.data.toList = preS o ++ cS o o.ns) := HT
                  have hl1 := SM.out.lS (Nat.le_refl o.ns)
                  have hl0 := SM.out.pS
                  have hTs : T.size ≤ 2450 := by rw [← len_toList, HTm.out, List.length_append]; omega
                  obtain ⟨x, hx, hx1⟩ : ∃ x : Nat, sumL (objL o) = (x : Int) ∧ x < 65521 := by
                    obtain ⟨h0, h1⟩ := sumL_bd (objL o)
                    exact ⟨(sumL (objL o)).toNat, by omega, by omega⟩
                  have cs := fun w' => specSum0_any T w' (by omega)
                  rw [show T.data.toList = objL o from HTm.out, hx] at cs
                  have CS : Hid (∀ W : World, _) := cs
                  clear cs
                  obtain ⟨tA, htA⟩ : ∃ t, leT ((x : Int)) 4 = t := ⟨_, rfl⟩
                  have cA : ∀ W : World, Calls Try.prog 93 #[.int .i64 ((x : Int)), .int .i64 4] W fun e w' => e = .returned (.string tA) ∧ Below W.heap.size W w' := fun W => by rw [← htA]; exact litT ((x : Int)) 4 W (by omega)
                  have dA : tA.data.toList = leN ((x : Int)) 4 := by rw [← htA, leT_N]
                  have zA : tA.size = 4 := by rw [← htA, leT_size]
                  have CA : Hid (∀ W : World, _) := cA
                  clear cA
                  have ds : T ++ tA = ⟨(sealL (objL o)).toArray⟩ := bytes_eq (by rw [app_data, show T.data.toList = objL o from HTm.out, dA]; unfold sealL; rw [hx]; rfl)
                  have DS : Hid (T ++ tA = ⟨(sealL (objL o)).toArray⟩) := ds
                  have aT := addT T tA (by omega)
                  have HBr : Hid (Below w.heap.size w wr) := HAx.out.trans (hB.mono HAx.out.size)
                  clear ds hx htA dA hB HT HTm hl0 hl1
                  go_wp2_with fail
                  refine (CS.out _).mono ?_
                  rintro e W9 ⟨rfl, rfl⟩
                  go_wp2_with fail
                  refine (CA.out _).mono ?_
                  rintro e W9 ⟨rfl, hbn⟩
                  have HB9 : Hid (Below w.heap.size w W9) := HBr.out.trans (hbn.mono HBr.out.size)
                  clear hbn
                  go_wp2_with fail
                  go_ret
                  exact ⟨by show Ending.returned (.string (T ++ tA)) = _; rw [DS.out], HB9.out⟩
end Go.Proofs.Ytdcjddiigipdmaa
