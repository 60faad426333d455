/- A shadow variable is laid down, set, read, freed: at whatever list is drawn, in its order, of 16 at most, the program's AllocShadow answers as its model; where the key stands or the list is full the list stays; what was laid is read back, what was freed is gone, and the others read as they did; no condition. -/
import Derived.Test.YtibepggakjfbcaaSrcR
import Derived.Test.YtibepggakjfbcaaDrvF
import Derived.Test.YtibepggakjfbcaaDrvG
import Derived.WalkKit
import Derived.ProofKit
import Derived.OpenShut
import Derived.ShutString
import Derived.ChangeOld
import Derived.Below
namespace Go.Proofs.Ytibepggakjfbcaa.fnShadows
open Go.RowKit Go.ChangeShapes Go.WideShapes Go.ChangeAt Go.RowKit
open Go.ChangeMaps (open_string shut_string)
set_option linter.unusedVariables false

theorem own : ownKnob Try.prog.godebug = none := by kernel_rfl
theorem laidOut : laidOutB Try.prog = true := by kernel_rfl

/-- WHAT THE WALK IS TOLD OF A SLICE OF INTEGERS THAT CAME IN: it is nil; or it leads to a row of 'cap' cells, the numbers 'zs' (the first 'len' are its elements, the rest its spare room), each fitting its kind. -/
def IsRow (k : IntKind) (w : World) (a : Option Addr) (len cap : Nat) (zs : List Int) : Prop :=
  (a = none ∧ len = 0 ∧ cap = 0 ∧ zs = []) ∨
  ∃ x, a = some x ∧ len ≤ cap ∧ cap ≤ maxLen ∧ zs.length = cap ∧ (∀ i, i < zs.length → w.cell? (x.add i) = some (.int k (zs.getD i 0))) ∧ ∀ n ∈ zs, (Lit.int k n).wf = true

set_option maxRecDepth 100000 in
set_option maxHeartbeats 4000000 in
theorem walk (a0 : Option Addr) (len0 cap0 : Nat) (z0 : List Int) (a1 : Option Addr) (len1 cap1 : Nat) (z1 : List Int) (w : World) (w0 : IsRow .u8 w a0 len0 cap0 z0) (w1 : IsRow .u8 w a1 len1 cap1 z1) :
    Calls Try.prog 3 #[.slice a0 len0 cap0, .slice a1 len1 cap1] w fun e w' => e = .returned (.bool true) ∧ Below w.heap.size w w' := by
  have b0 := bytes_of_row w0
  have b1 := bytes_of_row w1
  have hl0 := b0.1
  have hl1 := b1.1
  unfold maxLen at hl0 hl1
  by_cases h0 : 1048576 < len0
  · go_enter Try.func3, Try.ntmps3
    go_wp2
    go_ret
    exact ⟨rfl, Below.refl _ _⟩
  by_cases h1 : 1048576 < len1
  · go_enter Try.func3, Try.ntmps3
    go_wp2
    go_ret
    exact ⟨rfl, Below.refl _ _⟩
  clear w0 w1
  go_enter Try.func3, Try.ntmps3
  go_wp2_with fail
  refine (drawn_any len0 cap0 w.heap.size a0 _ b0 (Nat.le_refl _)).mono ?_
  rintro e wa ⟨L, p, c, rfl, h16, hD, hP, ba⟩
  have HF : Hid (Fine L) := hD.fine h16
  have HP : Hid (LstAt wa L p c) := hP
  have HB : Hid (Below w.heap.size w wa) := ba
  have sz := ba.size
  clear hD hP ba b0
  go_wp2_with fail
  refine (at_any len1 cap1 w.heap.size 0 6 a1 _ (by omega) (by omega) (by omega) (by omega) (b1.below HB.out)).mono ?_
  rintro e wb ⟨k, hk, rfl, bb⟩
  have HB2 : Hid (Below w.heap.size w wb) := HB.out.trans (bb.mono sz)
  have HP2 : Hid (LstAt wb L p c) := HP.out.below bb
  have wo : (Lit.int .i64 (k : Int)).wf = true := WalkArith.wf_i64 (by omega)
  clear HB HP bb sz hk
  go_wp2_with fail
  refine (at_any len1 cap1 w.heap.size 1 7 a1 _ (by omega) (by omega) (by omega) (by omega) (b1.below HB2.out)).mono ?_
  rintro e wc ⟨j, hj, rfl, bb⟩
  have HB3 : Hid (Below w.heap.size w wc) := HB2.out.trans (bb.mono HB2.out.size)
  have HP3 : Hid (LstAt wc L p c) := HP2.out.below bb
  have hix : idP (j : Int) := by unfold idP; omega
  clear HB2 HP2 bb hj
  go_wp2_with fail
  refine (numberOf_in len1 cap1 w.heap.size a1 _ (b1.below HB3.out) HB3.out.size).mono ?_
  rintro e wd ⟨v, hv, rfl, bb⟩
  have HB4 : Hid (Below w.heap.size w wd) := HB3.out.trans (bb.mono HB3.out.size)
  have HP_4 : Hid (LstAt wd L p c) := HP3.out.below bb
  have wv : (Lit.int .i64 v).wf = true := WalkArith.wf_i64 (by obtain ⟨h1, h2⟩ := hv; omega)
  have hWF : (⟨k, j, v⟩ : ShwD).wf := ⟨wo, idP_wf hix, wv⟩
  have ewl := wrap_i64_in ((L.length : Int) + 1) (by omega) (by omega)
  clear HB3 HP3 bb b1 hv
  rcases (show (hasL L ((k : Int), (j : Int)) = true) ∨ (hasL L ((k : Int), (j : Int)) = false ∧ L.length = 16) ∨ (hasL L ((k : Int), (j : Int)) = false ∧ L.length ≠ 16) from by
    cases hasL L ((k : Int), (j : Int)) with
    | true => exact .inl rfl
    | false => exact (Decidable.em (L.length = 16)).elim (fun h => .inr (.inl ⟨rfl, h⟩)) (fun h => .inr (.inr ⟨rfl, h⟩))) with hh | ⟨hh, hl⟩ | ⟨hh, hl⟩
  · skip
    obtain ⟨Y, Z, AF0⟩ : ∃ Y Z, Aft L L Y Z k j v := ⟨_, _, aft HF.out hWF hix hh rfl⟩
    have AF : Hid (Aft L L Y Z k j v) := AF0
    have e1 : alcL L ⟨(k : Int), (j : Int), v⟩ = L := by unfold alcL; rw [if_pos (show hasL L (keyD ⟨(k : Int), (j : Int), v⟩) = true from hh)]
    have e2 : alcF L ((k : Int), (j : Int)) = 24 := by unfold alcF; rw [hh]; rfl
    have E1 : Hid (alcL L ⟨(k : Int), (j : Int), v⟩ = L) := e1
    have E2 : Hid (alcF L ((k : Int), (j : Int)) = 24) := e2
    clear AF0 hh e1 e2
    have C0 := alcA (L := L) (p := p) (c := c) k j v wd HF.out hix wo wv HP_4.out
    rw [E1.out, E2.out] at C0
    have HC0 : Hid (Calls _ _ _ _ _) := C0
    clear C0
    go_wp2_with fail
    refine HC0.out.mono ?_
    rintro e v0 ⟨p1, c1, rfl, hP1, bb⟩
    have HB0 : Hid (Below w.heap.size w v0) := HB4.out.trans (bb.mono HB4.out.size)
    have HP_0 : Hid (LstAt v0 L p c) := HP_4.out.below bb
    have HX_0 : Hid (LstAt v0 L p1 c1) := hP1
    clear HB4 bb HC0 HP_4 hP1
    have C1 := alcZ (L := L) (p := p) (c := c) k j v v0 HF.out hix HP_0.out
    rw [E1.out, E2.out] at C1
    have HC1 : Hid (Calls _ _ _ _ _) := C1
    clear C1
    go_wp2_with fail
    refine HC1.out.mono ?_
    rintro e v1 ⟨p2, c2, rfl, hP1, bb⟩
    have HB1 : Hid (Below w.heap.size w v1) := HB0.out.trans (bb.mono HB0.out.size)
    have HP_1 : Hid (LstAt v1 L p c) := HP_0.out.below bb
    have HX_1 : Hid (LstAt v1 L p1 c1) := HX_0.out.below bb
    have HW_1 : Hid (LstAt v1 L p2 c2) := hP1
    clear HB0 bb HC1 HP_0 HX_0 hP1
    have C2 := samA (L := L) (M := L) v1 AF.out.fX AF.out.fX HX_1.out HW_1.out true ⟨fun _ => rfl, fun _ => rfl⟩
    have HC2 : Hid (Calls _ _ _ _ _) := C2
    clear C2
    go_wp2_with fail
    refine HC2.out.mono ?_
    rintro e v2 ⟨rfl, bb⟩
    have HB2 : Hid (Below w.heap.size w v2) := HB1.out.trans (bb.mono HB1.out.size)
    have HP_2 : Hid (LstAt v2 L p c) := HP_1.out.below bb
    have HX_2 : Hid (LstAt v2 L p1 c1) := HX_1.out.below bb
    clear HB1 bb HC2 HP_1 HX_1
    try clear HW_1
    have C3 := samA (L := L) (M := L) v2 HF.out HF.out HX_2.out HP_2.out true ⟨fun _ => rfl, fun _ => rfl⟩
    have HC3 : Hid (Calls _ _ _ _ _) := C3
    clear C3
    go_wp2_with fail
    refine HC3.out.mono ?_
    rintro e v3 ⟨rfl, bb⟩
    have HB3 : Hid (Below w.heap.size w v3) := HB2.out.trans (bb.mono HB2.out.size)
    have HP_3 : Hid (LstAt v3 L p c) := HP_2.out.below bb
    have HX_3 : Hid (LstAt v3 L p1 c1) := HX_2.out.below bb
    clear HB2 bb HC3 HP_2 HX_2
    have C4 := alcA (L := L) (p := p1) (c := c1) k j v v3 AF.out.fX hix wo wv HX_3.out
    rw [show alcL L ⟨(k : Int), (j : Int), v⟩ = L from by unfold alcL; rw [if_pos (show hasL L (keyD ⟨(k : Int), (j : Int), v⟩) = true from AF.out.hX)], show alcF L ((k : Int), (j : Int)) = 24 from by unfold alcF; rw [AF.out.hX]; rfl] at C4
    have HC4 : Hid (Calls _ _ _ _ _) := C4
    clear C4
    go_wp2_with fail
    refine HC4.out.mono ?_
    rintro e v4 ⟨p3, c3, rfl, _, bb⟩
    have HB4 : Hid (Below w.heap.size w v4) := HB3.out.trans (bb.mono HB3.out.size)
    have HP_4 : Hid (LstAt v4 L p c) := HP_3.out.below bb
    have HX_4 : Hid (LstAt v4 L p1 c1) := HX_3.out.below bb
    clear HB3 bb HC4 HP_3 HX_3
    have C5 := putA (L := L) (p := p1) (c := c1) k j v v4 AF.out.fX hix wo wv HX_4.out
    rw [AF.out.eY, show putF L ((k : Int), (j : Int)) = 0 from by unfold putF; rw [AF.out.hX]; rfl] at C5
    have HC5 : Hid (Calls _ _ _ _ _) := C5
    clear C5
    go_wp2_with fail
    refine HC5.out.mono ?_
    rintro e v5 ⟨py, cy, rfl, hP1, bb⟩
    have HB5 : Hid (Below w.heap.size w v5) := HB4.out.trans (bb.mono HB4.out.size)
    have HP_5 : Hid (LstAt v5 L p c) := HP_4.out.below bb
    have HY_5 : Hid (LstAt v5 Y py cy) := hP1
    clear HB4 bb HC5 HP_4 hP1
    try clear HX_4
    have C6 := getA (L := Y) (p := py) (c := cy) k j v5 AF.out.fY hix wo HY_5.out
    rw [AF.out.gY, show putF Y ((k : Int), (j : Int)) = 0 from by unfold putF; rw [AF.out.hY]; rfl] at C6
    have HC6 : Hid (Calls _ _ _ _ _) := C6
    clear C6
    go_wp2_with fail
    refine HC6.out.mono ?_
    rintro e v6 ⟨rfl, bb⟩
    have HB6 : Hid (Below w.heap.size w v6) := HB5.out.trans (bb.mono HB5.out.size)
    have HP_6 : Hid (LstAt v6 L p c) := HP_5.out.below bb
    have HY_6 : Hid (LstAt v6 Y py cy) := HY_5.out.below bb
    clear HB5 bb HC6 HP_5 HY_5
    have C7 := freA (L := Y) (p := py) (c := cy) k j v6 AF.out.fY hix wo HY_6.out
    rw [AF.out.eZ, show putF Y ((k : Int), (j : Int)) = 0 from by unfold putF; rw [AF.out.hY]; rfl] at C7
    have HC7 : Hid (Calls _ _ _ _ _) := C7
    clear C7
    go_wp2_with fail
    refine HC7.out.mono ?_
    rintro e v7 ⟨pz, cz, rfl, hP1, bb⟩
    have HB7 : Hid (Below w.heap.size w v7) := HB6.out.trans (bb.mono HB6.out.size)
    have HP_7 : Hid (LstAt v7 L p c) := HP_6.out.below bb
    have HZ_7 : Hid (LstAt v7 Z pz cz) := hP1
    clear HB6 bb HC7 HP_6 hP1
    try clear HY_6
    have C8 := getA (L := Z) (p := pz) (c := cz) k j v7 AF.out.fZ hix wo HZ_7.out
    rw [getV_none AF.out.hZ, show putF Z ((k : Int), (j : Int)) = 5 from by unfold putF; rw [AF.out.hZ]; rfl] at C8
    have HC8 : Hid (Calls _ _ _ _ _) := C8
    clear C8
    go_wp2_with fail
    refine HC8.out.mono ?_
    rintro e v8 ⟨rfl, bb⟩
    have HB8 : Hid (Below w.heap.size w v8) := HB7.out.trans (bb.mono HB7.out.size)
    have HP_8 : Hid (LstAt v8 L p c) := HP_7.out.below bb
    have HZ_8 : Hid (LstAt v8 Z pz cz) := HZ_7.out.below bb
    clear HB7 bb HC8 HP_7 HZ_7
    have C9 := putA (L := Z) (p := pz) (c := cz) k j v v8 AF.out.fZ hix wo wv HZ_8.out
    rw [show putL Z ⟨(k : Int), (j : Int), v⟩ = Z from by unfold putL; rw [if_neg (by rw [(show hasL Z (keyD ⟨(k : Int), (j : Int), v⟩) = false from AF.out.hZ)]; simp)], show putF Z ((k : Int), (j : Int)) = 5 from by unfold putF; rw [AF.out.hZ]; rfl] at C9
    have HC9 : Hid (Calls _ _ _ _ _) := C9
    clear C9
    go_wp2_with fail
    refine HC9.out.mono ?_
    rintro e v9 ⟨p4, c4, rfl, _, bb⟩
    have HB9 : Hid (Below w.heap.size w v9) := HB8.out.trans (bb.mono HB8.out.size)
    have HP_9 : Hid (LstAt v9 L p c) := HP_8.out.below bb
    have HZ_9 : Hid (LstAt v9 Z pz cz) := HZ_8.out.below bb
    clear HB8 bb HC9 HP_8 HZ_8
    go_wp2_with fail
    have HLP : Hid (∀ W, Below v9.heap.size v9 W → ShwsAt W p L.length (nthD L)) := fun W h => (HP_9.out.below h).2
    have HZP : Hid (∀ W, Below v9.heap.size v9 W → LstAt W Z pz cz) := fun W h => HZ_9.out.below h
    have HG : Hid (∀ i W, i < L.length → keyD (nthD L i) ≠ ((k : Int), (j : Int)) → Below v9.heap.size v9 W → Calls Try.prog 13 #[.slice pz Z.length cz, .int .i64 (nthD L i).ob, .int .i64 (nthD L i).ix] W fun e w' => e = .returned (.tuple #[.int .i64 (nthD L i).va, .int .i64 0]) ∧ Below W.heap.size W w') := fun i W hi hne h => by
      have hm := AF.out.all _ (nth_mem hi) hne
      have hw := HF.out.2.2 _ (nth_mem hi)
      have C := getA (L := Z) (p := pz) (c := cz) (nthD L i).ob (nthD L i).ix W AF.out.fZ hw.2 hw.1.1 (HZP.out W h)
      rw [show getV Z ((nthD L i).ob, (nthD L i).ix) = (nthD L i).va from hm.2, show putF Z ((nthD L i).ob, (nthD L i).ix) = 0 from by unfold putF; rw [show hasL Z ((nthD L i).ob, (nthD L i).ix) = true from hm.1]; rfl] at C
      exact C
    have hszc := HB9.out.size
    have hz16 := AF.out.fZ.1
    have hzy : ((Z.length : Int) + 1 == (Y.length : Int)) = true := by have := AF.out.len; rw [beq_iff_eq]; omega
    have ewz := wrap_i64_in ((Z.length : Int) + 1) (by omega) (by omega)
    clear HP_9 HZ_9
    go_loopw [25] (fun i wr => ∃ t : Nat, t ≤ L.length ∧ i = .int .i64 t ∧ Below v9.heap.size v9 wr) (fun i _ => L.length - (intOf i).toNat)
    case atStart => exact ⟨0, Nat.zero_le _, rfl, Below.refl _ _⟩
    case round =>
      obtain ⟨t, ht, rfl, hB⟩ := hrel
      by_cases hlt : t < L.length
      · have HGt : Hid (keyD (nthD L t) ≠ ((k : Int), (j : Int)) → ∀ W, Below v9.heap.size v9 W → Calls Try.prog 13 #[.slice pz Z.length cz, .int .i64 (nthD L t).ob, .int .i64 (nthD L t).ix] W fun e w' => e = .returned (.tuple #[.int .i64 (nthD L t).va, .int .i64 0]) ∧ Below W.heap.size W w') := fun hne W h => HG.out t W hlt hne h
        rcases HLP.out wr hB with hp' | ⟨pb, po, rfl, hpl, hpv⟩
        · omega
        obtain ⟨x0, x1, x2⟩ := hpv.shw hlt
        obtain ⟨d, hd⟩ : ∃ d, nthD L t = d := ⟨_, rfl⟩
        rw [hd] at x0 x1 x2 HGt
        obtain ⟨ob, ix, va⟩ := d
        have hsz := hB.size
        clear hpv hd HG HLP
        by_cases hkey : ob = (k : Int) ∧ ix = (j : Int)
        · have he1 : (ob == (k : Int)) = true := by rw [beq_iff_eq]; exact hkey.1
          have he2 : (ix == (j : Int)) = true := by rw [beq_iff_eq]; exact hkey.2
          clear hkey HGt
          go_wp2_with fail
          try go_region
          all_goals
            try go_wp2_with fail
            go_roundw
            case rel => exact ⟨t + 1, by omega, by go_num, by first | exact hB | exact hB.drew⟩
            case measure => simp [intOf]; omega
        · have HCt : Hid (∀ W, Below v9.heap.size v9 W → Calls Try.prog 13 #[.slice pz Z.length cz, .int .i64 ob, .int .i64 ix] W fun e w' => e = .returned (.tuple #[.int .i64 va, .int .i64 0]) ∧ Below W.heap.size W w') := HGt.out (fun h => hkey ⟨congrArg Prod.fst h, congrArg Prod.snd h⟩)
          have HBR : Hid (Below v9.heap.size v9 wr) := hB
          clear HGt
          rcases (show (ob == (k : Int)) = false ∨ ((ob == (k : Int)) = true ∧ (ix == (j : Int)) = false) from by
            by_cases h : ob = (k : Int)
            · exact .inr ⟨by rw [beq_iff_eq]; exact h, by rw [beq_eq_false_iff_ne]; exact fun h' => hkey ⟨h, h'⟩⟩
            · exact .inl (by rw [beq_eq_false_iff_ne]; exact h)) with he1 | ⟨he1, he2⟩
          all_goals
            clear hkey hB
            go_wp2_with fail
            go_region_held3 (fun w' => w'.cell? ⟨pb, po + t * 3, none⟩ = some (.int .i64 ob) ∧ w'.cell? ⟨pb, po + t * 3 + 1, none⟩ = some (.int .i64 ix)) (go_keep) (first | (go_at_call 13; refine (HCt.out _ (by first | exact HBR.out.drew | exact HBR.out)).mono ?_; rintro e w2 ⟨rfl, hb2⟩; have b2 : Below wr.heap.size wr w2 := (by first | exact (Below.refl wr.heap.size wr).drew.trans hb2 | exact hb2); have z0 := (b2.cell (p := ⟨pb, po + t * 3, none⟩) hpl).trans x0; have z1 := (b2.cell (p := ⟨pb, po + t * 3 + 1, none⟩) hpl).trans x1; have z2 := (b2.cell (p := ⟨pb, po + t * 3 + 2, none⟩) hpl).trans x2))
            all_goals
              have HBF : Hid (Below v9.heap.size v9 w2) := HBR.out.trans (b2.mono hsz)
              clear z0 z1 x0 x1 x2 b2 hb2
              go_wp2_with fail
              try go_region
              all_goals
                try go_wp2_with fail
                go_roundw
                case rel => exact ⟨t + 1, by omega, by go_num, by first | exact HBF.out | exact HBF.out.drew⟩
                case measure => simp [intOf]; omega
      · obtain rfl : t = L.length := by omega
        have OKA : Hid (Calls _ _ _ _ _) := okA wr AF.out.fZ (HZP.out wr hB)
        have HBE : Hid (Below w.heap.size w wr) := HB9.out.trans (hB.mono hszc)
        clear HG HLP HZP hB hlt ht
        go_wp2_with fail
        refine OKA.out.mono ?_
        rintro e w7 ⟨rfl, bb⟩
        have HBG : Hid (Below w.heap.size w w7) := HBE.out.trans (bb.mono HBE.out.size)
        clear bb HBE
        go_wp2_with fail
        go_ret
        exact ⟨rfl, HBG.out⟩
  · skip
    have e1 : alcL L ⟨(k : Int), (j : Int), v⟩ = L := by unfold alcL; rw [if_neg (by rw [(show hasL L (keyD ⟨(k : Int), (j : Int), v⟩) = false from hh)]; simp), if_pos hl]
    have e2 : alcF L ((k : Int), (j : Int)) = 7 := by unfold alcF; rw [hh, if_neg (by simp), if_pos hl]
    have E1 : Hid (alcL L ⟨(k : Int), (j : Int), v⟩ = L) := e1
    have E2 : Hid (alcF L ((k : Int), (j : Int)) = 7) := e2
    have h16' : ((L.length : Int) == 16) = true := by rw [beq_iff_eq]; omega
    clear hh hl e1 e2
    have C10 := alcA (L := L) (p := p) (c := c) k j v wd HF.out hix wo wv HP_4.out
    rw [E1.out, E2.out] at C10
    have HC10 : Hid (Calls _ _ _ _ _) := C10
    clear C10
    go_wp2_with fail
    refine HC10.out.mono ?_
    rintro e v10 ⟨p1, c1, rfl, hP1, bb⟩
    have HB10 : Hid (Below w.heap.size w v10) := HB4.out.trans (bb.mono HB4.out.size)
    have HP_10 : Hid (LstAt v10 L p c) := HP_4.out.below bb
    have HX_10 : Hid (LstAt v10 L p1 c1) := hP1
    clear HB4 bb HC10 HP_4 hP1
    have C11 := alcZ (L := L) (p := p) (c := c) k j v v10 HF.out hix HP_10.out
    rw [E1.out, E2.out] at C11
    have HC11 : Hid (Calls _ _ _ _ _) := C11
    clear C11
    go_wp2_with fail
    refine HC11.out.mono ?_
    rintro e v11 ⟨p2, c2, rfl, hP1, bb⟩
    have HB11 : Hid (Below w.heap.size w v11) := HB10.out.trans (bb.mono HB10.out.size)
    have HP_11 : Hid (LstAt v11 L p c) := HP_10.out.below bb
    have HX_11 : Hid (LstAt v11 L p1 c1) := HX_10.out.below bb
    have HW_11 : Hid (LstAt v11 L p2 c2) := hP1
    clear HB10 bb HC11 HP_10 HX_10 hP1
    have C12 := samA (L := L) (M := L) v11 HF.out HF.out HX_11.out HW_11.out true ⟨fun _ => rfl, fun _ => rfl⟩
    have HC12 : Hid (Calls _ _ _ _ _) := C12
    clear C12
    go_wp2_with fail
    refine HC12.out.mono ?_
    rintro e v12 ⟨rfl, bb⟩
    have HB12 : Hid (Below w.heap.size w v12) := HB11.out.trans (bb.mono HB11.out.size)
    have HP_12 : Hid (LstAt v12 L p c) := HP_11.out.below bb
    have HX_12 : Hid (LstAt v12 L p1 c1) := HX_11.out.below bb
    clear HB11 bb HC12 HP_11 HX_11
    try clear HW_11
    have C13 := samA (L := L) (M := L) v12 HF.out HF.out HX_12.out HP_12.out true ⟨fun _ => rfl, fun _ => rfl⟩
    have HC13 : Hid (Calls _ _ _ _ _) := C13
    clear C13
    go_wp2_with fail
    refine HC13.out.mono ?_
    rintro e v13 ⟨rfl, bb⟩
    have HB13 : Hid (Below w.heap.size w v13) := HB12.out.trans (bb.mono HB12.out.size)
    clear HB12 bb HC13 
    go_wp2_with fail
    go_ret
    exact ⟨rfl, HB13.out⟩
  · skip
    obtain ⟨X, hX⟩ : ∃ X, insL ⟨(k : Int), (j : Int), v⟩ L = X := ⟨_, rfl⟩
    have e1 : alcL L ⟨(k : Int), (j : Int), v⟩ = X := by unfold alcL; rw [if_neg (by rw [(show hasL L (keyD ⟨(k : Int), (j : Int), v⟩) = false from hh)]; simp), if_neg hl, hX]
    have e2 : alcF L ((k : Int), (j : Int)) = 0 := by unfold alcF; rw [hh, if_neg (by simp), if_neg hl]
    have hfX : Fine X := by rw [← e1]; exact HF.out.alc hWF hix
    have hhX : hasL X ((k : Int), (j : Int)) = true := hasL_iff.2 ⟨⟨(k : Int), (j : Int), v⟩, by rw [← hX]; exact (insL_perm _ _).mem_iff.2 (by simp), rfl⟩
    have hfr : freL X ((k : Int), (j : Int)) = freL L ((k : Int), (j : Int)) := by rw [← hX]; exact fre_ins ⟨(k : Int), (j : Int), v⟩ L
    have AF0 := aft (L := L) hfX hWF hix hhX hfr
    have EZ0 : freL X ((k : Int), (j : Int)) = L := by rw [hfr]; exact freL_none hh
    obtain ⟨Y, hY⟩ : ∃ Y, setL ⟨(k : Int), (j : Int), v⟩ X = Y := ⟨_, rfl⟩
    obtain ⟨Z, hZ⟩ : ∃ Z, freL X ((k : Int), (j : Int)) = Z := ⟨_, rfl⟩
    rw [hY, hZ] at AF0
    rw [hZ] at EZ0
    have AF : Hid (Aft L X Y Z k j v) := AF0
    have EZ : Hid (Z = L) := EZ0
    have hls : ((X.length : Int) != (L.length : Int) + 1) = false := by rw [← hX, insL_len]; simp
    have E1 : Hid (alcL L ⟨(k : Int), (j : Int), v⟩ = X) := e1
    have E2 : Hid (alcF L ((k : Int), (j : Int)) = 0) := e2
    clear hX hh hl hfX hhX hfr AF0 EZ0 hY hZ e1 e2
    have C14 := alcA (L := L) (p := p) (c := c) k j v wd HF.out hix wo wv HP_4.out
    rw [E1.out, E2.out] at C14
    have HC14 : Hid (Calls _ _ _ _ _) := C14
    clear C14
    go_wp2_with fail
    refine HC14.out.mono ?_
    rintro e v14 ⟨p1, c1, rfl, hP1, bb⟩
    have HB14 : Hid (Below w.heap.size w v14) := HB4.out.trans (bb.mono HB4.out.size)
    have HP_14 : Hid (LstAt v14 L p c) := HP_4.out.below bb
    have HX_14 : Hid (LstAt v14 X p1 c1) := hP1
    clear HB4 bb HC14 HP_4 hP1
    have C15 := alcZ (L := L) (p := p) (c := c) k j v v14 HF.out hix HP_14.out
    rw [E1.out, E2.out] at C15
    have HC15 : Hid (Calls _ _ _ _ _) := C15
    clear C15
    go_wp2_with fail
    refine HC15.out.mono ?_
    rintro e v15 ⟨p2, c2, rfl, hP1, bb⟩
    have HB15 : Hid (Below w.heap.size w v15) := HB14.out.trans (bb.mono HB14.out.size)
    have HP_15 : Hid (LstAt v15 L p c) := HP_14.out.below bb
    have HX_15 : Hid (LstAt v15 X p1 c1) := HX_14.out.below bb
    have HW_15 : Hid (LstAt v15 X p2 c2) := hP1
    clear HB14 bb HC15 HP_14 HX_14 hP1
    have C16 := samA (L := X) (M := X) v15 AF.out.fX AF.out.fX HX_15.out HW_15.out true ⟨fun _ => rfl, fun _ => rfl⟩
    have HC16 : Hid (Calls _ _ _ _ _) := C16
    clear C16
    go_wp2_with fail
    refine HC16.out.mono ?_
    rintro e v16 ⟨rfl, bb⟩
    have HB16 : Hid (Below w.heap.size w v16) := HB15.out.trans (bb.mono HB15.out.size)
    have HP_16 : Hid (LstAt v16 L p c) := HP_15.out.below bb
    have HX_16 : Hid (LstAt v16 X p1 c1) := HX_15.out.below bb
    clear HB15 bb HC16 HP_15 HX_15
    try clear HW_15
    have C17 := alcA (L := X) (p := p1) (c := c1) k j v v16 AF.out.fX hix wo wv HX_16.out
    rw [show alcL X ⟨(k : Int), (j : Int), v⟩ = X from by unfold alcL; rw [if_pos (show hasL X (keyD ⟨(k : Int), (j : Int), v⟩) = true from AF.out.hX)], show alcF X ((k : Int), (j : Int)) = 24 from by unfold alcF; rw [AF.out.hX]; rfl] at C17
    have HC17 : Hid (Calls _ _ _ _ _) := C17
    clear C17
    go_wp2_with fail
    refine HC17.out.mono ?_
    rintro e v17 ⟨p3, c3, rfl, _, bb⟩
    have HB17 : Hid (Below w.heap.size w v17) := HB16.out.trans (bb.mono HB16.out.size)
    have HP_17 : Hid (LstAt v17 L p c) := HP_16.out.below bb
    have HX_17 : Hid (LstAt v17 X p1 c1) := HX_16.out.below bb
    clear HB16 bb HC17 HP_16 HX_16
    have C18 := putA (L := X) (p := p1) (c := c1) k j v v17 AF.out.fX hix wo wv HX_17.out
    rw [AF.out.eY, show putF X ((k : Int), (j : Int)) = 0 from by unfold putF; rw [AF.out.hX]; rfl] at C18
    have HC18 : Hid (Calls _ _ _ _ _) := C18
    clear C18
    go_wp2_with fail
    refine HC18.out.mono ?_
    rintro e v18 ⟨py, cy, rfl, hP1, bb⟩
    have HB18 : Hid (Below w.heap.size w v18) := HB17.out.trans (bb.mono HB17.out.size)
    have HP_18 : Hid (LstAt v18 L p c) := HP_17.out.below bb
    have HY_18 : Hid (LstAt v18 Y py cy) := hP1
    clear HB17 bb HC18 HP_17 hP1
    try clear HX_17
    have C19 := getA (L := Y) (p := py) (c := cy) k j v18 AF.out.fY hix wo HY_18.out
    rw [AF.out.gY, show putF Y ((k : Int), (j : Int)) = 0 from by unfold putF; rw [AF.out.hY]; rfl] at C19
    have HC19 : Hid (Calls _ _ _ _ _) := C19
    clear C19
    go_wp2_with fail
    refine HC19.out.mono ?_
    rintro e v19 ⟨rfl, bb⟩
    have HB19 : Hid (Below w.heap.size w v19) := HB18.out.trans (bb.mono HB18.out.size)
    have HP_19 : Hid (LstAt v19 L p c) := HP_18.out.below bb
    have HY_19 : Hid (LstAt v19 Y py cy) := HY_18.out.below bb
    clear HB18 bb HC19 HP_18 HY_18
    have C20 := freA (L := Y) (p := py) (c := cy) k j v19 AF.out.fY hix wo HY_19.out
    rw [AF.out.eZ, show putF Y ((k : Int), (j : Int)) = 0 from by unfold putF; rw [AF.out.hY]; rfl] at C20
    have HC20 : Hid (Calls _ _ _ _ _) := C20
    clear C20
    go_wp2_with fail
    refine HC20.out.mono ?_
    rintro e v20 ⟨pz, cz, rfl, hP1, bb⟩
    have HB20 : Hid (Below w.heap.size w v20) := HB19.out.trans (bb.mono HB19.out.size)
    have HP_20 : Hid (LstAt v20 L p c) := HP_19.out.below bb
    have HZ_20 : Hid (LstAt v20 Z pz cz) := hP1
    clear HB19 bb HC20 HP_19 hP1
    try clear HY_19
    have C21 := getA (L := Z) (p := pz) (c := cz) k j v20 AF.out.fZ hix wo HZ_20.out
    rw [getV_none AF.out.hZ, show putF Z ((k : Int), (j : Int)) = 5 from by unfold putF; rw [AF.out.hZ]; rfl] at C21
    have HC21 : Hid (Calls _ _ _ _ _) := C21
    clear C21
    go_wp2_with fail
    refine HC21.out.mono ?_
    rintro e v21 ⟨rfl, bb⟩
    have HB21 : Hid (Below w.heap.size w v21) := HB20.out.trans (bb.mono HB20.out.size)
    have HP_21 : Hid (LstAt v21 L p c) := HP_20.out.below bb
    have HZ_21 : Hid (LstAt v21 Z pz cz) := HZ_20.out.below bb
    clear HB20 bb HC21 HP_20 HZ_20
    have C22 := putA (L := Z) (p := pz) (c := cz) k j v v21 AF.out.fZ hix wo wv HZ_21.out
    rw [show putL Z ⟨(k : Int), (j : Int), v⟩ = Z from by unfold putL; rw [if_neg (by rw [(show hasL Z (keyD ⟨(k : Int), (j : Int), v⟩) = false from AF.out.hZ)]; simp)], show putF Z ((k : Int), (j : Int)) = 5 from by unfold putF; rw [AF.out.hZ]; rfl] at C22
    have HC22 : Hid (Calls _ _ _ _ _) := C22
    clear C22
    go_wp2_with fail
    refine HC22.out.mono ?_
    rintro e v22 ⟨p4, c4, rfl, _, bb⟩
    have HB22 : Hid (Below w.heap.size w v22) := HB21.out.trans (bb.mono HB21.out.size)
    have HP_22 : Hid (LstAt v22 L p c) := HP_21.out.below bb
    have HZ_22 : Hid (LstAt v22 Z pz cz) := HZ_21.out.below bb
    clear HB21 bb HC22 HP_21 HZ_21
    have C23 := samA (L := Z) (M := L) v22 AF.out.fZ HF.out HZ_22.out HP_22.out true ⟨fun _ => EZ.out, fun _ => rfl⟩
    have HC23 : Hid (Calls _ _ _ _ _) := C23
    clear C23
    go_wp2_with fail
    refine HC23.out.mono ?_
    rintro e v23 ⟨rfl, bb⟩
    have HB23 : Hid (Below w.heap.size w v23) := HB22.out.trans (bb.mono HB22.out.size)
    have HP_23 : Hid (LstAt v23 L p c) := HP_22.out.below bb
    have HZ_23 : Hid (LstAt v23 Z pz cz) := HZ_22.out.below bb
    clear HB22 bb HC23 HP_22 HZ_22
    go_wp2_with fail
    have HLP : Hid (∀ W, Below v23.heap.size v23 W → ShwsAt W p L.length (nthD L)) := fun W h => (HP_23.out.below h).2
    have HZP : Hid (∀ W, Below v23.heap.size v23 W → LstAt W Z pz cz) := fun W h => HZ_23.out.below h
    have HG : Hid (∀ i W, i < L.length → keyD (nthD L i) ≠ ((k : Int), (j : Int)) → Below v23.heap.size v23 W → Calls Try.prog 13 #[.slice pz Z.length cz, .int .i64 (nthD L i).ob, .int .i64 (nthD L i).ix] W fun e w' => e = .returned (.tuple #[.int .i64 (nthD L i).va, .int .i64 0]) ∧ Below W.heap.size W w') := fun i W hi hne h => by
      have hm := AF.out.all _ (nth_mem hi) hne
      have hw := HF.out.2.2 _ (nth_mem hi)
      have C := getA (L := Z) (p := pz) (c := cz) (nthD L i).ob (nthD L i).ix W AF.out.fZ hw.2 hw.1.1 (HZP.out W h)
      rw [show getV Z ((nthD L i).ob, (nthD L i).ix) = (nthD L i).va from hm.2, show putF Z ((nthD L i).ob, (nthD L i).ix) = 0 from by unfold putF; rw [show hasL Z ((nthD L i).ob, (nthD L i).ix) = true from hm.1]; rfl] at C
      exact C
    have hszc := HB23.out.size
    have hz16 := AF.out.fZ.1
    have hzy : ((Z.length : Int) + 1 == (Y.length : Int)) = true := by have := AF.out.len; rw [beq_iff_eq]; omega
    have ewz := wrap_i64_in ((Z.length : Int) + 1) (by omega) (by omega)
    clear HP_23 HZ_23
    go_loopw [25] (fun i wr => ∃ t : Nat, t ≤ L.length ∧ i = .int .i64 t ∧ Below v23.heap.size v23 wr) (fun i _ => L.length - (intOf i).toNat)
    case atStart => exact ⟨0, Nat.zero_le _, rfl, Below.refl _ _⟩
    case round =>
      obtain ⟨t, ht, rfl, hB⟩ := hrel
      by_cases hlt : t < L.length
      · have HGt : Hid (keyD (nthD L t) ≠ ((k : Int), (j : Int)) → ∀ W, Below v23.heap.size v23 W → Calls Try.prog 13 #[.slice pz Z.length cz, .int .i64 (nthD L t).ob, .int .i64 (nthD L t).ix] W fun e w' => e = .returned (.tuple #[.int .i64 (nthD L t).va, .int .i64 0]) ∧ Below W.heap.size W w') := fun hne W h => HG.out t W hlt hne h
        rcases HLP.out wr hB with hp' | ⟨pb, po, rfl, hpl, hpv⟩
        · omega
        obtain ⟨x0, x1, x2⟩ := hpv.shw hlt
        obtain ⟨d, hd⟩ : ∃ d, nthD L t = d := ⟨_, rfl⟩
        rw [hd] at x0 x1 x2 HGt
        obtain ⟨ob, ix, va⟩ := d
        have hsz := hB.size
        clear hpv hd HG HLP
        by_cases hkey : ob = (k : Int) ∧ ix = (j : Int)
        · have he1 : (ob == (k : Int)) = true := by rw [beq_iff_eq]; exact hkey.1
          have he2 : (ix == (j : Int)) = true := by rw [beq_iff_eq]; exact hkey.2
          clear hkey HGt
          go_wp2_with fail
          try go_region
          all_goals
            try go_wp2_with fail
            go_roundw
            case rel => exact ⟨t + 1, by omega, by go_num, by first | exact hB | exact hB.drew⟩
            case measure => simp [intOf]; omega
        · have HCt : Hid (∀ W, Below v23.heap.size v23 W → Calls Try.prog 13 #[.slice pz Z.length cz, .int .i64 ob, .int .i64 ix] W fun e w' => e = .returned (.tuple #[.int .i64 va, .int .i64 0]) ∧ Below W.heap.size W w') := HGt.out (fun h => hkey ⟨congrArg Prod.fst h, congrArg Prod.snd h⟩)
          have HBR : Hid (Below v23.heap.size v23 wr) := hB
          clear HGt
          rcases (show (ob == (k : Int)) = false ∨ ((ob == (k : Int)) = true ∧ (ix == (j : Int)) = false) from by
            by_cases h : ob = (k : Int)
            · exact .inr ⟨by rw [beq_iff_eq]; exact h, by rw [beq_eq_false_iff_ne]; exact fun h' => hkey ⟨h, h'⟩⟩
            · exact .inl (by rw [beq_eq_false_iff_ne]; exact h)) with he1 | ⟨he1, he2⟩
          all_goals
            clear hkey hB
            go_wp2_with fail
            go_region_held3 (fun w' => w'.cell? ⟨pb, po + t * 3, none⟩ = some (.int .i64 ob) ∧ w'.cell? ⟨pb, po + t * 3 + 1, none⟩ = some (.int .i64 ix)) (go_keep) (first | (go_at_call 13; refine (HCt.out _ (by first | exact HBR.out.drew | exact HBR.out)).mono ?_; rintro e w2 ⟨rfl, hb2⟩; have b2 : Below wr.heap.size wr w2 := (by first | exact (Below.refl wr.heap.size wr).drew.trans hb2 | exact hb2); have z0 := (b2.cell (p := ⟨pb, po + t * 3, none⟩) hpl).trans x0; have z1 := (b2.cell (p := ⟨pb, po + t * 3 + 1, none⟩) hpl).trans x1; have z2 := (b2.cell (p := ⟨pb, po + t * 3 + 2, none⟩) hpl).trans x2))
            all_goals
              have HBF : Hid (Below v23.heap.size v23 w2) := HBR.out.trans (b2.mono hsz)
              clear z0 z1 x0 x1 x2 b2 hb2
              go_wp2_with fail
              try go_region
              all_goals
                try go_wp2_with fail
                go_roundw
                case rel => exact ⟨t + 1, by omega, by go_num, by first | exact HBF.out | exact HBF.out.drew⟩
                case measure => simp [intOf]; omega
      · obtain rfl : t = L.length := by omega
        have OKA : Hid (Calls _ _ _ _ _) := okA wr AF.out.fZ (HZP.out wr hB)
        have HBE : Hid (Below w.heap.size w wr) := HB23.out.trans (hB.mono hszc)
        clear HG HLP HZP hB hlt ht
        go_wp2_with fail
        refine OKA.out.mono ?_
        rintro e w7 ⟨rfl, bb⟩
        have HBG : Hid (Below w.heap.size w w7) := HBE.out.trans (bb.mono HBE.out.size)
        clear bb HBE
        go_wp2_with fail
        go_ret
        exact ⟨rfl, HBG.out⟩

set_option maxRecDepth 100000 in
theorem lifted (os : Os) (started : os.Started) (H : Type) (enc : TypeId × Value → H) :
    ReturnsInHanded {} Try.checked os 3 .any (Rows.fnShadowsSpec.pre6 enc Try.prog Try.f3 Rows.fnShadowsRow.domain false) (Rows.fnShadowsSpec.post enc Try.prog Try.f3 false true false false) := by
  refine returnsInHanded_of_change (C := Try.checked) own started (by kernel_rfl) Try.func3
    (ChangeSpec.witness6 (enc := enc) (C := Try.checked) false ⟨#[], #[.slice none 0 0, .slice none 0 0], []⟩ 8 (by kernel_rfl) (by kernel_rfl) (by kernel_rfl) (by kernel_rfl)) ?_
  intro W base args ds gs before hval0 hW hcnd _
  have hval : ∀ (j : Nat) t v, Try.f3.params[j]? = some t → args[j]? = some v → Value.okWide Try.prog W .any base t v := hval0
  have hW' := hW
  obtain ⟨p, q, hA0, hV, rfl, hfz, hnd⟩ := hW
  have hA : DataW.TrodAll enc Try.prog W 0 (fun _ => true) true Try.f3.params.toList args.toList ds p := hA0
  rw [Try.params3] at hA hval
  obtain ⟨v0, vs0, d0, ds0, p0, q0, hargs, rfl, rfl, h0, r0⟩ := trodAll_cons hA
  obtain ⟨v1, vs1, d1, ds1, p1, q1, rfl, rfl, rfl, h1, r1⟩ := trodAll_cons r0
  obtain ⟨rfl, rfl, rfl⟩ := trodAll_nil r1
  obtain rfl : args = #[v0, v1] := by cases args; simp_all
  obtain ⟨rfl, rfl⟩ := trodVars_none hV
  obtain ⟨a0, len0, cap0, rfl⟩ := okWide_slice Try.underlying22 (hval 0 22 v0 rfl rfl)
  have k0 := h0
  have lt0 : ∀ x ∈ p0, x.block < W.heap.size := by obtain ⟨m, hm⟩ := k0; exact DataW.trod_lt m _ _ _ hm
  obtain ⟨z0, w0⟩ : ∃ zs, IsRow .u8 W a0 len0 cap0 zs := by
    obtain ⟨fuel, hf⟩ := h0
    rcases open_ints Try.underlying22 Try.underlying5 (by kernel_rfl) hf with ⟨hcs, _⟩ | ⟨x, l, c, zs, hcs, _, hl, hm, hz, _, hcell, hwz⟩
    · simp [Value.cells] at hcs
      obtain ⟨rfl, rfl, rfl⟩ := hcs
      exact ⟨[], .inl ⟨rfl, rfl, rfl, rfl⟩⟩
    · simp [Value.cells] at hcs
      obtain ⟨rfl, rfl, rfl⟩ := hcs
      exact ⟨zs, .inr ⟨_, rfl, hl, hm, by simpa using hz, hcell, hwz⟩⟩
  obtain ⟨a1, len1, cap1, rfl⟩ := okWide_slice Try.underlying22 (hval 1 22 v1 rfl rfl)
  have k1 := h1
  have lt1 : ∀ x ∈ p1, x.block < W.heap.size := by obtain ⟨m, hm⟩ := k1; exact DataW.trod_lt m _ _ _ hm
  obtain ⟨z1, w1⟩ : ∃ zs, IsRow .u8 W a1 len1 cap1 zs := by
    obtain ⟨fuel, hf⟩ := h1
    rcases open_ints Try.underlying22 Try.underlying5 (by kernel_rfl) hf with ⟨hcs, _⟩ | ⟨x, l, c, zs, hcs, _, hl, hm, hz, _, hcell, hwz⟩
    · simp [Value.cells] at hcs
      obtain ⟨rfl, rfl, rfl⟩ := hcs
      exact ⟨[], .inl ⟨rfl, rfl, rfl, rfl⟩⟩
    · simp [Value.cells] at hcs
      obtain ⟨rfl, rfl, rfl⟩ := hcs
      exact ⟨zs, .inr ⟨_, rfl, hl, hm, by simpa using hz, hcell, hwz⟩⟩
  clear hA0 hval0
  refine (walk a0 len0 cap0 z0 a1 len1 cap1 z1 W w0 w1).mono fun e W' ⟨he, bel⟩ => ?_
  subst he
  exact ⟨_, rfl, _, _, _, [], _, [], hW', trodAll_mk1 (shut_bool Try.underlying4 _), (trodAll_cons_mk (Below.trod laidOut (by kernel_rfl) (of_decide_eq_true (by kernel_rfl)) k0 bel lt0) (trodAll_cons_mk (Below.trod laidOut (by kernel_rfl) (of_decide_eq_true (by kernel_rfl)) k1 bel lt1) trodAll_mk0)), rfl, bel.frame _, fun h => by cases h⟩

theorem over : Rows.fnShadowsRow.holds Try.pinned (OpenSpec.ofChange Rows.fnShadowsSpec) :=
  OpenClaim.holds_of_wide 3 Try.f3 rfl rfl rfl rfl rfl rfl rfl ⟨rfl, rfl, rfl, rfl, rfl⟩ rfl rfl rfl rfl rfl (by kernel_rfl) Try.func3 (by kernel_rfl)
    (of_decide_eq_true (by kernel_rfl)) (by unfold Func.isWrapper; first | (rw [if_pos (by decide +kernel)]; kernel_rfl) | (rw [if_neg (by decide +kernel)]; exact ⟨rfl, rfl⟩))
    (fun os started H enc _ => lifted os started H enc)

theorem proved : Rows.FnShadowsSaid := over
end Go.Proofs.Ytibepggakjfbcaa.fnShadows
theorem Go.Proofs.Ytibepggakjfbcaa.shadows_holds : Go.Proofs.Ytibepggakjfbcaa.Rows.FnShadowsSaid := Go.Proofs.Ytibepggakjfbcaa.fnShadows.proved
