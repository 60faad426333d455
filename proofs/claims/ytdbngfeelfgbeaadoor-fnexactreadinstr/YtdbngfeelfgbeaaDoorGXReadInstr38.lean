/- Reading an instruction in the model, form 5: the walk. -/
import Derived.Test.YtdbngfeelfgbeaaDoorGXReadInstr31
namespace Go.Proofs.YtdbngfeelfgbeaaDoor.Tx
open Go.RowKit
set_option linter.unusedVariables false

set_option maxRecDepth 100000 in
set_option maxHeartbeats 8000000 in
theorem mod5 (t : ByteArray) (ht : t.size ≤ 65536) (w0 : ByteArray) (rest : List ByteArray) (hws : wordsB t = w0 :: rest) (K : Nat) (hK : Op.lastT w0 64 = K) (hK1 : 1 ≤ K) (hK64 : K ≤ 64) (c g h : Int) (hs : shT (K : Int) = (5, c, g, h)) (w : World)
    (V : Int) (hV : numV (lastW w0 rest).data.toList = V) (N : Bool) (hN : numK (lastW w0 rest).data.toList = N) (ok : Bool) (hok : ok = (modK 5 N && rightB K (modQ 5 rest V).rd (modQ 5 rest V).r1 (modQ 5 rest V).r2 (modQ 5 rest V).im && decide (wordsB (txt (textB K (modQ 5 rest V).rd (modQ 5 rest V).r1 (modQ 5 rest V).r2 (modQ 5 rest V).im)) = w0 :: rest))) :
    Calls Tryd.prog 19 #[.string t] w fun e w' => e = .returned (.tuple #[pickV ok (agg5 K (modQ 5 rest V)) zero5, .bool ok]) ∧ Below w.heap.size w w' := by
  obtain ⟨i0, hinfo, hz0, hz1, hz2⟩ := info_parts Tryd.info_int
  have hs : Hid (shT (K : Int) = (5, c, g, h)) := hs
  have hszs : ∀ x ∈ w0 :: rest, x.size ≤ 65536 := fun x hx => by
    rw [← hws] at hx
    exact Nat.le_trans (wordsTo_size t _ x hx) ht
  have hwl : (w0 :: rest).length ≤ 65537 := by
    rw [← hws]
    exact Nat.le_trans (wordsTo_len t _) (by omega)
  have hrl : (rest.length : Int) ≤ 65536 := by simp at hwl; omega
  have hli : (rest.length : Int) + 1 - 1 = (rest.length : Int) := by omega
  have hlj : wrap64 (rest.length : Int) = (rest.length : Int) := by unfold wrap64; omega
  have hlk : (0 : Int) ≤ (rest.length : Int) := by omega
  have hll : (rest.length : Int) < (rest.length : Int) + 1 := by omega
  have hOf : Hid (∀ w, Calls Tryd.prog 42 #[.string w0] w fun e w' => e = .returned (.int .i64 (K : Nat)) ∧ Below w.heap.size w w') := fun w => by rw [← hK]; exact Op.specOf0 w0 w
  clear hK
  go_enter Tryd.func19, Tryd.ntmps19
  go_wp2_with fail
  refine (wordsC t (by omega) _).mono ?_
  rintro e w1 ⟨v, rfl, hown, hb⟩
  have T1 := texts_of hown
  rw [hws] at T1
  obtain ⟨g0, c0, rfl, hg0, hcells⟩ := T1.at' (by simp)
  have F1 : Five w1 w.heap.size 0 0 0 0 0 := Five.below (by constructor <;> simp) hb (by simp <;> omega)
  have B1 : Below w.heap.size w w1 := ((Below.refl _ _).alloc (Nat.le_refl _) _).trans (hb.mono (by simp))
  have hAz : w.heap.size < g0 := by
    rcases hown.2 with ⟨h1, _⟩ | ⟨g1, _, _, h1, h2, _⟩
    · cases h1
    · injection h1 with h1
      injection h1 with h1
      injection h1 with h1
      simp at h2
      omega
  have hC0 := hcells 0 w0 rfl
  clear hb hown T1 hwl
  rw [List.length_cons]
  have hne : ((rest.length : Int) + 1 == 0) = false := by rw [beq_eq_false_iff_ne]; omega
  have hnp : (0 : Int) < (rest.length : Int) + 1 := by omega
  go_wp2_with fail
  refine (hOf.out _).mono ?_
  rintro e w2 ⟨rfl, hb2⟩
  have z1 : w.heap.size < w1.heap.size := Nat.lt_trans hAz hg0
  have F2 : Five w2 w.heap.size 0 0 0 0 0 := F1.below hb2 z1
  have B2 : Below w.heap.size w w2 := B1.trans (hb2.mono B1.size)
  have hg2 : g0 < w2.heap.size := Nat.lt_of_lt_of_le hg0 hb2.size
  have hcells2 : ∀ (j : Nat) (x : ByteArray), (w0 :: rest)[j]? = some x → w2.cell? ⟨g0, j, none⟩ = some (.string x) := fun j x hj => (hb2.cell (p := ⟨g0, j, none⟩) hg0).trans (hcells j x hj)
  clear hb2 F1 B1 hg0 hcells hC0 z1 hOf
  have hKe : ((K : Int) == 0) = false := by rw [beq_eq_false_iff_ne]; omega
  have hbA : Below w2.heap.size w2 (w2.alloc (.cells #[.int .i64 (K : Int), .int .i64 0, .int .i64 0, .int .i64 0, .int .i64 0] 26)) := (Below.refl _ _).alloc (Nat.le_refl _) _
  have z2 : w.heap.size < w2.heap.size := Nat.lt_trans hAz hg2
  obtain ⟨wz, hwz⟩ : ∃ wz, wz = w2.alloc (.cells #[.int .i64 (K : Int), .int .i64 0, .int .i64 0, .int .i64 0, .int .i64 0] 26) := ⟨_, rfl⟩
  have Fz : Hid (Five wz w.heap.size 0 0 0 0 0) := by rw [hwz]; exact F2.below hbA z2
  have Xz : Hid (Five wz w2.heap.size (K : Int) 0 0 0 0) := by rw [hwz]; constructor <;> simp
  have Bz : Below w.heap.size w wz := by rw [hwz]; exact B2.trans (hbA.mono B2.size)
  have hwzs : wz.heap.size = w2.heap.size + 1 := by rw [hwz]; simp
  have Cz : Hid (∀ (j : Nat) (x : ByteArray), (w0 :: rest)[j]? = some x → wz.cell? ⟨g0, j, none⟩ = some (.string x)) := fun j x hj => by
    rw [hwz]
    exact (hbA.cell (p := ⟨g0, j, none⟩) hg2).trans (hcells2 j x hj)
  go_wp2
  rw [← hwz]
  obtain ⟨X, hX⟩ : ∃ X, X = w2.heap.size := ⟨_, rfl⟩
  rw [← hX] at Xz hwzs hg2 z2 ⊢
  clear hbA F2 B2 hcells2 hwz hX
  have hgX : g0 < X := hg2
  have hrx : w.heap.size < X := z2
  have hfd := shField0 5 c g h
  go_loopw [6, 7] (fun v i wr => ∃ k : Nat, k ≤ rest.length ∧ k ≤ 3 ∧ i = .int .i64 ((k : Int) + 1) ∧ wr.ownsRow (X + 1) 3 1 v k (ints (rgs rest k)) ∧ Below (X + 1) wz wr) (fun _ i _ => 5 - (intOf i).toNat)
  case atStart => exact ⟨0, Nat.zero_le _, Nat.zero_le _, rfl, (by have h0 := World.ownsRow_made (base := X + 1) (e := 3) (size := 1) wz #[] 0 (Nat.le_of_eq hwzs.symm) (Nat.zero_le _) rfl; rw [hwzs] at h0; exact h0), (Below.refl _ _).alloc (Nat.le_of_eq hwzs.symm) _⟩
  case round =>
    obtain ⟨k, hk, hk3, rfl, hown, hbel⟩ := hrel
    have hsz : X + 1 ≤ wr.heap.size := by have := hbel.size; omega
    by_cases hlt : k < rest.length ∧ k < 3
    · obtain ⟨hl1, hl2⟩ := hlt
      obtain ⟨x, hx⟩ : ∃ x, rest[k]? = some x := ⟨_, List.getElem?_eq_getElem hl1⟩
      have hxs := hszs x (List.mem_cons_of_mem _ (List.mem_of_getElem? hx))
      have hcx : wr.cell? ⟨g0, k + 1, none⟩ = some (.string x) := (hbel.cell (p := ⟨g0, k + 1, none⟩) (Nat.lt_succ_of_lt hgX)).trans (Cz.out (k + 1) x (by simpa using hx))
      have hrg : rg rest k = regN x.data.toList := by unfold rg; rw [hx]
      have hreg : Hid (∀ w, Calls Tryd.prog 43 #[.string x] w fun e w' => e = .returned (.int .i64 (rg rest k)) ∧ w' = w) := fun w => by rw [hrg]; exact regC1 x (by omega) w
      have hi1 : (k : Int) + 1 < (rest.length : Int) + 1 := by omega
      have hi2 : (k : Int) + 1 < 4 := by omega
      have hi3 : (0 : Int) ≤ (k : Int) + 1 := by omega
      have hi4 : (0 : Int) ≤ (k : Int) := by omega
      clear hx hrg hszs Cz Fz Xz
      go_wp2_with fail
      refine (hreg.out _).mono ?_
      rintro e w3 ⟨rfl, rfl⟩
      clear hreg
      go_wp2_with (at_builtin; refine wpList_append_lies _ rfl _ _ 68 rfl (X + 1) 3 i0 _ 1 8 Tryd.underlying68 hinfo hz0 hz1 hz2 rfl (by omega) _ _ _ rfl (hown.alloc _) ⟨w3.heap.size, 0, none⟩ 1 1 (ints [rg rest k]) rfl rfl (World.news_of_block (cs := #[.int .i64 (rg rest k)]) (t := 3) (fr := (0, 0)) (heap_alloc_new w3 _)) (by simp [ints, Value.oneCell']) (by omega) (by unfold maxLen; omega) (by omega) (by simp; omega) (w3.heap.size + 1) (by simp) ?_; intro gg cap2 wn hown1 hgrow hat hlt1)
      go_roundw
      case rel => exact ⟨k + 1, hl1, hl2, by go_num, by rw [← rgs_snoc]; exact hown1, (hbel.alloc hsz _).grown hgrow (by simp; omega) (fun j hj => (hown.lt j hj).1)⟩
      case measure => first | (simp [intOf]; done) | (simp [intOf]; omega)
    have hm : k = rest.length ∨ k = 3 := by omega
    have hi3 : (0 : Int) ≤ (k : Int) := by omega
    have hx1 : Hid (((k : Int) + 1 < (rest.length : Int) + 1 ∧ ¬ (k : Int) + 1 < 4) ∨ ¬ (k : Int) + 1 < (rest.length : Int) + 1) := by
      show _ ∨ _
      omega
    rcases hx1.out with ⟨hj1, hj2⟩ | hj1
    · clear hx1 hlt
      go_wp2
      go_loopw [6] (fun v wm => ∃ m : Nat, k ≤ m ∧ m ≤ 3 ∧ wm.ownsRow (X + 1) 3 1 v m (ints (rgs rest m)) ∧ Below (X + 1) wz wm) (fun v _ => 3 - slLen v)
      case atStart => exact ⟨k, Nat.le_refl _, hk3, hown, hbel⟩
      case round =>
        obtain ⟨m, hkm, hm3, hownm, hbelm⟩ := hrel
        have hszm : X + 1 ≤ wr.heap.size := by have := hbelm.size; omega
        obtain rfl : m = 3 := by omega
        rcases hownm.2 with ⟨_, h0⟩ | ⟨gr, cap, cur, rfl, hgr, hgh, _⟩
        · omega
        have hgrl : gr < wr.heap.size := (Array.getElem?_eq_some_iff.1 hgh).1
        have hr0 : wr.cell? ⟨gr, 0, none⟩ = some (.int .i64 (rg rest 0)) := by rw [hownm.cellAt 0 (by omega)]; rfl
        have hr1 : wr.cell? ⟨gr, 1, none⟩ = some (.int .i64 (rg rest 1)) := by rw [hownm.cellAt 1 (by omega)]; rfl
        have hr2 : wr.cell? ⟨gr, 2, none⟩ = some (.int .i64 (rg rest 2)) := by rw [hownm.cellAt 2 (by omega)]; rfl
        have hXgr : X ≠ gr := by omega
        have hgw : g0 < wr.heap.size := Nat.lt_of_lt_of_le (Nat.lt_succ_of_lt hgX) hszm
        have F4 : Hid (Five wr w.heap.size 0 0 0 0 0) := Fz.out.below hbelm (by omega)
        have X4 : Hid (Five wr X (K : Int) 0 0 0 0) := Xz.out.below hbelm (by omega)
        have B4 : Below w.heap.size w wr := Bz.trans (hbelm.mono (by omega))
        have hcl4 : Hid (∀ (j : Nat) (x : ByteArray), (w0 :: rest)[j]? = some x → wr.cell? ⟨g0, j, none⟩ = some (.string x)) := fun j x hj => (hbelm.cell (p := ⟨g0, j, none⟩) (Nat.lt_succ_of_lt hgX)).trans (Cz.out j x hj)
        obtain ⟨lw, hlw⟩ : ∃ lw, (w0 :: rest)[rest.length]? = some lw := ⟨_, List.getElem?_eq_getElem (by simp)⟩
        have hlc : wr.cell? ⟨g0, rest.length, none⟩ = some (.string lw) := hcl4.out _ _ hlw
        have hlz : lw.size ≤ 65536 := hszs lw (List.mem_of_getElem? hlw)
        have hlast : lastW w0 rest = lw := by unfold lastW; rw [hlw]; rfl
        rw [hlast] at hV hN
        have hNum : Hid (∀ w, Calls Tryd.prog 44 #[.string lw] w fun e w' => e = .returned (.tuple #[.int .i64 V, .bool N]) ∧ w' = w) := fun w => by rw [← hV, ← hN]; exact numC lw (by omega) w
        have hV64 : In64 V := by rw [← hV]; exact numV_bd _
        have hqin := modQ_in 5 rest V hV64
        clear hown hbel hownm hbelm hgh Fz Xz Bz Cz hlw hlast hV hN hszs hws
        go_wp2_with fail
        refine (hNum.out _).mono ?_
        rintro e w4 ⟨rfl, rfl⟩
        clear hNum
        obtain ⟨x0, x1, x2, x3, x4, y0, y1, y2, y3, y4⟩ := X4.out
        go_wp2_with fail
        refine (specShs (K : Int) 5 c g h _ hs.out).mono ?_
        rintro e w5 ⟨rfl, hb5⟩
        have hF5 : Hid (Five w5 w.heap.size 0 0 0 0 0) := F4.out.below hb5 (by omega)
        have hX5 : Hid (Five w5 X (K : Int) 0 0 0 0) := X4.out.below hb5 (by omega)
        have B5 : Below w.heap.size w w5 := B4.trans (hb5.mono B4.size)
        have hcl5 : Hid (∀ (j : Nat) (x : ByteArray), (w0 :: rest)[j]? = some x → w5.cell? ⟨g0, j, none⟩ = some (.string x)) := fun j x hj => (hb5.cell (p := ⟨g0, j, none⟩) hgw).trans (hcl4.out j x hj)
        have hx5 : X < w5.heap.size := by have := hb5.size; omega
        have hr0 := (hb5.cell (p := ⟨gr, 0, none⟩) hgrl).trans hr0
        have hr1 := (hb5.cell (p := ⟨gr, 1, none⟩) hgrl).trans hr1
        have hr2 := (hb5.cell (p := ⟨gr, 2, none⟩) hgrl).trans hr2
        clear hb5 F4 X4 B4 hcl4 x0 x1 x2 x3 x4 y0 y1 y2 y3 y4 hlc hs
        have hq : modQ 5 rest V = ⟨0, (rg rest 1), (rg rest 0), (V)⟩ := by simp [modQ]
        rw [hq] at hok hqin
        have hq : Hid (modQ 5 rest V = ⟨0, (rg rest 1), (rg rest 0), (V)⟩) := hq
        obtain ⟨q1, q2, q3, q4⟩ := hqin
        have X6 : Hid (Five (((w5.setCell ⟨X, 3, none⟩ (.int .i64 (rg rest 0))).setCell ⟨X, 2, none⟩ (.int .i64 (rg rest 1))).setCell ⟨X, 4, none⟩ (.int .i64 (V))) X (K : Int) 0 (rg rest 1) (rg rest 0) (V)) := (((hX5.out).set3 _).set2 _).set4 _
        have F6 : Hid (Five (((w5.setCell ⟨X, 3, none⟩ (.int .i64 (rg rest 0))).setCell ⟨X, 2, none⟩ (.int .i64 (rg rest 1))).setCell ⟨X, 4, none⟩ (.int .i64 (V))) w.heap.size 0 0 0 0 0) := five_oth (five_oth (five_oth (hF5.out) (Nat.ne_of_lt hrx) _ _) (Nat.ne_of_lt hrx) _ _) (Nat.ne_of_lt hrx) _ _
        have B6 : Below w.heap.size w (((w5.setCell ⟨X, 3, none⟩ (.int .i64 (rg rest 0))).setCell ⟨X, 2, none⟩ (.int .i64 (rg rest 1))).setCell ⟨X, 4, none⟩ (.int .i64 (V))) := (((B5).setCell (Nat.le_of_lt hrx) _).setCell (Nat.le_of_lt hrx) _).setCell (Nat.le_of_lt hrx) _
        have C6 : Hid (∀ (j : Nat) (x : ByteArray), (w0 :: rest)[j]? = some x → (((w5.setCell ⟨X, 3, none⟩ (.int .i64 (rg rest 0))).setCell ⟨X, 2, none⟩ (.int .i64 (rg rest 1))).setCell ⟨X, 4, none⟩ (.int .i64 (V))).cell? ⟨g0, j, none⟩ = some (.string x)) := fun j x hj => (World.cell?_setCell_other _ _ _ _ (by first | (simp; done) | (simp; omega))).trans ((World.cell?_setCell_other _ _ _ _ (by first | (simp; done) | (simp; omega))).trans ((World.cell?_setCell_other _ _ _ _ (by first | (simp; done) | (simp; omega))).trans (hcl5.out j x hj)))
        have hx6 : X < (((w5.setCell ⟨X, 3, none⟩ (.int .i64 (rg rest 0))).setCell ⟨X, 2, none⟩ (.int .i64 (rg rest 1))).setCell ⟨X, 4, none⟩ (.int .i64 (V))).heap.size := by simpa using hx5
        obtain ⟨w6, hw6⟩ : ∃ w6, w6 = (((w5.setCell ⟨X, 3, none⟩ (.int .i64 (rg rest 0))).setCell ⟨X, 2, none⟩ (.int .i64 (rg rest 1))).setCell ⟨X, 4, none⟩ (.int .i64 (V))) := ⟨_, rfl⟩
        rw [← hw6] at X6 F6 B6 C6 hx6
        obtain ⟨x0, x1, x2, x3, x4, y0, y1, y2, y3, y4⟩ := hX5.out
        clear hX5 B5 hcl5 hx5
        have hrx6 := Nat.lt_trans hrx hx6
        cases N with
        | false =>
          have hok0 : Hid (ok = false) := by rw [hok]; rfl
          clear hok X6 C6 q1 q2 q3 q4
          subst hw6
          obtain ⟨d0, d1, d2, d3, d4, e0, e1, e2, e3, e4⟩ := F6.out
          obtain ⟨z0, z1, z2, z3, z4, zf0, zf1, zf2, zf3, zf4⟩ := hF5.out
          have hneR : w.heap.size ≠ X := Nat.ne_of_lt hrx
          have hneR2 : X ≠ w.heap.size := Nat.ne_of_gt hrx
          clear F6 hF5
          go_wp2
          refine bodyPost_ret (v := .tuple #[zero5, .bool false]) (by simp [results, Tryd.results19, go_sem, d0, d1, d2, d3, d4, zero5]) rfl ⟨by rw [hok0.out]; rfl, ?_⟩
          repeat (first | with_reducible exact B6 | refine Below.setCell ?_ (by first | omega | (simp; done) | (simp; omega)) _ | refine bdN ?_ _ | refine Below.drew ?_ | refine Below.alloc ?_ (by first | omega | (simp; done) | (simp; omega)) _)
        | true =>
          clear hF5
          have hokk : ok = (rightB (K : Int) 0 (rg rest 1) (rg rest 0) (V) && decide (wordsB (txt (textB K 0 (rg rest 1) (rg rest 0) (V))) = w0 :: rest)) := hok
          clear hok
          have hR : Hid (∀ w, Calls Tryd.prog 11 #[.agg #[.int .i64 (K : Int), .int .i64 0, .int .i64 (rg rest 1), .int .i64 (rg rest 0), .int .i64 (V)]] w fun e w' => e = .returned (.bool (rightB (K : Int) 0 (rg rest 1) (rg rest 0) (V))) ∧ Below w.heap.size w w') := fun w => rightC _ _ _ _ _ w
          have hTx : Hid (∀ w, Calls Tryd.prog 12 #[.agg #[.int .i64 (K : Int), .int .i64 0, .int .i64 (rg rest 1), .int .i64 (rg rest 0), .int .i64 (V)]] w fun e w' => e = .returned (.string (txt (textB K 0 (rg rest 1) (rg rest 0) (V)))) ∧ Below w.heap.size w w') := fun w => textAny _ _ _ _ _ (by omega) (by omega) q1 q2 q3 q4 w
          have hTl : (txt (textB K 0 (rg rest 1) (rg rest 0) (V))).size ≤ 1000 := by rw [txt_size]; exact Nat.le_trans (textL_len _ _ _ _ _ _ (names_short _ (by omega)) q1 q2 q3 q4) (by omega)
          obtain ⟨TT, hTT⟩ : ∃ TT, TT = txt (textB K 0 (rg rest 1) (rg rest 0) (V)) := ⟨_, rfl⟩
          rw [← hTT] at hokk hTx hTl
          have hWl : (wordsB TT).length ≤ 2000 := Nat.le_trans (wordsTo_len TT _) (by omega)
          clear hTT q1 q2 q3 q4
          cases hr : rightB (K : Int) 0 (rg rest 1) (rg rest 0) (V) with
          | false =>
            rw [hr] at hokk hR
            have hok0 : Hid (ok = false) := by rw [hokk]; rfl
            clear hokk hTx hr
            go_wp2_with fail
            rw [← hw6]
            refine (hR.out _).mono ?_
            rintro e w7 ⟨rfl, hb7⟩
            have F7 := F6.out.below hb7 hrx6
            have B7 : Below w.heap.size w w7 := B6.trans (hb7.mono B6.size)
            clear hb7 hR F6 X6 C6 hw6 B6
            obtain ⟨d0, d1, d2, d3, d4, e0, e1, e2, e3, e4⟩ := F7
            go_wp2
            refine bodyPost_ret (v := .tuple #[zero5, .bool false]) (by simp [results, Tryd.results19, go_sem, d0, d1, d2, d3, d4, zero5]) rfl ⟨by rw [hok0.out]; rfl, ?_⟩
            repeat (first | with_reducible exact B7 | refine Below.setCell ?_ (by first | omega | (simp; done) | (simp; omega)) _ | refine bdN ?_ _ | refine Below.drew ?_ | refine Below.alloc ?_ (by first | omega | (simp; done) | (simp; omega)) _)
          | true =>
            rw [hr] at hokk hR
            rw [Bool.true_and] at hokk
            clear hr
            go_wp2_with fail
            rw [← hw6]
            refine (hR.out _).mono ?_
            rintro e w7 ⟨rfl, hb7⟩
            have F7 := F6.out.below hb7 hrx6
            have X7 : Hid (Five w7 X (K : Int) 0 (rg rest 1) (rg rest 0) (V)) := X6.out.below hb7 hx6
            have B7 : Below w.heap.size w w7 := B6.trans (hb7.mono B6.size)
            have hx7 : X < w7.heap.size := Nat.lt_of_lt_of_le hx6 hb7.size
            have C7 : Hid (∀ (j : Nat) (x : ByteArray), (w0 :: rest)[j]? = some x → w7.cell? ⟨g0, j, none⟩ = some (.string x)) := fun j x hj => (hb7.cell (p := ⟨g0, j, none⟩) (Nat.lt_trans hgX hx6)).trans (C6.out j x hj)
            clear hb7 hR F6 X6 C6 hw6 B6 x0 x1 x2 x3 x4 y0 y1 y2 y3 y4
            obtain ⟨x0, x1, x2, x3, x4, y0, y1, y2, y3, y4⟩ := X7.out
            go_wp2_with fail
            refine (hTx.out _).mono ?_
            rintro e w8 ⟨rfl, hb8⟩
            have F8 := F7.below hb8 (Nat.lt_trans hrx hx7)
            have X8 : Hid (Five w8 X (K : Int) 0 (rg rest 1) (rg rest 0) (V)) := X7.out.below hb8 hx7
            have B8 : Below w.heap.size w w8 := B7.trans (hb8.mono B7.size)
            have hx8 : X < w8.heap.size := Nat.lt_of_lt_of_le hx7 hb8.size
            have C8 : Hid (∀ (j : Nat) (x : ByteArray), (w0 :: rest)[j]? = some x → w8.cell? ⟨g0, j, none⟩ = some (.string x)) := fun j x hj => (hb8.cell (p := ⟨g0, j, none⟩) (Nat.lt_trans hgX hx7)).trans (C7.out j x hj)
            clear hb8 F7 X7 C7 B7 hTx x0 x1 x2 x3 x4 y0 y1 y2 y3 y4
            go_wp2_with fail
            refine (wordsC TT (by omega) _).mono ?_
            rintro e w9 ⟨v2, rfl, hown2, hb9⟩
            have T2 := texts_of hown2
            have T3 : Texts w9 (.slice (some ⟨g0, 0, none⟩) (rest.length + 1) c0) (w0 :: rest) := ⟨⟨_, _, rfl⟩, fun _ => ⟨g0, c0, rfl, Nat.lt_of_lt_of_le (Nat.lt_trans hgX hx8) hb9.size, fun j x hj => (hb9.cell (p := ⟨g0, j, none⟩) (Nat.lt_trans hgX hx8)).trans (C8.out j x hj)⟩⟩
            have F9 := F8.below hb9 (Nat.lt_trans hrx hx8)
            have X9 : Hid (Five w9 X (K : Int) 0 (rg rest 1) (rg rest 0) (V)) := X8.out.below hb9 hx8
            have B9 : Below w.heap.size w w9 := B8.trans (hb9.mono B8.size)
            have hx9 : X < w9.heap.size := Nat.lt_of_lt_of_le hx8 hb9.size
            clear hb9 hown2 F8 X8 C8 B8
            go_wp2_with fail
            refine (sameC _ _ (wordsB TT) (w0 :: rest) (by omega) (by rw [List.length_cons]; omega) _ T2 T3).mono ?_
            rintro e wa ⟨rfl, hba⟩
            obtain ⟨D, hD⟩ : ∃ D, D = decide (wordsB TT = w0 :: rest) := ⟨_, rfl⟩
            rw [← hD] at hokk ⊢
            have Fa := F9.below hba (Nat.lt_trans hrx hx9)
            have Xa := X9.out.below hba hx9
            have Ba : Below w.heap.size w wa := B9.trans (hba.mono B9.size)
            clear hba T2 T3 F9 X9 B9 hD
            obtain ⟨d0, d1, d2, d3, d4, e0, e1, e2, e3, e4⟩ := Fa
            obtain ⟨x0, x1, x2, x3, x4, y0, y1, y2, y3, y4⟩ := Xa
            cases D with
            | false =>
              have hok0 : Hid (ok = false) := hokk
              clear hokk
              go_wp2
              refine bodyPost_ret (v := .tuple #[zero5, .bool false]) (by simp [results, Tryd.results19, go_sem, d0, d1, d2, d3, d4, zero5]) rfl ⟨by rw [hok0.out]; rfl, ?_⟩
              repeat (first | with_reducible exact Ba | refine Below.setCell ?_ (by first | omega | (simp; done) | (simp; omega)) _ | refine bdN ?_ _ | refine Below.drew ?_ | refine Below.alloc ?_ (by first | omega | (simp; done) | (simp; omega)) _)
            | true =>
              have hok1 : Hid (ok = true) := hokk
              clear hokk
              go_wp2
              refine bodyPost_ret (v := .tuple #[agg5 K ⟨0, (rg rest 1), (rg rest 0), (V)⟩, .bool true]) (by simp [results, Tryd.results19, go_sem, d0, d1, d2, d3, d4, agg5]) rfl ⟨by rw [hok1.out, hq.out]; rfl, ?_⟩
              repeat (first | with_reducible exact Ba | refine Below.setCell ?_ (by first | omega | (simp; done) | (simp; omega)) _ | refine bdN ?_ _ | refine Below.drew ?_ | refine Below.alloc ?_ (by first | omega | (simp; done) | (simp; omega)) _)
    · clear hx1 hlt
      go_wp2
      go_loopw [6] (fun v wm => ∃ m : Nat, k ≤ m ∧ m ≤ 3 ∧ wm.ownsRow (X + 1) 3 1 v m (ints (rgs rest m)) ∧ Below (X + 1) wz wm) (fun v _ => 3 - slLen v)
      case atStart => exact ⟨k, Nat.le_refl _, hk3, hown, hbel⟩
      case round =>
        obtain ⟨m, hkm, hm3, hownm, hbelm⟩ := hrel
        have hszm : X + 1 ≤ wr.heap.size := by have := hbelm.size; omega
        by_cases hmlt : m < 3
        · have hr0 : rg rest m = 0 := by
            unfold rg
            rw [List.getElem?_eq_none (by omega)]
          have hmi : (m : Int) < 3 := by omega
          have hr0 : ints (rgs rest m) ++ ints [0] = ints (rgs rest (m + 1)) := by rw [← rgs_snoc, hr0]
          clear hszs Cz Fz Xz hown hbel
          rcases hownm.2 with ⟨hv, h0⟩ | ⟨gr, cap, cur, hv, hgr⟩
          · subst h0
            subst hv
            go_wp2_with (at_builtin; refine wpList_append_lies _ rfl _ _ 68 rfl (X + 1) 3 i0 _ 1 8 Tryd.underlying68 hinfo hz0 hz1 hz2 rfl (by omega) _ _ _ rfl (hownm.alloc _) ⟨wr.heap.size, 0, none⟩ 1 1 (ints [0]) rfl rfl (World.news_of_block (cs := #[.int .i64 0]) (t := 3) (fr := (0, 0)) (heap_alloc_new wr _)) (by simp [ints, Value.oneCell']) (by omega) (by unfold maxLen; omega) (by omega) (by simp; omega) (wr.heap.size + 1) (by simp) ?_; intro gg cap2 wn hown1 hgrow hat hlt1)
            go_roundw
            case rel => exact ⟨0 + 1, by omega, by omega, by rw [← hr0]; exact hown1, (hbelm.alloc hszm _).grown hgrow (by simp; omega) (fun j hj => (hownm.lt j hj).1)⟩
            case measure => first | (simp [slLen]; done) | (simp [slLen]; omega) | (simp only [slLen]; omega)
          · subst hv
            go_wp2_with (at_builtin; refine wpList_append_lies _ rfl _ _ 68 rfl (X + 1) 3 i0 _ 1 8 Tryd.underlying68 hinfo hz0 hz1 hz2 rfl (by omega) _ _ _ rfl (hownm.alloc _) ⟨wr.heap.size, 0, none⟩ 1 1 (ints [0]) rfl rfl (World.news_of_block (cs := #[.int .i64 0]) (t := 3) (fr := (0, 0)) (heap_alloc_new wr _)) (by simp [ints, Value.oneCell']) (by omega) (by unfold maxLen; omega) (by omega) (by simp; omega) (wr.heap.size + 1) (by simp) ?_; intro gg cap2 wn hown1 hgrow hat hlt1)
            go_roundw
            case rel => exact ⟨m + 1, by omega, by omega, by rw [← hr0]; exact hown1, (hbelm.alloc hszm _).grown hgrow (by simp; omega) (fun j hj => (hownm.lt j hj).1)⟩
            case measure => first | (simp [slLen]; done) | (simp [slLen]; omega) | (simp only [slLen]; omega)
        obtain rfl : m = 3 := by omega
        rcases hownm.2 with ⟨_, h0⟩ | ⟨gr, cap, cur, rfl, hgr, hgh, _⟩
        · omega
        have hgrl : gr < wr.heap.size := (Array.getElem?_eq_some_iff.1 hgh).1
        have hr0 : wr.cell? ⟨gr, 0, none⟩ = some (.int .i64 (rg rest 0)) := by rw [hownm.cellAt 0 (by omega)]; rfl
        have hr1 : wr.cell? ⟨gr, 1, none⟩ = some (.int .i64 (rg rest 1)) := by rw [hownm.cellAt 1 (by omega)]; rfl
        have hr2 : wr.cell? ⟨gr, 2, none⟩ = some (.int .i64 (rg rest 2)) := by rw [hownm.cellAt 2 (by omega)]; rfl
        have hXgr : X ≠ gr := by omega
        have hgw : g0 < wr.heap.size := Nat.lt_of_lt_of_le (Nat.lt_succ_of_lt hgX) hszm
        have F4 : Hid (Five wr w.heap.size 0 0 0 0 0) := Fz.out.below hbelm (by omega)
        have X4 : Hid (Five wr X (K : Int) 0 0 0 0) := Xz.out.below hbelm (by omega)
        have B4 : Below w.heap.size w wr := Bz.trans (hbelm.mono (by omega))
        have hcl4 : Hid (∀ (j : Nat) (x : ByteArray), (w0 :: rest)[j]? = some x → wr.cell? ⟨g0, j, none⟩ = some (.string x)) := fun j x hj => (hbelm.cell (p := ⟨g0, j, none⟩) (Nat.lt_succ_of_lt hgX)).trans (Cz.out j x hj)
        obtain ⟨lw, hlw⟩ : ∃ lw, (w0 :: rest)[rest.length]? = some lw := ⟨_, List.getElem?_eq_getElem (by simp)⟩
        have hlc : wr.cell? ⟨g0, rest.length, none⟩ = some (.string lw) := hcl4.out _ _ hlw
        have hlz : lw.size ≤ 65536 := hszs lw (List.mem_of_getElem? hlw)
        have hlast : lastW w0 rest = lw := by unfold lastW; rw [hlw]; rfl
        rw [hlast] at hV hN
        have hNum : Hid (∀ w, Calls Tryd.prog 44 #[.string lw] w fun e w' => e = .returned (.tuple #[.int .i64 V, .bool N]) ∧ w' = w) := fun w => by rw [← hV, ← hN]; exact numC lw (by omega) w
        have hV64 : In64 V := by rw [← hV]; exact numV_bd _
        have hqin := modQ_in 5 rest V hV64
        clear hown hbel hownm hbelm hgh Fz Xz Bz Cz hlw hlast hV hN hszs hws
        go_wp2_with fail
        refine (hNum.out _).mono ?_
        rintro e w4 ⟨rfl, rfl⟩
        clear hNum
        obtain ⟨x0, x1, x2, x3, x4, y0, y1, y2, y3, y4⟩ := X4.out
        go_wp2_with fail
        refine (specShs (K : Int) 5 c g h _ hs.out).mono ?_
        rintro e w5 ⟨rfl, hb5⟩
        have hF5 : Hid (Five w5 w.heap.size 0 0 0 0 0) := F4.out.below hb5 (by omega)
        have hX5 : Hid (Five w5 X (K : Int) 0 0 0 0) := X4.out.below hb5 (by omega)
        have B5 : Below w.heap.size w w5 := B4.trans (hb5.mono B4.size)
        have hcl5 : Hid (∀ (j : Nat) (x : ByteArray), (w0 :: rest)[j]? = some x → w5.cell? ⟨g0, j, none⟩ = some (.string x)) := fun j x hj => (hb5.cell (p := ⟨g0, j, none⟩) hgw).trans (hcl4.out j x hj)
        have hx5 : X < w5.heap.size := by have := hb5.size; omega
        have hr0 := (hb5.cell (p := ⟨gr, 0, none⟩) hgrl).trans hr0
        have hr1 := (hb5.cell (p := ⟨gr, 1, none⟩) hgrl).trans hr1
        have hr2 := (hb5.cell (p := ⟨gr, 2, none⟩) hgrl).trans hr2
        clear hb5 F4 X4 B4 hcl4 x0 x1 x2 x3 x4 y0 y1 y2 y3 y4 hlc hs
        have hq : modQ 5 rest V = ⟨0, (rg rest 1), (rg rest 0), (V)⟩ := by simp [modQ]
        rw [hq] at hok hqin
        have hq : Hid (modQ 5 rest V = ⟨0, (rg rest 1), (rg rest 0), (V)⟩) := hq
        obtain ⟨q1, q2, q3, q4⟩ := hqin
        have X6 : Hid (Five (((w5.setCell ⟨X, 3, none⟩ (.int .i64 (rg rest 0))).setCell ⟨X, 2, none⟩ (.int .i64 (rg rest 1))).setCell ⟨X, 4, none⟩ (.int .i64 (V))) X (K : Int) 0 (rg rest 1) (rg rest 0) (V)) := (((hX5.out).set3 _).set2 _).set4 _
        have F6 : Hid (Five (((w5.setCell ⟨X, 3, none⟩ (.int .i64 (rg rest 0))).setCell ⟨X, 2, none⟩ (.int .i64 (rg rest 1))).setCell ⟨X, 4, none⟩ (.int .i64 (V))) w.heap.size 0 0 0 0 0) := five_oth (five_oth (five_oth (hF5.out) (Nat.ne_of_lt hrx) _ _) (Nat.ne_of_lt hrx) _ _) (Nat.ne_of_lt hrx) _ _
        have B6 : Below w.heap.size w (((w5.setCell ⟨X, 3, none⟩ (.int .i64 (rg rest 0))).setCell ⟨X, 2, none⟩ (.int .i64 (rg rest 1))).setCell ⟨X, 4, none⟩ (.int .i64 (V))) := (((B5).setCell (Nat.le_of_lt hrx) _).setCell (Nat.le_of_lt hrx) _).setCell (Nat.le_of_lt hrx) _
        have C6 : Hid (∀ (j : Nat) (x : ByteArray), (w0 :: rest)[j]? = some x → (((w5.setCell ⟨X, 3, none⟩ (.int .i64 (rg rest 0))).setCell ⟨X, 2, none⟩ (.int .i64 (rg rest 1))).setCell ⟨X, 4, none⟩ (.int .i64 (V))).cell? ⟨g0, j, none⟩ = some (.string x)) := fun j x hj => (World.cell?_setCell_other _ _ _ _ (by first | (simp; done) | (simp; omega))).trans ((World.cell?_setCell_other _ _ _ _ (by first | (simp; done) | (simp; omega))).trans ((World.cell?_setCell_other _ _ _ _ (by first | (simp; done) | (simp; omega))).trans (hcl5.out j x hj)))
        have hx6 : X < (((w5.setCell ⟨X, 3, none⟩ (.int .i64 (rg rest 0))).setCell ⟨X, 2, none⟩ (.int .i64 (rg rest 1))).setCell ⟨X, 4, none⟩ (.int .i64 (V))).heap.size := by simpa using hx5
        obtain ⟨w6, hw6⟩ : ∃ w6, w6 = (((w5.setCell ⟨X, 3, none⟩ (.int .i64 (rg rest 0))).setCell ⟨X, 2, none⟩ (.int .i64 (rg rest 1))).setCell ⟨X, 4, none⟩ (.int .i64 (V))) := ⟨_, rfl⟩
        rw [← hw6] at X6 F6 B6 C6 hx6
        obtain ⟨x0, x1, x2, x3, x4, y0, y1, y2, y3, y4⟩ := hX5.out
        clear hX5 B5 hcl5 hx5
        have hrx6 := Nat.lt_trans hrx hx6
        cases N with
        | false =>
          have hok0 : Hid (ok = false) := by rw [hok]; rfl
          clear hok X6 C6 q1 q2 q3 q4
          subst hw6
          obtain ⟨d0, d1, d2, d3, d4, e0, e1, e2, e3, e4⟩ := F6.out
          obtain ⟨z0, z1, z2, z3, z4, zf0, zf1, zf2, zf3, zf4⟩ := hF5.out
          have hneR : w.heap.size ≠ X := Nat.ne_of_lt hrx
          have hneR2 : X ≠ w.heap.size := Nat.ne_of_gt hrx
          clear F6 hF5
          go_wp2
          refine bodyPost_ret (v := .tuple #[zero5, .bool false]) (by simp [results, Tryd.results19, go_sem, d0, d1, d2, d3, d4, zero5]) rfl ⟨by rw [hok0.out]; rfl, ?_⟩
          repeat (first | with_reducible exact B6 | refine Below.setCell ?_ (by first | omega | (simp; done) | (simp; omega)) _ | refine bdN ?_ _ | refine Below.drew ?_ | refine Below.alloc ?_ (by first | omega | (simp; done) | (simp; omega)) _)
        | true =>
          clear hF5
          have hokk : ok = (rightB (K : Int) 0 (rg rest 1) (rg rest 0) (V) && decide (wordsB (txt (textB K 0 (rg rest 1) (rg rest 0) (V))) = w0 :: rest)) := hok
          clear hok
          have hR : Hid (∀ w, Calls Tryd.prog 11 #[.agg #[.int .i64 (K : Int), .int .i64 0, .int .i64 (rg rest 1), .int .i64 (rg rest 0), .int .i64 (V)]] w fun e w' => e = .returned (.bool (rightB (K : Int) 0 (rg rest 1) (rg rest 0) (V))) ∧ Below w.heap.size w w') := fun w => rightC _ _ _ _ _ w
          have hTx : Hid (∀ w, Calls Tryd.prog 12 #[.agg #[.int .i64 (K : Int), .int .i64 0, .int .i64 (rg rest 1), .int .i64 (rg rest 0), .int .i64 (V)]] w fun e w' => e = .returned (.string (txt (textB K 0 (rg rest 1) (rg rest 0) (V)))) ∧ Below w.heap.size w w') := fun w => textAny _ _ _ _ _ (by omega) (by omega) q1 q2 q3 q4 w
          have hTl : (txt (textB K 0 (rg rest 1) (rg rest 0) (V))).size ≤ 1000 := by rw [txt_size]; exact Nat.le_trans (textL_len _ _ _ _ _ _ (names_short _ (by omega)) q1 q2 q3 q4) (by omega)
          obtain ⟨TT, hTT⟩ : ∃ TT, TT = txt (textB K 0 (rg rest 1) (rg rest 0) (V)) := ⟨_, rfl⟩
          rw [← hTT] at hokk hTx hTl
          have hWl : (wordsB TT).length ≤ 2000 := Nat.le_trans (wordsTo_len TT _) (by omega)
          clear hTT q1 q2 q3 q4
          cases hr : rightB (K : Int) 0 (rg rest 1) (rg rest 0) (V) with
          | false =>
            rw [hr] at hokk hR
            have hok0 : Hid (ok = false) := by rw [hokk]; rfl
            clear hokk hTx hr
            go_wp2_with fail
            rw [← hw6]
            refine (hR.out _).mono ?_
            rintro e w7 ⟨rfl, hb7⟩
            have F7 := F6.out.below hb7 hrx6
            have B7 : Below w.heap.size w w7 := B6.trans (hb7.mono B6.size)
            clear hb7 hR F6 X6 C6 hw6 B6
            obtain ⟨d0, d1, d2, d3, d4, e0, e1, e2, e3, e4⟩ := F7
            go_wp2
            refine bodyPost_ret (v := .tuple #[zero5, .bool false]) (by simp [results, Tryd.results19, go_sem, d0, d1, d2, d3, d4, zero5]) rfl ⟨by rw [hok0.out]; rfl, ?_⟩
            repeat (first | with_reducible exact B7 | refine Below.setCell ?_ (by first | omega | (simp; done) | (simp; omega)) _ | refine bdN ?_ _ | refine Below.drew ?_ | refine Below.alloc ?_ (by first | omega | (simp; done) | (simp; omega)) _)
          | true =>
            rw [hr] at hokk hR
            rw [Bool.true_and] at hokk
            clear hr
            go_wp2_with fail
            rw [← hw6]
            refine (hR.out _).mono ?_
            rintro e w7 ⟨rfl, hb7⟩
            have F7 := F6.out.below hb7 hrx6
            have X7 : Hid (Five w7 X (K : Int) 0 (rg rest 1) (rg rest 0) (V)) := X6.out.below hb7 hx6
            have B7 : Below w.heap.size w w7 := B6.trans (hb7.mono B6.size)
            have hx7 : X < w7.heap.size := Nat.lt_of_lt_of_le hx6 hb7.size
            have C7 : Hid (∀ (j : Nat) (x : ByteArray), (w0 :: rest)[j]? = some x → w7.cell? ⟨g0, j, none⟩ = some (.string x)) := fun j x hj => (hb7.cell (p := ⟨g0, j, none⟩) (Nat.lt_trans hgX hx6)).trans (C6.out j x hj)
            clear hb7 hR F6 X6 C6 hw6 B6 x0 x1 x2 x3 x4 y0 y1 y2 y3 y4
            obtain ⟨x0, x1, x2, x3, x4, y0, y1, y2, y3, y4⟩ := X7.out
            go_wp2_with fail
            refine (hTx.out _).mono ?_
            rintro e w8 ⟨rfl, hb8⟩
            have F8 := F7.below hb8 (Nat.lt_trans hrx hx7)
            have X8 : Hid (Five w8 X (K : Int) 0 (rg rest 1) (rg rest 0) (V)) := X7.out.below hb8 hx7
            have B8 : Below w.heap.size w w8 := B7.trans (hb8.mono B7.size)
            have hx8 : X < w8.heap.size := Nat.lt_of_lt_of_le hx7 hb8.size
            have C8 : Hid (∀ (j : Nat) (x : ByteArray), (w0 :: rest)[j]? = some x → w8.cell? ⟨g0, j, none⟩ = some (.string x)) := fun j x hj => (hb8.cell (p := ⟨g0, j, none⟩) (Nat.lt_trans hgX hx7)).trans (C7.out j x hj)
            clear hb8 F7 X7 C7 B7 hTx x0 x1 x2 x3 x4 y0 y1 y2 y3 y4
            go_wp2_with fail
            refine (wordsC TT (by omega) _).mono ?_
            rintro e w9 ⟨v2, rfl, hown2, hb9⟩
            have T2 := texts_of hown2
            have T3 : Texts w9 (.slice (some ⟨g0, 0, none⟩) (rest.length + 1) c0) (w0 :: rest) := ⟨⟨_, _, rfl⟩, fun _ => ⟨g0, c0, rfl, Nat.lt_of_lt_of_le (Nat.lt_trans hgX hx8) hb9.size, fun j x hj => (hb9.cell (p := ⟨g0, j, none⟩) (Nat.lt_trans hgX hx8)).trans (C8.out j x hj)⟩⟩
            have F9 := F8.below hb9 (Nat.lt_trans hrx hx8)
            have X9 : Hid (Five w9 X (K : Int) 0 (rg rest 1) (rg rest 0) (V)) := X8.out.below hb9 hx8
            have B9 : Below w.heap.size w w9 := B8.trans (hb9.mono B8.size)
            have hx9 : X < w9.heap.size := Nat.lt_of_lt_of_le hx8 hb9.size
            clear hb9 hown2 F8 X8 C8 B8
            go_wp2_with fail
            refine (sameC _ _ (wordsB TT) (w0 :: rest) (by omega) (by rw [List.length_cons]; omega) _ T2 T3).mono ?_
            rintro e wa ⟨rfl, hba⟩
            obtain ⟨D, hD⟩ : ∃ D, D = decide (wordsB TT = w0 :: rest) := ⟨_, rfl⟩
            rw [← hD] at hokk ⊢
            have Fa := F9.below hba (Nat.lt_trans hrx hx9)
            have Xa := X9.out.below hba hx9
            have Ba : Below w.heap.size w wa := B9.trans (hba.mono B9.size)
            clear hba T2 T3 F9 X9 B9 hD
            obtain ⟨d0, d1, d2, d3, d4, e0, e1, e2, e3, e4⟩ := Fa
            obtain ⟨x0, x1, x2, x3, x4, y0, y1, y2, y3, y4⟩ := Xa
            cases D with
            | false =>
              have hok0 : Hid (ok = false) := hokk
              clear hokk
              go_wp2
              refine bodyPost_ret (v := .tuple #[zero5, .bool false]) (by simp [results, Tryd.results19, go_sem, d0, d1, d2, d3, d4, zero5]) rfl ⟨by rw [hok0.out]; rfl, ?_⟩
              repeat (first | with_reducible exact Ba | refine Below.setCell ?_ (by first | omega | (simp; done) | (simp; omega)) _ | refine bdN ?_ _ | refine Below.drew ?_ | refine Below.alloc ?_ (by first | omega | (simp; done) | (simp; omega)) _)
            | true =>
              have hok1 : Hid (ok = true) := hokk
              clear hokk
              go_wp2
              refine bodyPost_ret (v := .tuple #[agg5 K ⟨0, (rg rest 1), (rg rest 0), (V)⟩, .bool true]) (by simp [results, Tryd.results19, go_sem, d0, d1, d2, d3, d4, agg5]) rfl ⟨by rw [hok1.out, hq.out]; rfl, ?_⟩
              repeat (first | with_reducible exact Ba | refine Below.setCell ?_ (by first | omega | (simp; done) | (simp; omega)) _ | refine bdN ?_ _ | refine Below.drew ?_ | refine Below.alloc ?_ (by first | omega | (simp; done) | (simp; omega)) _)
end Go.Proofs.YtdbngfeelfgbeaaDoor.Tx
