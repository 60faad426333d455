/- ReadInstr of the program: words that are told. -/
import Derived.Test.YtdbngfeelfgbeaaDoorGXReadInstr31
namespace Go.Proofs.YtdbngfeelfgbeaaDoor.Tx
open Go.RowKit
set_option linter.unusedVariables false

theorem lastT_le (s : ByteArray) : ∀ n, Op.lastT s n ≤ n
  | 0 => Nat.le_refl _
  | n + 1 => by
    have := lastT_le s n
    unfold Op.lastT
    split <;> omega
theorem told_by (K : Nat) (hK : K ≤ 64) : ∃ told, ToldBy (shT (K : Int)).1 told := by
  by_cases h : 1 ≤ K
  · have hf := shT_form (K : Int) (by omega) (by omega)
    obtain ⟨told, ht⟩ := told_all _ hf.1 hf.2
    exact ⟨told, ht.call, ht.ok, ht.few⟩
  · obtain rfl : K = 0 := by omega
    exact ⟨⟨#[]⟩, told0, by simp, by decide⟩

set_option maxRecDepth 100000 in
set_option maxHeartbeats 8000000 in
theorem readSome (t : ByteArray) (ht : t.size ≤ 65536) (w0 : ByteArray) (rest : List ByteArray) (hws : wordsB t = w0 :: rest) (K : Nat) (hK : Op.lastT w0 64 = K) (f c g h : Int) (hs : shT (K : Int) = (f, c, g, h)) (told : ByteArray) (htold : ToldBy f told) (w : World) (hL : Rd.Laid w) :
    Calls Tryd.prog 9 #[.string t] w fun e w' => (rest.length = told.size → ∀ q, readTo told.data.toList rest told.size = some q → rightB K q.rd q.r1 q.r2 q.im = true → e = .returned (.tuple #[agg5 K q, .int .i64 0])) ∧
      (¬ (rest.length = told.size ∧ ∃ q, readTo told.data.toList rest told.size = some q ∧ rightB K q.rd q.r1 q.r2 q.im = true) → e = .returned (.tuple #[zero5, .int .i64 3])) ∧ Below w.heap.size w w' := by
  have hi : ¬ (65536 : Int) < (t.size : Int) := by omega
  obtain ⟨tcall, tok, tfew⟩ := htold
  have tcall : Hid (∀ w, Calls Tryd.prog 14 #[.int .i64 f] w fun e w' => e = .returned (.string told) ∧ w' = w) := tcall
  have hs : Hid (shT (K : Int) = (f, c, g, h)) := hs
  have hszs : ∀ x ∈ w0 :: rest, x.size ≤ 65536 := fun x hx => by
    rw [← hws] at hx
    exact Nat.le_trans (wordsTo_size t _ x hx) ht
  have hwl : (w0 :: rest).length ≤ 65537 := by
    rw [← hws]
    exact Nat.le_trans (wordsTo_len t _) (by omega)
  have hlen : (wordsB t).length = rest.length + 1 := by rw [hws]; rfl
  have hrl : (rest.length : Int) ≤ 65536 := by simp at hwl; omega
  have hw0 : w0.size ≤ maxLen := by have := hszs w0 (by simp); unfold maxLen; omega
  obtain ⟨n, hn⟩ : ∃ n, rest.length = n := ⟨_, rfl⟩
  have hOf : Hid (∀ w, Op.Laid w → Calls Tryd.prog 21 #[.string w0] w fun e w' => e = .returned (.int .i64 (K : Nat)) ∧ Below w.heap.size w w') := fun w hw => by rw [← hK]; exact Op.implOf w0 w hw hw0
  clear hK hw0
  go_enter Tryd.func9, Tryd.ntmps9
  go_wp2_with fail
  refine (blankP t (by omega) _).mono ?_
  rintro e w1 ⟨A, rfl, hown, hb⟩
  have T1 := texts_of hown
  rw [hws] at T1
  obtain ⟨g0, c0, hv, hg0, hcells⟩ := T1.at' (by simp)
  have F1 : Five w1 w.heap.size 0 0 0 0 0 := Five.below (by constructor <;> simp) hb (by simp <;> omega)
  have B1 : Below w.heap.size w w1 := ((Below.refl _ _).alloc (Nat.le_refl _) _).trans (hb.mono (by simp))
  have hAz : w.heap.size < A := by
    rcases hown.2 with ⟨h1, _⟩ | ⟨g1, _, _, h1, h2, _⟩
    · cases h1
    · injection h1 with h1
      injection h1 with h1
      injection h1 with h1
      simp at h2
      omega
  obtain rfl : g0 = A := by
    injection hv with hv
    injection hv with hv
    injection hv with hv
    exact hv.symm
  have hC0 := hcells 0 w0 rfl
  rw [hlen, hn]
  rw [hn] at hrl
  clear hb hown T1 hv hlen hws hwl hi
  have hne : ((n : Int) + 1 == 0) = false := by rw [beq_eq_false_iff_ne]; omega
  have hnp : (0 : Int) < (n : Int) + 1 := by omega
  go_wp2_with fail
  refine (hOf.out _ (Rd.laid_below hL B1).x.o).mono ?_
  rintro e w2 ⟨rfl, hb2⟩
  have z1 : w.heap.size < w1.heap.size := Nat.lt_trans hAz hg0
  have F2 : Five w2 w.heap.size 0 0 0 0 0 := F1.below hb2 z1
  have B2 : Below w.heap.size w w2 := B1.trans (hb2.mono B1.size)
  have hg2 : g0 < w2.heap.size := Nat.lt_of_lt_of_le hg0 hb2.size
  have hcells2 : ∀ (j : Nat) (x : ByteArray), (w0 :: rest)[j]? = some x → w2.cell? ⟨g0, j, none⟩ = some (.string x) := fun j x hj => (hb2.cell (p := ⟨g0, j, none⟩) hg0).trans (hcells j x hj)
  clear hb2 F1 B1 hg0 hcells hC0 z1 hOf
  go_wp2_with fail
  have hbA : Below w2.heap.size w2 (w2.alloc (.cells #[.int .i64 (K : Int), .int .i64 0, .int .i64 0, .int .i64 0, .int .i64 0] 26)) := (Below.refl _ _).alloc (Nat.le_refl _) _
  refine (shapeCs (K : Int) f c g h _ hs.out).mono ?_
  rintro e w4 ⟨rfl, hb4⟩
  have z2 : w.heap.size < w2.heap.size := Nat.lt_trans hAz hg2
  have F4 : Hid (Five w4 w.heap.size 0 0 0 0 0) := (F2.below hbA z2).below hb4 (by simp; omega)
  have X4 : Hid (FiveQ w4 w2.heap.size (K : Int) ⟨0, 0, 0, 0⟩) := Five.below (by constructor <;> simp) hb4 (by simp)
  have B4 : Below w.heap.size w w4 := B2.trans ((hbA.trans (hb4.mono hbA.size)).mono B2.size)
  have hx4 : w2.heap.size < w4.heap.size := by have := hb4.size; simp at this; omega
  have hg4 : g0 < w4.heap.size := Nat.lt_trans hg2 hx4
  have hcells4 : Hid (∀ (j : Nat) (x : ByteArray), (w0 :: rest)[j]? = some x → w4.cell? ⟨g0, j, none⟩ = some (.string x)) := fun j x hj => (hb4.cell (p := ⟨g0, j, none⟩) (by simp; omega)).trans ((hbA.cell (p := ⟨g0, j, none⟩) hg2).trans (hcells2 j x hj))
  obtain ⟨X, hX⟩ : ∃ X, X = w2.heap.size := ⟨_, rfl⟩
  rw [← hX] at X4 hx4 hg2 z2
  clear hb4 hbA F2 B2 hcells2 hs
  have hgX : g0 ≠ X := by omega
  have hrX : w.heap.size ≠ X := by omega
  rw [← hX]
  clear hX
  have hfd := shField0 f c g h
  go_wp2_with fail
  refine (tcall.out _).mono ?_
  rintro e w5 ⟨rfl, rfl⟩
  clear tcall hfd
  by_cases hlen : n = told.size
  case neg =>
    have h1 : ((n : Int) + 1 == (1 : Int) + (told.size : Int)) = false := by rw [beq_eq_false_iff_ne]; omega
    have h2 : ((n : Int) + 1 != (1 : Int) + (told.size : Int)) = true := by rw [bne_iff_ne]; omega
    have h3 : (told.size : Int) ≤ 3 := by omega
    obtain ⟨c0, c1, c2, c3, c4, f0, f1, f2, f3, f4⟩ := F4.out
    clear F4 X4 hcells4
    go_wp2
    refine bodyPost_ret (v := .tuple #[zero5, .int .i64 3]) (by simp [results, Tryd.results9, go_sem, c0, c1, c2, c3, c4]; rfl) rfl ⟨fun e => absurd (hn.symm.trans e) hlen, fun _ => rfl, ?_⟩
    repeat (first | exact B4 | refine Below.setCell ?_ (by first | omega | (simp; done) | (simp; omega)) _ | refine bdN ?_ _ | refine Below.drew ?_ | refine Below.alloc ?_ (by first | omega | (simp; done) | (simp; omega)) _)
  subst hlen
  have h1 : ((told.size : Int) + 1 == (1 : Int) + (told.size : Int)) = true := by rw [beq_iff_eq]; omega
  have h2 : ((told.size : Int) + 1 != (1 : Int) + (told.size : Int)) = false := by rw [bne_eq_false_iff_eq]; omega
  have h3 : (told.size : Int) ≤ 3 := by omega
  have hrx : w.heap.size < X := z2
  by_cases hz : told.size = 0
  · have hzi : (told.size : Int) = 0 := by omega
    obtain ⟨tl, htl⟩ : ∃ tl, tl = told.size := ⟨_, rfl⟩
    have hzz : Hid (told.size = 0) := hz
    rw [hz]
    clear hz hzi h1 h2 h3 htl tl
    have h5 : (told.size : Int) = 0 := by have := hzz.out; omega
    have hfound : Hid (readTo told.data.toList rest told.size = some ⟨0, 0, 0, 0⟩) := by show _ = _; rw [hzz.out]; rfl
    go_wp2
    all_goals
      go_loopw [41] (fun t wr => t = .int .i64 0 ∧ wr = w5) (fun _ _ => 0)
      case atStart => exact ⟨rfl, rfl⟩
      case round =>
        obtain ⟨rfl, rfl⟩ := hrel
        have hX := X4
        have hF := F4
        have hbel := B4
        have hxw := hx4
        clear X4 F4 B4 hx4 hcells4
        have hX' := hX.out
        obtain ⟨x0, x1, x2, x3, x4, y0, y1, y2, y3, y4⟩ := hX'
        have hX2 : Hid (FiveQ wr X (K : Int) (⟨0, 0, 0, 0⟩ : Q)) := ⟨x0, x1, x2, x3, x4, y0, y1, y2, y3, y4⟩
        cases hr : rightB (K : Int) (⟨0, 0, 0, 0⟩ : Q).rd (⟨0, 0, 0, 0⟩ : Q).r1 (⟨0, 0, 0, 0⟩ : Q).r2 (⟨0, 0, 0, 0⟩ : Q).im with
        | false =>
          have hno : Hid (¬ (rest.length = told.size ∧ ∃ z, readTo told.data.toList rest told.size = some z ∧ rightB (K : Int) z.rd z.r1 z.r2 z.im = true)) := fun e => by
            obtain ⟨_, z, hz1, hz2⟩ := e
            have hf := hfound.out
            rw [hf] at hz1
            injection hz1 with hz1
            rw [← hz1, hr] at hz2
            cases hz2
          have hyes : Hid (rest.length = told.size → ∀ z, readTo told.data.toList rest told.size = some z → rightB (K : Int) z.rd z.r1 z.r2 z.im = true → False) := fun e z h1 h2 => hno.out ⟨e, z, h1, h2⟩
          have hIns : Hid (∀ w, Go.Proofs.YtdbngfeelfgbeaaDoor.Laid w → Calls Tryd.prog 13 #[.agg #[.int .i64 (K : Int), .int .i64 (⟨0, 0, 0, 0⟩ : Q).rd, .int .i64 (⟨0, 0, 0, 0⟩ : Q).r1, .int .i64 (⟨0, 0, 0, 0⟩ : Q).r2, .int .i64 (⟨0, 0, 0, 0⟩ : Q).im]] w fun e w' => e = .returned (.bool false) ∧ Below w.heap.size w w') := fun w hw => by rw [← hr]; exact insC _ _ _ _ _ w hw
          clear hr
          go_wp2_with fail
          refine (hIns.out _ (Rd.laid_below hL hbel).x.e).mono ?_
          rintro e w6 ⟨rfl, hb6⟩
          have F6 := hF.out.below hb6 (Nat.lt_trans hrx hxw)
          have B6 : Below w.heap.size w w6 := hbel.trans (hb6.mono hbel.size)
          clear hb6 hX hX2 hIns hbel hF
          obtain ⟨c0, c1, c2, c3, c4, f0, f1, f2, f3, f4⟩ := F6
          go_wp2
          refine bodyPost_ret (v := .tuple #[zero5, .int .i64 3]) (by simp [results, Tryd.results9, go_sem, c0, c1, c2, c3, c4]; rfl) rfl ⟨fun e z h1 h2 => (hyes.out e z h1 h2).elim, fun _ => rfl, ?_⟩
          repeat (first | exact B6 | refine Below.setCell ?_ (by first | omega | (simp; done) | (simp; omega)) _ | refine bdN ?_ _ | refine Below.drew ?_ | refine Below.alloc ?_ (by first | omega | (simp; done) | (simp; omega)) _)
        | true =>
          have hyes : Hid (∀ z, readTo told.data.toList rest told.size = some z → z = (⟨0, 0, 0, 0⟩ : Q)) := fun z hz1 => by
            have hf := hfound.out
            rw [hf] at hz1
            injection hz1 with hz1
            exact hz1.symm
          have hno : Hid (rest.length = told.size ∧ ∃ z, readTo told.data.toList rest told.size = some z ∧ rightB (K : Int) z.rd z.r1 z.r2 z.im = true) := ⟨hn, (⟨0, 0, 0, 0⟩ : Q), hfound.out, hr⟩
          have hIns : Hid (∀ w, Go.Proofs.YtdbngfeelfgbeaaDoor.Laid w → Calls Tryd.prog 13 #[.agg #[.int .i64 (K : Int), .int .i64 (⟨0, 0, 0, 0⟩ : Q).rd, .int .i64 (⟨0, 0, 0, 0⟩ : Q).r1, .int .i64 (⟨0, 0, 0, 0⟩ : Q).r2, .int .i64 (⟨0, 0, 0, 0⟩ : Q).im]] w fun e w' => e = .returned (.bool true) ∧ Below w.heap.size w w') := fun w hw => by rw [← hr]; exact insC _ _ _ _ _ w hw
          clear hr
          go_wp2_with fail
          refine (hIns.out _ (Rd.laid_below hL hbel).x.e).mono ?_
          rintro e w6 ⟨rfl, hb6⟩
          have F6 := hF.out.below hb6 (Nat.lt_trans hrx hxw)
          have X6 := Five.below hX2.out hb6 hxw
          have B6 : Below w.heap.size w w6 := hbel.trans (hb6.mono hbel.size)
          clear hb6 hX hX2 hIns hbel hF x0 x1 x2 x3 x4 y0 y1 y2 y3 y4
          obtain ⟨c0, c1, c2, c3, c4, f0, f1, f2, f3, f4⟩ := F6
          obtain ⟨x0, x1, x2, x3, x4, y0, y1, y2, y3, y4⟩ := X6
          go_wp2
          refine bodyPost_ret (v := .tuple #[agg5 (K : Int) (⟨0, 0, 0, 0⟩ : Q), .int .i64 0]) (by simp [results, Tryd.results9, go_sem, c0, c1, c2, c3, c4]; rfl) rfl ⟨fun _ z h1 _ => by rw [hyes.out z h1], fun e => absurd hno.out e, ?_⟩
          repeat (first | exact B6 | refine Below.setCell ?_ (by first | omega | (simp; done) | (simp; omega)) _ | refine bdN ?_ _ | refine Below.drew ?_ | refine Below.alloc ?_ (by first | omega | (simp; done) | (simp; omega)) _)
  · have hzi : (0 : Int) < (told.size : Int) := by omega
    have hzp : 0 < told.size := by omega
    go_wp2
    go_loopw [41] (fun t wr => ∃ k : Nat, ∃ q : Q, k ≤ told.size ∧ t = .int .i64 k ∧ Hid (readTo told.data.toList rest k = some q) ∧ Hid (FiveQ wr X (K : Int) q) ∧ Hid (Five wr w.heap.size 0 0 0 0 0) ∧ Below w.heap.size w wr ∧ X < wr.heap.size ∧ Hid (∀ (j : Nat) (x : ByteArray), (w0 :: rest)[j]? = some x → wr.cell? ⟨g0, j, none⟩ = some (.string x))) (fun t _ => told.size - (intOf t).toNat)
    case atStart => exact ⟨0, ⟨0, 0, 0, 0⟩, Nat.zero_le _, rfl, rfl, X4, F4, B4, hx4, hcells4⟩
    case round =>
      obtain ⟨k, q, hk, rfl, hq, hX, hF, hbel, hxw, hcl⟩ := hrel
      by_cases hlt : k < told.size
      · have hkr : k < rest.length := by omega
        obtain ⟨x, hx⟩ : ∃ x, rest[k]? = some x := ⟨_, List.getElem?_eq_getElem hkr⟩
        have hxm : x ∈ w0 :: rest := List.mem_cons_of_mem _ (List.mem_of_getElem? hx)
        have hxs := hszs x hxm
        have hcx : wr.cell? ⟨g0, 1 + k, none⟩ = some (.string x) := hcl.out (1 + k) x (by rw [Nat.add_comm]; simpa using hx)
        have hcy : wr.cell? ⟨g0, k + 1, none⟩ = some (.string x) := hcl.out (k + 1) x (by simpa using hx)
        have hmem : told[k] ∈ told.data.toList := by
          rw [show told[k] = told.data.toList[k]'(by simpa using hlt) from by simp; rfl]
          exact List.getElem_mem _
        have hl := tok _ hmem
        have htk : told.data.toList[k]? = some told[k] := at_list told k hlt
        obtain ⟨l, hl0⟩ : ∃ l, told[k] = l := ⟨_, rfl⟩
        rw [hl0] at hl htk
        have hk0 : (0 : Int) ≤ (k : Int) := by omega
        have hk1 : (k : Int) < (told.size : Int) := by omega
        have hstep : Hid (readTo told.data.toList rest (k + 1) = if fldK l x.data.toList = true then some (setL l (fldV l x.data.toList) q) else none) := by
          show _ = _
          unfold readTo
          rw [hq.out, htk, hx]
          rfl
        clear hmem htk hx hxm hkr
        go_wp2_with fail
        refine (fldP l x (by omega) _ (Rd.laid_below hL hbel)).mono ?_
        rintro e w6 ⟨rfl, hb6⟩
        have F6 := hF.out.below hb6 (Nat.lt_trans hrx hxw)
        have X6 := Five.below hX.out hb6 hxw
        have B6 : Below w.heap.size w w6 := hbel.trans (hb6.mono hbel.size)
        have hx6 : X < w6.heap.size := Nat.lt_of_lt_of_le hxw hb6.size
        have hcl6 : Hid (∀ (j : Nat) (x : ByteArray), (w0 :: rest)[j]? = some x → w6.cell? ⟨g0, j, none⟩ = some (.string x)) := fun j x hj => (hb6.cell (p := ⟨g0, j, none⟩) (Nat.lt_trans hg2 hxw)).trans (hcl.out j x hj)
        clear hb6 hX hF hbel hxw hcl hcx hcy
        generalize fldV l x.data.toList = v at *
        cases hfk : fldK l x.data.toList with
        | false =>
          have hnone : Hid (readTo told.data.toList rest told.size = none) := readTo_none (k := k + 1) (by rw [hstep.out, if_neg (by rw [hfk]; simp)]) _ (by omega)
          obtain ⟨c0, c1, c2, c3, c4, f0, f1, f2, f3, f4⟩ := F6
          clear hstep hfk hq X6 hcl6
          go_wp2
          refine bodyPost_ret (v := .tuple #[zero5, .int .i64 3]) (by simp [results, Tryd.results9, go_sem, c0, c1, c2, c3, c4]; rfl) rfl ⟨fun e q h1 h2 => (by rw [hnone.out] at h1; cases h1), fun _ => rfl, ?_⟩
          repeat (first | exact B6 | refine Below.setCell ?_ (by first | omega | (simp; done) | (simp; omega)) _ | refine bdN ?_ _ | refine Below.drew ?_ | refine Below.alloc ?_ (by first | omega | (simp; done) | (simp; omega)) _)
        | true =>
          have hsome : Hid (readTo told.data.toList rest (k + 1) = some (setL l v q)) := by show _ = _; rw [hstep.out, if_pos hfk]
          obtain ⟨hfz, u, hu⟩ := five_free X6 l hl
          have R1 : Hid (FiveQ (w6.setCell ⟨X, offL l, none⟩ (.int .i64 v)) X (K : Int) (setL l v q)) := five_set X6 l hl v
          have R2 : Hid (Five (w6.setCell ⟨X, offL l, none⟩ (.int .i64 v)) w.heap.size 0 0 0 0 0) := five_oth F6 (Nat.ne_of_lt hrx) _ _
          have R3 : Below w.heap.size w (w6.setCell ⟨X, offL l, none⟩ (.int .i64 v)) := B6.setCell (Nat.le_of_lt hrx) _
          have R4 : Hid (∀ (j : Nat) (x : ByteArray), (w0 :: rest)[j]? = some x → (w6.setCell ⟨X, offL l, none⟩ (.int .i64 v)).cell? ⟨g0, j, none⟩ = some (.string x)) := fun j x hj => (World.cell?_setCell_other _ _ _ _ (by first | (simp; done) | (simp; omega))).trans (hcl6.out j x hj)
          clear hstep hfk hq X6 F6 B6 hcl6
          go_wp2_with fail
          refine (fldAny l hl X _).mono ?_
          rintro e w7 ⟨rfl, rfl⟩
          go_wp2
          go_roundw
          case rel => exact ⟨k + 1, _, by omega, by go_num, hsome, R1, R2, R3, by simpa using hx6, R4⟩
          case measure => simp [intOf]; omega
      · obtain rfl : k = told.size := by omega
        have hki : ¬ (told.size : Int) < (told.size : Int) := by omega
        clear hcl
        have hX' := hX.out
        obtain ⟨x0, x1, x2, x3, x4, y0, y1, y2, y3, y4⟩ := hX'
        have hX2 : Hid (FiveQ wr X (K : Int) q) := ⟨x0, x1, x2, x3, x4, y0, y1, y2, y3, y4⟩
        cases hr : rightB (K : Int) q.rd q.r1 q.r2 q.im with
        | false =>
          have hno : Hid (¬ (rest.length = told.size ∧ ∃ z, readTo told.data.toList rest told.size = some z ∧ rightB (K : Int) z.rd z.r1 z.r2 z.im = true)) := fun e => by
            obtain ⟨_, z, hz1, hz2⟩ := e
            have hf := hq.out
            rw [hf] at hz1
            injection hz1 with hz1
            rw [← hz1, hr] at hz2
            cases hz2
          have hyes : Hid (rest.length = told.size → ∀ z, readTo told.data.toList rest told.size = some z → rightB (K : Int) z.rd z.r1 z.r2 z.im = true → False) := fun e z h1 h2 => hno.out ⟨e, z, h1, h2⟩
          have hIns : Hid (∀ w, Go.Proofs.YtdbngfeelfgbeaaDoor.Laid w → Calls Tryd.prog 13 #[.agg #[.int .i64 (K : Int), .int .i64 q.rd, .int .i64 q.r1, .int .i64 q.r2, .int .i64 q.im]] w fun e w' => e = .returned (.bool false) ∧ Below w.heap.size w w') := fun w hw => by rw [← hr]; exact insC _ _ _ _ _ w hw
          clear hr
          go_wp2_with fail
          refine (hIns.out _ (Rd.laid_below hL hbel).x.e).mono ?_
          rintro e w6 ⟨rfl, hb6⟩
          have F6 := hF.out.below hb6 (Nat.lt_trans hrx hxw)
          have B6 : Below w.heap.size w w6 := hbel.trans (hb6.mono hbel.size)
          clear hb6 hX hX2 hIns hbel hF
          obtain ⟨c0, c1, c2, c3, c4, f0, f1, f2, f3, f4⟩ := F6
          go_wp2
          refine bodyPost_ret (v := .tuple #[zero5, .int .i64 3]) (by simp [results, Tryd.results9, go_sem, c0, c1, c2, c3, c4]; rfl) rfl ⟨fun e z h1 h2 => (hyes.out e z h1 h2).elim, fun _ => rfl, ?_⟩
          repeat (first | exact B6 | refine Below.setCell ?_ (by first | omega | (simp; done) | (simp; omega)) _ | refine bdN ?_ _ | refine Below.drew ?_ | refine Below.alloc ?_ (by first | omega | (simp; done) | (simp; omega)) _)
        | true =>
          have hyes : Hid (∀ z, readTo told.data.toList rest told.size = some z → z = q) := fun z hz1 => by
            have hf := hq.out
            rw [hf] at hz1
            injection hz1 with hz1
            exact hz1.symm
          have hno : Hid (rest.length = told.size ∧ ∃ z, readTo told.data.toList rest told.size = some z ∧ rightB (K : Int) z.rd z.r1 z.r2 z.im = true) := ⟨hn, q, hq.out, hr⟩
          have hIns : Hid (∀ w, Go.Proofs.YtdbngfeelfgbeaaDoor.Laid w → Calls Tryd.prog 13 #[.agg #[.int .i64 (K : Int), .int .i64 q.rd, .int .i64 q.r1, .int .i64 q.r2, .int .i64 q.im]] w fun e w' => e = .returned (.bool true) ∧ Below w.heap.size w w') := fun w hw => by rw [← hr]; exact insC _ _ _ _ _ w hw
          clear hr
          go_wp2_with fail
          refine (hIns.out _ (Rd.laid_below hL hbel).x.e).mono ?_
          rintro e w6 ⟨rfl, hb6⟩
          have F6 := hF.out.below hb6 (Nat.lt_trans hrx hxw)
          have X6 := Five.below hX2.out hb6 hxw
          have B6 : Below w.heap.size w w6 := hbel.trans (hb6.mono hbel.size)
          clear hb6 hX hX2 hIns hbel hF x0 x1 x2 x3 x4 y0 y1 y2 y3 y4
          obtain ⟨c0, c1, c2, c3, c4, f0, f1, f2, f3, f4⟩ := F6
          obtain ⟨x0, x1, x2, x3, x4, y0, y1, y2, y3, y4⟩ := X6
          go_wp2
          refine bodyPost_ret (v := .tuple #[agg5 (K : Int) q, .int .i64 0]) (by simp [results, Tryd.results9, go_sem, c0, c1, c2, c3, c4]; rfl) rfl ⟨fun _ z h1 _ => by rw [hyes.out z h1], fun e => absurd hno.out e, ?_⟩
          repeat (first | exact B6 | refine Below.setCell ?_ (by first | omega | (simp; done) | (simp; omega)) _ | refine bdN ?_ _ | refine Below.drew ?_ | refine Below.alloc ?_ (by first | omega | (simp; done) | (simp; omega)) _)

end Go.Proofs.YtdbngfeelfgbeaaDoor.Tx
