/- Shadow variables: the program's FreeId, GetShadow, GetOrAlloc. -/
import Derived.Test.YtibepggakjfbcaaPubC
namespace Go.Proofs.Ytibepggakjfbcaa
open Go Go.RowKit Go.Maps
set_option linter.unusedVariables false

/-- The value of a key; 0 if there is none. -/
def getV (L : List ShwD) (x : Int × Int) : Int := ((L.find? fun d => decide (keyD d = x)).map (·.va)).getD 0
theorem MapIs.getEq {D : DataW Unit} {L : List ShwD} (h : MapIs D L) {x : Int × Int} (hx : wfK x) : D.atKey (klK x) (.lit (.int .i64 0)) = .lit (.int .i64 (getV L x)) := by
  unfold getV
  cases hf : L.find? fun d => decide (keyD d = x) with
  | none =>
    have hno : hasL L x = false := by
      cases hh : hasL L x with
      | false => rfl
      | true =>
        obtain ⟨d, hd, he⟩ := hasL_iff.1 hh
        have := List.find?_eq_none.1 hf d hd
        simp [he] at this
    rw [atKey_of_not_has ((h.hasEq hx).trans hno)]
    rfl
  | some d =>
    have h1 := List.find?_some hf
    have he : keyD d = x := by simpa using h1
    have := h.at_ d (List.mem_of_find?_eq_some hf) (.lit (.int .i64 0))
    rw [he] at this
    exact this

set_option maxRecDepth 100000 in
set_option maxHeartbeats 4000000 in
theorem fidI (p : Option Addr) (n c : Nat) (S : Nat → ShwD) (x : Int) (L : List ShwD) (v f : Int) (w : World) (hn : n ≤ 1048576) (hw : ∀ i, i < n → (S i).wf) (hp : ShwsAt w p n S) (hr : ResIs n S x (fidL (lstS n S) x) 0 L f) (hv : v = if f = 0 then (n : Int) - L.length else 0) :
    Calls Try.prog 18 #[.slice p n c, .int .i64 x] w fun e w' => LstAns3 w.heap.size L v f w e w' := by
  rcases hr with ⟨ha, h0, rfl⟩ | ⟨hok, hx, rfl, rfl⟩
  · rw [if_neg h0] at hv
    subst hv
    have NO := openNo p n c S x f w hn hp ha h0
    have hne : (f != 0) = true := by simpa using h0
    clear hp
    go_enter Try.func18, Try.ntmps18
    go_wp2_with fail
    refine NO.mono ?_
    rintro e w1 ⟨rfl, hb⟩
    go_wp2_with fail
    go_ret3
    exact ⟨_, _, rfl, Nat.zero_le _, .inl rfl, hb⟩
  · rw [if_pos rfl] at hv
    have YES : Hid (Calls _ _ _ _ _) := openYes p n c S x w hn hw hp hok hx
    have h16 := hok.1
    have hSrt := lstS_srt hok
    have hll := lstS_len n S
    have hvv : ((lstS n S).length : Int) - (fidL (lstS n S) x).length = v := by rw [hv, hll]
    clear hp hok hx
    go_enter Try.func18, Try.ntmps18
    go_wp2_with fail
    refine YES.out.mono ?_
    rintro e w1 ⟨b, D, rfl, hown, hM, hb, hB1⟩
    have FC := freeIdC b n D (lstS n S) x w1 hown hM hSrt (by omega)
    rw [hvv] at FC
    have HOP : Hid (Calls _ _ _ _ _) := FC
    have HS2 : Hid (Srt (fidL (lstS n S) x)) := fidL_srt hSrt
    have HB1 : Hid (Below w.heap.size w w1) := hB1
    clear hown hM hB1 YES FC hvv hv
    go_wp2_with fail
    refine HOP.out.mono ?_
    rintro e w2 ⟨D2, rfl, ho2, hM2, hg2⟩
    have B2 := below_own HB1.out hb hg2
    have HL : Hid (Calls _ _ _ _ _) := listC b _ D2 _ w2 ho2 (by omega) hM2 HS2.out
    have HB2 : Hid (Below w.heap.size w w2) := B2
    clear ho2 hM2 hg2 B2 HOP HB1
    go_wp2_with fail
    refine HL.out.mono ?_
    rintro e w3 ⟨q, c3, rfl, hc3, ho3, hb3⟩
    have HO3 : Hid (OwnR w3 w.heap.size q _ 3 _) := ho3.low HB2.out.size
    have HB3 : Hid (Below w.heap.size w w3) := HB2.out.trans (hb3.mono HB2.out.size)
    clear ho3 hb3 HL HB2
    go_wp2_with fail
    go_ret3
    exact ⟨q, c3, rfl, hc3, HO3.out, HB3.out⟩

/-- What GetShadow answers. -/
def GetIs (n : Nat) (S : Nat → ShwD) (o x v f : Int) : Prop := (askP n S x f ∧ f ≠ 0 ∧ v = 0) ∨ (ShwOK n S ∧ idP x ∧ v = getV (lstS n S) (o, x) ∧ f = putF (lstS n S) (o, x))
theorem getP_ex (n : Nat) (S : Nat → ShwD) (o x : Int) : ∃ v f, GetIs n S o x v f := by
  obtain ⟨a, ha⟩ := askP_ex n S x
  by_cases h : a = 0
  · refine ⟨getV (lstS n S) (o, x), putF (lstS n S) (o, x), .inr ?_⟩
    rcases ha with h1 | h1 | h1 | h1
    · omega
    · omega
    · omega
    · exact ⟨h1.1, h1.2.1, rfl, rfl⟩
  · exact ⟨0, a, .inl ⟨ha, h, rfl⟩⟩
set_option maxRecDepth 100000 in
set_option maxHeartbeats 4000000 in
theorem getImpl (p : Option Addr) (n c : Nat) (S : Nat → ShwD) (o x v f : Int) (w : World) (hn : n ≤ 1048576) (hw : ∀ i, i < n → (S i).wf) (ho : (Lit.int .i64 o).wf = true) (hp : ShwsAt w p n S) (hr : GetIs n S o x v f) :
    Calls Try.prog 13 #[.slice p n c, .int .i64 o, .int .i64 x] w fun e w' => e = .returned (.tuple #[.int .i64 v, .int .i64 f]) ∧ Below w.heap.size w w' := by
  rcases hr with ⟨ha, h0, rfl⟩ | ⟨hok, hx, hv, hf⟩
  · have NO := openNo p n c S x f w hn hp ha h0
    have hne : (f != 0) = true := by simpa using h0
    clear hp
    go_enter Try.func13, Try.ntmps13
    go_wp2_with fail
    refine NO.mono ?_
    rintro e w1 ⟨rfl, hb⟩
    go_wp2_with fail
    go_ret2
    exact ⟨rfl, hb⟩
  · have YES : Hid (Calls _ _ _ _ _) := openYes p n c S x w hn hw hp hok hx
    have hwk : wfK (o, x) := ⟨ho, idP_wf hx⟩
    have hkey := keyK _ hwk
    clear hp hok hx
    go_enter Try.func13, Try.ntmps13
    go_wp2_with fail
    refine YES.out.mono ?_
    rintro e w1 ⟨b, D, rfl, hown, hM, hb, hB1⟩
    have hat := hM.getEq hwk
    rw [← hv] at hat
    have hHas := hM.hasEq hwk
    have hbl := hown.lt
    have HO : Hid (∀ W, Below w1.heap.size w1 W → W.ownsMap Try.prog 51 pE b n D) := fun W h => hown.kept (row := none) (grown_none h) (by simp)
    have lk : Hid (∀ W, Below w1.heap.size w1 W → (Instr.lookup 46 (.map (some b)) (.agg #[.int .i64 o, .int .i64 x]) false).run Try.prog W = .ok (.int .i64 v) W) := fun W h => by
      obtain ⟨cc, hrun, hc, _⟩ := (HO.out W h).lookup_int keyLawK Try.underlying46 Try.underlying3 (zeroK W) hkey
      rw [hat] at hc
      obtain rfl : v = cc := by injection hc with h; injection h
      exact hrun
    obtain ⟨q, hq⟩ : ∃ q, hasL (lstS n S) (o, x) = q := ⟨_, rfl⟩
    have hff : f = if q then 0 else 5 := by rw [hf]; unfold putF; rw [hq]
    have HC : Hid (∀ W, Below w1.heap.size w1 W → Calls Try.prog 31 #[.map (some b), .agg #[.int .i64 o, .int .i64 x]] W fun e w' => e = .returned (.bool q) ∧ Below W.heap.size W w') := fun W h => by rw [← hq, ← hHas]; exact hasC b n D _ W (HO.out W h) hwk
    have FC : Hid (∀ W, Calls Try.prog 30 #[.bool q, .int .i64 5] W fun e w' => e = .returned (.int .i64 f) ∧ w' = W) := fun W => by rw [hff]; exact fuC q 5 W
    have HB1 : Hid (Below w.heap.size w w1) := hB1
    have hsz := hB1.size
    clear hv hf hff hq hHas hat hown hM hB1 YES hwk hkey
    have bX := grown1' w1 (.cells #[.int .i64 o, .int .i64 x] 51)
    have lX := Lies.new w1 #[.int .i64 o, .int .i64 x] 51
    have hX : w1.heap.size < (w1.alloc (.cells #[.int .i64 o, .int .i64 x] 51)).heap.size := by simp
    go_wp2_with fail
    obtain ⟨W0, hW0⟩ : ∃ W0, w1.alloc (.cells #[.int .i64 o, .int .i64 x] 51) = W0 := ⟨_, rfl⟩
    rw [hW0] at bX lX hX ⊢
    clear hW0
    have y0 := lX.cell (j := 0) rfl
    have y1 := lX.cell (j := 1) rfl
    have lk0 := lk.out W0 bX
    have lk1 := lk.out W0.drew bX.drew
    have HBX : Hid (Below w1.heap.size w1 W0) := bX
    clear bX lX
    go_region_held3 (fun w' => w'.cell? ⟨w1.heap.size, 0, none⟩ = some (.int .i64 o) ∧ w'.cell? ⟨w1.heap.size, 1, none⟩ = some (.int .i64 x) ∧ (Instr.lookup 46 (.map (some b)) (.agg #[.int .i64 o, .int .i64 x]) false).run Try.prog w' = .ok (.int .i64 v) w') (go_keep) (first | (go_at_call 31; refine (HC.out _ (by first | exact HBX.out.drew | exact HBX.out)).mono ?_; rintro e w2 ⟨rfl, hb2⟩; have b2 : Below W0.heap.size W0 w2 := (by first | exact (Below.refl W0.heap.size W0).drew.trans hb2 | exact hb2); have z0 := (b2.cell (p := ⟨w1.heap.size, 0, none⟩) hX).trans y0; have z1 := (b2.cell (p := ⟨w1.heap.size, 1, none⟩) hX).trans y1; have lk2 := lk.out w2 (HBX.out.trans (b2.mono HBX.out.size))) | (go_at_call 30; refine (FC.out _).mono ?_; rintro e w3 ⟨rfl, hw3⟩; subst w3))
    all_goals
      have HBF : Hid (Below w.heap.size w w2) := HB1.out.trans ((HBX.out.trans (b2.mono HBX.out.size)).mono hsz)
      clear lk0 lk1 lk2 z0 z1 y0 y1
      go_wp2_with fail
      go_ret2
      exact ⟨rfl, HBF.out⟩

set_option maxRecDepth 100000 in
set_option maxHeartbeats 4000000 in
theorem gooI (p : Option Addr) (n c : Nat) (S : Nat → ShwD) (o x v : Int) (L : List ShwD) (y f : Int) (w : World) (hn : n ≤ 1048576) (hw : ∀ i, i < n → (S i).wf) (ho : (Lit.int .i64 o).wf = true) (hv : (Lit.int .i64 v).wf = true) (hp : ShwsAt w p n S)
    (hr : ResIs n S x (alcL (lstS n S) ⟨o, x, v⟩) (if alcF (lstS n S) (o, x) = 24 then 0 else alcF (lstS n S) (o, x)) L f) (hy : y = getV L (o, x)) :
    Calls Try.prog 16 #[.slice p n c, .int .i64 o, .int .i64 x, .int .i64 v] w fun e w' => LstAns3 w.heap.size L y f w e w' := by
  rcases hr with ⟨ha, h0, rfl⟩ | ⟨hok, hx, rfl, hf⟩
  · obtain rfl : y = 0 := hy
    have NO := openNo p n c S x f w hn hp ha h0
    have hne : (f != 0) = true := by simpa using h0
    clear hp
    go_enter Try.func16, Try.ntmps16
    go_wp2_with fail
    refine NO.mono ?_
    rintro e w1 ⟨rfl, hb⟩
    go_wp2_with fail
    go_ret3
    exact ⟨_, _, rfl, Nat.zero_le _, .inl rfl, hb⟩
  · have YES : Hid (Calls _ _ _ _ _) := openYes p n c S x w hn hw hp hok hx
    have h16 := hok.1
    have hSrt := lstS_srt hok
    have hwk : wfK (o, x) := ⟨ho, idP_wf hx⟩
    have hkey := keyK _ hwk
    have HWD : Hid ((⟨o, x, v⟩ : ShwD).wf) := ⟨ho, idP_wf hx, hv⟩
    clear hp hok hx
    go_enter Try.func16, Try.ntmps16
    go_wp2_with fail
    refine YES.out.mono ?_
    rintro e w1 ⟨b, D, rfl, hown, hM, hb, hB1⟩
    have hbl := hown.lt
    have bX := grown1' w1 (.cells #[.int .i64 o, .int .i64 x] 51)
    have lX := Lies.new w1 #[.int .i64 o, .int .i64 x] 51
    have ho1 := hown.alloc (.cells #[.int .i64 o, .int .i64 x] 51)
    obtain ⟨af, haf⟩ : ∃ af, alcF (lstS n S) (o, x) = af := ⟨_, rfl⟩
    have AC := allocC b n D (lstS n S) ⟨o, x, v⟩ (w1.alloc (.cells #[.int .i64 o, .int .i64 x] 51)) ho1 (by omega) hM hSrt HWD.out
    have HS2 : Hid (Srt (alcL (lstS n S) ⟨o, x, v⟩)) := alcL_srt hSrt
    simp only [keyD] at AC
    rw [haf] at AC hf
    have hne13 : w1.heap.size ≠ b := by omega
    clear hown hM ho1 YES haf
    go_wp2_with fail
    obtain ⟨W0, hW0⟩ : ∃ W0, w1.alloc (.cells #[.int .i64 o, .int .i64 x] 51) = W0 := ⟨_, rfl⟩
    rw [hW0] at bX lX AC ⊢
    clear hW0
    have HB0 : Hid (Below w.heap.size w W0) := hB1.trans (bX.mono hB1.size)
    have HX0 : Hid (Lies W0 w1.heap.size 51 #[.int .i64 o, .int .i64 x]) := lX
    have y0 := lX.cell (j := 0) rfl
    have y1 := lX.cell (j := 1) rfl
    have HAC : Hid (Calls _ _ _ _ _) := AC
    clear AC bX lX hB1
    go_wp2_with fail
    refine HAC.out.mono ?_
    rintro e w2 ⟨D2, rfl, ho2, hM2, hg2⟩
    have lX2 : Lies w2 w1.heap.size 51 #[.int .i64 o, .int .i64 x] := (hg2.block _ HX0.out.lt (fun e => hne13 (Option.some.inj e))).trans HX0.out
    have HB2 : Hid (Below w.heap.size w w2) := below_own HB0.out hb hg2
    have hat := hM2.getEq hwk
    rw [← hy] at hat
    have HO2 : Hid (∀ W, Below w2.heap.size w2 W → W.ownsMap Try.prog 51 pE b (n + 1) D2) := fun W h => ho2.kept (row := none) (grown_none h) (by simp)
    have lk : Hid (∀ W, Below w2.heap.size w2 W → (Instr.lookup 46 (.map (some b)) (.agg #[.int .i64 o, .int .i64 x]) false).run Try.prog W = .ok (.int .i64 y) W) := fun W h => by
      obtain ⟨cc, hrun, hc, _⟩ := (HO2.out W h).lookup_int keyLawK Try.underlying46 Try.underlying3 (zeroK W) hkey
      rw [hat] at hc
      obtain rfl : y = cc := by injection hc with h; injection h
      exact hrun
    have HL : Hid (∀ W, Below w2.heap.size w2 W → Calls _ _ _ W _) := fun W h => listC b (n + 1) D2 _ W (HO2.out W h) (by omega) hM2 HS2.out
    have hX2 := lX2.lt
    have z0 := lX2.cell (j := 0) rfl
    have z1 := lX2.cell (j := 1) rfl
    have lk0 := lk.out w2 (Below.refl _ _)
    have lk1 := lk.out w2.drew (Below.refl _ w2).drew
    have hsz2 := HB2.out.size
    clear y0 y1 HAC ho2 hM2 hg2 lX2 hat hy hkey hwk
    by_cases h24 : af = 24
    · rw [if_pos h24] at hf
      subst h24
      subst hf
      go_wp2_with fail
      go_region_held3 (fun w' => w'.cell? ⟨w1.heap.size, 0, none⟩ = some (.int .i64 o) ∧ w'.cell? ⟨w1.heap.size, 1, none⟩ = some (.int .i64 x) ∧ (Instr.lookup 46 (.map (some b)) (.agg #[.int .i64 o, .int .i64 x]) false).run Try.prog w' = .ok (.int .i64 y) w') (go_keep) ((go_at_call 25; refine (HL.out _ (by first | exact (Below.refl _ w2).drew | exact Below.refl _ _)).mono ?_; rintro e w3 ⟨q, c3, rfl, hc3, ho3, hb3⟩; have b3 : Below w2.heap.size w2 w3 := (by first | exact (Below.refl w2.heap.size w2).drew.trans hb3 | exact hb3); have u0 := (b3.cell (p := ⟨w1.heap.size, 0, none⟩) hX2).trans z0; have u1 := (b3.cell (p := ⟨w1.heap.size, 1, none⟩) hX2).trans z1; have lk2 := lk.out w3 b3))
      all_goals
        have HO3 : Hid (OwnR w3 w.heap.size q _ 3 _) := ho3.low (by first | exact hsz2 | (simp; exact hsz2))
        have HB3 : Hid (Below w.heap.size w w3) := HB2.out.trans (b3.mono hsz2)
        clear lk0 lk1 lk2 z0 z1 u0 u1 ho3 hb3 b3
        go_wp2_with fail
        go_ret3
        exact ⟨q, c3, rfl, hc3, HO3.out, HB3.out⟩
    · rw [if_neg h24] at hf
      subst hf
      have hne24 : (f == 24) = false := by rw [beq_eq_false_iff_ne]; exact h24
      go_wp2_with fail
      go_region_held3 (fun w' => w'.cell? ⟨w1.heap.size, 0, none⟩ = some (.int .i64 o) ∧ w'.cell? ⟨w1.heap.size, 1, none⟩ = some (.int .i64 x) ∧ (Instr.lookup 46 (.map (some b)) (.agg #[.int .i64 o, .int .i64 x]) false).run Try.prog w' = .ok (.int .i64 y) w') (go_keep) ((go_at_call 25; refine (HL.out _ (by first | exact (Below.refl _ w2).drew | exact Below.refl _ _)).mono ?_; rintro e w3 ⟨q, c3, rfl, hc3, ho3, hb3⟩; have b3 : Below w2.heap.size w2 w3 := (by first | exact (Below.refl w2.heap.size w2).drew.trans hb3 | exact hb3); have u0 := (b3.cell (p := ⟨w1.heap.size, 0, none⟩) hX2).trans z0; have u1 := (b3.cell (p := ⟨w1.heap.size, 1, none⟩) hX2).trans z1; have lk2 := lk.out w3 b3))
      all_goals
        have HO3 : Hid (OwnR w3 w.heap.size q _ 3 _) := ho3.low (by first | exact hsz2 | (simp; exact hsz2))
        have HB3 : Hid (Below w.heap.size w w3) := HB2.out.trans (b3.mono hsz2)
        clear lk0 lk1 lk2 z0 z1 u0 u1 ho3 hb3 b3
        go_wp2_with fail
        go_ret3
        exact ⟨q, c3, rfl, hc3, HO3.out, HB3.out⟩
end Go.Proofs.Ytibepggakjfbcaa
