/- Who asks first sets the value, who asks later gets it: at whatever list is drawn, in its order, of 16 at most, the first call lays the value down (or says that the list is full and leaves it), the second one answers the first one's value and the same list; no condition. -/
import Derived.Test.YtibepggakjfbcaaSrcR
import Derived.Test.YtibepggakjfbcaaDrvL
import Derived.WalkKit
import Derived.ProofKit
import Derived.OpenShut
import Derived.ShutString
import Derived.ChangeOld
import Derived.Below
namespace Go.Proofs.Ytibepggakjfbcaa.fnGetOr
open Go.RowKit Go.ChangeShapes Go.WideShapes Go.ChangeAt Go.RowKit
open Go.ChangeMaps (open_string shut_string)
set_option linter.unusedVariables false

theorem own : ownKnob Try.prog.godebug = none := by kernel_rfl
theorem laidOut : laidOutB Try.prog = true := by kernel_rfl

/-- WHAT THE WALK IS TOLD OF A SLICE OF INTEGERS THAT CAME IN: it is nil; or it leads to a row of 'cap' cells, the numbers 'zs' (the first 'len' are its elements, the rest its spare room), each fitting its kind. -/
def IsRow (k : IntKind) (w : World) (a : Option Addr) (len cap : Nat) (zs : List Int) : Prop :=
  (a = none ∧ len = 0 ∧ cap = 0 ∧ zs = []) ∨
  ∃ x, a = some x ∧ len ≤ cap ∧ cap ≤ maxLen ∧ zs.length = cap ∧ (∀ i, i < zs.length → w.cell? (x.add i) = some (.int k (zs.getD i 0))) ∧ ∀ n ∈ zs, (Lit.int k n).wf = true

set_option maxRecDepth 100000 in
set_option maxHeartbeats 800000 in
theorem walk (a0 : Option Addr) (len0 cap0 : Nat) (z0 : List Int) (a1 : Option Addr) (len1 cap1 : Nat) (z1 : List Int) (w : World) (w0 : IsRow .u8 w a0 len0 cap0 z0) (w1 : IsRow .u8 w a1 len1 cap1 z1) :
    Calls Try.prog 4 #[.slice a0 len0 cap0, .slice a1 len1 cap1] w fun e w' => e = .returned (.bool true) ∧ Below w.heap.size w w' := by
  have b0 := bytes_of_row w0
  have b1 := bytes_of_row w1
  have hl0 := b0.1
  have hl1 := b1.1
  unfold maxLen at hl0 hl1
  by_cases h0 : 1048576 < len0
  · go_enter Try.func4, Try.ntmps4
    go_wp2
    go_ret
    exact ⟨rfl, Below.refl _ _⟩
  by_cases h1 : 1048576 < len1
  · go_enter Try.func4, Try.ntmps4
    go_wp2
    go_ret
    exact ⟨rfl, Below.refl _ _⟩
  clear w0 w1
  go_enter Try.func4, Try.ntmps4
  go_wp2_with fail
  refine (drawn_any len0 cap0 w.heap.size a0 _ b0 (Nat.le_refl _)).mono ?_
  rintro e wa ⟨L, p, c, rfl, h16, hD, hP, ba⟩
  have HF : Hid (Fine L) := hD.fine h16
  have HD : Hid (DrwOK L) := hD
  have HP : Hid (LstAt wa L p c) := hP
  have HB : Hid (Below w.heap.size w wa) := ba
  have sz := ba.size
  clear hD hP ba b0
  go_wp2_with fail
  refine (at_any len1 cap1 w.heap.size 0 6 a1 _ (by omega) (by omega) (by omega) (by omega) (b1.below HB.out)).mono ?_
  rintro e wb ⟨k, hk, rfl, bb⟩
  have HB2 : Hid (Below w.heap.size w wb) := HB.out.trans (bb.mono sz)
  have HP2 : Hid (LstAt wb L p c) := HP.out.below bb
  have hk6 : k < 6 := by omega
  clear HB HP bb hk sz
  obtain ⟨o, ho⟩ : ∃ o : Int, 50 + (k : Int) = o := ⟨_, rfl⟩
  have ew : IntKind.i64.wrap (50 + (k : Int)) = o := by rw [wrap_i64_in (50 + (k : Int)) (by omega) (by omega)]; exact ho
  have ho50 : 50 ≤ o := by omega
  have ho55 : o ≤ 55 := by omega
  clear ho hk6
  go_wp2_with fail
  try rw [ew]
  refine (at_any len1 cap1 w.heap.size 1 256 a1 _ (by omega) (by omega) (by omega) (by omega) (b1.below HB2.out)).mono ?_
  rintro e wc ⟨x, hx, rfl, bb⟩
  have HB3 : Hid (Below w.heap.size w wc) := HB2.out.trans (bb.mono HB2.out.size)
  have HP3 : Hid (LstAt wc L p c) := HP2.out.below bb
  have hix : idP (x : Int) := by unfold idP; omega
  clear HB2 HP2 bb hx
  go_wp2_with fail
  refine (numberOf_in len1 cap1 w.heap.size a1 _ (b1.below HB3.out) HB3.out.size).mono ?_
  rintro e wd ⟨v, hv, rfl, bb⟩
  have HB4 : Hid (Below w.heap.size w wd) := HB3.out.trans (bb.mono HB3.out.size)
  have HP4 : Hid (LstAt wd L p c) := HP3.out.below bb
  clear HB3 HP3 bb b1
  have wo : (Lit.int .i64 o).wf = true := WalkArith.wf_i64 (by omega)
  have wv : (Lit.int .i64 v).wf = true := WalkArith.wf_i64 (by obtain ⟨h1, h2⟩ := hv; omega)
  have hno : hasL L (o, (x : Int)) = false := by
    cases hh : hasL L (o, (x : Int)) with
    | false => rfl
    | true =>
      obtain ⟨d, hd, he⟩ := hasL_iff.1 hh
      have h3 := HD.out.2 d hd
      have h4 : d.ob = o := congrArg Prod.fst he
      omega
  clear HD ew hv
  have hWF : (⟨o, x, v⟩ : ShwD).wf := ⟨wo, idP_wf hix, wv⟩
  by_cases h15 : L.length = 16
  · have e1 : alcL L ⟨o, x, v⟩ = L := by unfold alcL; rw [show hasL L (keyD ⟨o, (x : Int), v⟩) = false from hno]; simp [h15]
    have e2 : alcF L (o, (x : Int)) = 7 := by unfold alcF; rw [hno]; simp [h15]
    have C1 := gooA (L := L) (p := p) (c := c) o x v wd HF.out hix wo wv HP4.out
    rw [e1, e2, getV_none hno] at C1
    have HC1 : Hid (Calls _ _ _ _ _) := C1
    have HL : Hid (L.length = 16) := h15
    have h16' : ((L.length : Int) == 16) = true := by rw [beq_iff_eq]; omega
    clear C1 e1 h15
    go_wp2_with fail
    refine HC1.out.mono ?_
    rintro e we ⟨p1, c1, rfl, hP1, bb⟩
    have HB5 : Hid (Below w.heap.size w we) := HB4.out.trans (bb.mono HB4.out.size)
    have HP5 : Hid (LstAt we L p c) := HP4.out.below bb
    have HQ5 : Hid (LstAt we L p1 c1) := hP1
    clear HB4 HP4 bb hP1 HC1
    go_wp2_with fail
    refine (plus_any _ _ _).mono ?_
    rintro e w5 ⟨v2, hv2, rfl, hw5⟩
    subst hw5
    have wv2 : (Lit.int .i64 v2).wf = true := WalkArith.wf_i64 (by obtain ⟨h1, h2⟩ := hv2; omega)
    clear hv2
    have e3 : alcL L ⟨o, x, v2⟩ = L := by unfold alcL; rw [show hasL L (keyD ⟨o, (x : Int), v2⟩) = false from hno]; simp [HL.out]
    have C2 := gooA (L := L) (p := p1) (c := c1) o x v2 w5 HF.out hix wo wv2 HQ5.out
    rw [e3, e2, getV_none hno] at C2
    have HC2 : Hid (Calls _ _ _ _ _) := C2
    clear C2 e3 e2
    go_wp2_with fail
    refine HC2.out.mono ?_
    rintro e wf ⟨p2, c2, rfl, hP2, bb⟩
    have HB6 : Hid (Below w.heap.size w wf) := HB5.out.trans (bb.mono HB5.out.size)
    have HP6 : Hid (LstAt wf L p c) := HP5.out.below bb
    have HQ6 : Hid (LstAt wf L p1 c1) := HQ5.out.below bb
    clear HB5 HP5 HQ5 bb hP2 HC2
    have SM : Hid (Calls _ _ _ _ _) := samA wf HF.out HF.out HQ6.out HP6.out true ⟨fun _ => rfl, fun _ => rfl⟩
    go_wp2_with fail
    refine SM.out.mono ?_
    rintro e wg ⟨rfl, bb⟩
    have HB7 : Hid (Below w.heap.size w wg) := HB6.out.trans (bb.mono HB6.out.size)
    clear bb HB6
    go_wp2_with fail
    go_ret
    exact ⟨rfl, HB7.out⟩
  · have e1 : alcL L ⟨o, x, v⟩ = insL ⟨o, x, v⟩ L := by unfold alcL; rw [show hasL L (keyD ⟨o, (x : Int), v⟩) = false from hno]; simp [h15]
    have e2 : alcF L (o, (x : Int)) = 0 := by unfold alcF; rw [hno]; simp [h15]
    obtain ⟨X, hX⟩ : ∃ X, insL ⟨o, (x : Int), v⟩ L = X := ⟨_, rfl⟩
    have hFX : Fine X := by rw [← hX, ← e1]; exact HF.out.alc hWF hix
    have hlen : X.length = L.length + 1 := by rw [← hX, insL_len]
    have hgv : getV X (o, (x : Int)) = v := by rw [← hX]; exact getV_ins (d := ⟨o, x, v⟩) hno
    have hhX : hasL X (o, (x : Int)) = true := hasL_iff.2 ⟨⟨o, x, v⟩, by rw [← hX]; exact (insL_perm _ _).mem_iff.2 (by simp), rfl⟩
    rw [hX] at e1
    have hls : ((X.length : Int) == (L.length : Int) + 1) = true := by rw [beq_iff_eq]; omega
    have h16' : ((L.length : Int) == 16) = false := by rw [beq_eq_false_iff_ne]; omega
    have C1 := gooA (L := L) (p := p) (c := c) o x v wd HF.out hix wo wv HP4.out
    rw [e1, e2, hgv] at C1
    have HC1 : Hid (Calls _ _ _ _ _) := C1
    have HFX : Hid (Fine X) := hFX
    have ewl := wrap_i64_in ((L.length : Int) + 1) (by omega) (by omega)
    clear C1 e1 e2 hX hFX hno hlen h15
    go_wp2_with fail
    refine HC1.out.mono ?_
    rintro e we ⟨p1, c1, rfl, hP1, bb⟩
    have HB5 : Hid (Below w.heap.size w we) := HB4.out.trans (bb.mono HB4.out.size)
    have HQ5 : Hid (LstAt we X p1 c1) := hP1
    clear HB4 HP4 bb hP1 HC1
    go_wp2_with fail
    refine (plus_any _ _ _).mono ?_
    rintro e w5 ⟨v2, hv2, rfl, hw5⟩
    subst hw5
    have wv2 : (Lit.int .i64 v2).wf = true := WalkArith.wf_i64 (by obtain ⟨h1, h2⟩ := hv2; omega)
    clear hv2
    have e3 : alcL X ⟨o, x, v2⟩ = X := by unfold alcL; rw [show hasL X (keyD ⟨o, (x : Int), v2⟩) = true from hhX]; rfl
    have e4 : alcF X (o, (x : Int)) = 24 := by unfold alcF; rw [hhX]; rfl
    have C2 := gooA (L := X) (p := p1) (c := c1) o x v2 w5 HFX.out hix wo wv2 HQ5.out
    rw [e3, e4, hgv] at C2
    have HC2 : Hid (Calls _ _ _ _ _) := C2
    clear C2 e3 e4
    go_wp2_with fail
    refine HC2.out.mono ?_
    rintro e wf ⟨p2, c2, rfl, hP2, bb⟩
    have HB6 : Hid (Below w.heap.size w wf) := HB5.out.trans (bb.mono HB5.out.size)
    have HP6 : Hid (LstAt wf X p2 c2) := hP2
    have HQ6 : Hid (LstAt wf X p1 c1) := HQ5.out.below bb
    clear HB5 HQ5 bb hP2 HC2
    have e5 : putF X (o, (x : Int)) = 0 := by unfold putF; rw [hhX]; rfl
    have C3 := getA (L := X) (p := p2) (c := c2) o x wf HFX.out hix wo HP6.out
    rw [e5, hgv] at C3
    have HC3 : Hid (Calls _ _ _ _ _) := C3
    clear C3 e5
    go_wp2_with fail
    refine HC3.out.mono ?_
    rintro e wg ⟨rfl, bb⟩
    have HB7 : Hid (Below w.heap.size w wg) := HB6.out.trans (bb.mono HB6.out.size)
    have SM : Hid (Calls _ _ _ _ _) := samA wg HFX.out HFX.out (HQ6.out.below bb) (HP6.out.below bb) true ⟨fun _ => rfl, fun _ => rfl⟩
    clear HB6 HP6 HQ6 bb HC3
    go_wp2_with fail
    refine SM.out.mono ?_
    rintro e wh ⟨rfl, bb⟩
    have HB8 : Hid (Below w.heap.size w wh) := HB7.out.trans (bb.mono HB7.out.size)
    clear bb HB7
    go_wp2_with fail
    go_ret
    exact ⟨rfl, HB8.out⟩

set_option maxRecDepth 100000 in
theorem lifted (os : Os) (started : os.Started) (H : Type) (enc : TypeId × Value → H) :
    ReturnsInHanded {} Try.checked os 4 .any (Rows.fnGetOrSpec.pre6 enc Try.prog Try.f4 Rows.fnGetOrRow.domain false) (Rows.fnGetOrSpec.post enc Try.prog Try.f4 false true false false) := by
  refine returnsInHanded_of_change (C := Try.checked) own started (by kernel_rfl) Try.func4
    (ChangeSpec.witness6 (enc := enc) (C := Try.checked) false ⟨#[], #[.slice none 0 0, .slice none 0 0], []⟩ 8 (by kernel_rfl) (by kernel_rfl) (by kernel_rfl) (by kernel_rfl)) ?_
  intro W base args ds gs before hval0 hW hcnd _
  have hval : ∀ (j : Nat) t v, Try.f4.params[j]? = some t → args[j]? = some v → Value.okWide Try.prog W .any base t v := hval0
  have hW' := hW
  obtain ⟨p, q, hA0, hV, rfl, hfz, hnd⟩ := hW
  have hA : DataW.TrodAll enc Try.prog W 0 (fun _ => true) true Try.f4.params.toList args.toList ds p := hA0
  rw [Try.params4] at hA hval
  obtain ⟨v0, vs0, d0, ds0, p0, q0, hargs, rfl, rfl, h0, r0⟩ := trodAll_cons hA
  obtain ⟨v1, vs1, d1, ds1, p1, q1, rfl, rfl, rfl, h1, r1⟩ := trodAll_cons r0
  obtain ⟨rfl, rfl, rfl⟩ := trodAll_nil r1
  obtain rfl : args = #[v0, v1] := by cases args; simp_all
  obtain ⟨rfl, rfl⟩ := trodVars_none hV
  obtain ⟨a0, len0, cap0, rfl⟩ := okWide_slice Try.underlying22 (hval 0 22 v0 rfl rfl)
  have k0 := h0
  have lt0 : ∀ x ∈ p0, x.block < W.heap.size := by obtain ⟨m, hm⟩ := k0; exact DataW.trod_lt m _ _ _ hm
  obtain ⟨z0, w0⟩ : ∃ zs, IsRow .u8 W a0 len0 cap0 zs := by
    obtain ⟨fuel, hf⟩ := h0
    rcases open_ints Try.underlying22 Try.underlying5 (by kernel_rfl) hf with ⟨hcs, _⟩ | ⟨x, l, c, zs, hcs, _, hl, hm, hz, _, hcell, hwz⟩
    · simp [Value.cells] at hcs
      obtain ⟨rfl, rfl, rfl⟩ := hcs
      exact ⟨[], .inl ⟨rfl, rfl, rfl, rfl⟩⟩
    · simp [Value.cells] at hcs
      obtain ⟨rfl, rfl, rfl⟩ := hcs
      exact ⟨zs, .inr ⟨_, rfl, hl, hm, by simpa using hz, hcell, hwz⟩⟩
  obtain ⟨a1, len1, cap1, rfl⟩ := okWide_slice Try.underlying22 (hval 1 22 v1 rfl rfl)
  have k1 := h1
  have lt1 : ∀ x ∈ p1, x.block < W.heap.size := by obtain ⟨m, hm⟩ := k1; exact DataW.trod_lt m _ _ _ hm
  obtain ⟨z1, w1⟩ : ∃ zs, IsRow .u8 W a1 len1 cap1 zs := by
    obtain ⟨fuel, hf⟩ := h1
    rcases open_ints Try.underlying22 Try.underlying5 (by kernel_rfl) hf with ⟨hcs, _⟩ | ⟨x, l, c, zs, hcs, _, hl, hm, hz, _, hcell, hwz⟩
    · simp [Value.cells] at hcs
      obtain ⟨rfl, rfl, rfl⟩ := hcs
      exact ⟨[], .inl ⟨rfl, rfl, rfl, rfl⟩⟩
    · simp [Value.cells] at hcs
      obtain ⟨rfl, rfl, rfl⟩ := hcs
      exact ⟨zs, .inr ⟨_, rfl, hl, hm, by simpa using hz, hcell, hwz⟩⟩
  clear hA0 hval0
  refine (walk a0 len0 cap0 z0 a1 len1 cap1 z1 W w0 w1).mono fun e W' ⟨he, bel⟩ => ?_
  subst he
  exact ⟨_, rfl, _, _, _, [], _, [], hW', trodAll_mk1 (shut_bool Try.underlying4 _), (trodAll_cons_mk (Below.trod laidOut (by kernel_rfl) (of_decide_eq_true (by kernel_rfl)) k0 bel lt0) (trodAll_cons_mk (Below.trod laidOut (by kernel_rfl) (of_decide_eq_true (by kernel_rfl)) k1 bel lt1) trodAll_mk0)), rfl, bel.frame _, fun h => by cases h⟩

theorem over : Rows.fnGetOrRow.holds Try.pinned (OpenSpec.ofChange Rows.fnGetOrSpec) :=
  OpenClaim.holds_of_wide 4 Try.f4 rfl rfl rfl rfl rfl rfl rfl ⟨rfl, rfl, rfl, rfl, rfl⟩ rfl rfl rfl rfl rfl (by kernel_rfl) Try.func4 (by kernel_rfl)
    (of_decide_eq_true (by kernel_rfl)) (by unfold Func.isWrapper; first | (rw [if_pos (by decide +kernel)]; kernel_rfl) | (rw [if_neg (by decide +kernel)]; exact ⟨rfl, rfl⟩))
    (fun os started H enc _ => lifted os started H enc)

theorem proved : Rows.FnGetOrSaid := over
end Go.Proofs.Ytibepggakjfbcaa.fnGetOr
theorem Go.Proofs.Ytibepggakjfbcaa.getor_holds : Go.Proofs.Ytibepggakjfbcaa.Rows.FnGetOrSaid := Go.Proofs.Ytibepggakjfbcaa.fnGetOr.proved
