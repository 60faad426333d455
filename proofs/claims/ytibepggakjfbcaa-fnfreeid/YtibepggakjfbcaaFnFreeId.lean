/- All shadow variables of a number are freed and only these: at whatever list is drawn, in its order, of 16 at most; what stays is the list without them, a second call frees none; no condition. -/
import Derived.Test.YtibepggakjfbcaaSrcR
import Derived.Test.YtibepggakjfbcaaDrvF
import Derived.WalkKit
import Derived.ProofKit
import Derived.OpenShut
import Derived.ShutString
import Derived.ChangeOld
import Derived.Below
namespace Go.Proofs.Ytibepggakjfbcaa.fnFreeId
open Go.RowKit Go.ChangeShapes Go.WideShapes Go.ChangeAt Go.RowKit
open Go.ChangeMaps (open_string shut_string)
set_option linter.unusedVariables false

theorem own : ownKnob Try.prog.godebug = none := by kernel_rfl
theorem laidOut : laidOutB Try.prog = true := by kernel_rfl

/-- WHAT THE WALK IS TOLD OF A SLICE OF INTEGERS THAT CAME IN: it is nil; or it leads to a row of 'cap' cells, the numbers 'zs' (the first 'len' are its elements, the rest its spare room), each fitting its kind. -/
def IsRow (k : IntKind) (w : World) (a : Option Addr) (len cap : Nat) (zs : List Int) : Prop :=
  (a = none ∧ len = 0 ∧ cap = 0 ∧ zs = []) ∨
  ∃ x, a = some x ∧ len ≤ cap ∧ cap ≤ maxLen ∧ zs.length = cap ∧ (∀ i, i < zs.length → w.cell? (x.add i) = some (.int k (zs.getD i 0))) ∧ ∀ n ∈ zs, (Lit.int k n).wf = true

set_option maxRecDepth 100000 in
set_option maxHeartbeats 1600000 in
theorem walk (a0 : Option Addr) (len0 cap0 : Nat) (z0 : List Int) (a1 : Option Addr) (len1 cap1 : Nat) (z1 : List Int) (w : World) (w0 : IsRow .u8 w a0 len0 cap0 z0) (w1 : IsRow .u8 w a1 len1 cap1 z1) :
    Calls Try.prog 5 #[.slice a0 len0 cap0, .slice a1 len1 cap1] w fun e w' => e = .returned (.bool true) ∧ Below w.heap.size w w' := by
  have b0 := bytes_of_row w0
  have b1 := bytes_of_row w1
  have hl0 := b0.1
  have hl1 := b1.1
  unfold maxLen at hl0 hl1
  by_cases h0 : 1048576 < len0
  · go_enter Try.func5, Try.ntmps5
    go_wp2
    go_ret
    exact ⟨rfl, Below.refl _ _⟩
  by_cases h1 : 1048576 < len1
  · go_enter Try.func5, Try.ntmps5
    go_wp2
    go_ret
    exact ⟨rfl, Below.refl _ _⟩
  clear w0 w1
  obtain ⟨i0, hi, hz0, hz1, hz2⟩ := info_parts Try.info_shw
  go_enter Try.func5, Try.ntmps5
  go_wp2_with fail
  refine (drawn_any len0 cap0 w.heap.size a0 _ b0 (Nat.le_refl _)).mono ?_
  rintro e wa ⟨L, p, c, rfl, h16, hD, hP, ba⟩
  have HF : Hid (Fine L) := hD.fine h16
  have HP : Hid (LstAt wa L p c) := hP
  have HB : Hid (Below w.heap.size w wa) := ba
  have sz := ba.size
  clear hD hP ba b0
  go_wp2_with fail
  refine (at_any len1 cap1 w.heap.size 0 6 a1 _ (by omega) (by omega) (by omega) (by omega) (b1.below HB.out)).mono ?_
  rintro e wb ⟨k, hk, rfl, bb⟩
  have HB2 : Hid (Below w.heap.size w wb) := HB.out.trans (bb.mono sz)
  have HP2 : Hid (LstAt wb L p c) := HP.out.below bb
  obtain ⟨x, hxk⟩ : ∃ x : Int, (k : Int) = x := ⟨_, rfl⟩
  have hix : idP x := by unfold idP; omega
  clear HB HP bb hk sz b1
  try rw [hxk]
  have C1 := fidA (L := L) (p := p) (c := c) x wb HF.out hix HP2.out
  have HC1 : Hid (Calls _ _ _ _ _) := C1
  clear C1
  go_wp2_with fail
  try rw [hxk]
  refine HC1.out.mono ?_
  rintro e wc ⟨p1, c1, rfl, hP1, bb⟩
  obtain ⟨X, hX⟩ : ∃ X, fidL L x = X := ⟨_, rfl⟩
  rw [hX] at hP1
  have HFX : Hid (Fine X) := by rw [← hX]; exact HF.out.filter _
  have HX : Hid (fidL L x = X) := hX
  have HB3 : Hid (Below w.heap.size w wc) := HB2.out.trans (bb.mono HB2.out.size)
  have HP3 : Hid (LstAt wc L p c) := HP2.out.below bb
  have HQ3 : Hid (LstAt wc X p1 c1) := hP1
  try rw [hX]
  clear HB2 HP2 bb hP1 HC1 hX
  go_wp2_with fail
  have HLP : Hid (∀ W, Below wc.heap.size wc W → ShwsAt W p L.length (nthD L)) := fun W h => (HP3.out.below h).2
  have hszc := HB3.out.size
  clear hxk
  go_loopw [10, 11] (fun v i wr => ∃ k : Nat, k ≤ L.length ∧ i = .int .i64 k ∧ (∃ m, m ≤ k ∧ (fidL (lstS k (nthD L)) x).length = m ∧ Hid (wr.ownsRow wc.heap.size 34 3 v m (cellsL (fidL (lstS k (nthD L)) x)))) ∧ Below wc.heap.size wc wr) (fun _ i _ => L.length - (intOf i).toNat)
  case atStart => exact ⟨0, Nat.zero_le _, rfl, ⟨0, Nat.le_refl _, rfl, World.ownsRow_made wc #[] 0 (Nat.le_refl _) (Nat.zero_le _) rfl⟩, (Below.refl _ _).alloc (Nat.le_refl _) _⟩
  case round =>
    obtain ⟨k, hk, rfl, ⟨m, hm, hml, OW⟩, hB⟩ := hrel
    by_cases hlt : k < L.length
    · rcases HLP.out wr hB with hp' | ⟨pb, po, rfl, hpl, hpv⟩
      · omega
      obtain ⟨x0, x1, x2⟩ := hpv.shw hlt
      have hsucc := fidL_succ k (nthD L) x
      obtain ⟨d, hd⟩ : ∃ d, nthD L k = d := ⟨_, rfl⟩
      rw [hd] at x0 x1 x2 hsucc
      obtain ⟨ob, ix, va⟩ := d
      simp only at hsucc
      have hsz := hB.size
      clear hpv hd
      by_cases e : ix = x
      · rw [if_pos e] at hsucc
        subst e
        have HN : Hid (fidL (lstS (k + 1) (nthD L)) ix = fidL (lstS k (nthD L)) ix) := hsucc
        clear hsucc
        go_wp2_with fail
        try go_region
        all_goals
          try go_wp2_with fail
          go_roundw
          case rel => exact ⟨k + 1, by omega, by go_num, ⟨m, by omega, by rw [HN.out]; exact hml, by rw [HN.out]; exact OW⟩, by first | exact hB | exact hB.drew⟩
          case measure => simp [intOf]; omega
      · rw [if_neg e] at hsucc
        have hne : (ix != x) = true := by simpa using e
        have HN : Hid (fidL (lstS (k + 1) (nthD L)) x = fidL (lstS k (nthD L)) x ++ [⟨ob, ix, va⟩]) := hsucc
        clear hsucc
        go_wp2_with (at_builtin; refine wpList_append_lies _ rfl _ _ 23 rfl wc.heap.size 34 i0 _ 3 24 Try.underlying23 hi hz0 hz1 hz2 rfl (by omega) _ _ _ rfl (OW.out.alloc _) ⟨wr.heap.size, 0, none⟩ 1 1 [.int .i64 ob, .int .i64 ix, .int .i64 va] rfl rfl (World.news_of_block (cs := #[.int .i64 ob, .int .i64 ix, .int .i64 va]) (t := 34) (fr := (0, 0)) (heap_alloc_new wr _)) (by simp [Value.oneCell']) (by omega) (by unfold maxLen; omega) (by omega) (by simp; omega) (wr.heap.size + 1) (by simp) ?_; intro g8 cap8 w8 ho8 hg8 hat8 hlt8)
        have hB8 : Below wc.heap.size wc w8 := (hB.alloc hsz _).grown hg8 (by simp; omega) (fun r e => (OW.out.lt r e).1)
        go_roundw
        case rel => exact ⟨k + 1, by omega, by go_num, ⟨m + 1, by omega, by rw [HN.out, List.length_append, hml]; rfl, by rw [HN.out, cellsL_append]; exact ho8⟩, hB8⟩
        case measure => simp [intOf]; omega
    · obtain rfl : k = L.length := by omega
      have h3 := OW.out
      rw [fidL_all, HX.out] at hml h3
      rw [← hml] at h3
      obtain ⟨p9, c9, hv, hc9, ho⟩ := ownL_of_row h3
      subst hv
      have HW4 : Hid (LstAt wr X p9 c9) := ⟨hc9, ho.rows⟩
      have HQ4 : Hid (LstAt wr X p1 c1) := HQ3.out.below hB
      have HB4 : Hid (Below w.heap.size w wr) := HB3.out.trans (hB.mono hszc)
      have C2 := fidA (L := X) (p := p1) (c := c1) x wr HFX.out hix HQ4.out
      have e2 : fidL X x = X := by have := fidL_twice L x; rw [HX.out] at this; exact this
      rw [e2, Int.sub_self] at C2
      have HC2 : Hid (Calls _ _ _ _ _) := C2
      have hXL : X.length ≤ L.length := by rw [← HX.out]; exact List.length_filter_le _ _
      have ew := wrap_i64_in ((L.length : Int) - (X.length : Int)) (by omega) (by omega)
      clear OW h3 ho hc9 hml C2 e2 HP3 HLP hB HQ3 HB3 hXL h16 hm hk hlt
      go_wp2_with fail
      refine HC2.out.mono ?_
      rintro e w5 ⟨p2, c2, rfl, _, bb⟩
      have HB5 : Hid (Below w.heap.size w w5) := HB4.out.trans (bb.mono HB4.out.size)
      have HQ5 : Hid (LstAt w5 X p1 c1) := HQ4.out.below bb
      have HW5 : Hid (LstAt w5 X p9 c9) := HW4.out.below bb
      have SM : Hid (Calls _ _ _ _ _) := samO w5 HFX.out HFX.out HQ5.out HW5.out true ⟨fun _ => rfl, fun _ => rfl⟩
      have OKA : Hid (∀ W, Below w5.heap.size w5 W → Calls Try.prog 15 #[.slice p1 X.length c1] W fun e w' => e = .returned (.bool true) ∧ Below W.heap.size W w') := fun W h => okA W HFX.out (HQ5.out.below h)
      clear HB4 HQ4 HW4 bb HC2
      go_wp2_with fail
      refine SM.out.mono ?_
      rintro e w6 ⟨rfl, bb⟩
      have HB6 : Hid (Below w.heap.size w w6) := HB5.out.trans (bb.mono HB5.out.size)
      have HK6 : Hid (Below w5.heap.size w5 w6) := bb
      clear bb HB5 SM
      go_wp2_with fail
      refine (OKA.out w6 HK6.out).mono ?_
      rintro e w7 ⟨rfl, bb⟩
      have HB7 : Hid (Below w.heap.size w w7) := HB6.out.trans (bb.mono HB6.out.size)
      clear bb HB6
      go_wp2_with fail
      go_ret
      exact ⟨rfl, HB7.out⟩

set_option maxRecDepth 100000 in
theorem lifted (os : Os) (started : os.Started) (H : Type) (enc : TypeId × Value → H) :
    ReturnsInHanded {} Try.checked os 5 .any (Rows.fnFreeIdSpec.pre6 enc Try.prog Try.f5 Rows.fnFreeIdRow.domain false) (Rows.fnFreeIdSpec.post enc Try.prog Try.f5 false true false false) := by
  refine returnsInHanded_of_change (C := Try.checked) own started (by kernel_rfl) Try.func5
    (ChangeSpec.witness6 (enc := enc) (C := Try.checked) false ⟨#[], #[.slice none 0 0, .slice none 0 0], []⟩ 8 (by kernel_rfl) (by kernel_rfl) (by kernel_rfl) (by kernel_rfl)) ?_
  intro W base args ds gs before hval0 hW hcnd _
  have hval : ∀ (j : Nat) t v, Try.f5.params[j]? = some t → args[j]? = some v → Value.okWide Try.prog W .any base t v := hval0
  have hW' := hW
  obtain ⟨p, q, hA0, hV, rfl, hfz, hnd⟩ := hW
  have hA : DataW.TrodAll enc Try.prog W 0 (fun _ => true) true Try.f5.params.toList args.toList ds p := hA0
  rw [Try.params5] at hA hval
  obtain ⟨v0, vs0, d0, ds0, p0, q0, hargs, rfl, rfl, h0, r0⟩ := trodAll_cons hA
  obtain ⟨v1, vs1, d1, ds1, p1, q1, rfl, rfl, rfl, h1, r1⟩ := trodAll_cons r0
  obtain ⟨rfl, rfl, rfl⟩ := trodAll_nil r1
  obtain rfl : args = #[v0, v1] := by cases args; simp_all
  obtain ⟨rfl, rfl⟩ := trodVars_none hV
  obtain ⟨a0, len0, cap0, rfl⟩ := okWide_slice Try.underlying22 (hval 0 22 v0 rfl rfl)
  have k0 := h0
  have lt0 : ∀ x ∈ p0, x.block < W.heap.size := by obtain ⟨m, hm⟩ := k0; exact DataW.trod_lt m _ _ _ hm
  obtain ⟨z0, w0⟩ : ∃ zs, IsRow .u8 W a0 len0 cap0 zs := by
    obtain ⟨fuel, hf⟩ := h0
    rcases open_ints Try.underlying22 Try.underlying5 (by kernel_rfl) hf with ⟨hcs, _⟩ | ⟨x, l, c, zs, hcs, _, hl, hm, hz, _, hcell, hwz⟩
    · simp [Value.cells] at hcs
      obtain ⟨rfl, rfl, rfl⟩ := hcs
      exact ⟨[], .inl ⟨rfl, rfl, rfl, rfl⟩⟩
    · simp [Value.cells] at hcs
      obtain ⟨rfl, rfl, rfl⟩ := hcs
      exact ⟨zs, .inr ⟨_, rfl, hl, hm, by simpa using hz, hcell, hwz⟩⟩
  obtain ⟨a1, len1, cap1, rfl⟩ := okWide_slice Try.underlying22 (hval 1 22 v1 rfl rfl)
  have k1 := h1
  have lt1 : ∀ x ∈ p1, x.block < W.heap.size := by obtain ⟨m, hm⟩ := k1; exact DataW.trod_lt m _ _ _ hm
  obtain ⟨z1, w1⟩ : ∃ zs, IsRow .u8 W a1 len1 cap1 zs := by
    obtain ⟨fuel, hf⟩ := h1
    rcases open_ints Try.underlying22 Try.underlying5 (by kernel_rfl) hf with ⟨hcs, _⟩ | ⟨x, l, c, zs, hcs, _, hl, hm, hz, _, hcell, hwz⟩
    · simp [Value.cells] at hcs
      obtain ⟨rfl, rfl, rfl⟩ := hcs
      exact ⟨[], .inl ⟨rfl, rfl, rfl, rfl⟩⟩
    · simp [Value.cells] at hcs
      obtain ⟨rfl, rfl, rfl⟩ := hcs
      exact ⟨zs, .inr ⟨_, rfl, hl, hm, by simpa using hz, hcell, hwz⟩⟩
  clear hA0 hval0
  refine (walk a0 len0 cap0 z0 a1 len1 cap1 z1 W w0 w1).mono fun e W' ⟨he, bel⟩ => ?_
  subst he
  exact ⟨_, rfl, _, _, _, [], _, [], hW', trodAll_mk1 (shut_bool Try.underlying4 _), (trodAll_cons_mk (Below.trod laidOut (by kernel_rfl) (of_decide_eq_true (by kernel_rfl)) k0 bel lt0) (trodAll_cons_mk (Below.trod laidOut (by kernel_rfl) (of_decide_eq_true (by kernel_rfl)) k1 bel lt1) trodAll_mk0)), rfl, bel.frame _, fun h => by cases h⟩

theorem over : Rows.fnFreeIdRow.holds Try.pinned (OpenSpec.ofChange Rows.fnFreeIdSpec) :=
  OpenClaim.holds_of_wide 5 Try.f5 rfl rfl rfl rfl rfl rfl rfl ⟨rfl, rfl, rfl, rfl, rfl⟩ rfl rfl rfl rfl rfl (by kernel_rfl) Try.func5 (by kernel_rfl)
    (of_decide_eq_true (by kernel_rfl)) (by unfold Func.isWrapper; first | (rw [if_pos (by decide +kernel)]; kernel_rfl) | (rw [if_neg (by decide +kernel)]; exact ⟨rfl, rfl⟩))
    (fun os started H enc _ => lifted os started H enc)

theorem proved : Rows.FnFreeIdSaid := over
end Go.Proofs.Ytibepggakjfbcaa.fnFreeId
theorem Go.Proofs.Ytibepggakjfbcaa.freeid_holds : Go.Proofs.Ytibepggakjfbcaa.Rows.FnFreeIdSaid := Go.Proofs.Ytibepggakjfbcaa.fnFreeId.proved
