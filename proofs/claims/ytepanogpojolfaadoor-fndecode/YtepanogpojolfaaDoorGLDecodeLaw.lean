/- Instructions are read back from their words; a word that is an instruction is that instruction's word (the tie is given). -/
import Derived.Test.YtepanogpojolfaaDoorCards
import Derived.Test.YtepanogpojolfaaDoorTie
import Derived.Test.YtepanogpojolfaaDoorGLDecode5
import Derived.WalkKit
import Derived.ProofKit
import Derived.OpenShut
import Derived.ShutString
import Derived.ChangeOld
import Derived.Below
import Derived.LaidMore
import Derived.Stop.Joined
import Derived.SevenTiedAt
import Derived.OpenVars
namespace Go.Proofs.YtepanogpojolfaaDoor.fnDecode
open Go.RowKit Go.ChangeShapes Go.WideShapes Go.ChangeAt
open Go.ChangeMaps (open_string shut_string)
set_option linter.unusedVariables false

theorem own : ownKnob Tryd.prog.godebug = none := by kernel_rfl
theorem laidOut : laidOutB Tryd.prog = true := by kernel_rfl

def IsRow (k : IntKind) (w : World) (a : Option Addr) (len cap : Nat) (zs : List Int) : Prop :=
  (a = none ∧ len = 0 ∧ cap = 0 ∧ zs = []) ∨
  ∃ x, a = some x ∧ len ≤ cap ∧ cap ≤ maxLen ∧ zs.length = cap ∧ (∀ i, i < zs.length → w.cell? (x.add i) = some (.int k (zs.getD i 0))) ∧ ∀ n ∈ zs, (Lit.int k n).wf = true

set_option maxRecDepth 100000 in
set_option maxHeartbeats 4000000 in
theorem walk (a0 : Option Addr) (len0 cap0 : Nat) (z0 : List Int) (a1 : Option Addr) (len1 cap1 : Nat) (z1 : List Int) (w : World) (w0 : IsRow .u8 w a0 len0 cap0 z0) (w1 : IsRow .u8 w a1 len1 cap1 z1) (hL : Laid w) :
    Calls Tryd.prog 3 #[.slice a0 len0 cap0, .slice a1 len1 cap1] w fun e w' => e = .returned (.bool true) ∧ Below w.heap.size w w' := by
  have b0 := bytes_of_row w0
  have b1 := bytes_of_row w1
  have hl0 := b0.1
  have hl1 := b1.1
  unfold maxLen at hl0 hl1
  by_cases h0 : 1048576 < len0
  · clear hL
    go_enter Tryd.func3, Tryd.ntmps3
    go_wp2
    go_ret
    exact ⟨rfl, Below.refl _ _⟩
  by_cases h1 : 1048576 < len1
  · clear hL
    go_enter Tryd.func3, Tryd.ntmps3
    go_wp2
    go_ret
    exact ⟨rfl, Below.refl _ _⟩
  clear w0 w1
  go_enter Tryd.func3, Tryd.ntmps3
  go_wp2_with fail
  refine (instrDrawn_any len0 cap0 w.heap.size a0 _ b0 (Nat.le_refl _)).mono ?_
  rintro e wa ⟨op, rd, r1, r2, im, hr, rfl, ba⟩
  obtain ⟨W, hW0, hW1, hT, hE, hD⟩ := decBack op rd r1 r2 im hr
  have HR : Hid (rightB op rd r1 r2 im = true) := hr
  have HT : Hid (encT op rd r1 r2 im = W) := hT
  have HE : Hid (encE op rd r1 r2 im = 0) := hE
  have HD : Hid (∀ w, Calls Tryd.prog 12 #[.int .i64 W] w fun e w' => e = .returned (.tuple #[.agg #[.int .i64 op, .int .i64 rd, .int .i64 r1, .int .i64 r2, .int .i64 im], .int .i64 0]) ∧ Below w.heap.size w w') := hD
  clear hr hT hE hD b0
  have X0 : Five (wa.alloc (.cells #[.int .i64 op, .int .i64 rd, .int .i64 r1, .int .i64 r2, .int .i64 im] 24)) wa.heap.size op rd r1 r2 im := by constructor <;> simp
  have B0 : Below w.heap.size w (wa.alloc (.cells #[.int .i64 op, .int .i64 rd, .int .i64 r1, .int .i64 r2, .int .i64 im] 24)) := ba.alloc ba.size _
  have hza := ba.size
  clear ba
  go_wp2_with fail
  refine (implEnc op rd r1 r2 im _ (laid_below hL B0)).mono ?_
  rintro e w1 ⟨rfl, c1⟩
  rw [HT.out, HE.out]
  have X1 := X0.below c1 (by simp)
  have z1 : wa.heap.size + 1 ≤ w1.heap.size := by have := c1.size; simp at this; omega
  have B1 := B0.trans (c1.mono B0.size)
  clear X0 B0 c1
  obtain ⟨c0, c1, c2, c3, c4, f0, f1, f2, f3, f4⟩ := X1
  have X1 : Hid (Five w1 wa.heap.size op rd r1 r2 im) := ⟨c0, c1, c2, c3, c4, f0, f1, f2, f3, f4⟩
  go_wp2_with fail
  refine (specEnc op rd r1 r2 im _).mono ?_
  rintro e w2 ⟨rfl, k2⟩
  rw [HT.out, HE.out]
  have X2 := X1.out.below k2 (by omega)
  have z2 : wa.heap.size + 1 ≤ w2.heap.size := Nat.le_trans z1 k2.size
  have B2 := B1.trans (k2.mono B1.size)
  clear X1 B1 k2 z1 c0 c1 c2 c3 c4 f0 f1 f2 f3 f4 HT HE
  go_wp2_with fail
  refine (HD.out _).mono ?_
  rintro e w3 ⟨rfl, k3⟩
  have X3 := X2.below k3 (by omega)
  have z3 : wa.heap.size + 1 ≤ w3.heap.size := Nat.le_trans z2 k3.size
  have B3 := B2.trans (k3.mono B2.size)
  clear X2 B2 k3 z2 HD
  have X4 := X3.below ((Below.refl w3.heap.size w3).alloc (Nat.le_refl _) (.cells #[.int .i64 op, .int .i64 rd, .int .i64 r1, .int .i64 r2, .int .i64 im] 24)) (by omega)
  obtain ⟨c0, c1, c2, c3, c4, f0, f1, f2, f3, f4⟩ := X4
  clear X3
  have B4 : Below w.heap.size w (w3.alloc (.cells #[.int .i64 op, .int .i64 rd, .int .i64 r1, .int .i64 r2, .int .i64 im] 24)) := B3.alloc B3.size _
  clear B3
  go_wp2_with fail
  refine (insC op rd r1 r2 im _ (laid_below hL B4)).mono ?_
  rintro e w5 ⟨rfl, k5⟩
  rw [HR.out]
  have B5 := B4.trans (k5.mono B4.size)
  clear k5 B4 c0 c1 c2 c3 c4 f0 f1 f2 f3 f4 HR z3 hza
  go_wp2_with fail
  refine (wordDrawn_any len1 cap1 w.heap.size a1 _ (b1.below B5) B5.size).mono ?_
  rintro e w6 ⟨v6, hv6, rfl, k6⟩
  have B6 := B5.trans (k6.mono B5.size)
  clear k6 B5
  go_wp2_with fail
  refine (at_any len1 cap1 w.heap.size 1 2 a1 _ (by omega) (by omega) (by omega) (by omega) (b1.below B6)).mono ?_
  rintro e w7 ⟨v7, hv7, rfl, k7⟩
  have B7 := B6.trans (k7.mono B6.size)
  clear k7 B6
  by_cases h7 : v7 = 1
  · subst h7
    clear hv7 hv6
    go_wp2_with fail
    refine (at_any len1 cap1 w.heap.size 0 32 a1 _ (by omega) (by omega) (by omega) (by omega) (b1.below B7)).mono ?_
    rintro e w8 ⟨k, hk, rfl, k8⟩
    have BZ := B7.trans (k8.mono B7.size)
    clear k8 B7 b1
    have hk1 : (k : Int) ≤ 31 := by omega
    obtain ⟨Z, hZ, hz0, hz1⟩ := xor_in W k hW0 hW1 (by omega)
    have hp := pow31 k (by omega)
    clear hk
    obtain ⟨x0, x1, x2, x3, x4, co, hs, hi, hco⟩ := decTwo Z hz0 hz1
    have HS : Hid (∀ w, Calls Tryd.prog 16 #[.int .i64 Z] w fun e w' => e = .returned (.tuple #[.agg #[.int .i64 x0, .int .i64 x1, .int .i64 x2, .int .i64 x3, .int .i64 x4], .int .i64 co]) ∧ Below w.heap.size w w') := hs
    have HI : Hid (∀ w, Calls Tryd.prog 12 #[.int .i64 Z] w fun e w' => e = .returned (.tuple #[.agg #[.int .i64 x0, .int .i64 x1, .int .i64 x2, .int .i64 x3, .int .i64 x4], .int .i64 co]) ∧ Below w.heap.size w w') := hi
    have HC : Hid (co = 10 ∨ (co = 0 ∧ encT x0 x1 x2 x3 x4 = Z ∧ encE x0 x1 x2 x3 x4 = 0)) := hco
    clear hs hi hco hz0 hz1
    go_wp2_with fail
    refine (HS.out _).mono ?_
    rintro e w9 ⟨rfl, k9⟩
    have B9 := BZ.trans (k9.mono BZ.size)
    clear k9 BZ HS
    go_wp2_with fail
    refine (HI.out _).mono ?_
    rintro e w10 ⟨rfl, k10⟩
    have X10 := (show Five (w9.alloc (.cells #[.int .i64 x0, .int .i64 x1, .int .i64 x2, .int .i64 x3, .int .i64 x4] 24)) w9.heap.size x0 x1 x2 x3 x4 by constructor <;> simp).below k10 (by simp)
    have z10 : w9.heap.size + 1 ≤ w10.heap.size := by have := k10.size; simp at this; omega
    have B10 := (B9.alloc B9.size (.cells #[.int .i64 x0, .int .i64 x1, .int .i64 x2, .int .i64 x3, .int .i64 x4] 24)).trans (k10.mono (by have := B9.size; simp; omega))
    clear k10 B9 HI
    have X11 := X10.below ((Below.refl w10.heap.size w10).alloc (Nat.le_refl _) (.cells #[.int .i64 x0, .int .i64 x1, .int .i64 x2, .int .i64 x3, .int .i64 x4] 24)) (by omega)
    obtain ⟨c0, c1, c2, c3, c4, f0, f1, f2, f3, f4⟩ := X11
    clear X10
    have B11 : Below w.heap.size w (w10.alloc (.cells #[.int .i64 x0, .int .i64 x1, .int .i64 x2, .int .i64 x3, .int .i64 x4] 24)) := B10.alloc B10.size _
    clear B10
    rcases HC.out with rfl | ⟨rfl, hT2, hE2⟩
    · clear hL HC
      go_wp2
      go_ret
      exact ⟨rfl, B11⟩
    · have HT2 : Hid (encT x0 x1 x2 x3 x4 = Z) := hT2
      have HE2 : Hid (encE x0 x1 x2 x3 x4 = 0) := hE2
      clear hT2 hE2 HC
      go_wp2_with fail
      refine (implEnc x0 x1 x2 x3 x4 _ (laid_below hL B11)).mono ?_
      rintro e w12 ⟨rfl, k12⟩
      rw [HT2.out, HE2.out]
      have B12 := B11.trans (k12.mono B11.size)
      clear k12 B11 hL c0 c1 c2 c3 c4 f0 f1 f2 f3 f4 HT2 HE2
      go_wp2
      go_ret
      exact ⟨rfl, B12⟩
  · have hv7' : ((v7 : Int) == 1) = false := beq_eq_false_iff_ne.2 (by omega)
    have hz0 : (0 : Int) ≤ (v6 : Int) := by omega
    have hz1 : (v6 : Int) < 4294967296 := by omega
    have BZ := B7
    clear h7 hv7 B7 b1 hW0 hW1
    obtain ⟨x0, x1, x2, x3, x4, co, hs, hi, hco⟩ := decTwo (v6 : Int) hz0 hz1
    have HS : Hid (∀ w, Calls Tryd.prog 16 #[.int .i64 (v6 : Int)] w fun e w' => e = .returned (.tuple #[.agg #[.int .i64 x0, .int .i64 x1, .int .i64 x2, .int .i64 x3, .int .i64 x4], .int .i64 co]) ∧ Below w.heap.size w w') := hs
    have HI : Hid (∀ w, Calls Tryd.prog 12 #[.int .i64 (v6 : Int)] w fun e w' => e = .returned (.tuple #[.agg #[.int .i64 x0, .int .i64 x1, .int .i64 x2, .int .i64 x3, .int .i64 x4], .int .i64 co]) ∧ Below w.heap.size w w') := hi
    have HC : Hid (co = 10 ∨ (co = 0 ∧ encT x0 x1 x2 x3 x4 = (v6 : Int) ∧ encE x0 x1 x2 x3 x4 = 0)) := hco
    clear hs hi hco hz0 hz1
    go_wp2_with fail
    refine (HS.out _).mono ?_
    rintro e w9 ⟨rfl, k9⟩
    have B9 := BZ.trans (k9.mono BZ.size)
    clear k9 BZ HS
    go_wp2_with fail
    refine (HI.out _).mono ?_
    rintro e w10 ⟨rfl, k10⟩
    have X10 := (show Five (w9.alloc (.cells #[.int .i64 x0, .int .i64 x1, .int .i64 x2, .int .i64 x3, .int .i64 x4] 24)) w9.heap.size x0 x1 x2 x3 x4 by constructor <;> simp).below k10 (by simp)
    have z10 : w9.heap.size + 1 ≤ w10.heap.size := by have := k10.size; simp at this; omega
    have B10 := (B9.alloc B9.size (.cells #[.int .i64 x0, .int .i64 x1, .int .i64 x2, .int .i64 x3, .int .i64 x4] 24)).trans (k10.mono (by have := B9.size; simp; omega))
    clear k10 B9 HI
    have X11 := X10.below ((Below.refl w10.heap.size w10).alloc (Nat.le_refl _) (.cells #[.int .i64 x0, .int .i64 x1, .int .i64 x2, .int .i64 x3, .int .i64 x4] 24)) (by omega)
    obtain ⟨c0, c1, c2, c3, c4, f0, f1, f2, f3, f4⟩ := X11
    clear X10
    have B11 : Below w.heap.size w (w10.alloc (.cells #[.int .i64 x0, .int .i64 x1, .int .i64 x2, .int .i64 x3, .int .i64 x4] 24)) := B10.alloc B10.size _
    clear B10
    rcases HC.out with rfl | ⟨rfl, hT2, hE2⟩
    · clear hL HC
      go_wp2
      go_ret
      exact ⟨rfl, B11⟩
    · have HT2 : Hid (encT x0 x1 x2 x3 x4 = (v6 : Int)) := hT2
      have HE2 : Hid (encE x0 x1 x2 x3 x4 = 0) := hE2
      clear hT2 hE2 HC
      go_wp2_with fail
      refine (implEnc x0 x1 x2 x3 x4 _ (laid_below hL B11)).mono ?_
      rintro e w12 ⟨rfl, k12⟩
      rw [HT2.out, HE2.out]
      have B12 := B11.trans (k12.mono B11.size)
      clear k12 B11 hL c0 c1 c2 c3 c4 f0 f1 f2 f3 f4 HT2 HE2
      go_wp2
      go_ret
      exact ⟨rfl, B12⟩

set_option maxRecDepth 100000 in
theorem lifted (os : Os) (started : os.Started) (H : Type) (enc : TypeId × Value → H) :
    ReturnsInHanded {} Tryd.checked os 3 .any (fun w args => (Rows.fnDecodeSpec.pre enc Tryd.prog Tryd.f3 [] false w args ∧ laidMetH Tryd.prog laidList w) ∧ sizedMet enc Tryd.prog Tryd.f3 (OpenSpec.ofChange Rows.fnDecodeSpec) false w args)
      (Rows.fnDecodeSpec.post enc Tryd.prog Tryd.f3 false true false false) := by
  refine returnsInHanded_of_change_and (C := Tryd.checked) (X := fun w _ => laidMetH Tryd.prog laidList w) (fun _ _ _ hh h => h.of_heap hh) own started (by kernel_rfl) Tryd.func3
    (ChangeSpec.witness_shaped (enc := enc) (C := Tryd.checked) (os := os) (X := fun w _ => laidMetH Tryd.prog laidList w) false (World.doorLaid Tryd.prog 400 os) #[.slice none 0 0, .slice none 0 0] 8 rfl (World.shaped_of_RefB (by kernel_rfl) (by kernel_rfl)) (by kernel_rfl) (by kernel_rfl) (by kernel_rfl) (door_met os _)) ?_
  intro W base args ds gs before hval0 hW _ _ hL0 _
  have hval : ∀ (j : Nat) t v, Tryd.f3.params[j]? = some t → args[j]? = some v → Value.okWide Tryd.prog W .any base t v := hval0
  have hW' := hW
  obtain ⟨p, q, hA0, hV, rfl, hfz, hnd⟩ := hW
  have hA : DataW.TrodAll enc Tryd.prog W 0 (fun _ => true) true Tryd.f3.params.toList args.toList ds p := hA0
  rw [Tryd.params3] at hA hval
  obtain ⟨v0, vs0, d0, ds0, p0, q0, hargs, rfl, rfl, h0, r0⟩ := trodAll_cons hA
  obtain ⟨v1, vs1, d1, ds1, p1, q1, rfl, rfl, rfl, h1, r1⟩ := trodAll_cons r0
  obtain ⟨rfl, rfl, rfl⟩ := trodAll_nil r1
  obtain rfl : args = #[v0, v1] := by cases args; simp_all
  obtain ⟨g0, g1, g2, g3, g4, rfl⟩ := vars_len5 hV
  have hL : Laid W := of_laid hL0
  clear hL0
  obtain ⟨a0, len0, cap0, rfl⟩ := okWide_slice Tryd.underlying22 (hval 0 22 v0 rfl rfl)
  have k0 := h0
  have lt0 : ∀ x ∈ p0, x.block < W.heap.size := by obtain ⟨m, hm⟩ := k0; exact DataW.trod_lt m _ _ _ hm
  obtain ⟨z0, w0⟩ : ∃ zs, IsRow .u8 W a0 len0 cap0 zs := by
    obtain ⟨fuel, hf⟩ := h0
    rcases open_ints Tryd.underlying22 Tryd.underlying5 (by kernel_rfl) hf with ⟨hcs, _⟩ | ⟨x, l, c, zs, hcs, _, hl, hm, hz, _, hcell, hwz⟩
    · simp [Value.cells] at hcs
      obtain ⟨rfl, rfl, rfl⟩ := hcs
      exact ⟨[], .inl ⟨rfl, rfl, rfl, rfl⟩⟩
    · simp [Value.cells] at hcs
      obtain ⟨rfl, rfl, rfl⟩ := hcs
      exact ⟨zs, .inr ⟨_, rfl, hl, hm, by simpa using hz, hcell, hwz⟩⟩
  obtain ⟨a1, len1, cap1, rfl⟩ := okWide_slice Tryd.underlying22 (hval 1 22 v1 rfl rfl)
  have k1 := h1
  have lt1 : ∀ x ∈ p1, x.block < W.heap.size := by obtain ⟨m, hm⟩ := k1; exact DataW.trod_lt m _ _ _ hm
  obtain ⟨z1, w1⟩ : ∃ zs, IsRow .u8 W a1 len1 cap1 zs := by
    obtain ⟨fuel, hf⟩ := h1
    rcases open_ints Tryd.underlying22 Tryd.underlying5 (by kernel_rfl) hf with ⟨hcs, _⟩ | ⟨x, l, c, zs, hcs, _, hl, hm, hz, _, hcell, hwz⟩
    · simp [Value.cells] at hcs
      obtain ⟨rfl, rfl, rfl⟩ := hcs
      exact ⟨[], .inl ⟨rfl, rfl, rfl, rfl⟩⟩
    · simp [Value.cells] at hcs
      obtain ⟨rfl, rfl, rfl⟩ := hcs
      exact ⟨zs, .inr ⟨_, rfl, hl, hm, by simpa using hz, hcell, hwz⟩⟩
  clear hA0 hval0
  refine (walk a0 len0 cap0 z0 a1 len1 cap1 z1 W w0 w1 hL).mono fun e W' ⟨he, bel⟩ => ?_
  subst he
  exact ⟨_, rfl, _, _, _, [], _, q, hW', trodAll_mk1 (shut_bool Tryd.underlying4 _), (trodAll_cons_mk (Below.trod laidOut (by kernel_rfl) (of_decide_eq_true (by kernel_rfl)) k0 bel lt0) (trodAll_cons_mk (Below.trod laidOut (by kernel_rfl) (of_decide_eq_true (by kernel_rfl)) k1 bel lt1) trodAll_mk0)), Below.trodVars laidOut bel (by kernel_rfl) hV, bel.frame _, fun h => by cases h⟩

theorem over : Rows.FnDecodeSaid :=
  OpenClaim.holds_of_wide 3 Tryd.f3 rfl rfl rfl rfl rfl rfl rfl ⟨rfl, rfl, rfl, rfl, rfl⟩ rfl rfl rfl rfl rfl (by kernel_rfl) Tryd.func3 (by kernel_rfl)
    (of_decide_eq_true (by kernel_rfl)) (by unfold Func.isWrapper; first | (rw [if_pos (by decide +kernel)]; kernel_rfl) | (rw [if_neg (by decide +kernel)]; exact ⟨rfl, rfl⟩))
    (fun os started H enc _ => lifted os started H enc)

theorem plain (f : FuncId) (fn : Func) (hf : Tryd.pinned.checked.prog.funcNamed "loop.example/g00654/laws.FnDecode" = some f) (hfn : Tryd.pinned.checked.prog.funcs[f]? = some fn) :
    true = Tryd.pinned.checked.prog.looks [] ∧ ∀ (j : Nat) t, fn.params[j]? = some t → Tryd.pinned.checked.prog.wantsStandIn t = false := by
  obtain rfl : f = 3 := Option.some.inj ((show Tryd.prog.funcNamed "loop.example/g00654/laws.FnDecode" = some 3 by kernel_rfl).symm.trans hf) |>.symm
  obtain rfl : fn = Tryd.f3 := (Option.some.inj (Tryd.func3.symm.trans hfn)).symm
  refine ⟨by kernel_rfl, fun j t ht => ?_⟩
  rw [Tryd.params3] at ht
  have hm : t ∈ [22] := by
    have := Array.mem_of_getElem? ht
    simp at this ⊢
    first | omega | exact this | exact this.symm | (rcases this with h | h <;> simp [h]) | (rcases this with h | h | h <;> simp [h]) | (rcases this with h | h | h | h <;> simp [h])
  have hall : ([22].all fun u => !Tryd.prog.wantsStandIn u) = true := by kernel_rfl
  exact (show Tryd.prog.wantsStandIn t = false by simpa using List.all_eq_true.1 hall t hm)

theorem card : Rows.FnDecodeCardSaid :=
  Claim7.holds_tied_plain_at .later [] _ _ _ _ over (fun _ h => by cases h) (by kernel_rfl) (fun _ h => by cases h) fnDecode_row_tie rfl ⟨rfl, rfl⟩ (by kernel_rfl) rfl plain (by kernel_rfl)
end Go.Proofs.YtepanogpojolfaaDoor.fnDecode
theorem Go.Proofs.YtepanogpojolfaaDoor.decodeLaw_holds : Go.Proofs.YtepanogpojolfaaDoor.Rows.FnDecodeCardSaid := Go.Proofs.YtepanogpojolfaaDoor.fnDecode.card
