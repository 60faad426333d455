/- Operations on registers do as the model says, those of 32 bits tell the lowest 32 bits of those of 64, and a shift to the left doubles; no condition. -/
import Derived.Test.YtmahjgaaahkakaaCmlP
import Derived.WalkKit
import Derived.ProofKit
import Derived.OpenShut
import Derived.ShutString
import Derived.ChangeOld
import Derived.Below
namespace Go.Proofs.Ytmahjgaaahkakaa.fnCompute
open Go.RowKit Go.ChangeShapes Go.WideShapes Go.ChangeAt Go.RowKit
open Go.ChangeMaps (open_string shut_string)
set_option linter.unusedVariables false

theorem own : ownKnob Try.prog.godebug = none := by kernel_rfl
theorem laidOut : laidOutB Try.prog = true := by kernel_rfl

/-- WHAT THE WALK IS TOLD OF A SLICE OF INTEGERS THAT CAME IN: it is nil; or it leads to a row of 'cap' cells, the numbers 'zs' (the first 'len' are its elements, the rest its spare room), each fitting its kind. -/
def IsRow (k : IntKind) (w : World) (a : Option Addr) (len cap : Nat) (zs : List Int) : Prop :=
  (a = none ∧ len = 0 ∧ cap = 0 ∧ zs = []) ∨
  ∃ x, a = some x ∧ len ≤ cap ∧ cap ≤ maxLen ∧ zs.length = cap ∧ (∀ i, i < zs.length → w.cell? (x.add i) = some (.int k (zs.getD i 0))) ∧ ∀ n ∈ zs, (Lit.int k n).wf = true

set_option maxRecDepth 100000 in
set_option maxHeartbeats 4000000 in
theorem walk (a0 : Option Addr) (len0 cap0 : Nat) (z0 : List Int) (a1 : Option Addr) (len1 cap1 : Nat) (z1 : List Int) (w : World) (w0 : IsRow .u8 w a0 len0 cap0 z0) (w1 : IsRow .u8 w a1 len1 cap1 z1) :
    Calls Try.prog 5 #[.slice a0 len0 cap0, .slice a1 len1 cap1] w fun e w' => e = .returned (.bool true) ∧ Below w.heap.size w w' := by
  have b0 := bytes_of_row w0
  have b1 := bytes_of_row w1
  have hl0 := b0.1
  have hl1 := b1.1
  unfold maxLen at hl0 hl1
  by_cases h0 : 1048576 < len0
  · go_enter Try.func5, Try.ntmps5
    go_wp2
    go_ret
    exact ⟨rfl, Below.refl _ _⟩
  by_cases h1 : 1048576 < len1
  · go_enter Try.func5, Try.ntmps5
    go_wp2
    go_ret
    exact ⟨rfl, Below.refl _ _⟩
  clear w0 w1
  go_enter Try.func5, Try.ntmps5
  go_wp2_with fail
  refine (computeDrawn_any len0 cap0 w.heap.size a0 _ b0 (Nat.le_refl _)).mono ?_
  rintro e wa ⟨o, a, b, ho0, ho1, ha, hb, rfl, ba⟩
  go_wp2_with fail
  refine (implComIn o a b _ ha hb ho0 ho1).mono ?_
  rintro e wb ⟨rfl, bb⟩
  have bab : Below w.heap.size w wb := ba.trans (bb.mono ba.size)
  clear ba bb b0
  go_wp2_with fail
  refine (specCom o a b _ ha hb ho0 ho1).mono ?_
  rintro e w1 ⟨rfl, rfl⟩
  generalize cmT o a b = r
  clear ho0 ho1
  go_wp2_with fail
  refine (imC31 a b _ ha hb).mono ?_
  rintro e w2 ⟨rfl, c2⟩
  have b2 := bab.trans (c2.mono bab.size)
  clear bab c2
  rw [show cm31 a b = wrap64 (a + b) from rfl]
  go_wp2_with fail
  refine (imC32 (wrap64 (a + b)) b _ (in64_wrap _) hb).mono ?_
  rintro e w3 ⟨rfl, c3⟩
  have b3 := b2.trans (c3.mono b2.size)
  clear b2 c3
  rw [cl_less a b ha]
  go_wp2_with fail
  refine (imC45 a b _ ha hb).mono ?_
  rintro e w4 ⟨rfl, c4⟩
  have b4 := b3.trans (c4.mono b3.size)
  clear b3 c4
  rw [cl_word a b]
  go_wp2_with fail
  refine (imC36 a b _ ha hb).mono ?_
  rintro e w5 ⟨rfl, c5⟩
  have b5 := b4.trans (c5.mono b4.size)
  clear b4 c5
  go_wp2_with fail
  refine (imC25 (cm36 a b) b _ (in_cm36 a b) hb).mono ?_
  rintro e w6 ⟨rfl, c6⟩
  have b6 := b5.trans (c6.mono b5.size)
  clear b5 c6
  rw [cl_xor a b ha]
  generalize cm36 a b = x
  go_wp2_with fail
  refine (at_any len1 cap1 w.heap.size 0 63 a1 _ (by omega) (by omega) (by omega) (by omega) (b1.below b6)).mono ?_
  rintro e w7 ⟨n, hn, rfl, c7⟩
  have b7 := b6.trans (c7.mono b6.size)
  clear b6 c7 b1
  have hn1 : (n : Int) ≤ 62 := by omega
  go_wp2_with fail
  refine (imC28 a n _ ha (by unfold In64; omega)).mono ?_
  rintro e w8 ⟨rfl, c8⟩
  have b8 := b7.trans (c8.mono b7.size)
  clear b7 c8
  go_wp2_with fail
  refine (imC28 a ((n : Int) + 1) _ ha (by unfold In64; omega)).mono ?_
  rintro e w9 ⟨rfl, c9⟩
  have b9 := b8.trans (c9.mono b8.size)
  clear b8 c9
  rw [cl_sh a n (by omega)]
  generalize cm33 a n = p
  go_wp2_with fail
  refine (imC30 a 63 _ ha (by unfold In64; omega)).mono ?_
  rintro e w10 ⟨rfl, c10⟩
  have b10 := b9.trans (c10.mono b9.size)
  clear b9 c10
  rw [cl_sra a ha]
  clear hb hn hn1
  by_cases hz : a < 0
  · rw [if_pos hz]
    have d1 : decide (a < 0) = true := decide_eq_true hz
    have d2 : decide (0 ≤ a) = false := decide_eq_false (by omega)
    clear ha
    go_wp2_with fail
    refine (plusC _ _ _).mono ?_
    rintro e w11 ⟨rfl, rfl⟩
    go_wp2_with fail
    refine (implWord _ _).mono ?_
    rintro e w12 ⟨rfl, rfl⟩
    go_wp2_with fail
    refine (specWordOf _ _).mono ?_
    rintro e w13 ⟨rfl, rfl⟩
    go_wp2_with fail
    refine (plusC _ _ _).mono ?_
    rintro e w14 ⟨rfl, rfl⟩
    generalize sgn (wrap64 (a + b)) 32 = s1
    generalize wrap64 (a + b) = s2
    generalize wrap64 (p + p) = s3
    go_wp2
    go_ret
    exact ⟨rfl, b10⟩
  · rw [if_neg hz]
    have d1 : decide (a < 0) = false := decide_eq_false hz
    have d2 : decide (0 ≤ a) = true := decide_eq_true (by omega)
    have hz' : 0 ≤ a := by omega
    clear ha hz
    go_wp2_with fail
    refine (plusC _ _ _).mono ?_
    rintro e w11 ⟨rfl, rfl⟩
    go_wp2_with fail
    refine (implWord _ _).mono ?_
    rintro e w12 ⟨rfl, rfl⟩
    go_wp2_with fail
    refine (specWordOf _ _).mono ?_
    rintro e w13 ⟨rfl, rfl⟩
    go_wp2_with fail
    refine (plusC _ _ _).mono ?_
    rintro e w14 ⟨rfl, rfl⟩
    generalize sgn (wrap64 (a + b)) 32 = s1
    generalize wrap64 (a + b) = s2
    generalize wrap64 (p + p) = s3
    go_wp2
    go_ret
    exact ⟨rfl, b10⟩

set_option maxRecDepth 100000 in
theorem lifted (os : Os) (started : os.Started) (H : Type) (enc : TypeId × Value → H) :
    ReturnsInHanded {} Try.checked os 5 .any (Rows.fnComputeSpec.pre6 enc Try.prog Try.f5 Rows.fnComputeRow.domain false) (Rows.fnComputeSpec.post enc Try.prog Try.f5 false true false false) := by
  refine returnsInHanded_of_change (C := Try.checked) own started (by kernel_rfl) Try.func5
    (ChangeSpec.witness6 (enc := enc) (C := Try.checked) false ⟨#[], #[.slice none 0 0, .slice none 0 0], []⟩ 8 (by kernel_rfl) (by kernel_rfl) (by kernel_rfl) (by kernel_rfl)) ?_
  intro W base args ds gs before hval0 hW hcnd _
  have hval : ∀ (j : Nat) t v, Try.f5.params[j]? = some t → args[j]? = some v → Value.okWide Try.prog W .any base t v := hval0
  have hW' := hW
  obtain ⟨p, q, hA0, hV, rfl, hfz, hnd⟩ := hW
  have hA : DataW.TrodAll enc Try.prog W 0 (fun _ => true) true Try.f5.params.toList args.toList ds p := hA0
  rw [Try.params5] at hA hval
  obtain ⟨v0, vs0, d0, ds0, p0, q0, hargs, rfl, rfl, h0, r0⟩ := trodAll_cons hA
  obtain ⟨v1, vs1, d1, ds1, p1, q1, rfl, rfl, rfl, h1, r1⟩ := trodAll_cons r0
  obtain ⟨rfl, rfl, rfl⟩ := trodAll_nil r1
  obtain rfl : args = #[v0, v1] := by cases args; simp_all
  obtain ⟨rfl, rfl⟩ := trodVars_none hV
  obtain ⟨a0, len0, cap0, rfl⟩ := okWide_slice Try.underlying22 (hval 0 22 v0 rfl rfl)
  have k0 := h0
  have lt0 : ∀ x ∈ p0, x.block < W.heap.size := by obtain ⟨m, hm⟩ := k0; exact DataW.trod_lt m _ _ _ hm
  obtain ⟨z0, w0⟩ : ∃ zs, IsRow .u8 W a0 len0 cap0 zs := by
    obtain ⟨fuel, hf⟩ := h0
    rcases open_ints Try.underlying22 Try.underlying5 (by kernel_rfl) hf with ⟨hcs, _⟩ | ⟨x, l, c, zs, hcs, _, hl, hm, hz, _, hcell, hwz⟩
    · simp [Value.cells] at hcs
      obtain ⟨rfl, rfl, rfl⟩ := hcs
      exact ⟨[], .inl ⟨rfl, rfl, rfl, rfl⟩⟩
    · simp [Value.cells] at hcs
      obtain ⟨rfl, rfl, rfl⟩ := hcs
      exact ⟨zs, .inr ⟨_, rfl, hl, hm, by simpa using hz, hcell, hwz⟩⟩
  obtain ⟨a1, len1, cap1, rfl⟩ := okWide_slice Try.underlying22 (hval 1 22 v1 rfl rfl)
  have k1 := h1
  have lt1 : ∀ x ∈ p1, x.block < W.heap.size := by obtain ⟨m, hm⟩ := k1; exact DataW.trod_lt m _ _ _ hm
  obtain ⟨z1, w1⟩ : ∃ zs, IsRow .u8 W a1 len1 cap1 zs := by
    obtain ⟨fuel, hf⟩ := h1
    rcases open_ints Try.underlying22 Try.underlying5 (by kernel_rfl) hf with ⟨hcs, _⟩ | ⟨x, l, c, zs, hcs, _, hl, hm, hz, _, hcell, hwz⟩
    · simp [Value.cells] at hcs
      obtain ⟨rfl, rfl, rfl⟩ := hcs
      exact ⟨[], .inl ⟨rfl, rfl, rfl, rfl⟩⟩
    · simp [Value.cells] at hcs
      obtain ⟨rfl, rfl, rfl⟩ := hcs
      exact ⟨zs, .inr ⟨_, rfl, hl, hm, by simpa using hz, hcell, hwz⟩⟩
  clear hA0 hval0
  refine (walk a0 len0 cap0 z0 a1 len1 cap1 z1 W w0 w1).mono fun e W' ⟨he, bel⟩ => ?_
  subst he
  exact ⟨_, rfl, _, _, _, [], _, [], hW', trodAll_mk1 (shut_bool Try.underlying4 _), (trodAll_cons_mk (Below.trod laidOut (by kernel_rfl) (of_decide_eq_true (by kernel_rfl)) k0 bel lt0) (trodAll_cons_mk (Below.trod laidOut (by kernel_rfl) (of_decide_eq_true (by kernel_rfl)) k1 bel lt1) trodAll_mk0)), rfl, bel.frame _, fun h => by cases h⟩

theorem over : Rows.fnComputeRow.holds Try.pinned (OpenSpec.ofChange Rows.fnComputeSpec) :=
  OpenClaim.holds_of_wide 5 Try.f5 rfl rfl rfl rfl rfl rfl rfl ⟨rfl, rfl, rfl, rfl, rfl⟩ rfl rfl rfl rfl rfl (by kernel_rfl) Try.func5 (by kernel_rfl)
    (of_decide_eq_true (by kernel_rfl)) (by unfold Func.isWrapper; first | (rw [if_pos (by decide +kernel)]; kernel_rfl) | (rw [if_neg (by decide +kernel)]; exact ⟨rfl, rfl⟩))
    (fun os started H enc _ => lifted os started H enc)

theorem proved : Rows.FnComputeSaid := over
end Go.Proofs.Ytmahjgaaahkakaa.fnCompute
theorem Go.Proofs.Ytmahjgaaahkakaa.computeLaw_holds : Go.Proofs.Ytmahjgaaahkakaa.Rows.FnComputeSaid := Go.Proofs.Ytmahjgaaahkakaa.fnCompute.proved
