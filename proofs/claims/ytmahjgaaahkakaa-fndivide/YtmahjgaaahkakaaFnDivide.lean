/- Quotient times divisor and the rest are what was divided, and the rest is smaller; by 0 they are what the document says; no condition. -/
import Derived.Test.YtmahjgaaahkakaaSrcR
import Derived.Test.YtmahjgaaahkakaaSrcN
import Derived.Test.YtmahjgaaahkakaaDivW
import Derived.WalkKit
import Derived.ProofKit
import Derived.OpenShut
import Derived.ShutString
import Derived.ChangeOld
import Derived.Below
namespace Go.Proofs.Ytmahjgaaahkakaa.fnDivide
open Go.RowKit Go.ChangeShapes Go.WideShapes Go.ChangeAt Go.RowKit
open Go.ChangeMaps (open_string shut_string)
set_option linter.unusedVariables false

theorem own : ownKnob Try.prog.godebug = none := by kernel_rfl
theorem laidOut : laidOutB Try.prog = true := by kernel_rfl

/-- WHAT THE WALK IS TOLD OF A SLICE OF INTEGERS THAT CAME IN: it is nil; or it leads to a row of 'cap' cells, the numbers 'zs' (the first 'len' are its elements, the rest its spare room), each fitting its kind. -/
def IsRow (k : IntKind) (w : World) (a : Option Addr) (len cap : Nat) (zs : List Int) : Prop :=
  (a = none ∧ len = 0 ∧ cap = 0 ∧ zs = []) ∨
  ∃ x, a = some x ∧ len ≤ cap ∧ cap ≤ maxLen ∧ zs.length = cap ∧ (∀ i, i < zs.length → w.cell? (x.add i) = some (.int k (zs.getD i 0))) ∧ ∀ n ∈ zs, (Lit.int k n).wf = true

theorem walk (a0 : Option Addr) (len0 cap0 : Nat) (z0 : List Int) (a1 : Option Addr) (len1 cap1 : Nat) (z1 : List Int) (w : World) (w0 : IsRow .u8 w a0 len0 cap0 z0) (w1 : IsRow .u8 w a1 len1 cap1 z1) :
    Calls Try.prog 4 #[.slice a0 len0 cap0, .slice a1 len1 cap1] w fun e w' => e = .returned (.bool true) ∧ Below w.heap.size w w' := by
  have b0 := bytes_of_row w0
  have b1 := bytes_of_row w1
  have hl0 := b0.1
  have hl1 := b1.1
  unfold maxLen at hl0 hl1
  by_cases h0 : 1048576 < len0
  · go_enter Try.func4, Try.ntmps4
    go_wp2
    go_ret
    exact ⟨rfl, Below.refl _ _⟩
  by_cases h1 : 1048576 < len1
  · go_enter Try.func4, Try.ntmps4
    go_wp2
    go_ret
    exact ⟨rfl, Below.refl _ _⟩
  clear w0 w1
  go_enter Try.func4, Try.ntmps4
  go_wp2_with fail
  refine (numberOf_in len0 cap0 w.heap.size a0 _ b0 (Nat.le_refl _)).mono ?_
  rintro e wa ⟨a, ha, rfl, ba⟩
  go_wp2_with fail
  refine (numberOf_in len1 cap1 w.heap.size a1 _ (b1.below ba) ba.size).mono ?_
  rintro e wb ⟨b, hb, rfl, bb⟩
  have bab : Below w.heap.size w wb := ba.trans (bb.mono ba.size)
  clear ba bb b0 b1
  go_wp2_with fail
  refine (implDivide a b _).mono ?_
  rintro e w1 ⟨rfl, rfl⟩
  go_wp2_with fail
  refine (imC54 a b _ ha hb).mono ?_
  rintro e w3 ⟨rfl, c1⟩
  have bac := bab.trans (c1.mono bab.size)
  clear bab c1
  have bab := bac
  clear bac
  rw [show cm54 a b = quS a b from rfl]
  go_wp2_with fail
  refine (imC56 a b _ ha hb).mono ?_
  rintro e w3 ⟨rfl, c1⟩
  have bac := bab.trans (c1.mono bab.size)
  clear bab c1
  have bab := bac
  clear bac
  rw [show cm56 a b = reS a b from rfl]
  go_wp2_with fail
  refine (specCom 54 a b _ ha hb (by decide) (by decide)).mono ?_
  rintro e w3 ⟨rfl, rfl⟩
  rw [cmT_54, show cm54 a b = quS a b from rfl]
  go_wp2_with fail
  refine (specCom 56 a b _ ha hb (by decide) (by decide)).mono ?_
  rintro e w3 ⟨rfl, rfl⟩
  rw [cmT_56, show cm56 a b = reS a b from rfl]
  by_cases hz : b = 0
  · subst hz
    rw [qu_0, re_0 a ha, qs_0, rs_0]
    clear ha hb
    go_wp2
    go_ret
    exact ⟨rfl, bab⟩
  have hp := u64_pos b hb hz
  have HU : Hid (upU (quU a b) b = 0) := qu_hi a b hp
  have HL : Hid (wrap64 (loU (quU a b) b + reU a b) = a) := qu_lo a b ha hp
  have HR : Hid (belB (reU a b) b = true) := re_bel a b hp
  have HS := qs_lo a b ha hz
  have hsg := rs_sign a b hz
  have hbz : (b == 0) = false := beq_eq_false_iff_ne.2 hz
  have es := wrap_u64 (quS a b)
  have eb := wrap_u64 b
  generalize quU a b = Q at *
  generalize reU a b = R at *
  generalize quS a b = S at *
  generalize reS a b = T at *
  generalize u64 S = x at *
  generalize u64 b = y at *
  have HS' : Hid (wrap64 (wrap64 (IntKind.u64.wrap ((x : Int) * (y : Int))) + T) = a) := HS
  clear HS ha hb hz hp
  go_wp2_with fail
  refine (implWide Q b _).mono ?_
  rintro e w5 ⟨rfl, rfl⟩
  rw [HU.out]
  go_wp2_with fail
  refine (plusC _ _ _).mono ?_
  rintro e w5 ⟨rfl, rfl⟩
  rw [HL.out]
  go_wp2_with fail
  refine (implBelow R b _).mono ?_
  rintro e w5 ⟨rfl, rfl⟩
  rw [HR.out]
  go_wp2_with fail
  refine (plusC _ _ _).mono ?_
  rintro e w5 ⟨rfl, rfl⟩
  rw [HS'.out]
  rcases hsg with rfl | ⟨h1, h2⟩ | ⟨h1, h2⟩
  · go_wp2
    go_ret
    exact ⟨rfl, bab⟩
  · have hT : (T == 0) = false := beq_eq_false_iff_ne.2 (by omega)
    have d1 : decide (T < 0) = true := decide_eq_true h1
    have d2 : decide (a < 0) = true := decide_eq_true h2
    go_wp2
    go_ret
    exact ⟨rfl, bab⟩
  · by_cases ht0 : T = 0
    · subst ht0
      go_wp2
      go_ret
      exact ⟨rfl, bab⟩
    · have hT : (T == 0) = false := beq_eq_false_iff_ne.2 ht0
      have d1 : decide (T < 0) = false := decide_eq_false (by omega)
      have d2 : decide (a < 0) = false := decide_eq_false (by omega)
      clear ht0
      go_wp2
      go_ret
      exact ⟨rfl, bab⟩

set_option maxRecDepth 100000 in
theorem lifted (os : Os) (started : os.Started) (H : Type) (enc : TypeId × Value → H) :
    ReturnsInHanded {} Try.checked os 4 .any (Rows.fnDivideSpec.pre6 enc Try.prog Try.f4 Rows.fnDivideRow.domain false) (Rows.fnDivideSpec.post enc Try.prog Try.f4 false true false false) := by
  refine returnsInHanded_of_change (C := Try.checked) own started (by kernel_rfl) Try.func4
    (ChangeSpec.witness6 (enc := enc) (C := Try.checked) false ⟨#[], #[.slice none 0 0, .slice none 0 0], []⟩ 8 (by kernel_rfl) (by kernel_rfl) (by kernel_rfl) (by kernel_rfl)) ?_
  intro W base args ds gs before hval0 hW hcnd _
  have hval : ∀ (j : Nat) t v, Try.f4.params[j]? = some t → args[j]? = some v → Value.okWide Try.prog W .any base t v := hval0
  have hW' := hW
  obtain ⟨p, q, hA0, hV, rfl, hfz, hnd⟩ := hW
  have hA : DataW.TrodAll enc Try.prog W 0 (fun _ => true) true Try.f4.params.toList args.toList ds p := hA0
  rw [Try.params4] at hA hval
  obtain ⟨v0, vs0, d0, ds0, p0, q0, hargs, rfl, rfl, h0, r0⟩ := trodAll_cons hA
  obtain ⟨v1, vs1, d1, ds1, p1, q1, rfl, rfl, rfl, h1, r1⟩ := trodAll_cons r0
  obtain ⟨rfl, rfl, rfl⟩ := trodAll_nil r1
  obtain rfl : args = #[v0, v1] := by cases args; simp_all
  obtain ⟨rfl, rfl⟩ := trodVars_none hV
  obtain ⟨a0, len0, cap0, rfl⟩ := okWide_slice Try.underlying22 (hval 0 22 v0 rfl rfl)
  have k0 := h0
  have lt0 : ∀ x ∈ p0, x.block < W.heap.size := by obtain ⟨m, hm⟩ := k0; exact DataW.trod_lt m _ _ _ hm
  obtain ⟨z0, w0⟩ : ∃ zs, IsRow .u8 W a0 len0 cap0 zs := by
    obtain ⟨fuel, hf⟩ := h0
    rcases open_ints Try.underlying22 Try.underlying5 (by kernel_rfl) hf with ⟨hcs, _⟩ | ⟨x, l, c, zs, hcs, _, hl, hm, hz, _, hcell, hwz⟩
    · simp [Value.cells] at hcs
      obtain ⟨rfl, rfl, rfl⟩ := hcs
      exact ⟨[], .inl ⟨rfl, rfl, rfl, rfl⟩⟩
    · simp [Value.cells] at hcs
      obtain ⟨rfl, rfl, rfl⟩ := hcs
      exact ⟨zs, .inr ⟨_, rfl, hl, hm, by simpa using hz, hcell, hwz⟩⟩
  obtain ⟨a1, len1, cap1, rfl⟩ := okWide_slice Try.underlying22 (hval 1 22 v1 rfl rfl)
  have k1 := h1
  have lt1 : ∀ x ∈ p1, x.block < W.heap.size := by obtain ⟨m, hm⟩ := k1; exact DataW.trod_lt m _ _ _ hm
  obtain ⟨z1, w1⟩ : ∃ zs, IsRow .u8 W a1 len1 cap1 zs := by
    obtain ⟨fuel, hf⟩ := h1
    rcases open_ints Try.underlying22 Try.underlying5 (by kernel_rfl) hf with ⟨hcs, _⟩ | ⟨x, l, c, zs, hcs, _, hl, hm, hz, _, hcell, hwz⟩
    · simp [Value.cells] at hcs
      obtain ⟨rfl, rfl, rfl⟩ := hcs
      exact ⟨[], .inl ⟨rfl, rfl, rfl, rfl⟩⟩
    · simp [Value.cells] at hcs
      obtain ⟨rfl, rfl, rfl⟩ := hcs
      exact ⟨zs, .inr ⟨_, rfl, hl, hm, by simpa using hz, hcell, hwz⟩⟩
  clear hA0 hval0
  refine (walk a0 len0 cap0 z0 a1 len1 cap1 z1 W w0 w1).mono fun e W' ⟨he, bel⟩ => ?_
  subst he
  exact ⟨_, rfl, _, _, _, [], _, [], hW', trodAll_mk1 (shut_bool Try.underlying4 _), (trodAll_cons_mk (Below.trod laidOut (by kernel_rfl) (of_decide_eq_true (by kernel_rfl)) k0 bel lt0) (trodAll_cons_mk (Below.trod laidOut (by kernel_rfl) (of_decide_eq_true (by kernel_rfl)) k1 bel lt1) trodAll_mk0)), rfl, bel.frame _, fun h => by cases h⟩

theorem over : Rows.fnDivideRow.holds Try.pinned (OpenSpec.ofChange Rows.fnDivideSpec) :=
  OpenClaim.holds_of_wide 4 Try.f4 rfl rfl rfl rfl rfl rfl rfl ⟨rfl, rfl, rfl, rfl, rfl⟩ rfl rfl rfl rfl rfl (by kernel_rfl) Try.func4 (by kernel_rfl)
    (of_decide_eq_true (by kernel_rfl)) (by unfold Func.isWrapper; first | (rw [if_pos (by decide +kernel)]; kernel_rfl) | (rw [if_neg (by decide +kernel)]; exact ⟨rfl, rfl⟩))
    (fun os started H enc _ => lifted os started H enc)

theorem proved : Rows.FnDivideSaid := over
end Go.Proofs.Ytmahjgaaahkakaa.fnDivide
theorem Go.Proofs.Ytmahjgaaahkakaa.divide_holds : Go.Proofs.Ytmahjgaaahkakaa.Rows.FnDivideSaid := Go.Proofs.Ytmahjgaaahkakaa.fnDivide.proved
