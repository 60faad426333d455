/- The lower half of a product is the product of registers, and the upper halves with signs are made of that without; no condition. -/
import Derived.Test.YtmahjgaaahkakaaSrcR
import Derived.Test.YtmahjgaaahkakaaSrcN
import Derived.Test.YtmahjgaaahkakaaWidW
import Derived.WalkKit
import Derived.ProofKit
import Derived.OpenShut
import Derived.ShutString
import Derived.ChangeOld
import Derived.Below
namespace Go.Proofs.Ytmahjgaaahkakaa.fnWide
open Go.RowKit Go.ChangeShapes Go.WideShapes Go.ChangeAt Go.RowKit
open Go.ChangeMaps (open_string shut_string)
set_option linter.unusedVariables false

theorem own : ownKnob Try.prog.godebug = none := by kernel_rfl
theorem laidOut : laidOutB Try.prog = true := by kernel_rfl

/-- WHAT THE WALK IS TOLD OF A SLICE OF INTEGERS THAT CAME IN: it is nil; or it leads to a row of 'cap' cells, the numbers 'zs' (the first 'len' are its elements, the rest its spare room), each fitting its kind. -/
def IsRow (k : IntKind) (w : World) (a : Option Addr) (len cap : Nat) (zs : List Int) : Prop :=
  (a = none ∧ len = 0 ∧ cap = 0 ∧ zs = []) ∨
  ∃ x, a = some x ∧ len ≤ cap ∧ cap ≤ maxLen ∧ zs.length = cap ∧ (∀ i, i < zs.length → w.cell? (x.add i) = some (.int k (zs.getD i 0))) ∧ ∀ n ∈ zs, (Lit.int k n).wf = true

theorem walk (a0 : Option Addr) (len0 cap0 : Nat) (z0 : List Int) (a1 : Option Addr) (len1 cap1 : Nat) (z1 : List Int) (w : World) (w0 : IsRow .u8 w a0 len0 cap0 z0) (w1 : IsRow .u8 w a1 len1 cap1 z1) :
    Calls Try.prog 3 #[.slice a0 len0 cap0, .slice a1 len1 cap1] w fun e w' => e = .returned (.bool true) ∧ Below w.heap.size w w' := by
  have b0 := bytes_of_row w0
  have b1 := bytes_of_row w1
  have hl0 := b0.1
  have hl1 := b1.1
  unfold maxLen at hl0 hl1
  by_cases h0 : 1048576 < len0
  · go_enter Try.func3, Try.ntmps3
    go_wp2
    go_ret
    exact ⟨rfl, Below.refl _ _⟩
  by_cases h1 : 1048576 < len1
  · go_enter Try.func3, Try.ntmps3
    go_wp2
    go_ret
    exact ⟨rfl, Below.refl _ _⟩
  clear w0 w1
  go_enter Try.func3, Try.ntmps3
  go_wp2_with fail
  refine (numberOf_in len0 cap0 w.heap.size a0 _ b0 (Nat.le_refl _)).mono ?_
  rintro e wa ⟨a, ha, rfl, ba⟩
  go_wp2_with fail
  refine (numberOf_in len1 cap1 w.heap.size a1 _ (b1.below ba) ba.size).mono ?_
  rintro e wb ⟨b, hb, rfl, bb⟩
  have bab : Below w.heap.size w wb := ba.trans (bb.mono ba.size)
  clear ba bb b0 b1
  go_wp2_with fail
  refine (implWide a b _).mono ?_
  rintro e w1 ⟨rfl, rfl⟩
  go_wp2_with fail
  refine (specMulW a b _).mono ?_
  rintro e w2 ⟨rfl, rfl⟩
  go_wp2_with fail
  refine (imC50 a b _ ha hb).mono ?_
  rintro e w3 ⟨rfl, c1⟩
  have bac := bab.trans (c1.mono bab.size)
  clear bab c1
  have bab := bac
  clear bac
  rw [show cm50 a b = loU a b from rfl]
  go_wp2_with fail
  refine (imC53 a b _ ha hb).mono ?_
  rintro e w3 ⟨rfl, c1⟩
  have bac := bab.trans (c1.mono bab.size)
  clear bab c1
  have bab := bac
  clear bac
  rw [show cm53 a b = upU a b from rfl]
  go_wp2_with fail
  refine (imC52 a b _ ha hb).mono ?_
  rintro e w3 ⟨rfl, c1⟩
  have bac := bab.trans (c1.mono bab.size)
  clear bab c1
  have bab := bac
  clear bac
  rw [show cm52 a b = upSU a b from rfl]
  go_wp2_with fail
  refine (imC51 a b _ ha hb).mono ?_
  rintro e w3 ⟨rfl, c1⟩
  have bac := bab.trans (c1.mono bab.size)
  clear bab c1
  have bab := bac
  clear bac
  rw [show cm51 a b = upS a b from rfl]
  have ea := wrap_u64 a
  have eb := wrap_u64 b
  have el := lo_mul a b
  by_cases c1 : a < 0
  · by_cases c2 : b < 0
    · skip
      have HV : Hid (wrap64 (upU a b + wrap64 (-b)) = upSU a b) := hlf1 a b ha c1
      have HW : Hid (wrap64 (upSU a b + wrap64 (-a)) = upS a b) := ful1 a b ha hb c2
      generalize upU a b = U at *
      generalize upSU a b = V at *
      generalize upS a b = W at *
      generalize loU a b = L at *
      generalize u64 a = x at *
      generalize u64 b = y at *
      clear ha hb
      go_wp2_with fail
      refine (plusC _ _ _).mono ?_
      rintro e w4 ⟨rfl, rfl⟩
      rw [HV.out]
      go_wp2_with fail
      refine (plusC _ _ _).mono ?_
      rintro e w4 ⟨rfl, rfl⟩
      rw [HW.out]
      set_option maxRecDepth 100000 in
      go_wp2
      go_ret
      exact ⟨rfl, bab⟩
    · skip
      have HV : Hid (wrap64 (upU a b + wrap64 (-b)) = upSU a b) := hlf1 a b ha c1
      have hw : upS a b = upSU a b := ful0 a b ha hb c2
      rw [hw]
      clear hw
      generalize upU a b = U at *
      generalize upSU a b = V at *
      generalize loU a b = L at *
      generalize u64 a = x at *
      generalize u64 b = y at *
      clear ha hb
      have c2' : 0 ≤ b := by omega
      clear c2
      go_wp2_with fail
      refine (plusC _ _ _).mono ?_
      rintro e w4 ⟨rfl, rfl⟩
      rw [HV.out]
      set_option maxRecDepth 100000 in
      go_wp2
      go_ret
      exact ⟨rfl, bab⟩
  · by_cases c2 : b < 0
    · skip
      have hv : upSU a b = upU a b := hlf0 a b ha c1
      have HW : Hid (wrap64 (upSU a b + wrap64 (-a)) = upS a b) := ful1 a b ha hb c2
      rw [hv] at HW
      rw [hv]
      clear hv
      generalize upU a b = U at *
      generalize upS a b = W at *
      generalize loU a b = L at *
      generalize u64 a = x at *
      generalize u64 b = y at *
      clear ha hb
      have c1' : 0 ≤ a := by omega
      clear c1
      go_wp2_with fail
      refine (plusC _ _ _).mono ?_
      rintro e w4 ⟨rfl, rfl⟩
      rw [HW.out]
      set_option maxRecDepth 100000 in
      go_wp2
      go_ret
      exact ⟨rfl, bab⟩
    · skip
      have hv : upSU a b = upU a b := hlf0 a b ha c1
      have hw : upS a b = upSU a b := ful0 a b ha hb c2
      rw [hw]
      clear hw
      rw [hv]
      clear hv
      generalize upU a b = U at *
      generalize loU a b = L at *
      generalize u64 a = x at *
      generalize u64 b = y at *
      clear ha hb
      have c1' : 0 ≤ a := by omega
      clear c1
      have c2' : 0 ≤ b := by omega
      clear c2
      set_option maxRecDepth 100000 in
      go_wp2
      go_ret
      exact ⟨rfl, bab⟩

set_option maxRecDepth 100000 in
theorem lifted (os : Os) (started : os.Started) (H : Type) (enc : TypeId × Value → H) :
    ReturnsInHanded {} Try.checked os 3 .any (Rows.fnWideSpec.pre6 enc Try.prog Try.f3 Rows.fnWideRow.domain false) (Rows.fnWideSpec.post enc Try.prog Try.f3 false true false false) := by
  refine returnsInHanded_of_change (C := Try.checked) own started (by kernel_rfl) Try.func3
    (ChangeSpec.witness6 (enc := enc) (C := Try.checked) false ⟨#[], #[.slice none 0 0, .slice none 0 0], []⟩ 8 (by kernel_rfl) (by kernel_rfl) (by kernel_rfl) (by kernel_rfl)) ?_
  intro W base args ds gs before hval0 hW hcnd _
  have hval : ∀ (j : Nat) t v, Try.f3.params[j]? = some t → args[j]? = some v → Value.okWide Try.prog W .any base t v := hval0
  have hW' := hW
  obtain ⟨p, q, hA0, hV, rfl, hfz, hnd⟩ := hW
  have hA : DataW.TrodAll enc Try.prog W 0 (fun _ => true) true Try.f3.params.toList args.toList ds p := hA0
  rw [Try.params3] at hA hval
  obtain ⟨v0, vs0, d0, ds0, p0, q0, hargs, rfl, rfl, h0, r0⟩ := trodAll_cons hA
  obtain ⟨v1, vs1, d1, ds1, p1, q1, rfl, rfl, rfl, h1, r1⟩ := trodAll_cons r0
  obtain ⟨rfl, rfl, rfl⟩ := trodAll_nil r1
  obtain rfl : args = #[v0, v1] := by cases args; simp_all
  obtain ⟨rfl, rfl⟩ := trodVars_none hV
  obtain ⟨a0, len0, cap0, rfl⟩ := okWide_slice Try.underlying22 (hval 0 22 v0 rfl rfl)
  have k0 := h0
  have lt0 : ∀ x ∈ p0, x.block < W.heap.size := by obtain ⟨m, hm⟩ := k0; exact DataW.trod_lt m _ _ _ hm
  obtain ⟨z0, w0⟩ : ∃ zs, IsRow .u8 W a0 len0 cap0 zs := by
    obtain ⟨fuel, hf⟩ := h0
    rcases open_ints Try.underlying22 Try.underlying5 (by kernel_rfl) hf with ⟨hcs, _⟩ | ⟨x, l, c, zs, hcs, _, hl, hm, hz, _, hcell, hwz⟩
    · simp [Value.cells] at hcs
      obtain ⟨rfl, rfl, rfl⟩ := hcs
      exact ⟨[], .inl ⟨rfl, rfl, rfl, rfl⟩⟩
    · simp [Value.cells] at hcs
      obtain ⟨rfl, rfl, rfl⟩ := hcs
      exact ⟨zs, .inr ⟨_, rfl, hl, hm, by simpa using hz, hcell, hwz⟩⟩
  obtain ⟨a1, len1, cap1, rfl⟩ := okWide_slice Try.underlying22 (hval 1 22 v1 rfl rfl)
  have k1 := h1
  have lt1 : ∀ x ∈ p1, x.block < W.heap.size := by obtain ⟨m, hm⟩ := k1; exact DataW.trod_lt m _ _ _ hm
  obtain ⟨z1, w1⟩ : ∃ zs, IsRow .u8 W a1 len1 cap1 zs := by
    obtain ⟨fuel, hf⟩ := h1
    rcases open_ints Try.underlying22 Try.underlying5 (by kernel_rfl) hf with ⟨hcs, _⟩ | ⟨x, l, c, zs, hcs, _, hl, hm, hz, _, hcell, hwz⟩
    · simp [Value.cells] at hcs
      obtain ⟨rfl, rfl, rfl⟩ := hcs
      exact ⟨[], .inl ⟨rfl, rfl, rfl, rfl⟩⟩
    · simp [Value.cells] at hcs
      obtain ⟨rfl, rfl, rfl⟩ := hcs
      exact ⟨zs, .inr ⟨_, rfl, hl, hm, by simpa using hz, hcell, hwz⟩⟩
  clear hA0 hval0
  refine (walk a0 len0 cap0 z0 a1 len1 cap1 z1 W w0 w1).mono fun e W' ⟨he, bel⟩ => ?_
  subst he
  exact ⟨_, rfl, _, _, _, [], _, [], hW', trodAll_mk1 (shut_bool Try.underlying4 _), (trodAll_cons_mk (Below.trod laidOut (by kernel_rfl) (of_decide_eq_true (by kernel_rfl)) k0 bel lt0) (trodAll_cons_mk (Below.trod laidOut (by kernel_rfl) (of_decide_eq_true (by kernel_rfl)) k1 bel lt1) trodAll_mk0)), rfl, bel.frame _, fun h => by cases h⟩

theorem over : Rows.fnWideRow.holds Try.pinned (OpenSpec.ofChange Rows.fnWideSpec) :=
  OpenClaim.holds_of_wide 3 Try.f3 rfl rfl rfl rfl rfl rfl rfl ⟨rfl, rfl, rfl, rfl, rfl⟩ rfl rfl rfl rfl rfl (by kernel_rfl) Try.func3 (by kernel_rfl)
    (of_decide_eq_true (by kernel_rfl)) (by unfold Func.isWrapper; first | (rw [if_pos (by decide +kernel)]; kernel_rfl) | (rw [if_neg (by decide +kernel)]; exact ⟨rfl, rfl⟩))
    (fun os started H enc _ => lifted os started H enc)

theorem proved : Rows.FnWideSaid := over
end Go.Proofs.Ytmahjgaaahkakaa.fnWide
theorem Go.Proofs.Ytmahjgaaahkakaa.wide_holds : Go.Proofs.Ytmahjgaaahkakaa.Rows.FnWideSaid := Go.Proofs.Ytmahjgaaahkakaa.fnWide.proved
