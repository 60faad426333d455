/- Of two branches that are one another's contrary just one goes, as the model says; without a sign numbers stand as with one, the highest bit turned; no condition. -/
import Derived.Test.YtmahjgaaahkakaaSrcR
import Derived.Test.YtmahjgaaahkakaaSrcN
import Derived.Test.YtmahjgaaahkakaaTknC
import Derived.Test.YtmahjgaaahkakaaBrnP
import Derived.WalkKit
import Derived.ProofKit
import Derived.OpenShut
import Derived.ShutString
import Derived.ChangeOld
import Derived.Below
namespace Go.Proofs.Ytmahjgaaahkakaa.fnBranches
open Go.RowKit Go.ChangeShapes Go.WideShapes Go.ChangeAt Go.RowKit
open Go.ChangeMaps (open_string shut_string)
set_option linter.unusedVariables false

theorem own : ownKnob Try.prog.godebug = none := by kernel_rfl
theorem laidOut : laidOutB Try.prog = true := by kernel_rfl

/-- WHAT THE WALK IS TOLD OF A SLICE OF INTEGERS THAT CAME IN: it is nil; or it leads to a row of 'cap' cells, the numbers 'zs' (the first 'len' are its elements, the rest its spare room), each fitting its kind. -/
def IsRow (k : IntKind) (w : World) (a : Option Addr) (len cap : Nat) (zs : List Int) : Prop :=
  (a = none ∧ len = 0 ∧ cap = 0 ∧ zs = []) ∨
  ∃ x, a = some x ∧ len ≤ cap ∧ cap ≤ maxLen ∧ zs.length = cap ∧ (∀ i, i < zs.length → w.cell? (x.add i) = some (.int k (zs.getD i 0))) ∧ ∀ n ∈ zs, (Lit.int k n).wf = true

theorem walk (a0 : Option Addr) (len0 cap0 : Nat) (z0 : List Int) (a1 : Option Addr) (len1 cap1 : Nat) (z1 : List Int) (w : World) (w0 : IsRow .u8 w a0 len0 cap0 z0) (w1 : IsRow .u8 w a1 len1 cap1 z1) :
    Calls Try.prog 6 #[.slice a0 len0 cap0, .slice a1 len1 cap1] w fun e w' => e = .returned (.bool true) ∧ Below w.heap.size w w' := by
  have b0 := bytes_of_row w0
  have b1 := bytes_of_row w1
  have hl0 := b0.1
  have hl1 := b1.1
  unfold maxLen at hl0 hl1
  by_cases h0 : 1048576 < len0
  · go_enter Try.func6, Try.ntmps6
    go_wp2
    go_ret
    exact ⟨rfl, Below.refl _ _⟩
  by_cases h1 : 1048576 < len1
  · go_enter Try.func6, Try.ntmps6
    go_wp2
    go_ret
    exact ⟨rfl, Below.refl _ _⟩
  clear w0 w1
  go_enter Try.func6, Try.ntmps6
  go_wp2_with fail
  refine (numberOf_in len0 cap0 w.heap.size a0 _ b0 (Nat.le_refl _)).mono ?_
  rintro e wa ⟨a, ha, rfl, ba⟩
  go_wp2_with fail
  refine (numberOf_in len1 cap1 w.heap.size a1 _ (b1.below ba) ba.size).mono ?_
  rintro e wb ⟨b, hb, rfl, bb⟩
  have bab : Below w.heap.size w wb := ba.trans (bb.mono ba.size)
  clear ba bb b0
  go_wp2_with fail
  refine (at_any len1 cap1 w.heap.size 0 4 a1 _ (by omega) (by omega) (by omega) (by omega) (b1.below bab)).mono ?_
  rintro e wc ⟨v, hv, rfl, bc⟩
  have bac : Below w.heap.size w wc := bab.trans (bc.mono bab.size)
  clear bab bc b1 hv
  by_cases hv0 : v = 0
  · subst hv0
    have HF : Hid (takB 7 (flipT a) (flipT a) = belB a a) := bel_flip a a ha ha
    have HA : Hid (bits .xor .i64 a (-9223372036854775808) = flipT a) := flip_eq a ha
    have HB : Hid (bits .xor .i64 a (-9223372036854775808) = flipT a) := flip_eq a ha
    clear ha hb
    go_wp2
    go_loopw [7] (fun t wr => ∃ n : Nat, (n = 5 ∨ n = 7 ∨ n = 9 ∨ n = 11) ∧ t = .int .i64 n ∧ Below w.heap.size w wr) (fun t _ => 11 - (intOf t).toNat)
    case atStart => exact ⟨5, .inl rfl, rfl, bac⟩
    case round =>
      obtain ⟨n, hn, rfl, hbel⟩ := hrel
      clear bac
      rcases hn with rfl | rfl | rfl | rfl
      · clear HF HA HB
        go_wp2_with fail
        refine (takImpl5 a a _).mono ?_
        rintro e w1 ⟨rfl, c1⟩
        have hb1 := hbel.trans (c1.mono hbel.size)
        clear hbel c1
        go_wp2_with fail
        refine (takImpl6 a a _).mono ?_
        rintro e w2 ⟨rfl, c2⟩
        have hb2 := hb1.trans (c2.mono hb1.size)
        clear hb1 c2
        rw [con5]
        go_wp2_with fail
        refine (takSpec 5 a a _ (by decide) (by decide)).mono ?_
        rintro e w3 ⟨rfl, c3⟩
        have hb3 := hb2.trans (c3.mono hb2.size)
        clear hb2 c3
        generalize takB 5 a a = r
        cases r
        all_goals
          go_wp2
          go_roundw
          case rel => exact ⟨7, by omega, rfl, hb3⟩
          case measure => simp [intOf]
      · clear HF HA HB
        go_wp2_with fail
        refine (takImpl7 a a _).mono ?_
        rintro e w1 ⟨rfl, c1⟩
        have hb1 := hbel.trans (c1.mono hbel.size)
        clear hbel c1
        go_wp2_with fail
        refine (takImpl8 a a _).mono ?_
        rintro e w2 ⟨rfl, c2⟩
        have hb2 := hb1.trans (c2.mono hb1.size)
        clear hb1 c2
        rw [con7]
        go_wp2_with fail
        refine (takSpec 7 a a _ (by decide) (by decide)).mono ?_
        rintro e w3 ⟨rfl, c3⟩
        have hb3 := hb2.trans (c3.mono hb2.size)
        clear hb2 c3
        generalize takB 7 a a = r
        cases r
        all_goals
          go_wp2
          go_roundw
          case rel => exact ⟨9, by omega, rfl, hb3⟩
          case measure => simp [intOf]
      · clear HF HA HB
        go_wp2_with fail
        refine (takImpl9 a a _).mono ?_
        rintro e w1 ⟨rfl, c1⟩
        have hb1 := hbel.trans (c1.mono hbel.size)
        clear hbel c1
        go_wp2_with fail
        refine (takImpl10 a a _).mono ?_
        rintro e w2 ⟨rfl, c2⟩
        have hb2 := hb1.trans (c2.mono hb1.size)
        clear hb1 c2
        rw [con9]
        go_wp2_with fail
        refine (takSpec 9 a a _ (by decide) (by decide)).mono ?_
        rintro e w3 ⟨rfl, c3⟩
        have hb3 := hb2.trans (c3.mono hb2.size)
        clear hb2 c3
        generalize takB 9 a a = r
        cases r
        all_goals
          go_wp2
          go_roundw
          case rel => exact ⟨11, by omega, rfl, hb3⟩
          case measure => simp [intOf]
      · go_wp2_with fail
        first | rw [HA.out, HB.out] | rw [HA.out]
        refine (takImpl7 (flipT a) (flipT a) _).mono ?_
        rintro e w1 ⟨rfl, c1⟩
        have hb1 := hbel.trans (c1.mono hbel.size)
        clear hbel c1
        rw [HF.out]
        go_wp2_with fail
        refine (implBelow a a _).mono ?_
        rintro e w2 ⟨rfl, rfl⟩
        go_wp2_with fail
        refine (specBelow a a _).mono ?_
        rintro e w3 ⟨rfl, rfl⟩
        generalize belB a a = r
        go_wp2
        go_ret
        exact ⟨rfl, hb1⟩
  · have hvz : ((v : Int) == 0) = false := beq_eq_false_iff_ne.2 (by omega)
    clear hv0
    have HF : Hid (takB 7 (flipT a) (flipT b) = belB a b) := bel_flip a b ha hb
    have HA : Hid (bits .xor .i64 a (-9223372036854775808) = flipT a) := flip_eq a ha
    have HB : Hid (bits .xor .i64 b (-9223372036854775808) = flipT b) := flip_eq b hb
    clear ha hb
    go_wp2
    go_loopw [7] (fun t wr => ∃ n : Nat, (n = 5 ∨ n = 7 ∨ n = 9 ∨ n = 11) ∧ t = .int .i64 n ∧ Below w.heap.size w wr) (fun t _ => 11 - (intOf t).toNat)
    case atStart => exact ⟨5, .inl rfl, rfl, bac⟩
    case round =>
      obtain ⟨n, hn, rfl, hbel⟩ := hrel
      clear bac
      rcases hn with rfl | rfl | rfl | rfl
      · clear HF HA HB
        go_wp2_with fail
        refine (takImpl5 a b _).mono ?_
        rintro e w1 ⟨rfl, c1⟩
        have hb1 := hbel.trans (c1.mono hbel.size)
        clear hbel c1
        go_wp2_with fail
        refine (takImpl6 a b _).mono ?_
        rintro e w2 ⟨rfl, c2⟩
        have hb2 := hb1.trans (c2.mono hb1.size)
        clear hb1 c2
        rw [con5]
        go_wp2_with fail
        refine (takSpec 5 a b _ (by decide) (by decide)).mono ?_
        rintro e w3 ⟨rfl, c3⟩
        have hb3 := hb2.trans (c3.mono hb2.size)
        clear hb2 c3
        generalize takB 5 a b = r
        cases r
        all_goals
          go_wp2
          go_roundw
          case rel => exact ⟨7, by omega, rfl, hb3⟩
          case measure => simp [intOf]
      · clear HF HA HB
        go_wp2_with fail
        refine (takImpl7 a b _).mono ?_
        rintro e w1 ⟨rfl, c1⟩
        have hb1 := hbel.trans (c1.mono hbel.size)
        clear hbel c1
        go_wp2_with fail
        refine (takImpl8 a b _).mono ?_
        rintro e w2 ⟨rfl, c2⟩
        have hb2 := hb1.trans (c2.mono hb1.size)
        clear hb1 c2
        rw [con7]
        go_wp2_with fail
        refine (takSpec 7 a b _ (by decide) (by decide)).mono ?_
        rintro e w3 ⟨rfl, c3⟩
        have hb3 := hb2.trans (c3.mono hb2.size)
        clear hb2 c3
        generalize takB 7 a b = r
        cases r
        all_goals
          go_wp2
          go_roundw
          case rel => exact ⟨9, by omega, rfl, hb3⟩
          case measure => simp [intOf]
      · clear HF HA HB
        go_wp2_with fail
        refine (takImpl9 a b _).mono ?_
        rintro e w1 ⟨rfl, c1⟩
        have hb1 := hbel.trans (c1.mono hbel.size)
        clear hbel c1
        go_wp2_with fail
        refine (takImpl10 a b _).mono ?_
        rintro e w2 ⟨rfl, c2⟩
        have hb2 := hb1.trans (c2.mono hb1.size)
        clear hb1 c2
        rw [con9]
        go_wp2_with fail
        refine (takSpec 9 a b _ (by decide) (by decide)).mono ?_
        rintro e w3 ⟨rfl, c3⟩
        have hb3 := hb2.trans (c3.mono hb2.size)
        clear hb2 c3
        generalize takB 9 a b = r
        cases r
        all_goals
          go_wp2
          go_roundw
          case rel => exact ⟨11, by omega, rfl, hb3⟩
          case measure => simp [intOf]
      · go_wp2_with fail
        first | rw [HA.out, HB.out] | rw [HA.out]
        refine (takImpl7 (flipT a) (flipT b) _).mono ?_
        rintro e w1 ⟨rfl, c1⟩
        have hb1 := hbel.trans (c1.mono hbel.size)
        clear hbel c1
        rw [HF.out]
        go_wp2_with fail
        refine (implBelow a b _).mono ?_
        rintro e w2 ⟨rfl, rfl⟩
        go_wp2_with fail
        refine (specBelow a b _).mono ?_
        rintro e w3 ⟨rfl, rfl⟩
        generalize belB a b = r
        go_wp2
        go_ret
        exact ⟨rfl, hb1⟩

set_option maxRecDepth 100000 in
theorem lifted (os : Os) (started : os.Started) (H : Type) (enc : TypeId × Value → H) :
    ReturnsInHanded {} Try.checked os 6 .any (Rows.fnBranchesSpec.pre6 enc Try.prog Try.f6 Rows.fnBranchesRow.domain false) (Rows.fnBranchesSpec.post enc Try.prog Try.f6 false true false false) := by
  refine returnsInHanded_of_change (C := Try.checked) own started (by kernel_rfl) Try.func6
    (ChangeSpec.witness6 (enc := enc) (C := Try.checked) false ⟨#[], #[.slice none 0 0, .slice none 0 0], []⟩ 8 (by kernel_rfl) (by kernel_rfl) (by kernel_rfl) (by kernel_rfl)) ?_
  intro W base args ds gs before hval0 hW hcnd _
  have hval : ∀ (j : Nat) t v, Try.f6.params[j]? = some t → args[j]? = some v → Value.okWide Try.prog W .any base t v := hval0
  have hW' := hW
  obtain ⟨p, q, hA0, hV, rfl, hfz, hnd⟩ := hW
  have hA : DataW.TrodAll enc Try.prog W 0 (fun _ => true) true Try.f6.params.toList args.toList ds p := hA0
  rw [Try.params6] at hA hval
  obtain ⟨v0, vs0, d0, ds0, p0, q0, hargs, rfl, rfl, h0, r0⟩ := trodAll_cons hA
  obtain ⟨v1, vs1, d1, ds1, p1, q1, rfl, rfl, rfl, h1, r1⟩ := trodAll_cons r0
  obtain ⟨rfl, rfl, rfl⟩ := trodAll_nil r1
  obtain rfl : args = #[v0, v1] := by cases args; simp_all
  obtain ⟨rfl, rfl⟩ := trodVars_none hV
  obtain ⟨a0, len0, cap0, rfl⟩ := okWide_slice Try.underlying22 (hval 0 22 v0 rfl rfl)
  have k0 := h0
  have lt0 : ∀ x ∈ p0, x.block < W.heap.size := by obtain ⟨m, hm⟩ := k0; exact DataW.trod_lt m _ _ _ hm
  obtain ⟨z0, w0⟩ : ∃ zs, IsRow .u8 W a0 len0 cap0 zs := by
    obtain ⟨fuel, hf⟩ := h0
    rcases open_ints Try.underlying22 Try.underlying5 (by kernel_rfl) hf with ⟨hcs, _⟩ | ⟨x, l, c, zs, hcs, _, hl, hm, hz, _, hcell, hwz⟩
    · simp [Value.cells] at hcs
      obtain ⟨rfl, rfl, rfl⟩ := hcs
      exact ⟨[], .inl ⟨rfl, rfl, rfl, rfl⟩⟩
    · simp [Value.cells] at hcs
      obtain ⟨rfl, rfl, rfl⟩ := hcs
      exact ⟨zs, .inr ⟨_, rfl, hl, hm, by simpa using hz, hcell, hwz⟩⟩
  obtain ⟨a1, len1, cap1, rfl⟩ := okWide_slice Try.underlying22 (hval 1 22 v1 rfl rfl)
  have k1 := h1
  have lt1 : ∀ x ∈ p1, x.block < W.heap.size := by obtain ⟨m, hm⟩ := k1; exact DataW.trod_lt m _ _ _ hm
  obtain ⟨z1, w1⟩ : ∃ zs, IsRow .u8 W a1 len1 cap1 zs := by
    obtain ⟨fuel, hf⟩ := h1
    rcases open_ints Try.underlying22 Try.underlying5 (by kernel_rfl) hf with ⟨hcs, _⟩ | ⟨x, l, c, zs, hcs, _, hl, hm, hz, _, hcell, hwz⟩
    · simp [Value.cells] at hcs
      obtain ⟨rfl, rfl, rfl⟩ := hcs
      exact ⟨[], .inl ⟨rfl, rfl, rfl, rfl⟩⟩
    · simp [Value.cells] at hcs
      obtain ⟨rfl, rfl, rfl⟩ := hcs
      exact ⟨zs, .inr ⟨_, rfl, hl, hm, by simpa using hz, hcell, hwz⟩⟩
  clear hA0 hval0
  refine (walk a0 len0 cap0 z0 a1 len1 cap1 z1 W w0 w1).mono fun e W' ⟨he, bel⟩ => ?_
  subst he
  exact ⟨_, rfl, _, _, _, [], _, [], hW', trodAll_mk1 (shut_bool Try.underlying4 _), (trodAll_cons_mk (Below.trod laidOut (by kernel_rfl) (of_decide_eq_true (by kernel_rfl)) k0 bel lt0) (trodAll_cons_mk (Below.trod laidOut (by kernel_rfl) (of_decide_eq_true (by kernel_rfl)) k1 bel lt1) trodAll_mk0)), rfl, bel.frame _, fun h => by cases h⟩

theorem over : Rows.fnBranchesRow.holds Try.pinned (OpenSpec.ofChange Rows.fnBranchesSpec) :=
  OpenClaim.holds_of_wide 6 Try.f6 rfl rfl rfl rfl rfl rfl rfl ⟨rfl, rfl, rfl, rfl, rfl⟩ rfl rfl rfl rfl rfl (by kernel_rfl) Try.func6 (by kernel_rfl)
    (of_decide_eq_true (by kernel_rfl)) (by unfold Func.isWrapper; first | (rw [if_pos (by decide +kernel)]; kernel_rfl) | (rw [if_neg (by decide +kernel)]; exact ⟨rfl, rfl⟩))
    (fun os started H enc _ => lifted os started H enc)

theorem proved : Rows.FnBranchesSaid := over
end Go.Proofs.Ytmahjgaaahkakaa.fnBranches
theorem Go.Proofs.Ytmahjgaaahkakaa.branches_holds : Go.Proofs.Ytmahjgaaahkakaa.Rows.FnBranchesSaid := Go.Proofs.Ytmahjgaaahkakaa.fnBranches.proved
