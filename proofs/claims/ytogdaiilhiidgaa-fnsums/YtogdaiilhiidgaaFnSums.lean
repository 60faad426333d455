/- The sum tells any one byte of a text that is another one: the step of the sum is one to one modulo 65521, so two texts that part in one byte part in the sum; no condition. -/
import Derived.Test.YtogdaiilhiidgaaSrcR
import Derived.Test.YtogdaiilhiidgaaSum
import Derived.Test.YtogdaiilhiidgaaSumP
import Derived.WalkKit
import Derived.ProofKit
import Derived.OpenShut
import Derived.ShutString
import Derived.ChangeOld
import Derived.Below
namespace Go.Proofs.Ytogdaiilhiidgaa.fnSums
open Go.RowKit Go.ChangeShapes Go.WideShapes Go.ChangeAt Go.RowKit
open Go.ChangeMaps (open_string shut_string)
set_option linter.unusedVariables false

theorem own : ownKnob Try.prog.godebug = none := by kernel_rfl
theorem laidOut : laidOutB Try.prog = true := by kernel_rfl

/-- WHAT THE WALK IS TOLD OF A SLICE OF INTEGERS THAT CAME IN: it is nil; or it leads to a row of 'cap' cells, the numbers 'zs' (the first 'len' are its elements, the rest its spare room), each fitting its kind. -/
def IsRow (k : IntKind) (w : World) (a : Option Addr) (len cap : Nat) (zs : List Int) : Prop :=
  (a = none ∧ len = 0 ∧ cap = 0 ∧ zs = []) ∨
  ∃ x, a = some x ∧ len ≤ cap ∧ cap ≤ maxLen ∧ zs.length = cap ∧ (∀ i, i < zs.length → w.cell? (x.add i) = some (.int k (zs.getD i 0))) ∧ ∀ n ∈ zs, (Lit.int k n).wf = true

theorem walk (a0 : Option Addr) (len0 cap0 : Nat) (z0 : List Int) (a1 : Option Addr) (len1 cap1 : Nat) (z1 : List Int) (w : World) (w0 : IsRow .u8 w a0 len0 cap0 z0) (w1 : IsRow .u8 w a1 len1 cap1 z1) :
    Calls Try.prog 3 #[.slice a0 len0 cap0, .slice a1 len1 cap1] w fun e w' => e = .returned (.bool true) ∧ Below w.heap.size w w' := by
  have b0 := bytes_of_row w0
  have b1 := bytes_of_row w1
  have hl0 := b0.1
  have hl1 := b1.1
  unfold maxLen at hl0 hl1
  by_cases h0 : 1048576 < len0
  · go_enter Try.func3, Try.ntmps3
    go_wp2
    go_ret
    exact ⟨rfl, Below.refl _ _⟩
  by_cases h1 : 1048576 < len1
  · go_enter Try.func3, Try.ntmps3
    go_wp2
    go_ret
    exact ⟨rfl, Below.refl _ _⟩
  clear w0 w1
  go_enter Try.func3, Try.ntmps3
  go_wp2_with fail
  refine (at_any _ _ w.heap.size 0 200 _ _ (by omega) (by omega) (by omega) (by omega) b0).mono ?_
  rintro e wa ⟨v, hv, rfl, ba⟩
  go_wp2_with fail
  refine (textOf_int len0 cap0 w.heap.size (1 + (v : Int)) a0 _ (by omega) (by omega) (b0.below ba) ba.size).mono ?_
  rintro e wb ⟨l, hl, rfl, bb⟩
  have bab : Below w.heap.size w wb := ba.trans (bb.mono ba.size)
  clear ba bb b0
  obtain ⟨s, hs⟩ : ∃ s : ByteArray, s = ⟨l.toArray⟩ := ⟨_, rfl⟩
  have hsz : s.size = l.length := by rw [hs]; simp [ByteArray.size]
  rw [← hs]
  clear hs
  have hs1 : 1 ≤ s.size := by omega
  have hs2 : s.size ≤ 200 := by omega
  clear hsz hl
  go_wp2_with fail
  refine (at_any len1 cap1 w.heap.size 0 (s.size : Int) a1 _ (by omega) (by omega) (by omega) (by omega) (b1.below bab)).mono ?_
  rintro e wc ⟨k, hk, rfl, bc⟩
  have bac : Below w.heap.size w wc := bab.trans (bc.mono bab.size)
  clear bab bc
  have hk' : k < s.size := by omega
  have hks : (k : Int) < (s.size : Int) := by omega
  have cv := conv_one
  have cvd := conv_one_drew
  have hsc := bac.size
  have hk0 : (0 : Int) ≤ (k : Int) := by omega
  have hk2 : (0 : Int) ≤ (k : Int) + 1 := by omega
  have hk3 : (k : Int) + 1 ≤ (s.size : Int) := by omega
  have ek := wrap_i64_in ((k : Int) + 1) (by omega) (by omega)
  have hk4 : (k : Int) ≤ (s.size : Int) := by omega
  go_wp2_with fail
  go_region_with (first | (go_at_call 10; refine (at_any len1 cap1 w.heap.size 1 255 a1 _ (by omega) (by omega) (by omega) (by omega) (by exact b1.below (by first | exact bac | exact bac.drew))).mono ?_; rintro e wd ⟨v2, hv2, rfl, bd⟩; obtain ⟨x, hx, ex⟩ := xor_byte s[k] v2 (by omega); have ew := wrap_u8_in (1 + (v2 : Int)) (by omega) (by omega); have ei := wrap_i64_in (1 + (v2 : Int)) (by omega) (by omega); have ad1 := add_any (s.extract 0 k) ⟨#[x]⟩ (sz_bent1 s k x hs2); have ad2 := add_any (s.extract 0 k ++ ⟨#[x]⟩) (s.extract (k + 1) s.size) (sz_bent2 s k x hs2)))
  all_goals
    have hneL := sum_bent s ⟨#[x]⟩ k hk' x rfl hx
    have hszB := sz_bent3 s k x hs2
    have hsM : s.size ≤ maxLen := by unfold maxLen; omega
    go_wp2_with fail
    generalize s.extract 0 k ++ { data := #[x] } ++ s.extract (k + 1) s.size = B at *
    have hBM : B.size ≤ maxLen := by unfold maxLen; omega
    have hneT : (sumT B != sumT s) = true := by
      rw [bne_iff_ne, sumT_of B (by omega), sumT_of s (by omega)]; exact hneL
    have hbd0 := (sumT_bd s).1
    have hbd1 := (sumT_bd s).2
    have hem := sumT_empty
    clear hneL cv cvd ad1 ad2 ex ew ei ek
    refine (implSumT s _ hsM).mono ?_
    rintro e w' ⟨rfl, rfl⟩
    go_wp2_with fail
    refine (specSumT s _ hsM).mono ?_
    rintro e w' ⟨rfl, rfl⟩
    go_wp2_with fail
    refine (implSumT B _ hBM).mono ?_
    rintro e w' ⟨rfl, rfl⟩
    go_wp2_with fail
    refine (implSumT { data := #[] } _ (Nat.zero_le _)).mono ?_
    rintro e w' ⟨rfl, rfl⟩
    go_wp2
    go_ret
    have hbz := bd.size
    have bd' : Below w.heap.size wc wd := by first | exact (Below.refl _ _).drew.trans (bd.mono bac.size) | exact bd.mono bac.size
    have hbw := bd'.size
    have fin : Below w.heap.size wc (wd.alloc (.cells #[.int .u8 (x.toNat : Int)] 5)) := bd'.alloc (by omega) _
    exact ⟨rfl, bac.trans (by first | exact fin | exact fin.drew)⟩

set_option maxRecDepth 100000 in
theorem lifted (os : Os) (started : os.Started) (H : Type) (enc : TypeId × Value → H) :
    ReturnsInHanded {} Try.checked os 3 .any (Rows.fnSumsSpec.pre6 enc Try.prog Try.f3 Rows.fnSumsRow.domain false) (Rows.fnSumsSpec.post enc Try.prog Try.f3 false true false false) := by
  refine returnsInHanded_of_change (C := Try.checked) own started (by kernel_rfl) Try.func3
    (ChangeSpec.witness6 (enc := enc) (C := Try.checked) false ⟨#[], #[.slice none 0 0, .slice none 0 0], []⟩ 8 (by kernel_rfl) (by kernel_rfl) (by kernel_rfl) (by kernel_rfl)) ?_
  intro W base args ds gs before hval0 hW hcnd _
  have hval : ∀ (j : Nat) t v, Try.f3.params[j]? = some t → args[j]? = some v → Value.okWide Try.prog W .any base t v := hval0
  have hW' := hW
  obtain ⟨p, q, hA0, hV, rfl, hfz, hnd⟩ := hW
  have hA : DataW.TrodAll enc Try.prog W 0 (fun _ => true) true Try.f3.params.toList args.toList ds p := hA0
  rw [Try.params3] at hA hval
  obtain ⟨v0, vs0, d0, ds0, p0, q0, hargs, rfl, rfl, h0, r0⟩ := trodAll_cons hA
  obtain ⟨v1, vs1, d1, ds1, p1, q1, rfl, rfl, rfl, h1, r1⟩ := trodAll_cons r0
  obtain ⟨rfl, rfl, rfl⟩ := trodAll_nil r1
  obtain rfl : args = #[v0, v1] := by cases args; simp_all
  obtain ⟨rfl, rfl⟩ := trodVars_none hV
  obtain ⟨a0, len0, cap0, rfl⟩ := okWide_slice Try.underlying22 (hval 0 22 v0 rfl rfl)
  have k0 := h0
  have lt0 : ∀ x ∈ p0, x.block < W.heap.size := by obtain ⟨m, hm⟩ := k0; exact DataW.trod_lt m _ _ _ hm
  obtain ⟨z0, w0⟩ : ∃ zs, IsRow .u8 W a0 len0 cap0 zs := by
    obtain ⟨fuel, hf⟩ := h0
    rcases open_ints Try.underlying22 Try.underlying5 (by kernel_rfl) hf with ⟨hcs, _⟩ | ⟨x, l, c, zs, hcs, _, hl, hm, hz, _, hcell, hwz⟩
    · simp [Value.cells] at hcs
      obtain ⟨rfl, rfl, rfl⟩ := hcs
      exact ⟨[], .inl ⟨rfl, rfl, rfl, rfl⟩⟩
    · simp [Value.cells] at hcs
      obtain ⟨rfl, rfl, rfl⟩ := hcs
      exact ⟨zs, .inr ⟨_, rfl, hl, hm, by simpa using hz, hcell, hwz⟩⟩
  obtain ⟨a1, len1, cap1, rfl⟩ := okWide_slice Try.underlying22 (hval 1 22 v1 rfl rfl)
  have k1 := h1
  have lt1 : ∀ x ∈ p1, x.block < W.heap.size := by obtain ⟨m, hm⟩ := k1; exact DataW.trod_lt m _ _ _ hm
  obtain ⟨z1, w1⟩ : ∃ zs, IsRow .u8 W a1 len1 cap1 zs := by
    obtain ⟨fuel, hf⟩ := h1
    rcases open_ints Try.underlying22 Try.underlying5 (by kernel_rfl) hf with ⟨hcs, _⟩ | ⟨x, l, c, zs, hcs, _, hl, hm, hz, _, hcell, hwz⟩
    · simp [Value.cells] at hcs
      obtain ⟨rfl, rfl, rfl⟩ := hcs
      exact ⟨[], .inl ⟨rfl, rfl, rfl, rfl⟩⟩
    · simp [Value.cells] at hcs
      obtain ⟨rfl, rfl, rfl⟩ := hcs
      exact ⟨zs, .inr ⟨_, rfl, hl, hm, by simpa using hz, hcell, hwz⟩⟩
  clear hA0 hval0
  refine (walk a0 len0 cap0 z0 a1 len1 cap1 z1 W w0 w1).mono fun e W' ⟨he, bel⟩ => ?_
  subst he
  exact ⟨_, rfl, _, _, _, [], _, [], hW', trodAll_mk1 (shut_bool Try.underlying4 _), (trodAll_cons_mk (Below.trod laidOut (by kernel_rfl) (of_decide_eq_true (by kernel_rfl)) k0 bel lt0) (trodAll_cons_mk (Below.trod laidOut (by kernel_rfl) (of_decide_eq_true (by kernel_rfl)) k1 bel lt1) trodAll_mk0)), rfl, bel.frame _, fun h => by cases h⟩

theorem over : Rows.fnSumsRow.holds Try.pinned (OpenSpec.ofChange Rows.fnSumsSpec) :=
  OpenClaim.holds_of_wide 3 Try.f3 rfl rfl rfl rfl rfl rfl rfl ⟨rfl, rfl, rfl, rfl, rfl⟩ rfl rfl rfl rfl rfl (by kernel_rfl) Try.func3 (by kernel_rfl)
    (of_decide_eq_true (by kernel_rfl)) (by unfold Func.isWrapper; first | (rw [if_pos (by decide +kernel)]; kernel_rfl) | (rw [if_neg (by decide +kernel)]; exact ⟨rfl, rfl⟩))
    (fun os started H enc _ => lifted os started H enc)

theorem proved : Rows.FnSumsSaid := over
end Go.Proofs.Ytogdaiilhiidgaa.fnSums
theorem Go.Proofs.Ytogdaiilhiidgaa.sums_holds : Go.Proofs.Ytogdaiilhiidgaa.Rows.FnSumsSaid := Go.Proofs.Ytogdaiilhiidgaa.fnSums.proved
