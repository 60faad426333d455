/- Bytes are read back from their digits, and digits that are too few or none are refused; the texts drawn are shorter than 40 bytes; no condition. -/
import Derived.Test.YtogdaiilhiidgaaSrcR
import Derived.Test.YtogdaiilhiidgaaHexLawP
import Derived.WalkKit
import Derived.ProofKit
import Derived.OpenShut
import Derived.ShutString
import Derived.ChangeOld
import Derived.Below
namespace Go.Proofs.Ytogdaiilhiidgaa.fnHex
open Go.RowKit Go.ChangeShapes Go.WideShapes Go.ChangeAt Go.RowKit
open Go.ChangeMaps (open_string shut_string)
set_option linter.unusedVariables false

theorem own : ownKnob Try.prog.godebug = none := by kernel_rfl
theorem laidOut : laidOutB Try.prog = true := by kernel_rfl

/-- WHAT THE WALK IS TOLD OF A SLICE OF INTEGERS THAT CAME IN: it is nil; or it leads to a row of 'cap' cells, the numbers 'zs' (the first 'len' are its elements, the rest its spare room), each fitting its kind. -/
def IsRow (k : IntKind) (w : World) (a : Option Addr) (len cap : Nat) (zs : List Int) : Prop :=
  (a = none ∧ len = 0 ∧ cap = 0 ∧ zs = []) ∨
  ∃ x, a = some x ∧ len ≤ cap ∧ cap ≤ maxLen ∧ zs.length = cap ∧ (∀ i, i < zs.length → w.cell? (x.add i) = some (.int k (zs.getD i 0))) ∧ ∀ n ∈ zs, (Lit.int k n).wf = true

theorem walk (a0 : Option Addr) (len0 cap0 : Nat) (z0 : List Int) (a1 : Option Addr) (len1 cap1 : Nat) (z1 : List Int) (w : World) (w0 : IsRow .u8 w a0 len0 cap0 z0) (w1 : IsRow .u8 w a1 len1 cap1 z1) :
    Calls Try.prog 4 #[.slice a0 len0 cap0, .slice a1 len1 cap1] w fun e w' => e = .returned (.bool true) ∧ Below w.heap.size w w' := by
  have b0 := bytes_of_row w0
  have b1 := bytes_of_row w1
  have hl0 := b0.1
  have hl1 := b1.1
  unfold maxLen at hl0 hl1
  by_cases h0 : 1048576 < len0
  · go_enter Try.func4, Try.ntmps4
    go_wp2
    go_ret
    exact ⟨rfl, Below.refl _ _⟩
  by_cases h1 : 1048576 < len1
  · go_enter Try.func4, Try.ntmps4
    go_wp2
    go_ret
    exact ⟨rfl, Below.refl _ _⟩
  clear w0 w1
  go_enter Try.func4, Try.ntmps4
  go_wp2_with fail
  refine (at_any _ _ w.heap.size 0 40 _ _ (by omega) (by omega) (by omega) (by omega) b1).mono ?_
  rintro e wa ⟨v, hv, rfl, ba⟩
  go_wp2_with fail
  refine (textOf_int len0 cap0 w.heap.size (v : Int) a0 _ (by omega) (by omega) (b0.below ba) ba.size).mono ?_
  rintro e wb ⟨l, hl, rfl, bb⟩
  have bab : Below w.heap.size w wb := ba.trans (bb.mono ba.size)
  clear ba bb b0 b1
  obtain ⟨s, hs⟩ : ∃ s : ByteArray, s = ⟨l.toArray⟩ := ⟨_, rfl⟩
  have hsz : s.size = l.length := by rw [hs]; simp [ByteArray.size]
  rw [← hs]
  clear hs
  have hs2 : s.size ≤ 40 := by omega
  clear hsz hl
  have hsM : s.size ≤ maxLen := by unfold maxLen; omega
  have hlen := hexT_len s hs2
  have hle : (hexT s).length ≤ 80 := by omega
  have hH := size_mk_list (hexT s)
  have e1 := (un_hex s hs2).1
  have e2 := (un_hex s hs2).2
  have e3 := un_hex_odd s hs2
  have e4 := un_hex_bad s hs2
  have ad1 := add_any ⟨(hexT s).toArray⟩ { data := #[48] } (by rw [hH]; show (hexT s).length + 1 ≤ _; omega)
  have ad2 := add_any ⟨(hexT s).toArray⟩ { data := #[48, 71] } (by rw [hH]; show (hexT s).length + 2 ≤ _; omega)
  have hM0 : (ByteArray.mk (hexT s).toArray).size ≤ maxLen := by unfold maxLen; omega
  have hM1 : (ByteArray.mk (hexT s).toArray ++ { data := #[48] }).size ≤ maxLen := by
    rw [ByteArray.size_append, hH]; unfold maxLen; show (hexT s).length + 1 ≤ _; omega
  have hM2 : (ByteArray.mk (hexT s).toArray ++ { data := #[48, 71] }).size ≤ maxLen := by
    rw [ByteArray.size_append, hH]; unfold maxLen; show (hexT s).length + 2 ≤ _; omega
  clear hH
  have HL : Hid ((hexT s).length = 2 * s.size) := hlen
  have hlb : (((hexT s).length : Int) == 2 * (s.size : Int)) = true := by rw [beq_iff_eq]; omega
  clear hlen
  go_wp2_with fail
  refine (implHexT s _ hsM).mono ?_
  rintro e wc ⟨rfl, bc⟩
  go_wp2_with fail
  refine (implBytesT _ _ hM0).mono ?_
  rintro e wd ⟨rfl, bd⟩
  go_wp2_with fail
  refine (implBytesT _ _ hM1).mono ?_
  rintro e we ⟨rfl, be⟩
  go_wp2_with fail
  refine (implBytesT _ _ hM2).mono ?_
  rintro e wf ⟨rfl, bf⟩
  go_wp2_with fail
  refine (specHexT s _ hsM).mono ?_
  rintro e wg ⟨rfl, bg⟩
  have hz : Below w.heap.size w wg := by
    have h1 := bab.trans (bc.mono bab.size)
    have h2 := h1.trans (bd.mono h1.size)
    have h3 := h2.trans (be.mono h2.size)
    have h4 := h3.trans (bf.mono h3.size)
    exact h4.trans (bg.mono h4.size)
  go_wp2
  go_ret
  exact ⟨rfl, hz⟩

set_option maxRecDepth 100000 in
theorem lifted (os : Os) (started : os.Started) (H : Type) (enc : TypeId × Value → H) :
    ReturnsInHanded {} Try.checked os 4 .any (Rows.fnHexSpec.pre6 enc Try.prog Try.f4 Rows.fnHexRow.domain false) (Rows.fnHexSpec.post enc Try.prog Try.f4 false true false false) := by
  refine returnsInHanded_of_change (C := Try.checked) own started (by kernel_rfl) Try.func4
    (ChangeSpec.witness6 (enc := enc) (C := Try.checked) false ⟨#[], #[.slice none 0 0, .slice none 0 0], []⟩ 8 (by kernel_rfl) (by kernel_rfl) (by kernel_rfl) (by kernel_rfl)) ?_
  intro W base args ds gs before hval0 hW hcnd _
  have hval : ∀ (j : Nat) t v, Try.f4.params[j]? = some t → args[j]? = some v → Value.okWide Try.prog W .any base t v := hval0
  have hW' := hW
  obtain ⟨p, q, hA0, hV, rfl, hfz, hnd⟩ := hW
  have hA : DataW.TrodAll enc Try.prog W 0 (fun _ => true) true Try.f4.params.toList args.toList ds p := hA0
  rw [Try.params4] at hA hval
  obtain ⟨v0, vs0, d0, ds0, p0, q0, hargs, rfl, rfl, h0, r0⟩ := trodAll_cons hA
  obtain ⟨v1, vs1, d1, ds1, p1, q1, rfl, rfl, rfl, h1, r1⟩ := trodAll_cons r0
  obtain ⟨rfl, rfl, rfl⟩ := trodAll_nil r1
  obtain rfl : args = #[v0, v1] := by cases args; simp_all
  obtain ⟨rfl, rfl⟩ := trodVars_none hV
  obtain ⟨a0, len0, cap0, rfl⟩ := okWide_slice Try.underlying22 (hval 0 22 v0 rfl rfl)
  have k0 := h0
  have lt0 : ∀ x ∈ p0, x.block < W.heap.size := by obtain ⟨m, hm⟩ := k0; exact DataW.trod_lt m _ _ _ hm
  obtain ⟨z0, w0⟩ : ∃ zs, IsRow .u8 W a0 len0 cap0 zs := by
    obtain ⟨fuel, hf⟩ := h0
    rcases open_ints Try.underlying22 Try.underlying5 (by kernel_rfl) hf with ⟨hcs, _⟩ | ⟨x, l, c, zs, hcs, _, hl, hm, hz, _, hcell, hwz⟩
    · simp [Value.cells] at hcs
      obtain ⟨rfl, rfl, rfl⟩ := hcs
      exact ⟨[], .inl ⟨rfl, rfl, rfl, rfl⟩⟩
    · simp [Value.cells] at hcs
      obtain ⟨rfl, rfl, rfl⟩ := hcs
      exact ⟨zs, .inr ⟨_, rfl, hl, hm, by simpa using hz, hcell, hwz⟩⟩
  obtain ⟨a1, len1, cap1, rfl⟩ := okWide_slice Try.underlying22 (hval 1 22 v1 rfl rfl)
  have k1 := h1
  have lt1 : ∀ x ∈ p1, x.block < W.heap.size := by obtain ⟨m, hm⟩ := k1; exact DataW.trod_lt m _ _ _ hm
  obtain ⟨z1, w1⟩ : ∃ zs, IsRow .u8 W a1 len1 cap1 zs := by
    obtain ⟨fuel, hf⟩ := h1
    rcases open_ints Try.underlying22 Try.underlying5 (by kernel_rfl) hf with ⟨hcs, _⟩ | ⟨x, l, c, zs, hcs, _, hl, hm, hz, _, hcell, hwz⟩
    · simp [Value.cells] at hcs
      obtain ⟨rfl, rfl, rfl⟩ := hcs
      exact ⟨[], .inl ⟨rfl, rfl, rfl, rfl⟩⟩
    · simp [Value.cells] at hcs
      obtain ⟨rfl, rfl, rfl⟩ := hcs
      exact ⟨zs, .inr ⟨_, rfl, hl, hm, by simpa using hz, hcell, hwz⟩⟩
  clear hA0 hval0
  refine (walk a0 len0 cap0 z0 a1 len1 cap1 z1 W w0 w1).mono fun e W' ⟨he, bel⟩ => ?_
  subst he
  exact ⟨_, rfl, _, _, _, [], _, [], hW', trodAll_mk1 (shut_bool Try.underlying4 _), (trodAll_cons_mk (Below.trod laidOut (by kernel_rfl) (of_decide_eq_true (by kernel_rfl)) k0 bel lt0) (trodAll_cons_mk (Below.trod laidOut (by kernel_rfl) (of_decide_eq_true (by kernel_rfl)) k1 bel lt1) trodAll_mk0)), rfl, bel.frame _, fun h => by cases h⟩

theorem over : Rows.fnHexRow.holds Try.pinned (OpenSpec.ofChange Rows.fnHexSpec) :=
  OpenClaim.holds_of_wide 4 Try.f4 rfl rfl rfl rfl rfl rfl rfl ⟨rfl, rfl, rfl, rfl, rfl⟩ rfl rfl rfl rfl rfl (by kernel_rfl) Try.func4 (by kernel_rfl)
    (of_decide_eq_true (by kernel_rfl)) (by unfold Func.isWrapper; first | (rw [if_pos (by decide +kernel)]; kernel_rfl) | (rw [if_neg (by decide +kernel)]; exact ⟨rfl, rfl⟩))
    (fun os started H enc _ => lifted os started H enc)

theorem proved : Rows.FnHexSaid := over
end Go.Proofs.Ytogdaiilhiidgaa.fnHex
theorem Go.Proofs.Ytogdaiilhiidgaa.hex_holds : Go.Proofs.Ytogdaiilhiidgaa.Rows.FnHexSaid := Go.Proofs.Ytogdaiilhiidgaa.fnHex.proved
