/- The two parts of an address are the address: the program's answer is the model's, the upper part is a multiple of 4096, the lower one from -2048 to 2047, what can't be reached lies above; the names of the kinds tell the kinds; what is laid is what the program's text lays (the tie is given). -/
import Derived.Test.YtdabllnigaafmaaDoorCards
import Derived.Test.YtdabllnigaafmaaDoorTie
import Derived.Test.YtdabllnigaafmaaDoorRlsL
import Derived.Test.YtdabllnigaafmaaDoorRliP
import Derived.Test.YtdabllnigaafmaaDoorWdrP
import Derived.WalkKit
import Derived.ProofKit
import Derived.OpenShut
import Derived.ShutString
import Derived.ChangeOld
import Derived.Below
import Derived.LaidMore
import Derived.Stop.Joined
import Derived.SevenTiedAt
import Derived.OpenVars
namespace Go.Proofs.YtdabllnigaafmaaDoor.fnSplit
open Go.RowKit Go.ChangeShapes Go.WideShapes Go.ChangeAt
open Go.ChangeMaps (open_string shut_string)
set_option linter.unusedVariables false

theorem own : ownKnob Tryd.prog.godebug = none := by kernel_rfl
theorem laidOut : laidOutB Tryd.prog = true := by kernel_rfl

def IsRow (k : IntKind) (w : World) (a : Option Addr) (len cap : Nat) (zs : List Int) : Prop :=
  (a = none ∧ len = 0 ∧ cap = 0 ∧ zs = []) ∨
  ∃ x, a = some x ∧ len ≤ cap ∧ cap ≤ maxLen ∧ zs.length = cap ∧ (∀ i, i < zs.length → w.cell? (x.add i) = some (.int k (zs.getD i 0))) ∧ ∀ n ∈ zs, (Lit.int k n).wf = true

theorem walk (a0 : Option Addr) (len0 cap0 : Nat) (z0 : List Int) (a1 : Option Addr) (len1 cap1 : Nat) (z1 : List Int) (w : World) (w0 : IsRow .u8 w a0 len0 cap0 z0) (w1 : IsRow .u8 w a1 len1 cap1 z1) (hL : Rs.Laid w) :
    Calls Tryd.prog 3 #[.slice a0 len0 cap0, .slice a1 len1 cap1] w fun e w' => e = .returned (.bool true) ∧ Below w.heap.size w w' := by
  have b0 := bytes_of_row w0
  have b1 := bytes_of_row w1
  have hl0 := b0.1
  have hl1 := b1.1
  unfold maxLen at hl0 hl1
  by_cases h0 : 1048576 < len0
  · clear hL
    go_enter Tryd.func3, Tryd.ntmps3
    go_wp2
    go_ret
    exact ⟨rfl, Below.refl _ _⟩
  by_cases h1 : 1048576 < len1
  · clear hL
    go_enter Tryd.func3, Tryd.ntmps3
    go_wp2
    go_ret
    exact ⟨rfl, Below.refl _ _⟩
  clear w0 w1
  have HL : Hid (Rs.Laid w) := hL
  clear hL
  go_enter Tryd.func3, Tryd.ntmps3
  go_wp2_with fail
  refine (wordDrawn_w len0 cap0 w.heap.size a0 _ b0 (Nat.le_refl _)).mono ?_
  rintro e wa ⟨n, hn, rfl, ba⟩
  obtain ⟨v, hv⟩ : ∃ v : Int, v = (n : Int) - 2147483648 := ⟨_, rfl⟩
  have hv0 : -2147483648 ≤ v := by omega
  have hv1 : v ≤ 2147483647 := by omega
  go_wp2_with fail
  rw [← hv]
  clear hv hn
  obtain ⟨x, y, c, H⟩ := Rl.split_any v
  have HS : Hid (Rl.SplitIs v x y c) := H
  clear H
  refine (Rl.implSplit v wa (Go.Proofs.YtdabllnigaafmaaDoor.laid_below HL.out.e ba) x y c HS.out).mono ?_
  rintro e wb ⟨rfl, bb⟩
  have bab : Below w.heap.size w wb := ba.trans (bb.mono ba.size)
  clear ba bb
  go_wp2_with fail
  refine (Rl.specSplit v wb x y c HS.out).mono ?_
  rintro e wc ⟨rfl, rfl⟩
  go_wp2_with fail
  refine (at_any len1 cap1 w.heap.size 0 9 a1 _ (by omega) (by omega) (by omega) (by omega) (b1.below bab)).mono ?_
  rintro e wd ⟨k, hk, rfl, bd⟩
  have bac : Below w.heap.size w wd := bab.trans (bd.mono bab.size)
  clear bab bd b0 b1
  have hk9 : k < 9 := by omega
  clear hk
  have HN : Hid (Rl.rnT (1 + (k : Int)) = Rl.rnAt k) := by
    have := Rl.rnT_in k hk9
    rw [Int.add_comm]
    exact this
  have HT : Hid (Rl.relT (Rl.rnAt k) = k + 1) := Rs.relT_own k hk9
  go_wp2_with fail
  refine (Rn.implName _ _ (Rn.laid_below HL.out.r bac)).mono ?_
  rintro e we ⟨rfl, rfl⟩
  rw [HN.out]
  generalize hT : Rl.rnAt k = T at *
  go_wp2_with fail
  refine (Rl.specRelName _ _).mono ?_
  rintro e wf ⟨rfl, bf⟩
  have bag : Below w.heap.size w wf := bac.trans (bf.mono bac.size)
  clear bac bf
  rw [HN.out]
  have heq : (T.toList == T.toList) = true := beq_self_eq_true _
  have hla : Rn.Laid wf := Rn.laid_below HL.out.r bag
  have HB : Hid (Below w.heap.size w wf) := bag
  clear bag
  go_wp2_with fail
  refine (Rn.implOf _ _ hla).mono ?_
  rintro e wg ⟨rfl, rfl⟩
  rw [HT.out]
  clear HT HN hla heq
  have hcs : (c = 25 ∧ 2147481599 < v) ∨ (c = 0 ∧ x + y = v ∧ x % 4096 = 0 ∧ -2048 ≤ y ∧ y ≤ 2047 ∧ -5000000000 ≤ x ∧ x ≤ 5000000000) := by
    have hl := Rl.low12_bd v
    have h4 : (v - Rl.low12 v) % 4096 = 0 := by
      rw [Rl.low12_eq]
      omega
    have := HS.out
    unfold Rl.SplitIs at this
    rcases this with ⟨h, rfl, rfl, rfl⟩ | ⟨h0, h1, h, rfl, rfl, rfl⟩ | ⟨h0, h1, rfl, rfl, rfl⟩
    · omega
    · exact .inl ⟨rfl, by omega⟩
    · exact .inr ⟨rfl, by omega, h4, by omega, by omega, by omega, by omega⟩
  clear HS HL
  rcases hcs with ⟨rfl, hv⟩ | ⟨rfl, hs, hm, hy0, hy1, hx0, hx1⟩
  · go_wp2
    go_ret
    exact ⟨rfl, HB.out⟩
  · have hmt : x.tmod 4096 = 0 := Int.tmod_eq_zero_of_dvd (Int.dvd_of_emod_eq_zero hm)
    clear hm
    go_wp2
    go_ret
    exact ⟨rfl, HB.out⟩

set_option maxRecDepth 100000 in
theorem lifted (os : Os) (started : os.Started) (H : Type) (enc : TypeId × Value → H) :
    ReturnsInHanded {} Tryd.checked os 3 .any (fun w args => (Rows.fnSplitSpec.pre enc Tryd.prog Tryd.f3 [] false w args ∧ laidMetH Tryd.prog Rs.laidList w) ∧ sizedMet enc Tryd.prog Tryd.f3 (OpenSpec.ofChange Rows.fnSplitSpec) false w args)
      (Rows.fnSplitSpec.post enc Tryd.prog Tryd.f3 false true false false) := by
  refine returnsInHanded_of_change_and (C := Tryd.checked) (X := fun w _ => laidMetH Tryd.prog Rs.laidList w) (fun _ _ _ hh h => h.of_heap hh) own started (by kernel_rfl) Tryd.func3
    (ChangeSpec.witness_shaped (enc := enc) (C := Tryd.checked) (os := os) (X := fun w _ => laidMetH Tryd.prog Rs.laidList w) false (World.doorLaid Tryd.prog 400 os) #[.slice none 0 0, .slice none 0 0] 8 rfl (World.shaped_of_RefB (by kernel_rfl) (by kernel_rfl)) (by kernel_rfl) (by kernel_rfl) (by kernel_rfl) (Rs.door_met os _)) ?_
  intro W base args ds gs before hval0 hW _ _ hL0 _
  have hval : ∀ (j : Nat) t v, Tryd.f3.params[j]? = some t → args[j]? = some v → Value.okWide Tryd.prog W .any base t v := hval0
  have hW' := hW
  obtain ⟨p, q, hA0, hV, rfl, hfz, hnd⟩ := hW
  have hA : DataW.TrodAll enc Tryd.prog W 0 (fun _ => true) true Tryd.f3.params.toList args.toList ds p := hA0
  rw [Tryd.params3] at hA hval
  obtain ⟨v0, vs0, d0, ds0, p0, q0, hargs, rfl, rfl, h0, r0⟩ := trodAll_cons hA
  obtain ⟨v1, vs1, d1, ds1, p1, q1, rfl, rfl, rfl, h1, r1⟩ := trodAll_cons r0
  obtain ⟨rfl, rfl, rfl⟩ := trodAll_nil r1
  obtain rfl : args = #[v0, v1] := by cases args; simp_all
  obtain ⟨g0, g1, g2, g3, g4, g5, rfl⟩ := Rs.vars_len6 hV
  have hL : Rs.Laid W := Rs.of_laid hL0
  clear hL0
  obtain ⟨a0, len0, cap0, rfl⟩ := okWide_slice Tryd.underlying22 (hval 0 22 v0 rfl rfl)
  have k0 := h0
  have lt0 : ∀ x ∈ p0, x.block < W.heap.size := by obtain ⟨m, hm⟩ := k0; exact DataW.trod_lt m _ _ _ hm
  obtain ⟨z0, w0⟩ : ∃ zs, IsRow .u8 W a0 len0 cap0 zs := by
    obtain ⟨fuel, hf⟩ := h0
    rcases open_ints Tryd.underlying22 Tryd.underlying5 (by kernel_rfl) hf with ⟨hcs, _⟩ | ⟨x, l, c, zs, hcs, _, hl, hm, hz, _, hcell, hwz⟩
    · simp [Value.cells] at hcs
      obtain ⟨rfl, rfl, rfl⟩ := hcs
      exact ⟨[], .inl ⟨rfl, rfl, rfl, rfl⟩⟩
    · simp [Value.cells] at hcs
      obtain ⟨rfl, rfl, rfl⟩ := hcs
      exact ⟨zs, .inr ⟨_, rfl, hl, hm, by simpa using hz, hcell, hwz⟩⟩
  obtain ⟨a1, len1, cap1, rfl⟩ := okWide_slice Tryd.underlying22 (hval 1 22 v1 rfl rfl)
  have k1 := h1
  have lt1 : ∀ x ∈ p1, x.block < W.heap.size := by obtain ⟨m, hm⟩ := k1; exact DataW.trod_lt m _ _ _ hm
  obtain ⟨z1, w1⟩ : ∃ zs, IsRow .u8 W a1 len1 cap1 zs := by
    obtain ⟨fuel, hf⟩ := h1
    rcases open_ints Tryd.underlying22 Tryd.underlying5 (by kernel_rfl) hf with ⟨hcs, _⟩ | ⟨x, l, c, zs, hcs, _, hl, hm, hz, _, hcell, hwz⟩
    · simp [Value.cells] at hcs
      obtain ⟨rfl, rfl, rfl⟩ := hcs
      exact ⟨[], .inl ⟨rfl, rfl, rfl, rfl⟩⟩
    · simp [Value.cells] at hcs
      obtain ⟨rfl, rfl, rfl⟩ := hcs
      exact ⟨zs, .inr ⟨_, rfl, hl, hm, by simpa using hz, hcell, hwz⟩⟩
  clear hA0 hval0
  refine (walk a0 len0 cap0 z0 a1 len1 cap1 z1 W w0 w1 hL).mono fun e W' ⟨he, bel⟩ => ?_
  subst he
  exact ⟨_, rfl, _, _, _, [], _, q, hW', trodAll_mk1 (shut_bool Tryd.underlying4 _), (trodAll_cons_mk (Below.trod laidOut (by kernel_rfl) (of_decide_eq_true (by kernel_rfl)) k0 bel lt0) (trodAll_cons_mk (Below.trod laidOut (by kernel_rfl) (of_decide_eq_true (by kernel_rfl)) k1 bel lt1) trodAll_mk0)), Below.trodVars laidOut bel (by kernel_rfl) hV, bel.frame _, fun h => by cases h⟩

theorem over : Rows.FnSplitSaid :=
  OpenClaim.holds_of_wide 3 Tryd.f3 rfl rfl rfl rfl rfl rfl rfl ⟨rfl, rfl, rfl, rfl, rfl⟩ rfl rfl rfl rfl rfl (by kernel_rfl) Tryd.func3 (by kernel_rfl)
    (of_decide_eq_true (by kernel_rfl)) (by unfold Func.isWrapper; first | (rw [if_pos (by decide +kernel)]; kernel_rfl) | (rw [if_neg (by decide +kernel)]; exact ⟨rfl, rfl⟩))
    (fun os started H enc _ => lifted os started H enc)

theorem plain (f : FuncId) (fn : Func) (hf : Tryd.pinned.checked.prog.funcNamed "loop.example/g00654/laws.FnSplit" = some f) (hfn : Tryd.pinned.checked.prog.funcs[f]? = some fn) :
    true = Tryd.pinned.checked.prog.looks [] ∧ ∀ (j : Nat) t, fn.params[j]? = some t → Tryd.pinned.checked.prog.wantsStandIn t = false := by
  obtain rfl : f = 3 := Option.some.inj ((show Tryd.prog.funcNamed "loop.example/g00654/laws.FnSplit" = some 3 by kernel_rfl).symm.trans hf) |>.symm
  obtain rfl : fn = Tryd.f3 := (Option.some.inj (Tryd.func3.symm.trans hfn)).symm
  refine ⟨by kernel_rfl, fun j t ht => ?_⟩
  rw [Tryd.params3] at ht
  have hm : t ∈ [22] := by
    have := Array.mem_of_getElem? ht
    simp at this ⊢
    first | omega | exact this | exact this.symm | (rcases this with h | h <;> simp [h]) | (rcases this with h | h | h <;> simp [h]) | (rcases this with h | h | h | h <;> simp [h])
  have hall : ([22].all fun u => !Tryd.prog.wantsStandIn u) = true := by kernel_rfl
  exact (show Tryd.prog.wantsStandIn t = false by simpa using List.all_eq_true.1 hall t hm)

theorem card : Rows.FnSplitCardSaid :=
  Claim7.holds_tied_plain_at .later [] _ _ _ _ over (fun _ h => by cases h) (by kernel_rfl) (fun _ h => by cases h) fnSplit_row_tie rfl ⟨rfl, rfl⟩ (by kernel_rfl) rfl plain (by kernel_rfl)
end Go.Proofs.YtdabllnigaafmaaDoor.fnSplit
theorem Go.Proofs.YtdabllnigaafmaaDoor.split_holds : Go.Proofs.YtdabllnigaafmaaDoor.Rows.FnSplitCardSaid := Go.Proofs.YtdabllnigaafmaaDoor.fnSplit.card
