/- Numbers are read back from their bytes, wherever these stand: each width's bytes give the lowest bits back, one byte further on tells the size; the two errors are what the program's text lays (the tie is given). -/
import Derived.Test.YtjpdjalhhokghaaDoorCards
import Derived.Test.YtjpdjalhhokghaaDoorTie
import Derived.Test.YtjpdjalhhokghaaDoorSrcR
import Derived.Test.YtjpdjalhhokghaaDoorSrcN
import Derived.Test.YtjpdjalhhokghaaDoorLtlA
import Derived.WalkKit
import Derived.ProofKit
import Derived.OpenShut
import Derived.ShutString
import Derived.ChangeOld
import Derived.Below
import Derived.LaidMore
import Derived.Stop.Joined
import Derived.SevenTiedAt
import Derived.OpenVars
namespace Go.Proofs.YtjpdjalhhokghaaDoor.fnLittle
open Go.RowKit Go.ChangeShapes Go.WideShapes Go.ChangeAt
open Go.ChangeMaps (open_string shut_string)
set_option linter.unusedVariables false

theorem own : ownKnob Tryd.prog.godebug = none := by kernel_rfl
theorem laidOut : laidOutB Tryd.prog = true := by kernel_rfl

def IsRow (k : IntKind) (w : World) (a : Option Addr) (len cap : Nat) (zs : List Int) : Prop :=
  (a = none ∧ len = 0 ∧ cap = 0 ∧ zs = []) ∨
  ∃ x, a = some x ∧ len ≤ cap ∧ cap ≤ maxLen ∧ zs.length = cap ∧ (∀ i, i < zs.length → w.cell? (x.add i) = some (.int k (zs.getD i 0))) ∧ ∀ n ∈ zs, (Lit.int k n).wf = true

theorem walk (a0 : Option Addr) (len0 cap0 : Nat) (z0 : List Int) (a1 : Option Addr) (len1 cap1 : Nat) (z1 : List Int) (w : World) (w0 : IsRow .u8 w a0 len0 cap0 z0) (w1 : IsRow .u8 w a1 len1 cap1 z1) (hL : Laid w) :
    Calls Tryd.prog 3 #[.slice a0 len0 cap0, .slice a1 len1 cap1] w fun e w' => e = .returned (.bool true) ∧ Below w.heap.size w w' := by
  have b0 := bytes_of_row w0
  have b1 := bytes_of_row w1
  have hl0 := b0.1
  have hl1 := b1.1
  unfold maxLen at hl0 hl1
  by_cases h0 : 1048576 < len0
  · clear hL
    go_enter Tryd.func3, Tryd.ntmps3
    go_wp2
    go_ret
    exact ⟨rfl, Below.refl _ _⟩
  by_cases h1 : 1048576 < len1
  · clear hL
    go_enter Tryd.func3, Tryd.ntmps3
    go_wp2
    go_ret
    exact ⟨rfl, Below.refl _ _⟩
  clear w0 w1
  go_enter Tryd.func3, Tryd.ntmps3
  go_wp2_with fail
  refine (numberOf_any len0 cap0 w.heap.size a0 _ b0 (Nat.le_refl _)).mono ?_
  rintro e wa ⟨v, rfl, ba⟩
  go_wp2_with fail
  refine (at_any len1 cap1 w.heap.size 0 9 a1 _ (by omega) (by omega) (by omega) (by omega) (b1.below ba)).mono ?_
  rintro e wb ⟨k, hk, rfl, bb⟩
  have bab : Below w.heap.size w wb := ba.trans (bb.mono ba.size)
  clear ba bb b0
  go_wp2_with fail
  refine (textOf_int len1 cap1 w.heap.size (k : Int) a1 _ (by omega) (by omega) (b1.below bab) bab.size).mono ?_
  rintro e wc ⟨l, hl, rfl, bc⟩
  have bac : Below w.heap.size w wc := bab.trans (bc.mono bab.size)
  clear bab bc b1
  obtain ⟨H, hH⟩ : ∃ s : ByteArray, s = ⟨l.toArray⟩ := ⟨_, rfl⟩
  have hsz : H.size = l.length := by rw [hH]; simp [ByteArray.size]
  rw [← hH]
  clear hH
  have hs8 : H.size ≤ 8 := by omega
  clear hsz hl hk
  go_wp2
  go_loopw [7] (fun t wr => ∃ n : Nat, (n = 1 ∨ n = 2 ∨ n = 4 ∨ n = 8 ∨ n = 16) ∧ t = .int .i64 n ∧ Below w.heap.size w wr) (fun t _ => 16 - (intOf t).toNat)
  case atStart => exact ⟨1, .inl rfl, rfl, bac⟩
  case round =>
    obtain ⟨n, hn, rfl, hbel⟩ := hrel
    clear bac
    by_cases h16 : n = 16
    · subst h16
      clear hn
      go_wp2
      go_ret
      exact ⟨rfl, hbel⟩
    · have hn4 : n = 1 ∨ n = 2 ∨ n = 4 ∨ n = 8 := by omega
      have hn8 : (n : Int) ≤ 8 := by omega
      have hw : widthOK n := by unfold widthOK; omega
      clear hn h16
      go_wp2_with fail
      refine (put_round v n H { data := #[120] } _ hn4).mono ?_
      rintro e w1 ⟨T, c, uu, q, x, R, rfl, c1⟩
      have hT := R.long
      have hc := R.wide
      have htake := R.taken
      have hsgn := R.sign
      have hb1 : Below w.heap.size w w1 := hbel.trans (c1.mono hbel.size)
      clear hbel c1
      have ad1 := add_any H T (by omega)
      have hS2 := app_size H T { data := #[120] }
      rw [x_size] at hS2
      have hS1 : (H ++ T).size = H.size + T.size := ByteArray.size_append
      have ad2 := add_any (H ++ T) { data := #[120] } (by rw [hS1, x_size]; omega)
      go_wp2_with fail
      obtain ⟨S, hS⟩ : ∃ S : ByteArray, S = H ++ T ++ { data := #[120] } := ⟨_, rfl⟩
      rw [← hS] at hS2 htake ⊢
      clear hS ad2
      have hS3 : S.size ≤ 65536 := by omega
      have hS4 : H.size + n ≤ S.size := by omega
      refine (take_ok_impl S H.size n w1 hS3 hw hS4).mono ?_
      rintro e w2 ⟨rfl, c2⟩
      have hb2 : Below w.heap.size w w2 := hb1.trans (c2.mono hb1.size)
      clear hb1 c2
      rw [htake]
      have hc8 : 8 * (n : Int) = (c : Int) := by omega
      have hc1 : 1 ≤ c := by omega
      have hc64 : c ≤ 64 := by omega
      clear hc htake hS1 hsgn hS2 hS3 hS4
      go_wp2_with fail
      refine (sign_ok_impl x c _ hc1 hc64).mono ?_
      rintro e w3 ⟨rfl, rfl⟩
      rw [R.sign]
      go_wp2_with fail
      refine (sign_ok_spec v c _ hc1 hc64).mono ?_
      rintro e w4 ⟨rfl, rfl⟩
      obtain ⟨y, hy⟩ : ∃ y, y = sgn v c := ⟨_, rfl⟩
      rw [← hy]
      clear hy
      go_wp2_with fail
      have hL4 := laid_below hL hb2
      have hS1 : (H ++ T).size = H.size + T.size := ByteArray.size_append
      have hS5 : (H ++ T).size ≤ 65536 := by omega
      have hS6 : ((H.size : Int) + 1 < 0) ∨ ((H ++ T).size : Int) < (H.size : Int) + 1 + (n : Int) := by omega
      refine (take_at_impl (H ++ T) ((H.size : Int) + 1) n _ hL4 hS5 hw hS6).mono ?_
      rintro e w5 ⟨rfl, c5⟩
      have hb5 : Below w.heap.size w w5 := hb2.trans (c5.mono hb2.size)
      clear hb2 c5 hL4 hS1 hS5 hS6 ad1 hw hc8 hc1 hc64
      have h0n : 0 < n := by omega
      have h0T : 0 < T.size := by omega
      have h0T' : (0 : Int) < (T.size : Int) := by omega
      have hfst := R.first h0T
      have hwr := R.wrap
      have hq : q < 256 := by have := R.low; omega
      have e1 : (uu : Int) % 256 = (q : Int) := by have := R.low; omega
      have e2 : (uu : Int).tmod 256 = (q : Int) := by rw [Int.tmod_eq_emod_of_nonneg (by omega)]; exact e1
      rcases R.pos with h8 | hx
      · have hx8 : ¬ ((n : Int) < 8) := by omega
        clear R h8
        set_option maxRecDepth 100000 in
        go_wp2_with fail
        all_goals
          refine ⟨⟨2 * n, by omega, by go_num, hb5⟩, ?_⟩
          simp [intOf]
          omega
      · have hx0 : ¬ (x < 0) := by omega
        clear R
        set_option maxRecDepth 100000 in
        go_wp2_with fail
        all_goals
          refine ⟨⟨2 * n, by omega, by go_num, hb5⟩, ?_⟩
          simp [intOf]
          omega

set_option maxRecDepth 100000 in
theorem lifted (os : Os) (started : os.Started) (H : Type) (enc : TypeId × Value → H) :
    ReturnsInHanded {} Tryd.checked os 3 .any (fun w args => (Rows.fnLittleSpec.pre enc Tryd.prog Tryd.f3 [] false w args ∧ laidMetH Tryd.prog laidList w) ∧ sizedMet enc Tryd.prog Tryd.f3 (OpenSpec.ofChange Rows.fnLittleSpec) false w args)
      (Rows.fnLittleSpec.post enc Tryd.prog Tryd.f3 false true false false) := by
  refine returnsInHanded_of_change_and (C := Tryd.checked) (X := fun w _ => laidMetH Tryd.prog laidList w) (fun _ _ _ hh h => h.of_heap hh) own started (by kernel_rfl) Tryd.func3
    (ChangeSpec.witness_shaped (enc := enc) (C := Tryd.checked) (os := os) (X := fun w _ => laidMetH Tryd.prog laidList w) false (World.doorLaid Tryd.prog 400 os) #[.slice none 0 0, .slice none 0 0] 8 rfl (World.shaped_of_RefB (by kernel_rfl) (by kernel_rfl)) (by kernel_rfl) (by kernel_rfl) (by kernel_rfl) (door_met os _)) ?_
  intro W base args ds gs before hval0 hW _ _ hL0 _
  have hval : ∀ (j : Nat) t v, Tryd.f3.params[j]? = some t → args[j]? = some v → Value.okWide Tryd.prog W .any base t v := hval0
  have hW' := hW
  obtain ⟨p, q, hA0, hV, rfl, hfz, hnd⟩ := hW
  have hA : DataW.TrodAll enc Tryd.prog W 0 (fun _ => true) true Tryd.f3.params.toList args.toList ds p := hA0
  rw [Tryd.params3] at hA hval
  obtain ⟨v0, vs0, d0, ds0, p0, q0, hargs, rfl, rfl, h0, r0⟩ := trodAll_cons hA
  obtain ⟨v1, vs1, d1, ds1, p1, q1, rfl, rfl, rfl, h1, r1⟩ := trodAll_cons r0
  obtain ⟨rfl, rfl, rfl⟩ := trodAll_nil r1
  obtain rfl : args = #[v0, v1] := by cases args; simp_all
  obtain ⟨g0, g1, g2, g3, g4, rfl⟩ := vars_len5 hV
  have hL : Laid W := of_laid hL0
  clear hL0
  obtain ⟨a0, len0, cap0, rfl⟩ := okWide_slice Tryd.underlying22 (hval 0 22 v0 rfl rfl)
  have k0 := h0
  have lt0 : ∀ x ∈ p0, x.block < W.heap.size := by obtain ⟨m, hm⟩ := k0; exact DataW.trod_lt m _ _ _ hm
  obtain ⟨z0, w0⟩ : ∃ zs, IsRow .u8 W a0 len0 cap0 zs := by
    obtain ⟨fuel, hf⟩ := h0
    rcases open_ints Tryd.underlying22 Tryd.underlying5 (by kernel_rfl) hf with ⟨hcs, _⟩ | ⟨x, l, c, zs, hcs, _, hl, hm, hz, _, hcell, hwz⟩
    · simp [Value.cells] at hcs
      obtain ⟨rfl, rfl, rfl⟩ := hcs
      exact ⟨[], .inl ⟨rfl, rfl, rfl, rfl⟩⟩
    · simp [Value.cells] at hcs
      obtain ⟨rfl, rfl, rfl⟩ := hcs
      exact ⟨zs, .inr ⟨_, rfl, hl, hm, by simpa using hz, hcell, hwz⟩⟩
  obtain ⟨a1, len1, cap1, rfl⟩ := okWide_slice Tryd.underlying22 (hval 1 22 v1 rfl rfl)
  have k1 := h1
  have lt1 : ∀ x ∈ p1, x.block < W.heap.size := by obtain ⟨m, hm⟩ := k1; exact DataW.trod_lt m _ _ _ hm
  obtain ⟨z1, w1⟩ : ∃ zs, IsRow .u8 W a1 len1 cap1 zs := by
    obtain ⟨fuel, hf⟩ := h1
    rcases open_ints Tryd.underlying22 Tryd.underlying5 (by kernel_rfl) hf with ⟨hcs, _⟩ | ⟨x, l, c, zs, hcs, _, hl, hm, hz, _, hcell, hwz⟩
    · simp [Value.cells] at hcs
      obtain ⟨rfl, rfl, rfl⟩ := hcs
      exact ⟨[], .inl ⟨rfl, rfl, rfl, rfl⟩⟩
    · simp [Value.cells] at hcs
      obtain ⟨rfl, rfl, rfl⟩ := hcs
      exact ⟨zs, .inr ⟨_, rfl, hl, hm, by simpa using hz, hcell, hwz⟩⟩
  clear hA0 hval0
  refine (walk a0 len0 cap0 z0 a1 len1 cap1 z1 W w0 w1 hL).mono fun e W' ⟨he, bel⟩ => ?_
  subst he
  exact ⟨_, rfl, _, _, _, [], _, q, hW', trodAll_mk1 (shut_bool Tryd.underlying4 _), (trodAll_cons_mk (Below.trod laidOut (by kernel_rfl) (of_decide_eq_true (by kernel_rfl)) k0 bel lt0) (trodAll_cons_mk (Below.trod laidOut (by kernel_rfl) (of_decide_eq_true (by kernel_rfl)) k1 bel lt1) trodAll_mk0)), Below.trodVars laidOut bel (by kernel_rfl) hV, bel.frame _, fun h => by cases h⟩

theorem over : Rows.FnLittleSaid :=
  OpenClaim.holds_of_wide 3 Tryd.f3 rfl rfl rfl rfl rfl rfl rfl ⟨rfl, rfl, rfl, rfl, rfl⟩ rfl rfl rfl rfl rfl (by kernel_rfl) Tryd.func3 (by kernel_rfl)
    (of_decide_eq_true (by kernel_rfl)) (by unfold Func.isWrapper; first | (rw [if_pos (by decide +kernel)]; kernel_rfl) | (rw [if_neg (by decide +kernel)]; exact ⟨rfl, rfl⟩))
    (fun os started H enc _ => lifted os started H enc)

theorem plain (f : FuncId) (fn : Func) (hf : Tryd.pinned.checked.prog.funcNamed "loop.example/g00654/laws.FnLittle" = some f) (hfn : Tryd.pinned.checked.prog.funcs[f]? = some fn) :
    true = Tryd.pinned.checked.prog.looks [] ∧ ∀ (j : Nat) t, fn.params[j]? = some t → Tryd.pinned.checked.prog.wantsStandIn t = false := by
  obtain rfl : f = 3 := Option.some.inj ((show Tryd.prog.funcNamed "loop.example/g00654/laws.FnLittle" = some 3 by kernel_rfl).symm.trans hf) |>.symm
  obtain rfl : fn = Tryd.f3 := (Option.some.inj (Tryd.func3.symm.trans hfn)).symm
  refine ⟨by kernel_rfl, fun j t ht => ?_⟩
  rw [Tryd.params3] at ht
  have hm : t ∈ [22] := by
    have := Array.mem_of_getElem? ht
    simp at this ⊢
    first | omega | exact this | exact this.symm | (rcases this with h | h <;> simp [h]) | (rcases this with h | h | h <;> simp [h]) | (rcases this with h | h | h | h <;> simp [h])
  have hall : ([22].all fun u => !Tryd.prog.wantsStandIn u) = true := by kernel_rfl
  exact (show Tryd.prog.wantsStandIn t = false by simpa using List.all_eq_true.1 hall t hm)

theorem card : Rows.FnLittleCardSaid :=
  Claim7.holds_tied_plain_at .later [] _ _ _ _ over (fun _ h => by cases h) (by kernel_rfl) (fun _ h => by cases h) fnLittle_row_tie rfl ⟨rfl, rfl⟩ (by kernel_rfl) rfl plain (by kernel_rfl)
end Go.Proofs.YtjpdjalhhokghaaDoor.fnLittle
theorem Go.Proofs.YtjpdjalhhokghaaDoor.little_holds : Go.Proofs.YtjpdjalhhokghaaDoor.Rows.FnLittleCardSaid := Go.Proofs.YtjpdjalhhokghaaDoor.fnLittle.card
