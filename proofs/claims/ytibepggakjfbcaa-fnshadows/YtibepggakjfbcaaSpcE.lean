/- Shadow variables: the model's AllocShadow, PutShadow, FreeShadow, FreeId, GetOrAlloc, GetShadow. -/
import Derived.Test.YtibepggakjfbcaaSpcD
namespace Go.Proofs.Ytibepggakjfbcaa
open Go Go.RowKit Go.Maps
set_option linter.unusedVariables false
theorem ask_long {n : Nat} {S : Nat → ShwD} {x f : Int} (h : askP n S x f) (h4 : 4096 < n) : f = 2 := by
  rcases h with h | h | h | h
  · exact h.2
  · omega
  · have := h.1.1; omega
  · have := h.1.1; omega

set_option maxRecDepth 100000 in
set_option maxHeartbeats 4000000 in
theorem alcS (p : Option Addr) (n c : Nat) (S : Nat → ShwD) (o x v : Int) (L : List ShwD) (f : Int) (w : World) (hn : n ≤ 1048576) (hc : n ≤ c) (hp : ShwsAt w p n S) (hr : ResIs n S x (alcL (lstS n S) ⟨o, x, v⟩) (alcF (lstS n S) (o, x)) L f) :
    Calls Try.prog 10 #[.slice p n c, .int .i64 o, .int .i64 x, .int .i64 v] w fun e w' => LstAns w.heap.size L f w e w' := by
  have b0 := grown1' w (.cells #[] 34)
  have ASK : Hid (∀ a, askP n S x a → Calls Try.prog 26 #[.slice p n c, .int .i64 x] w fun e w' => e = .returned (.int .i64 a) ∧ Below w.heap.size w w') := fun a ha => askS p n c S x a w hn hp ha
  rcases hr with ⟨ha, h0, rfl⟩ | ⟨hok, hx, rfl, hf⟩
  ·
    by_cases h4 : 4096 < n
    · obtain rfl := ask_long ha h4
      clear hp ASK ha
      go_enter Try.func10, Try.ntmps10
      go_wp2_with fail
      go_ret2
      exact ⟨_, _, rfl, Nat.zero_le _, .inl rfl, b0⟩
    · have hne : (f != 0) = true := by simpa using h0
      have AC := ASK.out f ha
      clear hp ASK ha
      go_enter Try.func10, Try.ntmps10
      go_wp2_with fail
      refine AC.mono ?_
      rintro e w1 ⟨rfl, hb1⟩
      have HB : Hid (Below w.heap.size w (w1.alloc (.cells #[] 34))) := hb1.alloc hb1.size _
      clear hb1
      go_wp2_with fail
      go_ret2
      exact ⟨_, _, rfl, Nat.zero_le _, .inl rfl, HB.out⟩
  · have AC := ASK.out 0 (.inr (.inr (.inr ⟨hok, hx, rfl⟩)))
    have h16 := hok.1
    subst hf
    have CORE : Hid (∀ W, Below w.heap.size w W → Calls _ _ _ W _) := fun W h => alcSp p n c S o x v W h16 hc (hp.below h)
    clear hp ASK b0
    go_enter Try.func10, Try.ntmps10
    go_wp2_with fail
    refine AC.mono ?_
    rintro e w1 ⟨rfl, hb1⟩
    have CO := CORE.out w1 hb1
    have HB1 : Hid (Below w.heap.size w w1) := hb1
    clear hb1 AC CORE hok hx
    go_wp2_with fail
    refine CO.mono ?_
    rintro e w2 ⟨q, c2, rfl, hc2, ho2, hb2⟩
    have HO : Hid (OwnR w2 w.heap.size q _ 3 _) := ho2.low HB1.out.size
    have HB : Hid (Below w.heap.size w w2) := HB1.out.trans (hb2.mono HB1.out.size)
    clear ho2 hb2
    go_wp2_with fail
    go_ret2
    exact ⟨q, c2, rfl, hc2, HO.out, HB.out⟩

end Go.Proofs.Ytibepggakjfbcaa
