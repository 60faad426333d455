/- Shadow variables: the model's AllocShadow, PutShadow, FreeShadow, FreeId, GetOrAlloc, GetShadow. -/
import Derived.Test.YtmbkkcdcccopiaaSpcD
namespace Go.Proofs.Ytmbkkcdcccopiaa
open Go Go.RowKit Go.Maps
set_option linter.unusedVariables false
theorem ask_long {n : Nat} {S : Nat → ShwD} {x f : Int} (h : askP n S x f) (h4 : 4096 < n) : f = 2 := by
  rcases h with h | h | h | h
  · exact h.2
  · omega
  · have := h.1.1; omega
  · have := h.1.1; omega

set_option maxRecDepth 100000 in
set_option maxHeartbeats 4000000 in
theorem alcS (p : Option Addr) (n c : Nat) (S : Nat → ShwD) (o x v : Int) (L : List ShwD) (f : Int) (w : World) (hn : n ≤ 1048576) (hc : n ≤ c) (hp : ShwsAt w p n S) (hr : ResIs n S x (alcL (lstS n S) ⟨o, x, v⟩) (alcF (lstS n S) (o, x)) L f) :
    Calls Try.prog 18 #[.slice p n c, .int .i64 o, .int .i64 x, .int .i64 v] w fun e w' => LstAns w.heap.size L f w e w' := by
  have b0 := grown1' w (.cells #[] 44)
  have ASK : Hid (∀ a, askP n S x a → Calls Try.prog 39 #[.slice p n c, .int .i64 x] w fun e w' => e = .returned (.int .i64 a) ∧ Below w.heap.size w w') := fun a ha => askS p n c S x a w hn hp ha
  rcases hr with ⟨ha, h0, rfl⟩ | ⟨hok, hx, rfl, hf⟩
  ·
    by_cases h4 : 4096 < n
    · obtain rfl := ask_long ha h4
      clear hp ASK ha
      go_enter Try.func18, Try.ntmps18
      go_wp2_with fail
      go_ret2
      exact ⟨_, _, rfl, Nat.zero_le _, .inl rfl, b0⟩
    · have hne : (f != 0) = true := by simpa using h0
      have AC := ASK.out f ha
      clear hp ASK ha
      go_enter Try.func18, Try.ntmps18
      go_wp2_with fail
      refine AC.mono ?_
      rintro e w1 ⟨rfl, hb1⟩
      have HB : Hid (Below w.heap.size w (w1.alloc (.cells #[] 44))) := hb1.alloc hb1.size _
      clear hb1
      go_wp2_with fail
      go_ret2
      exact ⟨_, _, rfl, Nat.zero_le _, .inl rfl, HB.out⟩
  · have AC := ASK.out 0 (.inr (.inr (.inr ⟨hok, hx, rfl⟩)))
    have h16 := hok.1
    subst hf
    have CORE : Hid (∀ W, Below w.heap.size w W → Calls _ _ _ W _) := fun W h => alcSp p n c S o x v W h16 hc (hp.below h)
    clear hp ASK b0
    go_enter Try.func18, Try.ntmps18
    go_wp2_with fail
    refine AC.mono ?_
    rintro e w1 ⟨rfl, hb1⟩
    have CO := CORE.out w1 hb1
    have HB1 : Hid (Below w.heap.size w w1) := hb1
    clear hb1 AC CORE hok hx
    go_wp2_with fail
    refine CO.mono ?_
    rintro e w2 ⟨q, c2, rfl, hc2, ho2, hb2⟩
    have HO : Hid (OwnR w2 w.heap.size q _ 3 _) := ho2.low HB1.out.size
    have HB : Hid (Below w.heap.size w w2) := HB1.out.trans (hb2.mono HB1.out.size)
    clear ho2 hb2
    go_wp2_with fail
    go_ret2
    exact ⟨q, c2, rfl, hc2, HO.out, HB.out⟩

set_option maxRecDepth 100000 in
set_option maxHeartbeats 4000000 in
theorem putS (p : Option Addr) (n c : Nat) (S : Nat → ShwD) (o x v : Int) (L : List ShwD) (f : Int) (w : World) (hn : n ≤ 1048576) (hc : n ≤ c) (hp : ShwsAt w p n S) (hr : ResIs n S x (putL (lstS n S) ⟨o, x, v⟩) (putF (lstS n S) (o, x)) L f) :
    Calls Try.prog 24 #[.slice p n c, .int .i64 o, .int .i64 x, .int .i64 v] w fun e w' => LstAns w.heap.size L f w e w' := by
  have b0 := grown1' w (.cells #[] 44)
  have ASK : Hid (∀ a, askP n S x a → Calls Try.prog 39 #[.slice p n c, .int .i64 x] w fun e w' => e = .returned (.int .i64 a) ∧ Below w.heap.size w w') := fun a ha => askS p n c S x a w hn hp ha
  rcases hr with ⟨ha, h0, rfl⟩ | ⟨hok, hx, rfl, hf⟩
  ·
    by_cases h4 : 4096 < n
    · obtain rfl := ask_long ha h4
      clear hp ASK ha
      go_enter Try.func24, Try.ntmps24
      go_wp2_with fail
      go_ret2
      exact ⟨_, _, rfl, Nat.zero_le _, .inl rfl, b0⟩
    · have hne : (f != 0) = true := by simpa using h0
      have AC := ASK.out f ha
      clear hp ASK ha
      go_enter Try.func24, Try.ntmps24
      go_wp2_with fail
      refine AC.mono ?_
      rintro e w1 ⟨rfl, hb1⟩
      have HB : Hid (Below w.heap.size w (w1.alloc (.cells #[] 44))) := hb1.alloc hb1.size _
      clear hb1
      go_wp2_with fail
      go_ret2
      exact ⟨_, _, rfl, Nat.zero_le _, .inl rfl, HB.out⟩
  · have AC := ASK.out 0 (.inr (.inr (.inr ⟨hok, hx, rfl⟩)))
    have h16 := hok.1
    subst hf
    have CORE : Hid (∀ W, Below w.heap.size w W → Calls _ _ _ W _) := fun W h => putSp p n c S o x v W hok (hp.below h)
    clear hp ASK b0
    go_enter Try.func24, Try.ntmps24
    go_wp2_with fail
    refine AC.mono ?_
    rintro e w1 ⟨rfl, hb1⟩
    have CO := CORE.out w1 hb1
    have HB1 : Hid (Below w.heap.size w w1) := hb1
    clear hb1 AC CORE hok hx
    go_wp2_with fail
    refine CO.mono ?_
    rintro e w2 ⟨q, c2, rfl, hc2, ho2, hb2⟩
    have HO : Hid (OwnR w2 w.heap.size q _ 3 _) := ho2.low HB1.out.size
    have HB : Hid (Below w.heap.size w w2) := HB1.out.trans (hb2.mono HB1.out.size)
    clear ho2 hb2
    go_wp2_with fail
    go_ret2
    exact ⟨q, c2, rfl, hc2, HO.out, HB.out⟩

set_option maxRecDepth 100000 in
set_option maxHeartbeats 4000000 in
theorem freS (p : Option Addr) (n c : Nat) (S : Nat → ShwD) (o x : Int) (L : List ShwD) (f : Int) (w : World) (hn : n ≤ 1048576) (hc : n ≤ c) (hp : ShwsAt w p n S) (hr : ResIs n S x (freL (lstS n S) (o, x)) (putF (lstS n S) (o, x)) L f) :
    Calls Try.prog 26 #[.slice p n c, .int .i64 o, .int .i64 x] w fun e w' => LstAns w.heap.size L f w e w' := by
  have b0 := grown1' w (.cells #[] 44)
  have ASK : Hid (∀ a, askP n S x a → Calls Try.prog 39 #[.slice p n c, .int .i64 x] w fun e w' => e = .returned (.int .i64 a) ∧ Below w.heap.size w w') := fun a ha => askS p n c S x a w hn hp ha
  rcases hr with ⟨ha, h0, rfl⟩ | ⟨hok, hx, rfl, hf⟩
  ·
    by_cases h4 : 4096 < n
    · obtain rfl := ask_long ha h4
      clear hp ASK ha
      go_enter Try.func26, Try.ntmps26
      go_wp2_with fail
      go_ret2
      exact ⟨_, _, rfl, Nat.zero_le _, .inl rfl, b0⟩
    · have hne : (f != 0) = true := by simpa using h0
      have AC := ASK.out f ha
      clear hp ASK ha
      go_enter Try.func26, Try.ntmps26
      go_wp2_with fail
      refine AC.mono ?_
      rintro e w1 ⟨rfl, hb1⟩
      have HB : Hid (Below w.heap.size w (w1.alloc (.cells #[] 44))) := hb1.alloc hb1.size _
      clear hb1
      go_wp2_with fail
      go_ret2
      exact ⟨_, _, rfl, Nat.zero_le _, .inl rfl, HB.out⟩
  · have AC := ASK.out 0 (.inr (.inr (.inr ⟨hok, hx, rfl⟩)))
    have h16 := hok.1
    subst hf
    have CORE : Hid (∀ W, Below w.heap.size w W → Calls _ _ _ W _) := fun W h => freSp p n c S o x W hok hc (hp.below h)
    clear hp ASK b0
    go_enter Try.func26, Try.ntmps26
    go_wp2_with fail
    refine AC.mono ?_
    rintro e w1 ⟨rfl, hb1⟩
    have CO := CORE.out w1 hb1
    have HB1 : Hid (Below w.heap.size w w1) := hb1
    clear hb1 AC CORE hok hx
    go_wp2_with fail
    refine CO.mono ?_
    rintro e w2 ⟨q, c2, rfl, hc2, ho2, hb2⟩
    have HO : Hid (OwnR w2 w.heap.size q _ 3 _) := ho2.low HB1.out.size
    have HB : Hid (Below w.heap.size w w2) := HB1.out.trans (hb2.mono HB1.out.size)
    clear ho2 hb2
    go_wp2_with fail
    go_ret2
    exact ⟨q, c2, rfl, hc2, HO.out, HB.out⟩

set_option maxRecDepth 100000 in
set_option maxHeartbeats 4000000 in
theorem gooS (p : Option Addr) (n c : Nat) (S : Nat → ShwD) (o x v : Int) (L : List ShwD) (y : Int) (f : Int) (w : World) (hn : n ≤ 1048576) (hc : n ≤ c) (hp : ShwsAt w p n S) (hr : ResIs n S x (alcL (lstS n S) ⟨o, x, v⟩) (if alcF (lstS n S) (o, x) = 24 then 0 else alcF (lstS n S) (o, x)) L f) (hy : y = getV L (o, x)) (hy0 : L = [] → y = 0) :
    Calls Try.prog 22 #[.slice p n c, .int .i64 o, .int .i64 x, .int .i64 v] w fun e w' => LstAns3 w.heap.size L y f w e w' := by
  have b0 := grown1' w (.cells #[] 44)
  have ASK : Hid (∀ a, askP n S x a → Calls Try.prog 39 #[.slice p n c, .int .i64 x] w fun e w' => e = .returned (.int .i64 a) ∧ Below w.heap.size w w') := fun a ha => askS p n c S x a w hn hp ha
  rcases hr with ⟨ha, h0, rfl⟩ | ⟨hok, hx, rfl, hf⟩
  ·
    obtain rfl : y = 0 := hy0 rfl
    by_cases h4 : 4096 < n
    · obtain rfl := ask_long ha h4
      clear hp ASK ha
      go_enter Try.func22, Try.ntmps22
      go_wp2_with fail
      go_ret3
      exact ⟨_, _, rfl, Nat.zero_le _, .inl rfl, b0⟩
    · have hne : (f != 0) = true := by simpa using h0
      have AC := ASK.out f ha
      clear hp ASK ha
      go_enter Try.func22, Try.ntmps22
      go_wp2_with fail
      refine AC.mono ?_
      rintro e w1 ⟨rfl, hb1⟩
      have HB : Hid (Below w.heap.size w (w1.alloc (.cells #[] 44))) := hb1.alloc hb1.size _
      clear hb1
      go_wp2_with fail
      go_ret3
      exact ⟨_, _, rfl, Nat.zero_le _, .inl rfl, HB.out⟩
  · have AC := ASK.out 0 (.inr (.inr (.inr ⟨hok, hx, rfl⟩)))
    have h16 := hok.1
    have CORE : Hid (∀ W, Below w.heap.size w W → Calls _ _ _ W _) := fun W h => gooSp p n c S o x v y f W hok hc (hp.below h) hy hf
    clear hf hy hy0
    clear hp ASK b0
    go_enter Try.func22, Try.ntmps22
    go_wp2_with fail
    refine AC.mono ?_
    rintro e w1 ⟨rfl, hb1⟩
    have CO := CORE.out w1 hb1
    have HB1 : Hid (Below w.heap.size w w1) := hb1
    clear hb1 AC CORE hok hx
    go_wp2_with fail
    refine CO.mono ?_
    rintro e w2 ⟨q, c2, rfl, hc2, ho2, hb2⟩
    have HO : Hid (OwnR w2 w.heap.size q _ 3 _) := ho2.low HB1.out.size
    have HB : Hid (Below w.heap.size w w2) := HB1.out.trans (hb2.mono HB1.out.size)
    clear ho2 hb2
    go_wp2_with fail
    go_ret3
    exact ⟨q, c2, rfl, hc2, HO.out, HB.out⟩

set_option maxRecDepth 100000 in
set_option maxHeartbeats 4000000 in
theorem fidS (p : Option Addr) (n c : Nat) (S : Nat → ShwD) (x : Int) (L : List ShwD) (y : Int) (f : Int) (w : World) (hn : n ≤ 1048576) (hc : n ≤ c) (hp : ShwsAt w p n S) (hr : ResIs n S x (fidL (lstS n S) x) (0) L f) (hy : y = if f = 0 then (n : Int) - L.length else 0) :
    Calls Try.prog 28 #[.slice p n c, .int .i64 x] w fun e w' => LstAns3 w.heap.size L y f w e w' := by
  have b0 := grown1' w (.cells #[] 44)
  have ASK : Hid (∀ a, askP n S x a → Calls Try.prog 39 #[.slice p n c, .int .i64 x] w fun e w' => e = .returned (.int .i64 a) ∧ Below w.heap.size w w') := fun a ha => askS p n c S x a w hn hp ha
  rcases hr with ⟨ha, h0, rfl⟩ | ⟨hok, hx, rfl, hf⟩
  ·
    obtain rfl : y = 0 := by rw [hy, if_neg h0]
    clear hy
    by_cases h4 : 4096 < n
    · obtain rfl := ask_long ha h4
      clear hp ASK ha
      go_enter Try.func28, Try.ntmps28
      go_wp2_with fail
      go_ret3
      exact ⟨_, _, rfl, Nat.zero_le _, .inl rfl, b0⟩
    · have hne : (f != 0) = true := by simpa using h0
      have AC := ASK.out f ha
      clear hp ASK ha
      go_enter Try.func28, Try.ntmps28
      go_wp2_with fail
      refine AC.mono ?_
      rintro e w1 ⟨rfl, hb1⟩
      have HB : Hid (Below w.heap.size w (w1.alloc (.cells #[] 44))) := hb1.alloc hb1.size _
      clear hb1
      go_wp2_with fail
      go_ret3
      exact ⟨_, _, rfl, Nat.zero_le _, .inl rfl, HB.out⟩
  · have AC := ASK.out 0 (.inr (.inr (.inr ⟨hok, hx, rfl⟩)))
    have h16 := hok.1
    subst hf
    have hyv : (n : Int) - (fidL (lstS n S) x).length = y := by rw [hy, if_pos rfl]
    have hle : (fidL (lstS n S) x).length ≤ n := by have := List.length_filter_le (fun d : ShwD => decide (d.ix ≠ x)) (lstS n S); rw [lstS_len] at this; exact this
    have hsub : IntKind.i64.wrap ((n : Int) - ((fidL (lstS n S) x).length : Int)) = (n : Int) - ((fidL (lstS n S) x).length : Int) := by rw [IntKind.wrap_i64]; omega
    have CORE : Hid (∀ W, Below w.heap.size w W → Calls _ _ _ W _) := fun W h => fidSp p n c S x W hn (hp.below h)
    clear hy
    clear hp ASK b0
    go_enter Try.func28, Try.ntmps28
    go_wp2_with fail
    refine AC.mono ?_
    rintro e w1 ⟨rfl, hb1⟩
    have CO := CORE.out w1 hb1
    have HB1 : Hid (Below w.heap.size w w1) := hb1
    clear hb1 AC CORE hok hx
    go_wp2_with fail
    refine CO.mono ?_
    rintro e w2 ⟨q, c2, rfl, hc2, ho2, hb2⟩
    have HO : Hid (OwnR w2 w.heap.size q _ 3 _) := ho2.low HB1.out.size
    have HB : Hid (Below w.heap.size w w2) := HB1.out.trans (hb2.mono HB1.out.size)
    clear ho2 hb2
    go_wp2_with fail
    go_ret3
    exact ⟨q, c2, rfl, hc2, HO.out, HB.out⟩

set_option maxRecDepth 100000 in
set_option maxHeartbeats 4000000 in
theorem getSpec (p : Option Addr) (n c : Nat) (S : Nat → ShwD) (o x v f : Int) (w : World) (hn : n ≤ 1048576) (hp : ShwsAt w p n S) (hr : GetIs n S o x v f) :
    Calls Try.prog 16 #[.slice p n c, .int .i64 o, .int .i64 x] w fun e w' => e = .returned (.tuple #[.int .i64 v, .int .i64 f]) ∧ Below w.heap.size w w' := by
  have ASK : Hid (∀ a, askP n S x a → Calls Try.prog 39 #[.slice p n c, .int .i64 x] w fun e w' => e = .returned (.int .i64 a) ∧ Below w.heap.size w w') := fun a ha => askS p n c S x a w hn hp ha
  rcases hr with ⟨ha, h0, rfl⟩ | ⟨hok, hx, hv, hf⟩
  · by_cases h4 : 4096 < n
    · obtain rfl := ask_long ha h4
      clear hp ASK ha
      go_enter Try.func16, Try.ntmps16
      go_wp2_with fail
      go_ret2
      exact ⟨rfl, Below.refl _ _⟩
    · have hne : (f != 0) = true := by simpa using h0
      have AC := ASK.out f ha
      clear hp ASK ha
      go_enter Try.func16, Try.ntmps16
      go_wp2_with fail
      refine AC.mono ?_
      rintro e w1 ⟨rfl, hb1⟩
      go_wp2_with fail
      go_ret2
      exact ⟨rfl, hb1⟩
  · have AC := ASK.out 0 (.inr (.inr (.inr ⟨hok, hx, rfl⟩)))
    have h16 := hok.1
    obtain ⟨r, hr⟩ := fstK_ex n S (o, x)
    have FND : Hid (∀ W, Below w.heap.size w W → Calls Try.prog 40 #[.slice p n c, .int .i64 o, .int .i64 x] W fun e w' => e = .returned (.int .i64 r) ∧ Below W.heap.size W w') := fun W h => fndS p n c S o x W hn (hp.below h) r hr
    cases hh : hasL (lstS n S) (o, x) with
    | false =>
      obtain rfl : r = -1 := (fst_none hr).2 hh
      have e1 : v = 0 ∧ f = 5 := ⟨by rw [hv]; exact getV_none hh, by rw [hf]; unfold putF; rw [hh]; rfl⟩
      obtain ⟨rfl, rfl⟩ := e1
      clear hp ASK hr hh hv hf hok hx
      go_enter Try.func16, Try.ntmps16
      go_wp2_with fail
      refine AC.mono ?_
      rintro e w1 ⟨rfl, hb1⟩
      go_wp2_with fail
      refine (FND.out w1 hb1).mono ?_
      rintro e w2 ⟨rfl, hb2⟩
      go_wp2_with fail
      go_ret2
      exact ⟨rfl, hb1.trans (hb2.mono hb1.size)⟩
    | true =>
      obtain ⟨k, hk, rfl, hkk, _⟩ := fst_some hr hh
      have e1 : v = (S k).va ∧ f = 0 := ⟨by rw [hv, ← hkk]; exact getV_at hok hk, by rw [hf]; unfold putF; rw [hh]; rfl⟩
      obtain ⟨hv2, rfl⟩ := e1
      rcases hp with h0 | ⟨pb, po, rfl, hpl, hpv⟩
      · omega
      obtain ⟨_, _, x2⟩ := hpv.shw hk
      rw [← hv2] at x2
      have hs1 : (0 : Int) ≤ (k : Int) := by omega
      have hs2 : (k : Int) < (n : Int) := by omega
      clear ASK hr hh hv hf hok hx hv2 hkk hpv
      go_enter Try.func16, Try.ntmps16
      go_wp2_with fail
      refine AC.mono ?_
      rintro e w1 ⟨rfl, hb1⟩
      go_wp2_with fail
      refine (FND.out w1 hb1).mono ?_
      rintro e w2 ⟨rfl, hb2⟩
      have B2 := hb1.trans (hb2.mono hb1.size)
      have x2' := (B2.cell (p := ⟨pb, po + k * 3 + 2, none⟩) hpl).trans x2
      have HB2 : Hid (Below w.heap.size w w2) := B2
      clear hb1 hb2 B2 x2 FND AC
      go_wp2_with fail
      try go_region
      all_goals
        try go_wp2_with fail
        go_ret2
        exact ⟨rfl, by first | exact HB2.out | exact HB2.out.drew⟩
end Go.Proofs.Ytmbkkcdcccopiaa
