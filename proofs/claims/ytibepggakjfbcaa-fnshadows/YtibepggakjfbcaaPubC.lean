/- Shadow variables: the program's AllocShadow, PutShadow, FreeShadow, FreeId, GetShadow, GetOrAlloc. -/
import Derived.Test.YtibepggakjfbcaaDelC
namespace Go.Proofs.Ytibepggakjfbcaa
open Go Go.RowKit Go.Maps
set_option linter.unusedVariables false

/-- What a call that answers a list says: of a fault ahead nothing, else L0 and f0. -/
def ResIs (n : Nat) (S : Nat → ShwD) (x : Int) (L0 : List ShwD) (f0 : Int) (L : List ShwD) (f : Int) : Prop := (askP n S x f ∧ f ≠ 0 ∧ L = []) ∨ (ShwOK n S ∧ idP x ∧ L = L0 ∧ f = f0)
theorem resIs_ex (n : Nat) (S : Nat → ShwD) (x : Int) (L0 : List ShwD) (f0 : Int) : ∃ L f, ResIs n S x L0 f0 L f := by
  obtain ⟨a, ha⟩ := askP_ex n S x
  by_cases h : a = 0
  · refine ⟨L0, f0, .inr ?_⟩
    rcases ha with h1 | h1 | h1 | h1
    · omega
    · omega
    · omega
    · exact ⟨h1.1, h1.2.1, rfl, rfl⟩
  · exact ⟨[], a, .inl ⟨ha, h, rfl⟩⟩
/-- A list of the call's own, and a code. -/
def LstAns (B : Nat) (L : List ShwD) (f : Int) (w : World) (e : Ending) (w' : World) : Prop := ∃ p c, e = .returned (.tuple #[.slice p L.length c, .int .i64 f]) ∧ L.length ≤ c ∧ OwnR w' B p L.length 3 (shwV (nthD L)) ∧ Below B w w'
/-- A list of the call's own, a number and a code. -/
def LstAns3 (B : Nat) (L : List ShwD) (v f : Int) (w : World) (e : Ending) (w' : World) : Prop := ∃ p c, e = .returned (.tuple #[.slice p L.length c, .int .i64 v, .int .i64 f]) ∧ L.length ≤ c ∧ OwnR w' B p L.length 3 (shwV (nthD L)) ∧ Below B w w'
theorem idP_wf {x : Int} (h : idP x) : (Lit.int .i64 x).wf = true := WalkArith.wf_i64 (by unfold idP at h; omega)
theorem lstS_wf {n : Nat} {S : Nat → ShwD} (hw : ∀ i, i < n → (S i).wf) : ∀ d ∈ lstS n S, d.wf := fun d hd => by
  obtain ⟨i, hi, rfl⟩ := lstS_mem.1 hd
  exact hw i hi
theorem below_own {w w1 w2 : World} {b : Nat} (h : Below w.heap.size w w1) (hb : w.heap.size ≤ b) (hg : w1.grownBy w2 (some b)) : Below w.heap.size w w2 := h.grown hg h.size (fun r e => by cases e; exact hb)

set_option maxRecDepth 100000 in
set_option maxHeartbeats 4000000 in
theorem openNo (p : Option Addr) (n c : Nat) (S : Nat → ShwD) (x f : Int) (w : World) (hn : n ≤ 1048576) (hp : ShwsAt w p n S) (hf : askP n S x f) (h0 : f ≠ 0) :
    Calls Try.prog 23 #[.slice p n c, .int .i64 x] w fun e w' => e = .returned (.tuple #[.map none, .int .i64 f]) ∧ Below w.heap.size w w' := by
  obtain ⟨q, hq⟩ := shwOK_ex n S
  have C : Hid (Calls Try.prog 15 #[.slice p n c] w fun e w' => e = .returned (.bool q) ∧ Below w.heap.size w w') := okImplS p n c S w hn hp q hq
  clear hp
  have I : Hid (∀ (r : Bool) (W : World), (r = true ↔ idP x) → Calls Try.prog 33 #[.int .i64 x] W fun e w' => e = .returned (.bool r) ∧ w' = W) := fun r W h => idC x W r h
  rcases hf with ⟨h, rfl⟩ | ⟨h, h1, rfl⟩ | ⟨h, h1, rfl⟩ | ⟨h, h1, rfl⟩
  · clear C hq I h0
    go_enter Try.func23, Try.ntmps23
    go_wp2_with fail
    go_ret2
    exact ⟨rfl, Below.refl _ _⟩
  · obtain rfl : q = false := by cases q with
      | false => rfl
      | true => exact absurd (hq.1 rfl) h1
    clear hq h1 I h0
    go_enter Try.func23, Try.ntmps23
    go_wp2_with fail
    refine C.out.mono ?_
    rintro e w1 ⟨rfl, hb⟩
    go_wp2_with fail
    go_ret2
    exact ⟨rfl, hb⟩
  · have h16 := h.1
    obtain rfl : q = true := hq.2 h
    have I0 : Hid (∀ W, Calls Try.prog 33 #[.int .i64 x] W fun e w' => e = .returned (.bool false) ∧ w' = W) := fun W => I.out false W ⟨fun h => Bool.noConfusion h, fun h => absurd h h1⟩
    clear hq h h1 I h0
    go_enter Try.func23, Try.ntmps23
    go_wp2_with fail
    refine C.out.mono ?_
    rintro e w1 ⟨rfl, hb⟩
    go_wp2_with fail
    refine (I0.out _).mono ?_
    rintro e w2 ⟨rfl, hw2⟩
    subst w2
    go_wp2_with fail
    go_ret2
    exact ⟨rfl, hb⟩
  · exact absurd rfl h0

set_option maxRecDepth 100000 in
set_option maxHeartbeats 4000000 in
theorem alcI (p : Option Addr) (n c : Nat) (S : Nat → ShwD) (o x v : Int) (L : List ShwD) (f : Int) (w : World) (hn : n ≤ 1048576) (hw : ∀ i, i < n → (S i).wf) (ho : (Lit.int .i64 o).wf = true) (hv : (Lit.int .i64 v).wf = true) (hp : ShwsAt w p n S) (hr : ResIs n S x (alcL (lstS n S) ⟨o, x, v⟩) (alcF (lstS n S) (o, x)) L f) :
    Calls Try.prog 9 #[.slice p n c, .int .i64 o, .int .i64 x, .int .i64 v] w fun e w' => LstAns w.heap.size L f w e w' := by
  rcases hr with ⟨ha, h0, rfl⟩ | ⟨hok, hx, rfl, rfl⟩
  · have NO := openNo p n c S x f w hn hp ha h0
    have hne : (f != 0) = true := by simpa using h0
    clear hp
    go_enter Try.func9, Try.ntmps9
    go_wp2_with fail
    refine NO.mono ?_
    rintro e w1 ⟨rfl, hb⟩
    go_wp2_with fail
    go_ret2
    exact ⟨_, _, rfl, Nat.zero_le _, .inl rfl, hb⟩
  · have YES : Hid (Calls _ _ _ _ _) := openYes p n c S x w hn hw hp hok hx
    have h16 := hok.1
    have hSrt := lstS_srt hok
    have HWX : Hid ((Lit.int .i64 x).wf = true) := idP_wf hx
    clear hp hok hx
    go_enter Try.func9, Try.ntmps9
    go_wp2_with fail
    refine YES.out.mono ?_
    rintro e w1 ⟨b, D, rfl, hown, hM, hb, hB1⟩
    have HOP : Hid (Calls _ _ _ _ _) := allocC b n D (lstS n S) ⟨o, x, v⟩ w1 hown (by omega) hM hSrt ⟨ho, HWX.out, hv⟩
    have HS2 : Hid (Srt (alcL (lstS n S) ⟨o, x, v⟩)) := alcL_srt hSrt
    have HB1 : Hid (Below w.heap.size w w1) := hB1
    clear hown hM hB1 YES
    go_wp2_with fail
    refine HOP.out.mono ?_
    rintro e w2 ⟨D2, rfl, ho2, hM2, hg2⟩
    have B2 := below_own HB1.out hb hg2
    have HL : Hid (Calls _ _ _ _ _) := listC b _ D2 _ w2 ho2 (by omega) hM2 HS2.out
    have HB2 : Hid (Below w.heap.size w w2) := B2
    clear ho2 hM2 hg2 B2 HOP HB1
    go_wp2_with fail
    refine HL.out.mono ?_
    rintro e w3 ⟨q, c3, rfl, hc3, ho3, hb3⟩
    have HO3 : Hid (OwnR w3 w.heap.size q _ 3 _) := ho3.low HB2.out.size
    have HB3 : Hid (Below w.heap.size w w3) := HB2.out.trans (hb3.mono HB2.out.size)
    clear ho3 hb3 HL HB2
    go_wp2_with fail
    go_ret2
    exact ⟨q, c3, rfl, hc3, HO3.out, HB3.out⟩

set_option maxRecDepth 100000 in
set_option maxHeartbeats 4000000 in
theorem putI (p : Option Addr) (n c : Nat) (S : Nat → ShwD) (o x v : Int) (L : List ShwD) (f : Int) (w : World) (hn : n ≤ 1048576) (hw : ∀ i, i < n → (S i).wf) (ho : (Lit.int .i64 o).wf = true) (hv : (Lit.int .i64 v).wf = true) (hp : ShwsAt w p n S) (hr : ResIs n S x (putL (lstS n S) ⟨o, x, v⟩) (putF (lstS n S) (o, x)) L f) :
    Calls Try.prog 12 #[.slice p n c, .int .i64 o, .int .i64 x, .int .i64 v] w fun e w' => LstAns w.heap.size L f w e w' := by
  rcases hr with ⟨ha, h0, rfl⟩ | ⟨hok, hx, rfl, rfl⟩
  · have NO := openNo p n c S x f w hn hp ha h0
    have hne : (f != 0) = true := by simpa using h0
    clear hp
    go_enter Try.func12, Try.ntmps12
    go_wp2_with fail
    refine NO.mono ?_
    rintro e w1 ⟨rfl, hb⟩
    go_wp2_with fail
    go_ret2
    exact ⟨_, _, rfl, Nat.zero_le _, .inl rfl, hb⟩
  · have YES : Hid (Calls _ _ _ _ _) := openYes p n c S x w hn hw hp hok hx
    have h16 := hok.1
    have hSrt := lstS_srt hok
    have HWX : Hid ((Lit.int .i64 x).wf = true) := idP_wf hx
    clear hp hok hx
    go_enter Try.func12, Try.ntmps12
    go_wp2_with fail
    refine YES.out.mono ?_
    rintro e w1 ⟨b, D, rfl, hown, hM, hb, hB1⟩
    have HOP : Hid (Calls _ _ _ _ _) := putC b n D (lstS n S) ⟨o, x, v⟩ w1 hown (by omega) hM ⟨ho, HWX.out, hv⟩
    have HS2 : Hid (Srt (putL (lstS n S) ⟨o, x, v⟩)) := putL_srt hSrt
    have HB1 : Hid (Below w.heap.size w w1) := hB1
    clear hown hM hB1 YES
    go_wp2_with fail
    refine HOP.out.mono ?_
    rintro e w2 ⟨D2, rfl, ho2, hM2, hg2⟩
    have B2 := below_own HB1.out hb hg2
    have HL : Hid (Calls _ _ _ _ _) := listC b _ D2 _ w2 ho2 (by omega) hM2 HS2.out
    have HB2 : Hid (Below w.heap.size w w2) := B2
    clear ho2 hM2 hg2 B2 HOP HB1
    go_wp2_with fail
    refine HL.out.mono ?_
    rintro e w3 ⟨q, c3, rfl, hc3, ho3, hb3⟩
    have HO3 : Hid (OwnR w3 w.heap.size q _ 3 _) := ho3.low HB2.out.size
    have HB3 : Hid (Below w.heap.size w w3) := HB2.out.trans (hb3.mono HB2.out.size)
    clear ho3 hb3 HL HB2
    go_wp2_with fail
    go_ret2
    exact ⟨q, c3, rfl, hc3, HO3.out, HB3.out⟩

set_option maxRecDepth 100000 in
set_option maxHeartbeats 4000000 in
theorem freI (p : Option Addr) (n c : Nat) (S : Nat → ShwD) (o x : Int) (L : List ShwD) (f : Int) (w : World) (hn : n ≤ 1048576) (hw : ∀ i, i < n → (S i).wf) (ho : (Lit.int .i64 o).wf = true) (hp : ShwsAt w p n S) (hr : ResIs n S x (freL (lstS n S) (o, x)) (putF (lstS n S) (o, x)) L f) :
    Calls Try.prog 14 #[.slice p n c, .int .i64 o, .int .i64 x] w fun e w' => LstAns w.heap.size L f w e w' := by
  rcases hr with ⟨ha, h0, rfl⟩ | ⟨hok, hx, rfl, rfl⟩
  · have NO := openNo p n c S x f w hn hp ha h0
    have hne : (f != 0) = true := by simpa using h0
    clear hp
    go_enter Try.func14, Try.ntmps14
    go_wp2_with fail
    refine NO.mono ?_
    rintro e w1 ⟨rfl, hb⟩
    go_wp2_with fail
    go_ret2
    exact ⟨_, _, rfl, Nat.zero_le _, .inl rfl, hb⟩
  · have YES : Hid (Calls _ _ _ _ _) := openYes p n c S x w hn hw hp hok hx
    have h16 := hok.1
    have hSrt := lstS_srt hok
    have HWX : Hid ((Lit.int .i64 x).wf = true) := idP_wf hx
    clear hp hok hx
    go_enter Try.func14, Try.ntmps14
    go_wp2_with fail
    refine YES.out.mono ?_
    rintro e w1 ⟨b, D, rfl, hown, hM, hb, hB1⟩
    have HOP : Hid (Calls _ _ _ _ _) := freeC b n D (lstS n S) (o, x) w1 hown hM ⟨ho, HWX.out⟩
    have HS2 : Hid (Srt (freL (lstS n S) (o, x))) := freL_srt hSrt
    have HB1 : Hid (Below w.heap.size w w1) := hB1
    clear hown hM hB1 YES
    go_wp2_with fail
    refine HOP.out.mono ?_
    rintro e w2 ⟨D2, rfl, ho2, hM2, hg2⟩
    have B2 := below_own HB1.out hb hg2
    have HL : Hid (Calls _ _ _ _ _) := listC b _ D2 _ w2 ho2 (by omega) hM2 HS2.out
    have HB2 : Hid (Below w.heap.size w w2) := B2
    clear ho2 hM2 hg2 B2 HOP HB1
    go_wp2_with fail
    refine HL.out.mono ?_
    rintro e w3 ⟨q, c3, rfl, hc3, ho3, hb3⟩
    have HO3 : Hid (OwnR w3 w.heap.size q _ 3 _) := ho3.low HB2.out.size
    have HB3 : Hid (Below w.heap.size w w3) := HB2.out.trans (hb3.mono HB2.out.size)
    clear ho3 hb3 HL HB2
    go_wp2_with fail
    go_ret2
    exact ⟨q, c3, rfl, hc3, HO3.out, HB3.out⟩
end Go.Proofs.Ytibepggakjfbcaa
