/- A law's lists of shadow variables: what is drawn, and what the program's functions answer at a list in its order. -/
import Derived.Test.YtibepggakjfbcaaDrwS
import Derived.Test.YtibepggakjfbcaaSpcE
import Derived.Test.YtibepggakjfbcaaSamS
namespace Go.Proofs.Ytibepggakjfbcaa
open Go Go.RowKit Go.Maps
set_option linter.unusedVariables false

/-- A list in its order, of numbers that are laid. -/
def Fine (L : List ShwD) : Prop := L.length ≤ 16 ∧ Srt L ∧ ∀ d ∈ L, d.wf ∧ idP d.ix
/-- A list as it lies. -/
def LstAt (w : World) (L : List ShwD) (p : Option Addr) (c : Nat) : Prop := L.length ≤ c ∧ ShwsAt w p L.length (nthD L)
theorem LstAt.below {w w' : World} {L : List ShwD} {p : Option Addr} {c : Nat} (h : LstAt w L p c) (hb : Below w.heap.size w w') : LstAt w' L p c := ⟨h.1, RowsAt.below h.2 hb⟩
theorem Fine.ok {L : List ShwD} (h : Fine L) : ShwOK L.length (nthD L) := by
  refine ⟨h.1, fun k hk => ⟨?_, fun h0 => ?_⟩⟩
  · have hm : nthD L k ∈ L := by simp [nthD, hk]
    exact (h.2.2 _ hm).2
  · have h1 := List.pairwise_iff_getElem.1 h.2.1 (k - 1) k (by omega) hk (by omega)
    have e1 : nthD L (k - 1) = L[k - 1] := by simp [nthD, show k - 1 < L.length by omega]
    have e2 : nthD L k = L[k] := by simp [nthD, hk]
    rw [e1, e2]
    exact h1
theorem Fine.wfs {L : List ShwD} (h : Fine L) : ∀ i, i < L.length → (nthD L i).wf := by
  intro i hi
  have hm : nthD L i ∈ L := by simp [nthD, hi]
  exact (h.2.2 _ hm).1
theorem DrwOK.fine {L : List ShwD} (h : DrwOK L) (hl : L.length ≤ 16) : Fine L :=
  ⟨hl, h.1, fun d hd => by
    obtain ⟨⟨h1, h2⟩, ⟨h3, h4⟩, h5, h6⟩ := h.2 d hd
    exact ⟨⟨WalkArith.wf_i64 (by omega), WalkArith.wf_i64 (by omega), WalkArith.wf_i64 (by omega)⟩, by omega, by omega⟩⟩
theorem Fine.alc {L : List ShwD} {d : ShwD} (h : Fine L) (hd : d.wf) (hi : idP d.ix) : Fine (alcL L d) := by
  refine ⟨alcL_le h.1, alcL_srt h.2.1, fun e he => ?_⟩
  unfold alcL at he
  split at he
  · exact h.2.2 e he
  · split at he
    · exact h.2.2 e he
    · rcases List.mem_cons.1 ((insL_perm d L).mem_iff.1 he) with rfl | h'
      · exact ⟨hd, hi⟩
      · exact h.2.2 e h'
theorem Fine.filter {L : List ShwD} (h : Fine L) (q : ShwD → Bool) : Fine (L.filter q) :=
  ⟨Nat.le_trans (List.length_filter_le _ _) h.1, h.2.1.filter _, fun d hd => h.2.2 d (List.mem_filter.1 hd).1⟩

theorem drawn_any (len cap B : Nat) (a : Option Addr) (w : World) (hB : Bytes w B a len) (hb : B ≤ w.heap.size) :
    Calls Try.prog 6 #[.slice a len cap] w fun e w' => ∃ (L : List ShwD) (p : Option Addr) (c : Nat), e = .returned (.slice p L.length c) ∧ L.length ≤ 16 ∧ DrwOK L ∧ LstAt w' L p c ∧ Below w.heap.size w w' := by
  go_enter Try.func6, Try.ntmps6
  go_wp2_with fail
  refine (source_any len cap a _ hB.1).mono ?_
  rintro e w1 ⟨sd, rfl, hs, hbel, hsz⟩
  go_wp2_with fail
  refine (shadows_ctx B _ len cap 0 a _ ⟨⟨0, sd, by omega, hs⟩, hB.below (hbel.mono hb), hb, hsz⟩ (by omega)).mono ?_
  rintro e w2 ⟨L, p, c, rfl, hc, h16, hD, hO, _, hg⟩
  go_wp2_with fail
  go_ret
  exact ⟨L, p, c, rfl, h16, hD, ⟨hc, hO.rows⟩, hbel.trans (Below.refl _ _ |>.grown hg (by omega) (fun k e => by injection e; omega))⟩

theorem plus_any (a b : Int) (w : World) :
    Calls Try.prog 17 #[.int .i64 a, .int .i64 b] w fun e w' => ∃ v : Int, In64 v ∧ e = .returned (.int .i64 v) ∧ w' = w := by
  go_enter Try.func17, Try.ntmps17
  go_wp2_with fail
  go_ret
  exact ⟨_, in64_of (by go_wf2), rfl, rfl⟩

theorem alcA {L : List ShwD} {p : Option Addr} {c : Nat} (o x v : Int) (w : World) (hL : Fine L) (hx : idP x) (ho : (Lit.int .i64 o).wf = true) (hv : (Lit.int .i64 v).wf = true) (hp : LstAt w L p c) :
    Calls Try.prog 9 #[.slice p L.length c, .int .i64 o, .int .i64 x, .int .i64 v] w fun e w' => ∃ q d, e = .returned (.tuple #[.slice q (alcL L ⟨o, x, v⟩).length d, .int .i64 (alcF L (o, x))]) ∧ LstAt w' (alcL L ⟨o, x, v⟩) q d ∧ Below w.heap.size w w' := by
  have h16 := hL.1
  have e := lstS_self L
  refine (alcI p L.length c (nthD L) o x v (alcL L ⟨o, x, v⟩) (alcF L (o, x)) w (by omega) hL.wfs ho hv hp.2 (.inr ⟨hL.ok, hx, by rw [e], by rw [e]⟩)).mono ?_
  rintro e w' ⟨q, d, rfl, hd, hO, hb⟩
  exact ⟨q, d, rfl, ⟨hd, hO.rows⟩, hb⟩
theorem gooA {L : List ShwD} {p : Option Addr} {c : Nat} (o x v : Int) (w : World) (hL : Fine L) (hx : idP x) (ho : (Lit.int .i64 o).wf = true) (hv : (Lit.int .i64 v).wf = true) (hp : LstAt w L p c) :
    Calls Try.prog 16 #[.slice p L.length c, .int .i64 o, .int .i64 x, .int .i64 v] w fun e w' => ∃ q d, e = .returned (.tuple #[.slice q (alcL L ⟨o, x, v⟩).length d, .int .i64 (getV (alcL L ⟨o, x, v⟩) (o, x)), .int .i64 (if alcF L (o, x) = 24 then 0 else alcF L (o, x))]) ∧ LstAt w' (alcL L ⟨o, x, v⟩) q d ∧ Below w.heap.size w w' := by
  have h16 := hL.1
  have e := lstS_self L
  refine (gooI p L.length c (nthD L) o x v (alcL L ⟨o, x, v⟩) (getV (alcL L ⟨o, x, v⟩) (o, x)) (if alcF L (o, x) = 24 then 0 else alcF L (o, x)) w (by omega) hL.wfs ho hv hp.2 (.inr ⟨hL.ok, hx, by rw [e], by rw [e]⟩) rfl).mono ?_
  rintro e w' ⟨q, d, rfl, hd, hO, hb⟩
  exact ⟨q, d, rfl, ⟨hd, hO.rows⟩, hb⟩
theorem putA {L : List ShwD} {p : Option Addr} {c : Nat} (o x v : Int) (w : World) (hL : Fine L) (hx : idP x) (ho : (Lit.int .i64 o).wf = true) (hv : (Lit.int .i64 v).wf = true) (hp : LstAt w L p c) :
    Calls Try.prog 12 #[.slice p L.length c, .int .i64 o, .int .i64 x, .int .i64 v] w fun e w' => ∃ q d, e = .returned (.tuple #[.slice q (putL L ⟨o, x, v⟩).length d, .int .i64 (putF L (o, x))]) ∧ LstAt w' (putL L ⟨o, x, v⟩) q d ∧ Below w.heap.size w w' := by
  have h16 := hL.1
  have e := lstS_self L
  refine (putI p L.length c (nthD L) o x v (putL L ⟨o, x, v⟩) (putF L (o, x)) w (by omega) hL.wfs ho hv hp.2 (.inr ⟨hL.ok, hx, by rw [e], by rw [e]⟩)).mono ?_
  rintro e w' ⟨q, d, rfl, hd, hO, hb⟩
  exact ⟨q, d, rfl, ⟨hd, hO.rows⟩, hb⟩
theorem freA {L : List ShwD} {p : Option Addr} {c : Nat} (o x : Int) (w : World) (hL : Fine L) (hx : idP x) (ho : (Lit.int .i64 o).wf = true) (hp : LstAt w L p c) :
    Calls Try.prog 14 #[.slice p L.length c, .int .i64 o, .int .i64 x] w fun e w' => ∃ q d, e = .returned (.tuple #[.slice q (freL L (o, x)).length d, .int .i64 (putF L (o, x))]) ∧ LstAt w' (freL L (o, x)) q d ∧ Below w.heap.size w w' := by
  have h16 := hL.1
  have e := lstS_self L
  refine (freI p L.length c (nthD L) o x (freL L (o, x)) (putF L (o, x)) w (by omega) hL.wfs ho hp.2 (.inr ⟨hL.ok, hx, by rw [e], by rw [e]⟩)).mono ?_
  rintro e w' ⟨q, d, rfl, hd, hO, hb⟩
  exact ⟨q, d, rfl, ⟨hd, hO.rows⟩, hb⟩
theorem fidA {L : List ShwD} {p : Option Addr} {c : Nat} (x : Int) (w : World) (hL : Fine L) (hx : idP x) (hp : LstAt w L p c) :
    Calls Try.prog 18 #[.slice p L.length c, .int .i64 x] w fun e w' => ∃ q d, e = .returned (.tuple #[.slice q (fidL L x).length d, .int .i64 ((L.length : Int) - (fidL L x).length), .int .i64 0]) ∧ LstAt w' (fidL L x) q d ∧ Below w.heap.size w w' := by
  have h16 := hL.1
  have e := lstS_self L
  refine (fidI p L.length c (nthD L) x (fidL L x) ((L.length : Int) - (fidL L x).length) 0 w (by omega) hL.wfs hp.2 (.inr ⟨hL.ok, hx, by rw [e], rfl⟩) (by simp)).mono ?_
  rintro e w' ⟨q, d, rfl, hd, hO, hb⟩
  exact ⟨q, d, rfl, ⟨hd, hO.rows⟩, hb⟩
theorem getA {L : List ShwD} {p : Option Addr} {c : Nat} (o x : Int) (w : World) (hL : Fine L) (hx : idP x) (ho : (Lit.int .i64 o).wf = true) (hp : LstAt w L p c) :
    Calls Try.prog 13 #[.slice p L.length c, .int .i64 o, .int .i64 x] w fun e w' => e = .returned (.tuple #[.int .i64 (getV L (o, x)), .int .i64 (putF L (o, x))]) ∧ Below w.heap.size w w' := by
  have h16 := hL.1
  have e := lstS_self L
  exact getImpl p L.length c (nthD L) o x (getV L (o, x)) (putF L (o, x)) w (by omega) hL.wfs ho hp.2 (.inr ⟨hL.ok, hx, by rw [e], by rw [e]⟩)
theorem nth_ext {L M : List ShwD} (hn : L.length = M.length) (h : ∀ i, i < L.length → nthD L i = nthD M i) : L = M := by
  have h1 : lstS L.length (nthD L) = lstS M.length (nthD M) := by
    rw [← hn]
    unfold lstS
    exact List.map_congr_left fun i hi => h i (List.mem_range.1 hi)
  rwa [lstS_self, lstS_self] at h1
theorem samA {L M : List ShwD} {p q : Option Addr} {c d : Nat} (w : World) (hL : Fine L) (hM : Fine M) (hp : LstAt w L p c) (hq : LstAt w M q d) (b : Bool) (hb : b = true ↔ L = M) :
    Calls Try.prog 11 #[.slice p L.length c, .slice q M.length d] w fun e w' => e = .returned (.bool b) ∧ Below w.heap.size w w' := by
  have h16 := hL.1
  have h17 := hM.1
  refine samI p q L.length M.length c d (nthD L) (nthD M) w (by omega) (by omega) hp.2 hq.2 b ?_
  rw [hb]
  constructor
  · rintro rfl
    exact ⟨hL.ok, rfl, fun i hi => rfl⟩
  · rintro ⟨_, h1, h2⟩
    exact nth_ext h1 h2
theorem okA {L : List ShwD} {p : Option Addr} {c : Nat} (w : World) (hL : Fine L) (hp : LstAt w L p c) :
    Calls Try.prog 15 #[.slice p L.length c] w fun e w' => e = .returned (.bool true) ∧ Below w.heap.size w w' := by
  have h16 := hL.1
  exact okImplS p L.length c (nthD L) w (by omega) hp.2 true ⟨fun _ => hL.ok, fun _ => rfl⟩
end Go.Proofs.Ytibepggakjfbcaa
