/- Shadow variables drawn. -/
import Derived.Test.YtibepggakjfbcaaSpcB
import Derived.Test.YtibepggakjfbcaaSrcN
namespace Go.Proofs.Ytibepggakjfbcaa
open Go Go.RowKit Go.Maps
set_option linter.unusedVariables false

theorem grownBy_self (w : World) (r : Option Nat) : w.grownBy w r := ⟨rfl, rfl, rfl, Nat.le_refl _, fun _ _ _ => rfl⟩
theorem chance_ctx (B b len cap m n : Nat) (a : Option Addr) (w : World) (h : Ctx w B b a len cap m) (hm : m ≤ 100000) (hn0 : 2 ≤ n) (hn1 : n ≤ 256) :
    Calls Try.prog 38 #[.pointer (some ⟨b, 0, none⟩), .int .i64 n] w fun e w' => ∃ q : Bool, e = .returned (.bool q) ∧ Ctx w' B b a len cap (m + 1) ∧ w.grownBy w' (some b) := by
  have hw : IntKind.i64.wrap ((n : Int) - 1) = (n : Int) - 1 := by rw [IntKind.wrap_i64]; omega
  go_enter Try.func38, Try.ntmps38
  go_wp2_with fail
  refine (next_small B b len cap m n a w h hm hn0 hn1).mono ?_
  rintro e w1 ⟨v, hv, rfl, hc, hg⟩
  go_wp2_with fail
  go_ret
  exact ⟨_, rfl, hc, hg⟩
theorem Ctx.belowS {w w' : World} {B b len cap m : Nat} {a : Option Addr} (h : Ctx w B b a len cap m) (hb : Below w.heap.size w w') : Ctx w' B b a len cap m := by
  obtain ⟨⟨p, sd, hp, hs⟩, h1, h2, h3⟩ := h
  exact ⟨⟨p, sd, hp, hs.grown (grown_none hb) h3 (by simp)⟩, h1.below (hb.mono (by omega)), h2, Nat.lt_of_lt_of_le h3 hb.size⟩
theorem OwnR.grownS {w w' : World} {B n m b : Nat} {p : Option Addr} {V : Nat → Value} (h : OwnR w B p n m V) (hg : w.grownBy w' (some b)) (hb : b < B) : OwnR w' B p n m V := by
  rcases h with h | ⟨g, h1, h2, h3, h4⟩
  · exact .inl h
  · have hk := hg.block g h3 (fun e => by have := Option.some.inj e; omega)
    exact .inr ⟨g, h1, h2, Nat.lt_of_lt_of_le h3 hg.size, fun i hi => (World.cell?_of_block hk).trans (h4.1 i hi), fun i hi => (World.frozen?_of_block hk).trans (h4.2 i hi)⟩
/-- What is drawn: a list in its order, of small numbers. -/
def DrwOK (L : List ShwD) : Prop := Srt L ∧ ∀ d ∈ L, (0 ≤ d.ob ∧ d.ob ≤ 15) ∧ (0 ≤ d.ix ∧ d.ix ≤ 15) ∧ 0 ≤ d.va ∧ d.va ≤ 1000
theorem lstS_self (L : List ShwD) : lstS L.length (nthD L) = L := by
  apply List.ext_getElem?
  intro i
  by_cases h : i < L.length
  · simp [lstS, nthD, h]
  · rw [List.getElem?_eq_none (by rw [lstS_len]; omega), List.getElem?_eq_none (by omega)]
theorem DrwOK.alc {L : List ShwD} {d : ShwD} (h : DrwOK L) (hd : (0 ≤ d.ob ∧ d.ob ≤ 15) ∧ (0 ≤ d.ix ∧ d.ix ≤ 15) ∧ 0 ≤ d.va ∧ d.va ≤ 1000) : DrwOK (alcL L d) := by
  refine ⟨alcL_srt h.1, fun e he => ?_⟩
  unfold alcL at he
  split at he
  · exact h.2 e he
  · split at he
    · exact h.2 e he
    · rcases List.mem_cons.1 ((insL_perm d L).mem_iff.1 he) with rfl | h'
      · exact hd
      · exact h.2 e h'
theorem alcL_le {L : List ShwD} {d : ShwD} (h : L.length ≤ 16) : (alcL L d).length ≤ 16 := by
  unfold alcL
  split
  · exact h
  · split
    · exact h
    · rw [insL_len]; omega
theorem DrwOK.ok {L : List ShwD} (h : DrwOK L) (hl : L.length ≤ 16) : ShwOK L.length (nthD L) := by
  refine ⟨hl, fun k hk => ⟨?_, fun h0 => ?_⟩⟩
  · have hm : nthD L k ∈ L := by simp [nthD, hk]
    have := (h.2 _ hm).2.1
    exact ⟨by omega, by omega⟩
  · have h1 := List.pairwise_iff_getElem.1 h.1 (k - 1) k (by omega) hk (by omega)
    have e1 : nthD L (k - 1) = L[k - 1] := by simp [nthD, show k - 1 < L.length by omega]
    have e2 : nthD L k = L[k] := by simp [nthD, hk]
    rw [e1, e2]
    exact h1
theorem DrwOK.wf {L : List ShwD} (h : DrwOK L) : ∀ i, i < L.length → (nthD L i).wf := by
  intro i hi
  have hm : nthD L i ∈ L := by simp [nthD, hi]
  obtain ⟨h1, h2, h3⟩ := h.2 _ hm
  exact ⟨WalkArith.wf_i64 (by omega), WalkArith.wf_i64 (by omega), WalkArith.wf_i64 (by omega)⟩
/-- The list of sixteen. -/
def sixD (i : Nat) : ShwD := ⟨((i / 4 : Nat) : Int), ((i % 4 : Nat) : Int), (i : Int)⟩
theorem six_ok : DrwOK (lstS 16 sixD) := by
  refine ⟨?_, fun d hd => ?_⟩
  · unfold Srt lstS
    rw [List.pairwise_map]
    refine List.Pairwise.imp_of_mem (R := (· < ·)) ?_ List.pairwise_lt_range
    intro a b ha hb hab
    have h1 := List.mem_range.1 ha
    have h2 := List.mem_range.1 hb
    simp only [ltK, keyD, sixD]
    omega
  · obtain ⟨i, hi, rfl⟩ := lstS_mem.1 hd
    simp only [sixD]
    omega

/-- A list that was drawn, and the source behind it. -/
def ShwDrw (w : World) (B b len cap m : Nat) (a : Option Addr) (e : Ending) (w' : World) : Prop :=
  ∃ (L : List ShwD) (p : Option Addr) (c : Nat), e = .returned (.slice p L.length c) ∧ L.length ≤ c ∧ L.length ≤ 16 ∧ DrwOK L ∧ OwnR w' w.heap.size p L.length 3 (shwV (nthD L)) ∧ Ctx w' B b a len cap m ∧ w.grownBy w' (some b)

set_option maxRecDepth 100000 in
set_option maxHeartbeats 8000000 in
theorem shadows_ctx (B b len cap m : Nat) (a : Option Addr) (w : World) (h : Ctx w B b a len cap m) (hm : m ≤ 80000) :
    Calls Try.prog 21 #[.pointer (some ⟨b, 0, none⟩)] w fun e w' => ShwDrw w B b len cap (m + 100) a e w' := by
  obtain ⟨i0, hi, hz0, hz1, hz2⟩ := info_parts Try.info_shw
  have hbw := h.bw
  have hc0 := h.alloc (.cells #[] 34)
  have hg0 : w.grownBy (w.alloc (.cells #[] 34)) (some b) := grownBy_alloc1 (grownBy_self w (some b)) _
  have own0 := World.ownsRow_made (base := w.heap.size) (size := 3) (e := 34) w #[] 0 (Nat.le_refl _) (Nat.zero_le _) rfl
  obtain ⟨p0, c0, hv0, hcc0, hO0⟩ := ownL_of_row (L := []) own0
  obtain ⟨rfl, rfl⟩ : p0 = some ⟨w.heap.size, 0, none⟩ ∧ c0 = 0 := by simpa [eq_comm] using hv0
  obtain ⟨W0, hW0⟩ : ∃ W0, w.alloc (.cells #[] 34) = W0 := ⟨_, rfl⟩
  have HG0 : Hid (w.grownBy W0 (some b)) := by rw [← hW0]; exact hg0
  rw [hW0] at hc0 hO0
  clear own0 hv0 h
  go_enter Try.func21, Try.ntmps21
  go_wp2_with fail
  try rw [hW0]
  clear hW0 hg0
  try go_wp2_with fail
  refine (next_small B b len cap m 6 a W0 hc0 (by omega) (by omega) (by omega)).mono ?_
  rintro e w1 ⟨n6, hn6, rfl, hc1, hg1⟩
  have HO1 : Hid (OwnR w1 w.heap.size (some ⟨w.heap.size, 0, none⟩) 0 3 (shwV (nthD []))) := hO0.grownS hg1 hbw
  have HG1 : Hid (w.grownBy w1 (some b)) := grownBy_trans HG0.out hg1
  have HC1 : Hid (Ctx w1 B b a len cap (m + 1)) := hc1
  clear hg1 HG0 hO0 hc0 hc1
  go_wp2_with fail
  refine (chance_ctx B b len cap (m + 1) 8 a w1 HC1.out (by omega) (by omega) (by omega)).mono ?_
  rintro e w2 ⟨q, rfl, hc2, hg2⟩
  have HO2 : Hid (OwnR w2 w.heap.size (some ⟨w.heap.size, 0, none⟩) 0 3 (shwV (nthD []))) := HO1.out.grownS hg2 hbw
  have HG2 : Hid (w.grownBy w2 (some b)) := grownBy_trans HG1.out hg2
  have HC2 : Hid (Ctx w2 B b a len cap (m + 2)) := hc2
  clear hg2 HG1 HO1 HC1 hc2
  cases q with
  | true =>
    have hdummy : True := trivial
    go_wp2_with fail
    go_loopw [3, 5] (fun v i wr => ∃ k : Nat, k ≤ 16 ∧ i = .int .i64 k ∧ (∃ (L : List ShwD) (p : Option Addr) (c : Nat), v = .slice p L.length c ∧ L.length ≤ c ∧ L.length ≤ 16 ∧ Hid (DrwOK L) ∧ Hid (OwnR wr w.heap.size p L.length 3 (shwV (nthD L)))) ∧ Hid (Ctx wr B b a len cap (m + 2 + 3 * k)) ∧ Hid (w.grownBy wr (some b))) (fun _ i _ => 16 - (intOf i).toNat)
    case atStart => exact ⟨0, Nat.zero_le _, rfl, ⟨[], some ⟨w.heap.size, 0, none⟩, 0, rfl, Nat.le_refl _, Nat.zero_le _, ⟨List.Pairwise.nil, by simp⟩, HO2.out⟩, HC2.out, HG2.out⟩
    case round =>
      obtain ⟨k, hk, rfl, ⟨L, p, c, rfl, hLc, hL16, HD, HO⟩, HC, HG⟩ := hrel
      by_cases hlt : k < 16
      · go_wp2_with fail
        refine (next_small B b len cap _ 4 a wr HC.out (by omega) (by omega) (by omega)).mono ?_
        rintro e y1 ⟨o, ho, rfl, hc1, hg1⟩
        have HC1 : Hid (Ctx y1 B b a len cap (m + 2 + 3 * k + 1)) := hc1
        have HO1 : Hid (OwnR y1 w.heap.size p L.length 3 (shwV (nthD L))) := HO.out.grownS hg1 hbw
        have HG1 : Hid (w.grownBy y1 (some b)) := grownBy_trans HG.out hg1
        clear hc1 hg1 HC HO HG
        go_wp2_with fail
        refine (next_small B b len cap _ 5 a y1 HC1.out (by omega) (by omega) (by omega)).mono ?_
        rintro e y2 ⟨x, hx, rfl, hc1, hg1⟩
        have HC2' : Hid (Ctx y2 B b a len cap (m + 2 + 3 * k + 2)) := hc1
        have HO2' : Hid (OwnR y2 w.heap.size p L.length 3 (shwV (nthD L))) := HO1.out.grownS hg1 hbw
        have HG2' : Hid (w.grownBy y2 (some b)) := grownBy_trans HG1.out hg1
        clear hc1 hg1 HC1 HO1 HG1
        go_wp2_with fail
        refine (next_small B b len cap _ 100 a y2 HC2'.out (by omega) (by omega) (by omega)).mono ?_
        rintro e y3 ⟨v, hv, rfl, hc1, hg1⟩
        have HC3 : Hid (Ctx y3 B b a len cap (m + 2 + 3 * k + 3)) := hc1
        have HO3 : Hid (OwnR y3 w.heap.size p L.length 3 (shwV (nthD L))) := HO2'.out.grownS hg1 hbw
        have HG3 : Hid (w.grownBy y3 (some b)) := grownBy_trans HG2'.out hg1
        have hsz3 : w.heap.size ≤ y3.heap.size := HG3.out.size
        clear hc1 hg1 HC2' HO2' HG2'
        have AS := alcSp p L.length c (nthD L) o x v y3 hL16 hLc HO3.out.rows
        rw [lstS_self] at AS
        have HAS : Hid (Calls _ _ _ _ _) := AS
        have HD' : Hid (DrwOK (alcL L ⟨o, x, v⟩)) := HD.out.alc ⟨⟨by simp, by simp; omega⟩, ⟨by simp, by simp; omega⟩, by simp, by simp; omega⟩
        have hl' : (alcL L ⟨o, x, v⟩).length ≤ 16 := alcL_le hL16
        clear AS
        go_wp2_with fail
        refine HAS.out.mono ?_
        rintro e y4 ⟨p4, c4, rfl, hc4, ho4, hb4⟩
        have HO4 : Hid (OwnR y4 w.heap.size p4 _ 3 (shwV (nthD (alcL L ⟨o, x, v⟩)))) := ho4.low hsz3
        have HC4 : Hid (Ctx y4 B b a len cap (m + 2 + 3 * (k + 1))) := (HC3.out.belowS hb4).mono (by omega)
        have HG4 : Hid (w.grownBy y4 (some b)) := grownBy_own HG3.out (grown_none hb4) (fun i e => by cases e)
        clear ho4 hb4 HO3 HC3 HG3 HAS
        go_wp2_with fail
        go_roundw
        case rel => first
          | exact ⟨k + 1, by omega, by go_num, ⟨_, p4, c4, rfl, hc4, hl', HD'.out, HO4.out⟩, HC4.out, HG4.out⟩
          | ((repeat apply Exists.intro); exact ⟨⟨k + 1, by omega, by go_num, ⟨_, p4, c4, rfl, hc4, hl', HD'.out, HO4.out⟩, HC4.out, HG4.out⟩, rfl⟩)
        case measure => first | (simp [intOf]; done) | (simp [intOf]; omega)
      · obtain rfl : k = 16 := by omega
        go_wp2_with fail
        refine (chance_ctx B b len cap _ 10 a wr HC.out (by omega) (by omega) (by omega)).mono ?_
        rintro e y1 ⟨q2, rfl, hc1, hg1⟩
        have HC1 : Hid (Ctx y1 B b a len cap (m + 100)) := hc1.mono (by omega)
        have HO1 : Hid (OwnR y1 w.heap.size p L.length 3 (shwV (nthD L))) := HO.out.grownS hg1 hbw
        have HG1 : Hid (w.grownBy y1 (some b)) := grownBy_trans HG.out hg1
        have hsz1 : w.heap.size ≤ y1.heap.size := HG1.out.size
        clear hc1 hg1 HC HO HG
        cases q2 with
        | false =>
          go_wp2_with fail
          go_ret
          exact ⟨L, p, c, rfl, hLc, hL16, HD.out, HO1.out, HC1.out, HG1.out⟩
        | true =>
          go_wp2_with fail
          go_loopw [3, 8] (fun v i wr => ∃ k : Nat, k ≤ 16 ∧ i = .int .i64 k ∧ Hid (wr.ownsRow y1.heap.size 34 3 v k (cellsL (lstS k sixD))) ∧ Below y1.heap.size y1 wr) (fun _ i _ => 16 - (intOf i).toNat)
          case atStart => exact ⟨0, Nat.zero_le _, rfl, World.ownsRow_made y1 #[] 0 (Nat.le_refl _) (Nat.zero_le _) rfl, (Below.refl _ _).alloc (Nat.le_refl _) _⟩
          case round =>
            obtain ⟨k, hk, rfl, OW, hB⟩ := hrel
            have hsz := hB.size
            by_cases hlt2 : k < 16
            · have q1 : (k : Int).tdiv 4 = ((k / 4 : Nat) : Int) := by rw [Int.tdiv_eq_ediv_of_nonneg (by omega)]; simp
              have q2 : (k : Int).tmod 4 = ((k % 4 : Nat) : Int) := by rw [Int.tmod_eq_emod_of_nonneg (by omega)]; simp
              have q3 : IntKind.i64.wrap ((k / 4 : Nat) : Int) = ((k / 4 : Nat) : Int) := by rw [IntKind.wrap_i64]; omega
              have q4 : IntKind.i64.wrap ((k % 4 : Nat) : Int) = ((k % 4 : Nat) : Int) := by rw [IntKind.wrap_i64]; omega
              have q5 : (k : Int) / 4 = ((k / 4 : Nat) : Int) := by simp
              have q6 : (k : Int) % 4 = ((k % 4 : Nat) : Int) := by simp
              have eS : Hid (cellsL (lstS (k + 1) sixD) = cellsL (lstS k sixD) ++ [.int .i64 ((k / 4 : Nat) : Int), .int .i64 ((k % 4 : Nat) : Int), .int .i64 (k : Int)]) := by
                show cellsL _ = _
                rw [lstS_succ, cellsL_append]
                rfl
              obtain ⟨r1, hr1⟩ : ∃ r, k / 4 = r := ⟨_, rfl⟩
              obtain ⟨r2, hr2⟩ : ∃ r, k % 4 = r := ⟨_, rfl⟩
              rw [hr1] at q1 q3 q5 eS
              rw [hr2] at q2 q4 q6 eS
              clear hr1 hr2
              go_wp2_with (at_builtin; refine wpList_append_lies _ rfl _ _ 23 rfl y1.heap.size 34 i0 _ 3 24 Try.underlying23 hi hz0 hz1 hz2 rfl (by omega) _ _ _ rfl (OW.out.alloc _) ⟨wr.heap.size, 0, none⟩ 1 1 [.int .i64 (r1 : Int), .int .i64 (r2 : Int), .int .i64 (k : Int)] rfl rfl (World.news_of_block (cs := #[.int .i64 (r1 : Int), .int .i64 (r2 : Int), .int .i64 (k : Int)]) (t := 34) (fr := (0, 0)) (heap_alloc_new wr _)) (by simp [Value.oneCell']) (by omega) (by unfold maxLen; omega) (by omega) (by simp; omega) (wr.heap.size + 1) (by simp) ?_; intro g8 cap8 w8 ho8 hg8 hat8 hlt8)
              have hB8 : Below y1.heap.size y1 w8 := (hB.alloc hsz _).grown hg8 (by simp; omega) (fun r e => (OW.out.lt r e).1)
              go_roundw
              case rel => exact ⟨k + 1, by omega, by go_num, by rw [eS.out]; exact ho8, hB8⟩
              case measure => first | (simp [intOf]; done) | (simp [intOf]; omega)
            · obtain rfl : k = 16 := by omega
              have h3 : wr.ownsRow y1.heap.size 34 3 u3 (lstS 16 sixD).length (cellsL (lstS 16 sixD)) := OW.out
              obtain ⟨p9, c9, hv, hc9, ho⟩ := ownL_of_row h3
              subst hv
              have HF : Hid (ShwDrw w B b len cap (m + 100) a (.returned (.slice p9 (lstS 16 sixD).length c9)) wr) := ⟨lstS 16 sixD, p9, c9, rfl, hc9, by rw [lstS_len]; exact Nat.le_refl _, six_ok, ho.low hsz1, HC1.out.belowS hB, grownBy_own HG1.out (grown_none hB) (fun i e => by cases e)⟩
              clear OW h3 ho hB HC1 HG1
              go_wp2_with fail
              go_ret
              exact HF.out
  | false =>
    have hdummy : True := trivial
    go_wp2_with fail
    go_loopw [3, 5] (fun v i wr => ∃ k : Nat, k ≤ n6 ∧ i = .int .i64 k ∧ (∃ (L : List ShwD) (p : Option Addr) (c : Nat), v = .slice p L.length c ∧ L.length ≤ c ∧ L.length ≤ 16 ∧ Hid (DrwOK L) ∧ Hid (OwnR wr w.heap.size p L.length 3 (shwV (nthD L)))) ∧ Hid (Ctx wr B b a len cap (m + 2 + 3 * k)) ∧ Hid (w.grownBy wr (some b))) (fun _ i _ => n6 - (intOf i).toNat)
    case atStart => exact ⟨0, Nat.zero_le _, rfl, ⟨[], some ⟨w.heap.size, 0, none⟩, 0, rfl, Nat.le_refl _, Nat.zero_le _, ⟨List.Pairwise.nil, by simp⟩, HO2.out⟩, HC2.out, HG2.out⟩
    case round =>
      obtain ⟨k, hk, rfl, ⟨L, p, c, rfl, hLc, hL16, HD, HO⟩, HC, HG⟩ := hrel
      by_cases hlt : k < n6
      · go_wp2_with fail
        refine (next_small B b len cap _ 4 a wr HC.out (by omega) (by omega) (by omega)).mono ?_
        rintro e y1 ⟨o, ho, rfl, hc1, hg1⟩
        have HC1 : Hid (Ctx y1 B b a len cap (m + 2 + 3 * k + 1)) := hc1
        have HO1 : Hid (OwnR y1 w.heap.size p L.length 3 (shwV (nthD L))) := HO.out.grownS hg1 hbw
        have HG1 : Hid (w.grownBy y1 (some b)) := grownBy_trans HG.out hg1
        clear hc1 hg1 HC HO HG
        go_wp2_with fail
        refine (next_small B b len cap _ 5 a y1 HC1.out (by omega) (by omega) (by omega)).mono ?_
        rintro e y2 ⟨x, hx, rfl, hc1, hg1⟩
        have HC2' : Hid (Ctx y2 B b a len cap (m + 2 + 3 * k + 2)) := hc1
        have HO2' : Hid (OwnR y2 w.heap.size p L.length 3 (shwV (nthD L))) := HO1.out.grownS hg1 hbw
        have HG2' : Hid (w.grownBy y2 (some b)) := grownBy_trans HG1.out hg1
        clear hc1 hg1 HC1 HO1 HG1
        go_wp2_with fail
        refine (next_small B b len cap _ 100 a y2 HC2'.out (by omega) (by omega) (by omega)).mono ?_
        rintro e y3 ⟨v, hv, rfl, hc1, hg1⟩
        have HC3 : Hid (Ctx y3 B b a len cap (m + 2 + 3 * k + 3)) := hc1
        have HO3 : Hid (OwnR y3 w.heap.size p L.length 3 (shwV (nthD L))) := HO2'.out.grownS hg1 hbw
        have HG3 : Hid (w.grownBy y3 (some b)) := grownBy_trans HG2'.out hg1
        have hsz3 : w.heap.size ≤ y3.heap.size := HG3.out.size
        clear hc1 hg1 HC2' HO2' HG2'
        have AS := alcSp p L.length c (nthD L) o x v y3 hL16 hLc HO3.out.rows
        rw [lstS_self] at AS
        have HAS : Hid (Calls _ _ _ _ _) := AS
        have HD' : Hid (DrwOK (alcL L ⟨o, x, v⟩)) := HD.out.alc ⟨⟨by simp, by simp; omega⟩, ⟨by simp, by simp; omega⟩, by simp, by simp; omega⟩
        have hl' : (alcL L ⟨o, x, v⟩).length ≤ 16 := alcL_le hL16
        clear AS
        go_wp2_with fail
        refine HAS.out.mono ?_
        rintro e y4 ⟨p4, c4, rfl, hc4, ho4, hb4⟩
        have HO4 : Hid (OwnR y4 w.heap.size p4 _ 3 (shwV (nthD (alcL L ⟨o, x, v⟩)))) := ho4.low hsz3
        have HC4 : Hid (Ctx y4 B b a len cap (m + 2 + 3 * (k + 1))) := (HC3.out.belowS hb4).mono (by omega)
        have HG4 : Hid (w.grownBy y4 (some b)) := grownBy_own HG3.out (grown_none hb4) (fun i e => by cases e)
        clear ho4 hb4 HO3 HC3 HG3 HAS
        go_wp2_with fail
        go_roundw
        case rel => first
          | exact ⟨k + 1, by omega, by go_num, ⟨_, p4, c4, rfl, hc4, hl', HD'.out, HO4.out⟩, HC4.out, HG4.out⟩
          | ((repeat apply Exists.intro); exact ⟨⟨k + 1, by omega, by go_num, ⟨_, p4, c4, rfl, hc4, hl', HD'.out, HO4.out⟩, HC4.out, HG4.out⟩, rfl⟩)
        case measure => first | (simp [intOf]; done) | (simp [intOf]; omega)
      · obtain rfl : k = n6 := by omega
        go_wp2_with fail
        refine (chance_ctx B b len cap _ 10 a wr HC.out (by omega) (by omega) (by omega)).mono ?_
        rintro e y1 ⟨q2, rfl, hc1, hg1⟩
        have HC1 : Hid (Ctx y1 B b a len cap (m + 100)) := hc1.mono (by omega)
        have HO1 : Hid (OwnR y1 w.heap.size p L.length 3 (shwV (nthD L))) := HO.out.grownS hg1 hbw
        have HG1 : Hid (w.grownBy y1 (some b)) := grownBy_trans HG.out hg1
        have hsz1 : w.heap.size ≤ y1.heap.size := HG1.out.size
        clear hc1 hg1 HC HO HG
        cases q2 with
        | false =>
          go_wp2_with fail
          go_ret
          exact ⟨L, p, c, rfl, hLc, hL16, HD.out, HO1.out, HC1.out, HG1.out⟩
        | true =>
          go_wp2_with fail
          go_loopw [3, 8] (fun v i wr => ∃ k : Nat, k ≤ 16 ∧ i = .int .i64 k ∧ Hid (wr.ownsRow y1.heap.size 34 3 v k (cellsL (lstS k sixD))) ∧ Below y1.heap.size y1 wr) (fun _ i _ => 16 - (intOf i).toNat)
          case atStart => exact ⟨0, Nat.zero_le _, rfl, World.ownsRow_made y1 #[] 0 (Nat.le_refl _) (Nat.zero_le _) rfl, (Below.refl _ _).alloc (Nat.le_refl _) _⟩
          case round =>
            obtain ⟨k, hk, rfl, OW, hB⟩ := hrel
            have hsz := hB.size
            by_cases hlt2 : k < 16
            · have q1 : (k : Int).tdiv 4 = ((k / 4 : Nat) : Int) := by rw [Int.tdiv_eq_ediv_of_nonneg (by omega)]; simp
              have q2 : (k : Int).tmod 4 = ((k % 4 : Nat) : Int) := by rw [Int.tmod_eq_emod_of_nonneg (by omega)]; simp
              have q3 : IntKind.i64.wrap ((k / 4 : Nat) : Int) = ((k / 4 : Nat) : Int) := by rw [IntKind.wrap_i64]; omega
              have q4 : IntKind.i64.wrap ((k % 4 : Nat) : Int) = ((k % 4 : Nat) : Int) := by rw [IntKind.wrap_i64]; omega
              have q5 : (k : Int) / 4 = ((k / 4 : Nat) : Int) := by simp
              have q6 : (k : Int) % 4 = ((k % 4 : Nat) : Int) := by simp
              have eS : Hid (cellsL (lstS (k + 1) sixD) = cellsL (lstS k sixD) ++ [.int .i64 ((k / 4 : Nat) : Int), .int .i64 ((k % 4 : Nat) : Int), .int .i64 (k : Int)]) := by
                show cellsL _ = _
                rw [lstS_succ, cellsL_append]
                rfl
              obtain ⟨r1, hr1⟩ : ∃ r, k / 4 = r := ⟨_, rfl⟩
              obtain ⟨r2, hr2⟩ : ∃ r, k % 4 = r := ⟨_, rfl⟩
              rw [hr1] at q1 q3 q5 eS
              rw [hr2] at q2 q4 q6 eS
              clear hr1 hr2
              go_wp2_with (at_builtin; refine wpList_append_lies _ rfl _ _ 23 rfl y1.heap.size 34 i0 _ 3 24 Try.underlying23 hi hz0 hz1 hz2 rfl (by omega) _ _ _ rfl (OW.out.alloc _) ⟨wr.heap.size, 0, none⟩ 1 1 [.int .i64 (r1 : Int), .int .i64 (r2 : Int), .int .i64 (k : Int)] rfl rfl (World.news_of_block (cs := #[.int .i64 (r1 : Int), .int .i64 (r2 : Int), .int .i64 (k : Int)]) (t := 34) (fr := (0, 0)) (heap_alloc_new wr _)) (by simp [Value.oneCell']) (by omega) (by unfold maxLen; omega) (by omega) (by simp; omega) (wr.heap.size + 1) (by simp) ?_; intro g8 cap8 w8 ho8 hg8 hat8 hlt8)
              have hB8 : Below y1.heap.size y1 w8 := (hB.alloc hsz _).grown hg8 (by simp; omega) (fun r e => (OW.out.lt r e).1)
              go_roundw
              case rel => exact ⟨k + 1, by omega, by go_num, by rw [eS.out]; exact ho8, hB8⟩
              case measure => first | (simp [intOf]; done) | (simp [intOf]; omega)
            · obtain rfl : k = 16 := by omega
              have h3 : wr.ownsRow y1.heap.size 34 3 u3 (lstS 16 sixD).length (cellsL (lstS 16 sixD)) := OW.out
              obtain ⟨p9, c9, hv, hc9, ho⟩ := ownL_of_row h3
              subst hv
              have HF : Hid (ShwDrw w B b len cap (m + 100) a (.returned (.slice p9 (lstS 16 sixD).length c9)) wr) := ⟨lstS 16 sixD, p9, c9, rfl, hc9, by rw [lstS_len]; exact Nat.le_refl _, six_ok, ho.low hsz1, HC1.out.belowS hB, grownBy_own HG1.out (grown_none hB) (fun i e => by cases e)⟩
              clear OW h3 ho hB HC1 HG1
              go_wp2_with fail
              go_ret
              exact HF.out
end Go.Proofs.Ytibepggakjfbcaa
