/- Shadow variables: the model's l11Alloc. -/
import Derived.Test.YtibepggakjfbcaaSpcA
namespace Go.Proofs.Ytibepggakjfbcaa
open Go Go.RowKit Go.Maps
set_option linter.unusedVariables false

theorem insL_split (d : ShwD) : ∀ (L : List ShwD) (k : Nat), k ≤ L.length → (∀ i, i < k → ltK (keyD (nthD L i)) (keyD d)) → (k < L.length → ¬ ltK (keyD (nthD L k)) (keyD d)) → insL d L = L.take k ++ d :: L.drop k
  | [], k, h, _, _ => by
    obtain rfl : k = 0 := by simpa using h
    rfl
  | e :: r, 0, h, _, hn => by
    have : ¬ ltK (keyD e) (keyD d) := hn (by simp)
    simp only [insL, List.take_zero, List.drop_zero, List.nil_append]
    rw [if_neg this]
  | e :: r, k + 1, h, hl, hn => by
    have h0 := hl 0 (by omega)
    have ih := insL_split d r k (by simp at h; omega) (fun i hi => hl (i + 1) (by omega)) (fun hk => hn (by simp; omega))
    simp only [insL, List.take_succ_cons, List.drop_succ_cons, List.cons_append]
    rw [if_pos (show ltK (keyD e) (keyD d) from h0), ih]
theorem fst_none {n : Nat} {S : Nat → ShwD} {x : Int × Int} {r : Int} (h : FstK n S x r) : r = -1 ↔ hasL (lstS n S) x = false := by
  constructor
  · rintro rfl
    cases hh : hasL (lstS n S) x with
    | false => rfl
    | true =>
      obtain ⟨d, hd, he⟩ := hasL_iff.1 hh
      obtain ⟨i, hi, rfl⟩ := lstS_mem.1 hd
      rcases h with h | ⟨k, _, h2, _⟩
      · exact absurd he (h.2 i hi)
      · omega
  · intro hh
    rcases h with h | ⟨k, h1, h2, h3, _⟩
    · exact h.1
    · have : hasL (lstS n S) x = true := hasL_iff.2 ⟨S k, lstS_mem.2 ⟨k, h1, rfl⟩, h3⟩
      rw [hh] at this
      cases this
theorem fst_some {n : Nat} {S : Nat → ShwD} {x : Int × Int} {r : Int} (h : FstK n S x r) (hh : hasL (lstS n S) x = true) : ∃ k : Nat, k < n ∧ r = (k : Int) ∧ keyD (S k) = x ∧ ∀ i, i < k → keyD (S i) ≠ x := by
  rcases h with h | h
  · have := (fst_none (.inl h)).1 h.1
    rw [hh] at this
    cases this
  · exact h

theorem own_cap {w : World} {B e size n g cap : Nat} {xs : List Value} (h : w.ownsRow B e size (.slice (some ⟨g, 0, none⟩) n cap) n xs) : n ≤ cap := by
  rcases h.2 with ⟨hv, _⟩ | ⟨g', cap', cur, hv, h1, h2, h3, h4⟩
  · cases hv
  · obtain ⟨rfl, rfl⟩ : g = g' ∧ cap = cap' := by simpa using hv
    exact h3
set_option maxRecDepth 100000 in
set_option maxHeartbeats 8000000 in
theorem alcSp (p : Option Addr) (n c : Nat) (S : Nat → ShwD) (o x v : Int) (w : World) (hn : n ≤ 16) (hc : n ≤ c) (hp : ShwsAt w p n S) :
    Calls Try.prog 27 #[.slice p n c, .int .i64 o, .int .i64 x, .int .i64 v] w fun e w' => LstAns w.heap.size (alcL (lstS n S) ⟨o, x, v⟩) (alcF (lstS n S) (o, x)) w e w' := by
  obtain ⟨i0, hi, hz0, hz1, hz2⟩ := info_parts Try.info_shw
  obtain ⟨r, hr⟩ := fstK_ex n S (o, x)
  have FC : Hid (Calls Try.prog 45 #[.slice p n c, .int .i64 o, .int .i64 x] w fun e w' => e = .returned (.int .i64 r) ∧ Below w.heap.size w w') := fndS p n c S o x w (by omega) hp r hr
  have hll := lstS_len n S
  have OWN : Hid (∀ k W, k ≤ n → Below w.heap.size w W → Calls Try.prog 46 #[.slice p k c] W fun e w' => ∃ g cap, e = .returned (.slice (some ⟨g, 0, none⟩) k cap) ∧ w'.ownsRow W.heap.size 34 3 (.slice (some ⟨g, 0, none⟩) k cap) k (cellsL (lstS k S)) ∧ Below W.heap.size W w') := fun k W hk h => ownS p k c S W (by omega) (ShwsAt.take (hp.below h) hk)
  have ANS : Hid (∀ W w' g cap, Below w.heap.size w W → w'.ownsRow W.heap.size 34 3 (.slice (some ⟨g, 0, none⟩) n cap) n (cellsL (lstS n S)) → Below W.heap.size W w' → ∀ f : Int, LstAns w.heap.size (lstS n S) f w (.returned (.tuple #[.slice (some ⟨g, 0, none⟩) n cap, .int .i64 f])) w') := fun W w' g cap hb h h2 f => by
    have h3 : w'.ownsRow W.heap.size 34 3 (.slice (some ⟨g, 0, none⟩) n cap) (lstS n S).length (cellsL (lstS n S)) := by rw [hll]; exact h
    obtain ⟨p9, c9, hv, hc9, ho⟩ := ownL_of_row h3
    refine ⟨p9, c9, ?_, hc9, ho.low hb.size, hb.trans (h2.mono hb.size)⟩
    rw [hv]
  cases hh : hasL (lstS n S) (o, x) with
  | true =>
    obtain ⟨k, hk, rfl, _, _⟩ := fst_some hr hh
    have e1 : alcL (lstS n S) ⟨o, x, v⟩ = lstS n S ∧ alcF (lstS n S) (o, x) = 24 := by
      unfold alcL alcF
      have : hasL (lstS n S) (keyD ⟨o, x, v⟩) = true := hh
      rw [this, hh]
      exact ⟨rfl, rfl⟩
    rw [e1.1, e1.2]
    clear hp hr hh e1
    go_enter Try.func27, Try.ntmps27
    go_wp2_with fail
    refine FC.out.mono ?_
    rintro e w1 ⟨rfl, hb1⟩
    go_wp2_with fail
    refine (OWN.out n w1 (Nat.le_refl _) hb1).mono ?_
    rintro e w2 ⟨g, cap, rfl, ho2, hb2⟩
    have AN := ANS.out w1 w2 g cap hb1 ho2 hb2 24
    have HAN : Hid (LstAns _ _ _ _ _ _) := AN
    clear ho2 hb2 AN
    go_wp2_with fail
    go_ret2
    exact HAN.out
  | false =>
    obtain rfl : r = -1 := (fst_none hr).2 hh
    have hk0 : hasL (lstS n S) (keyD ⟨o, x, v⟩) = false := hh
    by_cases h16 : n = 16
    · have e1 : alcL (lstS n S) ⟨o, x, v⟩ = lstS n S ∧ alcF (lstS n S) (o, x) = 7 := by
        unfold alcL alcF
        rw [hk0, hh, hll, h16]
        exact ⟨rfl, rfl⟩
      rw [e1.1, e1.2]
      subst h16
      clear hp hr hh e1 hk0
      go_enter Try.func27, Try.ntmps27
      go_wp2_with fail
      refine FC.out.mono ?_
      rintro e w1 ⟨rfl, hb1⟩
      go_wp2_with fail
      refine (OWN.out 16 w1 (Nat.le_refl _) hb1).mono ?_
      rintro e w2 ⟨g, cap, rfl, ho2, hb2⟩
      have AN := ANS.out w1 w2 g cap hb1 ho2 hb2 7
      have HAN : Hid (LstAns _ _ _ _ _ _) := AN
      clear ho2 hb2 AN
      go_wp2_with fail
      go_ret2
      exact HAN.out
    · have e1 : alcL (lstS n S) ⟨o, x, v⟩ = insL ⟨o, x, v⟩ (lstS n S) ∧ alcF (lstS n S) (o, x) = 0 := by
        unfold alcL alcF
        rw [hk0, hh, hll, if_neg (by simp), if_neg h16, if_neg (by simp), if_neg h16]
        exact ⟨rfl, rfl⟩
      rw [e1.1, e1.2]
      have ANS2 : Hid (∀ k, k ≤ n → (∀ j, j < k → ltK (keyD (S j)) (o, x)) → (k < n → ¬ ltK (keyD (S k)) (o, x)) → ∀ (w' : World) (base m : Nat) (g cap : Nat), m = k + 1 + (n - k) → w'.ownsRow base 34 3 (.slice (some ⟨g, 0, none⟩) m cap) m (cellsL (lstS k S) ++ [.int .i64 o, .int .i64 x, .int .i64 v] ++ cellsL (lstS (n - k) fun i => S (k + i))) → w.heap.size ≤ base → Below w.heap.size w w' → LstAns w.heap.size (insL ⟨o, x, v⟩ (lstS n S)) 0 w (.returned (.tuple #[.slice (some ⟨g, 0, none⟩) m cap, .int .i64 0])) w') := by
        intro k hk h1 h2 w' base m g cap hm hrow hbase hb
        have hsp := insL_split ⟨o, x, v⟩ (lstS n S) k (by rw [hll]; exact hk) (fun i hi => by rw [lstS_nth (by omega)]; exact h1 i hi) (fun h => by rw [hll] at h; rw [lstS_nth h]; exact h2 h)
        rw [lstS_take n k S hk, lstS_drop n k S hk] at hsp
        have hlen : (insL ⟨o, x, v⟩ (lstS n S)).length = m := by rw [insL_len, hll]; omega
        have hcs : cellsL (insL ⟨o, x, v⟩ (lstS n S)) = cellsL (lstS k S) ++ [.int .i64 o, .int .i64 x, .int .i64 v] ++ cellsL (lstS (n - k) fun i => S (k + i)) := by
          rw [hsp, cellsL_append, cellsL_cons]
          simp
        have hrow2 : w'.ownsRow base 34 3 (.slice (some ⟨g, 0, none⟩) m cap) (insL ⟨o, x, v⟩ (lstS n S)).length (cellsL (insL ⟨o, x, v⟩ (lstS n S))) := by rw [hlen, hcs]; exact hrow
        obtain ⟨p9, c9, hv, hc9, ho⟩ := ownL_of_row hrow2
        exact ⟨p9, c9, by rw [hv], hc9, ho.low hbase, hb⟩
      have hne16 : ((n : Int) == 16) = false := by rw [beq_eq_false_iff_ne]; omega
      clear hr hh e1 hk0 ANS
      go_enter Try.func27, Try.ntmps27
      go_wp2_with fail
      refine FC.out.mono ?_
      rintro e w1 ⟨rfl, hb1⟩
      have HB1 : Hid (Below w.heap.size w w1) := hb1
      have hp1 := hp.below hb1
      clear hb1 FC hp
      go_wp2_with fail
      go_loopw [10] (fun i wr => ∃ k : Nat, k ≤ n ∧ i = .int .i64 k ∧ Hid (∀ j, j < k → ltK (keyD (S j)) (o, x)) ∧ Below w1.heap.size w1 wr) (fun i _ => n - (intOf i).toNat)
      case atStart => exact ⟨0, Nat.zero_le _, rfl, fun j hj => absurd hj (Nat.not_lt_zero _), Below.refl _ _⟩
      case round =>
        obtain ⟨k, hk, rfl, HALL, hB⟩ := hrel
        have hszr := hB.size
        by_cases hlt : k < n
        · have hpr := hp1.below hB
          rcases hpr with hp' | ⟨pb, po, rfl, hplr, hpv⟩
          · omega
          obtain ⟨x0, x1, x2⟩ := hpv.shw hlt
          obtain ⟨a, ea⟩ : ∃ a, (S k).ob = a := ⟨_, rfl⟩
          obtain ⟨d, ed⟩ : ∃ a, (S k).ix = a := ⟨_, rfl⟩
          rw [ea] at x0
          rw [ed] at x1
          have HK : Hid (keyD (S k) = (a, d)) := by show keyD (S k) = _; unfold keyD; rw [ea, ed]
          clear ea ed x2
          obtain ⟨r, hr⟩ : ∃ r : Bool, r = decide (ltK (a, d) (o, x)) := ⟨_, rfl⟩
          obtain ⟨L1, L2⟩ := lessTwo wr a d o x r hr
          have HLS : Hid (Calls _ _ _ _ _) := L1
          have HLS2 : Hid (Calls _ _ _ _ _) := L2
          have HR : Hid (r = true ↔ ltK (a, d) (o, x)) := by rw [hr, decide_eq_true_iff]; exact Iff.rfl
          have HBr : Hid (Below w1.heap.size w1 wr) := hB
          have hs1 : (k : Int) < (n : Int) := by omega
          have hs2 : (0 : Int) ≤ (k : Int) := by omega
          clear L1 L2 hr hB
          go_wp2_with fail
          cases r with
          | true =>
            have HNX : Hid (∀ j, j < k + 1 → ltK (keyD (S j)) (o, x)) := fun j hj => by
              rcases Nat.lt_succ_iff_lt_or_eq.1 hj with h' | rfl
              · exact HALL.out j h'
              · rw [HK.out]; exact HR.out.1 rfl
            go_region_held3 (fun w' => w'.cell? ⟨pb, po + k * 3, none⟩ = some (.int .i64 a) ∧ w'.cell? ⟨pb, po + k * 3 + 1, none⟩ = some (.int .i64 d)) (go_keep) ((go_at_call 47; (first | (with_reducible refine HLS.out.mono ?_) | (with_reducible refine HLS2.out.mono ?_)); rintro e w6 ⟨rfl, hb6⟩; have c0 := (hb6.cell (p := ⟨pb, po + k * 3, none⟩) hplr).trans x0; have c1 := (hb6.cell (p := ⟨pb, po + k * 3 + 1, none⟩) hplr).trans x1))
            all_goals
              have HB6 : Hid (Below w1.heap.size w1 w6) := HBr.out.trans (hb6.mono hszr)
              clear c0 c1 HLS HLS2 x0 x1 hpv hb6
              go_wp2_with fail
              go_roundw
              case rel => exact ⟨k + 1, by omega, by go_num, HNX, HB6.out⟩
              case measure => first | (simp [intOf]; done) | (simp [intOf]; omega)
          | false =>
            have HST : Hid (¬ ltK (keyD (S k)) (o, x)) := by
              show ¬ ltK (keyD (S k)) (o, x)
              rw [HK.out]
              intro h
              have := HR.out.2 h
              cases this
            go_region_held3 (fun w' => w'.cell? ⟨pb, po + k * 3, none⟩ = some (.int .i64 a) ∧ w'.cell? ⟨pb, po + k * 3 + 1, none⟩ = some (.int .i64 d)) (go_keep) ((go_at_call 47; (first | (with_reducible refine HLS.out.mono ?_) | (with_reducible refine HLS2.out.mono ?_)); rintro e w6 ⟨rfl, hb6⟩; have c0 := (hb6.cell (p := ⟨pb, po + k * 3, none⟩) hplr).trans x0; have c1 := (hb6.cell (p := ⟨pb, po + k * 3 + 1, none⟩) hplr).trans x1))
            all_goals
              have HB6 : Hid (Below w1.heap.size w1 w6) := HBr.out.trans (hb6.mono hszr)
              have HPV : Hid (VRow w6 pb po (n * 3) (shwV S)) := hpv.below hb6 hplr
              have hsz6 := hb6.size
              clear c0 c1 HLS HLS2 x0 x1 hpv hb6
              have hpl6 : pb < w6.heap.size := Nat.lt_of_lt_of_le hplr (by omega)
              go_wp2_with fail
              have TB : Below w.heap.size w w6 := HB1.out.trans (HB6.out.mono HB1.out.size)
              have hs8 : (k : Int) ≤ (c : Int) := by omega
              refine (OWN.out k w6 (by omega) TB).mono ?_
              rintro e w7 ⟨g7, cap7, rfl, ho7, hb7⟩
              have hs7 := hb7.size
              go_wp2_with (first | (at_builtin; refine wpList_append_lies _ rfl (.tmp 50) (.tmp 55) 23 rfl w6.heap.size 34 i0 _ 3 24 Try.underlying23 hi hz0 hz1 hz2 rfl (by omega) _ _ _ rfl (ho7.alloc _) ⟨w7.heap.size, 0, none⟩ 1 1 [.int .i64 o, .int .i64 x, .int .i64 v] rfl rfl (World.news_of_block (cs := #[.int .i64 o, .int .i64 x, .int .i64 v]) (t := 34) (fr := (0, 0)) (heap_alloc_new w7 _)) (by simp [Value.oneCell']) (by omega) (by unfold maxLen; omega) (by omega) (by simp; omega) (w7.heap.size + 1) (by simp) ?_; intro g8 cap8 w8 ho8 hg8 hat8 hlt8; have b8 : Below w6.heap.size w6 w8 := (hb7.alloc hs7 _).grown hg8 (by simp; omega) (fun r e => (ho7.lt r e).1); have V8 := newsV ((HPV.out.below b8 hpl6).drop3 (k := k) (by omega)); have LL := cellsL_len (lstS (n - k) fun i => S (k + i)); rw [lstS_len] at LL; have O8 := cellsL_one (lstS (n - k) fun i => S (k + i)); have hs9 := b8.size) | (at_builtin; refine wpList_append_lies _ rfl (.tmp 57) (.tmp 60) 23 rfl w6.heap.size 34 i0 _ 3 24 Try.underlying23 hi hz0 hz1 hz2 rfl (by omega) _ _ _ rfl ho8 ⟨pb, po + k * 3, none⟩ (n - k) (c - k) (cellsL (lstS (n - k) fun i => S (k + i))) rfl LL V8 O8 (by omega) (by unfold maxLen; omega) (by omega) hs9 _ rfl ?_; intro g9 cap9 w9 ho9 hg9 hat9 hlt9; have b9 : Below w6.heap.size w6 w9 := b8.grown hg9 hs9 (fun r e => (ho8.lt r e).1)))
              have HA := ANS2.out k (by omega) HALL.out (fun _ => HST.out) w9 w6.heap.size _ g9 cap9 rfl ho9 TB.size (TB.trans (b9.mono TB.size))
              go_ret2
              exact HA
        · obtain rfl : k = n := by omega
          have TB0 : Below w.heap.size w wr := HB1.out.trans (hB.mono HB1.out.size)
          have HTB : Hid (∀ W, W = wr ∨ W = wr.drew → Below w.heap.size w W) := fun W h => by
            rcases h with rfl | rfl
            · exact TB0
            · exact TB0.drew
          have hs8 : (k : Int) ≤ (c : Int) := by omega
          have hs2 : (0 : Int) ≤ (k : Int) := by omega
          clear hB hp1 TB0 HB1
          cases p
          all_goals
            go_wp2_with fail
            try go_region
            all_goals
              try go_wp2_with fail
              refine (OWN.out k _ (Nat.le_refl _) (by first | exact HTB.out _ (.inl rfl) | exact HTB.out _ (.inr rfl))).mono ?_
              rintro e w7 ⟨g7, cap7, rfl, ho7, hb7⟩
              obtain ⟨W6, hW6, TB, hb8⟩ : ∃ W6 : World, W6.heap.size = wr.heap.size ∧ Below w.heap.size w W6 ∧ Below W6.heap.size W6 w7 := by
                first
                  | exact ⟨wr, rfl, HTB.out _ (.inl rfl), hb7⟩
                  | exact ⟨wr.drew, rfl, HTB.out _ (.inr rfl), hb7⟩
              clear hb7
              have hb7 := hb8
              clear hb8
              have hs7 := hb7.size
              have ho7 : w7.ownsRow W6.heap.size 34 3 (.slice (some ⟨g7, 0, none⟩) k cap7) k (cellsL (lstS k S)) := by rw [hW6]; exact ho7
              go_wp2_with (first | (at_builtin; refine wpList_append_lies _ rfl (.tmp 50) (.tmp 55) 23 rfl W6.heap.size 34 i0 _ 3 24 Try.underlying23 hi hz0 hz1 hz2 rfl (by omega) _ _ _ rfl (ho7.alloc _) ⟨w7.heap.size, 0, none⟩ 1 1 [.int .i64 o, .int .i64 x, .int .i64 v] rfl rfl (World.news_of_block (cs := #[.int .i64 o, .int .i64 x, .int .i64 v]) (t := 34) (fr := (0, 0)) (heap_alloc_new w7 _)) (by simp [Value.oneCell']) (by omega) (by unfold maxLen; omega) (by omega) (by simp; omega) (w7.heap.size + 1) (by simp) ?_; intro g8 cap8 w8 ho8 hg8 hat8 hlt8; have b8 : Below W6.heap.size W6 w8 := (hb7.alloc hs7 _).grown hg8 (by simp; omega) (fun r e => (ho7.lt r e).1); have hc8 := own_cap ho8; have hst : ∀ a : Addr, (storeCells a [] 0).run Try.prog w8 = .ok () w8 := fun a => rfl))
              all_goals
                have HA := ANS2.out k (Nat.le_refl _) HALL.out (fun h => absurd h (Nat.lt_irrefl _)) w8 W6.heap.size (k + 1) g8 cap8 (by omega) (by rw [show lstS (k - k) (fun i => S (k + i)) = [] from by simp [lstS], show cellsL ([] : List ShwD) = [] from rfl, List.append_nil]; exact ho8) TB.size (TB.trans (b8.mono TB.size))
                go_ret2
                exact HA
end Go.Proofs.Ytibepggakjfbcaa
