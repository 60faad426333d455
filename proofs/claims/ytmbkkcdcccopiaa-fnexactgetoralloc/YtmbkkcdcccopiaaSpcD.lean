/- Shadow variables: the model's l11Free, l11GetOr. -/
import Derived.Test.YtmbkkcdcccopiaaSpcC
import Derived.Test.YtmbkkcdcccopiaaPubD
namespace Go.Proofs.Ytmbkkcdcccopiaa
open Go Go.RowKit Go.Maps
set_option linter.unusedVariables false

theorem cells_nil (T : Nat → ShwD) : cellsL (lstS 0 T) = [] := rfl
theorem lstS_split {n k : Nat} {S : Nat → ShwD} (hk : k < n) : lstS n S = lstS k S ++ S k :: lstS (n - (k + 1)) (fun i => S (k + 1 + i)) := by
  have h1 := (List.take_append_drop k (lstS n S)).symm
  rw [lstS_take n k S (by omega)] at h1
  have h2 : (lstS n S).drop k = S k :: (lstS n S).drop (k + 1) := by
    rw [List.drop_eq_getElem_cons (by rw [lstS_len]; exact hk)]
    congr 1
    simp [lstS]
  rw [h2, lstS_drop n (k + 1) S (by omega)] at h1
  exact h1
theorem freL_at {n k : Nat} {S : Nat → ShwD} (h : ShwOK n S) (hk : k < n) : freL (lstS n S) (keyD (S k)) = lstS k S ++ lstS (n - (k + 1)) (fun i => S (k + 1 + i)) := by
  rw [lstS_split hk]
  unfold freL
  rw [List.filter_append, List.filter_cons]
  have h1 : (decide (keyD (S k) ≠ keyD (S k))) = false := by simp
  rw [h1]
  simp only [Bool.false_eq_true, if_false]
  congr 1
  · refine List.filter_eq_self.2 fun e he => ?_
    obtain ⟨i, hi, rfl⟩ := lstS_mem.1 he
    have : keyD (S i) ≠ keyD (S k) := fun e2 => by have := uniq h (by omega) hk e2; omega
    simpa using this
  · refine List.filter_eq_self.2 fun e he => ?_
    obtain ⟨i, hi, rfl⟩ := lstS_mem.1 he
    have : keyD (S (k + 1 + i)) ≠ keyD (S k) := fun e2 => by have := uniq h (by omega) hk e2; omega
    simpa using this

set_option maxRecDepth 100000 in
set_option maxHeartbeats 8000000 in
theorem freSp (p : Option Addr) (n c : Nat) (S : Nat → ShwD) (o x : Int) (w : World) (hok : ShwOK n S) (hc : n ≤ c) (hp : ShwsAt w p n S) :
    Calls Try.prog 50 #[.slice p n c, .int .i64 o, .int .i64 x] w fun e w' => LstAns w.heap.size (freL (lstS n S) (o, x)) (putF (lstS n S) (o, x)) w e w' := by
  obtain ⟨i0, hi, hz0, hz1, hz2⟩ := info_parts Try.info_shw
  have hn := hok.1
  obtain ⟨r, hr⟩ := fstK_ex n S (o, x)
  have hll := lstS_len n S
  have FND : Hid (Calls _ _ _ _ _) := fndS p n c S o x w (by omega) hp r hr
  have OWN : Hid (∀ k W, k ≤ n → Below w.heap.size w W → Calls Try.prog 59 #[.slice p k c] W fun e w' => ∃ g cap, e = .returned (.slice (some ⟨g, 0, none⟩) k cap) ∧ w'.ownsRow W.heap.size 44 3 (.slice (some ⟨g, 0, none⟩) k cap) k (cellsL (lstS k S)) ∧ Below W.heap.size W w') := fun k W hk h => ownS p k c S W (by omega) (ShwsAt.take (hp.below h) hk)
  cases hh : hasL (lstS n S) (o, x) with
  | false =>
    obtain rfl : r = -1 := (fst_none hr).2 hh
    have e2 : putF (lstS n S) (o, x) = 5 := by unfold putF; rw [hh]; rfl
    rw [freL_none hh, e2]
    clear hr hh e2 hok hp
    go_enter Try.func50, Try.ntmps50
    go_wp2_with fail
    refine FND.out.mono ?_
    rintro e w1 ⟨rfl, hb1⟩
    go_wp2_with fail
    refine (OWN.out n w1 (Nat.le_refl _) hb1).mono ?_
    rintro e w2 ⟨g, cap, rfl, ho2, hb2⟩
    have h3 : w2.ownsRow w1.heap.size 44 3 (.slice (some ⟨g, 0, none⟩) n cap) (lstS n S).length (cellsL (lstS n S)) := by rw [hll]; exact ho2
    obtain ⟨p9, c9, hv, hc9, ho⟩ := ownL_of_row h3
    have HA : Hid (LstAns w.heap.size (lstS n S) 5 w (.returned (.tuple #[.slice (some ⟨g, 0, none⟩) n cap, .int .i64 5])) w2) := ⟨p9, c9, by rw [hv], hc9, ho.low hb1.size, hb1.trans (hb2.mono hb1.size)⟩
    clear hb1 hb2 h3 hv ho ho2
    go_wp2_with fail
    go_ret2
    exact HA.out
  | true =>
    obtain ⟨k, hk, rfl, hkk, _⟩ := fst_some hr hh
    have e2 : putF (lstS n S) (o, x) = 0 := by unfold putF; rw [hh]; rfl
    have e3 := freL_at hok hk
    rw [hkk] at e3
    rw [e3, e2]
    rcases hp with h0 | ⟨pb, po, rfl, hpl, hpv⟩
    · omega
    obtain ⟨m, hm⟩ : ∃ m, k + 1 = m := ⟨_, rfl⟩
    have hw1 : IntKind.i64.wrap ((k : Int) + 1) = (m : Int) := by rw [IntKind.wrap_i64]; omega
    have hs1 : (0 : Int) ≤ (k : Int) := by omega
    have hs2 : (k : Int) ≤ (c : Int) := by omega
    have hs3 : (0 : Int) ≤ (m : Int) := by omega
    have hs4 : (m : Int) ≤ (n : Int) := by omega
    have hs5 : (n : Int) ≤ (c : Int) := by omega
    have hs6 : (m : Int) ≤ (c : Int) := by omega
    rw [hm]
    have HPV : Hid (∀ W, Below w.heap.size w W → VRow W pb po (n * 3) (shwV S)) := fun W h => hpv.below h hpl
    have ANS : Hid (∀ (w' : World) (base M : Nat) (g cap : Nat), M = k + (n - m) → w'.ownsRow base 44 3 (.slice (some ⟨g, 0, none⟩) M cap) M (cellsL (lstS k S) ++ cellsL (lstS (n - m) fun i => S (m + i))) → w.heap.size ≤ base → Below w.heap.size w w' → LstAns w.heap.size (lstS k S ++ lstS (n - m) fun i => S (m + i)) 0 w (.returned (.tuple #[.slice (some ⟨g, 0, none⟩) M cap, .int .i64 0])) w') := by
      intro w' base M g cap hM hrow hbase hb
      have hlen : (lstS k S ++ lstS (n - m) fun i => S (m + i)).length = M := by rw [List.length_append, lstS_len, lstS_len]; omega
      have hrow2 : w'.ownsRow base 44 3 (.slice (some ⟨g, 0, none⟩) M cap) (lstS k S ++ lstS (n - m) fun i => S (m + i)).length (cellsL (lstS k S ++ lstS (n - m) fun i => S (m + i))) := by rw [hlen, cellsL_append]; exact hrow
      obtain ⟨p9, c9, hv, hc9, ho⟩ := ownL_of_row hrow2
      exact ⟨p9, c9, by rw [hv], hc9, ho.low hbase, hb⟩
    clear hr hh e2 e3 hok hkk hpv
    go_enter Try.func50, Try.ntmps50
    go_wp2_with fail
    refine FND.out.mono ?_
    rintro e w1 ⟨rfl, hb1⟩
    have HB1 : Hid (Below w.heap.size w w1) := hb1
    have hsz1 := hb1.size
    clear hb1
    go_wp2_with fail
    by_cases hlast : m = n
    · have hnm : n - m = 0 := by omega
      subst hlast
      have HM : Hid (k + 1 = m) := hm
      clear hm
      by_cases hcm : c = m
      · subst hcm
        go_region_held3 (fun _ => True) (go_keep) ((go_at_call 59; refine (OWN.out k _ (Nat.le_of_lt hk) (by first | exact HB1.out.drew | exact HB1.out)).mono ?_; rintro e w7 ⟨g7, cap7, rfl, ho7, hb7⟩; have b7 : Below w1.heap.size w1 w7 := (by first | exact (Below.refl w1.heap.size w1).drew.trans hb7 | exact hb7); have hc7 := own_cap ho7; have hst : ∀ a : Addr, (storeCells a [] 0).run Try.prog w7 = .ok () w7 := fun a => rfl))
        all_goals
          have HA := ANS.out w7 w1.heap.size k g7 cap7 (by have := HM.out; omega) (by rw [hnm, cells_nil, List.append_nil]; exact ho7) hsz1 (HB1.out.trans (b7.mono hsz1))
          go_wp2_with fail
          all_goals
            go_ret2
            exact HA
      · have hcm2 : ¬ c - m = 0 := by omega
        have hcm3 : m < c := by omega
        go_region_held3 (fun _ => True) (go_keep) ((go_at_call 59; refine (OWN.out k _ (Nat.le_of_lt hk) (by first | exact HB1.out.drew | exact HB1.out)).mono ?_; rintro e w7 ⟨g7, cap7, rfl, ho7, hb7⟩; have b7 : Below w1.heap.size w1 w7 := (by first | exact (Below.refl w1.heap.size w1).drew.trans hb7 | exact hb7); have hc7 := own_cap ho7; have hst : ∀ a : Addr, (storeCells a [] 0).run Try.prog w7 = .ok () w7 := fun a => rfl))
        all_goals
          have HA := ANS.out w7 w1.heap.size k g7 cap7 (by have := HM.out; omega) (by rw [hnm, cells_nil, List.append_nil]; exact ho7) hsz1 (HB1.out.trans (b7.mono hsz1))
          go_wp2_with fail
          all_goals
            go_ret2
            exact HA
    · go_region_held3 (fun _ => True) (go_keep) (first | (go_at_call 59; refine (OWN.out k _ (Nat.le_of_lt hk) (by first | exact HB1.out.drew | exact HB1.out)).mono ?_; rintro e w7 ⟨g7, cap7, rfl, ho7, hb7⟩; have b7 : Below w1.heap.size w1 w7 := (by first | exact (Below.refl w1.heap.size w1).drew.trans hb7 | exact hb7); have V7 := newsV ((HPV.out w7 (HB1.out.trans (b7.mono hsz1))).drop3 (k := m) (by omega)); have LL := cellsL_len (lstS (n - m) fun i => S (m + i)); rw [lstS_len] at LL; have O7 := cellsL_one (lstS (n - m) fun i => S (m + i)); have hs7 := b7.size) | (refine step_append_lies _ (by rfl) (.tmp 20) (.tmp 24) 25 (by rfl) w1.heap.size 44 i0 _ 3 24 Try.underlying25 hi hz0 hz1 hz2 rfl (by omega) _ _ _ (by rfl) ho7 ⟨pb, po + m * 3, none⟩ (n - m) (c - m) (cellsL (lstS (n - m) fun i => S (m + i))) (by rfl) LL V7 O7 (by omega) (by unfold maxLen; omega) (by omega) hs7 _ rfl ?_; intro g9 cap9 w9 ho9 hg9 hat9 hlt9; have b9 : Below w1.heap.size w1 w9 := b7.grown hg9 hs7 (fun r e => (ho7.lt r e).1)))
      all_goals
        have HA := ANS.out w9 w1.heap.size (k + (n - m)) g9 cap9 rfl ho9 hsz1 (HB1.out.trans (b9.mono hsz1))
        go_wp2_with fail
        go_ret2
        exact HA

theorem getV_at {n k : Nat} {S : Nat → ShwD} (h : ShwOK n S) (hk : k < n) : getV (lstS n S) (keyD (S k)) = (S k).va := by
  unfold getV
  cases hf : (lstS n S).find? fun d => decide (keyD d = keyD (S k)) with
  | none =>
    have := List.find?_eq_none.1 hf (S k) (lstS_mem.2 ⟨k, hk, rfl⟩)
    simp at this
  | some d =>
    have h1 := List.find?_some hf
    obtain ⟨j, hj, rfl⟩ := lstS_mem.1 (List.mem_of_find?_eq_some hf)
    have e : keyD (S j) = keyD (S k) := by simpa using h1
    rw [uniq h hj hk e]
    rfl
theorem getV_none {L : List ShwD} {x : Int × Int} (h : hasL L x = false) : getV L x = 0 := by
  unfold getV
  cases hf : L.find? fun d => decide (keyD d = x) with
  | none => rfl
  | some d =>
    have h1 := List.find?_some hf
    have : hasL L x = true := hasL_iff.2 ⟨d, List.mem_of_find?_eq_some hf, by simpa using h1⟩
    rw [h] at this
    cases this
theorem getV_ins {L : List ShwD} {d : ShwD} (h : hasL L (keyD d) = false) : getV (insL d L) (keyD d) = d.va := by
  unfold getV
  cases hf : (insL d L).find? fun e => decide (keyD e = keyD d) with
  | none =>
    have := List.find?_eq_none.1 hf d ((insL_perm d L).mem_iff.2 List.mem_cons_self)
    simp at this
  | some e =>
    have h1 : keyD e = keyD d := by simpa using List.find?_some hf
    rcases List.mem_cons.1 ((insL_perm d L).mem_iff.1 (List.mem_of_find?_eq_some hf)) with rfl | h2
    · rfl
    · have : hasL L (keyD d) = true := hasL_iff.2 ⟨e, h2, h1⟩
      rw [h] at this
      cases this

set_option maxRecDepth 100000 in
set_option maxHeartbeats 8000000 in
theorem gooSp (p : Option Addr) (n c : Nat) (S : Nat → ShwD) (o x v : Int) (y f : Int) (w : World) (hok : ShwOK n S) (hc : n ≤ c) (hp : ShwsAt w p n S) (hy : y = getV (alcL (lstS n S) ⟨o, x, v⟩) (o, x)) (hf : f = if alcF (lstS n S) (o, x) = 24 then 0 else alcF (lstS n S) (o, x)) :
    Calls Try.prog 47 #[.slice p n c, .int .i64 o, .int .i64 x, .int .i64 v] w fun e w' => LstAns3 w.heap.size (alcL (lstS n S) ⟨o, x, v⟩) y f w e w' := by
  have hn := hok.1
  obtain ⟨r, hr⟩ := fstK_ex n S (o, x)
  have hll := lstS_len n S
  have FND : Hid (Calls _ _ _ _ _) := fndS p n c S o x w (by omega) hp r hr
  cases hh : hasL (lstS n S) (o, x) with
  | true =>
    obtain ⟨k, hk, rfl, hkk, _⟩ := fst_some hr hh
    have e1 : alcL (lstS n S) ⟨o, x, v⟩ = lstS n S ∧ alcF (lstS n S) (o, x) = 24 := by
      unfold alcL alcF
      have : hasL (lstS n S) (keyD ⟨o, x, v⟩) = true := hh
      rw [this, hh]
      exact ⟨rfl, rfl⟩
    rw [e1.1, ← hkk, getV_at hok hk] at hy
    rw [e1.2, if_pos rfl] at hf
    rw [e1.1]
    subst hf
    have OWN : Hid (∀ W, Below w.heap.size w W → Calls Try.prog 59 #[.slice p n c] W fun e w' => ∃ g cap, e = .returned (.slice (some ⟨g, 0, none⟩) n cap) ∧ w'.ownsRow W.heap.size 44 3 (.slice (some ⟨g, 0, none⟩) n cap) n (cellsL (lstS n S)) ∧ Below W.heap.size W w') := fun W h => ownS p n c S W (by omega) (hp.below h)
    rcases hp with h0 | ⟨pb, po, rfl, hpl, hpv⟩
    · omega
    obtain ⟨_, _, x2⟩ := hpv.shw hk
    rw [← hy] at x2
    have hs1 : (0 : Int) ≤ (k : Int) := by omega
    have hs2 : (k : Int) < (n : Int) := by omega
    clear hr hh e1 hok hkk hpv hy
    go_enter Try.func47, Try.ntmps47
    go_wp2_with fail
    refine FND.out.mono ?_
    rintro e w1 ⟨rfl, hb1⟩
    have x2' := (hb1.cell (p := ⟨pb, po + k * 3 + 2, none⟩) hpl).trans x2
    have hpl1 : pb < w1.heap.size := Nat.lt_of_lt_of_le hpl hb1.size
    have HB1 : Hid (Below w.heap.size w w1) := hb1
    have hsz1 := hb1.size
    clear hb1 x2
    go_wp2_with fail
    go_region_held3 (fun w' => w'.cell? ⟨pb, po + k * 3 + 2, none⟩ = some (.int .i64 y)) (go_keep) ((go_at_call 59; refine (OWN.out _ (by first | exact HB1.out.drew | exact HB1.out)).mono ?_; rintro e w7 ⟨g7, cap7, rfl, ho7, hb7⟩; have b7 : Below w1.heap.size w1 w7 := (by first | exact (Below.refl w1.heap.size w1).drew.trans hb7 | exact hb7); have z2 := (b7.cell (p := ⟨pb, po + k * 3 + 2, none⟩) hpl1).trans x2'))
    all_goals
      have h3 : w7.ownsRow w1.heap.size 44 3 (.slice (some ⟨g7, 0, none⟩) n cap7) (lstS n S).length (cellsL (lstS n S)) := by rw [hll]; exact ho7
      obtain ⟨p9, c9, hv, hc9, ho⟩ := ownL_of_row h3
      have HA : Hid (LstAns3 w.heap.size (lstS n S) y 0 w (.returned (.tuple #[.slice (some ⟨g7, 0, none⟩) n cap7, .int .i64 y, .int .i64 0])) w7) := ⟨p9, c9, by rw [hv], hc9, ho.low hsz1, HB1.out.trans (b7.mono hsz1)⟩
      clear h3 hv ho ho7 hb7 b7 z2 x2'
      go_wp2_with fail
      go_ret3
      exact HA.out
  | false =>
    obtain rfl : r = -1 := (fst_none hr).2 hh
    have hk0 : hasL (lstS n S) (keyD ⟨o, x, v⟩) = false := hh
    have AC : Hid (∀ W, Below w.heap.size w W → Calls Try.prog 44 #[.slice p n c, .int .i64 o, .int .i64 x, .int .i64 v] W fun e w' => LstAns W.heap.size (alcL (lstS n S) ⟨o, x, v⟩) (alcF (lstS n S) (o, x)) W e w') := fun W h => alcSp p n c S o x v W hn hc (hp.below h)
    have h24 : alcF (lstS n S) (o, x) ≠ 24 := by unfold alcF; rw [hh]; simp only [Bool.false_eq_true, if_false]; split <;> decide
    rw [if_neg h24] at hf
    have hval : (f = 0 ∧ y = v) ∨ (f ≠ 0 ∧ y = 0) := by
      rw [hf, hy]
      unfold alcF alcL
      rw [hk0, hh]
      simp only [Bool.false_eq_true, if_false]
      by_cases h16 : (lstS n S).length = 16
      · rw [if_pos h16, if_pos h16]
        exact .inr ⟨by decide, getV_none hh⟩
      · rw [if_neg h16, if_neg h16]
        exact .inl ⟨rfl, getV_ins (d := ⟨o, x, v⟩) hk0⟩
    obtain ⟨L', hL'⟩ : ∃ L', alcL (lstS n S) ⟨o, x, v⟩ = L' := ⟨_, rfl⟩
    rw [hL', ← hf] at AC
    rw [hL']
    clear hr hh hk0 hp hy hf h24 hok hL'
    go_enter Try.func47, Try.ntmps47
    go_wp2_with fail
    refine FND.out.mono ?_
    rintro e w1 ⟨rfl, hb1⟩
    go_wp2_with fail
    refine (AC.out w1 hb1).mono ?_
    rintro e w2 ⟨q, c2, rfl, hc2, ho2, hb2⟩
    have HO : Hid (OwnR w2 w.heap.size q L'.length 3 (shwV (nthD L'))) := ho2.low hb1.size
    have HB : Hid (Below w.heap.size w w2) := hb1.trans (hb2.mono hb1.size)
    clear hb1 hb2 ho2 AC FND
    rcases hval with ⟨rfl, rfl⟩ | ⟨h1, rfl⟩
    · go_wp2_with fail
      go_ret3
      exact ⟨q, c2, rfl, hc2, HO.out, HB.out⟩
    · have hne : (f != 0) = true := by simpa using h1
      go_wp2_with fail
      go_ret3
      exact ⟨q, c2, rfl, hc2, HO.out, HB.out⟩
end Go.Proofs.Ytmbkkcdcccopiaa
