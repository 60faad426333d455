/- Shadow variables: the model's l11Put, l11FreeId. -/
import Derived.Test.YtmbkkcdcccopiaaSpcB
namespace Go.Proofs.Ytmbkkcdcccopiaa
open Go Go.RowKit Go.Maps
set_option linter.unusedVariables false

theorem uniq {n : Nat} {S : Nat → ShwD} (h : ShwOK n S) {i j : Nat} (hi : i < n) (hj : j < n) (e : keyD (S i) = keyD (S j)) : i = j := by
  rcases Nat.lt_trichotomy i j with h1 | h1 | h1
  · have := h.lt h1 hj; rw [e] at this; exact absurd this (ltK_irrefl _)
  · exact h1
  · have := h.lt h1 hi; rw [e] at this; exact absurd this (ltK_irrefl _)
theorem setL_nth {n : Nat} {S : Nat → ShwD} (h : ShwOK n S) {k : Nat} (hk : k < n) (d : ShwD) (hd : keyD (S k) = keyD d) {i : Nat} (hi : i < n) : nthD (setL d (lstS n S)) i = if i = k then d else S i := by
  have h1 : nthD (setL d (lstS n S)) i = if keyD (S i) = keyD d then d else S i := by simp [nthD, setL, lstS, hi]
  rw [h1]
  by_cases e : i = k
  · subst e; rw [if_pos hd, if_pos rfl]
  · rw [if_neg e, if_neg (fun e2 => e (uniq h hi hk (e2.trans hd.symm)))]
theorem ansOf {w w' : World} {n g cap base : Nat} {L : List ShwD} {f : Int} (hl : L.length = n) (hc : n ≤ cap) (hg : base ≤ g) (hgl : g < w'.heap.size) (hF : FRow w' g 0 (n * 3) (shwV (nthD L))) (hb : w.heap.size ≤ base) (hB : Below w.heap.size w w') : LstAns w.heap.size L f w (.returned (.tuple #[.slice (some ⟨g, 0, none⟩) n cap, .int .i64 f])) w' := by
  subst hl
  exact ⟨_, cap, rfl, hc, .inr ⟨g, rfl, Nat.le_trans hb hg, hgl, hF⟩, hB⟩

set_option maxRecDepth 100000 in
set_option maxHeartbeats 4000000 in
theorem putSp (p : Option Addr) (n c : Nat) (S : Nat → ShwD) (o x v : Int) (w : World) (hok : ShwOK n S) (hp : ShwsAt w p n S) :
    Calls Try.prog 48 #[.slice p n c, .int .i64 o, .int .i64 x, .int .i64 v] w fun e w' => LstAns w.heap.size (putL (lstS n S) ⟨o, x, v⟩) (putF (lstS n S) (o, x)) w e w' := by
  have hn := hok.1
  obtain ⟨r, hr⟩ := fstK_ex n S (o, x)
  have hll := lstS_len n S
  have OWN : Hid (Calls _ _ _ _ _) := ownS p n c S w (by omega) hp
  have FND : Hid (∀ W, Below w.heap.size w W → Calls Try.prog 40 #[.slice p n c, .int .i64 o, .int .i64 x] W fun e w' => e = .returned (.int .i64 r) ∧ Below W.heap.size W w') := fun W h => fndS p n c S o x W (by omega) (hp.below h) r hr
  clear hp
  cases hh : hasL (lstS n S) (o, x) with
  | false =>
    obtain rfl : r = -1 := (fst_none hr).2 hh
    have e1 : putL (lstS n S) ⟨o, x, v⟩ = lstS n S ∧ putF (lstS n S) (o, x) = 5 := by
      unfold putL putF
      have : hasL (lstS n S) (keyD ⟨o, x, v⟩) = false := hh
      rw [this, hh]
      exact ⟨rfl, rfl⟩
    rw [e1.1, e1.2]
    clear hr hh e1 hok
    go_enter Try.func48, Try.ntmps48
    go_wp2_with fail
    refine OWN.out.mono ?_
    rintro e w1 ⟨g, cap, rfl, ho1, hb1⟩
    have HO1 : Hid (w1.ownsRow _ _ _ _ _ _) := ho1
    clear ho1
    go_wp2_with fail
    refine (FND.out w1 hb1).mono ?_
    rintro e w2 ⟨rfl, hb2⟩
    have h3 : w2.ownsRow w.heap.size 44 3 (.slice (some ⟨g, 0, none⟩) n cap) (lstS n S).length (cellsL (lstS n S)) := by rw [hll]; exact row_belowW HO1.out hb2
    obtain ⟨p9, c9, hv, hc9, ho⟩ := ownL_of_row h3
    have HA : Hid (LstAns w.heap.size (lstS n S) 5 w (.returned (.tuple #[.slice (some ⟨g, 0, none⟩) n cap, .int .i64 5])) w2) := ⟨p9, c9, by rw [hv], hc9, ho, hb1.trans (hb2.mono hb1.size)⟩
    clear hb1 hb2 h3 hv ho HO1
    go_wp2_with fail
    go_ret2
    exact HA.out
  | true =>
    obtain ⟨k, hk, rfl, hkk, _⟩ := fst_some hr hh
    have e1 : putL (lstS n S) ⟨o, x, v⟩ = setL ⟨o, x, v⟩ (lstS n S) ∧ putF (lstS n S) (o, x) = 0 := by
      unfold putL putF
      have : hasL (lstS n S) (keyD ⟨o, x, v⟩) = true := hh
      rw [this, hh]
      exact ⟨rfl, rfl⟩
    rw [e1.1, e1.2]
    have hnth : Hid (∀ i, i < n → nthD (setL ⟨o, x, v⟩ (lstS n S)) i = if i = k then ⟨o, x, v⟩ else S i) := fun i hi => setL_nth hok hk ⟨o, x, v⟩ hkk hi
    have hKK : Hid ((S k).ob = o ∧ (S k).ix = x) := ⟨congrArg Prod.fst hkk, congrArg Prod.snd hkk⟩
    have hsl : (setL ⟨o, x, v⟩ (lstS n S)).length = n := by simp [setL, hll]
    have hs1 : (0 : Int) ≤ (k : Int) := by omega
    have hs2 : (k : Int) < (n : Int) := by omega
    clear hr hh e1 hok hkk
    go_enter Try.func48, Try.ntmps48
    go_wp2_with fail
    refine OWN.out.mono ?_
    rintro e w1 ⟨g, cap, rfl, ho1, hb1⟩
    have HO1 : Hid (w1.ownsRow _ _ _ _ _ _) := ho1
    clear ho1
    go_wp2_with fail
    refine (FND.out w1 hb1).mono ?_
    rintro e w2 ⟨rfl, hb2⟩
    have h3 : w2.ownsRow w.heap.size 44 3 (.slice (some ⟨g, 0, none⟩) n cap) (lstS n S).length (cellsL (lstS n S)) := by rw [hll]; exact row_belowW HO1.out hb2
    obtain ⟨p9, c9, hv, hc9, ho⟩ := ownL_of_row h3
    rw [hll] at ho hc9 hv
    obtain ⟨rfl, rfl⟩ : p9 = some ⟨g, 0, none⟩ ∧ cap = c9 := by simpa [eq_comm] using hv
    rcases ho with h0 | ⟨g', hg', hg1, hg2, hF⟩
    · omega
    obtain rfl : g = g' := by simpa using hg'
    have hB2 : Below w.heap.size w w2 := hb1.trans (hb2.mono hb1.size)
    have hcell := hF.1 (k * 3 + 2) (by omega)
    have hfro := hF.2 (k * 3 + 2) (by omega)
    rw [Nat.zero_add] at hcell hfro
    obtain ⟨old, hold⟩ : ∃ old, shwV (nthD (lstS n S)) (k * 3 + 2) = old := ⟨_, rfl⟩
    rw [hold] at hcell
    have hF2 := hF.put (k * 3 + 2) (by omega) (.int .i64 v)
    have hF3 : FRow (w2.setCell ⟨g, k * 3 + 2, none⟩ (.int .i64 v)) g 0 (n * 3) (shwV (nthD (setL ⟨o, x, v⟩ (lstS n S)))) := hF2.congr fun i hi => by
      by_cases e : i = k * 3 + 2
      · subst e
        rw [if_pos rfl, shwV2, hnth.out k hk, if_pos rfl]
      · rw [if_neg e]
        unfold shwV
        rw [hnth.out (i / 3) (by omega), lstS_nth (show i / 3 < n by omega)]
        by_cases e2 : i / 3 = k
        · rw [if_pos e2, e2]
          have h4 : i % 3 = 0 ∨ i % 3 = 1 := by omega
          rcases h4 with h4 | h4
          · rw [if_pos h4, if_pos h4, hKK.out.1]
          · rw [if_neg (by omega), if_pos h4, if_neg (by omega), if_pos h4, hKK.out.2]
        · rw [if_neg e2]
    have HA : Hid (LstAns w.heap.size (setL ⟨o, x, v⟩ (lstS n S)) 0 w (.returned (.tuple #[.slice (some ⟨g, 0, none⟩) n cap, .int .i64 0])) (w2.setCell ⟨g, k * 3 + 2, none⟩ (.int .i64 v))) :=
      ansOf hsl hc9 hg1 (by simp [World.setCell]; exact hg2) hF3 (Nat.le_refl _) (hB2.setCell (p := ⟨g, k * 3 + 2, none⟩) hg1 _)
    clear hb1 hb2 h3 hv hF hF2 hF3 HO1 hB2 hold hg' hsl
    go_wp2_with fail
    go_ret2
    exact HA.out

theorem fidL_succ (k : Nat) (S : Nat → ShwD) (x : Int) : fidL (lstS (k + 1) S) x = if (S k).ix = x then fidL (lstS k S) x else fidL (lstS k S) x ++ [S k] := by
  rw [lstS_succ]
  unfold fidL
  rw [List.filter_append]
  by_cases e : (S k).ix = x
  · rw [if_pos e]; simp [e]
  · rw [if_neg e]; simp [e]
set_option maxRecDepth 100000 in
set_option maxHeartbeats 4000000 in
theorem fidSp (p : Option Addr) (n c : Nat) (S : Nat → ShwD) (x : Int) (w : World) (hn : n ≤ 1048576) (hp : ShwsAt w p n S) :
    Calls Try.prog 52 #[.slice p n c, .int .i64 x] w fun e w' => ∃ q d, e = .returned (.slice q (fidL (lstS n S) x).length d) ∧ (fidL (lstS n S) x).length ≤ d ∧ OwnR w' w.heap.size q (fidL (lstS n S) x).length 3 (shwV (nthD (fidL (lstS n S) x))) ∧ Below w.heap.size w w' := by
  obtain ⟨i0, hi, hz0, hz1, hz2⟩ := info_parts Try.info_shw
  go_enter Try.func52, Try.ntmps52
  go_wp2_with fail
  go_loopw [5, 6] (fun v i wr => ∃ k : Nat, k ≤ n ∧ i = .int .i64 k ∧ (∃ m, m ≤ k ∧ (fidL (lstS k S) x).length = m ∧ Hid (wr.ownsRow w.heap.size 44 3 v m (cellsL (fidL (lstS k S) x)))) ∧ Below w.heap.size w wr) (fun _ i _ => n - (intOf i).toNat)
  case atStart => exact ⟨0, Nat.zero_le _, rfl, ⟨0, Nat.le_refl _, rfl, World.ownsRow_made w #[] 0 (Nat.le_refl _) (Nat.zero_le _) rfl⟩, (Below.refl _ _).alloc (Nat.le_refl _) _⟩
  case round =>
    obtain ⟨k, hk, rfl, ⟨m, hm, hml, OW⟩, hB⟩ := hrel
    by_cases hlt : k < n
    · have hpr := hp.below hB
      rcases hpr with hp' | ⟨pb, po, rfl, hpl, hpv⟩
      · omega
      obtain ⟨x0, x1, x2⟩ := hpv.shw hlt
      have hsucc := fidL_succ k S x
      obtain ⟨d, hd⟩ : ∃ d, S k = d := ⟨_, rfl⟩
      rw [hd] at x0 x1 x2 hsucc
      obtain ⟨ob, ix, va⟩ := d
      simp only at hsucc
      have hsz := hB.size
      clear hpv hd
      by_cases e : ix = x
      · rw [if_pos e] at hsucc
        subst e
        have HN : Hid (fidL (lstS (k + 1) S) ix = fidL (lstS k S) ix) := hsucc
        clear hsucc
        go_wp2_with fail
        try go_region
        all_goals
          try go_wp2_with fail
          go_roundw
          case rel => exact ⟨k + 1, by omega, by go_num, ⟨m, by omega, by rw [HN.out]; exact hml, by rw [HN.out]; exact OW⟩, by first | exact hB | exact hB.drew⟩
          case measure => simp [intOf]; omega
      · rw [if_neg e] at hsucc
        have hne : (ix != x) = true := by simpa using e
        have HN : Hid (fidL (lstS (k + 1) S) x = fidL (lstS k S) x ++ [⟨ob, ix, va⟩]) := hsucc
        have HO : Hid (∀ W, W = wr ∨ W = wr.drew → W.ownsRow w.heap.size 44 3 u5 m (cellsL (fidL (lstS k S) x))) := fun W h => by rcases h with rfl | rfl <;> exact OW.out
        clear hsucc
        go_wp2_with (at_builtin; refine wpList_append_lies _ rfl _ _ 25 rfl w.heap.size 44 i0 _ 3 24 Try.underlying25 hi hz0 hz1 hz2 rfl (by omega) _ _ _ rfl (OW.out.alloc _) ⟨wr.heap.size, 0, none⟩ 1 1 [.int .i64 ob, .int .i64 ix, .int .i64 va] rfl rfl (World.news_of_block (cs := #[.int .i64 ob, .int .i64 ix, .int .i64 va]) (t := 44) (fr := (0, 0)) (heap_alloc_new wr _)) (by simp [Value.oneCell']) (by omega) (by unfold maxLen; omega) (by omega) (by simp; omega) (wr.heap.size + 1) (by simp) ?_; intro g8 cap8 w8 ho8 hg8 hat8 hlt8)
        have hB8 : Below w.heap.size w w8 := (hB.alloc hsz _).grown hg8 (by simp; omega) (fun r e => (OW.out.lt r e).1)
        go_roundw
        case rel => exact ⟨k + 1, by omega, by go_num, ⟨m + 1, by omega, by rw [HN.out, List.length_append, hml]; rfl, by rw [HN.out, cellsL_append]; exact ho8⟩, hB8⟩
        case measure => simp [intOf]; omega
    · obtain rfl : k = n := by omega
      have h3 := OW.out
      rw [← hml] at h3
      obtain ⟨p9, c9, hv, hc9, ho⟩ := ownL_of_row h3
      subst hv
      clear OW h3 hp
      go_wp2_with fail
      go_ret
      exact ⟨p9, c9, rfl, hc9, ho, hB⟩
end Go.Proofs.Ytmbkkcdcccopiaa
