/- The model's look at an image, whole. -/
import Derived.Test.YtelogjpjglohoaaGreatDoorGXTabBase39
namespace Go.Proofs.YtelogjpjglohoaaGreatDoor
open Go Go.RowKit
set_option linter.unusedVariables false

theorem fn_at {C D : Int} {n : Nat} {S : Nat → SymD} (h : ∀ j, j < n → fltI C D S j = 0) (hC : 0 ≤ C) (hD : 0 ≤ D) {i : Nat} (hi : i < n) (hk : (S i).kd = 1) : 0 ≤ (S i).pl ∧ 1 ≤ (S i).sz ∧ (S i).pl + (S i).sz ≤ C := by
  obtain ⟨_, _, h3⟩ := flt_ok (h i hi)
  obtain ⟨⟨a, b⟩, _⟩ := cdU_bd (C := C) (D := D) i hC hD (fun j hj => h j (by omega))
  rcases h3 with ⟨_, h4, h5, h6⟩ | ⟨h4, _⟩
  · rw [h4]; exact ⟨a, h5, by omega⟩
  · omega
theorem pl_at {C D : Int} {n : Nat} {S : Nat → SymD} (h : ∀ j, j < n → fltI C D S j = 0) (hC : 0 ≤ C) (hD : 0 ≤ D) (hC1 : C ≤ 1024) (hD1 : D ≤ 256) {i : Nat} (hi : i < n) : 0 ≤ (S i).pl ∧ (S i).pl ≤ 1048576 := by
  obtain ⟨_, _, h3⟩ := flt_ok (h i hi)
  obtain ⟨⟨a, b⟩, c, d⟩ := cdU_bd (C := C) (D := D) i hC hD (fun j hj => h j (by omega))
  rcases h3 with ⟨_, h4, h5, h6⟩ | ⟨_, h4, h5, _⟩
  · omega
  · omega

set_option maxRecDepth 100000 in
set_option maxHeartbeats 8000000 in
theorem specImg (c s : ByteArray) (p : Option Addr) (n kk : Nat) (S : Nat → SymD) (L : Nat → Int × Int) (w : World) (hc : c.size ≤ 1048576) (hs : s.size ≤ 1048576) (hn : n ≤ 1048576) (hw : ∀ i, i < n → (S i).wf) (hp : SymsAt w p n S) (x y z : Int) (hl : ImgIs n c.size s.size S L x y z)
    (hL : n ≤ 16 ∧ c.size ≤ 1024 ∧ s.size ≤ 256 ∧ SymsIs n c.size s.size S 0 0 → ∀ i, i < n → (S i).kd = 1 → ∀ pc cc w, IntsAt w pc (entU S n) → Calls Tryz.prog 62 #[.string (fnT c S i), .int .i64 (plI' S i), .int .i64 (S i).fr, .slice pc (entU S n).length cc] w fun e w' => TwoN w.heap.size (L i).1 (L i).2 w e w') :
    Calls Tryz.prog 40 #[.agg #[.string c, .string s, .slice p n kk]] w fun e w' => e = .returned (.tuple #[.int .i64 x, .int .i64 y, .int .i64 z]) ∧ Below w.heap.size w w' := by
  have bA := grown1' w (.cells #[.string c, .string s, .slice p n kk] 31)
  by_cases h16 : 16 < n
  · obtain ⟨rfl, rfl, rfl⟩ : x = 0 ∧ y = 0 ∧ z = 6 := by
      cases hl with
      | many => exact ⟨rfl, rfl, rfl⟩
      | size a => omega
      | syms _ _ a => omega
      | fn _ a => omega
      | ok a => omega
    clear hl hL hw hp
    go_enter Tryz.func40, Tryz.ntmps40
    go_wp2_with fail
    refine bodyPost_ret (v := .tuple #[.int .i64 0, .int .i64 0, .int .i64 6]) (by simp [results, Tryz.results40, go_sem]) rfl ⟨rfl, bA⟩
  by_cases hCD : 1024 < c.size ∨ 256 < s.size
  · obtain ⟨rfl, rfl, rfl⟩ : x = 0 ∧ y = 0 ∧ z = 8 := by
      cases hl with
      | many a => omega
      | size a => exact ⟨rfl, rfl, rfl⟩
      | syms _ _ a b d => omega
      | fn _ a b d => omega
      | ok a b d => omega
    clear hl hL hw hp
    have key : 1024 < c.size ∨ (c.size ≤ 1024 ∧ 256 < s.size) := by omega
    clear hCD
    rcases key with k | ⟨k, l⟩
    all_goals
      go_enter Tryz.func40, Tryz.ntmps40
      go_wp2_with fail
      refine bodyPost_ret (v := .tuple #[.int .i64 0, .int .i64 0, .int .i64 8]) (by simp [results, Tryz.results40, go_sem]) rfl ⟨rfl, bA⟩
  obtain ⟨xs, ys, hsy⟩ := syms_ex n c.size s.size S
  have hC1 : c.size ≤ 1024 := by omega
  have hD1 : s.size ≤ 256 := by omega
  have hn1 : n ≤ 16 := by omega
  have i0 : (w.alloc (.cells #[.string c, .string s, .slice p n kk] 31)).cell? ⟨w.heap.size, 0, none⟩ = some (.string c) := by simp
  have i1 : (w.alloc (.cells #[.string c, .string s, .slice p n kk] 31)).cell? ⟨w.heap.size, 1, none⟩ = some (.string s) := by simp
  have i2 : (w.alloc (.cells #[.string c, .string s, .slice p n kk] 31)).cell? ⟨w.heap.size, 2, none⟩ = some (.slice p n kk) := by simp
  have hlt0 : w.heap.size < (w.alloc (.cells #[.string c, .string s, .slice p n kk] 31)).heap.size := by simp
  have hp1 := hp.below bA
  have sym := fun w' (h : SymsAt w' p n S) => specSyms c s p n kk S w' hn1 hC1 hD1 hw h xs ys hsy
  have ent := fun w' hb (h : SymsAt w' p n S) => specEnt p n kk S w' hn1 hb h
  go_enter Tryz.func40, Tryz.ntmps40
  go_wp2_with fail
  obtain ⟨W0, hW0⟩ : ∃ W0, w.alloc (.cells #[.string c, .string s, .slice p n kk] 31) = W0 := ⟨_, rfl⟩
  obtain ⟨X, hX⟩ : ∃ X, w.heap.size = X := ⟨_, rfl⟩
  have HA : Hid (Below X w W0) := by rw [← hX, ← hW0]; exact bA
  rw [hW0] at i0 i1 i2 hlt0 hp1 ⊢
  rw [hX] at i0 i1 i2 hlt0 ⊢
  clear hW0 hp bA h16 hCD
  refine (sym _ hp1).mono ?_
  rintro e w1 ⟨rfl, hb1⟩
  have j0 := (hb1.cell (p := ⟨X, 0, none⟩) hlt0).trans i0
  have j1 := (hb1.cell (p := ⟨X, 1, none⟩) hlt0).trans i1
  have j2 := (hb1.cell (p := ⟨X, 2, none⟩) hlt0).trans i2
  have hlt1 := Nat.lt_of_lt_of_le hlt0 hb1.size
  have hp2 := hp1.below hb1
  have H1 : Hid (Below X w w1) := HA.out.trans (hb1.mono (Nat.le_of_lt hlt0))
  clear hb1 i0 i1 i2 hp1 sym hlt0
  by_cases hys : ys = 0
  · subst hys
    have hall := hsy.all
    obtain rfl : xs = 0 := hsy.zero
    have hLn := hL ⟨hn1, hC1, hD1, hsy⟩
    obtain ⟨zs, hzs⟩ : ∃ zs, entU S n = zs := ⟨_, rfl⟩
    have hent := ent _ (fun i hi => pl_at hall (by omega) (by omega) (by omega) (by omega) hi) hp2
    rw [hzs] at hLn hent
    obtain ⟨N, hN⟩ : ∃ N, zs.length = N := ⟨_, rfl⟩
    have HLN : Hid (∀ i, i < n → (S i).kd = 1 → ∀ pc cc w, IntsAt w pc zs → Calls Tryz.prog 62 #[.string (fnT c S i), .int .i64 (plI' S i), .int .i64 (S i).fr, .slice pc N cc] w fun e w' => TwoN w.heap.size (L i).1 (L i).2 w e w') := by rw [← hN]; exact hLn
    have HALL : Hid (∀ j, j < n → fltI c.size s.size S j = 0) := hall
    have HW : Hid (∀ i, i < n → (S i).wf) := hw
    have hfn : ∀ m, m < n → (S m).kd = 1 → (∀ j, j < m → (S j).kd = 1 → (L j).2 = 0) → (L m).2 ≠ 0 → x = ((m : Nat) : Int) ∧ y = (L m).1 ∧ z = (L m).2 := by
      intro m hm hk hb hne
      cases hl with
      | many a => omega
      | size a b => omega
      | syms x' y' a b d hs' hy => exact absurd (hs'.uniq hsy).2 hy
      | fn k a b d hs' hk' hf' hb' hn' =>
        by_cases h1 : k < m
        · exact absurd (hb k h1 hf') hn'
        · by_cases h2 : m < k
          · exact absurd (hb' m h2 hk) hne
          · obtain rfl : k = m := by omega
            exact ⟨rfl, rfl, rfl⟩
      | ok a b d hs' hb' => exact absurd (hb' m hm hk) hne
    have hfin : (∀ j, j < n → (S j).kd = 1 → (L j).2 = 0) → x = 0 ∧ y = 0 ∧ z = 0 := by
      intro hb
      cases hl with
      | many a => omega
      | size a b => omega
      | syms x' y' a b d hs' hy => exact absurd (hs'.uniq hsy).2 hy
      | fn k a b d hs' hk' hf' hb' hn' => exact absurd (hb k hk' hf') hn'
      | ok => exact ⟨rfl, rfl, rfl⟩
    have HFN : Hid (∀ m, m < n → (S m).kd = 1 → (∀ j, j < m → (S j).kd = 1 → (L j).2 = 0) → (L m).2 ≠ 0 → x = ((m : Nat) : Int) ∧ y = (L m).1 ∧ z = (L m).2) := hfn
    have HFIN : Hid ((∀ j, j < n → (S j).kd = 1 → (L j).2 = 0) → x = 0 ∧ y = 0 ∧ z = 0) := hfin
    have HENT : Hid (∀ _ : Unit, Calls Tryz.prog 61 #[.slice p n kk] w1 fun e w' => (∃ q d, e = .returned (.slice q zs.length d) ∧ OwnI w' w1.heap.size q zs.length (fun i => zs.getD i 0)) ∧ Below w1.heap.size w1 w') := fun _ => hent
    clear hLn hall hw hl hL hfn hfin hsy ent hent
    go_wp2_with fail
    refine (HENT.out ()).mono ?_
    rintro e w2 ⟨⟨q, d, rfl, ho⟩, hb2⟩
    have hz : IntsAt w2 q zs := ho.row
    have k0 := (hb2.cell (p := ⟨X, 0, none⟩) hlt1).trans j0
    have k1 := (hb2.cell (p := ⟨X, 1, none⟩) hlt1).trans j1
    have k2 := (hb2.cell (p := ⟨X, 2, none⟩) hlt1).trans j2
    have hlt2 := Nat.lt_of_lt_of_le hlt1 hb2.size
    have hp3 := hp2.below hb2
    have H2 : Hid (Below X w w2) := H1.out.trans (hb2.mono (Nat.le_of_lt hlt1))
    rw [hN]
    clear hb2 j0 j1 j2 hp2 H1 HENT ho hzs hN
    go_wp2_with fail
    go_loopw [8] (fun i wr => ∃ m : Nat, m ≤ n ∧ i = .int .i64 m ∧ (∀ j, j < m → (S j).kd = 1 → (L j).2 = 0) ∧ Below w2.heap.size w2 wr) (fun i _ => n - (intOf i).toNat)
    case atStart => exact ⟨0, Nat.zero_le _, rfl, fun j hj => absurd hj (Nat.not_lt_zero _), Below.refl _ _⟩
    case round =>
      obtain ⟨m, hm, rfl, hok, hB⟩ := hrel
      have l0 := (hB.cell (p := ⟨X, 0, none⟩) hlt2).trans k0
      have l2 := (hB.cell (p := ⟨X, 2, none⟩) hlt2).trans k2
      have hsz := hB.size
      by_cases hlt : m < n
      · rcases hp3 with hp3 | ⟨b, o, rfl, hb, hp3⟩
        · omega
        obtain ⟨x0, x1, x2, x3, x4⟩ := (hp3.below hB hb).sym hlt
        have hfa := fun hk => fn_at HALL.out (by omega) (by omega) hlt hk
        have hli := HLN.out m hlt
        unfold fnT plI' at hli
        obtain ⟨nm, e0⟩ : ∃ s, (S m).nm = s := ⟨_, rfl⟩
        obtain ⟨kd, e1⟩ : ∃ s, (S m).kd = s := ⟨_, rfl⟩
        obtain ⟨pl, e2⟩ : ∃ s, (S m).pl = s := ⟨_, rfl⟩
        obtain ⟨sz, e3⟩ : ∃ s, (S m).sz = s := ⟨_, rfl⟩
        obtain ⟨fr, e4⟩ : ∃ s, (S m).fr = s := ⟨_, rfl⟩
        rw [e0] at x0
        rw [e1] at x1 hfa hli
        rw [e2] at x2 hfa hli
        rw [e3] at x3 hfa hli
        rw [e4] at x4 hli
        have E1 : Hid (_ = kd) := e1
        have HOK : Hid (∀ j, j < m → (S j).kd = 1 → (L j).2 = 0) := hok
        have bX := grown1' wr (.cells #[.string nm, .int .i64 kd, .int .i64 pl, .int .i64 sz, .int .i64 fr] 49)
        have hB1 := hB.trans (bX.mono hsz)
        by_cases h1 : kd = 1
        · subst h1
          obtain ⟨f0, f1, f2⟩ := hfa rfl
          rw [if_pos rfl] at hli
          have hli' := hli rfl
          obtain ⟨pn, rfl⟩ := Int.eq_ofNat_of_zero_le f0
          obtain ⟨sn, rfl⟩ := Int.eq_ofNat_of_zero_le (show 0 ≤ sz by omega)
          have ex : ((pn : Int) + (sn : Int)).toNat = pn + sn := by omega
          have ex0 : ((pn : Int)).toNat = pn := by omega
          rw [ex, ex0] at hli'
          obtain ⟨r1, g1⟩ : ∃ r, (L m).1 = r := ⟨_, rfl⟩
          obtain ⟨r2, g2⟩ : ∃ r, (L m).2 = r := ⟨_, rfl⟩
          rw [g1, g2] at hli'
          have HLI : Hid (∀ pc cc w, IntsAt w pc zs → Calls Tryz.prog 62 #[.string (c.extract pn (pn + sn)), .int .i64 (4096 + (pn : Int)), .int .i64 fr, .slice pc N cc] w fun e w' => TwoN w.heap.size r1 r2 w e w') := hli'
          have hpl := fun w' => placeSpec nm 1 pn sn fr w' (by omega) (by omega)
          simp only [if_true] at hpl
          have HPL : Hid (∀ w' : World, _) := hpl
          have G1 : Hid (_ = r1) := g1
          have G2 : Hid (_ = r2) := g2
          have z0 : (wr.alloc (.cells #[.string nm, .int .i64 1, .int .i64 pn, .int .i64 sn, .int .i64 fr] 49)).cell? ⟨wr.heap.size, 0, none⟩ = some (.string nm) := by simp
          have z1 : (wr.alloc (.cells #[.string nm, .int .i64 1, .int .i64 pn, .int .i64 sn, .int .i64 fr] 49)).cell? ⟨wr.heap.size, 1, none⟩ = some (.int .i64 1) := by simp
          have z2 : (wr.alloc (.cells #[.string nm, .int .i64 1, .int .i64 pn, .int .i64 sn, .int .i64 fr] 49)).cell? ⟨wr.heap.size, 2, none⟩ = some (.int .i64 pn) := by simp
          have z3 : (wr.alloc (.cells #[.string nm, .int .i64 1, .int .i64 pn, .int .i64 sn, .int .i64 fr] 49)).cell? ⟨wr.heap.size, 3, none⟩ = some (.int .i64 sn) := by simp
          have z4 : (wr.alloc (.cells #[.string nm, .int .i64 1, .int .i64 pn, .int .i64 sn, .int .i64 fr] 49)).cell? ⟨wr.heap.size, 4, none⟩ = some (.int .i64 fr) := by simp
          have zl : wr.heap.size < (wr.alloc (.cells #[.string nm, .int .i64 1, .int .i64 pn, .int .i64 sn, .int .i64 fr] 49)).heap.size := by simp
          have y0 := (bX.cell (p := ⟨X, 0, none⟩) (Nat.lt_of_lt_of_le hlt2 hsz)).trans l0
          have hz1 := (hz.below hB).below bX
          clear e0 e1 e2 e3 e4 g1 g2 hli hli' hpl hfa hok bX
          go_wp2_with fail
          obtain ⟨W1, hW1⟩ : ∃ W1, (wr.alloc (.cells #[.string nm, .int .i64 1, .int .i64 pn, .int .i64 sn, .int .i64 fr] 49)) = W1 := ⟨_, rfl⟩
          obtain ⟨Y, hY⟩ : ∃ Y, wr.heap.size = Y := ⟨_, rfl⟩
          have hX1 : X < W1.heap.size := by rw [← hW1]; have := Nat.lt_of_lt_of_le hlt2 hsz; simp; omega
          rw [hW1] at z0 z1 z2 z3 z4 zl y0 hz1 hB1 ⊢
          rw [hY] at z0 z1 z2 z3 z4 zl ⊢
          have HB1 : Hid (Below w2.heap.size w2 W1) := hB1
          have q1 : (0 : Int) ≤ (pn : Int) := by omega
          have q2 : (pn : Int) ≤ (pn : Int) + (sn : Int) := by omega
          have q3 : (pn : Int) + (sn : Int) ≤ (c.size : Int) := f2
          have q4 : IntKind.i64.wrap ((pn : Int) + (sn : Int)) = (pn : Int) + (sn : Int) := by rw [IntKind.wrap_i64]; omega
          have s1 := hB1.size
          clear hB1 hW1 hY hB x0 x1 x2 x3 x4 l0 l2 hsz hp3 hz
          go_region_held3 (fun w' => w'.cell? ⟨X, 0, none⟩ = some (.string c) ∧ w'.cell? ⟨Y, 0, none⟩ = some (.string nm) ∧ w'.cell? ⟨Y, 1, none⟩ = some (.int .i64 1) ∧ w'.cell? ⟨Y, 2, none⟩ = some (.int .i64 pn) ∧ w'.cell? ⟨Y, 3, none⟩ = some (.int .i64 sn) ∧ w'.cell? ⟨Y, 4, none⟩ = some (.int .i64 fr)) (go_keep) (first | (go_at_call 41; refine (HPL.out _).mono ?_; rintro e w3 ⟨rfl, hb3⟩; have B3 : Below W1.heap.size W1 w3 := (by first | exact hb3 | exact (Below.refl W1.heap.size W1).drew.trans hb3); have a0 := (B3.cell (p := ⟨X, 0, none⟩) hX1).trans y0; have a1 := (B3.cell (p := ⟨Y, 0, none⟩) zl).trans z0; have a2 := (B3.cell (p := ⟨Y, 1, none⟩) zl).trans z1; have a3 := (B3.cell (p := ⟨Y, 2, none⟩) zl).trans z2; have a4 := (B3.cell (p := ⟨Y, 3, none⟩) zl).trans z3; have a5 := (B3.cell (p := ⟨Y, 4, none⟩) zl).trans z4; have hz3 := hz1.below B3; have s3 := B3.size) | (go_at_call 62; refine (HLI.out _ _ _ hz3).mono ?_; rintro e w4 ⟨rfl, hb4⟩; have B4 : Below W1.heap.size W1 w4 := B3.trans (hb4.mono s3); have b0 := (B4.cell (p := ⟨X, 0, none⟩) hX1).trans y0; have b1 := (B4.cell (p := ⟨Y, 0, none⟩) zl).trans z0; have b2 := (B4.cell (p := ⟨Y, 1, none⟩) zl).trans z1; have b3 := (B4.cell (p := ⟨Y, 2, none⟩) zl).trans z2; have b4 := (B4.cell (p := ⟨Y, 3, none⟩) zl).trans z3; have b5 := (B4.cell (p := ⟨Y, 4, none⟩) zl).trans z4))
          have HB4 : Hid (Below w2.heap.size w2 w4) := HB1.out.trans (B4.mono HB1.out.size)
          clear a0 a1 a2 a3 a4 a5 b0 b1 b2 b3 b4 b5 hz3 hb3 hb4 B3 B4 s3 y0 z0 z1 z2 z3 z4 hz1
          by_cases hr : r2 = 0
          · subst hr
            go_wp2_with fail
            go_roundw
            case rel => exact ⟨m + 1, by omega, by go_num, fun j hj hk => by
              rcases Nat.lt_succ_iff_lt_or_eq.1 hj with h' | rfl
              · exact HOK.out j h' hk
              · exact G2.out, HB4.out⟩
            case measure => simp [intOf]; omega
          · obtain ⟨rfl, e1, e2⟩ := HFN.out m hlt E1.out HOK.out (by rw [G2.out]; exact hr)
            rw [G1.out] at e1
            rw [G2.out] at e2
            subst e1 e2
            have hrb : (z == 0) = false := by simpa using hr
            go_wp2_with fail
            refine bodyPost_ret (v := .tuple #[.int .i64 m, .int .i64 y, .int .i64 z]) (by simp [results, Tryz.results40, go_sem]) rfl ⟨rfl, by first | exact H2.out.trans (HB4.out.mono (Nat.le_of_lt hlt2)) | (rw [hX]; exact H2.out.trans (HB4.out.mono (Nat.le_of_lt hlt2)))⟩
        · have hb1 : (kd == 1) = false := by simpa using h1
          clear e0 e1 e2 e3 e4 hli hfa hok
          go_wp2_with fail
          go_roundw
          case rel => exact ⟨m + 1, by omega, by go_num, fun j hj hk => by
            rcases Nat.lt_succ_iff_lt_or_eq.1 hj with h' | rfl
            · exact HOK.out j h' hk
            · exact absurd (E1.out.symm.trans hk) h1, hB1⟩
          case measure => simp [intOf]; omega
      · obtain rfl : m = n := by omega
        obtain ⟨rfl, rfl, rfl⟩ := HFIN.out hok
        clear hok
        go_wp2_with fail
        refine bodyPost_ret (v := .tuple #[.int .i64 0, .int .i64 0, .int .i64 0]) (by simp [results, Tryz.results40, go_sem]) rfl ⟨rfl, by first | exact H2.out.trans (hB.mono (Nat.le_of_lt hlt2)) | (rw [hX]; exact H2.out.trans (hB.mono (Nat.le_of_lt hlt2)))⟩
  · obtain ⟨rfl, rfl, rfl⟩ : x = xs ∧ y = 0 ∧ z = ys := by
      cases hl with
      | many a => omega
      | size a b => omega
      | syms x' y' a b d hs' hy => exact ⟨(hs'.uniq hsy).1, rfl, (hs'.uniq hsy).2⟩
      | fn k a b d hs' => exact absurd (hs'.uniq hsy).2.symm hys
      | ok a b d hs' => exact absurd (hs'.uniq hsy).2.symm hys
    have hyb : (z == 0) = false := by simpa using hys
    clear hl hL hw hsy ent
    go_wp2_with fail
    refine bodyPost_ret (v := .tuple #[.int .i64 x, .int .i64 0, .int .i64 z]) (by simp [results, Tryz.results40, go_sem]) rfl ⟨rfl, by rw [hX]; exact H1.out⟩
end Go.Proofs.YtelogjpjglohoaaGreatDoor
