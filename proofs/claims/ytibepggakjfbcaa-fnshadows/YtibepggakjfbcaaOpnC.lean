/- Shadow variables: the program's map of a list; whether it has a key. -/
import Derived.Test.YtibepggakjfbcaaLisC
import Derived.Test.YtibepggakjfbcaaShwA
import Derived.Test.YtibepggakjfbcaaShwD
import Derived.Maps.OwnOps
import Derived.Maps.OwnSet
namespace Go.Proofs.Ytibepggakjfbcaa
open Go Go.RowKit Go.Maps
set_option linter.unusedVariables false

def lstS (n : Nat) (S : Nat → ShwD) : List ShwD := (List.range n).map S
theorem lstS_len (n : Nat) (S : Nat → ShwD) : (lstS n S).length = n := by simp [lstS]
theorem lstS_nth {n : Nat} {S : Nat → ShwD} {i : Nat} (h : i < n) : nthD (lstS n S) i = S i := by simp [nthD, lstS, h]
theorem lstS_succ (n : Nat) (S : Nat → ShwD) : lstS (n + 1) S = lstS n S ++ [S n] := by simp [lstS, List.range_succ]
theorem lstS_mem {n : Nat} {S : Nat → ShwD} {d : ShwD} : d ∈ lstS n S ↔ ∃ i, i < n ∧ S i = d := by simp [lstS]
theorem lstS_srt {n : Nat} {S : Nat → ShwD} (h : ShwOK n S) : Srt (lstS n S) := by
  unfold Srt lstS
  rw [List.pairwise_map]
  refine List.Pairwise.imp_of_mem (R := (· < ·)) ?_ List.pairwise_lt_range
  intro a b ha hb hab
  exact h.lt hab (List.mem_range.1 hb)
noncomputable abbrev pE : Value → Option (DataW Unit × List MemPlace) := plainElem (H := Unit) Try.prog 3
theorem make_shw (w : World) (n : Nat) : (Instr.makeMap 46 (some (.int .i64 (n : Int)))).run Try.prog w = .ok (.map (some w.heap.size)) (w.alloc (.map #[] 0)) := by
  simp [Instr.makeMap, run_underlying Try.underlying46, asInt, asIntOf, Result.andThen]

set_option maxRecDepth 100000 in
set_option maxHeartbeats 4000000 in
theorem openYes (p : Option Addr) (n c : Nat) (S : Nat → ShwD) (x : Int) (w : World) (hn : n ≤ 1048576) (hw : ∀ i, i < n → (S i).wf) (hp : ShwsAt w p n S) (hok : ShwOK n S) (hx : idP x) :
    Calls Try.prog 23 #[.slice p n c, .int .i64 x] w fun e w' => ∃ b D, e = .returned (.tuple #[.map (some b), .int .i64 0]) ∧ w'.ownsMap Try.prog 51 pE b n D ∧ MapIs D (lstS n S) ∧ w.heap.size ≤ b ∧ Below w.heap.size w w' := by
  have hmm := make_shw
  have OK : Hid (Calls Try.prog 15 #[.slice p n c] w fun e w' => e = .returned (.bool true) ∧ Below w.heap.size w w') := okImplS p n c S w hn hp true ⟨fun _ => hok, fun _ => rfl⟩
  have ID : Hid (∀ W, Calls Try.prog 33 #[.int .i64 x] W fun e w' => e = .returned (.bool true) ∧ w' = W) := fun W => idC x W true ⟨fun _ => hx, fun _ => rfl⟩
  have h16 := hok.1
  have HOK : Hid (ShwOK n S) := hok
  have HW : Hid (∀ i, i < n → (S i).wf) := hw
  clear hok hw hx
  go_enter Try.func23, Try.ntmps23
  go_wp2_with fail
  refine OK.out.mono ?_
  rintro e w1 ⟨rfl, hb1⟩
  clear OK
  go_wp2_with fail
  refine (ID.out _).mono ?_
  rintro e w2 ⟨rfl, hw2⟩
  subst w2
  clear ID
  have hp1 := hp.below hb1
  have hs1 := hb1.size
  have hB0 : Below w1.heap.size w1 (w1.alloc (.map #[] 0)) := (Below.refl _ _).alloc (Nat.le_refl _) _
  have hown := World.ownsMap_made w1 Try.prog 51 pE
  have hsz0 : (w1.alloc (.map #[] 0)).heap.size = w1.heap.size + 1 := by simp
  go_wp2_with fail
  obtain ⟨W0, hW0⟩ : ∃ W0, w1.alloc (.map #[] 0) = W0 := ⟨_, rfl⟩
  rw [hW0] at hB0 hown hsz0 ⊢
  have hp2 := hp1.low.below hB0
  clear hW0 hp hp1
  obtain ⟨b, hb⟩ : ∃ b, w1.heap.size = b := ⟨_, rfl⟩
  rw [hb] at hown hsz0 hp2 ⊢
  have HB0 : Hid (Below b w1 W0) := by rw [← hb]; exact hB0
  have HB1 : Hid (Below w.heap.size w w1) := hb1
  have hwb : w.heap.size ≤ b := by omega
  have hbW : b < W0.heap.size := by omega
  have HBE : Hid (w1.heap.size = b) := hb
  clear hB0 hb1 hmm
  go_loopw [26] (fun i wr => ∃ k : Nat, k ≤ n ∧ i = .int .i64 k ∧ (∃ D, Hid (wr.ownsMap Try.prog 51 pE b k D) ∧ Hid (MapIs D (lstS k S))) ∧ Below b W0 wr) (fun i _ => n - (intOf i).toNat)
  case atStart => exact ⟨0, Nat.zero_le _, rfl, ⟨_, hown, MapIs.empty⟩, Below.refl _ _⟩
  case round =>
    obtain ⟨k, hk, rfl, ⟨D, HO, HM⟩, hB⟩ := hrel
    by_cases hlt : k < n
    · rcases hp2 with hp | ⟨pb, po, rfl, hpl, hp⟩
      · omega
      obtain ⟨x0, x1, x2⟩ := (hp.below hB hpl).shw hlt
      have hwk := HW.out k hlt
      have hnew : ∀ e ∈ lstS k S, keyD e ≠ keyD (S k) := fun e he h => by
        obtain ⟨i, hi, rfl⟩ := lstS_mem.1 he
        have := HOK.out.lt hi hlt
        rw [h] at this
        exact ltK_irrefl _ this
      have hM2 := (HM.out.putNew HO.out.isMap hwk hnew).perm (L' := lstS (k + 1) S) (by rw [lstS_succ]; exact (List.perm_append_singleton _ _).symm)
      obtain ⟨d, hd⟩ : ∃ d, S k = d := ⟨_, rfl⟩
      rw [hd] at x0 x1 x2 hwk hM2
      have hkey := keyK _ (keyD_wf hwk)
      have hval := plainElem_int (H := Unit) Try.underlying3 (a := d.va) hwk.2.2
      obtain ⟨D2, hD2⟩ : ∃ D2, D.put (klK (keyD d)) (litV d) = D2 := ⟨_, rfl⟩
      rw [hD2] at hM2
      have HM2 : Hid (MapIs D2 (lstS (k + 1) S)) := hM2
      have hbsz := hB.size
      have HU : Hid (∀ W2 : World, Below wr.heap.size wr W2 → ∃ w3, (Instr.mapUpdate 46 (.map (some b)) (kA (keyD d)) (.int .i64 d.va)).run Try.prog W2 = .ok () w3 ∧ w3.ownsMap Try.prog 51 pE b (k + 1) D2 ∧ W2.grownBy w3 (some b)) := by
        intro W2 hb2
        rw [← hD2]
        exact (HO.out.kept (row := none) ⟨hb2.os, hb2.tape, hb2.output, hb2.size, fun i hi _ => hb2.block i hi⟩ (by simp)).update keyLawK Try.underlying46 (by unfold maxLen; omega) hkey hval
      have HKC : Hid (∀ W, Calls Try.prog 34 #[shwA d] W fun e w' => e = .returned (kA (keyD d)) ∧ Below W.heap.size W w') := fun W => keyC d W
      clear hD2 hM2 hnew hkey hval hwk hd hown hp
      obtain ⟨ob, ix, va⟩ := d
      simp only [keyD] at HU HKC
      have lY := Lies.new wr #[.int .i64 ob, .int .i64 ix, .int .i64 va] 34
      have bY := grown1' wr (.cells #[.int .i64 ob, .int .i64 ix, .int .i64 va] 34)
      have hY : wr.heap.size < (wr.alloc (.cells #[.int .i64 ob, .int .i64 ix, .int .i64 va] 34)).heap.size := by simp
      have hbY : b < (wr.alloc (.cells #[.int .i64 ob, .int .i64 ix, .int .i64 va] 34)).heap.size := by simp; omega
      have y0 := lY.cell (j := 0) rfl
      have y1 := lY.cell (j := 1) rfl
      have y2 := lY.cell (j := 2) rfl
      have HB1r : Hid (Below b W0 (wr.alloc (.cells #[.int .i64 ob, .int .i64 ix, .int .i64 va] 34))) := hB.trans (bY.mono (by omega))
      have BY : Hid (Below wr.heap.size wr (wr.alloc (.cells #[.int .i64 ob, .int .i64 ix, .int .i64 va] 34))) := bY
      have hb0W : b ≤ W0.heap.size := by omega
      clear hB bY lY
      go_wp2_with fail
      obtain ⟨W1, hW1⟩ : ∃ W1, wr.alloc (.cells #[.int .i64 ob, .int .i64 ix, .int .i64 va] 34) = W1 := ⟨_, rfl⟩
      rw [hW1] at y0 y1 y2 hY hbY HB1r BY ⊢
      clear hW1 x0 x1 x2
      have FIN : ∀ w2 w3 : World, Below W1.heap.size W1 w2 → w2.grownBy w3 (some b) → Below b W0 w3 := fun w2 w3 b2 hg3 => by
        have h1 := HB1r.out.size
        have h2 := b2.size
        exact (HB1r.out.trans (b2.mono (by omega))).grown hg3 (by omega) (fun r e => by cases e; exact Nat.le_refl _)
      have HFIN : Hid (∀ w2 w3 : World, _) := FIN
      have FU : ∀ w2 : World, Below W1.heap.size W1 w2 → Below wr.heap.size wr w2 := fun w2 b2 => BY.out.trans (b2.mono BY.out.size)
      have HFU : Hid (∀ w2 : World, _) := FU
      clear FIN FU
      go_region_with ((go_at_call 34; refine (HKC.out _).mono ?_; rintro e w2 ⟨rfl, hb2⟩; have b2 : Below W1.heap.size W1 w2 := (Below.refl W1.heap.size W1).drew.trans hb2; obtain ⟨w3, hrun, ho3, hg3⟩ := HU.out w2 (HFU.out w2 b2); have z0 := (b2.cell (p := ⟨wr.heap.size, 0, none⟩) hY).trans y0; have z1 := (b2.cell (p := ⟨wr.heap.size, 1, none⟩) hY).trans y1; have z2 := (b2.cell (p := ⟨wr.heap.size, 2, none⟩) hY).trans y2))
      all_goals
        have HO3 : Hid (w3.ownsMap Try.prog 51 pE b (k + 1) D2) := ho3
        have B3 := HFIN.out w2 w3 b2 hg3
        clear hrun z0 z1 z2 y0 y1 y2 ho3
        go_wp2_with fail
        go_roundw
        case rel => first
          | exact ⟨k + 1, by omega, by go_num, ⟨D2, HO3, HM2⟩, B3⟩
          | ((repeat apply Exists.intro); exact ⟨⟨k + 1, by omega, by go_num, ⟨D2, HO3, HM2⟩, B3⟩, rfl⟩)
        case measure => simp [intOf]; omega
    · obtain rfl : k = n := by omega
      have HBF : Hid (Below w.heap.size w wr) := HB1.out.trans ((HB0.out.trans hB).mono hwb)
      clear hp2 hB hown
      go_wp2_with fail
      go_ret2
      exact ⟨b, D, rfl, HO.out, HM.out, hwb, HBF.out⟩
end Go.Proofs.Ytibepggakjfbcaa
