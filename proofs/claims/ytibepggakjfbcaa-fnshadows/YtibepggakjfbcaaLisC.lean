/- Shadow variables: the program's list out of its map. -/
import Derived.Test.YtibepggakjfbcaaSrtC
import Derived.Test.YtibepggakjfbcaaShwM
import Derived.Deep.RegionHeld3
import Derived.Deep.RegionLaw
import Derived.Deep.AppendLies
namespace Go.Proofs.Ytibepggakjfbcaa
open Go Go.RowKit Go.Maps
set_option linter.unusedVariables false

theorem row_belowW {W W' : World} {B e size n : Nat} {v : Value} {xs : List Value} (h : W.ownsRow B e size v n xs) (hb : Below W.heap.size W W') : W'.ownsRow B e size v n xs := by
  refine ⟨h.1, ?_⟩
  rcases h.2 with hv | ⟨g, cap, cur, h1, h2, h3, h4⟩
  · exact .inl hv
  · exact .inr ⟨g, cap, cur, h1, h2, (hb.block g (Array.getElem?_eq_some_iff.1 h3).1).trans h3, h4⟩

def nthD (L : List ShwD) (i : Nat) : ShwD := L.getD i default
def cellsW (S : Nat → ShwD) (n : Nat) : List Value := (List.range (n * 3)).map (shwV S)
theorem cellsW_succ (S : Nat → ShwD) (n : Nat) : cellsW S (n + 1) = cellsW S n ++ [.int .i64 (S n).ob, .int .i64 (S n).ix, .int .i64 (S n).va] := by
  unfold cellsW
  rw [show (n + 1) * 3 = n * 3 + 1 + 1 + 1 from by omega, List.range_succ, List.range_succ, List.range_succ]
  simp only [List.map_append, List.map_cons, List.map_nil, List.append_assoc, List.cons_append, List.nil_append]
  rw [shwV0, shwV1, shwV2]
theorem ownW_of_row {w : World} {B e : Nat} {v : Value} {n : Nat} {S : Nat → ShwD} (h : w.ownsRow B e 3 v n (cellsW S n)) : ∃ p c, v = .slice p n c ∧ n ≤ c ∧ OwnR w B p n 3 (shwV S) := by
  rcases h.2 with ⟨rfl, h0⟩ | ⟨g, cap, cur, rfl, h1, h2, h3, h4, h5, h6⟩
  · exact ⟨none, 0, by rw [h0], by omega, .inl h0⟩
  · refine ⟨_, cap, rfl, h3, .inr ⟨g, rfl, h1, (Array.getElem?_eq_some_iff.1 h2).1, fun i hi => ?_, fun i hi => frozen_of_row w g _ cur e h2⟩⟩
    rw [Nat.zero_add, cell_of_row w g i cur e (0, 0) h2]
    have h7 : (cur.toList.take (n * 3))[i]? = (cellsW S n)[i]? := by rw [h6]
    rw [List.getElem?_take, if_pos hi, Array.getElem?_toList] at h7
    rw [h7]
    simp [cellsW, hi]
theorem Lies.grownW {a b : World} {row : Option Nat} {k : Nat} {T : TypeId} {cs : Array Value} (h : Lies a k T cs) (hg : a.grownBy b row) (hr : row ≠ some k) : Lies b k T cs := (hg.block k h.lt (fun e => hr e.symm)).trans h
theorem keysL {L : List ShwD} {k : Nat} (hk : k < L.length) : ((L.map keyD).toArray[k]!) = ((nthD L k).ob, (nthD L k).ix) := by
  simp [nthD, hk, keyD]
theorem zeroK (w : World) : (zeroValue 3).run Try.prog w = .ok (.int .i64 0) w := Try.zeroValue3 w

set_option maxRecDepth 100000 in
set_option maxHeartbeats 8000000 in
theorem listC (b n : Nat) (D : DataW Unit) (L : List ShwD) (w : World) (hown : w.ownsMap Try.prog 51 (plainElem (H := Unit) Try.prog 3) b n D) (hn : n ≤ 1048576) (hM : MapIs D L) (hS : Srt L) :
    Calls Try.prog 25 #[.map (some b)] w fun e w' => ∃ p c, e = .returned (.slice p L.length c) ∧ L.length ≤ c ∧ OwnR w' w.heap.size p L.length 3 (shwV (nthD L)) ∧ Below w.heap.size w w' := by
  obtain ⟨i0, hi0, hz0, hz1, hz2⟩ := info_parts Try.info_shw
  have hsz : Maps.size D = L.length := size_eq hown hM hS
  have hle := hown.size_le
  have hbl := hown.lt
  have bX := grown1' w (.cells #[.map (some b)] 46)
  have SC := sortedC w.heap.size b n D (w.alloc (.cells #[.map (some b)] 46)) (by omega) (by simp) (by simp) (hown.alloc _)
  have HM : Hid (MapIs D L) := hM
  have HSr : Hid (Srt L) := hS
  have HBX : Hid (Below w.heap.size w (w.alloc (.cells #[.map (some b)] 46))) := bX
  have HO : Hid (∀ W, Below w.heap.size w W → W.ownsMap Try.prog 51 (plainElem (H := Unit) Try.prog 3) b n D) := fun W h => hown.kept (row := none) ⟨h.os, h.tape, h.output, h.size, fun i hi _ => h.block i hi⟩ (by simp)
  clear hM hS bX hown
  go_enter Try.func25, Try.ntmps25
  go_wp2_with fail
  refine (keysMk (some b) w).mono ?_
  rintro e w1 ⟨rfl, hw1⟩
  subst hw1
  go_wp2_with fail
  refine SC.mono ?_
  rintro e W ⟨p, c, ts, rfl, hA, hP, _, hK, hb1⟩
  obtain rfl := keys_eq HM.out HSr.out hA hP
  have hlen : (L.map keyD).length = L.length := by simp
  rw [hlen]
  have HBW : Hid (Below w.heap.size w W) := HBX.out.trans (hb1.mono HBX.out.size)
  clear SC hA hP hb1 HBX
  go_wp2_with fail
  go_loopw [3, 10] (fun v i wr => ∃ k : Nat, k ≤ L.length ∧ i = .int .i64 k ∧ Hid (wr.ownsRow W.heap.size 34 3 v k (cellsW (nthD L) k)) ∧ Below W.heap.size W wr) (fun _ i _ => L.length - (intOf i).toNat)
  case atStart => exact ⟨0, Nat.zero_le _, rfl, World.ownsRow_nil _ _ _ _, Below.refl _ _⟩
  case round =>
    obtain ⟨k, hk, rfl, OW, hB⟩ := hrel
    by_cases hlt : k < L.length
    · rcases hK with hK | ⟨g, rfl, hgl, hK⟩
      · omega
      obtain ⟨x0, x1⟩ := hK k (by omega)
      have x0 := (hB.cell (p := ⟨g, 0 + k * 2, none⟩) hgl).trans x0
      have x1 := (hB.cell (p := ⟨g, 0 + k * 2 + 1, none⟩) hgl).trans x1
      rw [keysL hlt, Nat.zero_add] at x0 x1
      have hmem : nthD L k ∈ L := by simp [nthD, hlt]
      have hat := HM.out.at_ _ hmem (.lit (.int .i64 0))
      have hwd := HM.out.wf _ hmem
      have hkey := keyK _ (keyD_wf hwd)
      have eC := cellsW_succ (nthD L) k
      obtain ⟨d, hd⟩ : ∃ d, nthD L k = d := ⟨_, rfl⟩
      rw [hd] at x0 x1 hat hwd hkey eC
      obtain ⟨ob, ix, va⟩ := d
      have EC : Hid (_ = _) := eC
      have hsz2 := hB.size
      have hszw := HBW.out.size
      have lk : Hid (∀ W2, Below w.heap.size w W2 → (Instr.lookup 46 (.map (some b)) (.agg #[.int .i64 ob, .int .i64 ix]) false).run Try.prog W2 = .ok (.int .i64 va) W2) := fun W2 hb2 => by
        obtain ⟨cc, hrun, hc, _⟩ := (HO.out W2 hb2).lookup_int keyLawK Try.underlying46 Try.underlying3 (zeroK W2) hkey
        rw [hat] at hc
        obtain rfl : va = cc := by injection hc with h; injection h
        exact hrun
      clear eC hat hwd hkey hmem hd hK
      have lY := Lies.new wr #[.int .i64 ob, .int .i64 ix] 51
      have bY := grown1' wr (.cells #[.int .i64 ob, .int .i64 ix] 51)
      have hY : wr.heap.size < (wr.alloc (.cells #[.int .i64 ob, .int .i64 ix] 51)).heap.size := by simp
      have hne : ∀ j, u3.ownBlock = some j → j < wr.heap.size := fun j e => (OW.out.lt j e).2
      go_wp2_with fail
      obtain ⟨W1, hW1⟩ : ∃ W1, wr.alloc (.cells #[.int .i64 ob, .int .i64 ix] 51) = W1 := ⟨_, rfl⟩
      rw [hW1] at lY bY hY ⊢
      clear hW1
      have y0 := lY.cell (j := 0) rfl
      have y1 := lY.cell (j := 1) rfl
      have ob1 := row_belowW OW.out bY
      have LY : Hid (Lies W1 wr.heap.size 51 #[.int .i64 ob, .int .i64 ix]) := lY
      have BY : Hid (Below wr.heap.size wr W1) := bY
      have BW1 : Hid (Below w.heap.size w W1) := HBW.out.trans ((hB.trans (bY.mono hsz2)).mono hszw)
      have lk0 := lk.out W1 BW1.out
      have lk1 := lk.out W1.drew BW1.out.drew
      have lk2 := lk.out ((W1.alloc (.cells #[.int .i64 ob, .int .i64 ix, .int .i64 va] 34)).drew) (BW1.out.alloc BW1.out.size _).drew
      clear lY bY x0 x1
      go_region_held3 (fun w' => w'.cell? ⟨wr.heap.size, 0, none⟩ = some (.int .i64 ob) ∧ w'.cell? ⟨wr.heap.size, 1, none⟩ = some (.int .i64 ix) ∧ (Instr.lookup 46 (.map (some b)) (.agg #[.int .i64 ob, .int .i64 ix]) false).run Try.prog w' = .ok (.int .i64 va) w') (go_keep) ((refine step_append_lies _ (by rfl) _ _ _ (by rfl) W.heap.size 34 i0 _ 3 24 Try.underlying23 hi0 hz0 hz1 hz2 rfl (by omega) _ _ _ (by rfl) (ob1.alloc _) ⟨W1.heap.size, 0, none⟩ 1 1 [.int .i64 ob, .int .i64 ix, .int .i64 va] (by rfl) (by rfl) (World.news_of_block (cs := #[.int .i64 ob, .int .i64 ix, .int .i64 va]) (t := 34) (fr := (0, 0)) (heap_alloc_new W1.drew _)) (by simp [Value.oneCell']) (by omega) (by unfold maxLen; omega) (by omega) (by simp; omega) (W1.heap.size + 1) (by simp) ?_; intro gg cap wc hown1 hgrow hat hlt1; have lc := (Lies.below LY.out (((Below.refl W1.heap.size W1).drew).alloc (Nat.le_refl _) _) hY).grownW hgrow (fun e => Nat.lt_irrefl _ (hne _ e)); have c0 := lc.cell (j := 0) rfl; have c1 := lc.cell (j := 1) rfl; have B2 : Below W.heap.size W W1.drew := (hB.trans (BY.out.mono hsz2)).drew; have B3 : Below W.heap.size W wc := (B2.alloc (by have := B2.size; omega) _).grown hgrow (by have := B2.size; simp; omega) (fun i e => (OW.out.lt i e).1); have lk3 := lk.out wc (HBW.out.trans (B3.mono hszw))))
      all_goals
        have OC : Hid (wc.ownsRow W.heap.size 34 3 (.slice (some ⟨gg, 0, none⟩) (k + 1) cap) (k + 1) (cellsW (nthD L) (k + 1))) := by rw [EC.out]; exact hown1
        clear lk0 lk1 lk2 lk3 c0 c1 y0 y1
        go_wp2_with fail
        go_roundw
        case rel => first
          | exact ⟨k + 1, by omega, by go_num, OC, B3⟩
          | ((repeat apply Exists.intro); exact ⟨⟨k + 1, by omega, by go_num, OC, B3⟩, rfl⟩)
        case measure => simp [intOf]; omega
    · obtain rfl : k = L.length := by omega
      obtain ⟨p9, c9, rfl, hc9, ho⟩ := ownW_of_row OW.out
      have HB : Hid (Below w.heap.size w wr) := HBW.out.trans (hB.mono HBW.out.size)
      have HOw : Hid (OwnR wr w.heap.size p9 L.length 3 (shwV (nthD L))) := ho.low HBW.out.size
      clear OW hB ho hK
      go_wp2_with fail
      go_ret
      exact ⟨p9, c9, rfl, hc9, HOw.out, HB.out⟩
end Go.Proofs.Ytibepggakjfbcaa
