/- Lists of ints and of texts: as they come in, copied, measured, held against each other, marked (gen_one.py). -/
import Derived.Test.YtelogjpjglohoaaRecStr
import Derived.Deep.RegionHeld3
namespace Go.Proofs.Ytelogjpjglohoaa
open Go Go.RowKit Go.ChangeShapes Go.WideShapes Go.Deep
set_option linter.unusedVariables false

theorem Try.info_numO : (Try.prog.info? 3).map (fun i => (i.zero, i.size, i.bytes)) = some (some (.int .i64 0), 1, 8) := by kernel_rfl
def numV (R : Nat → Int) (i : Nat) : Value := .int .i64 (R i)
abbrev NumsAt (w : World) (p : Option Addr) (n : Nat) (R : Nat → Int) : Prop := RowsAt w p n 1 (numV R)
theorem VRow.num {w : World} {b o n : Nat} {R : Nat → Int} (h : VRow w b o (n * 1) (numV R)) {k : Nat} (hk : k < n) : w.cell? ⟨b, o + k, none⟩ = some (.int .i64 (R k)) := h k (by omega)
section
variable {H : Type} {enc : TypeId × Value → H} {P : Program} {w : World} {base : Nat} {spare : Nat → Bool} {held : Bool}

theorem open_nums {t e : TypeId} {fuel : Nat} {a : Option Addr} {len cap : Nat} {x : DataW H × List MemPlace} (ht : P.underlying t = some (.slice e)) (he : P.underlying e = some (.int .i64)) (hC : P.cellsOf e = 1)
    (h : DataW.trod enc P w base spare held fuel t [.slice a len cap] = some x) : ∃ S, NumsAt w a len S ∧ (∀ i, i < len → (Lit.int .i64 (S i)).wf = true) ∧ len ≤ cap ∧ cap ≤ maxLen := by
  rcases open_slice ht h with ⟨hcs, _⟩ | ⟨ad, l, c, m, n, D, Pl, hcs, hb, hl, hm, hmm, rfl, hx⟩
  · simp at hcs
    obtain ⟨rfl, rfl, rfl⟩ := hcs
    exact ⟨fun _ => 0, .inl rfl, fun i hi => absurd hi (Nat.not_lt_zero _), Nat.le_refl _, Nat.zero_le _⟩
  · simp at hcs
    obtain ⟨rfl, rfl, rfl⟩ := hcs
    have hlm : len ≤ m := by rw [hmm]; split <;> omega
    have each : ∀ i, i < len → ∃ d : Int, (Lit.int .i64 d).wf = true ∧ w.cell? ((ad.add (i * 1)).add 0) = some (.int .i64 d) := by
      intro i hi
      obtain ⟨cs', h1, h2⟩ := hx i (by omega)
      rw [hC] at h1
      obtain ⟨_, hlen, hcell⟩ := World.cells?_some h1
      obtain ⟨d, e0, _, w0⟩ := DataW.trod_int he h2
      subst e0
      refine ⟨d, w0, ?_⟩
      have := hcell 0 (by omega)
      simpa using this
    obtain ⟨S, hS⟩ := choose_lt each
    refine ⟨S, ?_, fun i hi => (hS i hi).1, hl, hm⟩
    by_cases h0 : len = 0
    · exact .inl h0
    · obtain ⟨b, o, rfl, hb, hv⟩ := vrow_of (w := w) (ad := ad) (k := 1) (n := len) (V := numV S) (by decide) (by omega) (fun i hi j hj => by
        obtain rfl : j = 0 := by omega
        rw [(hS i hi).2]
        simp [numV])
      exact .inr ⟨b, o, rfl, hb, hv⟩
theorem open_strs {t e : TypeId} {fuel : Nat} {a : Option Addr} {len cap : Nat} {x : DataW H × List MemPlace} (ht : P.underlying t = some (.slice e)) (he : P.underlying e = some .string) (hC : P.cellsOf e = 1)
    (h : DataW.trod enc P w base spare held fuel t [.slice a len cap] = some x) : ∃ S, StrsAt w a len S ∧ (∀ i, i < len → (S i).size ≤ maxLen) ∧ len ≤ cap ∧ cap ≤ maxLen := by
  rcases open_slice ht h with ⟨hcs, _⟩ | ⟨ad, l, c, m, n, D, Pl, hcs, hb, hl, hm, hmm, rfl, hx⟩
  · simp at hcs
    obtain ⟨rfl, rfl, rfl⟩ := hcs
    exact ⟨fun _ => ByteArray.empty, .inl rfl, fun i hi => absurd hi (Nat.not_lt_zero _), Nat.le_refl _, Nat.zero_le _⟩
  · simp at hcs
    obtain ⟨rfl, rfl, rfl⟩ := hcs
    have hlm : len ≤ m := by rw [hmm]; split <;> omega
    have each : ∀ i, i < len → ∃ d : ByteArray, d.size ≤ maxLen ∧ w.cell? ((ad.add (i * 1)).add 0) = some (.string d) := by
      intro i hi
      obtain ⟨cs', h1, h2⟩ := hx i (by omega)
      rw [hC] at h1
      obtain ⟨_, hlen, hcell⟩ := World.cells?_some h1
      obtain ⟨d, e0, _, w0⟩ := DataW.trod_string he h2
      subst e0
      refine ⟨d, w0, ?_⟩
      have := hcell 0 (by omega)
      simpa using this
    obtain ⟨S, hS⟩ := choose_lt each
    refine ⟨S, ?_, fun i hi => (hS i hi).1, hl, hm⟩
    by_cases h0 : len = 0
    · exact .inl h0
    · obtain ⟨b, o, rfl, hb, hv⟩ := vrow_of (w := w) (ad := ad) (k := 1) (n := len) (V := strV S) (by decide) (by omega) (fun i hi j hj => by
        obtain rfl : j = 0 := by omega
        rw [(hS i hi).2]
        simp [strV])
      exact .inr ⟨b, o, rfl, hb, hv⟩
end

set_option maxRecDepth 100000 in
set_option maxHeartbeats 2000000 in
theorem toNums (p : Option Addr) (n c : Nat) (S : Nat → Int) (w : World) (hn : n ≤ 1048576) (hp : NumsAt w p n S) :
    Calls Try.prog 43 #[.slice p n c] w fun e w' => ∃ g, e = .returned (.slice (some ⟨g, 0, none⟩) n n) ∧ Below w.heap.size w w' ∧ w.heap.size ≤ g ∧ g < w'.heap.size ∧ FRow w' g 0 (n * 1) (numV S) := by
  obtain ⟨i0, hi, hz0, hz1, hz2⟩ := info_parts Try.info_numO
  go_enter Try.func43, Try.ntmps43
  go_wp2_with (at_make; refine wpList_make_full _ rfl _ _ 40 rfl w.heap.size 3 i0 _ 1 Try.underlying40 hi hz0 hz1 .i64 .i64 _ _ n rfl rfl (by omega) (by omega) (by rw [hz2]; omega) (by unfold maxLen; omega) (Nat.le_refl _) ?_; intro wm hm hgm)
  have b0 : Below w.heap.size w wm := (Below.refl _ _).grown hgm (Nat.le_refl _) (fun _ h => by cases h)
  have hq : w.heap.size < wm.heap.size := by
    rcases hm.2 with ⟨hv, _⟩ | ⟨g, cap, cur, hv, _, hg, _, _, hcs, _⟩
    · cases hv
    · obtain ⟨rfl, rfl⟩ : w.heap.size = g ∧ n = cap := by simpa using hv
      exact (Array.getElem?_eq_some_iff.1 hg).1
  have hp00 : FRow wm w.heap.size 0 (n * 1) (fun _ => Value.int .i64 0) := by
    refine ⟨fun i hi' => ?_, fun i hi' => by rw [Nat.zero_add]; exact hm.frozenAt i⟩
    have h1 := hm.cellAt i (by omega)
    have hi2 : i < n := by omega
    rw [Nat.zero_add]
    exact h1.trans (by simp [Value.cells, madeCells, hi2, Nat.mod_one])
  have hp0 : FRow wm w.heap.size 0 (n * 1) (fun i => if i < 0 then numV S i else Value.int .i64 0) := hp00.congr (fun i _ => by rw [if_neg (Nat.not_lt_zero _)])
  clear hp00
  go_loopw [4] (fun i wr => ∃ k : Nat, k ≤ n ∧ i = .int .i64 k ∧ Below w.heap.size w wr ∧ w.heap.size < wr.heap.size ∧ FRow wr w.heap.size 0 (n * 1) (fun i => if i < k then numV S i else Value.int .i64 0)) (fun i _ => n - (intOf i).toNat)
  case atStart => exact ⟨0, Nat.zero_le _, rfl, b0, hq, hp0⟩
  case round =>
    obtain ⟨k, hk, rfl, hB, hS, hf⟩ := hrel
    clear hp0 hm
    by_cases hlt : k < n
    · rcases hp with hp | ⟨b, o, rfl, hb, hp⟩
      · omega
      have x0 := (hp.below hB hb).num hlt
      have y0 := hf.1 k (by omega)
      have f0 := hf.2 k (by omega)
      rw [Nat.zero_add] at y0 f0
      have hf1 := hf.put k (by omega) (Value.int .i64 (S k))
      have hb1 := hB.setCell (p := ⟨w.heap.size, k, none⟩) (Nat.le_refl _) (Value.int .i64 (S k))
      have hstep : ∀ i, i < n * 1 → (if i = k then Value.int .i64 (S k) else if i < k then numV S i else Value.int .i64 0) = (if i < k + 1 then numV S i else Value.int .i64 0) := fun i _ => by
        by_cases e : i = k
        · subst e; rw [if_pos rfl, if_pos (by omega)]; rfl
        · rw [if_neg e]
          by_cases e2 : i < k
          · rw [if_pos e2, if_pos (by omega)]
          · rw [if_neg e2, if_neg (by omega)]
      have HF : Hid (FRow _ w.heap.size 0 (n * 1) (fun i => if i < k + 1 then numV S i else Value.int .i64 0)) := hf1.congr hstep
      have HB : Hid (Below w.heap.size w _) := hb1
      have HS : Hid (w.heap.size < (wr.setCell ⟨w.heap.size, k, none⟩ (Value.int .i64 (S k))).heap.size) := by show w.heap.size < (wr.setCell ⟨w.heap.size, k, none⟩ (Value.int .i64 (S k))).heap.size; simpa using hS
      obtain ⟨v0, hv0⟩ : ∃ v, (if k < k then numV S k else Value.int .i64 0) = v := ⟨_, rfl⟩
      have y1 : wr.cell? ⟨w.heap.size, k, none⟩ = some v0 := y0.trans (by rw [← hv0])
      clear hf hp y0 hv0 hf1 hstep hB hb1 hS
      go_wp2_with fail
      go_roundw
      case rel => exact ⟨k + 1, by omega, by go_num, HB.out, HS.out, HF.out⟩
      case measure => simp [intOf]; omega
    · obtain rfl : k = n := by omega
      go_wp2
      go_ret
      exact ⟨_, rfl, hB, Nat.le_refl _, hS, hf.congr (fun i hi => by rw [if_pos (by omega)])⟩

set_option maxRecDepth 100000 in
set_option maxHeartbeats 2000000 in
theorem toStrs (p : Option Addr) (n c : Nat) (S : Nat → ByteArray) (w : World) (hn : n ≤ 1048576) (hp : StrsAt w p n S) :
    Calls Try.prog 44 #[.slice p n c] w fun e w' => ∃ g, e = .returned (.slice (some ⟨g, 0, none⟩) n n) ∧ Below w.heap.size w w' ∧ w.heap.size ≤ g ∧ g < w'.heap.size ∧ FRow w' g 0 (n * 1) (strV S) := by
  obtain ⟨i0, hi, hz0, hz1, hz2⟩ := info_parts Try.info_strO
  go_enter Try.func44, Try.ntmps44
  go_wp2_with (at_make; refine wpList_make_full _ rfl _ _ 41 rfl w.heap.size 9 i0 _ 1 Try.underlying41 hi hz0 hz1 .i64 .i64 _ _ n rfl rfl (by omega) (by omega) (by rw [hz2]; omega) (by unfold maxLen; omega) (Nat.le_refl _) ?_; intro wm hm hgm)
  have b0 : Below w.heap.size w wm := (Below.refl _ _).grown hgm (Nat.le_refl _) (fun _ h => by cases h)
  have hq : w.heap.size < wm.heap.size := by
    rcases hm.2 with ⟨hv, _⟩ | ⟨g, cap, cur, hv, _, hg, _, _, hcs, _⟩
    · cases hv
    · obtain ⟨rfl, rfl⟩ : w.heap.size = g ∧ n = cap := by simpa using hv
      exact (Array.getElem?_eq_some_iff.1 hg).1
  have hp00 : FRow wm w.heap.size 0 (n * 1) (fun _ => Value.string ⟨#[]⟩) := by
    refine ⟨fun i hi' => ?_, fun i hi' => by rw [Nat.zero_add]; exact hm.frozenAt i⟩
    have h1 := hm.cellAt i (by omega)
    have hi2 : i < n := by omega
    rw [Nat.zero_add]
    exact h1.trans (by simp [Value.cells, madeCells, hi2, Nat.mod_one])
  have hp0 : FRow wm w.heap.size 0 (n * 1) (fun i => if i < 0 then strV S i else Value.string ⟨#[]⟩) := hp00.congr (fun i _ => by rw [if_neg (Nat.not_lt_zero _)])
  clear hp00
  go_loopw [4] (fun i wr => ∃ k : Nat, k ≤ n ∧ i = .int .i64 k ∧ Below w.heap.size w wr ∧ w.heap.size < wr.heap.size ∧ FRow wr w.heap.size 0 (n * 1) (fun i => if i < k then strV S i else Value.string ⟨#[]⟩)) (fun i _ => n - (intOf i).toNat)
  case atStart => exact ⟨0, Nat.zero_le _, rfl, b0, hq, hp0⟩
  case round =>
    obtain ⟨k, hk, rfl, hB, hS, hf⟩ := hrel
    clear hp0 hm
    by_cases hlt : k < n
    · rcases hp with hp | ⟨b, o, rfl, hb, hp⟩
      · omega
      have x0 := (hp.below hB hb).str hlt
      have y0 := hf.1 k (by omega)
      have f0 := hf.2 k (by omega)
      rw [Nat.zero_add] at y0 f0
      have hf1 := hf.put k (by omega) (Value.string (S k))
      have hb1 := hB.setCell (p := ⟨w.heap.size, k, none⟩) (Nat.le_refl _) (Value.string (S k))
      have hstep : ∀ i, i < n * 1 → (if i = k then Value.string (S k) else if i < k then strV S i else Value.string ⟨#[]⟩) = (if i < k + 1 then strV S i else Value.string ⟨#[]⟩) := fun i _ => by
        by_cases e : i = k
        · subst e; rw [if_pos rfl, if_pos (by omega)]; rfl
        · rw [if_neg e]
          by_cases e2 : i < k
          · rw [if_pos e2, if_pos (by omega)]
          · rw [if_neg e2, if_neg (by omega)]
      have HF : Hid (FRow _ w.heap.size 0 (n * 1) (fun i => if i < k + 1 then strV S i else Value.string ⟨#[]⟩)) := hf1.congr hstep
      have HB : Hid (Below w.heap.size w _) := hb1
      have HS : Hid (w.heap.size < (wr.setCell ⟨w.heap.size, k, none⟩ (Value.string (S k))).heap.size) := by show w.heap.size < (wr.setCell ⟨w.heap.size, k, none⟩ (Value.string (S k))).heap.size; simpa using hS
      obtain ⟨v0, hv0⟩ : ∃ v, (if k < k then strV S k else Value.string ⟨#[]⟩) = v := ⟨_, rfl⟩
      have y1 : wr.cell? ⟨w.heap.size, k, none⟩ = some v0 := y0.trans (by rw [← hv0])
      clear hf hp y0 hv0 hf1 hstep hB hb1 hS
      go_wp2_with fail
      go_roundw
      case rel => exact ⟨k + 1, by omega, by go_num, HB.out, HS.out, HF.out⟩
      case measure => simp [intOf]; omega
    · obtain rfl : k = n := by omega
      go_wp2
      go_ret
      exact ⟨_, rfl, hB, Nat.le_refl _, hS, hf.congr (fun i hi => by rw [if_pos (by omega)])⟩

theorem szNums (p : Option Addr) (n c : Nat) (L : Int) (w : World) (h0 : 0 ≤ L) (h1 : L ≤ 1048576) (hn : n ≤ maxLen) :
    Calls Try.prog 39 #[.slice p n c, .int .i64 L] w fun e w' => (∃ r : Int, e = .returned (.int .i64 r) ∧ (r = -1 ∨ (0 ≤ r ∧ r ≤ L ∧ (n : Int) ≤ L))) ∧ Below w.heap.size w w' := by
  unfold maxLen at hn
  by_cases hL : L < n
  · go_enter Try.func39, Try.ntmps39
    go_wp2
    go_ret
    exact ⟨⟨_, rfl, .inl rfl⟩, Below.refl _ _⟩
  · go_enter Try.func39, Try.ntmps39
    go_wp2
    go_ret
    refine ⟨⟨_, rfl, .inr ?_⟩, Below.refl _ _⟩
    first | omega | (refine ⟨?_, ?_⟩ <;> omega)
set_option maxHeartbeats 2000000 in
theorem szStrs (p : Option Addr) (n c : Nat) (S : Nat → ByteArray) (L : Int) (w : World) (h0 : 0 ≤ L) (h1 : L ≤ 1048576) (hn : n ≤ maxLen) (hw : ∀ i, i < n → (S i).size ≤ maxLen) (hp : StrsAt w p n S) :
    Calls Try.prog 40 #[.slice p n c, .int .i64 L] w fun e w' => (∃ r : Int, e = .returned (.int .i64 r) ∧ (r = -1 ∨ (0 ≤ r ∧ r ≤ L ∧ (n : Int) ≤ L ∧ ∀ i, i < n → ((S i).size : Int) ≤ L))) ∧ Below w.heap.size w w' := by
  unfold maxLen at hn hw
  by_cases hL : L < n
  · go_enter Try.func40, Try.ntmps40
    go_wp2
    go_ret
    exact ⟨⟨_, rfl, .inl rfl⟩, Below.refl _ _⟩
  · go_enter Try.func40, Try.ntmps40
    go_wp2_with fail
    go_loopw [1, 5] (fun m i wr => ∃ (k : Nat) (l : Int), k ≤ n ∧ i = .int .i64 k ∧ m = .int .i64 l ∧ 0 ≤ l ∧ l ≤ L ∧ (∀ j, j < k → ((S j).size : Int) ≤ L) ∧ Below w.heap.size w wr) (fun _ i _ => n - (intOf i).toNat)
    case atStart => exact ⟨0, L - n, Nat.zero_le _, rfl, rfl, by omega, by omega, fun j hj => absurd hj (Nat.not_lt_zero _), Below.refl _ _⟩
    case round =>
      obtain ⟨k, l, hk, rfl, rfl, hl0, hl1, hall, hB⟩ := hrel
      by_cases hlt : k < n
      · rcases hp with hp | ⟨b, o, rfl, hb, hp⟩
        · omega
        have x0 := (hp.below hB hb).str hlt
        have hwk := hw k hlt
        obtain ⟨a0, e0⟩ : ∃ s, S k = s := ⟨_, rfl⟩
        rw [e0] at x0 hwk
        have HE0 : Hid (S k = a0) := e0
        have HALL : Hid (∀ j, j < k → ((S j).size : Int) ≤ L) := hall
        clear hp e0 hall hw
        by_cases h : l < a0.size
        · go_wp2_with fail
          go_ret
          exact ⟨⟨_, rfl, .inl rfl⟩, hB⟩
        · obtain ⟨l2, hl2⟩ : ∃ l2, l - (a0.size : Int) = l2 := ⟨_, rfl⟩
          have hl3 : ¬ l2 < 0 := by omega
          go_wp2_with fail
          go_roundw
          case rel => exact ⟨k + 1, l2, by omega, by go_num, rfl, by omega, by omega, fun j hj => by
            rcases Nat.lt_succ_iff_lt_or_eq.1 hj with h' | rfl
            · exact HALL.out j h'
            · rw [HE0.out]; omega, hB⟩
          case measure => simp [intOf]; omega
      · obtain rfl : k = n := by omega
        go_wp2
        go_ret
        exact ⟨⟨_, rfl, .inr ⟨hl0, by omega, by omega, hall⟩⟩, hB⟩

set_option maxHeartbeats 2000000 in
theorem eqNums (p q : Option Addr) (n c d : Nat) (R : Nat → Int) (w : World) (hn : n ≤ 2000000) (hp : NumsAt w p n R) (hq : NumsAt w q n R) :
    Calls Try.prog 47 #[.slice p n c, .slice q n d] w fun e w' => e = .returned (.bool true) ∧ Below w.heap.size w w' := by
  go_enter Try.func47, Try.ntmps47
  go_wp2
  go_loopw [5] (fun i wr => ∃ k : Nat, k ≤ n ∧ i = .int .i64 k ∧ Below w.heap.size w wr) (fun i _ => n - (intOf i).toNat)
  case atStart => exact ⟨0, Nat.zero_le _, rfl, Below.refl _ _⟩
  case round =>
    obtain ⟨k, hk, rfl, hB⟩ := hrel
    by_cases hlt : k < n
    · rcases hp with hp | ⟨b, o, rfl, hb, hp⟩
      · omega
      rcases hq with hq | ⟨b', o', rfl, hb', hq⟩
      · omega
      have x0 := (hp.below hB hb).num hlt
      have y0 := (hq.below hB hb').num hlt
      have hB2 := hB.drew
      clear hp hq
      go_wp2
      go_region
      all_goals
        go_wp2
        go_roundw
        case rel => exact ⟨k + 1, by omega, by go_num, hB2⟩
        case measure => simp [intOf]; omega
    · go_wp2
      go_ret
      exact ⟨rfl, hB⟩
end Go.Proofs.Ytelogjpjglohoaa
