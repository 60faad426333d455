/- Runs: what their words are; both readings of them. Both InstrsOf. -/
import Derived.Test.YtepanogpojolfaaDoorGXInstrsOf4
namespace Go.Proofs.YtepanogpojolfaaDoor
open Go Go.RowKit
set_option linter.unusedVariables false

/-- The model's word for a word. -/
def ModIs (v : Nat) (R : Nat → Int) (k : Nat) (b : Bool) : Prop := ∀ w, Calls Tryd.prog 51 #[.int .i64 v] w fun e w' => e = .returned (.tuple #[.agg #[.int .i64 (R (k * 5)), .int .i64 (R (k * 5 + 1)), .int .i64 (R (k * 5 + 2)), .int .i64 (R (k * 5 + 3)), .int .i64 (R (k * 5 + 4))], .bool b]) ∧ Below w.heap.size w w'
def cdOf (b : Bool) : Int := if b = true then 0 else 10

def DecOne (v : Nat) (q : Nat → Int) (b : Bool) : Prop :=
    (∀ w, Calls Tryd.prog 51 #[.int .i64 v] w fun e w' => e = .returned (.tuple #[.agg #[.int .i64 (q 0), .int .i64 (q 1), .int .i64 (q 2), .int .i64 (q 3), .int .i64 (q 4)], .bool b]) ∧ Below w.heap.size w w') ∧
    (∀ w, Laid w → Calls Tryd.prog 12 #[.int .i64 v] w fun e w' => e = .returned (.tuple #[.agg #[.int .i64 (q 0), .int .i64 (q 1), .int .i64 (q 2), .int .i64 (q 3), .int .i64 (q 4)], .int .i64 (cdOf b)]) ∧ Below w.heap.size w w') ∧
    (b = true → rightB (q 0) (q 1) (q 2) (q 3) (q 4) = true)
theorem decOne (v : Nat) (v1 : v < 4294967296) : ∃ (q : Nat → Int) (b : Bool), DecOne v q b := by
  have w0 : (0 : Int) ≤ (v : Int) := by omega
  have w1 : (v : Int) < 4294967296 := by omega
  rcases first_hit v with h | ⟨n, n0, n1, h, hh⟩
  · exact ⟨fun _ => 0, false, fun w => dmNone v w0 w1 h w, fun w hl => decNone v w0 w1 h w, fun h => by cases h⟩
  · refine ⟨fun i => [(n : Int), tkRd (shT n).1 v, tkR1 (shT n).1 v, tkR2 (shT n).1 v, takeF (shT n).1 v].getD i 0, true, fun w => dmYes v w0 w1 n n0 n1 h hh _ rfl w, fun w hl => decX v w0 w1 n n0 n1 h hh _ rfl w, fun _ => ?_⟩
    obtain ⟨f0, f1, _⟩ := sh_bounds (shT_ok n (by omega) (by omega))
    have hr := right_taken (shT (n : Int)).1 (v : Int) f0 f1
    show rightB (n : Int) (tkRd (shT n).1 v) (tkR1 (shT n).1 v) (tkR2 (shT n).1 v) (takeF (shT n).1 v) = true
    unfold rightB
    rw [hr]
    simp
    omega

theorem decRun (s : ByteArray) : ∃ (R : Nat → Int) (ok : Nat → Bool), ∀ k, ModIs (wrd s k) R k (ok k) ∧ DecIs (wrd s k) R k (cdOf (ok k)) ∧ (ok k = true → rightB (R (k * 5)) (R (k * 5 + 1)) (R (k * 5 + 2)) (R (k * 5 + 3)) (R (k * 5 + 4)) = true) := by
  have key : ∀ k, ∃ x : (Nat → Int) × Bool, DecOne (wrd s k) x.1 x.2 := fun k => by
    obtain ⟨q, b, h⟩ := decOne (wrd s k) (wrd_lt s k)
    exact ⟨(q, b), h⟩
  obtain ⟨f, hf⟩ : ∃ f : Nat → (Nat → Int) × Bool, ∀ k, DecOne (wrd s k) (f k).1 (f k).2 := ⟨fun k => Classical.choose (key k), fun k => Classical.choose_spec (key k)⟩
  have e0 : ∀ k, (k * 5) / 5 = k := fun k => by omega
  have e0' : ∀ k, (k * 5) % 5 = 0 := fun k => by omega
  have e1 : ∀ k, (k * 5 + 1) / 5 = k := fun k => by omega
  have e1' : ∀ k, (k * 5 + 1) % 5 = 1 := fun k => by omega
  have e2 : ∀ k, (k * 5 + 2) / 5 = k := fun k => by omega
  have e2' : ∀ k, (k * 5 + 2) % 5 = 2 := fun k => by omega
  have e3 : ∀ k, (k * 5 + 3) / 5 = k := fun k => by omega
  have e3' : ∀ k, (k * 5 + 3) % 5 = 3 := fun k => by omega
  have e4 : ∀ k, (k * 5 + 4) / 5 = k := fun k => by omega
  have e4' : ∀ k, (k * 5 + 4) % 5 = 4 := fun k => by omega
  refine ⟨fun i => (f (i / 5)).1 (i % 5), fun k => (f k).2, fun k => ?_⟩
  have h := hf k
  unfold ModIs DecIs
  simp only [e0, e0', e1, e1', e2, e2', e3, e3', e4, e4']
  exact h

/-- The first word that is none, or the run's length. -/
theorem first_no (ok : Nat → Bool) (N : Nat) : ∃ j, j ≤ N ∧ (∀ k, k < j → ok k = true) ∧ (j < N → ok j = false) := by
  induction N with
  | zero => exact ⟨0, Nat.le_refl _, fun k hk => absurd hk (Nat.not_lt_zero _), fun h => absurd h (Nat.lt_irrefl _)⟩
  | succ N ih =>
    obtain ⟨j, h1, h2, h3⟩ := ih
    by_cases e : j < N
    · exact ⟨j, by omega, h2, fun _ => h3 e⟩
    · obtain rfl : j = N := by omega
      cases hb : ok j with
      | true => exact ⟨j + 1, Nat.le_refl _, fun k hk => by
          rcases Nat.lt_succ_iff_lt_or_eq.1 hk with h | rfl
          · exact h2 k h
          · exact hb, fun h => absurd h (Nat.lt_irrefl _)⟩
      | false => exact ⟨j, by omega, h2, fun _ => hb⟩

/-- A run of N words whose first j are instructions. -/
structure Run (s : ByteArray) (N : Nat) (R : Nat → Int) (j : Nat) : Prop where
  size : s.size = 4 * N
  small : N ≤ 16384
  le : j ≤ N
  yes : ∀ k, k < j → Hid (ModIs (wrd s k) R k true)
  no : j < N → Hid (ModIs (wrd s j) R j false)
  dec : ∃ co : Nat → Int, (∀ k, k < N → Hid (DecIs (wrd s k) R k (co k))) ∧ (∀ k, k < j → co k = 0) ∧ (j < N → co j = 10)
  right : ∀ k, k < j → rightB (R (k * 5)) (R (k * 5 + 1)) (R (k * 5 + 2)) (R (k * 5 + 3)) (R (k * 5 + 4)) = true
theorem run_of (s : ByteArray) (N : Nat) (hs : s.size = 4 * N) (hN : N ≤ 16384) : ∃ R j, Run s N R j := by
  obtain ⟨R, ok, h⟩ := decRun s
  obtain ⟨j, h1, h2, h3⟩ := first_no ok N
  refine ⟨R, j, hs, hN, h1, fun k hk => ?_, fun hk => ?_, ⟨fun k => cdOf (ok k), fun k _ => (h k).2.1, fun k hk => by show cdOf (ok k) = 0; rw [h2 k hk]; rfl, fun hj => by show cdOf (ok j) = 10; rw [h3 hj]; rfl⟩, fun k hk => (h k).2.2 (h2 k hk)⟩
  · have := (h k).1
    rw [h2 k hk] at this
    exact this
  · have := (h j).1
    rw [h3 hk] at this
    exact this

/-- The program's reading of a run. -/
theorem Run.impl {s : ByteArray} {N j : Nat} {R : Nat → Int} (h : Run s N R j) (w : World) (hL : Laid w) :
    Calls Tryd.prog 55 #[.string s] w fun e w' => (∃ p n c x y, e = .returned (.tuple #[.slice p n c, .int .i64 x, .int .i64 y]) ∧ ((j = N ∧ n = N ∧ x = 0 ∧ y = 0) ∨ (j < N ∧ n = 0 ∧ x = j ∧ y = 10)) ∧ OwnL w' w.heap.size p n R) ∧ Below w.heap.size w w' := by
  obtain ⟨co, h1, h2, h3⟩ := h.dec
  exact runC s N h.size h.small R co h1 j h.le h2 h3 w hL

theorem szRun (s : ByteArray) (w : World) (hs : s.size ≤ maxLen) :
    Calls Tryd.prog 52 #[.string s] w fun e w' => e = .returned (.bool (decide (s.size % 4 = 0 ∧ s.size ≤ 256))) ∧ w' = w := by
  unfold maxLen at hs
  by_cases h : s.size % 4 = 0
  · by_cases h1 : s.size ≤ 256
    · have e : decide (s.size % 4 = 0 ∧ s.size ≤ 256) = true := by simp [h, h1]
      rw [e]
      go_enter Tryd.func52, Tryd.ntmps52
      go_wp2
      go_ret
      refine ⟨congrArg (fun x => Ending.returned (.bool x)) ?_, rfl⟩
      first | rfl | (simp; omega)
    · have e : decide (s.size % 4 = 0 ∧ s.size ≤ 256) = false := by simp [h, h1]
      rw [e]
      go_enter Tryd.func52, Tryd.ntmps52
      go_wp2
      go_ret
      refine ⟨congrArg (fun x => Ending.returned (.bool x)) ?_, rfl⟩
      first | rfl | (simp; omega)
  · have e : decide (s.size % 4 = 0 ∧ s.size ≤ 256) = false := by simp [h]
    rw [e]
    go_enter Tryd.func52, Tryd.ntmps52
    go_wp2
    go_ret
    refine ⟨congrArg (fun x => Ending.returned (.bool x)) ?_, rfl⟩
    first | rfl | (simp; omega)

set_option maxRecDepth 100000 in
set_option maxHeartbeats 2000000 in
/-- The model's reading of a run. -/
theorem Run.model {s : ByteArray} {N j : Nat} {R : Nat → Int} (h : Run s N R j) (w : World) :
    Calls Tryd.prog 53 #[.string s] w fun e w' => (∃ p n c x, e = .returned (.tuple #[.slice p n c, .int .i64 x]) ∧ ((j = N ∧ n = N ∧ x = -1) ∨ (j < N ∧ n = 0 ∧ x = j)) ∧ OwnL w' w.heap.size p n R) ∧ Below w.heap.size w w' := by
  obtain ⟨i0, hi, hz0, hz1, hz2⟩ := info_parts Tryd.info_inr
  have hs := h.size
  have hN := h.small
  have hle := h.le
  go_enter Tryd.func53, Tryd.ntmps53
  go_wp2
  go_loopw [4, 5] (fun v i wr => ∃ k : Nat, k ≤ j ∧ i = .int .i64 k ∧ wr.ownsRow w.heap.size 24 5 v k (cellsR R k) ∧ Below w.heap.size w wr) (fun _ i _ => N - (intOf i).toNat)
  case atStart => exact ⟨0, Nat.zero_le _, rfl, World.ownsRow_made w #[] 0 (Nat.le_refl _) (Nat.zero_le _) rfl, (Below.refl _ _).alloc (Nat.le_refl _) _⟩
  case round =>
    obtain ⟨k, hk, rfl, hown, hB⟩ := hrel
    have hv : takeV s (4 * k) 4 = (wrd s k : Nat) := takeV_small s (4 * k) 4 (by omega)
    by_cases hkj : k < j
    · have hkN : k < N := by omega
      have hy := h.yes k hkj
      have hlt : (4 : Int) * k < s.size := by omega
      go_wp2_with (go_at_call 89; refine (specTake0 s (4 * k) 4 _ (by omega) (by omega) (by omega)).mono ?_; rintro e w1 ⟨rfl, rfl⟩; rw [hv])
      refine (hy.out _).mono ?_
      rintro e w2 ⟨rfl, hb2⟩
      have own2 := row_below hown hb2
      have B2 := hB.trans (hb2.mono hB.size)
      have s2 := B2.size
      have hlen := cellsR_len R k
      clear hb2 hown hB hv hy
      go_wp2_with (at_builtin; refine wpList_append_lies _ rfl _ _ 37 rfl w.heap.size 24 i0 _ 5 40 Tryd.underlying37 hi hz0 hz1 hz2 rfl (by omega) _ k _ rfl ((own2.alloc _).alloc _) ⟨w2.heap.size + 1, 0, none⟩ 1 1 [.int .i64 (R (k * 5)), .int .i64 (R (k * 5 + 1)), .int .i64 (R (k * 5 + 2)), .int .i64 (R (k * 5 + 3)), .int .i64 (R (k * 5 + 4))] rfl rfl (World.news_of_block (cs := #[.int .i64 (R (k * 5)), .int .i64 (R (k * 5 + 1)), .int .i64 (R (k * 5 + 2)), .int .i64 (R (k * 5 + 3)), .int .i64 (R (k * 5 + 4))]) (t := 24) (fr := (0, 0)) (by first | exact heap_alloc_new _ _ | (rw [← World.size_alloc w2]; exact heap_alloc_new _ _))) (by simp [Value.oneCell']) (by omega) (by unfold maxLen; omega) (by omega) (by simp; omega) (w2.heap.size + 1 + 1) (by simp) ?_; intro gg cap2 w3 hown3 hg3 hat3 hlt3)
      go_roundw
      case rel => exact ⟨k + 1, by omega, by go_num, by rw [cellsR_succ]; exact hown3, ((B2.alloc s2 _).alloc (by simp; omega) _).grown hg3 (by simp; omega) (fun i e => (own2.lt i e).1)⟩
      case measure => simp [intOf]; omega
    · obtain rfl : k = j := by omega
      by_cases hkN : k < N
      · have hy := h.no hkN
        have hlt : (4 : Int) * k < s.size := by omega
        go_wp2_with (go_at_call 89; refine (specTake0 s (4 * k) 4 _ (by omega) (by omega) (by omega)).mono ?_; rintro e w1 ⟨rfl, rfl⟩; rw [hv])
        refine (hy.out _).mono ?_
        rintro e w2 ⟨rfl, hb2⟩
        have B2 := hB.trans (hb2.mono hB.size)
        have s2 := B2.size
        clear hb2 hown hB hv hy
        go_wp2
        go_ret2
        exact ⟨⟨_, _, _, _, rfl, .inr ⟨hkN, rfl, rfl⟩, .inl rfl⟩, (B2.alloc s2 _).alloc (by simp; omega) _⟩
      · obtain rfl : k = N := by omega
        obtain ⟨p, c, rfl, ho⟩ := ownL_of_row hown
        have hlt : ¬ ((4 : Int) * k < s.size) := by omega
        go_wp2
        go_ret2
        first | exact ⟨⟨_, _, _, _, rfl, .inl ⟨rfl, rfl, rfl⟩, ho⟩, hB⟩ | exact ⟨⟨_, _, _, _, rfl, ⟨rfl, rfl⟩, ho⟩, hB⟩

/-- The code of a run's length. -/
def crC (n few : Nat) : Int := if 65536 < n then 2 else if n % 4 = 0 ∧ 4 * few ≤ n ∧ n ≤ 256 then 0 else 8
theorem ret_boolR {a b : Bool} (h : a = b) : Ending.returned (.bool a) = .returned (.bool b) := by rw [h]
def lenB (n few : Nat) : Bool := decide (n % 4 = 0 ∧ 4 * few ≤ n ∧ n ≤ 256)
theorem lenF (n few : Nat) (w : World) (hn : n ≤ 65536) (hf : few ≤ 5) :
    Calls Tryd.prog 90 #[.int .i64 n, .int .i64 few] w fun e w' => e = .returned (.bool (lenB n few)) ∧ w' = w := by
  have ht : (n : Int).tmod 4 = (n : Int) % 4 := Int.tmod_eq_emod_of_nonneg (by omega)
  by_cases h4 : n % 4 = 0
  · have h4' : (n : Int) % 4 = 0 := by omega
    by_cases h20 : 4 * few ≤ n
    · have h20' : (few : Int) * 4 ≤ (n : Int) := by omega
      by_cases h256 : n ≤ 256
      · rw [show lenB n few = true from by simp [lenB, h4, h20, h256]]
        go_enter Tryd.func90, Tryd.ntmps90
        go_wp2
        go_ret
        exact ⟨ret_boolR (by first | rfl | (simp; done) | (simp; omega) | omega), rfl⟩
      · rw [show lenB n few = false from by simp [lenB]; omega]
        go_enter Tryd.func90, Tryd.ntmps90
        go_wp2
        go_ret
        exact ⟨ret_boolR (by first | rfl | (simp; done) | (simp; omega) | omega), rfl⟩
    · have h20' : ¬ (few : Int) * 4 ≤ (n : Int) := by omega
      rw [show lenB n few = false from by simp [lenB]; omega]
      go_enter Tryd.func90, Tryd.ntmps90
      go_wp2
      go_ret
      exact ⟨ret_boolR (by first | rfl | (simp; done) | (simp; omega) | omega), rfl⟩
  · have h4' : ¬ (n : Int) % 4 = 0 := by omega
    have h4b : ((n : Int) % 4 == 0) = false := by simpa using h4'
    rw [show lenB n few = false from by simp [lenB, h4]]
    go_enter Tryd.func90, Tryd.ntmps90
    go_wp2
    go_ret
    exact ⟨ret_boolR (by first | rfl | (simp; done) | (simp; omega) | omega), rfl⟩
theorem checkRunC (s : ByteArray) (few : Nat) (w : World) (hs : s.size ≤ maxLen) (hf : few ≤ 5) :
    Calls Tryd.prog 54 #[.string s, .int .i64 few] w fun e w' => e = .returned (.int .i64 (crC s.size few)) ∧ w' = w := by
  unfold maxLen at hs
  by_cases h0 : 65536 < s.size
  · have e : crC s.size few = 2 := by unfold crC; rw [if_pos h0]
    rw [e]
    go_enter Tryd.func54, Tryd.ntmps54
    go_wp2
    go_ret
    exact ⟨rfl, rfl⟩
  · have HL : Hid (Calls Tryd.prog 90 #[.int .i64 s.size, .int .i64 few] w fun e w' => e = .returned (.bool (lenB s.size few)) ∧ w' = w) := lenF s.size few w (by omega) hf
    by_cases h : s.size % 4 = 0 ∧ 4 * few ≤ s.size ∧ s.size ≤ 256
    · have e : crC s.size few = 0 := by unfold crC; rw [if_neg h0, if_pos h]
      have eb : lenB s.size few = true := decide_eq_true h
      rw [e]
      rw [eb] at HL
      clear h e eb
      go_enter Tryd.func54, Tryd.ntmps54
      go_wp2_with (go_at_call 90; refine HL.out.mono ?_; rintro e w' ⟨rfl, rfl⟩)
      go_ret
      exact ⟨rfl, rfl⟩
    · have e : crC s.size few = 8 := by unfold crC; rw [if_neg h0, if_neg h]
      have eb : lenB s.size few = false := decide_eq_false h
      rw [e]
      rw [eb] at HL
      clear h e eb
      go_enter Tryd.func54, Tryd.ntmps54
      go_wp2_with (go_at_call 90; refine HL.out.mono ?_; rintro e w' ⟨rfl, rfl⟩)
      go_ret
      exact ⟨rfl, rfl⟩
/-- An answer of a list and two numbers. -/
def ListAns (B n : Nat) (x y : Int) (R : Nat → Int) (w : World) (e : Ending) (w' : World) : Prop := (∃ p c, e = .returned (.tuple #[.slice p n c, .int .i64 x, .int .i64 y]) ∧ OwnL w' B p n R) ∧ Below w.heap.size w w'

theorem instrsImplNo (s : ByteArray) (w : World) (hs : s.size ≤ maxLen) (c : Int) (hc : crC s.size 0 = c) (h0 : c ≠ 0) :
    Calls Tryd.prog 19 #[.string s] w fun e w' => ListAns w.heap.size 0 0 c (fun _ => 0) w e w' := by
  go_enter Tryd.func19, Tryd.ntmps19
  go_wp2_with (go_at_call 54; refine (checkRunC s 0 _ hs (by omega)).mono ?_; rintro e w' ⟨rfl, rfl⟩; rw [hc])
  refine bodyPost_ret (v := .tuple #[.slice none 0 0, .int .i64 0, .int .i64 c]) (by simp [results, Tryd.results19, go_sem]) rfl ⟨⟨none, 0, rfl, .inl rfl⟩, Below.refl _ _⟩
end Go.Proofs.YtepanogpojolfaaDoor

namespace Go.Proofs.YtepanogpojolfaaDoor
open Go Go.RowKit
set_option linter.unusedVariables false

theorem crC_cases (n : Nat) : (65536 < n ∧ crC n 0 = 2) ∨ (n ≤ 65536 ∧ ¬ (n % 4 = 0 ∧ n ≤ 256) ∧ crC n 0 = 8) ∨ (n % 4 = 0 ∧ n ≤ 256 ∧ crC n 0 = 0) := by
  unfold crC
  by_cases h : 65536 < n
  · exact .inl ⟨h, by rw [if_pos h]⟩
  · by_cases h1 : n % 4 = 0 ∧ n ≤ 256
    · exact .inr (.inr ⟨h1.1, h1.2, by rw [if_neg h, if_pos ⟨h1.1, by omega, h1.2⟩]⟩)
    · exact .inr (.inl ⟨by omega, h1, by rw [if_neg h, if_neg (fun x => h1 ⟨x.1, x.2.2⟩)]⟩)

theorem instrsSpecLong (s : ByteArray) (w : World) (hs : s.size ≤ maxLen) (h : 65536 < s.size) :
    Calls Tryd.prog 18 #[.string s] w fun e w' => ListAns w.heap.size 0 0 2 (fun _ => 0) w e w' := by
  unfold maxLen at hs
  go_enter Tryd.func18, Tryd.ntmps18
  go_wp2
  refine bodyPost_ret (v := .tuple #[.slice (some ⟨w.heap.size, 0, none⟩) 0 0, .int .i64 0, .int .i64 2]) (by simp [results, Tryd.results18, go_sem]) rfl ⟨⟨_, _, rfl, .inl rfl⟩, (Below.refl _ _).alloc (Nat.le_refl _) _⟩
theorem instrsSpecSize (s : ByteArray) (w : World) (hs : s.size ≤ 65536) (h : ¬ (s.size % 4 = 0 ∧ s.size ≤ 256)) :
    Calls Tryd.prog 18 #[.string s] w fun e w' => ListAns w.heap.size 0 0 8 (fun _ => 0) w e w' := by
  have e : decide (s.size % 4 = 0 ∧ s.size ≤ 256) = false := by simp only [decide_eq_false_iff_not]; exact h
  go_enter Tryd.func18, Tryd.ntmps18
  go_wp2_with (go_at_call 52; refine (szRun s _ (by unfold maxLen; omega)).mono ?_; rintro e' w' ⟨rfl, rfl⟩; rw [e])
  refine bodyPost_ret (v := .tuple #[.slice (some ⟨w'.heap.size, 0, none⟩) 0 0, .int .i64 0, .int .i64 8]) (by simp [results, Tryd.results18, go_sem]) rfl ⟨⟨_, _, rfl, .inl rfl⟩, (Below.refl _ _).alloc (Nat.le_refl _) _⟩

theorem instrsSpecYes (s : ByteArray) (N j : Nat) (R : Nat → Int) (w : World) (hr : Run s N R j) (hj : j = N) (h : s.size % 4 = 0 ∧ s.size ≤ 256) :
    Calls Tryd.prog 18 #[.string s] w fun e w' => ListAns w.heap.size N 0 0 R w e w' := by
  have e : decide (s.size % 4 = 0 ∧ s.size ≤ 256) = true := by simp only [decide_eq_true_eq]; exact h
  have hle : s.size ≤ 65536 := by omega
  go_enter Tryd.func18, Tryd.ntmps18
  go_wp2_with (go_at_call 52; refine (szRun s _ (by unfold maxLen; omega)).mono ?_; rintro e' w' ⟨rfl, rfl⟩; rw [e])
  refine (hr.model _).mono ?_
  rintro e2 w2 ⟨⟨p, n, c, x, rfl, ⟨hj', rfl, rfl⟩ | ⟨hj', rfl, rfl⟩, ho⟩, hb⟩
  · go_wp2
    refine bodyPost_ret (v := .tuple #[.slice p _ c, .int .i64 0, .int .i64 0]) (by simp [results, Tryd.results18, go_sem]) rfl ⟨⟨_, _, rfl, ho⟩, hb⟩
  · exact absurd hj (by omega)
theorem instrsSpecNo (s : ByteArray) (N j : Nat) (R : Nat → Int) (w : World) (hr : Run s N R j) (hj : j < N) (h : s.size % 4 = 0 ∧ s.size ≤ 256) :
    Calls Tryd.prog 18 #[.string s] w fun e w' => ListAns w.heap.size 0 j 10 R w e w' := by
  have e : decide (s.size % 4 = 0 ∧ s.size ≤ 256) = true := by simp only [decide_eq_true_eq]; exact h
  have hle : s.size ≤ 65536 := by omega
  go_enter Tryd.func18, Tryd.ntmps18
  go_wp2_with (go_at_call 52; refine (szRun s _ (by unfold maxLen; omega)).mono ?_; rintro e' w' ⟨rfl, rfl⟩; rw [e])
  refine (hr.model _).mono ?_
  rintro e2 w2 ⟨⟨p, n, c, x, rfl, ⟨hj', rfl, rfl⟩ | ⟨hj', rfl, rfl⟩, ho⟩, hb⟩
  · exact absurd hj (by omega)
  · have hj0 : (0 : Int) ≤ j := by omega
    go_wp2
    refine bodyPost_ret (v := .tuple #[.slice (some ⟨w2.heap.size, 0, none⟩) 0 0, .int .i64 j, .int .i64 10]) (by simp [results, Tryd.results18, go_sem]) rfl ⟨⟨_, _, rfl, .inl rfl⟩, hb.alloc hb.size _⟩
theorem instrsImplYes (s : ByteArray) (N j : Nat) (R : Nat → Int) (w : World) (hL : Laid w) (hr : Run s N R j) (hj : j = N) (h : s.size % 4 = 0 ∧ s.size ≤ 256) (hc : crC s.size 0 = 0) :
    Calls Tryd.prog 19 #[.string s] w fun e w' => ListAns w.heap.size N 0 0 R w e w' := by
  have hle : s.size ≤ 65536 := by omega
  go_enter Tryd.func19, Tryd.ntmps19
  go_wp2_with (go_at_call 54; refine (checkRunC s 0 _ (by unfold maxLen; omega) (by omega)).mono ?_; rintro e' w' ⟨rfl, rfl⟩; rw [hc])
  refine (hr.impl _ hL).mono ?_
  rintro e2 w2 ⟨⟨p, n, c, x, y, rfl, ⟨hj', rfl, rfl, rfl⟩ | ⟨hj', rfl, rfl, rfl⟩, ho⟩, hb⟩
  · go_wp2
    refine bodyPost_ret (v := .tuple #[.slice p _ c, .int .i64 0, .int .i64 0]) (by simp [results, Tryd.results19, go_sem]) rfl ⟨⟨_, _, rfl, ho⟩, hb⟩
  · exact absurd hj (by omega)
theorem instrsImplWrong (s : ByteArray) (N j : Nat) (R : Nat → Int) (w : World) (hL : Laid w) (hr : Run s N R j) (hj : j < N) (h : s.size % 4 = 0 ∧ s.size ≤ 256) (hc : crC s.size 0 = 0) :
    Calls Tryd.prog 19 #[.string s] w fun e w' => ListAns w.heap.size 0 j 10 R w e w' := by
  have hle : s.size ≤ 65536 := by omega
  go_enter Tryd.func19, Tryd.ntmps19
  go_wp2_with (go_at_call 54; refine (checkRunC s 0 _ (by unfold maxLen; omega) (by omega)).mono ?_; rintro e' w' ⟨rfl, rfl⟩; rw [hc])
  refine (hr.impl _ hL).mono ?_
  rintro e2 w2 ⟨⟨p, n, c, x, y, rfl, ⟨hj', rfl, rfl, rfl⟩ | ⟨hj', rfl, rfl, rfl⟩, ho⟩, hb⟩
  · exact absurd hj (by omega)
  · go_wp2
    refine bodyPost_ret (v := .tuple #[.slice p 0 c, .int .i64 j, .int .i64 10]) (by simp [results, Tryd.results19, go_sem]) rfl ⟨⟨_, _, rfl, .inl rfl⟩, hb⟩

/-- Both answer the same of whatever run. -/
theorem instrsBoth (s : ByteArray) (hs : s.size ≤ maxLen) : ∃ (n : Nat) (x y : Int) (R : Nat → Int), n ≤ 64 ∧
    (∀ w, Calls Tryd.prog 18 #[.string s] w fun e w' => ListAns w.heap.size n x y R w e w') ∧
    (∀ w, Laid w → Calls Tryd.prog 19 #[.string s] w fun e w' => ListAns w.heap.size n x y R w e w') := by
  rcases crC_cases s.size with ⟨h, hc⟩ | ⟨h, h', hc⟩ | ⟨h, h', hc⟩
  · exact ⟨0, 0, 2, fun _ => 0, by omega, fun w => instrsSpecLong s w hs h, fun w hL => instrsImplNo s w hs 2 hc (by omega)⟩
  · exact ⟨0, 0, 8, fun _ => 0, by omega, fun w => instrsSpecSize s w h h', fun w hL => instrsImplNo s w hs 8 hc (by omega)⟩
  · obtain ⟨R, j, hr⟩ := run_of s (s.size / 4) (by omega) (by omega)
    by_cases e : j = s.size / 4
    · exact ⟨s.size / 4, 0, 0, R, by omega, fun w => instrsSpecYes s _ j R w hr e ⟨h, h'⟩, fun w hL => instrsImplYes s _ j R w hL hr e ⟨h, h'⟩ hc⟩
    · have hj : j < s.size / 4 := by have := hr.le; omega
      exact ⟨0, j, 10, R, by omega, fun w => instrsSpecNo s _ j R w hr hj ⟨h, h'⟩, fun w hL => instrsImplWrong s _ j R w hL hr hj ⟨h, h'⟩ hc⟩
end Go.Proofs.YtepanogpojolfaaDoor
