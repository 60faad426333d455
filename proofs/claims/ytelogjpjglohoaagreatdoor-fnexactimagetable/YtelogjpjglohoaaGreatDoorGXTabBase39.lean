/- The model's look at an image, whole. The program's test of a function's place. Runs: what their words are; both readings of them. Both InstrsOf. The program's LintFunction. -/
import Derived.Test.YtelogjpjglohoaaGreatDoorGXTabBase2
import Derived.Test.YtelogjpjglohoaaGreatDoorGXTabBase38
import Derived.Test.YtelogjpjglohoaaGreatDoorRows
import Derived.WalkKit
import Derived.WalkSpells
import Derived.ProofKit
import Derived.Below
import Derived.Test.YtelogjpjglohoaaGreatDoorGXTabBase21
namespace Go.Proofs.YtelogjpjglohoaaGreatDoor
open Go Go.RowKit
set_option linter.unusedVariables false

theorem placeSpec (nm : ByteArray) (kd pl sz fr : Int) (w : World) (h0 : 0 ≤ pl) (h1 : pl ≤ 1048576) :
    Calls Tryz.prog 41 #[.agg #[.string nm, .int .i64 kd, .int .i64 pl, .int .i64 sz, .int .i64 fr]] w fun e w' => e = .returned (.int .i64 (if kd = 1 then 4096 + pl else 16384 + pl)) ∧ Below w.heap.size w w' := by
  by_cases h : kd = 1
  · rw [if_pos h]
    subst h
    go_enter Tryz.func41, Tryz.ntmps41
    go_wp2
    go_ret
    exact ⟨rfl, grown1' _ _⟩
  · rw [if_neg h]
    have hb : (kd == 1) = false := by simpa using h
    go_enter Tryz.func41, Tryz.ntmps41
    go_wp2
    go_ret
    exact ⟨rfl, grown1' _ _⟩

set_option maxRecDepth 100000 in
set_option maxHeartbeats 4000000 in
theorem specEnt (p : Option Addr) (n kk : Nat) (S : Nat → SymD) (w : World) (hn : n ≤ 16) (hb : ∀ i, i < n → 0 ≤ (S i).pl ∧ (S i).pl ≤ 1048576) (hp : SymsAt w p n S) :
    Calls Tryz.prog 61 #[.slice p n kk] w fun e w' => (∃ q d, e = .returned (.slice q (entU S n).length d) ∧ OwnI w' w.heap.size q (entU S n).length (fun i => (entU S n).getD i 0)) ∧ Below w.heap.size w w' := by
  obtain ⟨i0, hi0, hz0, hz1, hz2⟩ := info_parts Tryz.info_int5
  go_enter Tryz.func61, Tryz.ntmps61
  go_wp2_with fail
  go_loopw [3, 4] (fun v i wr => ∃ k : Nat, k ≤ n ∧ i = .int .i64 k ∧ wr.ownsRow w.heap.size 3 1 v (entU S k).length ((entU S k).map (Value.int .i64)) ∧ Below w.heap.size w wr) (fun _ i _ => n - (intOf i).toNat)
  case atStart => exact ⟨0, Nat.zero_le _, rfl, World.ownsRow_made w #[] 0 (Nat.le_refl _) (Nat.zero_le _) rfl, (Below.refl _ _).alloc (Nat.le_refl _) _⟩
  case round =>
    obtain ⟨k, hk, rfl, hown, hB⟩ := hrel
    by_cases hlt : k < n
    · rcases hp with hp | ⟨b, o, rfl, hbb, hp⟩
      · omega
      obtain ⟨x0, x1, x2, x3, x4⟩ := (hp.below hB hbb).sym hlt
      obtain ⟨p0, p1⟩ := hb k hlt
      obtain ⟨nm, e0⟩ : ∃ s, (S k).nm = s := ⟨_, rfl⟩
      obtain ⟨kd, e1⟩ : ∃ s, (S k).kd = s := ⟨_, rfl⟩
      obtain ⟨pl, e2⟩ : ∃ s, (S k).pl = s := ⟨_, rfl⟩
      obtain ⟨sz, e3⟩ : ∃ s, (S k).sz = s := ⟨_, rfl⟩
      obtain ⟨fr, e4⟩ : ∃ s, (S k).fr = s := ⟨_, rfl⟩
      rw [e0] at x0
      rw [e1] at x1
      rw [e2] at x2 p0 p1
      rw [e3] at x3
      rw [e4] at x4
      have hsz := hB.size
      have hlen := entU_len S k
      have eU := entU_succ S k
      rw [e1] at eU
      clear hp hb
      by_cases h1 : kd = 1
      · have eP : plI' S k = 4096 + pl := by unfold plI'; rw [e1, e2, if_pos h1]
        rw [if_pos h1, eP] at eU
        subst h1
        have hpl := fun w' => placeSpec nm 1 pl sz fr w' p0 p1
        simp only [if_true] at hpl
        have HP : Hid (∀ w' : World, _) := hpl
        have EU : Hid (entU S (k + 1) = _) := eU
        clear e0 e1 e2 e3 e4 eP eU hpl
        go_wp2_with fail
        refine (HP.out _).mono ?_
        rintro e w2 ⟨rfl, hb2⟩
        have hown2 := row_below hown hb2
        have hB2 := hB.trans (hb2.mono hsz)
        have s2 := hB2.size
        clear hown hB hb2 x0 x1 x2 x3 x4 HP
        go_wp2_with (at_builtin; refine wpList_append_own_at _ rfl _ _ 85 rfl w.heap.size 3 i0 _ 1 8 Tryz.underlying85 hi0 hz0 hz1 hz2 rfl (by decide) _ _ _ rfl (hown2.alloc _) ⟨w2.heap.size, 0, none⟩ 1 1 [.int .i64 (4096 + pl)] rfl rfl (World.news_of_block (cs := #[.int .i64 (4096 + pl)]) (t := 3) (fr := (0, 0)) (heap_alloc_new w2 _)) (by simp [Value.oneCell']) (by unfold maxLen; omega) (by omega) (by simp; omega) ?_; intro v' w4 hown4 hg4 hn4 hat4)
        go_roundw
        case rel =>
          refine ⟨k + 1, by omega, by go_num, ?_, (hB2.alloc s2 _).grown hg4 (by simp; omega) (fun i e => (hown2.lt i e).1)⟩
          rw [EU.out, List.length_append, List.map_append]
          exact hown4
        case measure => simp [intOf]; omega
      · rw [if_neg h1, List.append_nil] at eU
        have hb1 : (kd == 1) = false := by simpa using h1
        have EU : Hid (entU S (k + 1) = _) := eU
        clear e0 e1 e2 e3 e4 eU
        go_wp2_with fail
        go_roundw
        case rel => exact ⟨k + 1, by omega, by go_num, by rw [EU.out]; exact hown, hB⟩
        case measure => simp [intOf]; omega
    · obtain rfl : k = n := by omega
      obtain ⟨p9, c9, rfl, hc9, ho⟩ := ownI_of_row hown
      clear hown
      go_wp2_with fail
      go_ret
      exact ⟨⟨p9, c9, rfl, ho⟩, hB⟩

/-- What the check of an image tells: of its symbols, or of its functions (L: what the check tells of function i). -/
inductive ImgIs (n C D : Nat) (S : Nat → SymD) (L : Nat → Int × Int) : Int → Int → Int → Prop
  | many (h : 16 < n) : ImgIs n C D S L 0 0 6
  | size (h : n ≤ 16) (h1 : 1024 < C ∨ 256 < D) : ImgIs n C D S L 0 0 8
  | syms (x y : Int) (h : n ≤ 16) (h1 : C ≤ 1024) (h2 : D ≤ 256) (hs : SymsIs n C D S x y) (hy : y ≠ 0) : ImgIs n C D S L x 0 y
  | fn (k : Nat) (h : n ≤ 16) (h1 : C ≤ 1024) (h2 : D ≤ 256) (hs : SymsIs n C D S 0 0) (hk : k < n) (hf : (S k).kd = 1) (hb : ∀ j, j < k → (S j).kd = 1 → (L j).2 = 0) (hn : (L k).2 ≠ 0) : ImgIs n C D S L k (L k).1 (L k).2
  | ok (h : n ≤ 16) (h1 : C ≤ 1024) (h2 : D ≤ 256) (hs : SymsIs n C D S 0 0) (hb : ∀ j, j < n → (S j).kd = 1 → (L j).2 = 0) : ImgIs n C D S L 0 0 0
theorem SymsIs.all {n : Nat} {C D : Int} {S : Nat → SymD} {x : Int} (h : SymsIs n C D S x 0) : ∀ j, j < n → fltI C D S j = 0 := by
  generalize hy : (0 : Int) = y at h
  cases h with
  | flt k hk a b => exact absurd hy.symm b
  | nosym => cases hy
  | short => cases hy
  | ok a => exact a
theorem SymsIs.zero {n : Nat} {C D : Int} {S : Nat → SymD} {x : Int} (h : SymsIs n C D S x 0) : x = 0 := by
  generalize hy : (0 : Int) = y at h
  cases h with
  | flt k hk a b => exact absurd hy.symm b
  | nosym => cases hy
  | short => cases hy
  | ok => rfl
theorem SymsIs.uniq {n : Nat} {C D : Int} {S : Nat → SymD} {x y x' y' : Int} (h : SymsIs n C D S x y) (h' : SymsIs n C D S x' y') : x = x' ∧ y = y' := by
  cases h with
  | flt k hk a b => obtain ⟨e1, e2⟩ := h'.at hk a b; exact ⟨e1.symm, e2.symm⟩
  | nosym a b =>
    cases h' with
    | flt k hk c d => exact absurd (a k hk) d
    | nosym => exact ⟨rfl, rfl⟩
    | short c d e f => rcases b with b | b <;> omega
    | ok c d e f => rcases b with b | b <;> omega
  | short a b c d =>
    cases h' with
    | flt k hk e f => exact absurd (a k hk) f
    | nosym e f => rcases f with f | f <;> omega
    | short => exact ⟨rfl, rfl⟩
    | ok e f g i => exact absurd i d
  | ok a b c d =>
    cases h' with
    | flt k hk e f => exact absurd (a k hk) f
    | nosym e f => rcases f with f | f <;> omega
    | short e f g i => exact absurd d i
    | ok => exact ⟨rfl, rfl⟩
theorem img_ex (n C D : Nat) (S : Nat → SymD) (L : Nat → Int × Int) : ∃ x y z, ImgIs n C D S L x y z := by
  by_cases h : n ≤ 16
  · by_cases h1 : C ≤ 1024
    · by_cases h2 : D ≤ 256
      · obtain ⟨x, y, hs⟩ := syms_ex n C D S
        by_cases hy : y = 0
        · subst hy
          have hx : x = 0 := hs.zero
          subst hx
          rcases first_ofP (fun j => (S j).kd = 1 → (L j).2 = 0) n with hb | ⟨k, k1, k2, k3⟩
          · exact ⟨_, _, _, .ok h h1 h2 hs hb⟩
          · have hf : (S k).kd = 1 := by
              by_cases e : (S k).kd = 1
              · exact e
              · exact absurd (fun e' => absurd e' e) k3
            exact ⟨_, _, _, .fn k h h1 h2 hs k1 hf k2 (fun e => k3 (fun _ => e))⟩
        · exact ⟨_, _, _, .syms x y h h1 h2 hs hy⟩
      · exact ⟨_, _, _, .size h (.inr (by omega))⟩
    · exact ⟨_, _, _, .size h (.inl (by omega))⟩
  · exact ⟨_, _, _, .many (by omega)⟩
/-- The text of function i. -/
def fnT (c : ByteArray) (S : Nat → SymD) (i : Nat) : ByteArray := c.extract (S i).pl.toNat ((S i).pl + (S i).sz).toNat
end Go.Proofs.YtelogjpjglohoaaGreatDoor

namespace Go.Proofs.YtelogjpjglohoaaGreatDoor
open Go Go.RowKit
set_option linter.unusedVariables false

def plB (a : Int) : Bool := decide (0 ≤ a ∧ a ≤ 1048575 ∧ a % 4 = 0)
theorem placeC (a : Int) (w : World) (hw : (Lit.int .i64 a).wf = true) :
    Calls Tryz.prog 54 #[.int .i64 a] w fun e w' => e = .returned (.bool (plB a)) ∧ w' = w := by
  by_cases h0 : 0 ≤ a
  · by_cases h1 : a ≤ 1048575
    · by_cases h2 : a % 4 = 0
      · have e : plB a = true := by simp [plB, h0, h1, h2]
        rw [e]
        go_enter Tryz.func54, Tryz.ntmps54
        go_wp2
        go_ret
        exact ⟨rfl, rfl⟩
      · have e : plB a = false := by simp [plB, h0, h1, h2]
        rw [e]
        go_enter Tryz.func54, Tryz.ntmps54
        go_wp2
        go_ret
        exact ⟨congrArg (fun x => Ending.returned (.bool x)) (by simp [h2]), rfl⟩
    · have e : plB a = false := by simp [plB, h0, h1]
      rw [e]
      go_enter Tryz.func54, Tryz.ntmps54
      go_wp2
      go_ret
      exact ⟨rfl, rfl⟩
  · have e : plB a = false := by simp [plB, h0]
    rw [e]
    go_enter Tryz.func54, Tryz.ntmps54
    go_wp2
    go_ret
    exact ⟨rfl, rfl⟩

end Go.Proofs.YtelogjpjglohoaaGreatDoor

namespace Go.Proofs.YtelogjpjglohoaaGreatDoor
open Go Go.RowKit
set_option linter.unusedVariables false

/-- The model's word for a word. -/
def ModIs (v : Nat) (R : Nat → Int) (k : Nat) (b : Bool) : Prop := ∀ w, Calls Tryz.prog 95 #[.int .i64 v] w fun e w' => e = .returned (.tuple #[.agg #[.int .i64 (R (k * 5)), .int .i64 (R (k * 5 + 1)), .int .i64 (R (k * 5 + 2)), .int .i64 (R (k * 5 + 3)), .int .i64 (R (k * 5 + 4))], .bool b]) ∧ Below w.heap.size w w'
def cdOf (b : Bool) : Int := if b = true then 0 else 10

def DecOne (v : Nat) (q : Nat → Int) (b : Bool) : Prop :=
    (∀ w, Calls Tryz.prog 95 #[.int .i64 v] w fun e w' => e = .returned (.tuple #[.agg #[.int .i64 (q 0), .int .i64 (q 1), .int .i64 (q 2), .int .i64 (q 3), .int .i64 (q 4)], .bool b]) ∧ Below w.heap.size w w') ∧
    (∀ w, Laid w → Calls Tryz.prog 121 #[.int .i64 v] w fun e w' => e = .returned (.tuple #[.agg #[.int .i64 (q 0), .int .i64 (q 1), .int .i64 (q 2), .int .i64 (q 3), .int .i64 (q 4)], .int .i64 (cdOf b)]) ∧ Below w.heap.size w w') ∧
    (b = true → rightB (q 0) (q 1) (q 2) (q 3) (q 4) = true)
theorem decOne (v : Nat) (v1 : v < 4294967296) : ∃ (q : Nat → Int) (b : Bool), DecOne v q b := by
  have w0 : (0 : Int) ≤ (v : Int) := by omega
  have w1 : (v : Int) < 4294967296 := by omega
  rcases first_hit v with h | ⟨n, n0, n1, h, hh⟩
  · exact ⟨fun _ => 0, false, fun w => dmNone v w0 w1 h w, fun w hl => decNone v w0 w1 h w, fun h => by cases h⟩
  · refine ⟨fun i => [(n : Int), tkRd (shT n).1 v, tkR1 (shT n).1 v, tkR2 (shT n).1 v, takeF (shT n).1 v].getD i 0, true, fun w => dmYes v w0 w1 n n0 n1 h hh _ rfl w, fun w hl => decX v w0 w1 n n0 n1 h hh _ rfl w, fun _ => ?_⟩
    obtain ⟨f0, f1, _⟩ := sh_bounds (shT_ok n (by omega) (by omega))
    have hr := right_taken (shT (n : Int)).1 (v : Int) f0 f1
    show rightB (n : Int) (tkRd (shT n).1 v) (tkR1 (shT n).1 v) (tkR2 (shT n).1 v) (takeF (shT n).1 v) = true
    unfold rightB
    rw [hr]
    simp
    omega

theorem decRun (s : ByteArray) : ∃ (R : Nat → Int) (ok : Nat → Bool), ∀ k, ModIs (wrd s k) R k (ok k) ∧ DecIs (wrd s k) R k (cdOf (ok k)) ∧ (ok k = true → rightB (R (k * 5)) (R (k * 5 + 1)) (R (k * 5 + 2)) (R (k * 5 + 3)) (R (k * 5 + 4)) = true) := by
  have key : ∀ k, ∃ x : (Nat → Int) × Bool, DecOne (wrd s k) x.1 x.2 := fun k => by
    obtain ⟨q, b, h⟩ := decOne (wrd s k) (wrd_lt s k)
    exact ⟨(q, b), h⟩
  obtain ⟨f, hf⟩ : ∃ f : Nat → (Nat → Int) × Bool, ∀ k, DecOne (wrd s k) (f k).1 (f k).2 := ⟨fun k => Classical.choose (key k), fun k => Classical.choose_spec (key k)⟩
  have e0 : ∀ k, (k * 5) / 5 = k := fun k => by omega
  have e0' : ∀ k, (k * 5) % 5 = 0 := fun k => by omega
  have e1 : ∀ k, (k * 5 + 1) / 5 = k := fun k => by omega
  have e1' : ∀ k, (k * 5 + 1) % 5 = 1 := fun k => by omega
  have e2 : ∀ k, (k * 5 + 2) / 5 = k := fun k => by omega
  have e2' : ∀ k, (k * 5 + 2) % 5 = 2 := fun k => by omega
  have e3 : ∀ k, (k * 5 + 3) / 5 = k := fun k => by omega
  have e3' : ∀ k, (k * 5 + 3) % 5 = 3 := fun k => by omega
  have e4 : ∀ k, (k * 5 + 4) / 5 = k := fun k => by omega
  have e4' : ∀ k, (k * 5 + 4) % 5 = 4 := fun k => by omega
  refine ⟨fun i => (f (i / 5)).1 (i % 5), fun k => (f k).2, fun k => ?_⟩
  have h := hf k
  unfold ModIs DecIs
  simp only [e0, e0', e1, e1', e2, e2', e3, e3', e4, e4']
  exact h

/-- The first word that is none, or the run's length. -/
theorem first_no (ok : Nat → Bool) (N : Nat) : ∃ j, j ≤ N ∧ (∀ k, k < j → ok k = true) ∧ (j < N → ok j = false) := by
  induction N with
  | zero => exact ⟨0, Nat.le_refl _, fun k hk => absurd hk (Nat.not_lt_zero _), fun h => absurd h (Nat.lt_irrefl _)⟩
  | succ N ih =>
    obtain ⟨j, h1, h2, h3⟩ := ih
    by_cases e : j < N
    · exact ⟨j, by omega, h2, fun _ => h3 e⟩
    · obtain rfl : j = N := by omega
      cases hb : ok j with
      | true => exact ⟨j + 1, Nat.le_refl _, fun k hk => by
          rcases Nat.lt_succ_iff_lt_or_eq.1 hk with h | rfl
          · exact h2 k h
          · exact hb, fun h => absurd h (Nat.lt_irrefl _)⟩
      | false => exact ⟨j, by omega, h2, fun _ => hb⟩

/-- A run of N words whose first j are instructions. -/
structure Run (s : ByteArray) (N : Nat) (R : Nat → Int) (j : Nat) : Prop where
  size : s.size = 4 * N
  small : N ≤ 16384
  le : j ≤ N
  yes : ∀ k, k < j → Hid (ModIs (wrd s k) R k true)
  no : j < N → Hid (ModIs (wrd s j) R j false)
  dec : ∃ co : Nat → Int, (∀ k, k < N → Hid (DecIs (wrd s k) R k (co k))) ∧ (∀ k, k < j → co k = 0) ∧ (j < N → co j = 10)
  right : ∀ k, k < j → rightB (R (k * 5)) (R (k * 5 + 1)) (R (k * 5 + 2)) (R (k * 5 + 3)) (R (k * 5 + 4)) = true
theorem run_of (s : ByteArray) (N : Nat) (hs : s.size = 4 * N) (hN : N ≤ 16384) : ∃ R j, Run s N R j := by
  obtain ⟨R, ok, h⟩ := decRun s
  obtain ⟨j, h1, h2, h3⟩ := first_no ok N
  refine ⟨R, j, hs, hN, h1, fun k hk => ?_, fun hk => ?_, ⟨fun k => cdOf (ok k), fun k _ => (h k).2.1, fun k hk => by show cdOf (ok k) = 0; rw [h2 k hk]; rfl, fun hj => by show cdOf (ok j) = 10; rw [h3 hj]; rfl⟩, fun k hk => (h k).2.2 (h2 k hk)⟩
  · have := (h k).1
    rw [h2 k hk] at this
    exact this
  · have := (h j).1
    rw [h3 hk] at this
    exact this

/-- The program's reading of a run. -/
theorem Run.impl {s : ByteArray} {N j : Nat} {R : Nat → Int} (h : Run s N R j) (w : World) (hL : Laid w) :
    Calls Tryz.prog 104 #[.string s] w fun e w' => (∃ p n c x y, e = .returned (.tuple #[.slice p n c, .int .i64 x, .int .i64 y]) ∧ ((j = N ∧ n = N ∧ x = 0 ∧ y = 0) ∨ (j < N ∧ n = 0 ∧ x = j ∧ y = 10)) ∧ OwnL w' w.heap.size p n R) ∧ Below w.heap.size w w' := by
  obtain ⟨co, h1, h2, h3⟩ := h.dec
  exact runC s N h.size h.small R co h1 j h.le h2 h3 w hL

theorem szRun (s : ByteArray) (w : World) (hs : s.size ≤ maxLen) :
    Calls Tryz.prog 81 #[.string s] w fun e w' => e = .returned (.bool (decide (s.size % 4 = 0 ∧ s.size ≤ 256))) ∧ w' = w := by
  unfold maxLen at hs
  by_cases h : s.size % 4 = 0
  · by_cases h1 : s.size ≤ 256
    · have e : decide (s.size % 4 = 0 ∧ s.size ≤ 256) = true := by simp [h, h1]
      rw [e]
      go_enter Tryz.func81, Tryz.ntmps81
      go_wp2
      go_ret
      refine ⟨congrArg (fun x => Ending.returned (.bool x)) ?_, rfl⟩
      first | rfl | (simp; omega)
    · have e : decide (s.size % 4 = 0 ∧ s.size ≤ 256) = false := by simp [h, h1]
      rw [e]
      go_enter Tryz.func81, Tryz.ntmps81
      go_wp2
      go_ret
      refine ⟨congrArg (fun x => Ending.returned (.bool x)) ?_, rfl⟩
      first | rfl | (simp; omega)
  · have e : decide (s.size % 4 = 0 ∧ s.size ≤ 256) = false := by simp [h]
    rw [e]
    go_enter Tryz.func81, Tryz.ntmps81
    go_wp2
    go_ret
    refine ⟨congrArg (fun x => Ending.returned (.bool x)) ?_, rfl⟩
    first | rfl | (simp; omega)

set_option maxRecDepth 100000 in
set_option maxHeartbeats 2000000 in
/-- The model's reading of a run. -/
theorem Run.model {s : ByteArray} {N j : Nat} {R : Nat → Int} (h : Run s N R j) (w : World) :
    Calls Tryz.prog 82 #[.string s] w fun e w' => (∃ p n c x, e = .returned (.tuple #[.slice p n c, .int .i64 x]) ∧ ((j = N ∧ n = N ∧ x = -1) ∨ (j < N ∧ n = 0 ∧ x = j)) ∧ OwnL w' w.heap.size p n R) ∧ Below w.heap.size w w' := by
  obtain ⟨i0, hi, hz0, hz1, hz2⟩ := info_parts Tryz.info_inr
  have hs := h.size
  have hN := h.small
  have hle := h.le
  go_enter Tryz.func82, Tryz.ntmps82
  go_wp2
  go_loopw [4, 5] (fun v i wr => ∃ k : Nat, k ≤ j ∧ i = .int .i64 k ∧ wr.ownsRow w.heap.size 93 5 v k (cellsR R k) ∧ Below w.heap.size w wr) (fun _ i _ => N - (intOf i).toNat)
  case atStart => exact ⟨0, Nat.zero_le _, rfl, World.ownsRow_made w #[] 0 (Nat.le_refl _) (Nat.zero_le _) rfl, (Below.refl _ _).alloc (Nat.le_refl _) _⟩
  case round =>
    obtain ⟨k, hk, rfl, hown, hB⟩ := hrel
    have hv : takeV s (4 * k) 4 = (wrd s k : Nat) := takeV_small s (4 * k) 4 (by omega)
    by_cases hkj : k < j
    · have hkN : k < N := by omega
      have hy := h.yes k hkj
      have hlt : (4 : Int) * k < s.size := by omega
      go_wp2_with (go_at_call 96; refine (specTake0 s (4 * k) 4 _ (by omega) (by omega) (by omega)).mono ?_; rintro e w1 ⟨rfl, rfl⟩; rw [hv])
      refine (hy.out _).mono ?_
      rintro e w2 ⟨rfl, hb2⟩
      have own2 := row_below hown hb2
      have B2 := hB.trans (hb2.mono hB.size)
      have s2 := B2.size
      have hlen := cellsR_len R k
      clear hb2 hown hB hv hy
      go_wp2_with (at_builtin; refine wpList_append_lies _ rfl _ _ 87 rfl w.heap.size 93 i0 _ 5 40 Tryz.underlying87 hi hz0 hz1 hz2 rfl (by omega) _ k _ rfl ((own2.alloc _).alloc _) ⟨w2.heap.size + 1, 0, none⟩ 1 1 [.int .i64 (R (k * 5)), .int .i64 (R (k * 5 + 1)), .int .i64 (R (k * 5 + 2)), .int .i64 (R (k * 5 + 3)), .int .i64 (R (k * 5 + 4))] rfl rfl (World.news_of_block (cs := #[.int .i64 (R (k * 5)), .int .i64 (R (k * 5 + 1)), .int .i64 (R (k * 5 + 2)), .int .i64 (R (k * 5 + 3)), .int .i64 (R (k * 5 + 4))]) (t := 93) (fr := (0, 0)) (by first | exact heap_alloc_new _ _ | (rw [← World.size_alloc w2]; exact heap_alloc_new _ _))) (by simp [Value.oneCell']) (by omega) (by unfold maxLen; omega) (by omega) (by simp; omega) (w2.heap.size + 1 + 1) (by simp) ?_; intro gg cap2 w3 hown3 hg3 hat3 hlt3)
      go_roundw
      case rel => exact ⟨k + 1, by omega, by go_num, by rw [cellsR_succ]; exact hown3, ((B2.alloc s2 _).alloc (by simp; omega) _).grown hg3 (by simp; omega) (fun i e => (own2.lt i e).1)⟩
      case measure => simp [intOf]; omega
    · obtain rfl : k = j := by omega
      by_cases hkN : k < N
      · have hy := h.no hkN
        have hlt : (4 : Int) * k < s.size := by omega
        go_wp2_with (go_at_call 96; refine (specTake0 s (4 * k) 4 _ (by omega) (by omega) (by omega)).mono ?_; rintro e w1 ⟨rfl, rfl⟩; rw [hv])
        refine (hy.out _).mono ?_
        rintro e w2 ⟨rfl, hb2⟩
        have B2 := hB.trans (hb2.mono hB.size)
        have s2 := B2.size
        clear hb2 hown hB hv hy
        go_wp2
        go_ret2
        exact ⟨⟨_, _, _, _, rfl, .inr ⟨hkN, rfl, rfl⟩, .inl rfl⟩, (B2.alloc s2 _).alloc (by simp; omega) _⟩
      · obtain rfl : k = N := by omega
        obtain ⟨p, c, rfl, ho⟩ := ownL_of_row hown
        have hlt : ¬ ((4 : Int) * k < s.size) := by omega
        go_wp2
        go_ret2
        first | exact ⟨⟨_, _, _, _, rfl, .inl ⟨rfl, rfl, rfl⟩, ho⟩, hB⟩ | exact ⟨⟨_, _, _, _, rfl, ⟨rfl, rfl⟩, ho⟩, hB⟩

/-- The code of a run's length. -/
def crC (n few : Nat) : Int := if 65536 < n then 2 else if n % 4 = 0 ∧ 4 * few ≤ n ∧ n ≤ 256 then 0 else 8
theorem ret_boolR {a b : Bool} (h : a = b) : Ending.returned (.bool a) = .returned (.bool b) := by rw [h]
def lenB (n few : Nat) : Bool := decide (n % 4 = 0 ∧ 4 * few ≤ n ∧ n ≤ 256)
theorem lenF (n few : Nat) (w : World) (hn : n ≤ 65536) (hf : few ≤ 5) :
    Calls Tryz.prog 119 #[.int .i64 n, .int .i64 few] w fun e w' => e = .returned (.bool (lenB n few)) ∧ w' = w := by
  have ht : (n : Int).tmod 4 = (n : Int) % 4 := Int.tmod_eq_emod_of_nonneg (by omega)
  by_cases h4 : n % 4 = 0
  · have h4' : (n : Int) % 4 = 0 := by omega
    by_cases h20 : 4 * few ≤ n
    · have h20' : (few : Int) * 4 ≤ (n : Int) := by omega
      by_cases h256 : n ≤ 256
      · rw [show lenB n few = true from by simp [lenB, h4, h20, h256]]
        go_enter Tryz.func119, Tryz.ntmps119
        go_wp2
        go_ret
        exact ⟨ret_boolR (by first | rfl | (simp; done) | (simp; omega) | omega), rfl⟩
      · rw [show lenB n few = false from by simp [lenB]; omega]
        go_enter Tryz.func119, Tryz.ntmps119
        go_wp2
        go_ret
        exact ⟨ret_boolR (by first | rfl | (simp; done) | (simp; omega) | omega), rfl⟩
    · have h20' : ¬ (few : Int) * 4 ≤ (n : Int) := by omega
      rw [show lenB n few = false from by simp [lenB]; omega]
      go_enter Tryz.func119, Tryz.ntmps119
      go_wp2
      go_ret
      exact ⟨ret_boolR (by first | rfl | (simp; done) | (simp; omega) | omega), rfl⟩
  · have h4' : ¬ (n : Int) % 4 = 0 := by omega
    have h4b : ((n : Int) % 4 == 0) = false := by simpa using h4'
    rw [show lenB n few = false from by simp [lenB, h4]]
    go_enter Tryz.func119, Tryz.ntmps119
    go_wp2
    go_ret
    exact ⟨ret_boolR (by first | rfl | (simp; done) | (simp; omega) | omega), rfl⟩
theorem checkRunC (s : ByteArray) (few : Nat) (w : World) (hs : s.size ≤ maxLen) (hf : few ≤ 5) :
    Calls Tryz.prog 109 #[.string s, .int .i64 few] w fun e w' => e = .returned (.int .i64 (crC s.size few)) ∧ w' = w := by
  unfold maxLen at hs
  by_cases h0 : 65536 < s.size
  · have e : crC s.size few = 2 := by unfold crC; rw [if_pos h0]
    rw [e]
    go_enter Tryz.func109, Tryz.ntmps109
    go_wp2
    go_ret
    exact ⟨rfl, rfl⟩
  · have HL : Hid (Calls Tryz.prog 119 #[.int .i64 s.size, .int .i64 few] w fun e w' => e = .returned (.bool (lenB s.size few)) ∧ w' = w) := lenF s.size few w (by omega) hf
    by_cases h : s.size % 4 = 0 ∧ 4 * few ≤ s.size ∧ s.size ≤ 256
    · have e : crC s.size few = 0 := by unfold crC; rw [if_neg h0, if_pos h]
      have eb : lenB s.size few = true := decide_eq_true h
      rw [e]
      rw [eb] at HL
      clear h e eb
      go_enter Tryz.func109, Tryz.ntmps109
      go_wp2_with (go_at_call 119; refine HL.out.mono ?_; rintro e w' ⟨rfl, rfl⟩)
      go_ret
      exact ⟨rfl, rfl⟩
    · have e : crC s.size few = 8 := by unfold crC; rw [if_neg h0, if_neg h]
      have eb : lenB s.size few = false := decide_eq_false h
      rw [e]
      rw [eb] at HL
      clear h e eb
      go_enter Tryz.func109, Tryz.ntmps109
      go_wp2_with (go_at_call 119; refine HL.out.mono ?_; rintro e w' ⟨rfl, rfl⟩)
      go_ret
      exact ⟨rfl, rfl⟩
/-- An answer of a list and two numbers. -/
def ListAns (B n : Nat) (x y : Int) (R : Nat → Int) (w : World) (e : Ending) (w' : World) : Prop := (∃ p c, e = .returned (.tuple #[.slice p n c, .int .i64 x, .int .i64 y]) ∧ OwnL w' B p n R) ∧ Below w.heap.size w w'

end Go.Proofs.YtelogjpjglohoaaGreatDoor

namespace Go.Proofs.YtelogjpjglohoaaGreatDoor
open Go Go.RowKit
set_option linter.unusedVariables false

theorem crC_cases (n : Nat) : (65536 < n ∧ crC n 0 = 2) ∨ (n ≤ 65536 ∧ ¬ (n % 4 = 0 ∧ n ≤ 256) ∧ crC n 0 = 8) ∨ (n % 4 = 0 ∧ n ≤ 256 ∧ crC n 0 = 0) := by
  unfold crC
  by_cases h : 65536 < n
  · exact .inl ⟨h, by rw [if_pos h]⟩
  · by_cases h1 : n % 4 = 0 ∧ n ≤ 256
    · exact .inr (.inr ⟨h1.1, h1.2, by rw [if_neg h, if_pos ⟨h1.1, by omega, h1.2⟩]⟩)
    · exact .inr (.inl ⟨by omega, h1, by rw [if_neg h, if_neg (fun x => h1 ⟨x.1, x.2.2⟩)]⟩)

end Go.Proofs.YtelogjpjglohoaaGreatDoor

namespace Go.Proofs.YtelogjpjglohoaaGreatDoor
open Go Go.RowKit
set_option linter.unusedVariables false

/-- The code of arguments that no function has. -/
def cfC (n k : Nat) (a f : Int) : Int := if 65536 < n ∨ 4096 < k then 2 else if plB a = false then 4 else if frB f = false then 17 else crC n 5
theorem checkFnC (s : ByteArray) (a f : Int) (pc : Option Addr) (k cc : Nat) (w : World) (hs : s.size ≤ maxLen) (hk : k ≤ 1048576) (ha : (Lit.int .i64 a).wf = true) (hf : (Lit.int .i64 f).wf = true) :
    Calls Tryz.prog 103 #[.string s, .int .i64 a, .int .i64 f, .slice pc k cc] w fun e w' => e = .returned (.int .i64 (cfC s.size k a f)) ∧ w' = w := by
  have hs' := hs
  unfold maxLen at hs'
  unfold cfC
  by_cases h0 : 65536 < s.size
  · rw [if_pos (.inl h0)]
    go_enter Tryz.func103, Tryz.ntmps103
    go_wp2
    go_ret
    exact ⟨rfl, rfl⟩
  by_cases h1 : 4096 < k
  · rw [if_pos (.inr h1)]
    go_enter Tryz.func103, Tryz.ntmps103
    go_wp2
    go_ret
    exact ⟨rfl, rfl⟩
  rw [if_neg (by omega)]
  by_cases h2 : plB a = false
  · rw [if_pos h2]
    go_enter Tryz.func103, Tryz.ntmps103
    go_wp2_with (go_at_call 54; refine (placeC a _ ha).mono ?_; rintro e w' ⟨rfl, rfl⟩; rw [h2])
    go_ret
    exact ⟨rfl, rfl⟩
  have h2' : plB a = true := by cases e : plB a <;> simp_all
  rw [if_neg h2]
  by_cases h3 : frB f = false
  · rw [if_pos h3]
    go_enter Tryz.func103, Tryz.ntmps103
    go_wp2_with (first | (go_at_call 54; refine (placeC a _ ha).mono ?_; rintro e w' ⟨rfl, rfl⟩; rw [h2']) | (go_at_call 75; refine (frImpl f _ hf).mono ?_; rintro e w' ⟨rfl, rfl⟩; rw [h3]))
    go_ret
    exact ⟨rfl, rfl⟩
  have h3' : frB f = true := by cases e : frB f <;> simp_all
  rw [if_neg h3]
  go_enter Tryz.func103, Tryz.ntmps103
  go_wp2_with (first | (go_at_call 54; refine (placeC a _ ha).mono ?_; rintro e w' ⟨rfl, rfl⟩; rw [h2']) | (go_at_call 75; refine (frImpl f _ hf).mono ?_; rintro e w' ⟨rfl, rfl⟩; rw [h3']) | (go_at_call 109; refine (checkRunC s 5 _ hs (by omega)).mono ?_; rintro e w' ⟨rfl, rfl⟩))
  go_ret
  exact ⟨rfl, rfl⟩

theorem num_bd {f im : Int} (f0 : 1 ≤ f) (f1 : f ≤ 9) (rd r1 r2 : Int) (h : rightF f rd r1 r2 im = true) : -2147483648 ≤ im ∧ im ≤ 2147483647 := by
  have hok : ∀ g, 0 ≤ g → g ≤ 9 → okB g im = true → -2147483648 ≤ im ∧ im ≤ 2147483647 := fun g g0 g1 h => by
    have := (okB_iff g im g0 g1).1 h
    unfold okI at this
    repeat' split at this
    all_goals omega
  have hz : (im == 0) = true → -2147483648 ≤ im ∧ im ≤ 2147483647 := fun h => by have := eq_of_beq h; omega
  unfold rightF at h
  split at h
  · exact hok f (by omega) f1 (Bool.and_eq_true_iff.1 h).2
  · split at h
    · exact hok f (by omega) f1 (Bool.and_eq_true_iff.1 h).2
    · split at h
      · exact hok f (by omega) f1 (Bool.and_eq_true_iff.1 h).2
      · split at h
        · exact hz (Bool.and_eq_true_iff.1 h).2
        · exact hz (Bool.and_eq_true_iff.1 h).2
theorem small_of {R : Nat → Int} {i : Nat} (h : rightB (R (i * 5)) (R (i * 5 + 1)) (R (i * 5 + 2)) (R (i * 5 + 3)) (R (i * 5 + 4)) = true) : Small5 R i := by
  unfold rightB at h
  obtain ⟨h1, h2⟩ := Bool.and_eq_true_iff.1 h
  obtain ⟨h3, h4⟩ := of_decide_eq_true h1
  obtain ⟨f0, f1⟩ := shT_form _ h3 h4
  obtain ⟨i0, i1⟩ := num_bd f0 f1 _ _ _ h2
  exact ⟨h3, h4, i0, i1⟩

/-- An answer of two numbers. -/
def TwoN (B : Nat) (x y : Int) (w : World) (e : Ending) (w' : World) : Prop := e = .returned (.tuple #[.int .i64 x, .int .i64 y]) ∧ Below B w w'

theorem lintImplNo (s : ByteArray) (a f : Int) (pc : Option Addr) (k cc : Nat) (w : World) (hs : s.size ≤ maxLen) (hk : k ≤ 1048576) (ha : (Lit.int .i64 a).wf = true) (hf : (Lit.int .i64 f).wf = true) (c : Int) (hc : cfC s.size k a f = c) (h0 : c ≠ 0) :
    Calls Tryz.prog 88 #[.string s, .int .i64 a, .int .i64 f, .slice pc k cc] w fun e w' => TwoN w.heap.size 0 c w e w' := by
  have hb : (c == 0) = false := by simpa using h0
  go_enter Tryz.func88, Tryz.ntmps88
  go_wp2_with (go_at_call 103; refine (checkFnC s a f pc k cc _ hs hk ha hf).mono ?_; rintro e w' ⟨rfl, rfl⟩; rw [hc])
  go_ret2
  exact ⟨rfl, Below.refl _ _⟩
theorem lintImplWrong (s : ByteArray) (a f : Int) (pc : Option Addr) (k cc : Nat) (N j : Nat) (R : Nat → Int) (w : World) (hL : Laid w) (hs : s.size ≤ maxLen) (hk : k ≤ 1048576) (ha : (Lit.int .i64 a).wf = true) (hf : (Lit.int .i64 f).wf = true) (hc : cfC s.size k a f = 0) (hr : Run s N R j) (hj : j < N) :
    Calls Tryz.prog 88 #[.string s, .int .i64 a, .int .i64 f, .slice pc k cc] w fun e w' => TwoN w.heap.size j 10 w e w' := by
  go_enter Tryz.func88, Tryz.ntmps88
  go_wp2_with (go_at_call 103; refine (checkFnC s a f pc k cc _ hs hk ha hf).mono ?_; rintro e w' ⟨rfl, rfl⟩; rw [hc])
  refine (hr.impl _ hL).mono ?_
  rintro e2 w2 ⟨⟨p, n, c, x, y, rfl, ⟨hj', rfl, rfl, rfl⟩ | ⟨hj', rfl, rfl, rfl⟩, ho⟩, hb⟩
  · exact absurd hj (by omega)
  · go_wp2
    go_ret2
    exact ⟨rfl, hb⟩
set_option maxRecDepth 100000 in
set_option maxHeartbeats 4000000 in
theorem lintImplYes (s : ByteArray) (a f : Int) (pc : Option Addr) (cc : Nat) (zs : List Int) (N : Nat) (R : Nat → Int) (w : World) (hL : Laid w) (hs : s.size ≤ maxLen) (hk : zs.length ≤ 1048576) (hz : IntsAt w pc zs) (ha : (Lit.int .i64 a).wf = true) (hf : (Lit.int .i64 f).wf = true) (hc : cfC s.size zs.length a f = 0)
    (hr : Run s N R N) (h5 : 5 ≤ N) (h64 : N ≤ 64) (a0 : 0 ≤ a) (a1 : a ≤ 1048575) (hfr : frB f = true) (x y : Int) (hl : LintIs R N f a zs x y) :
    Calls Tryz.prog 88 #[.string s, .int .i64 a, .int .i64 f, .slice pc zs.length cc] w fun e w' => TwoN w.heap.size x y w e w' := by
  obtain ⟨f0, f1, _⟩ := frB_bd hfr
  have hsm : ∀ i, i < N → Small5 R i := fun i hi => small_of (hr.right i hi)
  obtain ⟨K, hK⟩ : ∃ K, zs.length = K := ⟨_, rfl⟩
  rw [hK] at hk hc ⊢
  go_enter Tryz.func88, Tryz.ntmps88
  go_wp2_with (go_at_call 103; refine (checkFnC s a f pc K cc _ hs hk ha hf).mono ?_; rintro e w' ⟨rfl, rfl⟩; rw [hc])
  refine (hr.impl _ hL).mono ?_
  rintro e2 w2 ⟨⟨p, n, c, x', y', rfl, ⟨hj', rfl, rfl, rfl⟩ | ⟨hj', rfl, rfl, rfl⟩, ho⟩, hb⟩
  · rcases ho with ho | ⟨g, rfl, hg0, hg1, hfl⟩
    · omega
    go_wp2_with fail
    refine (partsC g _ c f R _ hg1 h64 h5 hfr hfl.rd).mono ?_
    rintro e3 w3 ⟨q, rfl, hb3, hq0, hq1, hP⟩
    have B3 : Below w'.heap.size w' w3 := hb.trans (hb3.mono hb.size)
    have hfn : FnIs (w3.alloc (.cells #[.slice (some ⟨g, 0, none⟩) n c, .slice (some ⟨q, 0, none⟩) n n, .int .i64 a, .int .i64 f, .slice pc zs.length cc] 148)) w3.heap.size g q n c n pc cc a f R (partI R n f) zs := by
      have b4 : Below w3.heap.size w3 (w3.alloc (.cells #[.slice (some ⟨g, 0, none⟩) n c, .slice (some ⟨q, 0, none⟩) n n, .int .i64 a, .int .i64 f, .slice pc zs.length cc] 148)) := (Below.refl _ _).alloc (Nat.le_refl _) _
      refine ⟨by simp, by simp, by simp, by simp, by simp, ?_, ?_, ?_, by simp, ?_, ?_⟩
      · exact (hfl.rd.below hb3 hg1).below b4 (Nat.lt_of_lt_of_le hg1 hb3.size)
      · exact hP.below b4 hq1
      · exact (hz.below B3).below b4
      · exact Nat.lt_of_lt_of_le (Nat.lt_of_lt_of_le hg1 hb3.size) b4.size
      · exact Nat.lt_of_lt_of_le hq1 b4.size
    rw [hK] at hfn
    clear hb hb3 hg0 hg1 hfl hP hq0 hq1
    have B4 : Hid (Below w'.heap.size w' (w3.alloc (.cells #[.slice (some ⟨g, 0, none⟩) n c, .slice (some ⟨q, 0, none⟩) n n, .int .i64 a, .int .i64 f, .slice pc K cc] 148))) := B3.alloc B3.size _
    clear B3
    go_wp2_with fail
    refine (firstC _ hfn h64 h5 hfr f0 f1 (fun i _ => rfl) (by omega) a0 a1 hsm x y hl).mono ?_
    rintro e5 w5 ⟨rfl, hb5⟩
    have B5 := B4.out.trans (hb5.mono B4.out.size)
    clear hfn B4 hb5
    go_wp2_with fail
    go_ret2
    exact ⟨rfl, B5⟩
  · omega
end Go.Proofs.YtelogjpjglohoaaGreatDoor
