/- Decode of the model: contracts. Decode: both contracts at once. Byte slices that the call itself made, as lists of bytes: any program. Numbers into bytes: contracts (without the errors). -/
import Derived.Test.YtelogjpjglohoaaGreatDoorGXTabBase35
import Derived.WalkKit
import Derived.Deep.AppendLies
import Derived.Laws.IdiomStrings
import Derived.Test.YtelogjpjglohoaaGreatDoorGXTabBase12
import Derived.Test.YtelogjpjglohoaaGreatDoorRows
import Derived.WalkSpells
import Derived.ProofKit
import Derived.Below
import Derived.Laws.BitsLemmas
namespace Go.Proofs.YtelogjpjglohoaaGreatDoor
open Go.RowKit
set_option linter.unusedVariables false

theorem specShCs (op f c g h : Int) (w : World) (hs : shT op = (f, c, g, h)) :
    Calls Tryz.prog 90 #[.int .i64 op] w fun e w' => e = .returned (.agg #[.int .i64 f, .int .i64 c, .int .i64 g, .int .i64 h]) ∧ Below w.heap.size w w' := by
  have := specShC op w
  rw [hs] at this
  exact this

set_option maxRecDepth 100000 in
set_option maxHeartbeats 8000000 in
theorem dmNone (v : Int) (v0 : 0 ≤ v) (v1 : v < 4294967296) (HX0 : Hid (∀ j : Nat, 1 ≤ j → j ≤ 64 → ¬ HitP j v)) (w : World) :
    Calls Tryz.prog 95 #[.int .i64 v] w fun e w' => e = .returned (.tuple #[it0, .bool false]) ∧ Below w.heap.size w w' := by
  go_enter Tryz.func95, Tryz.ntmps95
  go_wp2
  go_loopw [4] (fun t wr => ∃ k : Nat, 1 ≤ k ∧ k ≤ 65 ∧ t = .int .i64 k ∧ Below w.heap.size w wr ∧ w.heap.size + 1 ≤ wr.heap.size ∧ Five wr w.heap.size 0 0 0 0 0) (fun t _ => 65 - (intOf t).toNat)
  case atStart => exact ⟨1, Nat.le_refl _, by omega, rfl, (Below.refl _ _).alloc (Nat.le_refl _) _, by simp, by constructor <;> simp⟩
  case round =>
    obtain ⟨k, hk0, hkn, rfl, hbel, hsz, hR⟩ := hrel
    by_cases hlt : k ≤ 64
    · have hk64 : (k : Int) ≤ 64 := by omega
      have hnk := HX0.out k hk0 hlt
      obtain ⟨⟨f, c, g, h⟩, hs⟩ : ∃ s, s = shT (k : Int) := ⟨_, rfl⟩
      have htest := hit_all k v f c g h (by omega) (by omega) v0 v1 hs.symm
      obtain ⟨⟨f0, f1, _⟩, _⟩ := dec_test k v (by omega) (by omega) v0 v1 f c g h hs.symm
      have HS : Hid (shT (k : Int) = (f, c, g, h)) := hs.symm
      have HR : Hid (rightB k (tkRd f v) (tkR1 f v) (tkR2 f v) (takeF f v) = true) := by
        show _ = _
        unfold rightB
        rw [HS.out, right_taken f v f0 f1, Bool.and_true]
        exact decide_eq_true ⟨by omega, by omega⟩
      clear hs
      go_wp2_with fail
      refine (specShCs k f c g h _ HS.out).mono ?_
      rintro e w3 ⟨rfl, hb3⟩
      have z3 : w.heap.size + 1 ≤ w3.heap.size := Nat.le_trans hsz hb3.size
      have B3 : Below w.heap.size w w3 := hbel.trans (hb3.mono (by omega))
      have R3 := hR.below hb3 (by omega)
      clear hb3 hbel hR hsz
      by_cases a1 : v % 128 = c
      case neg =>
        have b1 : ¬ c = v % 128 := fun e => a1 e.symm
        clear htest HS HR HX0 a1 hnk
        go_wp2
        go_roundw
        case rel => exact ⟨k + 1, by omega, by omega, by go_num, B3.alloc B3.size _, by simp; omega, R3.below ((Below.refl w3.heap.size w3).alloc (Nat.le_refl _) _) (by omega)⟩
        case measure => simp [intOf]; omega
      subst a1
      by_cases a2 : 3 ≤ f ∧ f ≤ 8
      · by_cases a3 : v / 4096 % 8 = g
        case neg =>
          have b3 : ¬ g = v / 4096 % 8 := fun e => a3 e.symm
          clear htest HS HR HX0 hnk a3
          go_wp2_with fail
          refine (spIn f 3 8 _ true (.inl ⟨rfl, a2.1, a2.2⟩)).mono ?_
          rintro e w4 ⟨rfl, rfl⟩
          clear a2
          go_wp2
          go_roundw
          case rel => exact ⟨k + 1, by omega, by omega, by go_num, B3.alloc B3.size _, by simp; omega, R3.below ((Below.refl w3.heap.size w3).alloc (Nat.le_refl _) _) (by omega)⟩
          case measure => simp [intOf]; omega
        have hne : ¬ encW f (v % 128) g h (tkRd f v) (tkR1 f v) (tkR2 f v) (takeF f v) = v := fun e => hnk (htest.2 ⟨rfl, fun _ => a3, e⟩)
        clear htest hnk HX0
        subst a3
        go_wp2_with fail
        refine (spIn f 3 8 _ true (.inl ⟨rfl, a2.1, a2.2⟩)).mono ?_
        rintro e w4 ⟨rfl, rfl⟩
        clear a2
        go_wp2_with fail
        refine (tksC k f v _ _ h v0 v1 f0 f1 HS.out _).mono ?_
        rintro e w5 ⟨rfl, hb5⟩
        have z5 : w.heap.size + 1 ≤ w5.heap.size := by have := hb5.size; simp at this; omega
        have B5 : Below w.heap.size w w5 := (B3.alloc B3.size _).trans (hb5.mono (by simp; omega))
        have R5 : Five w5 w.heap.size 0 0 0 0 0 := (R3.below ((Below.refl w3.heap.size w3).alloc (Nat.le_refl _) _) (by omega)).below hb5 (by simp; omega)
        clear hb5 B3 R3 z3
        unfold itV
        have XX : Hid (∀ x1 x2 x3 x4 : Int, Five (w5.alloc (.cells #[.int .i64 (k : Int), .int .i64 x1, .int .i64 x2, .int .i64 x3, .int .i64 x4] 93)) w5.heap.size k x1 x2 x3 x4) := fun x1 x2 x3 x4 => by constructor <;> simp
        go_wp2_with fail
        refine (rightC k (tkRd f v) (tkR1 f v) (tkR2 f v) (takeF f v) _).mono ?_
        rintro e w6 ⟨rfl, hb6⟩
        rw [HR.out]
        have X6 := (XX.out (tkRd f v) (tkR1 f v) (tkR2 f v) (takeF f v)).below hb6 (by simp)
        have z6 : w5.heap.size + 1 ≤ w6.heap.size := by have := hb6.size; simp at this; omega
        have B6 : Below w.heap.size w w6 := (B5.alloc B5.size _).trans (hb6.mono (by simp; omega))
        have R6 : Five w6 w.heap.size 0 0 0 0 0 := (R5.below ((Below.refl w5.heap.size w5).alloc (Nat.le_refl _) _) (by omega)).below hb6 (by simp; omega)
        clear hb6 B5 R5 XX
        obtain ⟨p0, p1, p2, p3, p4, _, _, _, _, _⟩ := X6
        have X6 : Hid (Five w6 w5.heap.size k (tkRd f v) (tkR1 f v) (tkR2 f v) (takeF f v)) := ⟨p0, p1, p2, p3, p4, by assumption, by assumption, by assumption, by assumption, by assumption⟩
        go_wp2_with fail
        refine (specEncYes k (tkRd f v) (tkR1 f v) (tkR2 f v) (takeF f v) f _ _ h _ HR.out HS.out).mono ?_
        rintro e w7 ⟨rfl, hb7⟩
        have X7 := X6.out.below hb7 (by omega)
        have z7 : w.heap.size + 1 ≤ w7.heap.size := by have := hb7.size; omega
        have B7 : Below w.heap.size w w7 := B6.trans (hb7.mono (by omega))
        have R7 : Five w7 w.heap.size 0 0 0 0 0 := R6.below hb7 (by omega)
        clear hb7 B6 R6 X6 p0 p1 p2 p3 p4 z6 z5 HS HR
        clear X7
        go_wp2
        go_roundw
        case rel => exact ⟨k + 1, by omega, by omega, by go_num, B7, by omega, R7⟩
        case measure => simp [intOf]; omega
      · have a2' : f < 3 ∨ 8 < f := by omega
        have hne : ¬ encW f (v % 128) g h (tkRd f v) (tkR1 f v) (tkR2 f v) (takeF f v) = v := fun e => hnk (htest.2 ⟨rfl, fun hf => absurd hf a2, e⟩)
        clear htest hnk a2 HX0
        go_wp2_with fail
        refine (spIn f 3 8 _ false (.inr ⟨rfl, a2'⟩)).mono ?_
        rintro e w4 ⟨rfl, rfl⟩
        clear a2'
        go_wp2_with fail
        refine (tksC k f v _ _ h v0 v1 f0 f1 HS.out _).mono ?_
        rintro e w5 ⟨rfl, hb5⟩
        have z5 : w.heap.size + 1 ≤ w5.heap.size := by have := hb5.size; simp at this; omega
        have B5 : Below w.heap.size w w5 := (B3.alloc B3.size _).trans (hb5.mono (by simp; omega))
        have R5 : Five w5 w.heap.size 0 0 0 0 0 := (R3.below ((Below.refl w3.heap.size w3).alloc (Nat.le_refl _) _) (by omega)).below hb5 (by simp; omega)
        clear hb5 B3 R3 z3
        unfold itV
        have XX : Hid (∀ x1 x2 x3 x4 : Int, Five (w5.alloc (.cells #[.int .i64 (k : Int), .int .i64 x1, .int .i64 x2, .int .i64 x3, .int .i64 x4] 93)) w5.heap.size k x1 x2 x3 x4) := fun x1 x2 x3 x4 => by constructor <;> simp
        go_wp2_with fail
        refine (rightC k (tkRd f v) (tkR1 f v) (tkR2 f v) (takeF f v) _).mono ?_
        rintro e w6 ⟨rfl, hb6⟩
        rw [HR.out]
        have X6 := (XX.out (tkRd f v) (tkR1 f v) (tkR2 f v) (takeF f v)).below hb6 (by simp)
        have z6 : w5.heap.size + 1 ≤ w6.heap.size := by have := hb6.size; simp at this; omega
        have B6 : Below w.heap.size w w6 := (B5.alloc B5.size _).trans (hb6.mono (by simp; omega))
        have R6 : Five w6 w.heap.size 0 0 0 0 0 := (R5.below ((Below.refl w5.heap.size w5).alloc (Nat.le_refl _) _) (by omega)).below hb6 (by simp; omega)
        clear hb6 B5 R5 XX
        obtain ⟨p0, p1, p2, p3, p4, _, _, _, _, _⟩ := X6
        have X6 : Hid (Five w6 w5.heap.size k (tkRd f v) (tkR1 f v) (tkR2 f v) (takeF f v)) := ⟨p0, p1, p2, p3, p4, by assumption, by assumption, by assumption, by assumption, by assumption⟩
        go_wp2_with fail
        refine (specEncYes k (tkRd f v) (tkR1 f v) (tkR2 f v) (takeF f v) f _ _ h _ HR.out HS.out).mono ?_
        rintro e w7 ⟨rfl, hb7⟩
        have X7 := X6.out.below hb7 (by omega)
        have z7 : w.heap.size + 1 ≤ w7.heap.size := by have := hb7.size; omega
        have B7 : Below w.heap.size w w7 := B6.trans (hb7.mono (by omega))
        have R7 : Five w7 w.heap.size 0 0 0 0 0 := R6.below hb7 (by omega)
        clear hb7 B6 R6 X6 p0 p1 p2 p3 p4 z6 z5 HS HR
        clear X7
        go_wp2
        go_roundw
        case rel => exact ⟨k + 1, by omega, by omega, by go_num, B7, by omega, R7⟩
        case measure => simp [intOf]; omega
    · obtain rfl : k = 65 := by omega
      obtain ⟨d0, d1, d2, d3, d4, g0, g1, g2, g3, g4⟩ := hR
      clear HX0
      go_wp2
      refine bodyPost_ret (v := .tuple #[.agg #[.int .i64 0, .int .i64 0, .int .i64 0, .int .i64 0, .int .i64 0], .bool false]) (by simp [results, Tryz.results95, go_sem, d0, d1, d2, d3, d4]) rfl ⟨rfl, ?_⟩
      repeat (first | with_reducible exact hbel | refine Below.setCell ?_ (by first | omega | (simp; done) | (simp; omega)) _)

set_option maxRecDepth 100000 in
set_option maxHeartbeats 8000000 in
theorem dmYes (v : Int) (v0 : 0 ≤ v) (v1 : v < 4294967296) (n : Nat) (n0 : 1 ≤ n) (n1 : n ≤ 64) (HX0 : Hid (∀ j : Nat, 1 ≤ j → j < n → ¬ HitP j v)) (hyes : Hid (HitP n v)) (F : Int) (hF : Hid ((shT n).1 = F)) (w : World) :
    Calls Tryz.prog 95 #[.int .i64 v] w fun e w' => e = .returned (.tuple #[itV n F v, .bool true]) ∧ Below w.heap.size w w' := by
  go_enter Tryz.func95, Tryz.ntmps95
  go_wp2
  go_loopw [4] (fun t wr => ∃ k : Nat, 1 ≤ k ∧ k ≤ n ∧ t = .int .i64 k ∧ Below w.heap.size w wr ∧ w.heap.size + 1 ≤ wr.heap.size ∧ Five wr w.heap.size 0 0 0 0 0) (fun t _ => n - (intOf t).toNat)
  case atStart => exact ⟨1, Nat.le_refl _, by omega, rfl, (Below.refl _ _).alloc (Nat.le_refl _) _, by simp, by constructor <;> simp⟩
  case round =>
    obtain ⟨k, hk0, hkn, rfl, hbel, hsz, hR⟩ := hrel
    have hk64 : (k : Int) ≤ 64 := by omega
    by_cases hlt : k < n
    · have hnk := HX0.out k hk0 hlt
      clear hyes hF
      obtain ⟨⟨f, c, g, h⟩, hs⟩ : ∃ s, s = shT (k : Int) := ⟨_, rfl⟩
      have htest := hit_all k v f c g h (by omega) (by omega) v0 v1 hs.symm
      obtain ⟨⟨f0, f1, _⟩, _⟩ := dec_test k v (by omega) (by omega) v0 v1 f c g h hs.symm
      have HS : Hid (shT (k : Int) = (f, c, g, h)) := hs.symm
      have HR : Hid (rightB k (tkRd f v) (tkR1 f v) (tkR2 f v) (takeF f v) = true) := by
        show _ = _
        unfold rightB
        rw [HS.out, right_taken f v f0 f1, Bool.and_true]
        exact decide_eq_true ⟨by omega, by omega⟩
      clear hs
      go_wp2_with fail
      refine (specShCs k f c g h _ HS.out).mono ?_
      rintro e w3 ⟨rfl, hb3⟩
      have z3 : w.heap.size + 1 ≤ w3.heap.size := Nat.le_trans hsz hb3.size
      have B3 : Below w.heap.size w w3 := hbel.trans (hb3.mono (by omega))
      have R3 := hR.below hb3 (by omega)
      clear hb3 hbel hR hsz
      by_cases a1 : v % 128 = c
      case neg =>
        have b1 : ¬ c = v % 128 := fun e => a1 e.symm
        clear htest HS HR HX0 a1 hnk
        go_wp2
        go_roundw
        case rel => exact ⟨k + 1, by omega, by omega, by go_num, B3.alloc B3.size _, by simp; omega, R3.below ((Below.refl w3.heap.size w3).alloc (Nat.le_refl _) _) (by omega)⟩
        case measure => simp [intOf]; omega
      subst a1
      by_cases a2 : 3 ≤ f ∧ f ≤ 8
      · by_cases a3 : v / 4096 % 8 = g
        case neg =>
          have b3 : ¬ g = v / 4096 % 8 := fun e => a3 e.symm
          clear htest HS HR HX0 hnk a3
          go_wp2_with fail
          refine (spIn f 3 8 _ true (.inl ⟨rfl, a2.1, a2.2⟩)).mono ?_
          rintro e w4 ⟨rfl, rfl⟩
          clear a2
          go_wp2
          go_roundw
          case rel => exact ⟨k + 1, by omega, by omega, by go_num, B3.alloc B3.size _, by simp; omega, R3.below ((Below.refl w3.heap.size w3).alloc (Nat.le_refl _) _) (by omega)⟩
          case measure => simp [intOf]; omega
        have hne : ¬ encW f (v % 128) g h (tkRd f v) (tkR1 f v) (tkR2 f v) (takeF f v) = v := fun e => hnk (htest.2 ⟨rfl, fun _ => a3, e⟩)
        clear htest hnk HX0
        subst a3
        go_wp2_with fail
        refine (spIn f 3 8 _ true (.inl ⟨rfl, a2.1, a2.2⟩)).mono ?_
        rintro e w4 ⟨rfl, rfl⟩
        clear a2
        go_wp2_with fail
        refine (tksC k f v _ _ h v0 v1 f0 f1 HS.out _).mono ?_
        rintro e w5 ⟨rfl, hb5⟩
        have z5 : w.heap.size + 1 ≤ w5.heap.size := by have := hb5.size; simp at this; omega
        have B5 : Below w.heap.size w w5 := (B3.alloc B3.size _).trans (hb5.mono (by simp; omega))
        have R5 : Five w5 w.heap.size 0 0 0 0 0 := (R3.below ((Below.refl w3.heap.size w3).alloc (Nat.le_refl _) _) (by omega)).below hb5 (by simp; omega)
        clear hb5 B3 R3 z3
        unfold itV
        have XX : Hid (∀ x1 x2 x3 x4 : Int, Five (w5.alloc (.cells #[.int .i64 (k : Int), .int .i64 x1, .int .i64 x2, .int .i64 x3, .int .i64 x4] 93)) w5.heap.size k x1 x2 x3 x4) := fun x1 x2 x3 x4 => by constructor <;> simp
        go_wp2_with fail
        refine (rightC k (tkRd f v) (tkR1 f v) (tkR2 f v) (takeF f v) _).mono ?_
        rintro e w6 ⟨rfl, hb6⟩
        rw [HR.out]
        have X6 := (XX.out (tkRd f v) (tkR1 f v) (tkR2 f v) (takeF f v)).below hb6 (by simp)
        have z6 : w5.heap.size + 1 ≤ w6.heap.size := by have := hb6.size; simp at this; omega
        have B6 : Below w.heap.size w w6 := (B5.alloc B5.size _).trans (hb6.mono (by simp; omega))
        have R6 : Five w6 w.heap.size 0 0 0 0 0 := (R5.below ((Below.refl w5.heap.size w5).alloc (Nat.le_refl _) _) (by omega)).below hb6 (by simp; omega)
        clear hb6 B5 R5 XX
        obtain ⟨p0, p1, p2, p3, p4, _, _, _, _, _⟩ := X6
        have X6 : Hid (Five w6 w5.heap.size k (tkRd f v) (tkR1 f v) (tkR2 f v) (takeF f v)) := ⟨p0, p1, p2, p3, p4, by assumption, by assumption, by assumption, by assumption, by assumption⟩
        go_wp2_with fail
        refine (specEncYes k (tkRd f v) (tkR1 f v) (tkR2 f v) (takeF f v) f _ _ h _ HR.out HS.out).mono ?_
        rintro e w7 ⟨rfl, hb7⟩
        have X7 := X6.out.below hb7 (by omega)
        have z7 : w.heap.size + 1 ≤ w7.heap.size := by have := hb7.size; omega
        have B7 : Below w.heap.size w w7 := B6.trans (hb7.mono (by omega))
        have R7 : Five w7 w.heap.size 0 0 0 0 0 := R6.below hb7 (by omega)
        clear hb7 B6 R6 X6 p0 p1 p2 p3 p4 z6 z5 HS HR
        clear X7
        go_wp2
        go_roundw
        case rel => exact ⟨k + 1, by omega, by omega, by go_num, B7, by omega, R7⟩
        case measure => simp [intOf]; omega
      · have a2' : f < 3 ∨ 8 < f := by omega
        have hne : ¬ encW f (v % 128) g h (tkRd f v) (tkR1 f v) (tkR2 f v) (takeF f v) = v := fun e => hnk (htest.2 ⟨rfl, fun hf => absurd hf a2, e⟩)
        clear htest hnk a2 HX0
        go_wp2_with fail
        refine (spIn f 3 8 _ false (.inr ⟨rfl, a2'⟩)).mono ?_
        rintro e w4 ⟨rfl, rfl⟩
        clear a2'
        go_wp2_with fail
        refine (tksC k f v _ _ h v0 v1 f0 f1 HS.out _).mono ?_
        rintro e w5 ⟨rfl, hb5⟩
        have z5 : w.heap.size + 1 ≤ w5.heap.size := by have := hb5.size; simp at this; omega
        have B5 : Below w.heap.size w w5 := (B3.alloc B3.size _).trans (hb5.mono (by simp; omega))
        have R5 : Five w5 w.heap.size 0 0 0 0 0 := (R3.below ((Below.refl w3.heap.size w3).alloc (Nat.le_refl _) _) (by omega)).below hb5 (by simp; omega)
        clear hb5 B3 R3 z3
        unfold itV
        have XX : Hid (∀ x1 x2 x3 x4 : Int, Five (w5.alloc (.cells #[.int .i64 (k : Int), .int .i64 x1, .int .i64 x2, .int .i64 x3, .int .i64 x4] 93)) w5.heap.size k x1 x2 x3 x4) := fun x1 x2 x3 x4 => by constructor <;> simp
        go_wp2_with fail
        refine (rightC k (tkRd f v) (tkR1 f v) (tkR2 f v) (takeF f v) _).mono ?_
        rintro e w6 ⟨rfl, hb6⟩
        rw [HR.out]
        have X6 := (XX.out (tkRd f v) (tkR1 f v) (tkR2 f v) (takeF f v)).below hb6 (by simp)
        have z6 : w5.heap.size + 1 ≤ w6.heap.size := by have := hb6.size; simp at this; omega
        have B6 : Below w.heap.size w w6 := (B5.alloc B5.size _).trans (hb6.mono (by simp; omega))
        have R6 : Five w6 w.heap.size 0 0 0 0 0 := (R5.below ((Below.refl w5.heap.size w5).alloc (Nat.le_refl _) _) (by omega)).below hb6 (by simp; omega)
        clear hb6 B5 R5 XX
        obtain ⟨p0, p1, p2, p3, p4, _, _, _, _, _⟩ := X6
        have X6 : Hid (Five w6 w5.heap.size k (tkRd f v) (tkR1 f v) (tkR2 f v) (takeF f v)) := ⟨p0, p1, p2, p3, p4, by assumption, by assumption, by assumption, by assumption, by assumption⟩
        go_wp2_with fail
        refine (specEncYes k (tkRd f v) (tkR1 f v) (tkR2 f v) (takeF f v) f _ _ h _ HR.out HS.out).mono ?_
        rintro e w7 ⟨rfl, hb7⟩
        have X7 := X6.out.below hb7 (by omega)
        have z7 : w.heap.size + 1 ≤ w7.heap.size := by have := hb7.size; omega
        have B7 : Below w.heap.size w w7 := B6.trans (hb7.mono (by omega))
        have R7 : Five w7 w.heap.size 0 0 0 0 0 := R6.below hb7 (by omega)
        clear hb7 B6 R6 X6 p0 p1 p2 p3 p4 z6 z5 HS HR
        clear X7
        go_wp2
        go_roundw
        case rel => exact ⟨k + 1, by omega, by omega, by go_num, B7, by omega, R7⟩
        case measure => simp [intOf]; omega
    · obtain rfl : k = n := by omega
      have hnk := hyes.out
      clear HX0 hyes
      obtain ⟨⟨f, c, g, h⟩, hs⟩ : ∃ s, s = shT (k : Int) := ⟨_, rfl⟩
      have htest := hit_all k v f c g h (by omega) (by omega) v0 v1 hs.symm
      obtain ⟨⟨f0, f1, _⟩, _⟩ := dec_test k v (by omega) (by omega) v0 v1 f c g h hs.symm
      have HS : Hid (shT (k : Int) = (f, c, g, h)) := hs.symm
      have HR : Hid (rightB k (tkRd f v) (tkR1 f v) (tkR2 f v) (takeF f v) = true) := by
        show _ = _
        unfold rightB
        rw [HS.out, right_taken f v f0 f1, Bool.and_true]
        exact decide_eq_true ⟨by omega, by omega⟩
      clear hs
      go_wp2_with fail
      refine (specShCs k f c g h _ HS.out).mono ?_
      rintro e w3 ⟨rfl, hb3⟩
      have z3 : w.heap.size + 1 ≤ w3.heap.size := Nat.le_trans hsz hb3.size
      have B3 : Below w.heap.size w w3 := hbel.trans (hb3.mono (by omega))
      have R3 := hR.below hb3 (by omega)
      clear hb3 hbel hR hsz
      obtain ⟨a1, a3, hen⟩ := htest.1 hnk
      obtain rfl : f = F := by have := hF.out; rw [HS.out] at this; exact this
      subst a1
      have HEN : Hid (encW f (v % 128) g h (tkRd f v) (tkR1 f v) (tkR2 f v) (takeF f v) = v) := hen
      clear htest hnk hen hF
      by_cases a2 : 3 ≤ f ∧ f ≤ 8
      · have a4 := a3 a2
        clear a3
        subst a4
        go_wp2_with fail
        refine (spIn f 3 8 _ true (.inl ⟨rfl, a2.1, a2.2⟩)).mono ?_
        rintro e w4 ⟨rfl, rfl⟩
        clear a2
        go_wp2_with fail
        refine (tksC k f v _ _ h v0 v1 f0 f1 HS.out _).mono ?_
        rintro e w5 ⟨rfl, hb5⟩
        have z5 : w.heap.size + 1 ≤ w5.heap.size := by have := hb5.size; simp at this; omega
        have B5 : Below w.heap.size w w5 := (B3.alloc B3.size _).trans (hb5.mono (by simp; omega))
        have R5 : Five w5 w.heap.size 0 0 0 0 0 := (R3.below ((Below.refl w3.heap.size w3).alloc (Nat.le_refl _) _) (by omega)).below hb5 (by simp; omega)
        clear hb5 B3 R3 z3
        unfold itV
        have XX : Hid (∀ x1 x2 x3 x4 : Int, Five (w5.alloc (.cells #[.int .i64 (k : Int), .int .i64 x1, .int .i64 x2, .int .i64 x3, .int .i64 x4] 93)) w5.heap.size k x1 x2 x3 x4) := fun x1 x2 x3 x4 => by constructor <;> simp
        go_wp2_with fail
        refine (rightC k (tkRd f v) (tkR1 f v) (tkR2 f v) (takeF f v) _).mono ?_
        rintro e w6 ⟨rfl, hb6⟩
        rw [HR.out]
        have X6 := (XX.out (tkRd f v) (tkR1 f v) (tkR2 f v) (takeF f v)).below hb6 (by simp)
        have z6 : w5.heap.size + 1 ≤ w6.heap.size := by have := hb6.size; simp at this; omega
        have B6 : Below w.heap.size w w6 := (B5.alloc B5.size _).trans (hb6.mono (by simp; omega))
        have R6 : Five w6 w.heap.size 0 0 0 0 0 := (R5.below ((Below.refl w5.heap.size w5).alloc (Nat.le_refl _) _) (by omega)).below hb6 (by simp; omega)
        clear hb6 B5 R5 XX
        obtain ⟨p0, p1, p2, p3, p4, _, _, _, _, _⟩ := X6
        have X6 : Hid (Five w6 w5.heap.size k (tkRd f v) (tkR1 f v) (tkR2 f v) (takeF f v)) := ⟨p0, p1, p2, p3, p4, by assumption, by assumption, by assumption, by assumption, by assumption⟩
        go_wp2_with fail
        refine (specEncYes k (tkRd f v) (tkR1 f v) (tkR2 f v) (takeF f v) f _ _ h _ HR.out HS.out).mono ?_
        rintro e w7 ⟨rfl, hb7⟩
        have X7 := X6.out.below hb7 (by omega)
        have z7 : w.heap.size + 1 ≤ w7.heap.size := by have := hb7.size; omega
        have B7 : Below w.heap.size w w7 := B6.trans (hb7.mono (by omega))
        have R7 : Five w7 w.heap.size 0 0 0 0 0 := R6.below hb7 (by omega)
        clear hb7 B6 R6 X6 p0 p1 p2 p3 p4 z6 z5 HS HR
        rw [HEN.out]
        clear HEN
        obtain ⟨c0, c1, c2, c3, c4, _, _, _, _, _⟩ := X7
        obtain ⟨d0, d1, d2, d3, d4, g0, g1, g2, g3, g4⟩ := R7
        go_wp2
        refine bodyPost_ret (v := .tuple #[.agg #[.int .i64 (k : Int), .int .i64 (tkRd f v), .int .i64 (tkR1 f v), .int .i64 (tkR2 f v), .int .i64 (takeF f v)], .bool true]) (by simp [results, Tryz.results95, go_sem, d0, d1, d2, d3, d4]) rfl ⟨rfl, ?_⟩
        repeat (first | with_reducible exact B7 | refine Below.setCell ?_ (by first | omega | (simp; done) | (simp; omega)) _)
      · have a2' : f < 3 ∨ 8 < f := by omega
        clear a3 a2
        go_wp2_with fail
        refine (spIn f 3 8 _ false (.inr ⟨rfl, a2'⟩)).mono ?_
        rintro e w4 ⟨rfl, rfl⟩
        clear a2'
        go_wp2_with fail
        refine (tksC k f v _ _ h v0 v1 f0 f1 HS.out _).mono ?_
        rintro e w5 ⟨rfl, hb5⟩
        have z5 : w.heap.size + 1 ≤ w5.heap.size := by have := hb5.size; simp at this; omega
        have B5 : Below w.heap.size w w5 := (B3.alloc B3.size _).trans (hb5.mono (by simp; omega))
        have R5 : Five w5 w.heap.size 0 0 0 0 0 := (R3.below ((Below.refl w3.heap.size w3).alloc (Nat.le_refl _) _) (by omega)).below hb5 (by simp; omega)
        clear hb5 B3 R3 z3
        unfold itV
        have XX : Hid (∀ x1 x2 x3 x4 : Int, Five (w5.alloc (.cells #[.int .i64 (k : Int), .int .i64 x1, .int .i64 x2, .int .i64 x3, .int .i64 x4] 93)) w5.heap.size k x1 x2 x3 x4) := fun x1 x2 x3 x4 => by constructor <;> simp
        go_wp2_with fail
        refine (rightC k (tkRd f v) (tkR1 f v) (tkR2 f v) (takeF f v) _).mono ?_
        rintro e w6 ⟨rfl, hb6⟩
        rw [HR.out]
        have X6 := (XX.out (tkRd f v) (tkR1 f v) (tkR2 f v) (takeF f v)).below hb6 (by simp)
        have z6 : w5.heap.size + 1 ≤ w6.heap.size := by have := hb6.size; simp at this; omega
        have B6 : Below w.heap.size w w6 := (B5.alloc B5.size _).trans (hb6.mono (by simp; omega))
        have R6 : Five w6 w.heap.size 0 0 0 0 0 := (R5.below ((Below.refl w5.heap.size w5).alloc (Nat.le_refl _) _) (by omega)).below hb6 (by simp; omega)
        clear hb6 B5 R5 XX
        obtain ⟨p0, p1, p2, p3, p4, _, _, _, _, _⟩ := X6
        have X6 : Hid (Five w6 w5.heap.size k (tkRd f v) (tkR1 f v) (tkR2 f v) (takeF f v)) := ⟨p0, p1, p2, p3, p4, by assumption, by assumption, by assumption, by assumption, by assumption⟩
        go_wp2_with fail
        refine (specEncYes k (tkRd f v) (tkR1 f v) (tkR2 f v) (takeF f v) f _ _ h _ HR.out HS.out).mono ?_
        rintro e w7 ⟨rfl, hb7⟩
        have X7 := X6.out.below hb7 (by omega)
        have z7 : w.heap.size + 1 ≤ w7.heap.size := by have := hb7.size; omega
        have B7 : Below w.heap.size w w7 := B6.trans (hb7.mono (by omega))
        have R7 : Five w7 w.heap.size 0 0 0 0 0 := R6.below hb7 (by omega)
        clear hb7 B6 R6 X6 p0 p1 p2 p3 p4 z6 z5 HS HR
        rw [HEN.out]
        clear HEN
        obtain ⟨c0, c1, c2, c3, c4, _, _, _, _, _⟩ := X7
        obtain ⟨d0, d1, d2, d3, d4, g0, g1, g2, g3, g4⟩ := R7
        go_wp2
        refine bodyPost_ret (v := .tuple #[.agg #[.int .i64 (k : Int), .int .i64 (tkRd f v), .int .i64 (tkR1 f v), .int .i64 (tkR2 f v), .int .i64 (takeF f v)], .bool true]) (by simp [results, Tryz.results95, go_sem, d0, d1, d2, d3, d4]) rfl ⟨rfl, ?_⟩
        repeat (first | with_reducible exact B7 | refine Below.setCell ?_ (by first | omega | (simp; done) | (simp; omega)) _)
end Go.Proofs.YtelogjpjglohoaaGreatDoor

namespace Go.Proofs.YtelogjpjglohoaaGreatDoor
open Go.RowKit
set_option linter.unusedVariables false

def DmIs (v a0 a1 a2 a3 a4 : Int) (b : Bool) : Prop := ∀ w, Calls Tryz.prog 95 #[.int .i64 v] w fun e w' => e = .returned (.tuple #[.agg #[.int .i64 a0, .int .i64 a1, .int .i64 a2, .int .i64 a3, .int .i64 a4], .bool b]) ∧ Below w.heap.size w w'

/-- The first Op that a word has, if there is one. -/
theorem first_hit (v : Int) : (∀ j : Nat, 1 ≤ j → j ≤ 64 → ¬ HitP j v) ∨ ∃ n : Nat, 1 ≤ n ∧ n ≤ 64 ∧ (∀ j : Nat, 1 ≤ j → j < n → ¬ HitP j v) ∧ HitP n v := by
  have key : ∀ m : Nat, (∀ j : Nat, 1 ≤ j → j ≤ m → ¬ HitP j v) ∨ ∃ n : Nat, 1 ≤ n ∧ n ≤ m ∧ (∀ j : Nat, 1 ≤ j → j < n → ¬ HitP j v) ∧ HitP n v := by
    intro m
    induction m with
    | zero => exact .inl (fun j h0 h1 => by omega)
    | succ m ih =>
      rcases ih with h | ⟨n, h0, h1, h2, h3⟩
      · by_cases hh : HitP ((m + 1 : Nat) : Int) v
        · exact .inr ⟨m + 1, by omega, Nat.le_refl _, fun j j0 j1 => h j j0 (by omega), hh⟩
        · refine .inl (fun j j0 j1 => ?_)
          by_cases e : j = m + 1
          · subst e; exact hh
          · exact h j j0 (by omega)
      · exact .inr ⟨n, h0, by omega, h2, h3⟩
  exact key 64

end Go.Proofs.YtelogjpjglohoaaGreatDoor

namespace Go.Proofs.YtelogjpjglohoaaGreatDoor
open Go.RowKit

def byteVals (l : List UInt8) : List Value := l.map fun c => .int .u8 (c.toNat : Int)
/-- v is a slice of the call's own, its elements are the bytes l. -/
def Buf (w : World) (B : Nat) (E : TypeId) (v : Value) (l : List UInt8) : Prop := w.ownsRow B E 1 v l.length (byteVals l)

theorem Buf.put {w : World} {B : Nat} {E : TypeId} {v : Value} {l m : List UInt8} {n : Nat} (hn : n = m.length) (h : w.ownsRow B E 1 v (l.length + n) (byteVals l ++ byteVals m)) : Buf w B E v (l ++ m) := by
  subst hn
  unfold Buf byteVals
  rw [List.length_append, List.map_append]
  exact h

theorem Buf.below {w wr wx w1 : World} {B : Nat} {E : TypeId} {v : Value} {l : List UInt8} (h : Buf wr B E v l) (hb : Below B w wx) (hg : wx.grownBy w1 v.ownBlock) (hB : B ≤ wx.heap.size) : Below B w w1 :=
  hb.grown hg hB (fun k hk => (h.lt k hk).1)

theorem Buf.string {P : Program} {w : World} {B : Nat} {E : TypeId} {v : Value} {l : List UInt8} {src dst : TypeId} (hs : P.underlying src = some (.slice E)) (he : P.underlying E = some (.int .u8)) (hd : P.underlying dst = some .string)
    (h : Buf w B E v l) : (convert src dst v).run P w = .ok (.string ⟨l.toArray⟩) w := by
  rcases h.2 with ⟨hv, hn⟩ | ⟨g, cap, cur, hv, _⟩
  · obtain rfl : l = [] := List.length_eq_zero_iff.1 hn
    rw [hv]
    show (convert src dst (.slice none 0 0)).run P w = .ok (.string ⟨#[]⟩) w
    rw [run_convert_bytes_string w src dst E none 0 0 hs he hd]
    simp [Conv.bytesToString]
    rfl
  · have h' := h
    unfold Buf at h'
    rw [hv] at h' ⊢
    refine run_convert_bytes_back w src dst E _ cap l hs he hd fun j hj => ?_
    have := h'.cells (g := g) rfl j _ (List.getElem?_eq_getElem (by simpa [byteVals] using hj))
    rw [this]
    simp [byteVals]
end Go.Proofs.YtelogjpjglohoaaGreatDoor

namespace Go.Proofs.YtelogjpjglohoaaGreatDoor
open Go.RowKit
set_option linter.unusedVariables false
theorem Tryz.info_u8 : (Tryz.prog.info? 5).map (fun i => (i.zero, i.size, i.bytes)) = some (some (.int .u8 0), 1, 1) := by kernel_rfl

theorem zero_cells (n : Nat) : (madeCells (Value.cells (.int .u8 0)) (n * 1)).toList = byteVals (List.replicate n 0) := by
  rw [show Value.cells (.int .u8 0) = #[.int .u8 0] from rfl, Nat.mul_one, toList_madeCells_one]
  simp [byteVals]
theorem zero_le (x k m : Nat) (h : k < m) : (byteVals (leL x k ++ List.replicate (m - k) 0))[k]? = some (.int .u8 0) := by
  unfold byteVals
  rw [List.map_append, List.getElem?_append_right (by rw [List.length_map, leL_len]; exact Nat.le_refl _), List.length_map, leL_len, Nat.sub_self]
  obtain ⟨r, hr⟩ : ∃ r, m - k = r + 1 := ⟨m - k - 1, by omega⟩
  rw [hr, List.replicate_succ]
  rfl
theorem set_le (x k m : Nat) (h : k < m) :
    (byteVals (leL x k ++ List.replicate (m - k) 0)).set k (.int .u8 ((leAt x k).toNat : Int)) = byteVals (leL x (k + 1) ++ List.replicate (m - (k + 1)) 0) := by
  unfold byteVals
  rw [leL_succ, List.map_append, List.set_append_right _ _ (by rw [List.length_map, leL_len]; exact Nat.le_refl _), List.length_map, leL_len, Nat.sub_self]
  obtain ⟨r, hr⟩ : ∃ r, m - k = r + 1 := ⟨m - k - 1, by omega⟩
  rw [hr, show m - (k + 1) = r from by omega, List.replicate_succ]
  simp

set_option maxRecDepth 100000 in
set_option maxHeartbeats 1000000 in
theorem specLittle0 (v : Int) (n : Nat) (w : World) (hn : n ≤ 8) :
    Calls Tryz.prog 51 #[.int .i64 v, .int .i64 n] w fun e w' => e = .returned (.string ⟨(leL (u64 v) n).toArray⟩) ∧ Below w.heap.size w w' := by
  obtain ⟨i0, hi, hz0, hz1, hz2⟩ := info_parts Tryz.info_u8
  have hwu := wrap_u64 v
  go_enter Tryz.func51, Tryz.ntmps51
  go_wp2
  go_loopw [5, 6] (fun x t wr => ∃ k : Nat, k ≤ n ∧ t = .int .i64 k ∧ Buf wr w.heap.size 5 x (leL (u64 v) k) ∧ Below w.heap.size w wr) (fun _ t _ => n - (intOf t).toNat)
  case atStart => exact ⟨0, Nat.zero_le _, rfl, World.ownsRow_made w #[] 0 (Nat.le_refl _) (Nat.zero_le _) rfl, (Below.refl _ _).alloc (Nat.le_refl _) _⟩
  case round =>
    obtain ⟨k, hk, rfl, hbuf, hbel⟩ := hrel
    by_cases hlt : k < n
    · have hv : ((u64 v : Int) / 2 ^ (8 * k)) % 256 = ((leAt (u64 v) k).toNat : Int) := (leAt_nat (u64 v) k).symm
      have hsz := hbel.size
      have hlen : (leL (u64 v) k).length ≤ 8 := by rw [leL_len]; omega
      go_wp2_with (at_builtin; refine wpList_append_lies _ rfl _ _ 38 rfl w.heap.size 5 i0 _ 1 1 Tryz.underlying38 hi hz0 hz1 hz2 rfl (by omega) _ _ _ rfl (hbuf.alloc _) ⟨wr.heap.size, 0, none⟩ 1 1 (byteVals [leAt (u64 v) k]) rfl rfl (World.news_of_block (cs := #[.int .u8 (leAt (u64 v) k).toNat]) (t := 5) (fr := (0, 0)) (heap_alloc_new wr _)) (by simp [byteVals, Value.oneCell']) (by omega) (by unfold maxLen; omega) (by omega) (by simp; omega) (wr.heap.size + 1) (by simp) ?_; intro gg cap2 w2 hown1 hgrow hat hlt1)
      go_roundw
      case rel => exact ⟨k + 1, by omega, by go_num, by rw [leL_succ]; exact Buf.put rfl hown1, hbuf.below (hbel.alloc hsz _) hgrow (by simp; omega)⟩
      case measure => simp [intOf]; omega
    · have hconv := Buf.string Tryz.underlying38 Tryz.underlying5 Tryz.underlying9 hbuf
      go_wp2
      go_ret
      obtain rfl : k = n := by omega
      exact ⟨rfl, hbel⟩

end Go.Proofs.YtelogjpjglohoaaGreatDoor
