/- Decode of the model: contracts. Decode: both contracts at once. The source of draws: what one byte drawn leaves. Sources, choices: contracts. -/
import Derived.Test.YtiandbhcjecphaaGreatDoorGLShape24
import Derived.Test.YtiandbhcjecphaaGreatDoorRows
import Derived.WalkKit
import Derived.WalkSpells
import Derived.WalkLawsBesides
import Derived.Below
import Derived.Deep.RegionHeld3
namespace Go.Proofs.YtiandbhcjecphaaGreatDoor
open Go.RowKit
set_option linter.unusedVariables false

theorem specShCs (op f c g h : Int) (w : World) (hs : shT op = (f, c, g, h)) :
    Calls Tryz.prog 90 #[.int .i64 op] w fun e w' => e = .returned (.agg #[.int .i64 f, .int .i64 c, .int .i64 g, .int .i64 h]) ∧ Below w.heap.size w w' := by
  have := specShC op w
  rw [hs] at this
  exact this

set_option maxRecDepth 100000 in
set_option maxHeartbeats 8000000 in
theorem dmNone (v : Int) (v0 : 0 ≤ v) (v1 : v < 4294967296) (HX0 : Hid (∀ j : Nat, 1 ≤ j → j ≤ 64 → ¬ HitP j v)) (w : World) :
    Calls Tryz.prog 54 #[.int .i64 v] w fun e w' => e = .returned (.tuple #[it0, .bool false]) ∧ Below w.heap.size w w' := by
  go_enter Tryz.func54, Tryz.ntmps54
  go_wp2
  go_loopw [4] (fun t wr => ∃ k : Nat, 1 ≤ k ∧ k ≤ 65 ∧ t = .int .i64 k ∧ Below w.heap.size w wr ∧ w.heap.size + 1 ≤ wr.heap.size ∧ Five wr w.heap.size 0 0 0 0 0) (fun t _ => 65 - (intOf t).toNat)
  case atStart => exact ⟨1, Nat.le_refl _, by omega, rfl, (Below.refl _ _).alloc (Nat.le_refl _) _, by simp, by constructor <;> simp⟩
  case round =>
    obtain ⟨k, hk0, hkn, rfl, hbel, hsz, hR⟩ := hrel
    by_cases hlt : k ≤ 64
    · have hk64 : (k : Int) ≤ 64 := by omega
      have hnk := HX0.out k hk0 hlt
      obtain ⟨⟨f, c, g, h⟩, hs⟩ : ∃ s, s = shT (k : Int) := ⟨_, rfl⟩
      have htest := hit_all k v f c g h (by omega) (by omega) v0 v1 hs.symm
      obtain ⟨⟨f0, f1, _⟩, _⟩ := dec_test k v (by omega) (by omega) v0 v1 f c g h hs.symm
      have HS : Hid (shT (k : Int) = (f, c, g, h)) := hs.symm
      have HR : Hid (rightB k (tkRd f v) (tkR1 f v) (tkR2 f v) (takeF f v) = true) := by
        show _ = _
        unfold rightB
        rw [HS.out, right_taken f v f0 f1, Bool.and_true]
        exact decide_eq_true ⟨by omega, by omega⟩
      clear hs
      go_wp2_with fail
      refine (specShCs k f c g h _ HS.out).mono ?_
      rintro e w3 ⟨rfl, hb3⟩
      have z3 : w.heap.size + 1 ≤ w3.heap.size := Nat.le_trans hsz hb3.size
      have B3 : Below w.heap.size w w3 := hbel.trans (hb3.mono (by omega))
      have R3 := hR.below hb3 (by omega)
      clear hb3 hbel hR hsz
      by_cases a1 : v % 128 = c
      case neg =>
        have b1 : ¬ c = v % 128 := fun e => a1 e.symm
        clear htest HS HR HX0 a1 hnk
        go_wp2
        go_roundw
        case rel => exact ⟨k + 1, by omega, by omega, by go_num, B3.alloc B3.size _, by simp; omega, R3.below ((Below.refl w3.heap.size w3).alloc (Nat.le_refl _) _) (by omega)⟩
        case measure => simp [intOf]; omega
      subst a1
      by_cases a2 : 3 ≤ f ∧ f ≤ 8
      · by_cases a3 : v / 4096 % 8 = g
        case neg =>
          have b3 : ¬ g = v / 4096 % 8 := fun e => a3 e.symm
          clear htest HS HR HX0 hnk a3
          go_wp2_with fail
          refine (spIn f 3 8 _ true (.inl ⟨rfl, a2.1, a2.2⟩)).mono ?_
          rintro e w4 ⟨rfl, rfl⟩
          clear a2
          go_wp2
          go_roundw
          case rel => exact ⟨k + 1, by omega, by omega, by go_num, B3.alloc B3.size _, by simp; omega, R3.below ((Below.refl w3.heap.size w3).alloc (Nat.le_refl _) _) (by omega)⟩
          case measure => simp [intOf]; omega
        have hne : ¬ encW f (v % 128) g h (tkRd f v) (tkR1 f v) (tkR2 f v) (takeF f v) = v := fun e => hnk (htest.2 ⟨rfl, fun _ => a3, e⟩)
        clear htest hnk HX0
        subst a3
        go_wp2_with fail
        refine (spIn f 3 8 _ true (.inl ⟨rfl, a2.1, a2.2⟩)).mono ?_
        rintro e w4 ⟨rfl, rfl⟩
        clear a2
        go_wp2_with fail
        refine (tksC k f v _ _ h v0 v1 f0 f1 HS.out _).mono ?_
        rintro e w5 ⟨rfl, hb5⟩
        have z5 : w.heap.size + 1 ≤ w5.heap.size := by have := hb5.size; simp at this; omega
        have B5 : Below w.heap.size w w5 := (B3.alloc B3.size _).trans (hb5.mono (by simp; omega))
        have R5 : Five w5 w.heap.size 0 0 0 0 0 := (R3.below ((Below.refl w3.heap.size w3).alloc (Nat.le_refl _) _) (by omega)).below hb5 (by simp; omega)
        clear hb5 B3 R3 z3
        unfold itV
        have XX : Hid (∀ x1 x2 x3 x4 : Int, Five (w5.alloc (.cells #[.int .i64 (k : Int), .int .i64 x1, .int .i64 x2, .int .i64 x3, .int .i64 x4] 39)) w5.heap.size k x1 x2 x3 x4) := fun x1 x2 x3 x4 => by constructor <;> simp
        go_wp2_with fail
        refine (rightC k (tkRd f v) (tkR1 f v) (tkR2 f v) (takeF f v) _).mono ?_
        rintro e w6 ⟨rfl, hb6⟩
        rw [HR.out]
        have X6 := (XX.out (tkRd f v) (tkR1 f v) (tkR2 f v) (takeF f v)).below hb6 (by simp)
        have z6 : w5.heap.size + 1 ≤ w6.heap.size := by have := hb6.size; simp at this; omega
        have B6 : Below w.heap.size w w6 := (B5.alloc B5.size _).trans (hb6.mono (by simp; omega))
        have R6 : Five w6 w.heap.size 0 0 0 0 0 := (R5.below ((Below.refl w5.heap.size w5).alloc (Nat.le_refl _) _) (by omega)).below hb6 (by simp; omega)
        clear hb6 B5 R5 XX
        obtain ⟨p0, p1, p2, p3, p4, _, _, _, _, _⟩ := X6
        have X6 : Hid (Five w6 w5.heap.size k (tkRd f v) (tkR1 f v) (tkR2 f v) (takeF f v)) := ⟨p0, p1, p2, p3, p4, by assumption, by assumption, by assumption, by assumption, by assumption⟩
        go_wp2_with fail
        refine (specEncYes k (tkRd f v) (tkR1 f v) (tkR2 f v) (takeF f v) f _ _ h _ HR.out HS.out).mono ?_
        rintro e w7 ⟨rfl, hb7⟩
        have X7 := X6.out.below hb7 (by omega)
        have z7 : w.heap.size + 1 ≤ w7.heap.size := by have := hb7.size; omega
        have B7 : Below w.heap.size w w7 := B6.trans (hb7.mono (by omega))
        have R7 : Five w7 w.heap.size 0 0 0 0 0 := R6.below hb7 (by omega)
        clear hb7 B6 R6 X6 p0 p1 p2 p3 p4 z6 z5 HS HR
        clear X7
        go_wp2
        go_roundw
        case rel => exact ⟨k + 1, by omega, by omega, by go_num, B7, by omega, R7⟩
        case measure => simp [intOf]; omega
      · have a2' : f < 3 ∨ 8 < f := by omega
        have hne : ¬ encW f (v % 128) g h (tkRd f v) (tkR1 f v) (tkR2 f v) (takeF f v) = v := fun e => hnk (htest.2 ⟨rfl, fun hf => absurd hf a2, e⟩)
        clear htest hnk a2 HX0
        go_wp2_with fail
        refine (spIn f 3 8 _ false (.inr ⟨rfl, a2'⟩)).mono ?_
        rintro e w4 ⟨rfl, rfl⟩
        clear a2'
        go_wp2_with fail
        refine (tksC k f v _ _ h v0 v1 f0 f1 HS.out _).mono ?_
        rintro e w5 ⟨rfl, hb5⟩
        have z5 : w.heap.size + 1 ≤ w5.heap.size := by have := hb5.size; simp at this; omega
        have B5 : Below w.heap.size w w5 := (B3.alloc B3.size _).trans (hb5.mono (by simp; omega))
        have R5 : Five w5 w.heap.size 0 0 0 0 0 := (R3.below ((Below.refl w3.heap.size w3).alloc (Nat.le_refl _) _) (by omega)).below hb5 (by simp; omega)
        clear hb5 B3 R3 z3
        unfold itV
        have XX : Hid (∀ x1 x2 x3 x4 : Int, Five (w5.alloc (.cells #[.int .i64 (k : Int), .int .i64 x1, .int .i64 x2, .int .i64 x3, .int .i64 x4] 39)) w5.heap.size k x1 x2 x3 x4) := fun x1 x2 x3 x4 => by constructor <;> simp
        go_wp2_with fail
        refine (rightC k (tkRd f v) (tkR1 f v) (tkR2 f v) (takeF f v) _).mono ?_
        rintro e w6 ⟨rfl, hb6⟩
        rw [HR.out]
        have X6 := (XX.out (tkRd f v) (tkR1 f v) (tkR2 f v) (takeF f v)).below hb6 (by simp)
        have z6 : w5.heap.size + 1 ≤ w6.heap.size := by have := hb6.size; simp at this; omega
        have B6 : Below w.heap.size w w6 := (B5.alloc B5.size _).trans (hb6.mono (by simp; omega))
        have R6 : Five w6 w.heap.size 0 0 0 0 0 := (R5.below ((Below.refl w5.heap.size w5).alloc (Nat.le_refl _) _) (by omega)).below hb6 (by simp; omega)
        clear hb6 B5 R5 XX
        obtain ⟨p0, p1, p2, p3, p4, _, _, _, _, _⟩ := X6
        have X6 : Hid (Five w6 w5.heap.size k (tkRd f v) (tkR1 f v) (tkR2 f v) (takeF f v)) := ⟨p0, p1, p2, p3, p4, by assumption, by assumption, by assumption, by assumption, by assumption⟩
        go_wp2_with fail
        refine (specEncYes k (tkRd f v) (tkR1 f v) (tkR2 f v) (takeF f v) f _ _ h _ HR.out HS.out).mono ?_
        rintro e w7 ⟨rfl, hb7⟩
        have X7 := X6.out.below hb7 (by omega)
        have z7 : w.heap.size + 1 ≤ w7.heap.size := by have := hb7.size; omega
        have B7 : Below w.heap.size w w7 := B6.trans (hb7.mono (by omega))
        have R7 : Five w7 w.heap.size 0 0 0 0 0 := R6.below hb7 (by omega)
        clear hb7 B6 R6 X6 p0 p1 p2 p3 p4 z6 z5 HS HR
        clear X7
        go_wp2
        go_roundw
        case rel => exact ⟨k + 1, by omega, by omega, by go_num, B7, by omega, R7⟩
        case measure => simp [intOf]; omega
    · obtain rfl : k = 65 := by omega
      obtain ⟨d0, d1, d2, d3, d4, g0, g1, g2, g3, g4⟩ := hR
      clear HX0
      go_wp2
      refine bodyPost_ret (v := .tuple #[.agg #[.int .i64 0, .int .i64 0, .int .i64 0, .int .i64 0, .int .i64 0], .bool false]) (by simp [results, Tryz.results54, go_sem, d0, d1, d2, d3, d4]) rfl ⟨rfl, ?_⟩
      repeat (first | with_reducible exact hbel | refine Below.setCell ?_ (by first | omega | (simp; done) | (simp; omega)) _)

set_option maxRecDepth 100000 in
set_option maxHeartbeats 8000000 in
theorem dmYes (v : Int) (v0 : 0 ≤ v) (v1 : v < 4294967296) (n : Nat) (n0 : 1 ≤ n) (n1 : n ≤ 64) (HX0 : Hid (∀ j : Nat, 1 ≤ j → j < n → ¬ HitP j v)) (hyes : Hid (HitP n v)) (F : Int) (hF : Hid ((shT n).1 = F)) (w : World) :
    Calls Tryz.prog 54 #[.int .i64 v] w fun e w' => e = .returned (.tuple #[itV n F v, .bool true]) ∧ Below w.heap.size w w' := by
  go_enter Tryz.func54, Tryz.ntmps54
  go_wp2
  go_loopw [4] (fun t wr => ∃ k : Nat, 1 ≤ k ∧ k ≤ n ∧ t = .int .i64 k ∧ Below w.heap.size w wr ∧ w.heap.size + 1 ≤ wr.heap.size ∧ Five wr w.heap.size 0 0 0 0 0) (fun t _ => n - (intOf t).toNat)
  case atStart => exact ⟨1, Nat.le_refl _, by omega, rfl, (Below.refl _ _).alloc (Nat.le_refl _) _, by simp, by constructor <;> simp⟩
  case round =>
    obtain ⟨k, hk0, hkn, rfl, hbel, hsz, hR⟩ := hrel
    have hk64 : (k : Int) ≤ 64 := by omega
    by_cases hlt : k < n
    · have hnk := HX0.out k hk0 hlt
      clear hyes hF
      obtain ⟨⟨f, c, g, h⟩, hs⟩ : ∃ s, s = shT (k : Int) := ⟨_, rfl⟩
      have htest := hit_all k v f c g h (by omega) (by omega) v0 v1 hs.symm
      obtain ⟨⟨f0, f1, _⟩, _⟩ := dec_test k v (by omega) (by omega) v0 v1 f c g h hs.symm
      have HS : Hid (shT (k : Int) = (f, c, g, h)) := hs.symm
      have HR : Hid (rightB k (tkRd f v) (tkR1 f v) (tkR2 f v) (takeF f v) = true) := by
        show _ = _
        unfold rightB
        rw [HS.out, right_taken f v f0 f1, Bool.and_true]
        exact decide_eq_true ⟨by omega, by omega⟩
      clear hs
      go_wp2_with fail
      refine (specShCs k f c g h _ HS.out).mono ?_
      rintro e w3 ⟨rfl, hb3⟩
      have z3 : w.heap.size + 1 ≤ w3.heap.size := Nat.le_trans hsz hb3.size
      have B3 : Below w.heap.size w w3 := hbel.trans (hb3.mono (by omega))
      have R3 := hR.below hb3 (by omega)
      clear hb3 hbel hR hsz
      by_cases a1 : v % 128 = c
      case neg =>
        have b1 : ¬ c = v % 128 := fun e => a1 e.symm
        clear htest HS HR HX0 a1 hnk
        go_wp2
        go_roundw
        case rel => exact ⟨k + 1, by omega, by omega, by go_num, B3.alloc B3.size _, by simp; omega, R3.below ((Below.refl w3.heap.size w3).alloc (Nat.le_refl _) _) (by omega)⟩
        case measure => simp [intOf]; omega
      subst a1
      by_cases a2 : 3 ≤ f ∧ f ≤ 8
      · by_cases a3 : v / 4096 % 8 = g
        case neg =>
          have b3 : ¬ g = v / 4096 % 8 := fun e => a3 e.symm
          clear htest HS HR HX0 hnk a3
          go_wp2_with fail
          refine (spIn f 3 8 _ true (.inl ⟨rfl, a2.1, a2.2⟩)).mono ?_
          rintro e w4 ⟨rfl, rfl⟩
          clear a2
          go_wp2
          go_roundw
          case rel => exact ⟨k + 1, by omega, by omega, by go_num, B3.alloc B3.size _, by simp; omega, R3.below ((Below.refl w3.heap.size w3).alloc (Nat.le_refl _) _) (by omega)⟩
          case measure => simp [intOf]; omega
        have hne : ¬ encW f (v % 128) g h (tkRd f v) (tkR1 f v) (tkR2 f v) (takeF f v) = v := fun e => hnk (htest.2 ⟨rfl, fun _ => a3, e⟩)
        clear htest hnk HX0
        subst a3
        go_wp2_with fail
        refine (spIn f 3 8 _ true (.inl ⟨rfl, a2.1, a2.2⟩)).mono ?_
        rintro e w4 ⟨rfl, rfl⟩
        clear a2
        go_wp2_with fail
        refine (tksC k f v _ _ h v0 v1 f0 f1 HS.out _).mono ?_
        rintro e w5 ⟨rfl, hb5⟩
        have z5 : w.heap.size + 1 ≤ w5.heap.size := by have := hb5.size; simp at this; omega
        have B5 : Below w.heap.size w w5 := (B3.alloc B3.size _).trans (hb5.mono (by simp; omega))
        have R5 : Five w5 w.heap.size 0 0 0 0 0 := (R3.below ((Below.refl w3.heap.size w3).alloc (Nat.le_refl _) _) (by omega)).below hb5 (by simp; omega)
        clear hb5 B3 R3 z3
        unfold itV
        have XX : Hid (∀ x1 x2 x3 x4 : Int, Five (w5.alloc (.cells #[.int .i64 (k : Int), .int .i64 x1, .int .i64 x2, .int .i64 x3, .int .i64 x4] 39)) w5.heap.size k x1 x2 x3 x4) := fun x1 x2 x3 x4 => by constructor <;> simp
        go_wp2_with fail
        refine (rightC k (tkRd f v) (tkR1 f v) (tkR2 f v) (takeF f v) _).mono ?_
        rintro e w6 ⟨rfl, hb6⟩
        rw [HR.out]
        have X6 := (XX.out (tkRd f v) (tkR1 f v) (tkR2 f v) (takeF f v)).below hb6 (by simp)
        have z6 : w5.heap.size + 1 ≤ w6.heap.size := by have := hb6.size; simp at this; omega
        have B6 : Below w.heap.size w w6 := (B5.alloc B5.size _).trans (hb6.mono (by simp; omega))
        have R6 : Five w6 w.heap.size 0 0 0 0 0 := (R5.below ((Below.refl w5.heap.size w5).alloc (Nat.le_refl _) _) (by omega)).below hb6 (by simp; omega)
        clear hb6 B5 R5 XX
        obtain ⟨p0, p1, p2, p3, p4, _, _, _, _, _⟩ := X6
        have X6 : Hid (Five w6 w5.heap.size k (tkRd f v) (tkR1 f v) (tkR2 f v) (takeF f v)) := ⟨p0, p1, p2, p3, p4, by assumption, by assumption, by assumption, by assumption, by assumption⟩
        go_wp2_with fail
        refine (specEncYes k (tkRd f v) (tkR1 f v) (tkR2 f v) (takeF f v) f _ _ h _ HR.out HS.out).mono ?_
        rintro e w7 ⟨rfl, hb7⟩
        have X7 := X6.out.below hb7 (by omega)
        have z7 : w.heap.size + 1 ≤ w7.heap.size := by have := hb7.size; omega
        have B7 : Below w.heap.size w w7 := B6.trans (hb7.mono (by omega))
        have R7 : Five w7 w.heap.size 0 0 0 0 0 := R6.below hb7 (by omega)
        clear hb7 B6 R6 X6 p0 p1 p2 p3 p4 z6 z5 HS HR
        clear X7
        go_wp2
        go_roundw
        case rel => exact ⟨k + 1, by omega, by omega, by go_num, B7, by omega, R7⟩
        case measure => simp [intOf]; omega
      · have a2' : f < 3 ∨ 8 < f := by omega
        have hne : ¬ encW f (v % 128) g h (tkRd f v) (tkR1 f v) (tkR2 f v) (takeF f v) = v := fun e => hnk (htest.2 ⟨rfl, fun hf => absurd hf a2, e⟩)
        clear htest hnk a2 HX0
        go_wp2_with fail
        refine (spIn f 3 8 _ false (.inr ⟨rfl, a2'⟩)).mono ?_
        rintro e w4 ⟨rfl, rfl⟩
        clear a2'
        go_wp2_with fail
        refine (tksC k f v _ _ h v0 v1 f0 f1 HS.out _).mono ?_
        rintro e w5 ⟨rfl, hb5⟩
        have z5 : w.heap.size + 1 ≤ w5.heap.size := by have := hb5.size; simp at this; omega
        have B5 : Below w.heap.size w w5 := (B3.alloc B3.size _).trans (hb5.mono (by simp; omega))
        have R5 : Five w5 w.heap.size 0 0 0 0 0 := (R3.below ((Below.refl w3.heap.size w3).alloc (Nat.le_refl _) _) (by omega)).below hb5 (by simp; omega)
        clear hb5 B3 R3 z3
        unfold itV
        have XX : Hid (∀ x1 x2 x3 x4 : Int, Five (w5.alloc (.cells #[.int .i64 (k : Int), .int .i64 x1, .int .i64 x2, .int .i64 x3, .int .i64 x4] 39)) w5.heap.size k x1 x2 x3 x4) := fun x1 x2 x3 x4 => by constructor <;> simp
        go_wp2_with fail
        refine (rightC k (tkRd f v) (tkR1 f v) (tkR2 f v) (takeF f v) _).mono ?_
        rintro e w6 ⟨rfl, hb6⟩
        rw [HR.out]
        have X6 := (XX.out (tkRd f v) (tkR1 f v) (tkR2 f v) (takeF f v)).below hb6 (by simp)
        have z6 : w5.heap.size + 1 ≤ w6.heap.size := by have := hb6.size; simp at this; omega
        have B6 : Below w.heap.size w w6 := (B5.alloc B5.size _).trans (hb6.mono (by simp; omega))
        have R6 : Five w6 w.heap.size 0 0 0 0 0 := (R5.below ((Below.refl w5.heap.size w5).alloc (Nat.le_refl _) _) (by omega)).below hb6 (by simp; omega)
        clear hb6 B5 R5 XX
        obtain ⟨p0, p1, p2, p3, p4, _, _, _, _, _⟩ := X6
        have X6 : Hid (Five w6 w5.heap.size k (tkRd f v) (tkR1 f v) (tkR2 f v) (takeF f v)) := ⟨p0, p1, p2, p3, p4, by assumption, by assumption, by assumption, by assumption, by assumption⟩
        go_wp2_with fail
        refine (specEncYes k (tkRd f v) (tkR1 f v) (tkR2 f v) (takeF f v) f _ _ h _ HR.out HS.out).mono ?_
        rintro e w7 ⟨rfl, hb7⟩
        have X7 := X6.out.below hb7 (by omega)
        have z7 : w.heap.size + 1 ≤ w7.heap.size := by have := hb7.size; omega
        have B7 : Below w.heap.size w w7 := B6.trans (hb7.mono (by omega))
        have R7 : Five w7 w.heap.size 0 0 0 0 0 := R6.below hb7 (by omega)
        clear hb7 B6 R6 X6 p0 p1 p2 p3 p4 z6 z5 HS HR
        clear X7
        go_wp2
        go_roundw
        case rel => exact ⟨k + 1, by omega, by omega, by go_num, B7, by omega, R7⟩
        case measure => simp [intOf]; omega
    · obtain rfl : k = n := by omega
      have hnk := hyes.out
      clear HX0 hyes
      obtain ⟨⟨f, c, g, h⟩, hs⟩ : ∃ s, s = shT (k : Int) := ⟨_, rfl⟩
      have htest := hit_all k v f c g h (by omega) (by omega) v0 v1 hs.symm
      obtain ⟨⟨f0, f1, _⟩, _⟩ := dec_test k v (by omega) (by omega) v0 v1 f c g h hs.symm
      have HS : Hid (shT (k : Int) = (f, c, g, h)) := hs.symm
      have HR : Hid (rightB k (tkRd f v) (tkR1 f v) (tkR2 f v) (takeF f v) = true) := by
        show _ = _
        unfold rightB
        rw [HS.out, right_taken f v f0 f1, Bool.and_true]
        exact decide_eq_true ⟨by omega, by omega⟩
      clear hs
      go_wp2_with fail
      refine (specShCs k f c g h _ HS.out).mono ?_
      rintro e w3 ⟨rfl, hb3⟩
      have z3 : w.heap.size + 1 ≤ w3.heap.size := Nat.le_trans hsz hb3.size
      have B3 : Below w.heap.size w w3 := hbel.trans (hb3.mono (by omega))
      have R3 := hR.below hb3 (by omega)
      clear hb3 hbel hR hsz
      obtain ⟨a1, a3, hen⟩ := htest.1 hnk
      obtain rfl : f = F := by have := hF.out; rw [HS.out] at this; exact this
      subst a1
      have HEN : Hid (encW f (v % 128) g h (tkRd f v) (tkR1 f v) (tkR2 f v) (takeF f v) = v) := hen
      clear htest hnk hen hF
      by_cases a2 : 3 ≤ f ∧ f ≤ 8
      · have a4 := a3 a2
        clear a3
        subst a4
        go_wp2_with fail
        refine (spIn f 3 8 _ true (.inl ⟨rfl, a2.1, a2.2⟩)).mono ?_
        rintro e w4 ⟨rfl, rfl⟩
        clear a2
        go_wp2_with fail
        refine (tksC k f v _ _ h v0 v1 f0 f1 HS.out _).mono ?_
        rintro e w5 ⟨rfl, hb5⟩
        have z5 : w.heap.size + 1 ≤ w5.heap.size := by have := hb5.size; simp at this; omega
        have B5 : Below w.heap.size w w5 := (B3.alloc B3.size _).trans (hb5.mono (by simp; omega))
        have R5 : Five w5 w.heap.size 0 0 0 0 0 := (R3.below ((Below.refl w3.heap.size w3).alloc (Nat.le_refl _) _) (by omega)).below hb5 (by simp; omega)
        clear hb5 B3 R3 z3
        unfold itV
        have XX : Hid (∀ x1 x2 x3 x4 : Int, Five (w5.alloc (.cells #[.int .i64 (k : Int), .int .i64 x1, .int .i64 x2, .int .i64 x3, .int .i64 x4] 39)) w5.heap.size k x1 x2 x3 x4) := fun x1 x2 x3 x4 => by constructor <;> simp
        go_wp2_with fail
        refine (rightC k (tkRd f v) (tkR1 f v) (tkR2 f v) (takeF f v) _).mono ?_
        rintro e w6 ⟨rfl, hb6⟩
        rw [HR.out]
        have X6 := (XX.out (tkRd f v) (tkR1 f v) (tkR2 f v) (takeF f v)).below hb6 (by simp)
        have z6 : w5.heap.size + 1 ≤ w6.heap.size := by have := hb6.size; simp at this; omega
        have B6 : Below w.heap.size w w6 := (B5.alloc B5.size _).trans (hb6.mono (by simp; omega))
        have R6 : Five w6 w.heap.size 0 0 0 0 0 := (R5.below ((Below.refl w5.heap.size w5).alloc (Nat.le_refl _) _) (by omega)).below hb6 (by simp; omega)
        clear hb6 B5 R5 XX
        obtain ⟨p0, p1, p2, p3, p4, _, _, _, _, _⟩ := X6
        have X6 : Hid (Five w6 w5.heap.size k (tkRd f v) (tkR1 f v) (tkR2 f v) (takeF f v)) := ⟨p0, p1, p2, p3, p4, by assumption, by assumption, by assumption, by assumption, by assumption⟩
        go_wp2_with fail
        refine (specEncYes k (tkRd f v) (tkR1 f v) (tkR2 f v) (takeF f v) f _ _ h _ HR.out HS.out).mono ?_
        rintro e w7 ⟨rfl, hb7⟩
        have X7 := X6.out.below hb7 (by omega)
        have z7 : w.heap.size + 1 ≤ w7.heap.size := by have := hb7.size; omega
        have B7 : Below w.heap.size w w7 := B6.trans (hb7.mono (by omega))
        have R7 : Five w7 w.heap.size 0 0 0 0 0 := R6.below hb7 (by omega)
        clear hb7 B6 R6 X6 p0 p1 p2 p3 p4 z6 z5 HS HR
        rw [HEN.out]
        clear HEN
        obtain ⟨c0, c1, c2, c3, c4, _, _, _, _, _⟩ := X7
        obtain ⟨d0, d1, d2, d3, d4, g0, g1, g2, g3, g4⟩ := R7
        go_wp2
        refine bodyPost_ret (v := .tuple #[.agg #[.int .i64 (k : Int), .int .i64 (tkRd f v), .int .i64 (tkR1 f v), .int .i64 (tkR2 f v), .int .i64 (takeF f v)], .bool true]) (by simp [results, Tryz.results54, go_sem, d0, d1, d2, d3, d4]) rfl ⟨rfl, ?_⟩
        repeat (first | with_reducible exact B7 | refine Below.setCell ?_ (by first | omega | (simp; done) | (simp; omega)) _)
      · have a2' : f < 3 ∨ 8 < f := by omega
        clear a3 a2
        go_wp2_with fail
        refine (spIn f 3 8 _ false (.inr ⟨rfl, a2'⟩)).mono ?_
        rintro e w4 ⟨rfl, rfl⟩
        clear a2'
        go_wp2_with fail
        refine (tksC k f v _ _ h v0 v1 f0 f1 HS.out _).mono ?_
        rintro e w5 ⟨rfl, hb5⟩
        have z5 : w.heap.size + 1 ≤ w5.heap.size := by have := hb5.size; simp at this; omega
        have B5 : Below w.heap.size w w5 := (B3.alloc B3.size _).trans (hb5.mono (by simp; omega))
        have R5 : Five w5 w.heap.size 0 0 0 0 0 := (R3.below ((Below.refl w3.heap.size w3).alloc (Nat.le_refl _) _) (by omega)).below hb5 (by simp; omega)
        clear hb5 B3 R3 z3
        unfold itV
        have XX : Hid (∀ x1 x2 x3 x4 : Int, Five (w5.alloc (.cells #[.int .i64 (k : Int), .int .i64 x1, .int .i64 x2, .int .i64 x3, .int .i64 x4] 39)) w5.heap.size k x1 x2 x3 x4) := fun x1 x2 x3 x4 => by constructor <;> simp
        go_wp2_with fail
        refine (rightC k (tkRd f v) (tkR1 f v) (tkR2 f v) (takeF f v) _).mono ?_
        rintro e w6 ⟨rfl, hb6⟩
        rw [HR.out]
        have X6 := (XX.out (tkRd f v) (tkR1 f v) (tkR2 f v) (takeF f v)).below hb6 (by simp)
        have z6 : w5.heap.size + 1 ≤ w6.heap.size := by have := hb6.size; simp at this; omega
        have B6 : Below w.heap.size w w6 := (B5.alloc B5.size _).trans (hb6.mono (by simp; omega))
        have R6 : Five w6 w.heap.size 0 0 0 0 0 := (R5.below ((Below.refl w5.heap.size w5).alloc (Nat.le_refl _) _) (by omega)).below hb6 (by simp; omega)
        clear hb6 B5 R5 XX
        obtain ⟨p0, p1, p2, p3, p4, _, _, _, _, _⟩ := X6
        have X6 : Hid (Five w6 w5.heap.size k (tkRd f v) (tkR1 f v) (tkR2 f v) (takeF f v)) := ⟨p0, p1, p2, p3, p4, by assumption, by assumption, by assumption, by assumption, by assumption⟩
        go_wp2_with fail
        refine (specEncYes k (tkRd f v) (tkR1 f v) (tkR2 f v) (takeF f v) f _ _ h _ HR.out HS.out).mono ?_
        rintro e w7 ⟨rfl, hb7⟩
        have X7 := X6.out.below hb7 (by omega)
        have z7 : w.heap.size + 1 ≤ w7.heap.size := by have := hb7.size; omega
        have B7 : Below w.heap.size w w7 := B6.trans (hb7.mono (by omega))
        have R7 : Five w7 w.heap.size 0 0 0 0 0 := R6.below hb7 (by omega)
        clear hb7 B6 R6 X6 p0 p1 p2 p3 p4 z6 z5 HS HR
        rw [HEN.out]
        clear HEN
        obtain ⟨c0, c1, c2, c3, c4, _, _, _, _, _⟩ := X7
        obtain ⟨d0, d1, d2, d3, d4, g0, g1, g2, g3, g4⟩ := R7
        go_wp2
        refine bodyPost_ret (v := .tuple #[.agg #[.int .i64 (k : Int), .int .i64 (tkRd f v), .int .i64 (tkR1 f v), .int .i64 (tkR2 f v), .int .i64 (takeF f v)], .bool true]) (by simp [results, Tryz.results54, go_sem, d0, d1, d2, d3, d4]) rfl ⟨rfl, ?_⟩
        repeat (first | with_reducible exact B7 | refine Below.setCell ?_ (by first | omega | (simp; done) | (simp; omega)) _)
end Go.Proofs.YtiandbhcjecphaaGreatDoor

namespace Go.Proofs.YtiandbhcjecphaaGreatDoor
open Go.RowKit
set_option linter.unusedVariables false

def DmIs (v a0 a1 a2 a3 a4 : Int) (b : Bool) : Prop := ∀ w, Calls Tryz.prog 54 #[.int .i64 v] w fun e w' => e = .returned (.tuple #[.agg #[.int .i64 a0, .int .i64 a1, .int .i64 a2, .int .i64 a3, .int .i64 a4], .bool b]) ∧ Below w.heap.size w w'

/-- The first Op that a word has, if there is one. -/
theorem first_hit (v : Int) : (∀ j : Nat, 1 ≤ j → j ≤ 64 → ¬ HitP j v) ∨ ∃ n : Nat, 1 ≤ n ∧ n ≤ 64 ∧ (∀ j : Nat, 1 ≤ j → j < n → ¬ HitP j v) ∧ HitP n v := by
  have key : ∀ m : Nat, (∀ j : Nat, 1 ≤ j → j ≤ m → ¬ HitP j v) ∨ ∃ n : Nat, 1 ≤ n ∧ n ≤ m ∧ (∀ j : Nat, 1 ≤ j → j < n → ¬ HitP j v) ∧ HitP n v := by
    intro m
    induction m with
    | zero => exact .inl (fun j h0 h1 => by omega)
    | succ m ih =>
      rcases ih with h | ⟨n, h0, h1, h2, h3⟩
      · by_cases hh : HitP ((m + 1 : Nat) : Int) v
        · exact .inr ⟨m + 1, by omega, Nat.le_refl _, fun j j0 j1 => h j j0 (by omega), hh⟩
        · refine .inl (fun j j0 j1 => ?_)
          by_cases e : j = m + 1
          · subst e; exact hh
          · exact h j j0 (by omega)
      · exact .inr ⟨n, h0, by omega, h2, h3⟩
  exact key 64

end Go.Proofs.YtiandbhcjecphaaGreatDoor

namespace Go.Proofs.YtiandbhcjecphaaGreatDoor
open Go.RowKit
set_option linter.unusedVariables false

/-- Fewer draws than more than any law makes. (A structure: nothing lays it open in a walk.) -/
structure Few (p : Int) : Prop where
  lt : p < 1000000000

/-- A source of draws at block b: its code, how many were drawn, its seed. -/
structure Src (w : World) (b : Nat) (a : Option Addr) (len cap : Nat) (p sd : Int) : Prop where
  c0 : w.cell? ⟨b, 0, none⟩ = some (.slice a len cap)
  c1 : w.cell? ⟨b, 1, none⟩ = some (.int .i64 p)
  c2 : w.cell? ⟨b, 2, none⟩ = some (.int .i64 sd)
  f1 : w.frozen? ⟨b, 1, none⟩ = false
  f2 : w.frozen? ⟨b, 2, none⟩ = false
  p0 : 0 ≤ p
  p1 : p ≤ 1000000000
  s0 : 0 ≤ sd
  s1 : sd < 2147483648

/-- The first len cells of a slice of bytes that came in ahead of block B. -/
def Bytes (w : World) (B : Nat) (a : Option Addr) (len : Nat) : Prop :=
  len ≤ maxLen ∧ ∀ i, i < len → ∃ (bx off : Nat) (c : Int), a = some ⟨bx, off, none⟩ ∧ bx < B ∧ 0 ≤ c ∧ c < 256 ∧ w.cell? ⟨bx, off + i, none⟩ = some (.int .u8 c)

theorem Bytes.below {w w' : World} {B : Nat} {a : Option Addr} {len : Nat} (h : Bytes w B a len) (hb : Below B w w') : Bytes w' B a len :=
  ⟨h.1, fun i hi => by
    obtain ⟨bx, off, c, h1, h2, h3, h4, h5⟩ := h.2 i hi
    exact ⟨bx, off, c, h1, h2, h3, h4, (hb.cell (p := ⟨bx, off + i, none⟩) h2).trans h5⟩⟩

theorem grownBy_setCell {w : World} {b o : Nat} {u : Value} : w.grownBy (w.setCell ⟨b, o, none⟩ u) (some b) := by
  have h := (Below.refl 0 w).setCell (p := ⟨b, o, none⟩) (Nat.zero_le _) u
  exact ⟨h.os, h.tape, h.output, h.size, fun k _ hne => Below.heap_setCell w ⟨b, o, none⟩ u k (by intro e; exact hne (by rw [e]))⟩

theorem grownBy_drew {w w' : World} {r : Option Nat} (h : w.grownBy w' r) : w.grownBy w'.drew r := ⟨h.os, h.tape, h.output, h.size, h.block⟩

theorem grownBy_trans {w w1 w2 : World} {r : Option Nat} (h : w.grownBy w1 r) (k : w1.grownBy w2 r) : w.grownBy w2 r :=
  ⟨k.os.trans h.os, k.tape.trans h.tape, k.output.trans h.output, Nat.le_trans h.size k.size, fun i hi hne => (k.block i (Nat.lt_of_lt_of_le hi h.size) hne).trans (h.block i hi hne)⟩

theorem Src.drew {w : World} {b : Nat} {a : Option Addr} {len cap : Nat} {p sd : Int} (h : Src w b a len cap p sd) : Src w.drew b a len cap p sd :=
  ⟨h.c0, h.c1, h.c2, h.f1, h.f2, h.p0, h.p1, h.s0, h.s1⟩

theorem Src.step1 {w : World} {b : Nat} {a : Option Addr} {len cap : Nat} {p sd : Int} (h : Src w b a len cap p sd) (hp : Few p) : Src (w.setCell ⟨b, 1, none⟩ (.int .i64 (p + 1))) b a len cap (p + 1) sd :=
  ⟨(World.cell?_setCell_other _ _ _ _ (by simp)).trans h.c0, World.cell?_setCell_same _ _ _ h.c1, (World.cell?_setCell_other _ _ _ _ (by simp)).trans h.c2,
    (World.frozen?_setCell _ _ _ _).trans h.f1, (World.frozen?_setCell _ _ _ _).trans h.f2, by have := h.p0; omega, by have := hp.lt; omega, h.s0, h.s1⟩

theorem Src.step2 {w : World} {b : Nat} {a : Option Addr} {len cap : Nat} {p sd sd' : Int} (h : Src w b a len cap p sd) (h0 : 0 ≤ sd') (h1 : sd' < 2147483648) : Src (w.setCell ⟨b, 2, none⟩ (.int .i64 sd')) b a len cap p sd' :=
  ⟨(World.cell?_setCell_other _ _ _ _ (by simp)).trans h.c0, (World.cell?_setCell_other _ _ _ _ (by simp)).trans h.c1, World.cell?_setCell_same _ _ _ h.c2,
    (World.frozen?_setCell _ _ _ _).trans h.f1, (World.frozen?_setCell _ _ _ _).trans h.f2, h.p0, h.p1, h0, h1⟩

set_option maxRecDepth 100000 in
set_option maxHeartbeats 1000000 in
theorem byte_read (b bx off len cap i : Nat) (sd c : Int) (w : World) (h : Src w b (some ⟨bx, off, none⟩) len cap i sd) (hi : i < len) (hl : len ≤ maxLen) (hp : Few i) (hbx : bx < b) (hc : w.cell? ⟨bx, off + i, none⟩ = some (.int .u8 c)) (hc0 : 0 ≤ c) (hc1 : c < 256) :
    Calls Tryz.prog 42 #[.pointer (some ⟨b, 0, none⟩)] w fun e w' => ∃ v sd' : Int, e = .returned (.int .i64 v) ∧ 0 ≤ v ∧ v < 256 ∧ Src w' b (some ⟨bx, off, none⟩) len cap (i + 1) sd' ∧ w.grownBy w' (some b) := by
  have h' : Hid (Src w b (some ⟨bx, off, none⟩) len cap i sd) := h
  obtain ⟨c0, c1, c2, f1, f2, p0, p1, s0, s1⟩ := h
  unfold maxLen at hl
  have hi' : (i : Int) < (len : Int) := by omega
  have hne : bx ≠ b := by omega
  go_enter Tryz.func42, Tryz.ntmps42
  go_wp2_with fail
  go_region
  go_wp2_with fail
  go_region
  go_wp2_with fail
  go_region
  go_wp2
  go_ret
  refine ⟨_, (sd * 31 + c + 7) % 2147483648, rfl, hc0, hc1, ?_, ?_⟩
  rotate_left
  · repeat (refine grownBy_drew ?_)
    exact grownBy_trans grownBy_setCell grownBy_setCell
  · repeat (refine Src.drew ?_)
    exact (h'.out.step1 hp).step2 (by omega) (by omega)

set_option maxRecDepth 100000 in
set_option maxHeartbeats 1000000 in
/-- A byte is drawn: it is a byte, and of what was there the source's own block alone has turned. -/
theorem byte_any (b len cap B : Nat) (a : Option Addr) (p sd : Int) (w : World) (h : Src w b a len cap p sd) (hp : Few p) (hB : Bytes w B a len) (hb : B ≤ b) :
    Calls Tryz.prog 42 #[.pointer (some ⟨b, 0, none⟩)] w fun e w' => ∃ v sd' : Int, e = .returned (.int .i64 v) ∧ 0 ≤ v ∧ v < 256 ∧ Src w' b a len cap (p + 1) sd' ∧ w.grownBy w' (some b) := by
  have h' := h
  obtain ⟨c0, c1, c2, f1, f2, p0, p1, s0, s1⟩ := h
  have hl := hB.1
  unfold maxLen at hl
  by_cases hi : p < len
  · obtain ⟨i, rfl⟩ := Int.eq_ofNat_of_zero_le p0
    obtain ⟨bx, off, c, rfl, hbx, hc0, hc1, hc⟩ := hB.2 i (by omega)
    exact byte_read b bx off len cap i sd c w h' (by omega) hB.1 hp (by omega) hc hc0 hc1
  · have hi' : (len : Int) ≤ p := by omega
    clear hB hi
    by_cases hq : 3000 < p + 1
    · go_enter Tryz.func42, Tryz.ntmps42
      go_wp2_with fail
      go_region
      go_wp2
      go_ret
      refine ⟨_, sd, rfl, by omega, by omega, ?_, ?_⟩
      · exact (h'.step1 hp).drew
      · exact grownBy_drew grownBy_setCell
    · go_enter Tryz.func42, Tryz.ntmps42
      go_wp2_with fail
      go_region
      go_wp2
      go_ret
      refine ⟨_, (sd * 1103515245 + 12345) % 2147483648, rfl, ?_, ?_, ?_, ?_⟩
      rotate_left 3
      · repeat (refine grownBy_drew ?_)
        exact grownBy_trans grownBy_setCell grownBy_setCell
      · omega
      · omega
      · repeat (refine Src.drew ?_)
        exact (h'.step1 hp).step2 (by omega) (by omega)

/-- The same, the byte as a byte. -/
theorem byte_draw (b len cap B : Nat) (a : Option Addr) (p sd : Int) (w : World) (h : Src w b a len cap p sd) (hp : Few p) (hB : Bytes w B a len) (hb : B ≤ b) :
    Calls Tryz.prog 42 #[.pointer (some ⟨b, 0, none⟩)] w fun e w' => ∃ (c : UInt8) (sd' : Int), e = .returned (.int .i64 (c.toNat : Int)) ∧ Src w' b a len cap (p + 1) sd' ∧ w.grownBy w' (some b) :=
  (byte_any b len cap B a p sd w h hp hB hb).mono fun e w' ⟨v, sd', he, h0, h1, hs, hg⟩ => by
    refine ⟨UInt8.ofNat v.toNat, sd', ?_, hs, hg⟩
    rw [he, UInt8.toNat_ofNat_of_lt' (by show v.toNat < 256; omega), Int.toNat_of_nonneg h0]
end Go.Proofs.YtiandbhcjecphaaGreatDoor

namespace Go.Proofs.YtiandbhcjecphaaGreatDoor
open Go.RowKit
set_option linter.unusedVariables false

theorem Bytes.grown {w w' : World} {B b : Nat} {a : Option Addr} {len : Nat} (h : Bytes w B a len) (hg : w.grownBy w' (some b)) (hB : B ≤ b) (hs : B ≤ w.heap.size) : Bytes w' B a len :=
  ⟨h.1, fun i hi => by
    obtain ⟨bx, off, c, h1, h2, h3, h4, h5⟩ := h.2 i hi
    exact ⟨bx, off, c, h1, h2, h3, h4, (World.cell?_of_block (hg.block bx (by omega) (by intro e; injection e; omega))).trans h5⟩⟩

theorem Src.grown {w w' : World} {b : Nat} {a : Option Addr} {len cap : Nat} {p sd : Int} {row : Option Nat} (h : Src w b a len cap p sd) (hg : w.grownBy w' row) (hb : b < w.heap.size) (hne : some b ≠ row) : Src w' b a len cap p sd :=
  ⟨(World.cell?_of_block (hg.block b hb hne)).trans h.c0, (World.cell?_of_block (hg.block b hb hne)).trans h.c1, (World.cell?_of_block (hg.block b hb hne)).trans h.c2,
    (World.frozen?_of_block (hg.block b hb hne)).trans h.f1, (World.frozen?_of_block (hg.block b hb hne)).trans h.f2, h.p0, h.p1, h.s0, h.s1⟩

theorem Src.alloc {w : World} {b : Nat} {a : Option Addr} {len cap : Nat} {p sd : Int} (h : Src w b a len cap p sd) (hb : b < w.heap.size) (o : Obj) : Src (w.alloc o) b a len cap p sd :=
  h.grown (World.grownBy_alloc w o none) hb (by simp)

theorem grownBy_own {w w1 w2 : World} {r row : Option Nat} (h : w.grownBy w1 r) (k : w1.grownBy w2 row) (hr : ∀ i, row = some i → w.heap.size ≤ i) : w.grownBy w2 r :=
  ⟨k.os.trans h.os, k.tape.trans h.tape, k.output.trans h.output, Nat.le_trans h.size k.size, fun i hi hne =>
    (k.block i (Nat.lt_of_lt_of_le hi h.size) (by intro e; have := hr i e.symm; omega)).trans (h.block i hi hne)⟩

theorem grownBy_alloc1 {w w1 : World} {r : Option Nat} (h : w.grownBy w1 r) (o : Obj) : w.grownBy (w1.alloc o) r :=
  grownBy_own h (World.grownBy_alloc w1 o none) (fun _ e => by cases e)

theorem wrap_i64_in (x : Int) (h : -9223372036854775808 ≤ x) (h' : x < 9223372036854775808) : IntKind.i64.wrap x = x := by
  rw [IntKind.wrap_i64]
  omega

theorem at_val (c d : Int) (i len n : Nat) (hc0 : 0 ≤ c) (hc1 : c < 256) (hd0 : 0 ≤ d) (hd1 : d < 256) (hi : i ≤ 1000) (hn : 2 ≤ n) :
    ∃ v : Nat, v < n ∧ (IntKind.i64.wrap (IntKind.i64.wrap (IntKind.i64.wrap (IntKind.i64.wrap c * 31) + IntKind.i64.wrap d) + IntKind.i64.wrap ((i : Int) / (len : Int)))).tmod (n : Int) = (v : Int) := by
  have hq : (i : Int) / (len : Int) = ((i / len : Nat) : Int) := by simp
  have hq1 := Nat.div_le_self i len
  rw [hq]
  generalize i / len = q at *
  rw [wrap_i64_in c (by omega) (by omega), wrap_i64_in (c * 31) (by omega) (by omega), wrap_i64_in d (by omega) (by omega), wrap_i64_in (c * 31 + d) (by omega) (by omega), wrap_i64_in (q : Int) (by omega) (by omega), wrap_i64_in (c * 31 + d + q) (by omega) (by omega)]
  rw [Int.tmod_eq_emod_of_nonneg (by omega)]
  have h0 := Int.emod_nonneg (c * 31 + d + (q : Int)) (show (n : Int) ≠ 0 by omega)
  have h1 := Int.emod_lt_of_pos (c * 31 + d + (q : Int)) (show (0 : Int) < (n : Int) by omega)
  generalize (c * 31 + d + (q : Int)) % (n : Int) = r at *
  exact ⟨r.toNat, by omega, by omega⟩

theorem source_any (len cap : Nat) (a : Option Addr) (w : World) (hl : len ≤ maxLen) :
    Calls Tryz.prog 17 #[.slice a len cap] w fun e w' => ∃ sd : Int, e = .returned (.pointer (some ⟨w.heap.size, 0, none⟩)) ∧ Src w' w.heap.size a len cap (0 : Nat) sd ∧ Below w.heap.size w w' ∧ w.heap.size < w'.heap.size := by
  unfold maxLen at hl
  go_enter Tryz.func17, Tryz.ntmps17
  go_wp2
  go_ret
  exact ⟨(len : Int) % 1000, rfl, ⟨by simp, by simp, by simp, by simp, by simp, by simp, by omega, by omega, by omega⟩, (Below.refl _ _).alloc (Nat.le_refl _) _, by simp⟩

end Go.Proofs.YtiandbhcjecphaaGreatDoor
