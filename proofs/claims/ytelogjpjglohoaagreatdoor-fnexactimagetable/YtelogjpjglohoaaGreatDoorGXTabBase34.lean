/- Decode of the program: contracts. Bits of a word, read by the model: the contract. An instruction taken out of a word by the model: plain words and its parts. An instruction of form 1 taken out of a word by the model: the contract. An instruction of form 2 taken out of a word by the model: the contract. An instruction of form 3 taken out of a word by the model: the contract. An instruction of form 4 taken out of a word by the model: the contract. -/
import Derived.Test.YtelogjpjglohoaaGreatDoorGXTabBase29
import Derived.Test.YtelogjpjglohoaaGreatDoorGXTabBase30
import Derived.Test.YtelogjpjglohoaaGreatDoorGXTabBase31
import Derived.Test.YtelogjpjglohoaaGreatDoorGXTabBase32
import Derived.Test.YtelogjpjglohoaaGreatDoorGXTabBase33
import Derived.Test.YtelogjpjglohoaaGreatDoorGXTabBase21
import Derived.Test.YtelogjpjglohoaaGreatDoorGXTabBase27
import Derived.Test.YtelogjpjglohoaaGreatDoorGXTabBase22
import Derived.Test.YtelogjpjglohoaaGreatDoorGXTabBase24
import Derived.Test.YtelogjpjglohoaaGreatDoorGXTabBase19
namespace Go.Proofs.YtelogjpjglohoaaGreatDoor
open Go.RowKit
set_option linter.unusedVariables false

/-- What takeApart and the model's own answer of a word. -/
def itV (op f v : Int) : Value := .agg #[.int .i64 op, .int .i64 (tkRd f v), .int .i64 (tkR1 f v), .int .i64 (tkR2 f v), .int .i64 (takeF f v)]
def it0 : Value := .agg #[.int .i64 0, .int .i64 0, .int .i64 0, .int .i64 0, .int .i64 0]
/-- A word has what all instructions of an Op have. -/
def HitP (j v : Int) : Prop := hitI (shT j).1 (shT j).2.1 (shT j).2.2.1 (shT j).2.2.2 v

theorem takeC (op f v : Int) (v0 : 0 ≤ v) (v1 : v < 4294967296) (f0 : 1 ≤ f) (f1 : f ≤ 9) (w : World) :
    Calls Tryz.prog 132 #[.int .i64 op, .int .i64 f, .int .i64 v] w fun e w' => e = .returned (itV op f v) ∧ Below w.heap.size w w' := by
  unfold itV
  rcases (show f = 1 ∨ f = 2 ∨ f = 3 ∨ f = 4 ∨ f = 5 ∨ f = 6 ∨ f = 7 ∨ f = 8 ∨ f = 9 by omega) with rfl | rfl | rfl | rfl | rfl | rfl | rfl | rfl | rfl
  · rw [show tkRd 1 v = v / 128 % 32 from by simp [tkRd], show tkR1 1 v = 0 from by simp [tkR1], show tkR2 1 v = 0 from by simp [tkR2]]
    exact tapA op 1 v rule1 (takeF 1 v) v0 v1 (fun w => told1 w) (fun w => rule_1 w) (fun w => take1 v w) w
  · rw [show tkRd 2 v = v / 128 % 32 from by simp [tkRd], show tkR1 2 v = 0 from by simp [tkR1], show tkR2 2 v = 0 from by simp [tkR2]]
    exact tapA op 2 v rule2 (takeF 2 v) v0 v1 (fun w => told2 w) (fun w => rule_2 w) (fun w => take2 v w) w
  · rw [show tkRd 3 v = v / 128 % 32 from by simp [tkRd], show tkR1 3 v = v / 32768 % 32 from by simp [tkR1], show tkR2 3 v = 0 from by simp [tkR2]]
    exact tapB op 3 v rule3 (takeF 3 v) v0 v1 (fun w => told3 w) (fun w => rule_3 w) (fun w => take3 v w) w
  · rw [show tkRd 4 v = 0 from by simp [tkRd], show tkR1 4 v = v / 32768 % 32 from by simp [tkR1], show tkR2 4 v = v / 1048576 % 32 from by simp [tkR2]]
    exact tapC op 4 v rule4 (takeF 4 v) v0 v1 (fun w => told4 w) (fun w => rule_4 w) (fun w => take4 v w) w
  · rw [show tkRd 5 v = 0 from by simp [tkRd], show tkR1 5 v = v / 32768 % 32 from by simp [tkR1], show tkR2 5 v = v / 1048576 % 32 from by simp [tkR2]]
    exact tapD op 5 v rule5 (takeF 5 v) v0 v1 (fun w => told5 w) (fun w => rule_5 w) (fun w => take5 v w) w
  · rw [show tkRd 6 v = v / 128 % 32 from by simp [tkRd], show tkR1 6 v = v / 32768 % 32 from by simp [tkR1], show tkR2 6 v = 0 from by simp [tkR2]]
    exact tapB op 6 v rule6 (takeF 6 v) v0 v1 (fun w => told6 w) (fun w => rule_6 w) (fun w => take6 v w) w
  · rw [show tkRd 7 v = v / 128 % 32 from by simp [tkRd], show tkR1 7 v = v / 32768 % 32 from by simp [tkR1], show tkR2 7 v = 0 from by simp [tkR2]]
    exact tapB op 7 v rule7 (takeF 7 v) v0 v1 (fun w => told7 w) (fun w => rule_7 w) (fun w => take7 v w) w
  · rw [show tkRd 8 v = v / 128 % 32 from by simp [tkRd], show tkR1 8 v = v / 32768 % 32 from by simp [tkR1], show tkR2 8 v = v / 1048576 % 32 from by simp [tkR2]]
    rw [show takeF 8 v = 0 from rfl]
    exact tapE op 8 v v0 v1 (fun w => told8 w) w
  · rw [show tkRd 9 v = 0 from by simp [tkRd], show tkR1 9 v = 0 from by simp [tkR1], show tkR2 9 v = 0 from by simp [tkR2]]
    rw [show takeF 9 v = 0 from rfl]
    exact tapF op 9 v v0 v1 (fun w => told9 w) w

theorem dec_test (j v : Int) (j0 : 1 ≤ j) (j1 : j ≤ 64) (v0 : 0 ≤ v) (v1 : v < 4294967296) (f c g h : Int) (hs : shT j = (f, c, g, h)) :
    (1 ≤ f ∧ f ≤ 9 ∧ 0 ≤ c ∧ c < 128 ∧ 0 ≤ g ∧ g < 8 ∧ 0 ≤ h ∧ h < 64) ∧ (bits .and .i64 v (fixB f) = fixW f c g h ↔ HitP j v) := by
  have hok : shOK f c g h = true := by
    have := shT_ok j j0 j1
    rw [hs] at this
    exact this
  refine ⟨sh_bounds hok, ?_⟩
  unfold HitP
  rw [hs]
  exact fix_hit f c g h v hok v0 v1

theorem word_yes (n : ByteArray) (v : Int) (w : World) (h0 : 0 ≤ v) (h1 : v ≤ 4294967295) :
    Calls Tryz.prog 128 #[.string n, .int .i64 v] w fun e w' => e = .returned .nilIface ∧ w' = w := by
  go_enter Tryz.func128, Tryz.ntmps128
  go_wp2_with fail
  refine (inside_ok _ v 0 4294967295 _ h0 h1).mono ?_
  rintro e w1 ⟨rfl, rfl⟩
  go_wp2
  go_ret
  exact ⟨rfl, rfl⟩
theorem word_no (n : ByteArray) (v : Int) (w : World) (a0 a1 : Addr) (hL : LaidAt w a0 a1) (h : v < 0 ∨ 4294967295 < v) :
    Calls Tryz.prog 128 #[.string n, .int .i64 v] w fun e w' => e = .returned (argErr n a0) ∧ w' = w := by
  go_enter Tryz.func128, Tryz.ntmps128
  go_wp2_with fail
  refine (inside_no _ v 0 4294967295 _ a0 a1 hL h).mono ?_
  rintro e w1 ⟨rfl, rfl⟩
  clear hL h
  go_wp2
  go_ret
  exact ⟨rfl, rfl⟩

set_option maxRecDepth 100000 in
set_option maxHeartbeats 8000000 in
theorem decX (v : Int) (v0 : 0 ≤ v) (v1 : v < 4294967296) (n : Nat) (n0 : 1 ≤ n) (n1 : n ≤ 64) (hno : Hid (∀ j : Nat, 1 ≤ j → j < n → ¬ HitP j v)) (hyes : Hid (HitP n v)) (F : Int) (hF : Hid ((shT n).1 = F)) (w : World) :
    Calls Tryz.prog 121 #[.int .i64 v] w fun e w' => e = .returned (.tuple #[itV n F v, .int .i64 0]) ∧ Below w.heap.size w w' := by
  have v2 : v ≤ 4294967295 := by omega
  go_enter Tryz.func121, Tryz.ntmps121
  go_wp2_with fail
  refine (word_yes _ v _ v0 v2).mono ?_
  rintro e w1 ⟨rfl, rfl⟩
  go_wp2
  go_loopw [5] (fun t wr => ∃ k : Nat, 1 ≤ k ∧ k ≤ n ∧ t = .int .i64 k ∧ Below w.heap.size w wr ∧ w.heap.size + 1 ≤ wr.heap.size ∧ Five wr w.heap.size 0 0 0 0 0) (fun t _ => n - (intOf t).toNat)
  case atStart => exact ⟨1, Nat.le_refl _, n0, rfl, (Below.refl _ _).alloc (Nat.le_refl _) _, by simp, by constructor <;> simp⟩
  case round =>
    obtain ⟨k, hk0, hkn, rfl, hbel, hsz, hR⟩ := hrel
    have hk64 : (k : Int) ≤ 64 := by omega
    by_cases hlt : k < n
    · have hnk := hno.out k hk0 hlt
      obtain ⟨⟨f, c, g, h⟩, hs⟩ : ∃ s, s = shT (k : Int) := ⟨_, rfl⟩
      obtain ⟨⟨f0, f1, k0, k1, g0, g1, h0, h1⟩, htest⟩ := dec_test k v (by omega) (by omega) v0 v1 f c g h hs.symm
      have HS : Hid (shT (k : Int) = (f, c, g, h)) := hs.symm
      have HF : Hid (∀ w, Calls Tryz.prog 131 #[.agg #[.int .i64 f, .int .i64 c, .int .i64 g, .int .i64 h]] w fun e w' => e = .returned (.int .i64 (fixW f c g h)) ∧ Below w.heap.size w w') := fun w => fixC f c g h w f0 f1 k0 k1 g0 g1 h0 h1
      have HB : Hid (∀ w, Calls Tryz.prog 130 #[.int .i64 f] w fun e w' => e = .returned (.int .i64 (fixB f)) ∧ w' = w) := fun w => fixBC f f0 f1 w
      clear hs k0 k1 g0 g1 h0 h1
      go_wp2_with fail
      refine (shapeCs k f c g h _ HS.out).mono ?_
      rintro e w3 ⟨rfl, hb3⟩
      have hz3 : w.heap.size + 1 ≤ w3.heap.size := Nat.le_trans hsz hb3.size
      have B3 : Below w.heap.size w w3 := hbel.trans (hb3.mono (by omega))
      have R3 := hR.below hb3 (by omega)
      have HS' := HS.out
      clear hb3 hbel hR hsz HS
      go_wp2_with fail
      generalize hW : w3.alloc (.cells #[.int .i64 f, .int .i64 c, .int .i64 g, .int .i64 h] 129) = W0
      have y0 : W0.cell? ⟨w3.heap.size, 0, none⟩ = some (.int .i64 f) := by rw [← hW]; simp
      have y1 : W0.cell? ⟨w3.heap.size, 1, none⟩ = some (.int .i64 c) := by rw [← hW]; simp
      have y2 : W0.cell? ⟨w3.heap.size, 2, none⟩ = some (.int .i64 g) := by rw [← hW]; simp
      have y3 : W0.cell? ⟨w3.heap.size, 3, none⟩ = some (.int .i64 h) := by rw [← hW]; simp
      have HBW : Below w.heap.size w W0 := by rw [← hW]; exact B3.alloc B3.size _
      have hzW : W0.heap.size = w3.heap.size + 1 := by rw [← hW]; simp
      have RW : Five W0 w.heap.size 0 0 0 0 0 := by rw [← hW]; exact R3.below ((Below.refl w3.heap.size w3).alloc (Nat.le_refl _) _) (by omega)
      clear hW B3 R3
      go_region_held3 (fun w' => w'.cell? ⟨w3.heap.size, 0, none⟩ = some (.int .i64 f) ∧ w'.cell? ⟨w3.heap.size, 1, none⟩ = some (.int .i64 c) ∧ w'.cell? ⟨w3.heap.size, 2, none⟩ = some (.int .i64 g) ∧ w'.cell? ⟨w3.heap.size, 3, none⟩ = some (.int .i64 h)) (go_keep) (first | (go_at_call 131; refine (HF.out _).mono ?_; rintro e w4 ⟨rfl, hb4⟩; have hz4 : W0.heap.size ≤ w4.heap.size := (by have := hb4.size; (try simp at this); omega); have q40 := (hb4.cell (p := ⟨w3.heap.size, 0, none⟩) (by first | omega | (simp; omega))).trans (by first | assumption | (simp; assumption)); have q41 := (hb4.cell (p := ⟨w3.heap.size, 1, none⟩) (by first | omega | (simp; omega))).trans (by first | assumption | (simp; assumption)); have q42 := (hb4.cell (p := ⟨w3.heap.size, 2, none⟩) (by first | omega | (simp; omega))).trans (by first | assumption | (simp; assumption)); have q43 := (hb4.cell (p := ⟨w3.heap.size, 3, none⟩) (by first | omega | (simp; omega))).trans (by first | assumption | (simp; assumption))) | (go_at_call 130; refine (HB.out _).mono ?_; rintro e w5 ⟨rfl, rfl⟩))
      clear HS'
      have hne : (bits .and .i64 v (fixB f) == fixW f c g h) = false := beq_eq_false_iff_ne.2 (fun e => hnk (htest.1 e))
      have B4 : Below w.heap.size w w4 := by
        refine Below.trans ?_ (hb4.mono (by first | omega | (simp; omega)))
        repeat (first | with_reducible exact HBW | refine Below.drew ?_)
      have R4 : Five w4 w.heap.size 0 0 0 0 0 := Five.below (by first | with_reducible exact RW | (refine Five.drew ?_; with_reducible exact RW)) hb4 (by first | omega | (simp; omega))
      have z4 : w.heap.size + 1 ≤ w4.heap.size := by omega
      clear hb4 HBW RW hzW hz4
      clear q40 q41 q42 q43 y0 y1 y2 y3 hnk htest HF HB hno hyes hF
      go_wp2
      go_roundw
      case rel => exact ⟨k + 1, by omega, by omega, by go_num, B4, by omega, R4⟩
      case measure => simp [intOf]; omega
    · obtain rfl : k = n := by omega
      have hnk := hyes.out
      obtain ⟨⟨f, c, g, h⟩, hs⟩ : ∃ s, s = shT (k : Int) := ⟨_, rfl⟩
      obtain ⟨⟨f0, f1, k0, k1, g0, g1, h0, h1⟩, htest⟩ := dec_test k v (by omega) (by omega) v0 v1 f c g h hs.symm
      have HS : Hid (shT (k : Int) = (f, c, g, h)) := hs.symm
      have HF : Hid (∀ w, Calls Tryz.prog 131 #[.agg #[.int .i64 f, .int .i64 c, .int .i64 g, .int .i64 h]] w fun e w' => e = .returned (.int .i64 (fixW f c g h)) ∧ Below w.heap.size w w') := fun w => fixC f c g h w f0 f1 k0 k1 g0 g1 h0 h1
      have HB : Hid (∀ w, Calls Tryz.prog 130 #[.int .i64 f] w fun e w' => e = .returned (.int .i64 (fixB f)) ∧ w' = w) := fun w => fixBC f f0 f1 w
      clear hs k0 k1 g0 g1 h0 h1
      go_wp2_with fail
      refine (shapeCs k f c g h _ HS.out).mono ?_
      rintro e w3 ⟨rfl, hb3⟩
      have hz3 : w.heap.size + 1 ≤ w3.heap.size := Nat.le_trans hsz hb3.size
      have B3 : Below w.heap.size w w3 := hbel.trans (hb3.mono (by omega))
      have R3 := hR.below hb3 (by omega)
      have HS' := HS.out
      clear hb3 hbel hR hsz HS
      go_wp2_with fail
      generalize hW : w3.alloc (.cells #[.int .i64 f, .int .i64 c, .int .i64 g, .int .i64 h] 129) = W0
      have y0 : W0.cell? ⟨w3.heap.size, 0, none⟩ = some (.int .i64 f) := by rw [← hW]; simp
      have y1 : W0.cell? ⟨w3.heap.size, 1, none⟩ = some (.int .i64 c) := by rw [← hW]; simp
      have y2 : W0.cell? ⟨w3.heap.size, 2, none⟩ = some (.int .i64 g) := by rw [← hW]; simp
      have y3 : W0.cell? ⟨w3.heap.size, 3, none⟩ = some (.int .i64 h) := by rw [← hW]; simp
      have HBW : Below w.heap.size w W0 := by rw [← hW]; exact B3.alloc B3.size _
      have hzW : W0.heap.size = w3.heap.size + 1 := by rw [← hW]; simp
      have RW : Five W0 w.heap.size 0 0 0 0 0 := by rw [← hW]; exact R3.below ((Below.refl w3.heap.size w3).alloc (Nat.le_refl _) _) (by omega)
      clear hW B3 R3
      go_region_held3 (fun w' => w'.cell? ⟨w3.heap.size, 0, none⟩ = some (.int .i64 f) ∧ w'.cell? ⟨w3.heap.size, 1, none⟩ = some (.int .i64 c) ∧ w'.cell? ⟨w3.heap.size, 2, none⟩ = some (.int .i64 g) ∧ w'.cell? ⟨w3.heap.size, 3, none⟩ = some (.int .i64 h)) (go_keep) (first | (go_at_call 131; refine (HF.out _).mono ?_; rintro e w4 ⟨rfl, hb4⟩; have hz4 : W0.heap.size ≤ w4.heap.size := (by have := hb4.size; (try simp at this); omega); have q40 := (hb4.cell (p := ⟨w3.heap.size, 0, none⟩) (by first | omega | (simp; omega))).trans (by first | assumption | (simp; assumption)); have q41 := (hb4.cell (p := ⟨w3.heap.size, 1, none⟩) (by first | omega | (simp; omega))).trans (by first | assumption | (simp; assumption)); have q42 := (hb4.cell (p := ⟨w3.heap.size, 2, none⟩) (by first | omega | (simp; omega))).trans (by first | assumption | (simp; assumption)); have q43 := (hb4.cell (p := ⟨w3.heap.size, 3, none⟩) (by first | omega | (simp; omega))).trans (by first | assumption | (simp; assumption))) | (go_at_call 130; refine (HB.out _).mono ?_; rintro e w5 ⟨rfl, rfl⟩))
      have heq : (bits .and .i64 v (fixB f) == fixW f c g h) = true := beq_iff_eq.2 (htest.2 hnk)
      have B4 : Below w.heap.size w w4 := by
        refine Below.trans ?_ (hb4.mono (by first | omega | (simp; omega)))
        repeat (first | with_reducible exact HBW | refine Below.drew ?_)
      have R4 : Five w4 w.heap.size 0 0 0 0 0 := Five.below (by first | with_reducible exact RW | (refine Five.drew ?_; with_reducible exact RW)) hb4 (by first | omega | (simp; omega))
      have z4 : w.heap.size + 1 ≤ w4.heap.size := by omega
      clear hb4 HBW RW hzW hz4
      obtain rfl : f = F := by have := hF.out; rw [HS'] at this; exact this
      clear hF HS'
      clear y0 y1 y2 y3 q41 q42 q43 hnk htest HF HB hno hyes
      go_wp2_with fail
      refine (takeC k f v v0 v1 f0 f1 _).mono ?_
      rintro e w6 ⟨rfl, hb6⟩
      obtain ⟨d0, d1, d2, d3, d4, g0, g1, g2, g3, g4⟩ := R4.below hb6 (by omega)
      have B6 : Below w.heap.size w w6 := B4.trans (hb6.mono (by omega))
      clear R4 B4 hb6 q40
      unfold itV
      go_wp2
      refine bodyPost_ret (v := .tuple #[.agg #[.int .i64 (k : Int), .int .i64 (tkRd f v), .int .i64 (tkR1 f v), .int .i64 (tkR2 f v), .int .i64 (takeF f v)], .int .i64 0]) (by simp [results, Tryz.results121, go_sem, d0, d1, d2, d3, d4]) rfl ⟨rfl, ?_⟩
      repeat (first | with_reducible exact B6 | refine Below.setCell ?_ (by first | omega | (simp; done) | (simp; omega)) _)

set_option maxRecDepth 100000 in
set_option maxHeartbeats 8000000 in
theorem decNone (v : Int) (v0 : 0 ≤ v) (v1 : v < 4294967296) (hno : Hid (∀ j : Nat, 1 ≤ j → j ≤ 64 → ¬ HitP j v)) (w : World) :
    Calls Tryz.prog 121 #[.int .i64 v] w fun e w' => e = .returned (.tuple #[it0, .int .i64 10]) ∧ Below w.heap.size w w' := by
  have v2 : v ≤ 4294967295 := by omega
  go_enter Tryz.func121, Tryz.ntmps121
  go_wp2_with fail
  refine (word_yes _ v _ v0 v2).mono ?_
  rintro e w1 ⟨rfl, rfl⟩
  go_wp2
  go_loopw [5] (fun t wr => ∃ k : Nat, 1 ≤ k ∧ k ≤ 65 ∧ t = .int .i64 k ∧ Below w.heap.size w wr ∧ w.heap.size + 1 ≤ wr.heap.size ∧ Five wr w.heap.size 0 0 0 0 0) (fun t _ => 65 - (intOf t).toNat)
  case atStart => exact ⟨1, Nat.le_refl _, by omega, rfl, (Below.refl _ _).alloc (Nat.le_refl _) _, by simp, by constructor <;> simp⟩
  case round =>
    obtain ⟨k, hk0, hkn, rfl, hbel, hsz, hR⟩ := hrel
    by_cases hlt : k ≤ 64
    · have hk64 : (k : Int) ≤ 64 := by omega
      have hnk := hno.out k hk0 hlt
      obtain ⟨⟨f, c, g, h⟩, hs⟩ : ∃ s, s = shT (k : Int) := ⟨_, rfl⟩
      obtain ⟨⟨f0, f1, k0, k1, g0, g1, h0, h1⟩, htest⟩ := dec_test k v (by omega) (by omega) v0 v1 f c g h hs.symm
      have HS : Hid (shT (k : Int) = (f, c, g, h)) := hs.symm
      have HF : Hid (∀ w, Calls Tryz.prog 131 #[.agg #[.int .i64 f, .int .i64 c, .int .i64 g, .int .i64 h]] w fun e w' => e = .returned (.int .i64 (fixW f c g h)) ∧ Below w.heap.size w w') := fun w => fixC f c g h w f0 f1 k0 k1 g0 g1 h0 h1
      have HB : Hid (∀ w, Calls Tryz.prog 130 #[.int .i64 f] w fun e w' => e = .returned (.int .i64 (fixB f)) ∧ w' = w) := fun w => fixBC f f0 f1 w
      clear hs k0 k1 g0 g1 h0 h1
      go_wp2_with fail
      refine (shapeCs k f c g h _ HS.out).mono ?_
      rintro e w3 ⟨rfl, hb3⟩
      have hz3 : w.heap.size + 1 ≤ w3.heap.size := Nat.le_trans hsz hb3.size
      have B3 : Below w.heap.size w w3 := hbel.trans (hb3.mono (by omega))
      have R3 := hR.below hb3 (by omega)
      have HS' := HS.out
      clear hb3 hbel hR hsz HS
      go_wp2_with fail
      generalize hW : w3.alloc (.cells #[.int .i64 f, .int .i64 c, .int .i64 g, .int .i64 h] 129) = W0
      have y0 : W0.cell? ⟨w3.heap.size, 0, none⟩ = some (.int .i64 f) := by rw [← hW]; simp
      have y1 : W0.cell? ⟨w3.heap.size, 1, none⟩ = some (.int .i64 c) := by rw [← hW]; simp
      have y2 : W0.cell? ⟨w3.heap.size, 2, none⟩ = some (.int .i64 g) := by rw [← hW]; simp
      have y3 : W0.cell? ⟨w3.heap.size, 3, none⟩ = some (.int .i64 h) := by rw [← hW]; simp
      have HBW : Below w.heap.size w W0 := by rw [← hW]; exact B3.alloc B3.size _
      have hzW : W0.heap.size = w3.heap.size + 1 := by rw [← hW]; simp
      have RW : Five W0 w.heap.size 0 0 0 0 0 := by rw [← hW]; exact R3.below ((Below.refl w3.heap.size w3).alloc (Nat.le_refl _) _) (by omega)
      clear hW B3 R3
      go_region_held3 (fun w' => w'.cell? ⟨w3.heap.size, 0, none⟩ = some (.int .i64 f) ∧ w'.cell? ⟨w3.heap.size, 1, none⟩ = some (.int .i64 c) ∧ w'.cell? ⟨w3.heap.size, 2, none⟩ = some (.int .i64 g) ∧ w'.cell? ⟨w3.heap.size, 3, none⟩ = some (.int .i64 h)) (go_keep) (first | (go_at_call 131; refine (HF.out _).mono ?_; rintro e w4 ⟨rfl, hb4⟩; have hz4 : W0.heap.size ≤ w4.heap.size := (by have := hb4.size; (try simp at this); omega); have q40 := (hb4.cell (p := ⟨w3.heap.size, 0, none⟩) (by first | omega | (simp; omega))).trans (by first | assumption | (simp; assumption)); have q41 := (hb4.cell (p := ⟨w3.heap.size, 1, none⟩) (by first | omega | (simp; omega))).trans (by first | assumption | (simp; assumption)); have q42 := (hb4.cell (p := ⟨w3.heap.size, 2, none⟩) (by first | omega | (simp; omega))).trans (by first | assumption | (simp; assumption)); have q43 := (hb4.cell (p := ⟨w3.heap.size, 3, none⟩) (by first | omega | (simp; omega))).trans (by first | assumption | (simp; assumption))) | (go_at_call 130; refine (HB.out _).mono ?_; rintro e w5 ⟨rfl, rfl⟩))
      clear HS'
      have hne : (bits .and .i64 v (fixB f) == fixW f c g h) = false := beq_eq_false_iff_ne.2 (fun e => hnk (htest.1 e))
      have B4 : Below w.heap.size w w4 := by
        refine Below.trans ?_ (hb4.mono (by first | omega | (simp; omega)))
        repeat (first | with_reducible exact HBW | refine Below.drew ?_)
      have R4 : Five w4 w.heap.size 0 0 0 0 0 := Five.below (by first | with_reducible exact RW | (refine Five.drew ?_; with_reducible exact RW)) hb4 (by first | omega | (simp; omega))
      have z4 : w.heap.size + 1 ≤ w4.heap.size := by omega
      clear hb4 HBW RW hzW hz4
      clear q40 q41 q42 q43 y0 y1 y2 y3 hnk htest HF HB hno
      go_wp2
      go_roundw
      case rel => exact ⟨k + 1, by omega, by omega, by go_num, B4, by omega, R4⟩
      case measure => simp [intOf]; omega
    · obtain rfl : k = 65 := by omega
      obtain ⟨d0, d1, d2, d3, d4, g0, g1, g2, g3, g4⟩ := hR
      clear hno
      go_wp2
      refine bodyPost_ret (v := .tuple #[.agg #[.int .i64 0, .int .i64 0, .int .i64 0, .int .i64 0, .int .i64 0], .int .i64 10]) (by simp [results, Tryz.results121, go_sem, d0, d1, d2, d3, d4]) rfl ⟨rfl, ?_⟩
      repeat (first | with_reducible exact hbel | refine Below.setCell ?_ (by first | omega | (simp; done) | (simp; omega)) _)

theorem decBad (v : Int) (h : v < 0 ∨ 4294967295 < v) (w : World) (hl : Laid w) :
    Calls Tryz.prog 121 #[.int .i64 v] w fun e w' => e = .returned (.tuple #[it0, .int .i64 4]) ∧ Below w.heap.size w w' := by
  have hl1 : Laid (w.alloc (.cells #[.int .i64 0, .int .i64 0, .int .i64 0, .int .i64 0, .int .i64 0] 93)) := laid_below hl ((Below.refl _ _).alloc (Nat.le_refl _) _)
  obtain ⟨a0, a1, hL⟩ := hl1
  go_enter Tryz.func121, Tryz.ntmps121
  go_wp2_with fail
  refine (word_no _ v _ a0 a1 hL h).mono ?_
  rintro e w1 ⟨rfl, rfl⟩
  clear hl h
  go_wp2_with fail
  refine (code_range _ _ a0 a1 hL).mono ?_
  rintro e w2 ⟨rfl, hb⟩
  clear hL
  obtain ⟨d0, d1, d2, d3, d4, g0, g1, g2, g3, g4⟩ : Five w2 w.heap.size 0 0 0 0 0 := Five.below (B := w.heap.size + 1) (by constructor <;> simp) (hb.mono (by simp)) (by omega)
  have B2 : Below w.heap.size w w2 := ((Below.refl _ _).alloc (Nat.le_refl _) _).trans (hb.mono (by simp))
  clear hb
  go_wp2
  refine bodyPost_ret (v := .tuple #[.agg #[.int .i64 0, .int .i64 0, .int .i64 0, .int .i64 0, .int .i64 0], .int .i64 4]) (by simp [results, Tryz.results121, go_sem, d0, d1, d2, d3, d4]) rfl ⟨rfl, ?_⟩
  repeat (first | with_reducible exact B2 | refine Below.setCell ?_ (by first | omega | (simp; done) | (simp; omega)) _)
end Go.Proofs.YtelogjpjglohoaaGreatDoor

namespace Go.Proofs.YtelogjpjglohoaaGreatDoor
open Go.RowKit
set_option linter.unusedVariables false

theorem bit_div (v : Int) (l k : Nat) : bitT (v / 2 ^ l) k = bitT v (l + k) := by
  unfold bitT
  rw [dd _ _ (Int.le_of_lt (pow_pos l)), ← Int.pow_add]

theorem fieStep (word : Int) (low count k : Nat) (h : k < count) :
    word / 2 ^ low % 2 ^ count / 2 ^ k = 2 * (word / 2 ^ low % 2 ^ count / 2 ^ (k + 1)) + bitT word (low + k) := by
  rw [int_half _ k, bit_mod _ count k h, bit_div]

set_option maxRecDepth 100000 in
set_option maxHeartbeats 4000000 in
theorem fieC (word : Int) (low count : Nat) (w : World) (hc : count ≤ 32) (hl : low + count ≤ 64) :
    Calls Tryz.prog 115 #[.int .i64 word, .int .i64 low, .int .i64 count] w fun e w' => e = .returned (.int .i64 (word / 2 ^ low % 2 ^ count)) ∧ w' = w := by
  have h0 : 0 ≤ word / 2 ^ low % 2 ^ count := Int.emod_nonneg _ (Int.ne_of_gt (pow_pos count))
  have h1 : word / 2 ^ low % 2 ^ count < 2 ^ count := Int.emod_lt_of_pos _ (pow_pos count)
  have h2 : word / 2 ^ low % 2 ^ count < 4294967296 := by
    have : (2 : Int) ^ count ≤ 2 ^ 32 := pow_le hc
    omega
  have hst := fun k h => fieStep word low count k h
  obtain ⟨R, hR⟩ : ∃ R, R = word / 2 ^ low % 2 ^ count := ⟨_, rfl⟩
  rw [← hR] at h0 h1 h2 hst
  rw [← hR]
  have HST : Hid (∀ k, k < count → R / 2 ^ k = 2 * (R / 2 ^ (k + 1)) + bitT word (low + k)) := hst
  have HB : Hid (0 ≤ R ∧ R < 4294967296) := ⟨h0, h2⟩
  have HT : Hid (R / 2 ^ count = 0) := Int.ediv_eq_zero_of_lt h0 h1
  clear hst h0 h1 h2 hR
  go_enter Tryz.func115, Tryz.ntmps115
  go_wp2
  go_loop [7, 8] (fun x t => ∃ k : Nat, ∃ o : Int, k ≤ count ∧ t = .int .i64 ((k : Int) - 1) ∧ x = .int .i64 o ∧ Hid (o = R / 2 ^ k)) (fun _ t => (intOf t + 1).toNat)
  case atStart => exact ⟨count, 0, Nat.le_refl _, rfl, rfl, HT.out.symm⟩
  case round =>
    obtain ⟨k, o, hk, rfl, rfl, ho⟩ := hrel
    by_cases hlt : 1 ≤ k
    · obtain ⟨j, rfl⟩ : ∃ j, k = j + 1 := ⟨k - 1, by omega⟩
      have ho0 : 0 ≤ o := by rw [ho.out]; exact Int.ediv_nonneg HB.out.1 (Int.le_of_lt (pow_pos _))
      have ho1 : o < 4294967296 := by
        rw [ho.out]
        have := Int.ediv_le_self (2 ^ (j + 1)) HB.out.1
        have := HB.out.2
        omega
      have HJ : Hid (R / 2 ^ j = 2 * o + bitT word (low + j)) := by
        have := HST.out j (by omega)
        rw [← ho.out] at this
        exact this
      have ej : ((j + 1 : Nat) : Int) - 1 = (j : Int) := by omega
      clear ho HST HB HT
      go_wp2_with fail
      refine (bit_any word (low + j) _ (by omega)).mono ?_
      rintro e w2 ⟨rfl, rfl⟩
      have hbd := bitT_bd word (low + j)
      generalize bitT word (low + j) = b at *
      have hb0 : 0 ≤ b := by omega
      have hb1 : b ≤ 1 := by omega
      clear hbd
      go_wp2
      go_round
      case rel => exact ⟨j, 2 * o + b, by omega, by go_num, by go_num, HJ.out.symm⟩
      case measure => simp [intOf]
    · obtain rfl : k = 0 := by omega
      have ho' : o = R := by rw [ho.out]; simp
      clear ho HST HB HT
      go_wp2
      go_ret
      exact ⟨rfl, rfl⟩
end Go.Proofs.YtelogjpjglohoaaGreatDoor

namespace Go.Proofs.YtelogjpjglohoaaGreatDoor
open Go.RowKit
set_option linter.unusedVariables false

theorem sgn_up (x : Int) (c k : Nat) (hc : 1 ≤ c) : sgn (x * 2 ^ k) (c + k) = sgn x c * 2 ^ k := by
  unfold sgn
  obtain ⟨d, rfl⟩ : ∃ d, c = d + 1 := ⟨c - 1, by omega⟩
  rw [show d + 1 + k - 1 = d + k from by omega, show d + 1 - 1 = d from by omega, Int.pow_add 2 d k, Int.pow_add 2 (d + 1) k, ← Int.add_mul, emod_up, ← Int.sub_mul]
theorem take_1 (v : Int) : takeF 1 v = sgn (v / 4096 % 1048576) 20 * 4096 := by
  have h := sgn_up (v / 4096 % 1048576) 20 12 (by decide)
  have e : (2 : Int) ^ 12 = 4096 := rfl
  rw [e] at h
  exact h
theorem take_2 (v : Int) : takeF 2 v = sgn (v / 2097152 % 1024 * 2 + v / 1048576 % 2 * 2048 + v / 4096 % 256 * 4096 + v / 2147483648 % 2 * 1048576) 21 := by
  show sgn _ 21 = sgn _ 21
  congr 1
  omega
theorem take_4 (v : Int) : takeF 4 v = sgn (v / 256 % 16 * 2 + v / 33554432 % 64 * 32 + v / 128 % 2 * 2048 + v / 2147483648 % 2 * 4096) 13 := by
  show sgn _ 13 = sgn _ 13
  congr 1
  omega
/-- What the model reads of a word, as a number known by name. -/
def FieIs (v : Int) (l c A : Int) : Prop := ∀ w, Calls Tryz.prog 115 #[.int .i64 v, .int .i64 l, .int .i64 c] w fun e w' => e = .returned (.int .i64 A) ∧ w' = w
def BitIs (v : Int) (l A : Int) : Prop := ∀ w, Calls Tryz.prog 92 #[.int .i64 v, .int .i64 l] w fun e w' => e = .returned (.int .i64 A) ∧ w' = w
def SgnIs (v : Int) (c A : Int) : Prop := ∀ w, Calls Tryz.prog 116 #[.int .i64 v, .int .i64 c] w fun e w' => e = .returned (.int .i64 A) ∧ w' = w
theorem fie7_5 (v : Int) : FieIs v 7 5 (v / 128 % 32) := fun w => by
  have h := fieC v 7 5 w (by decide) (by decide)
  rw [show (2 : Int) ^ 7 = 128 from rfl, show (2 : Int) ^ 5 = 32 from rfl] at h
  exact h
theorem fie15_5 (v : Int) : FieIs v 15 5 (v / 32768 % 32) := fun w => by
  have h := fieC v 15 5 w (by decide) (by decide)
  rw [show (2 : Int) ^ 15 = 32768 from rfl, show (2 : Int) ^ 5 = 32 from rfl] at h
  exact h
theorem fie20_5 (v : Int) : FieIs v 20 5 (v / 1048576 % 32) := fun w => by
  have h := fieC v 20 5 w (by decide) (by decide)
  rw [show (2 : Int) ^ 20 = 1048576 from rfl, show (2 : Int) ^ 5 = 32 from rfl] at h
  exact h
theorem fie12_20 (v : Int) : FieIs v 12 20 (v / 4096 % 1048576) := fun w => by
  have h := fieC v 12 20 w (by decide) (by decide)
  rw [show (2 : Int) ^ 12 = 4096 from rfl, show (2 : Int) ^ 20 = 1048576 from rfl] at h
  exact h
theorem fie21_10 (v : Int) : FieIs v 21 10 (v / 2097152 % 1024) := fun w => by
  have h := fieC v 21 10 w (by decide) (by decide)
  rw [show (2 : Int) ^ 21 = 2097152 from rfl, show (2 : Int) ^ 10 = 1024 from rfl] at h
  exact h
theorem fie12_8 (v : Int) : FieIs v 12 8 (v / 4096 % 256) := fun w => by
  have h := fieC v 12 8 w (by decide) (by decide)
  rw [show (2 : Int) ^ 12 = 4096 from rfl, show (2 : Int) ^ 8 = 256 from rfl] at h
  exact h
theorem fie20_12 (v : Int) : FieIs v 20 12 (v / 1048576 % 4096) := fun w => by
  have h := fieC v 20 12 w (by decide) (by decide)
  rw [show (2 : Int) ^ 20 = 1048576 from rfl, show (2 : Int) ^ 12 = 4096 from rfl] at h
  exact h
theorem fie8_4 (v : Int) : FieIs v 8 4 (v / 256 % 16) := fun w => by
  have h := fieC v 8 4 w (by decide) (by decide)
  rw [show (2 : Int) ^ 8 = 256 from rfl, show (2 : Int) ^ 4 = 16 from rfl] at h
  exact h
theorem fie25_6 (v : Int) : FieIs v 25 6 (v / 33554432 % 64) := fun w => by
  have h := fieC v 25 6 w (by decide) (by decide)
  rw [show (2 : Int) ^ 25 = 33554432 from rfl, show (2 : Int) ^ 6 = 64 from rfl] at h
  exact h
theorem fie25_7 (v : Int) : FieIs v 25 7 (v / 33554432 % 128) := fun w => by
  have h := fieC v 25 7 w (by decide) (by decide)
  rw [show (2 : Int) ^ 25 = 33554432 from rfl, show (2 : Int) ^ 7 = 128 from rfl] at h
  exact h
theorem fie20_6 (v : Int) : FieIs v 20 6 (v / 1048576 % 64) := fun w => by
  have h := fieC v 20 6 w (by decide) (by decide)
  rw [show (2 : Int) ^ 20 = 1048576 from rfl, show (2 : Int) ^ 6 = 64 from rfl] at h
  exact h
theorem bit7 (v : Int) : BitIs v 7 (v / 128 % 2) := fun w => by
  have h := bit_any v 7 w (by decide)
  rw [show bitT v 7 = v / 128 % 2 from rfl] at h
  exact h
theorem bit20 (v : Int) : BitIs v 20 (v / 1048576 % 2) := fun w => by
  have h := bit_any v 20 w (by decide)
  rw [show bitT v 20 = v / 1048576 % 2 from rfl] at h
  exact h
theorem bit31 (v : Int) : BitIs v 31 (v / 2147483648 % 2) := fun w => by
  have h := bit_any v 31 w (by decide)
  rw [show bitT v 31 = v / 2147483648 % 2 from rfl] at h
  exact h
theorem sig12 (v : Int) : SgnIs v 12 (sgn v 12) := fun w => specSign0 v 12 w (by decide) (by decide)
theorem sig13 (v : Int) : SgnIs v 13 (sgn v 13) := fun w => specSign0 v 13 w (by decide) (by decide)
theorem sig20 (v : Int) : SgnIs v 20 (sgn v 20) := fun w => specSign0 v 20 w (by decide) (by decide)
theorem sig21 (v : Int) : SgnIs v 21 (sgn v 21) := fun w => specSign0 v 21 w (by decide) (by decide)
theorem shF (op f c g h : Int) (hs : shT op = (f, c, g, h)) : ∀ w, (Instr.field 129 (shV (shT op)) 0).run Tryz.prog w = .ok (.int .i64 f) w := fun w => by
  rw [hs]
  unfold shV
  kernel_rfl
end Go.Proofs.YtelogjpjglohoaaGreatDoor

namespace Go.Proofs.YtelogjpjglohoaaGreatDoor
open Go.RowKit
set_option linter.unusedVariables false

set_option maxRecDepth 100000 in
set_option maxHeartbeats 8000000 in
theorem tks1 (op v c g h : Int) (v0 : 0 ≤ v) (v1 : v < 4294967296) (hs : shT op = (1, c, g, h)) (w : World) :
    Calls Tryz.prog 107 #[.int .i64 op, .int .i64 v] w fun e w' => e = .returned (.agg #[.int .i64 op, .int .i64 (tkRd 1 v), .int .i64 (tkR1 1 v), .int .i64 (tkR2 1 v), .int .i64 (takeF 1 v)]) ∧ Below w.heap.size w w' := by
  have hsf := shF op 1 c g h hs
  have H1 : Hid (FieIs v 7 5 (v / 128 % 32)) := fie7_5 v
  have H2 : Hid (FieIs v 15 5 (v / 32768 % 32)) := fie15_5 v
  have H3 : Hid (FieIs v 20 5 (v / 1048576 % 32)) := fie20_5 v
  have N0 : Hid (FieIs v 12 20 (v / 4096 % 1048576)) := fie12_20 v
  have eD : tkRd 1 v = v / 128 % 32 := by simp [tkRd]
  have eA : tkR1 1 v = 0 := by simp [tkR1]
  have eB : tkR2 1 v = 0 := by simp [tkR2]
  have eT : takeF 1 v = sgn (v / 4096 % 1048576) 20 * 4096 := take_1 v
  rw [eD, eA, eB, eT]
  clear eD eA eB eT hs
  have bD : 0 ≤ v / 128 % 32 ∧ v / 128 % 32 < 32 := by omega
  generalize v / 128 % 32 = D at *
  obtain ⟨bD0, bD1⟩ := bD
  have bA : 0 ≤ v / 32768 % 32 ∧ v / 32768 % 32 < 32 := by omega
  generalize v / 32768 % 32 = A at *
  obtain ⟨bA0, bA1⟩ := bA
  have bB : 0 ≤ v / 1048576 % 32 ∧ v / 1048576 % 32 < 32 := by omega
  generalize v / 1048576 % 32 = B at *
  obtain ⟨bB0, bB1⟩ := bB
  have bP : 0 ≤ v / 4096 % 1048576 ∧ v / 4096 % 1048576 < 1048576 := by omega
  generalize v / 4096 % 1048576 = P at *
  obtain ⟨bP0, bP1⟩ := bP
  have HS : Hid (SgnIs (P) 20 (sgn (P) 20)) := sig20 _
  have bZ := sgn_bd (P) 20 (by decide)
  rw [show (2 : Int) ^ (20 - 1) = 524288 from rfl] at bZ
  generalize sgn (P) 20 = Z at *
  obtain ⟨bZ0, bZ1⟩ := bZ
  go_enter Tryz.func107, Tryz.ntmps107
  go_wp2_with fail
  refine (H1.out _).mono ?_
  rintro e w1 ⟨rfl, rfl⟩
  go_wp2_with fail
  refine (H2.out _).mono ?_
  rintro e w2 ⟨rfl, rfl⟩
  go_wp2_with fail
  refine (H3.out _).mono ?_
  rintro e w3 ⟨rfl, rfl⟩
  go_wp2_with fail
  refine (specShC op _).mono ?_
  rintro e w4 ⟨rfl, hb⟩
  have hz : w.heap.size + 2 ≤ w4.heap.size := by have := hb.size; simp at this; omega
  have X4 : Five w4 (w.heap.size + 1) op 0 0 0 0 := Five.below (B := w.heap.size + 2) (by constructor <;> simp) (hb.mono (by simp)) (by omega)
  have R4 : Five w4 w.heap.size 0 0 0 0 0 := Five.below (B := w.heap.size + 2) (by constructor <;> simp) (hb.mono (by simp)) (by omega)
  have B4 : Below w.heap.size w w4 := by
    refine Below.trans ?_ (hb.mono (by first | omega | (simp; done) | (simp; omega)))
    repeat (first | exact Below.refl _ _ | refine Below.setCell ?_ (by first | omega | (simp; done) | (simp; omega)) _ | refine Below.alloc ?_ (by first | omega | (simp; done) | (simp; omega)) _)
  clear hb H1 H2 H3
  obtain ⟨c0, c1, c2, c3, c4, f0, f1, f2, f3, f4⟩ := X4
  obtain ⟨d0, d1, d2, d3, d4, g0, g1, g2, g3, g4⟩ := R4
  go_wp2_with fail
  refine (N0.out _).mono ?_
  rintro e w5 ⟨rfl, rfl⟩
  clear N0
  go_wp2_with fail
  refine (HS.out _).mono ?_
  rintro e w5 ⟨rfl, rfl⟩
  clear HS
  go_wp2
  refine bodyPost_ret (v := .agg #[.int .i64 op, .int .i64 D, .int .i64 0, .int .i64 0, .int .i64 (Z * 4096)]) (by simp [results, Tryz.results107, go_sem, d0, d1, d2, d3, d4]) rfl ⟨rfl, ?_⟩
  repeat (first | with_reducible exact B4 | refine Below.setCell ?_ (by first | omega | (simp; done) | (simp; omega)) _ | refine bdN ?_ _ | refine Below.drew ?_)
end Go.Proofs.YtelogjpjglohoaaGreatDoor

namespace Go.Proofs.YtelogjpjglohoaaGreatDoor
open Go.RowKit
set_option linter.unusedVariables false

set_option maxRecDepth 100000 in
set_option maxHeartbeats 8000000 in
theorem tks2 (op v c g h : Int) (v0 : 0 ≤ v) (v1 : v < 4294967296) (hs : shT op = (2, c, g, h)) (w : World) :
    Calls Tryz.prog 107 #[.int .i64 op, .int .i64 v] w fun e w' => e = .returned (.agg #[.int .i64 op, .int .i64 (tkRd 2 v), .int .i64 (tkR1 2 v), .int .i64 (tkR2 2 v), .int .i64 (takeF 2 v)]) ∧ Below w.heap.size w w' := by
  have hsf := shF op 2 c g h hs
  have H1 : Hid (FieIs v 7 5 (v / 128 % 32)) := fie7_5 v
  have H2 : Hid (FieIs v 15 5 (v / 32768 % 32)) := fie15_5 v
  have H3 : Hid (FieIs v 20 5 (v / 1048576 % 32)) := fie20_5 v
  have N0 : Hid (FieIs v 21 10 (v / 2097152 % 1024)) := fie21_10 v
  have N1 : Hid (BitIs v 20 (v / 1048576 % 2)) := bit20 v
  have N2 : Hid (FieIs v 12 8 (v / 4096 % 256)) := fie12_8 v
  have N3 : Hid (BitIs v 31 (v / 2147483648 % 2)) := bit31 v
  have eD : tkRd 2 v = v / 128 % 32 := by simp [tkRd]
  have eA : tkR1 2 v = 0 := by simp [tkR1]
  have eB : tkR2 2 v = 0 := by simp [tkR2]
  have eT : takeF 2 v = sgn (v / 2097152 % 1024 * 2 + v / 1048576 % 2 * 2048 + v / 4096 % 256 * 4096 + v / 2147483648 % 2 * 1048576) 21 := take_2 v
  rw [eD, eA, eB, eT]
  clear eD eA eB eT hs
  have bD : 0 ≤ v / 128 % 32 ∧ v / 128 % 32 < 32 := by omega
  generalize v / 128 % 32 = D at *
  obtain ⟨bD0, bD1⟩ := bD
  have bA : 0 ≤ v / 32768 % 32 ∧ v / 32768 % 32 < 32 := by omega
  generalize v / 32768 % 32 = A at *
  obtain ⟨bA0, bA1⟩ := bA
  have bB : 0 ≤ v / 1048576 % 32 ∧ v / 1048576 % 32 < 32 := by omega
  generalize v / 1048576 % 32 = B at *
  obtain ⟨bB0, bB1⟩ := bB
  have bP : 0 ≤ v / 2097152 % 1024 ∧ v / 2097152 % 1024 < 1024 := by omega
  generalize v / 2097152 % 1024 = P at *
  obtain ⟨bP0, bP1⟩ := bP
  have bQ : 0 ≤ v / 1048576 % 2 ∧ v / 1048576 % 2 < 2 := by omega
  generalize v / 1048576 % 2 = Q at *
  obtain ⟨bQ0, bQ1⟩ := bQ
  have bS : 0 ≤ v / 4096 % 256 ∧ v / 4096 % 256 < 256 := by omega
  generalize v / 4096 % 256 = S at *
  obtain ⟨bS0, bS1⟩ := bS
  have bU : 0 ≤ v / 2147483648 % 2 ∧ v / 2147483648 % 2 < 2 := by omega
  generalize v / 2147483648 % 2 = U at *
  obtain ⟨bU0, bU1⟩ := bU
  have HS : Hid (SgnIs (P * 2 + Q * 2048 + S * 4096 + U * 1048576) 21 (sgn (P * 2 + Q * 2048 + S * 4096 + U * 1048576) 21)) := sig21 _
  have bZ := sgn_bd (P * 2 + Q * 2048 + S * 4096 + U * 1048576) 21 (by decide)
  rw [show (2 : Int) ^ (21 - 1) = 1048576 from rfl] at bZ
  generalize sgn (P * 2 + Q * 2048 + S * 4096 + U * 1048576) 21 = Z at *
  obtain ⟨bZ0, bZ1⟩ := bZ
  go_enter Tryz.func107, Tryz.ntmps107
  go_wp2_with fail
  refine (H1.out _).mono ?_
  rintro e w1 ⟨rfl, rfl⟩
  go_wp2_with fail
  refine (H2.out _).mono ?_
  rintro e w2 ⟨rfl, rfl⟩
  go_wp2_with fail
  refine (H3.out _).mono ?_
  rintro e w3 ⟨rfl, rfl⟩
  go_wp2_with fail
  refine (specShC op _).mono ?_
  rintro e w4 ⟨rfl, hb⟩
  have hz : w.heap.size + 2 ≤ w4.heap.size := by have := hb.size; simp at this; omega
  have X4 : Five w4 (w.heap.size + 1) op 0 0 0 0 := Five.below (B := w.heap.size + 2) (by constructor <;> simp) (hb.mono (by simp)) (by omega)
  have R4 : Five w4 w.heap.size 0 0 0 0 0 := Five.below (B := w.heap.size + 2) (by constructor <;> simp) (hb.mono (by simp)) (by omega)
  have B4 : Below w.heap.size w w4 := by
    refine Below.trans ?_ (hb.mono (by first | omega | (simp; done) | (simp; omega)))
    repeat (first | exact Below.refl _ _ | refine Below.setCell ?_ (by first | omega | (simp; done) | (simp; omega)) _ | refine Below.alloc ?_ (by first | omega | (simp; done) | (simp; omega)) _)
  clear hb H1 H2 H3
  obtain ⟨c0, c1, c2, c3, c4, f0, f1, f2, f3, f4⟩ := X4
  obtain ⟨d0, d1, d2, d3, d4, g0, g1, g2, g3, g4⟩ := R4
  go_wp2_with fail
  refine (N0.out _).mono ?_
  rintro e w5 ⟨rfl, rfl⟩
  clear N0
  go_wp2_with fail
  refine (N1.out _).mono ?_
  rintro e w5 ⟨rfl, rfl⟩
  clear N1
  go_wp2_with fail
  refine (N2.out _).mono ?_
  rintro e w5 ⟨rfl, rfl⟩
  clear N2
  go_wp2_with fail
  refine (N3.out _).mono ?_
  rintro e w5 ⟨rfl, rfl⟩
  clear N3
  go_wp2_with fail
  refine (HS.out _).mono ?_
  rintro e w5 ⟨rfl, rfl⟩
  clear HS
  go_wp2
  refine bodyPost_ret (v := .agg #[.int .i64 op, .int .i64 D, .int .i64 0, .int .i64 0, .int .i64 Z]) (by simp [results, Tryz.results107, go_sem, d0, d1, d2, d3, d4]) rfl ⟨rfl, ?_⟩
  repeat (first | with_reducible exact B4 | refine Below.setCell ?_ (by first | omega | (simp; done) | (simp; omega)) _ | refine bdN ?_ _ | refine Below.drew ?_)
end Go.Proofs.YtelogjpjglohoaaGreatDoor

namespace Go.Proofs.YtelogjpjglohoaaGreatDoor
open Go.RowKit
set_option linter.unusedVariables false

set_option maxRecDepth 100000 in
set_option maxHeartbeats 8000000 in
theorem tks3 (op v c g h : Int) (v0 : 0 ≤ v) (v1 : v < 4294967296) (hs : shT op = (3, c, g, h)) (w : World) :
    Calls Tryz.prog 107 #[.int .i64 op, .int .i64 v] w fun e w' => e = .returned (.agg #[.int .i64 op, .int .i64 (tkRd 3 v), .int .i64 (tkR1 3 v), .int .i64 (tkR2 3 v), .int .i64 (takeF 3 v)]) ∧ Below w.heap.size w w' := by
  have hsf := shF op 3 c g h hs
  have H1 : Hid (FieIs v 7 5 (v / 128 % 32)) := fie7_5 v
  have H2 : Hid (FieIs v 15 5 (v / 32768 % 32)) := fie15_5 v
  have H3 : Hid (FieIs v 20 5 (v / 1048576 % 32)) := fie20_5 v
  have N0 : Hid (FieIs v 20 12 (v / 1048576 % 4096)) := fie20_12 v
  have eD : tkRd 3 v = v / 128 % 32 := by simp [tkRd]
  have eA : tkR1 3 v = v / 32768 % 32 := by simp [tkR1]
  have eB : tkR2 3 v = 0 := by simp [tkR2]
  have eT : takeF 3 v = sgn (v / 1048576 % 4096) 12 := rfl
  rw [eD, eA, eB, eT]
  clear eD eA eB eT hs
  have bD : 0 ≤ v / 128 % 32 ∧ v / 128 % 32 < 32 := by omega
  generalize v / 128 % 32 = D at *
  obtain ⟨bD0, bD1⟩ := bD
  have bA : 0 ≤ v / 32768 % 32 ∧ v / 32768 % 32 < 32 := by omega
  generalize v / 32768 % 32 = A at *
  obtain ⟨bA0, bA1⟩ := bA
  have bB : 0 ≤ v / 1048576 % 32 ∧ v / 1048576 % 32 < 32 := by omega
  generalize v / 1048576 % 32 = B at *
  obtain ⟨bB0, bB1⟩ := bB
  have bP : 0 ≤ v / 1048576 % 4096 ∧ v / 1048576 % 4096 < 4096 := by omega
  generalize v / 1048576 % 4096 = P at *
  obtain ⟨bP0, bP1⟩ := bP
  have HS : Hid (SgnIs (P) 12 (sgn (P) 12)) := sig12 _
  have bZ := sgn_bd (P) 12 (by decide)
  rw [show (2 : Int) ^ (12 - 1) = 2048 from rfl] at bZ
  generalize sgn (P) 12 = Z at *
  obtain ⟨bZ0, bZ1⟩ := bZ
  go_enter Tryz.func107, Tryz.ntmps107
  go_wp2_with fail
  refine (H1.out _).mono ?_
  rintro e w1 ⟨rfl, rfl⟩
  go_wp2_with fail
  refine (H2.out _).mono ?_
  rintro e w2 ⟨rfl, rfl⟩
  go_wp2_with fail
  refine (H3.out _).mono ?_
  rintro e w3 ⟨rfl, rfl⟩
  go_wp2_with fail
  refine (specShC op _).mono ?_
  rintro e w4 ⟨rfl, hb⟩
  have hz : w.heap.size + 2 ≤ w4.heap.size := by have := hb.size; simp at this; omega
  have X4 : Five w4 (w.heap.size + 1) op 0 0 0 0 := Five.below (B := w.heap.size + 2) (by constructor <;> simp) (hb.mono (by simp)) (by omega)
  have R4 : Five w4 w.heap.size 0 0 0 0 0 := Five.below (B := w.heap.size + 2) (by constructor <;> simp) (hb.mono (by simp)) (by omega)
  have B4 : Below w.heap.size w w4 := by
    refine Below.trans ?_ (hb.mono (by first | omega | (simp; done) | (simp; omega)))
    repeat (first | exact Below.refl _ _ | refine Below.setCell ?_ (by first | omega | (simp; done) | (simp; omega)) _ | refine Below.alloc ?_ (by first | omega | (simp; done) | (simp; omega)) _)
  clear hb H1 H2 H3
  obtain ⟨c0, c1, c2, c3, c4, f0, f1, f2, f3, f4⟩ := X4
  obtain ⟨d0, d1, d2, d3, d4, g0, g1, g2, g3, g4⟩ := R4
  go_wp2_with fail
  refine (N0.out _).mono ?_
  rintro e w5 ⟨rfl, rfl⟩
  clear N0
  go_wp2_with fail
  refine (HS.out _).mono ?_
  rintro e w5 ⟨rfl, rfl⟩
  clear HS
  go_wp2
  refine bodyPost_ret (v := .agg #[.int .i64 op, .int .i64 D, .int .i64 A, .int .i64 0, .int .i64 Z]) (by simp [results, Tryz.results107, go_sem, d0, d1, d2, d3, d4]) rfl ⟨rfl, ?_⟩
  repeat (first | with_reducible exact B4 | refine Below.setCell ?_ (by first | omega | (simp; done) | (simp; omega)) _ | refine bdN ?_ _ | refine Below.drew ?_)
end Go.Proofs.YtelogjpjglohoaaGreatDoor

namespace Go.Proofs.YtelogjpjglohoaaGreatDoor
open Go.RowKit
set_option linter.unusedVariables false

set_option maxRecDepth 100000 in
set_option maxHeartbeats 8000000 in
theorem tks4 (op v c g h : Int) (v0 : 0 ≤ v) (v1 : v < 4294967296) (hs : shT op = (4, c, g, h)) (w : World) :
    Calls Tryz.prog 107 #[.int .i64 op, .int .i64 v] w fun e w' => e = .returned (.agg #[.int .i64 op, .int .i64 (tkRd 4 v), .int .i64 (tkR1 4 v), .int .i64 (tkR2 4 v), .int .i64 (takeF 4 v)]) ∧ Below w.heap.size w w' := by
  have hsf := shF op 4 c g h hs
  have H1 : Hid (FieIs v 7 5 (v / 128 % 32)) := fie7_5 v
  have H2 : Hid (FieIs v 15 5 (v / 32768 % 32)) := fie15_5 v
  have H3 : Hid (FieIs v 20 5 (v / 1048576 % 32)) := fie20_5 v
  have N0 : Hid (FieIs v 8 4 (v / 256 % 16)) := fie8_4 v
  have N1 : Hid (FieIs v 25 6 (v / 33554432 % 64)) := fie25_6 v
  have N2 : Hid (BitIs v 7 (v / 128 % 2)) := bit7 v
  have N3 : Hid (BitIs v 31 (v / 2147483648 % 2)) := bit31 v
  have eD : tkRd 4 v = 0 := by simp [tkRd]
  have eA : tkR1 4 v = v / 32768 % 32 := by simp [tkR1]
  have eB : tkR2 4 v = v / 1048576 % 32 := by simp [tkR2]
  have eT : takeF 4 v = sgn (v / 256 % 16 * 2 + v / 33554432 % 64 * 32 + v / 128 % 2 * 2048 + v / 2147483648 % 2 * 4096) 13 := take_4 v
  rw [eD, eA, eB, eT]
  clear eD eA eB eT hs
  have bD : 0 ≤ v / 128 % 32 ∧ v / 128 % 32 < 32 := by omega
  generalize v / 128 % 32 = D at *
  obtain ⟨bD0, bD1⟩ := bD
  have bA : 0 ≤ v / 32768 % 32 ∧ v / 32768 % 32 < 32 := by omega
  generalize v / 32768 % 32 = A at *
  obtain ⟨bA0, bA1⟩ := bA
  have bB : 0 ≤ v / 1048576 % 32 ∧ v / 1048576 % 32 < 32 := by omega
  generalize v / 1048576 % 32 = B at *
  obtain ⟨bB0, bB1⟩ := bB
  have bP : 0 ≤ v / 256 % 16 ∧ v / 256 % 16 < 16 := by omega
  generalize v / 256 % 16 = P at *
  obtain ⟨bP0, bP1⟩ := bP
  have bQ : 0 ≤ v / 33554432 % 64 ∧ v / 33554432 % 64 < 64 := by omega
  generalize v / 33554432 % 64 = Q at *
  obtain ⟨bQ0, bQ1⟩ := bQ
  have bS : 0 ≤ v / 128 % 2 ∧ v / 128 % 2 < 2 := by omega
  generalize v / 128 % 2 = S at *
  obtain ⟨bS0, bS1⟩ := bS
  have bU : 0 ≤ v / 2147483648 % 2 ∧ v / 2147483648 % 2 < 2 := by omega
  generalize v / 2147483648 % 2 = U at *
  obtain ⟨bU0, bU1⟩ := bU
  have HS : Hid (SgnIs (P * 2 + Q * 32 + S * 2048 + U * 4096) 13 (sgn (P * 2 + Q * 32 + S * 2048 + U * 4096) 13)) := sig13 _
  have bZ := sgn_bd (P * 2 + Q * 32 + S * 2048 + U * 4096) 13 (by decide)
  rw [show (2 : Int) ^ (13 - 1) = 4096 from rfl] at bZ
  generalize sgn (P * 2 + Q * 32 + S * 2048 + U * 4096) 13 = Z at *
  obtain ⟨bZ0, bZ1⟩ := bZ
  go_enter Tryz.func107, Tryz.ntmps107
  go_wp2_with fail
  refine (H1.out _).mono ?_
  rintro e w1 ⟨rfl, rfl⟩
  go_wp2_with fail
  refine (H2.out _).mono ?_
  rintro e w2 ⟨rfl, rfl⟩
  go_wp2_with fail
  refine (H3.out _).mono ?_
  rintro e w3 ⟨rfl, rfl⟩
  go_wp2_with fail
  refine (specShC op _).mono ?_
  rintro e w4 ⟨rfl, hb⟩
  have hz : w.heap.size + 2 ≤ w4.heap.size := by have := hb.size; simp at this; omega
  have X4 : Five w4 (w.heap.size + 1) op 0 0 0 0 := Five.below (B := w.heap.size + 2) (by constructor <;> simp) (hb.mono (by simp)) (by omega)
  have R4 : Five w4 w.heap.size 0 0 0 0 0 := Five.below (B := w.heap.size + 2) (by constructor <;> simp) (hb.mono (by simp)) (by omega)
  have B4 : Below w.heap.size w w4 := by
    refine Below.trans ?_ (hb.mono (by first | omega | (simp; done) | (simp; omega)))
    repeat (first | exact Below.refl _ _ | refine Below.setCell ?_ (by first | omega | (simp; done) | (simp; omega)) _ | refine Below.alloc ?_ (by first | omega | (simp; done) | (simp; omega)) _)
  clear hb H1 H2 H3
  obtain ⟨c0, c1, c2, c3, c4, f0, f1, f2, f3, f4⟩ := X4
  obtain ⟨d0, d1, d2, d3, d4, g0, g1, g2, g3, g4⟩ := R4
  go_wp2_with fail
  refine (N0.out _).mono ?_
  rintro e w5 ⟨rfl, rfl⟩
  clear N0
  go_wp2_with fail
  refine (N1.out _).mono ?_
  rintro e w5 ⟨rfl, rfl⟩
  clear N1
  go_wp2_with fail
  refine (N2.out _).mono ?_
  rintro e w5 ⟨rfl, rfl⟩
  clear N2
  go_wp2_with fail
  refine (N3.out _).mono ?_
  rintro e w5 ⟨rfl, rfl⟩
  clear N3
  go_wp2_with fail
  refine (HS.out _).mono ?_
  rintro e w5 ⟨rfl, rfl⟩
  clear HS
  go_wp2
  refine bodyPost_ret (v := .agg #[.int .i64 op, .int .i64 0, .int .i64 A, .int .i64 B, .int .i64 Z]) (by simp [results, Tryz.results107, go_sem, d0, d1, d2, d3, d4]) rfl ⟨rfl, ?_⟩
  repeat (first | with_reducible exact B4 | refine Below.setCell ?_ (by first | omega | (simp; done) | (simp; omega)) _ | refine bdN ?_ _ | refine Below.drew ?_)
end Go.Proofs.YtelogjpjglohoaaGreatDoor
