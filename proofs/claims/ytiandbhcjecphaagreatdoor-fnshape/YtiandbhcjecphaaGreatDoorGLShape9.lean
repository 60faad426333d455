/- The model's check of an instruction: words. The bits of a word that are alike in all instructions of one Op: contracts. Which word is an instruction of which shape: plain (2). The fixed bits of a word, by the program: the contract. -/
import Derived.Test.YtiandbhcjecphaaGreatDoorGLShape8
import Derived.Test.YtiandbhcjecphaaGreatDoorGLShape4
import Derived.Test.YtiandbhcjecphaaGreatDoorGLShape1
namespace Go.Proofs.YtiandbhcjecphaaGreatDoor
open Go.RowKit
set_option linter.unusedVariables false

/-- Is it an instruction? -/
def rightB (op rd r1 r2 im : Int) : Bool := decide (1 ≤ op ∧ op ≤ 64) && rightF (shT op).1 rd r1 r2 im
def inB (x lo hi : Int) : Bool := decide (lo ≤ x ∧ x ≤ hi)

theorem shT_form (op : Int) (h0 : 1 ≤ op) (h1 : op ≤ 64) : 1 ≤ (shT op).1 ∧ (shT op).1 ≤ 9 := by
  obtain ⟨k, rfl⟩ := Int.eq_ofNat_of_zero_le (show 0 ≤ op by omega)
  have hk : k < 65 := by omega
  have hk0 : 1 ≤ k := by omega
  have key : ∀ j : Nat, j < 65 → 1 ≤ j → 1 ≤ (shT (j : Int)).1 ∧ (shT (j : Int)).1 ≤ 9 := by decide +kernel
  exact key k hk hk0

theorem tm0 (a n : Int) : a.tmod n = 0 ↔ a % n = 0 := by
  rw [← Int.dvd_iff_tmod_eq_zero, ← Int.dvd_iff_emod_eq_zero]

theorem spReg (r : Int) (w : World) : Calls Tryz.prog 118 #[.int .i64 r] w fun e w' => e = .returned (.bool (regB r)) ∧ w' = w := by
  go_enter Tryz.func118, Tryz.ntmps118
  go_wp2_with fail
  refine (spIn _ _ _ _ (regB r) ?_).mono ?_
  · unfold regB
    by_cases h : 0 ≤ r ∧ r ≤ 31
    · exact .inl ⟨decide_eq_true h, h.1, h.2⟩
    · exact .inr ⟨decide_eq_false h, by omega⟩
  rintro e w1 ⟨rfl, rfl⟩
  go_wp2
  go_ret
  exact ⟨rfl, rfl⟩
theorem spInB (x lo hi : Int) (w : World) : Calls Tryz.prog 58 #[.int .i64 x, .int .i64 lo, .int .i64 hi] w fun e w' => e = .returned (.bool (inB x lo hi)) ∧ w' = w := by
  refine spIn _ _ _ _ (inB x lo hi) ?_
  unfold inB
  by_cases h : lo ≤ x ∧ x ≤ hi
  · exact .inl ⟨decide_eq_true h, h.1, h.2⟩
  · exact .inr ⟨decide_eq_false h, by omega⟩
theorem inB_t {x lo hi : Int} (h0 : lo ≤ x) (h1 : x ≤ hi) : inB x lo hi = true := decide_eq_true ⟨h0, h1⟩
theorem inB_f {x lo hi : Int} (h : ¬ (lo ≤ x ∧ x ≤ hi)) : inB x lo hi = false := decide_eq_false h
theorem okB_t {f v : Int} (h1 : 0 ≤ f) (h9 : f ≤ 9) (h : okI f v) : okB f v = true := (okB_iff f v h1 h9).2 h
theorem okB_f {f v : Int} (h1 : 0 ≤ f) (h9 : f ≤ 9) (h : ¬ okI f v) : okB f v = false := by
  cases e : okB f v with
  | false => rfl
  | true => exact absurd ((okB_iff f v h1 h9).1 e) h
theorem regB_bd {r : Int} (h : regB r = true) : 0 ≤ r ∧ r ≤ 31 := of_decide_eq_true h
theorem regB_z : regB 0 = true := rfl
theorem rightF_rd {f rd r1 r2 im : Int} (h : regB rd = false) : rightF f rd r1 r2 im = false := by
  have hz : (rd == 0) = false := by
    by_cases e : rd = 0
    · subst e; exact absurd h (by decide)
    · simpa using e
  unfold rightF
  split
  · simp [h]
  split
  · simp [h]
  split
  · simp [hz]
  split
  · simp [h]
  · simp [hz]
theorem rightF_r1 {f rd r1 r2 im : Int} (h : regB r1 = false) : rightF f rd r1 r2 im = false := by
  have hz : (r1 == 0) = false := by
    by_cases e : r1 = 0
    · subst e; exact absurd h (by decide)
    · simpa using e
  unfold rightF
  split
  · simp [hz]
  split
  · simp [h]
  split
  · simp [h]
  split
  · simp [h]
  · simp [hz]
theorem rightF_r2 {f rd r1 r2 im : Int} (h : regB r2 = false) : rightF f rd r1 r2 im = false := by
  have hz : (r2 == 0) = false := by
    by_cases e : r2 = 0
    · subst e; exact absurd h (by decide)
    · simpa using e
  unfold rightF
  split
  · simp [hz]
  split
  · simp [hz]
  split
  · simp [h]
  split
  · simp [h]
  · simp [hz]
theorem shField0 (a b c d : Int) (w : World) : (Instr.field 71 (.agg #[.int .i64 a, .int .i64 b, .int .i64 c, .int .i64 d]) 0).run Tryz.prog w = .ok (.int .i64 a) w := by
  kernel_rfl
theorem specShs (op f c g h : Int) (w : World) (hs : shT op = (f, c, g, h)) :
    Calls Tryz.prog 90 #[.int .i64 op] w fun e w' => e = .returned (.agg #[.int .i64 f, .int .i64 c, .int .i64 g, .int .i64 h]) ∧ Below w.heap.size w w' := by
  have := specShC op w
  rw [hs] at this
  exact this
end Go.Proofs.YtiandbhcjecphaaGreatDoor

namespace Go.Proofs.YtiandbhcjecphaaGreatDoor
open Go.RowKit
set_option linter.unusedVariables false

theorem low3 (w : World) : Calls Tryz.prog 71 #[.int .i64 3] w fun e w' => e = .returned (.int .i64 7) ∧ w' = w := by
  go_enter Tryz.func71, Tryz.ntmps71
  go_wp2
  go_ret
  exact ⟨rfl, rfl⟩
theorem low32 (w : World) : Calls Tryz.prog 71 #[.int .i64 32] w fun e w' => e = .returned (.int .i64 4294967295) ∧ w' = w := by
  go_enter Tryz.func71, Tryz.ntmps71
  go_wp2
  go_ret
  exact ⟨rfl, rfl⟩
/-- The fixed bits of a form. -/
def fixB (f : Int) : Int := if f = 1 then 127 else if f = 2 then 127 else if f = 3 then 28799 else if f = 4 then 28799 else if f = 5 then 28799 else if f = 6 then 4227887231 else if f = 7 then 4261441663 else if f = 8 then 4261441663 else 4294967295
set_option maxRecDepth 100000 in
theorem fixB1 (w : World) : Calls Tryz.prog 103 #[.int .i64 1] w fun e w' => e = .returned (.int .i64 127) ∧ w' = w := by
  go_enter Tryz.func103, Tryz.ntmps103
  go_wp2_with (go_at_call 71; first | (refine (low7 _).mono ?_; rintro e w1 ⟨rfl, rfl⟩) | (refine (low3 _).mono ?_; rintro e w1 ⟨rfl, rfl⟩) | (refine (low6 _).mono ?_; rintro e w1 ⟨rfl, rfl⟩) | (refine (low32 _).mono ?_; rintro e w1 ⟨rfl, rfl⟩))
  go_ret
  exact ⟨rfl, rfl⟩
set_option maxRecDepth 100000 in
theorem fixB2 (w : World) : Calls Tryz.prog 103 #[.int .i64 2] w fun e w' => e = .returned (.int .i64 127) ∧ w' = w := by
  go_enter Tryz.func103, Tryz.ntmps103
  go_wp2_with (go_at_call 71; first | (refine (low7 _).mono ?_; rintro e w1 ⟨rfl, rfl⟩) | (refine (low3 _).mono ?_; rintro e w1 ⟨rfl, rfl⟩) | (refine (low6 _).mono ?_; rintro e w1 ⟨rfl, rfl⟩) | (refine (low32 _).mono ?_; rintro e w1 ⟨rfl, rfl⟩))
  go_ret
  exact ⟨rfl, rfl⟩
set_option maxRecDepth 100000 in
theorem fixB3 (w : World) : Calls Tryz.prog 103 #[.int .i64 3] w fun e w' => e = .returned (.int .i64 28799) ∧ w' = w := by
  go_enter Tryz.func103, Tryz.ntmps103
  go_wp2_with (go_at_call 71; first | (refine (low7 _).mono ?_; rintro e w1 ⟨rfl, rfl⟩) | (refine (low3 _).mono ?_; rintro e w1 ⟨rfl, rfl⟩) | (refine (low6 _).mono ?_; rintro e w1 ⟨rfl, rfl⟩) | (refine (low32 _).mono ?_; rintro e w1 ⟨rfl, rfl⟩))
  go_ret
  exact ⟨rfl, rfl⟩
set_option maxRecDepth 100000 in
theorem fixB4 (w : World) : Calls Tryz.prog 103 #[.int .i64 4] w fun e w' => e = .returned (.int .i64 28799) ∧ w' = w := by
  go_enter Tryz.func103, Tryz.ntmps103
  go_wp2_with (go_at_call 71; first | (refine (low7 _).mono ?_; rintro e w1 ⟨rfl, rfl⟩) | (refine (low3 _).mono ?_; rintro e w1 ⟨rfl, rfl⟩) | (refine (low6 _).mono ?_; rintro e w1 ⟨rfl, rfl⟩) | (refine (low32 _).mono ?_; rintro e w1 ⟨rfl, rfl⟩))
  go_ret
  exact ⟨rfl, rfl⟩
set_option maxRecDepth 100000 in
theorem fixB5 (w : World) : Calls Tryz.prog 103 #[.int .i64 5] w fun e w' => e = .returned (.int .i64 28799) ∧ w' = w := by
  go_enter Tryz.func103, Tryz.ntmps103
  go_wp2_with (go_at_call 71; first | (refine (low7 _).mono ?_; rintro e w1 ⟨rfl, rfl⟩) | (refine (low3 _).mono ?_; rintro e w1 ⟨rfl, rfl⟩) | (refine (low6 _).mono ?_; rintro e w1 ⟨rfl, rfl⟩) | (refine (low32 _).mono ?_; rintro e w1 ⟨rfl, rfl⟩))
  go_ret
  exact ⟨rfl, rfl⟩
set_option maxRecDepth 100000 in
theorem fixB6 (w : World) : Calls Tryz.prog 103 #[.int .i64 6] w fun e w' => e = .returned (.int .i64 4227887231) ∧ w' = w := by
  go_enter Tryz.func103, Tryz.ntmps103
  go_wp2_with (go_at_call 71; first | (refine (low7 _).mono ?_; rintro e w1 ⟨rfl, rfl⟩) | (refine (low3 _).mono ?_; rintro e w1 ⟨rfl, rfl⟩) | (refine (low6 _).mono ?_; rintro e w1 ⟨rfl, rfl⟩) | (refine (low32 _).mono ?_; rintro e w1 ⟨rfl, rfl⟩))
  go_ret
  exact ⟨rfl, rfl⟩
set_option maxRecDepth 100000 in
theorem fixB7 (w : World) : Calls Tryz.prog 103 #[.int .i64 7] w fun e w' => e = .returned (.int .i64 4261441663) ∧ w' = w := by
  go_enter Tryz.func103, Tryz.ntmps103
  go_wp2_with (go_at_call 71; first | (refine (low7 _).mono ?_; rintro e w1 ⟨rfl, rfl⟩) | (refine (low3 _).mono ?_; rintro e w1 ⟨rfl, rfl⟩) | (refine (low6 _).mono ?_; rintro e w1 ⟨rfl, rfl⟩) | (refine (low32 _).mono ?_; rintro e w1 ⟨rfl, rfl⟩))
  go_ret
  exact ⟨rfl, rfl⟩
set_option maxRecDepth 100000 in
theorem fixB8 (w : World) : Calls Tryz.prog 103 #[.int .i64 8] w fun e w' => e = .returned (.int .i64 4261441663) ∧ w' = w := by
  go_enter Tryz.func103, Tryz.ntmps103
  go_wp2_with (go_at_call 71; first | (refine (low7 _).mono ?_; rintro e w1 ⟨rfl, rfl⟩) | (refine (low3 _).mono ?_; rintro e w1 ⟨rfl, rfl⟩) | (refine (low6 _).mono ?_; rintro e w1 ⟨rfl, rfl⟩) | (refine (low32 _).mono ?_; rintro e w1 ⟨rfl, rfl⟩))
  go_ret
  exact ⟨rfl, rfl⟩
set_option maxRecDepth 100000 in
theorem fixB9 (w : World) : Calls Tryz.prog 103 #[.int .i64 9] w fun e w' => e = .returned (.int .i64 4294967295) ∧ w' = w := by
  go_enter Tryz.func103, Tryz.ntmps103
  go_wp2_with (go_at_call 71; first | (refine (low7 _).mono ?_; rintro e w1 ⟨rfl, rfl⟩) | (refine (low3 _).mono ?_; rintro e w1 ⟨rfl, rfl⟩) | (refine (low6 _).mono ?_; rintro e w1 ⟨rfl, rfl⟩) | (refine (low32 _).mono ?_; rintro e w1 ⟨rfl, rfl⟩))
  go_ret
  exact ⟨rfl, rfl⟩
theorem fixBC (f : Int) (h0 : 1 ≤ f) (h1 : f ≤ 9) (w : World) : Calls Tryz.prog 103 #[.int .i64 f] w fun e w' => e = .returned (.int .i64 (fixB f)) ∧ w' = w := by
  rcases (show f = 1 ∨ f = 2 ∨ f = 3 ∨ f = 4 ∨ f = 5 ∨ f = 6 ∨ f = 7 ∨ f = 8 ∨ f = 9 by omega) with rfl | rfl | rfl | rfl | rfl | rfl | rfl | rfl | rfl
  · exact fixB1 w
  · exact fixB2 w
  · exact fixB3 w
  · exact fixB4 w
  · exact fixB5 w
  · exact fixB6 w
  · exact fixB7 w
  · exact fixB8 w
  · exact fixB9 w
end Go.Proofs.YtiandbhcjecphaaGreatDoor

namespace Go.Proofs.YtiandbhcjecphaaGreatDoor
set_option linter.unusedVariables false

/-- What a word's fields are, if it is of a form. -/
def tkRd (f w : Int) : Int := if f = 4 ∨ f = 5 ∨ f = 9 then 0 else w / 128 % 32
def tkR1 (f w : Int) : Int := if f = 1 ∨ f = 2 ∨ f = 9 then 0 else w / 32768 % 32
def tkR2 (f w : Int) : Int := if f = 4 ∨ f = 5 ∨ f = 8 then w / 1048576 % 32 else 0

theorem regB_mod (x : Int) : regB (x % 32) = true := by
  unfold regB
  exact decide_eq_true (by omega)

theorem right_taken (f w : Int) (h0 : 1 ≤ f) (h1 : f ≤ 9) : rightF f (tkRd f w) (tkR1 f w) (tkR2 f w) (takeF f w) = true := by
  have hk : okB f (takeF f w) = true := by
    apply okB_t (by omega) (by omega)
    rcases (show f = 1 ∨ f = 2 ∨ f = 3 ∨ f = 4 ∨ f = 5 ∨ f = 6 ∨ f = 7 ∨ f = 8 ∨ f = 9 by omega) with rfl | rfl | rfl | rfl | rfl | rfl | rfl | rfl | rfl
    · show -2147483648 ≤ sgn (w / 4096 % 1048576 * 4096) 32 ∧ sgn (w / 4096 % 1048576 * 4096) 32 ≤ 2147479552 ∧ sgn (w / 4096 % 1048576 * 4096) 32 % 4096 = 0
      rw [sgn_num _ 32 2147483648 4294967296 (by decide) (by decide)]
      omega
    · show -1048576 ≤ sgn (w / 4096 % 256 * 4096 + w / 1048576 % 2 * 2048 + w / 2097152 % 1024 * 2 + w / 2147483648 % 2 * 1048576) 21 ∧ sgn (w / 4096 % 256 * 4096 + w / 1048576 % 2 * 2048 + w / 2097152 % 1024 * 2 + w / 2147483648 % 2 * 1048576) 21 ≤ 1048574 ∧ sgn (w / 4096 % 256 * 4096 + w / 1048576 % 2 * 2048 + w / 2097152 % 1024 * 2 + w / 2147483648 % 2 * 1048576) 21 % 2 = 0
      rw [sgn_num _ 21 1048576 2097152 (by decide) (by decide)]
      generalize w / 4096 % 256 = x
      generalize w / 1048576 % 2 = y
      generalize w / 2097152 % 1024 = z
      generalize w / 2147483648 % 2 = u
      omega
    · show -2048 ≤ sgn (w / 1048576 % 4096) 12 ∧ sgn (w / 1048576 % 4096) 12 ≤ 2047
      rw [sgn_num _ 12 2048 4096 (by decide) (by decide)]
      omega
    · show -4096 ≤ sgn (w / 128 % 2 * 2048 + w / 256 % 16 * 2 + w / 33554432 % 64 * 32 + w / 2147483648 % 2 * 4096) 13 ∧ sgn (w / 128 % 2 * 2048 + w / 256 % 16 * 2 + w / 33554432 % 64 * 32 + w / 2147483648 % 2 * 4096) 13 ≤ 4094 ∧ sgn (w / 128 % 2 * 2048 + w / 256 % 16 * 2 + w / 33554432 % 64 * 32 + w / 2147483648 % 2 * 4096) 13 % 2 = 0
      rw [sgn_num _ 13 4096 8192 (by decide) (by decide)]
      generalize w / 128 % 2 = x
      generalize w / 256 % 16 = y
      generalize w / 33554432 % 64 = z
      generalize w / 2147483648 % 2 = u
      omega
    · show -2048 ≤ sgn (w / 128 % 32 + w / 33554432 % 128 * 32) 12 ∧ sgn (w / 128 % 32 + w / 33554432 % 128 * 32) 12 ≤ 2047
      rw [sgn_num _ 12 2048 4096 (by decide) (by decide)]
      omega
    · show 0 ≤ w / 1048576 % 64 ∧ w / 1048576 % 64 ≤ 63
      omega
    · show 0 ≤ w / 1048576 % 32 ∧ w / 1048576 % 32 ≤ 31
      omega
    · rfl
    · rfl
  rcases (show f = 1 ∨ f = 2 ∨ f = 3 ∨ f = 4 ∨ f = 5 ∨ f = 6 ∨ f = 7 ∨ f = 8 ∨ f = 9 by omega) with rfl | rfl | rfl | rfl | rfl | rfl | rfl | rfl | rfl
  · show (regB (w / 128 % 32) && (0 : Int) == 0 && (0 : Int) == 0 && okB 1 (takeF 1 w)) = true
    rw [regB_mod, hk]; rfl
  · show (regB (w / 128 % 32) && (0 : Int) == 0 && (0 : Int) == 0 && okB 2 (takeF 2 w)) = true
    rw [regB_mod, hk]; rfl
  · show (regB (w / 128 % 32) && regB (w / 32768 % 32) && (0 : Int) == 0 && okB 3 (takeF 3 w)) = true
    rw [regB_mod, regB_mod, hk]; rfl
  · show ((0 : Int) == 0 && regB (w / 32768 % 32) && regB (w / 1048576 % 32) && okB 4 (takeF 4 w)) = true
    rw [regB_mod, regB_mod, hk]; rfl
  · show ((0 : Int) == 0 && regB (w / 32768 % 32) && regB (w / 1048576 % 32) && okB 5 (takeF 5 w)) = true
    rw [regB_mod, regB_mod, hk]; rfl
  · show (regB (w / 128 % 32) && regB (w / 32768 % 32) && (0 : Int) == 0 && okB 6 (takeF 6 w)) = true
    rw [regB_mod, regB_mod, hk]; rfl
  · show (regB (w / 128 % 32) && regB (w / 32768 % 32) && (0 : Int) == 0 && okB 7 (takeF 7 w)) = true
    rw [regB_mod, regB_mod, hk]; rfl
  · show (regB (w / 128 % 32) && regB (w / 32768 % 32) && regB (w / 1048576 % 32) && (0 : Int) == 0) = true
    rw [regB_mod, regB_mod, regB_mod]; rfl
  · rfl
end Go.Proofs.YtiandbhcjecphaaGreatDoor

namespace Go.Proofs.YtiandbhcjecphaaGreatDoor
open Go.RowKit
set_option linter.unusedVariables false

theorem shT_ok (op : Int) (h0 : 1 ≤ op) (h1 : op ≤ 64) : shOK (shT op).1 (shT op).2.1 (shT op).2.2.1 (shT op).2.2.2 = true := by
  obtain ⟨k, rfl⟩ := Int.eq_ofNat_of_zero_le (show 0 ≤ op by omega)
  have hk : k < 65 := by omega
  have hk0 : 1 ≤ k := by omega
  have key : ∀ j : Nat, j < 65 → 1 ≤ j → shOK (shT (j : Int)).1 (shT (j : Int)).2.1 (shT (j : Int)).2.2.1 (shT (j : Int)).2.2.2 = true := by decide +kernel
  exact key k hk hk0

theorem sh_bounds {f c g h : Int} (hs : shOK f c g h = true) : 1 ≤ f ∧ f ≤ 9 ∧ 0 ≤ c ∧ c < 128 ∧ 0 ≤ g ∧ g < 8 ∧ 0 ≤ h ∧ h < 64 := by
  simp only [shOK, Bool.and_eq_true, Bool.or_eq_true, decide_eq_true_eq] at hs
  obtain ⟨⟨⟨⟨⟨⟨⟨⟨⟨⟨⟨⟨⟨f0, f1⟩, k0⟩, k1⟩, g0⟩, g1⟩, h0⟩, h1⟩, s1⟩, s2⟩, s3⟩, s4⟩, s5⟩, s9⟩ := hs
  exact ⟨f0, f1, k0, k1, g0, g1, h0, h1⟩

theorem cg_or (c g : Int) (k0 : 0 ≤ c) (k1 : c < 128) (g0 : 0 ≤ g) (g1 : g < 8) : bits .or .i64 c (g * 4096) = c + g * 4096 :=
  i64_or_gap 12 3 4096 32768 (by decide) (by decide) _ _ (by omega) (by omega) (by omega) (by omega) (by omega) (by omega) (by decide)

set_option maxHeartbeats 1000000 in
theorem fixC (f c g h : Int) (w : World) (f0 : 1 ≤ f) (f1 : f ≤ 9) (k0 : 0 ≤ c) (k1 : c < 128) (g0 : 0 ≤ g) (g1 : g < 8) (h0 : 0 ≤ h) (h1 : h < 64) :
    Calls Tryz.prog 45 #[.agg #[.int .i64 f, .int .i64 c, .int .i64 g, .int .i64 h]] w fun e w' => e = .returned (.int .i64 (fixW f c g h)) ∧ Below w.heap.size w w' := by
  have hcg := cg_or c g k0 k1 g0 g1
  by_cases e6 : f = 6
  · subst e6
    have e : Hid (bits .or .i64 (c + g * 4096) (h / 2 * 67108864) = fixW 6 c g h) :=
      i64_or_gap 26 6 67108864 4294967296 (by decide) (by decide) _ _ (by omega) (by omega) (by omega) (by omega) (by omega) (by omega) (by decide)
    go_enter Tryz.func45, Tryz.ntmps45
    go_wp2
    go_ret
    exact ⟨congrArg (fun x => Ending.returned (.int .i64 x)) e.out, (Below.refl _ _).alloc (Nat.le_refl _) _⟩
  by_cases e9 : f = 9
  · subst e9
    have e : Hid (bits .or .i64 (c + g * 4096) (h * 1048576) = fixW 9 c g h) :=
      i64_or_gap 20 6 1048576 67108864 (by decide) (by decide) _ _ (by omega) (by omega) (by omega) (by omega) (by omega) (by omega) (by decide)
    clear e6
    go_enter Tryz.func45, Tryz.ntmps45
    go_wp2
    go_ret
    exact ⟨congrArg (fun x => Ending.returned (.int .i64 x)) e.out, (Below.refl _ _).alloc (Nat.le_refl _) _⟩
  · have ef : fixW f c g h = c + g * 4096 + h * 33554432 := by
      unfold fixW
      rw [if_neg e6, if_neg e9]
    have e : Hid (bits .or .i64 (c + g * 4096) (h * 33554432) = fixW f c g h) := by
      rw [ef]
      exact i64_or_gap 25 7 33554432 4294967296 (by decide) (by decide) _ _ (by omega) (by omega) (by omega) (by omega) (by omega) (by omega) (by decide)
    clear ef
    have n6 : (f == 6) = false := by simpa using e6
    have n9 : (f == 9) = false := by simpa using e9
    clear e6 e9
    go_enter Tryz.func45, Tryz.ntmps45
    go_wp2
    go_ret
    exact ⟨congrArg (fun x => Ending.returned (.int .i64 x)) e.out, (Below.refl _ _).alloc (Nat.le_refl _) _⟩
end Go.Proofs.YtiandbhcjecphaaGreatDoor
