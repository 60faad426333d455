/- The model's check of an operation's number: the contract. The model's check of an instruction: words. The bits of a word that are alike in all instructions of one Op: contracts. Which word is an instruction of which shape: plain (2). The fixed bits of a word, by the program: the contract. Bits laid into a word whose place is free: plain. -/
import Derived.Test.YtepanogpojolfaaDoorGXDecode0
import Derived.Test.YtepanogpojolfaaDoorGXDecode18
import Derived.Test.YtepanogpojolfaaDoorGXDecode19
import Derived.Test.YtepanogpojolfaaDoorGXDecode9
namespace Go.Proofs.YtepanogpojolfaaDoor
open Go.RowKit
set_option linter.unusedVariables false

theorem spOp1 (c : Int) (w : World) (b : Bool) (h : (b = true ∧ 1 ≤ c ∧ c ≤ 64) ∨ (b = false ∧ (c < 1 ∨ 64 < c))) :
    Calls Tryd.prog 78 #[.int .i64 c] w fun e w' => e = .returned (.bool b) ∧ w' = w := by
  go_enter Tryd.func78, Tryd.ntmps78
  go_wp2_with fail
  refine (spIn _ _ _ _ b h).mono ?_
  rintro e w1 ⟨rfl, rfl⟩
  clear h
  go_wp2
  go_ret
  exact ⟨rfl, rfl⟩

end Go.Proofs.YtepanogpojolfaaDoor

namespace Go.Proofs.YtepanogpojolfaaDoor
open Go.RowKit
set_option linter.unusedVariables false

/-- Is it an instruction? -/
def rightB (op rd r1 r2 im : Int) : Bool := decide (1 ≤ op ∧ op ≤ 64) && rightF (shT op).1 rd r1 r2 im
def inB (x lo hi : Int) : Bool := decide (lo ≤ x ∧ x ≤ hi)

theorem shT_form (op : Int) (h0 : 1 ≤ op) (h1 : op ≤ 64) : 1 ≤ (shT op).1 ∧ (shT op).1 ≤ 9 := by
  obtain ⟨k, rfl⟩ := Int.eq_ofNat_of_zero_le (show 0 ≤ op by omega)
  have hk : k < 65 := by omega
  have hk0 : 1 ≤ k := by omega
  have key : ∀ j : Nat, j < 65 → 1 ≤ j → 1 ≤ (shT (j : Int)).1 ∧ (shT (j : Int)).1 ≤ 9 := by decide +kernel
  exact key k hk hk0

theorem tm0 (a n : Int) : a.tmod n = 0 ↔ a % n = 0 := by
  rw [← Int.dvd_iff_tmod_eq_zero, ← Int.dvd_iff_emod_eq_zero]

theorem spReg (r : Int) (w : World) : Calls Tryd.prog 79 #[.int .i64 r] w fun e w' => e = .returned (.bool (regB r)) ∧ w' = w := by
  go_enter Tryd.func79, Tryd.ntmps79
  go_wp2_with fail
  refine (spIn _ _ _ _ (regB r) ?_).mono ?_
  · unfold regB
    by_cases h : 0 ≤ r ∧ r ≤ 31
    · exact .inl ⟨decide_eq_true h, h.1, h.2⟩
    · exact .inr ⟨decide_eq_false h, by omega⟩
  rintro e w1 ⟨rfl, rfl⟩
  go_wp2
  go_ret
  exact ⟨rfl, rfl⟩
theorem spInB (x lo hi : Int) (w : World) : Calls Tryd.prog 60 #[.int .i64 x, .int .i64 lo, .int .i64 hi] w fun e w' => e = .returned (.bool (inB x lo hi)) ∧ w' = w := by
  refine spIn _ _ _ _ (inB x lo hi) ?_
  unfold inB
  by_cases h : lo ≤ x ∧ x ≤ hi
  · exact .inl ⟨decide_eq_true h, h.1, h.2⟩
  · exact .inr ⟨decide_eq_false h, by omega⟩
theorem inB_t {x lo hi : Int} (h0 : lo ≤ x) (h1 : x ≤ hi) : inB x lo hi = true := decide_eq_true ⟨h0, h1⟩
theorem inB_f {x lo hi : Int} (h : ¬ (lo ≤ x ∧ x ≤ hi)) : inB x lo hi = false := decide_eq_false h
theorem okB_t {f v : Int} (h1 : 0 ≤ f) (h9 : f ≤ 9) (h : okI f v) : okB f v = true := (okB_iff f v h1 h9).2 h
theorem okB_f {f v : Int} (h1 : 0 ≤ f) (h9 : f ≤ 9) (h : ¬ okI f v) : okB f v = false := by
  cases e : okB f v with
  | false => rfl
  | true => exact absurd ((okB_iff f v h1 h9).1 e) h
theorem regB_bd {r : Int} (h : regB r = true) : 0 ≤ r ∧ r ≤ 31 := of_decide_eq_true h
theorem regB_z : regB 0 = true := rfl
theorem rightF_rd {f rd r1 r2 im : Int} (h : regB rd = false) : rightF f rd r1 r2 im = false := by
  have hz : (rd == 0) = false := by
    by_cases e : rd = 0
    · subst e; exact absurd h (by decide)
    · simpa using e
  unfold rightF
  split
  · simp [h]
  split
  · simp [h]
  split
  · simp [hz]
  split
  · simp [h]
  · simp [hz]
theorem rightF_r1 {f rd r1 r2 im : Int} (h : regB r1 = false) : rightF f rd r1 r2 im = false := by
  have hz : (r1 == 0) = false := by
    by_cases e : r1 = 0
    · subst e; exact absurd h (by decide)
    · simpa using e
  unfold rightF
  split
  · simp [hz]
  split
  · simp [h]
  split
  · simp [h]
  split
  · simp [h]
  · simp [hz]
theorem rightF_r2 {f rd r1 r2 im : Int} (h : regB r2 = false) : rightF f rd r1 r2 im = false := by
  have hz : (r2 == 0) = false := by
    by_cases e : r2 = 0
    · subst e; exact absurd h (by decide)
    · simpa using e
  unfold rightF
  split
  · simp [hz]
  split
  · simp [hz]
  split
  · simp [h]
  split
  · simp [h]
  · simp [hz]
theorem shField0 (a b c d : Int) (w : World) : (Instr.field 57 (.agg #[.int .i64 a, .int .i64 b, .int .i64 c, .int .i64 d]) 0).run Tryd.prog w = .ok (.int .i64 a) w := by
  kernel_rfl
theorem specShs (op f c g h : Int) (w : World) (hs : shT op = (f, c, g, h)) :
    Calls Tryd.prog 70 #[.int .i64 op] w fun e w' => e = .returned (.agg #[.int .i64 f, .int .i64 c, .int .i64 g, .int .i64 h]) ∧ Below w.heap.size w w' := by
  have := specShC op w
  rw [hs] at this
  exact this
end Go.Proofs.YtepanogpojolfaaDoor

namespace Go.Proofs.YtepanogpojolfaaDoor
open Go.RowKit
set_option linter.unusedVariables false

theorem low3 (w : World) : Calls Tryd.prog 77 #[.int .i64 3] w fun e w' => e = .returned (.int .i64 7) ∧ w' = w := by
  go_enter Tryd.func77, Tryd.ntmps77
  go_wp2
  go_ret
  exact ⟨rfl, rfl⟩
theorem low32 (w : World) : Calls Tryd.prog 77 #[.int .i64 32] w fun e w' => e = .returned (.int .i64 4294967295) ∧ w' = w := by
  go_enter Tryd.func77, Tryd.ntmps77
  go_wp2
  go_ret
  exact ⟨rfl, rfl⟩
/-- The fixed bits of a form. -/
def fixB (f : Int) : Int := if f = 1 then 127 else if f = 2 then 127 else if f = 3 then 28799 else if f = 4 then 28799 else if f = 5 then 28799 else if f = 6 then 4227887231 else if f = 7 then 4261441663 else if f = 8 then 4261441663 else 4294967295
set_option maxRecDepth 100000 in
theorem fixB1 (w : World) : Calls Tryd.prog 43 #[.int .i64 1] w fun e w' => e = .returned (.int .i64 127) ∧ w' = w := by
  go_enter Tryd.func43, Tryd.ntmps43
  go_wp2_with (go_at_call 77; first | (refine (low7 _).mono ?_; rintro e w1 ⟨rfl, rfl⟩) | (refine (low3 _).mono ?_; rintro e w1 ⟨rfl, rfl⟩) | (refine (low6 _).mono ?_; rintro e w1 ⟨rfl, rfl⟩) | (refine (low32 _).mono ?_; rintro e w1 ⟨rfl, rfl⟩))
  go_ret
  exact ⟨rfl, rfl⟩
set_option maxRecDepth 100000 in
theorem fixB2 (w : World) : Calls Tryd.prog 43 #[.int .i64 2] w fun e w' => e = .returned (.int .i64 127) ∧ w' = w := by
  go_enter Tryd.func43, Tryd.ntmps43
  go_wp2_with (go_at_call 77; first | (refine (low7 _).mono ?_; rintro e w1 ⟨rfl, rfl⟩) | (refine (low3 _).mono ?_; rintro e w1 ⟨rfl, rfl⟩) | (refine (low6 _).mono ?_; rintro e w1 ⟨rfl, rfl⟩) | (refine (low32 _).mono ?_; rintro e w1 ⟨rfl, rfl⟩))
  go_ret
  exact ⟨rfl, rfl⟩
set_option maxRecDepth 100000 in
theorem fixB3 (w : World) : Calls Tryd.prog 43 #[.int .i64 3] w fun e w' => e = .returned (.int .i64 28799) ∧ w' = w := by
  go_enter Tryd.func43, Tryd.ntmps43
  go_wp2_with (go_at_call 77; first | (refine (low7 _).mono ?_; rintro e w1 ⟨rfl, rfl⟩) | (refine (low3 _).mono ?_; rintro e w1 ⟨rfl, rfl⟩) | (refine (low6 _).mono ?_; rintro e w1 ⟨rfl, rfl⟩) | (refine (low32 _).mono ?_; rintro e w1 ⟨rfl, rfl⟩))
  go_ret
  exact ⟨rfl, rfl⟩
set_option maxRecDepth 100000 in
theorem fixB4 (w : World) : Calls Tryd.prog 43 #[.int .i64 4] w fun e w' => e = .returned (.int .i64 28799) ∧ w' = w := by
  go_enter Tryd.func43, Tryd.ntmps43
  go_wp2_with (go_at_call 77; first | (refine (low7 _).mono ?_; rintro e w1 ⟨rfl, rfl⟩) | (refine (low3 _).mono ?_; rintro e w1 ⟨rfl, rfl⟩) | (refine (low6 _).mono ?_; rintro e w1 ⟨rfl, rfl⟩) | (refine (low32 _).mono ?_; rintro e w1 ⟨rfl, rfl⟩))
  go_ret
  exact ⟨rfl, rfl⟩
set_option maxRecDepth 100000 in
theorem fixB5 (w : World) : Calls Tryd.prog 43 #[.int .i64 5] w fun e w' => e = .returned (.int .i64 28799) ∧ w' = w := by
  go_enter Tryd.func43, Tryd.ntmps43
  go_wp2_with (go_at_call 77; first | (refine (low7 _).mono ?_; rintro e w1 ⟨rfl, rfl⟩) | (refine (low3 _).mono ?_; rintro e w1 ⟨rfl, rfl⟩) | (refine (low6 _).mono ?_; rintro e w1 ⟨rfl, rfl⟩) | (refine (low32 _).mono ?_; rintro e w1 ⟨rfl, rfl⟩))
  go_ret
  exact ⟨rfl, rfl⟩
set_option maxRecDepth 100000 in
theorem fixB6 (w : World) : Calls Tryd.prog 43 #[.int .i64 6] w fun e w' => e = .returned (.int .i64 4227887231) ∧ w' = w := by
  go_enter Tryd.func43, Tryd.ntmps43
  go_wp2_with (go_at_call 77; first | (refine (low7 _).mono ?_; rintro e w1 ⟨rfl, rfl⟩) | (refine (low3 _).mono ?_; rintro e w1 ⟨rfl, rfl⟩) | (refine (low6 _).mono ?_; rintro e w1 ⟨rfl, rfl⟩) | (refine (low32 _).mono ?_; rintro e w1 ⟨rfl, rfl⟩))
  go_ret
  exact ⟨rfl, rfl⟩
set_option maxRecDepth 100000 in
theorem fixB7 (w : World) : Calls Tryd.prog 43 #[.int .i64 7] w fun e w' => e = .returned (.int .i64 4261441663) ∧ w' = w := by
  go_enter Tryd.func43, Tryd.ntmps43
  go_wp2_with (go_at_call 77; first | (refine (low7 _).mono ?_; rintro e w1 ⟨rfl, rfl⟩) | (refine (low3 _).mono ?_; rintro e w1 ⟨rfl, rfl⟩) | (refine (low6 _).mono ?_; rintro e w1 ⟨rfl, rfl⟩) | (refine (low32 _).mono ?_; rintro e w1 ⟨rfl, rfl⟩))
  go_ret
  exact ⟨rfl, rfl⟩
set_option maxRecDepth 100000 in
theorem fixB8 (w : World) : Calls Tryd.prog 43 #[.int .i64 8] w fun e w' => e = .returned (.int .i64 4261441663) ∧ w' = w := by
  go_enter Tryd.func43, Tryd.ntmps43
  go_wp2_with (go_at_call 77; first | (refine (low7 _).mono ?_; rintro e w1 ⟨rfl, rfl⟩) | (refine (low3 _).mono ?_; rintro e w1 ⟨rfl, rfl⟩) | (refine (low6 _).mono ?_; rintro e w1 ⟨rfl, rfl⟩) | (refine (low32 _).mono ?_; rintro e w1 ⟨rfl, rfl⟩))
  go_ret
  exact ⟨rfl, rfl⟩
set_option maxRecDepth 100000 in
theorem fixB9 (w : World) : Calls Tryd.prog 43 #[.int .i64 9] w fun e w' => e = .returned (.int .i64 4294967295) ∧ w' = w := by
  go_enter Tryd.func43, Tryd.ntmps43
  go_wp2_with (go_at_call 77; first | (refine (low7 _).mono ?_; rintro e w1 ⟨rfl, rfl⟩) | (refine (low3 _).mono ?_; rintro e w1 ⟨rfl, rfl⟩) | (refine (low6 _).mono ?_; rintro e w1 ⟨rfl, rfl⟩) | (refine (low32 _).mono ?_; rintro e w1 ⟨rfl, rfl⟩))
  go_ret
  exact ⟨rfl, rfl⟩
theorem fixBC (f : Int) (h0 : 1 ≤ f) (h1 : f ≤ 9) (w : World) : Calls Tryd.prog 43 #[.int .i64 f] w fun e w' => e = .returned (.int .i64 (fixB f)) ∧ w' = w := by
  rcases (show f = 1 ∨ f = 2 ∨ f = 3 ∨ f = 4 ∨ f = 5 ∨ f = 6 ∨ f = 7 ∨ f = 8 ∨ f = 9 by omega) with rfl | rfl | rfl | rfl | rfl | rfl | rfl | rfl | rfl
  · exact fixB1 w
  · exact fixB2 w
  · exact fixB3 w
  · exact fixB4 w
  · exact fixB5 w
  · exact fixB6 w
  · exact fixB7 w
  · exact fixB8 w
  · exact fixB9 w
end Go.Proofs.YtepanogpojolfaaDoor

namespace Go.Proofs.YtepanogpojolfaaDoor
set_option linter.unusedVariables false

/-- What a word's fields are, if it is of a form. -/
def tkRd (f w : Int) : Int := if f = 4 ∨ f = 5 ∨ f = 9 then 0 else w / 128 % 32
def tkR1 (f w : Int) : Int := if f = 1 ∨ f = 2 ∨ f = 9 then 0 else w / 32768 % 32
def tkR2 (f w : Int) : Int := if f = 4 ∨ f = 5 ∨ f = 8 then w / 1048576 % 32 else 0

theorem regB_mod (x : Int) : regB (x % 32) = true := by
  unfold regB
  exact decide_eq_true (by omega)

theorem right_taken (f w : Int) (h0 : 1 ≤ f) (h1 : f ≤ 9) : rightF f (tkRd f w) (tkR1 f w) (tkR2 f w) (takeF f w) = true := by
  have hk : okB f (takeF f w) = true := by
    apply okB_t (by omega) (by omega)
    rcases (show f = 1 ∨ f = 2 ∨ f = 3 ∨ f = 4 ∨ f = 5 ∨ f = 6 ∨ f = 7 ∨ f = 8 ∨ f = 9 by omega) with rfl | rfl | rfl | rfl | rfl | rfl | rfl | rfl | rfl
    · show -2147483648 ≤ sgn (w / 4096 % 1048576 * 4096) 32 ∧ sgn (w / 4096 % 1048576 * 4096) 32 ≤ 2147479552 ∧ sgn (w / 4096 % 1048576 * 4096) 32 % 4096 = 0
      rw [sgn_num _ 32 2147483648 4294967296 (by decide) (by decide)]
      omega
    · show -1048576 ≤ sgn (w / 4096 % 256 * 4096 + w / 1048576 % 2 * 2048 + w / 2097152 % 1024 * 2 + w / 2147483648 % 2 * 1048576) 21 ∧ sgn (w / 4096 % 256 * 4096 + w / 1048576 % 2 * 2048 + w / 2097152 % 1024 * 2 + w / 2147483648 % 2 * 1048576) 21 ≤ 1048574 ∧ sgn (w / 4096 % 256 * 4096 + w / 1048576 % 2 * 2048 + w / 2097152 % 1024 * 2 + w / 2147483648 % 2 * 1048576) 21 % 2 = 0
      rw [sgn_num _ 21 1048576 2097152 (by decide) (by decide)]
      generalize w / 4096 % 256 = x
      generalize w / 1048576 % 2 = y
      generalize w / 2097152 % 1024 = z
      generalize w / 2147483648 % 2 = u
      omega
    · show -2048 ≤ sgn (w / 1048576 % 4096) 12 ∧ sgn (w / 1048576 % 4096) 12 ≤ 2047
      rw [sgn_num _ 12 2048 4096 (by decide) (by decide)]
      omega
    · show -4096 ≤ sgn (w / 128 % 2 * 2048 + w / 256 % 16 * 2 + w / 33554432 % 64 * 32 + w / 2147483648 % 2 * 4096) 13 ∧ sgn (w / 128 % 2 * 2048 + w / 256 % 16 * 2 + w / 33554432 % 64 * 32 + w / 2147483648 % 2 * 4096) 13 ≤ 4094 ∧ sgn (w / 128 % 2 * 2048 + w / 256 % 16 * 2 + w / 33554432 % 64 * 32 + w / 2147483648 % 2 * 4096) 13 % 2 = 0
      rw [sgn_num _ 13 4096 8192 (by decide) (by decide)]
      generalize w / 128 % 2 = x
      generalize w / 256 % 16 = y
      generalize w / 33554432 % 64 = z
      generalize w / 2147483648 % 2 = u
      omega
    · show -2048 ≤ sgn (w / 128 % 32 + w / 33554432 % 128 * 32) 12 ∧ sgn (w / 128 % 32 + w / 33554432 % 128 * 32) 12 ≤ 2047
      rw [sgn_num _ 12 2048 4096 (by decide) (by decide)]
      omega
    · show 0 ≤ w / 1048576 % 64 ∧ w / 1048576 % 64 ≤ 63
      omega
    · show 0 ≤ w / 1048576 % 32 ∧ w / 1048576 % 32 ≤ 31
      omega
    · rfl
    · rfl
  rcases (show f = 1 ∨ f = 2 ∨ f = 3 ∨ f = 4 ∨ f = 5 ∨ f = 6 ∨ f = 7 ∨ f = 8 ∨ f = 9 by omega) with rfl | rfl | rfl | rfl | rfl | rfl | rfl | rfl | rfl
  · show (regB (w / 128 % 32) && (0 : Int) == 0 && (0 : Int) == 0 && okB 1 (takeF 1 w)) = true
    rw [regB_mod, hk]; rfl
  · show (regB (w / 128 % 32) && (0 : Int) == 0 && (0 : Int) == 0 && okB 2 (takeF 2 w)) = true
    rw [regB_mod, hk]; rfl
  · show (regB (w / 128 % 32) && regB (w / 32768 % 32) && (0 : Int) == 0 && okB 3 (takeF 3 w)) = true
    rw [regB_mod, regB_mod, hk]; rfl
  · show ((0 : Int) == 0 && regB (w / 32768 % 32) && regB (w / 1048576 % 32) && okB 4 (takeF 4 w)) = true
    rw [regB_mod, regB_mod, hk]; rfl
  · show ((0 : Int) == 0 && regB (w / 32768 % 32) && regB (w / 1048576 % 32) && okB 5 (takeF 5 w)) = true
    rw [regB_mod, regB_mod, hk]; rfl
  · show (regB (w / 128 % 32) && regB (w / 32768 % 32) && (0 : Int) == 0 && okB 6 (takeF 6 w)) = true
    rw [regB_mod, regB_mod, hk]; rfl
  · show (regB (w / 128 % 32) && regB (w / 32768 % 32) && (0 : Int) == 0 && okB 7 (takeF 7 w)) = true
    rw [regB_mod, regB_mod, hk]; rfl
  · show (regB (w / 128 % 32) && regB (w / 32768 % 32) && regB (w / 1048576 % 32) && (0 : Int) == 0) = true
    rw [regB_mod, regB_mod, regB_mod]; rfl
  · rfl
end Go.Proofs.YtepanogpojolfaaDoor

namespace Go.Proofs.YtepanogpojolfaaDoor
open Go.RowKit
set_option linter.unusedVariables false

theorem shT_ok (op : Int) (h0 : 1 ≤ op) (h1 : op ≤ 64) : shOK (shT op).1 (shT op).2.1 (shT op).2.2.1 (shT op).2.2.2 = true := by
  obtain ⟨k, rfl⟩ := Int.eq_ofNat_of_zero_le (show 0 ≤ op by omega)
  have hk : k < 65 := by omega
  have hk0 : 1 ≤ k := by omega
  have key : ∀ j : Nat, j < 65 → 1 ≤ j → shOK (shT (j : Int)).1 (shT (j : Int)).2.1 (shT (j : Int)).2.2.1 (shT (j : Int)).2.2.2 = true := by decide +kernel
  exact key k hk hk0

theorem sh_bounds {f c g h : Int} (hs : shOK f c g h = true) : 1 ≤ f ∧ f ≤ 9 ∧ 0 ≤ c ∧ c < 128 ∧ 0 ≤ g ∧ g < 8 ∧ 0 ≤ h ∧ h < 64 := by
  simp only [shOK, Bool.and_eq_true, Bool.or_eq_true, decide_eq_true_eq] at hs
  obtain ⟨⟨⟨⟨⟨⟨⟨⟨⟨⟨⟨⟨⟨f0, f1⟩, k0⟩, k1⟩, g0⟩, g1⟩, h0⟩, h1⟩, s1⟩, s2⟩, s3⟩, s4⟩, s5⟩, s9⟩ := hs
  exact ⟨f0, f1, k0, k1, g0, g1, h0, h1⟩

theorem cg_or (c g : Int) (k0 : 0 ≤ c) (k1 : c < 128) (g0 : 0 ≤ g) (g1 : g < 8) : bits .or .i64 c (g * 4096) = c + g * 4096 :=
  i64_or_gap 12 3 4096 32768 (by decide) (by decide) _ _ (by omega) (by omega) (by omega) (by omega) (by omega) (by omega) (by decide)

set_option maxHeartbeats 1000000 in
theorem fixC (f c g h : Int) (w : World) (f0 : 1 ≤ f) (f1 : f ≤ 9) (k0 : 0 ≤ c) (k1 : c < 128) (g0 : 0 ≤ g) (g1 : g < 8) (h0 : 0 ≤ h) (h1 : h < 64) :
    Calls Tryd.prog 36 #[.agg #[.int .i64 f, .int .i64 c, .int .i64 g, .int .i64 h]] w fun e w' => e = .returned (.int .i64 (fixW f c g h)) ∧ Below w.heap.size w w' := by
  have hcg := cg_or c g k0 k1 g0 g1
  by_cases e6 : f = 6
  · subst e6
    have e : Hid (bits .or .i64 (c + g * 4096) (h / 2 * 67108864) = fixW 6 c g h) :=
      i64_or_gap 26 6 67108864 4294967296 (by decide) (by decide) _ _ (by omega) (by omega) (by omega) (by omega) (by omega) (by omega) (by decide)
    go_enter Tryd.func36, Tryd.ntmps36
    go_wp2
    go_ret
    exact ⟨congrArg (fun x => Ending.returned (.int .i64 x)) e.out, (Below.refl _ _).alloc (Nat.le_refl _) _⟩
  by_cases e9 : f = 9
  · subst e9
    have e : Hid (bits .or .i64 (c + g * 4096) (h * 1048576) = fixW 9 c g h) :=
      i64_or_gap 20 6 1048576 67108864 (by decide) (by decide) _ _ (by omega) (by omega) (by omega) (by omega) (by omega) (by omega) (by decide)
    clear e6
    go_enter Tryd.func36, Tryd.ntmps36
    go_wp2
    go_ret
    exact ⟨congrArg (fun x => Ending.returned (.int .i64 x)) e.out, (Below.refl _ _).alloc (Nat.le_refl _) _⟩
  · have ef : fixW f c g h = c + g * 4096 + h * 33554432 := by
      unfold fixW
      rw [if_neg e6, if_neg e9]
    have e : Hid (bits .or .i64 (c + g * 4096) (h * 33554432) = fixW f c g h) := by
      rw [ef]
      exact i64_or_gap 25 7 33554432 4294967296 (by decide) (by decide) _ _ (by omega) (by omega) (by omega) (by omega) (by omega) (by omega) (by decide)
    clear ef
    have n6 : (f == 6) = false := by simpa using e6
    have n9 : (f == 9) = false := by simpa using e9
    clear e6 e9
    go_enter Tryd.func36, Tryd.ntmps36
    go_wp2
    go_ret
    exact ⟨congrArg (fun x => Ending.returned (.int .i64 x)) e.out, (Below.refl _ _).alloc (Nat.le_refl _) _⟩
end Go.Proofs.YtepanogpojolfaaDoor

namespace Go.Proofs.YtepanogpojolfaaDoor

theorem dd (a : Int) {b : Int} (c : Int) (hb : 0 ≤ b) : a / b / c = a / (b * c) := by
  rw [Int.ediv_ediv, if_neg (fun h => absurd h.1 (by omega)), Int.sub_zero]
theorem div_up (a lo : Int) (k j : Nat) (h0 : 0 ≤ lo) (h1 : lo < 2 ^ k) : (a * 2 ^ k + lo) / 2 ^ (k + j) = a / 2 ^ j := by
  rw [Int.pow_add, ← dd _ _ (Int.le_of_lt (pow_pos k)), Int.add_comm, Int.add_mul_ediv_right _ _ (Int.ne_of_gt (pow_pos k)), Int.ediv_eq_zero_of_lt h0 h1, Int.zero_add]
theorem bit_up (a lo : Int) (k j : Nat) (h0 : 0 ≤ lo) (h1 : lo < 2 ^ k) : bitT (a * 2 ^ k + lo) (k + j) = bitT a j := by
  unfold bitT
  rw [div_up a lo k j h0 h1]
theorem bit_mod (v : Int) (n i : Nat) (h : i < n) : bitT (v % 2 ^ n) i = bitT v i := by
  have e : v = v % 2 ^ n + (v / 2 ^ n) * 2 ^ n := by have := Int.emod_add_mul_ediv v (2 ^ n); rw [Int.mul_comm]; exact this.symm
  have := bit_far (v % 2 ^ n) (v / 2 ^ n) n i h
  rw [← e] at this
  exact this.symm

/-- The word with the number laid at a free place. -/
def putT (word v : Int) (low count : Nat) : Int := word + v % 2 ^ count * 2 ^ low

theorem put_bit (word v : Int) (low count i : Nat) (_hw : 0 ≤ word) (hz : word / 2 ^ low % 2 ^ count = 0) :
    bitT (putT word v low count) i = if low ≤ i ∧ i < low + count then bitT v (i - low) else bitT word i := by
  obtain ⟨hi, lo, hlo0, hlo1, e⟩ : ∃ hi lo : Int, 0 ≤ lo ∧ lo < 2 ^ low ∧ word = hi * 2 ^ (low + count) + lo := by
    refine ⟨word / 2 ^ (low + count), word % 2 ^ low, Int.emod_nonneg _ (Int.ne_of_gt (pow_pos low)), Int.emod_lt_of_pos _ (pow_pos low), ?_⟩
    have h1 := Int.emod_add_mul_ediv word (2 ^ low)
    have h2 := Int.emod_add_mul_ediv (word / 2 ^ low) (2 ^ count)
    rw [hz, dd _ _ (Int.le_of_lt (pow_pos low)), ← Int.pow_add] at h2
    have h3 : word / 2 ^ (low + count) * 2 ^ (low + count) = 2 ^ low * (word / 2 ^ low) := by
      rw [← h2, Int.pow_add]
      rw [Int.zero_add, Int.mul_comm, Int.mul_assoc]
    omega
  have e2 : putT word v low count = (hi * 2 ^ count + v % 2 ^ count) * 2 ^ low + lo := by
    unfold putT
    rw [e, Int.add_mul, Int.pow_add]
    have : hi * (2 ^ low * 2 ^ count) = hi * 2 ^ count * 2 ^ low := by simp only [Int.mul_comm, Int.mul_left_comm]
    omega
  have hp := pow_pos count
  by_cases h1 : i < low
  · rw [if_neg (by omega), e2, e]
    have a1 := bit_far lo (hi * 2 ^ count + v % 2 ^ count) low i h1
    have a2 := bit_far lo hi (low + count) i (by omega)
    rw [Int.add_comm] at a1 a2
    rw [a1, a2]
  obtain ⟨j, rfl⟩ : ∃ j, i = low + j := ⟨i - low, by omega⟩
  rw [e2, bit_up _ lo low j hlo0 hlo1]
  by_cases h2 : j < count
  · rw [if_pos (by omega), Nat.add_sub_cancel_left]
    have a1 := bit_far (v % 2 ^ count) hi count j h2
    rw [Int.add_comm] at a1
    rw [a1, bit_mod v count j h2]
  · rw [if_neg (by omega), e]
    obtain ⟨m, rfl⟩ : ∃ m, j = count + m := ⟨j - count, by omega⟩
    rw [bit_up hi (v % 2 ^ count) count m (Int.emod_nonneg _ (Int.ne_of_gt hp)) (Int.emod_lt_of_pos _ hp)]
    have hl2 : lo < 2 ^ (low + count) := by
      have : (2 : Int) ^ low ≤ 2 ^ (low + count) := pow_le (by omega)
      omega
    rw [show low + (count + m) = (low + count) + m by omega, bit_up hi lo (low + count) m hlo0 hl2]

theorem int_half (s : Int) (k : Nat) : s / 2 ^ k = 2 * (s / 2 ^ (k + 1)) + bitT s k := by
  unfold bitT
  rw [Int.pow_succ, ← dd _ _ (Int.le_of_lt (pow_pos k))]
  omega

theorem put_bd (word v : Int) (low count : Nat) (hw : 0 ≤ word) (hw2 : word < 2 ^ 32) (h : low + count ≤ 32) (hz : word / 2 ^ low % 2 ^ count = 0) : 0 ≤ putT word v low count ∧ putT word v low count < 2 ^ 32 := by
  have h0 : 0 ≤ v % 2 ^ count := Int.emod_nonneg _ (Int.ne_of_gt (pow_pos count))
  have h00 : 0 ≤ v % 2 ^ count * 2 ^ low := Int.mul_nonneg h0 (Int.le_of_lt (pow_pos low))
  refine ⟨by unfold putT; omega, ?_⟩
  -- all bits from 32 on are 0
  have hd : putT word v low count / 2 ^ 32 = 0 := by
    have hb : ∀ m, bitT (putT word v low count) (32 + m) = bitT word (32 + m) := fun m => by
      rw [put_bit word v low count (32 + m) hw hz, if_neg (by omega)]
    have h1 : v % 2 ^ count < 2 ^ count := Int.emod_lt_of_pos _ (pow_pos count)
    obtain ⟨d, hd⟩ : ∃ d, 32 = low + count + d := ⟨32 - low - count, by omega⟩
    obtain ⟨hi, lo, hlo0, hlo1, e⟩ : ∃ hi lo : Int, 0 ≤ lo ∧ lo < 2 ^ low ∧ word = hi * 2 ^ (low + count) + lo := by
      refine ⟨word / 2 ^ (low + count), word % 2 ^ low, Int.emod_nonneg _ (Int.ne_of_gt (pow_pos low)), Int.emod_lt_of_pos _ (pow_pos low), ?_⟩
      have h1 := Int.emod_add_mul_ediv word (2 ^ low)
      have h2 := Int.emod_add_mul_ediv (word / 2 ^ low) (2 ^ count)
      rw [hz, dd _ _ (Int.le_of_lt (pow_pos low)), ← Int.pow_add] at h2
      have h3 : word / 2 ^ (low + count) * 2 ^ (low + count) = 2 ^ low * (word / 2 ^ low) := by
        rw [← h2, Int.pow_add]
        rw [Int.zero_add, Int.mul_comm, Int.mul_assoc]
      omega
    have e2 : putT word v low count = (hi * 2 ^ count + v % 2 ^ count) * 2 ^ low + lo := by
      unfold putT
      rw [e, Int.add_mul, Int.pow_add]
      have : hi * (2 ^ low * 2 ^ count) = hi * 2 ^ count * 2 ^ low := by simp only [Int.mul_comm, Int.mul_left_comm]
      omega
    have hl2 : lo < 2 ^ (low + count) := by
      have : (2 : Int) ^ low ≤ 2 ^ (low + count) := pow_le (by omega)
      omega
    have w0 : word / 2 ^ 32 = 0 := Int.ediv_eq_zero_of_lt hw hw2
    rw [hd] at w0 ⊢
    rw [e, div_up hi lo (low + count) d hlo0 hl2] at w0
    rw [e2, show low + count + d = low + (count + d) by omega, div_up _ lo low (count + d) hlo0 hlo1, div_up hi _ count d h0 h1]
    exact w0
  have hm := Int.emod_add_mul_ediv (putT word v low count) (2 ^ 32)
  rw [hd] at hm
  have hl := Int.emod_lt_of_pos (putT word v low count) (pow_pos 32)
  omega
end Go.Proofs.YtepanogpojolfaaDoor
