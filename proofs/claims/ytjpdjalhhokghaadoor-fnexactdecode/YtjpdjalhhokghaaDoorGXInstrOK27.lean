/- The model's check of an operation's number: the contract. The model's check of an instruction: words. InstrOK of the program: the contract. -/
import Derived.Test.YtjpdjalhhokghaaDoorGXInstrOK0
import Derived.Test.YtjpdjalhhokghaaDoorGXInstrOK20
import Derived.Test.YtjpdjalhhokghaaDoorGXInstrOK26
import Derived.Test.YtjpdjalhhokghaaDoorGXInstrOK21
import Derived.Test.YtjpdjalhhokghaaDoorGXInstrOK22
import Derived.Test.YtjpdjalhhokghaaDoorGXInstrOK23
import Derived.Test.YtjpdjalhhokghaaDoorGXInstrOK24
import Derived.Test.YtjpdjalhhokghaaDoorGXInstrOK25
namespace Go.Proofs.YtjpdjalhhokghaaDoor
open Go.RowKit
set_option linter.unusedVariables false

theorem spOp1 (c : Int) (w : World) (b : Bool) (h : (b = true ∧ 1 ≤ c ∧ c ≤ 64) ∨ (b = false ∧ (c < 1 ∨ 64 < c))) :
    Calls Tryd.prog 62 #[.int .i64 c] w fun e w' => e = .returned (.bool b) ∧ w' = w := by
  go_enter Tryd.func62, Tryd.ntmps62
  go_wp2_with fail
  refine (spIn _ _ _ _ b h).mono ?_
  rintro e w1 ⟨rfl, rfl⟩
  clear h
  go_wp2
  go_ret
  exact ⟨rfl, rfl⟩

end Go.Proofs.YtjpdjalhhokghaaDoor

namespace Go.Proofs.YtjpdjalhhokghaaDoor
open Go.RowKit
set_option linter.unusedVariables false

/-- Is it an instruction? -/
def rightB (op rd r1 r2 im : Int) : Bool := decide (1 ≤ op ∧ op ≤ 64) && rightF (shT op).1 rd r1 r2 im
def inB (x lo hi : Int) : Bool := decide (lo ≤ x ∧ x ≤ hi)

theorem shT_form (op : Int) (h0 : 1 ≤ op) (h1 : op ≤ 64) : 1 ≤ (shT op).1 ∧ (shT op).1 ≤ 9 := by
  obtain ⟨k, rfl⟩ := Int.eq_ofNat_of_zero_le (show 0 ≤ op by omega)
  have hk : k < 65 := by omega
  have hk0 : 1 ≤ k := by omega
  have key : ∀ j : Nat, j < 65 → 1 ≤ j → 1 ≤ (shT (j : Int)).1 ∧ (shT (j : Int)).1 ≤ 9 := by decide +kernel
  exact key k hk hk0

theorem tm0 (a n : Int) : a.tmod n = 0 ↔ a % n = 0 := by
  rw [← Int.dvd_iff_tmod_eq_zero, ← Int.dvd_iff_emod_eq_zero]

theorem spReg (r : Int) (w : World) : Calls Tryd.prog 85 #[.int .i64 r] w fun e w' => e = .returned (.bool (regB r)) ∧ w' = w := by
  go_enter Tryd.func85, Tryd.ntmps85
  go_wp2_with fail
  refine (spIn _ _ _ _ (regB r) ?_).mono ?_
  · unfold regB
    by_cases h : 0 ≤ r ∧ r ≤ 31
    · exact .inl ⟨decide_eq_true h, h.1, h.2⟩
    · exact .inr ⟨decide_eq_false h, by omega⟩
  rintro e w1 ⟨rfl, rfl⟩
  go_wp2
  go_ret
  exact ⟨rfl, rfl⟩
theorem spInB (x lo hi : Int) (w : World) : Calls Tryd.prog 57 #[.int .i64 x, .int .i64 lo, .int .i64 hi] w fun e w' => e = .returned (.bool (inB x lo hi)) ∧ w' = w := by
  refine spIn _ _ _ _ (inB x lo hi) ?_
  unfold inB
  by_cases h : lo ≤ x ∧ x ≤ hi
  · exact .inl ⟨decide_eq_true h, h.1, h.2⟩
  · exact .inr ⟨decide_eq_false h, by omega⟩
theorem inB_t {x lo hi : Int} (h0 : lo ≤ x) (h1 : x ≤ hi) : inB x lo hi = true := decide_eq_true ⟨h0, h1⟩
theorem inB_f {x lo hi : Int} (h : ¬ (lo ≤ x ∧ x ≤ hi)) : inB x lo hi = false := decide_eq_false h
theorem okB_t {f v : Int} (h1 : 0 ≤ f) (h9 : f ≤ 9) (h : okI f v) : okB f v = true := (okB_iff f v h1 h9).2 h
theorem okB_f {f v : Int} (h1 : 0 ≤ f) (h9 : f ≤ 9) (h : ¬ okI f v) : okB f v = false := by
  cases e : okB f v with
  | false => rfl
  | true => exact absurd ((okB_iff f v h1 h9).1 e) h
theorem regB_bd {r : Int} (h : regB r = true) : 0 ≤ r ∧ r ≤ 31 := of_decide_eq_true h
theorem regB_z : regB 0 = true := rfl
theorem rightF_rd {f rd r1 r2 im : Int} (h : regB rd = false) : rightF f rd r1 r2 im = false := by
  have hz : (rd == 0) = false := by
    by_cases e : rd = 0
    · subst e; exact absurd h (by decide)
    · simpa using e
  unfold rightF
  split
  · simp [h]
  split
  · simp [h]
  split
  · simp [hz]
  split
  · simp [h]
  · simp [hz]
theorem rightF_r1 {f rd r1 r2 im : Int} (h : regB r1 = false) : rightF f rd r1 r2 im = false := by
  have hz : (r1 == 0) = false := by
    by_cases e : r1 = 0
    · subst e; exact absurd h (by decide)
    · simpa using e
  unfold rightF
  split
  · simp [hz]
  split
  · simp [h]
  split
  · simp [h]
  split
  · simp [h]
  · simp [hz]
theorem rightF_r2 {f rd r1 r2 im : Int} (h : regB r2 = false) : rightF f rd r1 r2 im = false := by
  have hz : (r2 == 0) = false := by
    by_cases e : r2 = 0
    · subst e; exact absurd h (by decide)
    · simpa using e
  unfold rightF
  split
  · simp [hz]
  split
  · simp [hz]
  split
  · simp [h]
  split
  · simp [h]
  · simp [hz]
theorem shField0 (a b c d : Int) (w : World) : (Instr.field 36 (.agg #[.int .i64 a, .int .i64 b, .int .i64 c, .int .i64 d]) 0).run Tryd.prog w = .ok (.int .i64 a) w := by
  kernel_rfl
theorem specShs (op f c g h : Int) (w : World) (hs : shT op = (f, c, g, h)) :
    Calls Tryd.prog 63 #[.int .i64 op] w fun e w' => e = .returned (.agg #[.int .i64 f, .int .i64 c, .int .i64 g, .int .i64 h]) ∧ Below w.heap.size w w' := by
  have := specShC op w
  rw [hs] at this
  exact this
end Go.Proofs.YtjpdjalhhokghaaDoor

namespace Go.Proofs.YtjpdjalhhokghaaDoor
open Go.RowKit
set_option linter.unusedVariables false

set_option maxHeartbeats 1000000 in
theorem insNo (op rd r1 r2 im : Int) (hL : ∀ w : World, Laid w → True) (w : World) (hl : Laid w) (h : op < 1 ∨ 64 < op) :
    Calls Tryd.prog 28 #[.agg #[.int .i64 op, .int .i64 rd, .int .i64 r1, .int .i64 r2, .int .i64 im]] w fun e w' => e = .returned (.bool false) ∧ Below w.heap.size w w' := by
  clear hL
  go_enter Tryd.func28, Tryd.ntmps28
  go_wp2_with fail
  refine (shapeNo op _ (laid_below hl ((Below.refl _ _).alloc (Nat.le_refl _) _)) h).mono ?_
  rintro e w1 ⟨rfl, hb1⟩
  have hz1 : w.heap.size < w1.heap.size := by have := hb1.size; simp at this; omega
  have HB1 : Hid (Below w.heap.size w w1) := ((Below.refl _ _).alloc (Nat.le_refl _) _).trans (hb1.mono (by simp))
  clear hb1 hl h
  unfold shV at *
  go_wp2
  go_ret
  exact ⟨rfl, HB1.out.alloc (by omega) _⟩

theorem insYes (op rd r1 r2 im : Int) (w : World) (h0 : 1 ≤ op) (h1 : op ≤ 64) :
    Calls Tryd.prog 28 #[.agg #[.int .i64 op, .int .i64 rd, .int .i64 r1, .int .i64 r2, .int .i64 im]] w fun e w' => e = .returned (.bool (rightF (shT op).1 rd r1 r2 im)) ∧ Below w.heap.size w w' := by
  have hf := shT_form op h0 h1
  obtain ⟨f, c, g, h, hs⟩ : ∃ f c g h, shT op = (f, c, g, h) := ⟨_, _, _, _, rfl⟩
  rw [hs]
  rw [hs] at hf
  change 1 ≤ f ∧ f ≤ 9 at hf
  change Calls _ _ _ _ fun e w' => e = .returned (.bool (rightF f rd r1 r2 im)) ∧ Below w.heap.size w w'
  rcases (show f = 1 ∨ f = 2 ∨ f = 3 ∨ f = 4 ∨ f = 5 ∨ f = 6 ∨ f = 7 ∨ f = 8 ∨ f = 9 by omega) with rfl | rfl | rfl | rfl | rfl | rfl | rfl | rfl | rfl
  · exact okA op rd r1 r2 im 1 c g h (okB 1 im) hs (fun w => told1 w) (fun w => fieldI1 im w) h0 h1 w
  · exact okA op rd r1 r2 im 2 c g h (okB 2 im) hs (fun w => told2 w) (fun w => fieldI2 im w) h0 h1 w
  · exact okB_ op rd r1 r2 im 3 c g h (okB 3 im) hs (fun w => told3 w) (fun w => fieldI3 im w) h0 h1 w
  · refine (okC op rd r1 r2 im 4 c g h (okB 4 im) hs (fun w => told4 w) (fun w => fieldI4 im w) h0 h1 w).mono ?_
    rintro e w' ⟨rfl, hb⟩
    exact ⟨congrArg (fun x => Ending.returned (.bool x)) (by show _ = (rd == 0 && regB r1 && regB r2 && okB 4 im); cases regB r1 <;> cases regB r2 <;> cases (rd == 0) <;> cases okB 4 im <;> rfl), hb⟩
  · refine (okD op rd r1 r2 im 5 c g h (okB 5 im) hs (fun w => told5 w) (fun w => fieldI5 im w) h0 h1 w).mono ?_
    rintro e w' ⟨rfl, hb⟩
    exact ⟨congrArg (fun x => Ending.returned (.bool x)) (by show _ = (rd == 0 && regB r1 && regB r2 && okB 5 im); cases regB r1 <;> cases regB r2 <;> cases (rd == 0) <;> cases okB 5 im <;> rfl), hb⟩
  · exact okB_ op rd r1 r2 im 6 c g h (okB 6 im) hs (fun w => told6 w) (fun w => fieldI6 im w) h0 h1 w
  · exact okB_ op rd r1 r2 im 7 c g h (okB 7 im) hs (fun w => told7 w) (fun w => fieldI7 im w) h0 h1 w
  · exact okE op rd r1 r2 im 8 c g h hs (fun w => told8 w) h0 h1 w
  · exact okF op rd r1 r2 im 9 c g h hs (fun w => told9 w) h0 h1 w

theorem insC (op rd r1 r2 im : Int) (w : World) (hl : Laid w) :
    Calls Tryd.prog 28 #[.agg #[.int .i64 op, .int .i64 rd, .int .i64 r1, .int .i64 r2, .int .i64 im]] w fun e w' => e = .returned (.bool (rightB op rd r1 r2 im)) ∧ Below w.heap.size w w' := by
  unfold rightB
  by_cases h : 1 ≤ op ∧ op ≤ 64
  · have e : decide (1 ≤ op ∧ op ≤ 64) = true := decide_eq_true h
    rw [e, Bool.true_and]
    exact insYes op rd r1 r2 im w h.1 h.2
  · have e : decide (1 ≤ op ∧ op ≤ 64) = false := decide_eq_false h
    rw [e, Bool.false_and]
    exact insNo op rd r1 r2 im (fun _ _ => trivial) w hl (by omega)
end Go.Proofs.YtjpdjalhhokghaaDoor
