/- The model's check of an instruction: words. The text of an instruction, as bytes; the model's pieces of it: contracts. -/
import Derived.Test.YtdbngfeelfgbeaaGreatDoorGLTexts19
import Derived.Test.YtdbngfeelfgbeaaGreatDoorGLTexts20
import Derived.Test.YtdbngfeelfgbeaaGreatDoorGLTexts4
import Derived.Test.YtdbngfeelfgbeaaGreatDoorGLTexts5
namespace Go.Proofs.YtdbngfeelfgbeaaGreatDoor
open Go.RowKit
set_option linter.unusedVariables false

/-- Is it an instruction? -/
def rightB (op rd r1 r2 im : Int) : Bool := decide (1 ≤ op ∧ op ≤ 64) && rightF (shT op).1 rd r1 r2 im
def inB (x lo hi : Int) : Bool := decide (lo ≤ x ∧ x ≤ hi)

theorem shT_form (op : Int) (h0 : 1 ≤ op) (h1 : op ≤ 64) : 1 ≤ (shT op).1 ∧ (shT op).1 ≤ 9 := by
  obtain ⟨k, rfl⟩ := Int.eq_ofNat_of_zero_le (show 0 ≤ op by omega)
  have hk : k < 65 := by omega
  have hk0 : 1 ≤ k := by omega
  have key : ∀ j : Nat, j < 65 → 1 ≤ j → 1 ≤ (shT (j : Int)).1 ∧ (shT (j : Int)).1 ≤ 9 := by decide +kernel
  exact key k hk hk0

theorem tm0 (a n : Int) : a.tmod n = 0 ↔ a % n = 0 := by
  rw [← Int.dvd_iff_tmod_eq_zero, ← Int.dvd_iff_emod_eq_zero]

theorem spReg (r : Int) (w : World) : Calls Tryz.prog 45 #[.int .i64 r] w fun e w' => e = .returned (.bool (regB r)) ∧ w' = w := by
  go_enter Tryz.func45, Tryz.ntmps45
  go_wp2_with fail
  refine (spIn _ _ _ _ (regB r) ?_).mono ?_
  · unfold regB
    by_cases h : 0 ≤ r ∧ r ≤ 31
    · exact .inl ⟨decide_eq_true h, h.1, h.2⟩
    · exact .inr ⟨decide_eq_false h, by omega⟩
  rintro e w1 ⟨rfl, rfl⟩
  go_wp2
  go_ret
  exact ⟨rfl, rfl⟩
theorem spInB (x lo hi : Int) (w : World) : Calls Tryz.prog 46 #[.int .i64 x, .int .i64 lo, .int .i64 hi] w fun e w' => e = .returned (.bool (inB x lo hi)) ∧ w' = w := by
  refine spIn _ _ _ _ (inB x lo hi) ?_
  unfold inB
  by_cases h : lo ≤ x ∧ x ≤ hi
  · exact .inl ⟨decide_eq_true h, h.1, h.2⟩
  · exact .inr ⟨decide_eq_false h, by omega⟩
theorem inB_t {x lo hi : Int} (h0 : lo ≤ x) (h1 : x ≤ hi) : inB x lo hi = true := decide_eq_true ⟨h0, h1⟩
theorem inB_f {x lo hi : Int} (h : ¬ (lo ≤ x ∧ x ≤ hi)) : inB x lo hi = false := decide_eq_false h
theorem okB_t {f v : Int} (h1 : 0 ≤ f) (h9 : f ≤ 9) (h : okI f v) : okB f v = true := (okB_iff f v h1 h9).2 h
theorem okB_f {f v : Int} (h1 : 0 ≤ f) (h9 : f ≤ 9) (h : ¬ okI f v) : okB f v = false := by
  cases e : okB f v with
  | false => rfl
  | true => exact absurd ((okB_iff f v h1 h9).1 e) h
theorem regB_bd {r : Int} (h : regB r = true) : 0 ≤ r ∧ r ≤ 31 := of_decide_eq_true h
theorem regB_z : regB 0 = true := rfl
theorem rightF_rd {f rd r1 r2 im : Int} (h : regB rd = false) : rightF f rd r1 r2 im = false := by
  have hz : (rd == 0) = false := by
    by_cases e : rd = 0
    · subst e; exact absurd h (by decide)
    · simpa using e
  unfold rightF
  split
  · simp [h]
  split
  · simp [h]
  split
  · simp [hz]
  split
  · simp [h]
  · simp [hz]
theorem rightF_r1 {f rd r1 r2 im : Int} (h : regB r1 = false) : rightF f rd r1 r2 im = false := by
  have hz : (r1 == 0) = false := by
    by_cases e : r1 = 0
    · subst e; exact absurd h (by decide)
    · simpa using e
  unfold rightF
  split
  · simp [hz]
  split
  · simp [h]
  split
  · simp [h]
  split
  · simp [h]
  · simp [hz]
theorem rightF_r2 {f rd r1 r2 im : Int} (h : regB r2 = false) : rightF f rd r1 r2 im = false := by
  have hz : (r2 == 0) = false := by
    by_cases e : r2 = 0
    · subst e; exact absurd h (by decide)
    · simpa using e
  unfold rightF
  split
  · simp [hz]
  split
  · simp [hz]
  split
  · simp [h]
  split
  · simp [h]
  · simp [hz]
theorem shField0 (a b c d : Int) (w : World) : (Instr.field 31 (.agg #[.int .i64 a, .int .i64 b, .int .i64 c, .int .i64 d]) 0).run Tryz.prog w = .ok (.int .i64 a) w := by
  kernel_rfl
theorem specShs (op f c g h : Int) (w : World) (hs : shT op = (f, c, g, h)) :
    Calls Tryz.prog 28 #[.int .i64 op] w fun e w' => e = .returned (.agg #[.int .i64 f, .int .i64 c, .int .i64 g, .int .i64 h]) ∧ Below w.heap.size w w' := by
  have := specShC op w
  rw [hs] at this
  exact this
end Go.Proofs.YtdbngfeelfgbeaaGreatDoor

namespace Go.Proofs.YtdbngfeelfgbeaaGreatDoor.Tx
open Go.RowKit
set_option linter.unusedVariables false

/-- The words of a register and of a number, a blank ahead. -/
def regT (r : Int) : List UInt8 := [32, 120] ++ Lib.itoa r
def immT (v : Int) : List UInt8 := [32] ++ Lib.itoa v
/-- The text of an instruction of form f whose name is n. -/
def textL (f : Int) (n : List UInt8) (rd r1 r2 im : Int) : List UInt8 :=
  if f = 1 ∨ f = 2 then n ++ regT rd ++ immT im
  else if f = 3 ∨ f = 6 ∨ f = 7 then n ++ regT rd ++ regT r1 ++ immT im
  else if f = 4 then n ++ regT r1 ++ regT r2 ++ immT im
  else if f = 5 then n ++ regT r2 ++ regT r1 ++ immT im
  else if f = 8 then n ++ regT rd ++ regT r1 ++ regT r2
  else n

def In64 (n : Int) : Prop := -9223372036854775808 ≤ n ∧ n ≤ 9223372036854775807
theorem itoa_len (n : Int) (h : In64 n) : (Lib.itoa n).length ≤ 21 := Lib.itoa_length_le n h.1 h.2
theorem regT_len (n : Int) (h : In64 n) : (regT n).length ≤ 23 := by have := itoa_len n h; unfold regT; simp; omega
theorem immT_len (n : Int) (h : In64 n) : (immT n).length ≤ 22 := by have := itoa_len n h; unfold immT; simp; omega

/-- '+' on two texts. -/
theorem plus (a b : List UInt8) (h : a.length + b.length ≤ 1000000) (w : World) : (Op.stringOp .add (txt a) (txt b)).run Tryz.prog w = .ok (.string (txt (a ++ b))) w := by
  rw [add_any _ _ (by rw [txt_size, txt_size]; exact h), txt_append]

theorem regC (n : Int) (h : In64 n) (w : World) :
    Calls Tryz.prog 49 #[.int .i64 n] w fun e w' => e = .returned (.string (txt (regT n))) ∧ Below w.heap.size w w' := by
  have hp := plus [32, 120] (Lib.itoa n) (by have := itoa_len n h; simp; omega)
  have hp' : ∀ w : World, (Op.stringOp .add { data := #[32, 120] } (txt (Lib.itoa n))).run Tryz.prog w = .ok (.string (txt (regT n))) w := hp
  clear hp
  go_enter Tryz.func49, Tryz.ntmps49
  go_wp2_with fail
  refine (digitsC n h.1 h.2 _).mono ?_
  rintro e w1 ⟨rfl, hb⟩
  go_wp2
  go_ret
  exact ⟨rfl, hb⟩

end Go.Proofs.YtdbngfeelfgbeaaGreatDoor.Tx
