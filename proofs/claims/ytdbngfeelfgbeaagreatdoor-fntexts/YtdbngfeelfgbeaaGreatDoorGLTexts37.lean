/- The text of an instruction in the model, form 9: the contract. InstrText of both: contracts. -/
import Derived.Test.YtdbngfeelfgbeaaGreatDoorGLTexts21
import Derived.Test.YtdbngfeelfgbeaaGreatDoorGLTexts26
import Derived.Test.YtdbngfeelfgbeaaGreatDoorGLTexts12
import Derived.Deep.RegionHeld3
import Derived.Test.YtdbngfeelfgbeaaGreatDoorGLTexts27
import Derived.Test.YtdbngfeelfgbeaaGreatDoorGLTexts32
import Derived.DataShut
import Derived.Test.YtdbngfeelfgbeaaGreatDoorGLTexts33
import Derived.Test.YtdbngfeelfgbeaaGreatDoorGLTexts34
import Derived.Test.YtdbngfeelfgbeaaGreatDoorGLTexts35
import Derived.Test.YtdbngfeelfgbeaaGreatDoorGLTexts36
namespace Go.Proofs.YtdbngfeelfgbeaaGreatDoor.Tx
open Go.RowKit
set_option linter.unusedVariables false

set_option maxRecDepth 100000 in
set_option maxHeartbeats 8000000 in
theorem text9 (i : Nat) (n : List UInt8) (c g h rd r1 r2 im : Int) (hi : i < 64) (hn : Op.wordAt (i + 1) = txt n) (hnl : n.length ≤ 100) (hs : Hid (shT ((i : Int) + 1) = (9, c, g, h))) (hrd : In64 rd) (hr1 : In64 r1) (hr2 : In64 r2) (him : In64 im) (w : World) :
    Calls Tryz.prog 22 #[.agg #[.int .i64 ((i : Int) + 1), .int .i64 rd, .int .i64 r1, .int .i64 r2, .int .i64 im]] w fun e w' => e = .returned (.string (txt (textL 9 n rd r1 r2 im))) ∧ Below w.heap.size w w' := by
  have hc : ∀ w : World, (w.alloc (.cells Op.listVals.toArray 9)).cell? ⟨w.heap.size, i, none⟩ = some (.string (txt n)) := fun w => by rw [Op.cell_list w i hi, hn]
  have hi0 : (0 : Int) ≤ (i : Int) := by omega
  have hi1 : (i : Int) < 64 := by omega
  have hwi : wrap64 (i : Int) = (i : Int) := by unfold wrap64; omega
  have hwj : IntKind.i64.wrap (i : Int) = (i : Int) := wrap_i64 _ (by omega) (by omega)
  have hwk : IntKind.i64.wrap ((i : Int) + 1 - 1) = (i : Int) := by rw [show (i : Int) + 1 - 1 = i by omega]; exact hwj
  have hwl : (i : Int) + 1 - 1 = (i : Int) := by omega
  have hc1 : ∀ B : Obj, ((w.alloc B).alloc (.cells Op.listVals.toArray 9)).cell? ⟨w.heap.size + 1, i, none⟩ = some (.string (txt n)) := fun B => by
    have := hc (w.alloc B)
    rwa [World.size_alloc] at this
  have hp0 : ∀ w : World, (Op.stringOp .add { data := #[32] } (txt (Lib.itoa im))).run Tryz.prog w = .ok (.string (txt (immT im))) w := plus [32] (Lib.itoa im) (by have := itoa_len im him; simp; omega)
  have L1 := regT_len rd hrd
  have L2 := regT_len r1 hr1
  have L3 := regT_len r2 hr2
  have L4 := immT_len im him
  have HT : Hid (txt n = txt (textL 9 n rd r1 r2 im)) := by simp [textL, Hid]
  clear  L1 L2 L3 L4
  have hfd := shField0 9 c g h
  go_enter Tryz.func22, Tryz.ntmps22
  go_wp2_with fail
  go_region_with ((go_at_call 47; refine (Op.specList _).mono ?_; rintro e w1 ⟨rfl, rfl⟩))
  all_goals
    go_wp2_with fail
    refine (digitsC im him.1 him.2 _).mono ?_
    rintro e w2 ⟨rfl, hb2⟩
    have F2 : Five w2 w.heap.size ((i : Int) + 1) rd r1 r2 im := Five.below (by constructor <;> simp) hb2 (by simp <;> omega)
    have B2 : Below w.heap.size w w2 := Below.trans (by repeat (first | exact Below.refl _ _ | refine bdN ?_ _ | refine Below.drew ?_ | refine Below.alloc ?_ (by first | omega | (simp; done) | (simp; omega)) _)) (hb2.mono (by simp <;> omega))
    have z2 : w.heap.size < w2.heap.size := by have := hb2.size; simp at this; omega
    clear hb2 hc hc1 hwi hwj hwk hwl
    obtain ⟨c0, c1, c2, c3, c4, f0, f1, f2, f3, f4⟩ := F2
    have F2 : Hid (Five w2 w.heap.size ((i : Int) + 1) rd r1 r2 im) := ⟨c0, c1, c2, c3, c4, f0, f1, f2, f3, f4⟩
    go_wp2_with fail
    refine (specShs _ 9 c g h _ hs.out).mono ?_
    rintro e w3 ⟨rfl, hb3⟩
    have F3 : Hid (Five w3 w.heap.size ((i : Int) + 1) rd r1 r2 im) := F2.out.below hb3 z2
    have B3 : Below w.heap.size w w3 := B2.trans (hb3.mono B2.size)
    have z3 : w.heap.size < w3.heap.size := by have := hb3.size; omega
    clear hb3 c0 c1 c2 c3 c4 f0 f1 f2 f3 f4 F2 B2 z2
    obtain ⟨c0, c1, c2, c3, c4, f0, f1, f2, f3, f4⟩ := F3.out
    clear c0 c4 f0 f1 f2 f3 f4
    go_wp2
    go_ret
    exact ⟨congrArg (fun x => Ending.returned (.string x)) HT.out, B3⟩
end Go.Proofs.YtdbngfeelfgbeaaGreatDoor.Tx

namespace Go.Proofs.YtdbngfeelfgbeaaGreatDoor.Tx
open Go.RowKit
set_option linter.unusedVariables false

theorem in64_of {a : Int} (h : (Lit.int .i64 a).wf = true) : In64 a := by
  have h := (Lit.wf_int_iff _ _).1 h
  rw [IntKind.min_i64, IntKind.max_i64] at h
  exact h
theorem names_short (i : Nat) (h : i < 65) : (Op.words.getD i []).length ≤ 100 := by
  have key : ∀ j : Nat, j < 65 → (Op.words.getD j []).length ≤ 100 := by decide +kernel
  exact key i h

/-- The text of an instruction, and the code beside it. -/
def textB (op rd r1 r2 im : Int) : List UInt8 := textL (shT op).1 (Op.words.getD op.toNat []) rd r1 r2 im
def ansB (op rd r1 r2 im : Int) : ByteArray := if rightB op rd r1 r2 im = true then txt (textB op rd r1 r2 im) else { data := #[] }
def ansC (op rd r1 r2 im : Int) : Int := if rightB op rd r1 r2 im = true then 0 else 1

theorem textAny (op rd r1 r2 im : Int) (h0 : 1 ≤ op) (h1 : op ≤ 64) (hrd : In64 rd) (hr1 : In64 r1) (hr2 : In64 r2) (him : In64 im) (w : World) :
    Calls Tryz.prog 22 #[.agg #[.int .i64 op, .int .i64 rd, .int .i64 r1, .int .i64 r2, .int .i64 im]] w fun e w' => e = .returned (.string (txt (textB op rd r1 r2 im))) ∧ Below w.heap.size w w' := by
  have hf := shT_form op h0 h1
  unfold textB
  obtain ⟨i, rfl⟩ : ∃ i : Nat, op = (i : Int) + 1 := ⟨(op - 1).toNat, by omega⟩
  have hi : i < 64 := by omega
  rw [show ((i : Int) + 1).toNat = i + 1 by omega]
  have hn : Op.wordAt (i + 1) = txt (Op.words.getD (i + 1) []) := rfl
  have hnl := names_short (i + 1) (by omega)
  obtain ⟨f, c, g, h, hs⟩ : ∃ f c g h, shT ((i : Int) + 1) = (f, c, g, h) := ⟨_, _, _, _, rfl⟩
  rw [hs] at hf ⊢
  change 1 ≤ f ∧ f ≤ 9 at hf
  change Calls _ _ _ _ fun e w' => e = .returned (.string (txt (textL f _ rd r1 r2 im))) ∧ Below w.heap.size w w'
  rcases (show f = 1 ∨ f = 2 ∨ f = 3 ∨ f = 4 ∨ f = 5 ∨ f = 6 ∨ f = 7 ∨ f = 8 ∨ f = 9 by omega) with rfl | rfl | rfl | rfl | rfl | rfl | rfl | rfl | rfl
  · exact text1 i _ c g h rd r1 r2 im hi hn hnl hs hrd hr1 hr2 him w
  · exact text2 i _ c g h rd r1 r2 im hi hn hnl hs hrd hr1 hr2 him w
  · exact text3 i _ c g h rd r1 r2 im hi hn hnl hs hrd hr1 hr2 him w
  · exact text4 i _ c g h rd r1 r2 im hi hn hnl hs hrd hr1 hr2 him w
  · exact text5 i _ c g h rd r1 r2 im hi hn hnl hs hrd hr1 hr2 him w
  · exact text6 i _ c g h rd r1 r2 im hi hn hnl hs hrd hr1 hr2 him w
  · exact text7 i _ c g h rd r1 r2 im hi hn hnl hs hrd hr1 hr2 him w
  · exact text8 i _ c g h rd r1 r2 im hi hn hnl hs hrd hr1 hr2 him w
  · exact text9 i _ c g h rd r1 r2 im hi hn hnl hs hrd hr1 hr2 him w

theorem right_op {op rd r1 r2 im : Int} (h : rightB op rd r1 r2 im = true) : 1 ≤ op ∧ op ≤ 64 := by
  unfold rightB at h
  exact of_decide_eq_true (Bool.and_eq_true_iff.1 h).1

theorem specTextC (op rd r1 r2 im : Int) (hrd : In64 rd) (hr1 : In64 r1) (hr2 : In64 r2) (him : In64 im) (w : World) :
    Calls Tryz.prog 6 #[.agg #[.int .i64 op, .int .i64 rd, .int .i64 r1, .int .i64 r2, .int .i64 im]] w fun e w' => e = .returned (.tuple #[.string (ansB op rd r1 r2 im), .int .i64 (ansC op rd r1 r2 im)]) ∧ Below w.heap.size w w' := by
  unfold ansB ansC
  cases hr : rightB op rd r1 r2 im with
  | false =>
    go_enter Tryz.func6, Tryz.ntmps6
    go_wp2_with fail
    refine (rightC op rd r1 r2 im _).mono ?_
    rintro e w1 ⟨rfl, hb1⟩
    rw [hr]
    have HB1 : Hid (Below w.heap.size w w1) := ((Below.refl _ _).alloc (Nat.le_refl _) _).trans (hb1.mono (by simp))
    clear hb1 hr
    go_wp2
    go_ret2
    exact ⟨rfl, HB1.out⟩
  | true =>
    obtain ⟨h0, h1⟩ := right_op hr
    have HT : Hid (∀ w, Calls Tryz.prog 22 #[.agg #[.int .i64 op, .int .i64 rd, .int .i64 r1, .int .i64 r2, .int .i64 im]] w fun e w' => e = .returned (.string (txt (textB op rd r1 r2 im))) ∧ Below w.heap.size w w') := textAny op rd r1 r2 im h0 h1 hrd hr1 hr2 him
    clear h0 h1
    go_enter Tryz.func6, Tryz.ntmps6
    go_wp2_with fail
    refine (rightC op rd r1 r2 im _).mono ?_
    rintro e w1 ⟨rfl, hb1⟩
    rw [hr]
    obtain ⟨hc1, hf1⟩ := bcell hb1
    have HB1 : Below w.heap.size w w1 := ((Below.refl _ _).alloc (Nat.le_refl _) _).trans (hb1.mono (by simp))
    clear hb1 hr
    go_wp2_with fail
    refine (HT.out _).mono ?_
    rintro e w2 ⟨rfl, hb2⟩
    have HB2 : Hid (Below w.heap.size w w2) := HB1.trans (hb2.mono HB1.size)
    clear hb2 HB1 hc1 hf1
    go_wp2
    go_ret2
    exact ⟨rfl, HB2.out⟩

theorem implTextC (op rd r1 r2 im : Int) (hrd : In64 rd) (hr1 : In64 r1) (hr2 : In64 r2) (him : In64 im) (w : World) (hl : Laid w) :
    Calls Tryz.prog 5 #[.agg #[.int .i64 op, .int .i64 rd, .int .i64 r1, .int .i64 r2, .int .i64 im]] w fun e w' => e = .returned (.tuple #[.string (ansB op rd r1 r2 im), .int .i64 (ansC op rd r1 r2 im)]) ∧ Below w.heap.size w w' := by
  unfold ansB ansC
  cases hr : rightB op rd r1 r2 im with
  | false => exact insNoT op rd r1 r2 im w hl.e hr
  | true =>
    obtain ⟨h0, h1⟩ := right_op hr
    have hf := shT_form op h0 h1
    obtain ⟨i, rfl⟩ : ∃ i : Nat, op = (i : Int) := ⟨op.toNat, by omega⟩
    obtain ⟨f, c, g, h, hs⟩ : ∃ f c g h, shT (i : Int) = (f, c, g, h) := ⟨_, _, _, _, rfl⟩
    unfold textB
    rw [hs] at hf ⊢
    change 1 ≤ f ∧ f ≤ 9 at hf
    obtain ⟨told, ht⟩ := told_all f hf.1 hf.2
    rw [Int.toNat_natCast]
    exact insYesT i _ f c g h rd r1 r2 im told (by omega) (by omega) rfl (names_short i (by omega)) hs ht hr hrd hr1 hr2 him w hl
end Go.Proofs.YtdbngfeelfgbeaaGreatDoor.Tx
