/- The model's check of an instruction: form 9. The model's check of an instruction: the contract. The text of an instruction in the model, form 1: the contract. The text of an instruction in the model, form 2: the contract. -/
import Derived.Test.YtdbngfeelfgbeaaDoorGXReadInstr18
import Derived.Test.YtdbngfeelfgbeaaDoorGXReadInstr24
import Derived.Test.YtdbngfeelfgbeaaDoorGXReadInstr25
import Derived.Test.YtdbngfeelfgbeaaDoorGXReadInstr23
import Derived.Test.YtdbngfeelfgbeaaDoorGXReadInstr10
import Derived.Deep.RegionHeld3
namespace Go.Proofs.YtdbngfeelfgbeaaDoor
open Go.RowKit
set_option linter.unusedVariables false

set_option maxRecDepth 100000 in
set_option maxHeartbeats 8000000 in
theorem rgt9 (op rd r1 r2 im c g h : Int) (hs : Hid (shT op = (9, c, g, h))) (h0 : 1 ≤ op) (h1 : op ≤ 64) (hrd : regB rd = true) (hr1 : regB r1 = true) (hr2 : regB r2 = true) (w : World) :
    Calls Tryd.prog 11 #[.agg #[.int .i64 op, .int .i64 rd, .int .i64 r1, .int .i64 r2, .int .i64 im]] w fun e w' => e = .returned (.bool (rightF 9 rd r1 r2 im)) ∧ Below w.heap.size w w' := by
  go_enter Tryd.func11, Tryd.ntmps11
  go_wp2_with (first | (go_at_call 23; refine (spOp1 _ _ true (.inl ⟨rfl, h0, h1⟩)).mono ?_; rintro e w2 ⟨rfl, rfl⟩) | (go_at_call 24; refine (spReg _ _).mono ?_; rintro e w2 ⟨rfl, rfl⟩) | (go_at_call 26; refine (spInB _ _ _ _).mono ?_; rintro e w2 ⟨rfl, rfl⟩))
  refine (specShs op 9 c g h _ hs.out).mono ?_
  rintro e w1 ⟨rfl, hb1⟩
  obtain ⟨hc1, hf1⟩ := bcell hb1
  have HB1 : Hid (Below w.heap.size w w1) := ((Below.refl _ _).alloc (Nat.le_refl _) _).trans (hb1.mono (by simp))
  clear hs hb1
  have hfd := shField0 9 c g h
  by_cases erd : rd = 0
  case neg =>
    have nrd : (rd == 0) = false := by simpa using erd
    go_wp2_with (first | (go_at_call 23; refine (spOp1 _ _ true (.inl ⟨rfl, h0, h1⟩)).mono ?_; rintro e w2 ⟨rfl, rfl⟩) | (go_at_call 24; refine (spReg _ _).mono ?_; rintro e w2 ⟨rfl, rfl⟩) | (go_at_call 26; refine (spInB _ _ _ _).mono ?_; rintro e w2 ⟨rfl, rfl⟩))
    go_ret
    exact ⟨congrArg (fun x => Ending.returned (.bool x)) (by simp [rightF, nrd]), HB1.out⟩
  subst erd
  by_cases er1 : r1 = 0
  case neg =>
    have nr1 : (r1 == 0) = false := by simpa using er1
    go_wp2_with (first | (go_at_call 23; refine (spOp1 _ _ true (.inl ⟨rfl, h0, h1⟩)).mono ?_; rintro e w2 ⟨rfl, rfl⟩) | (go_at_call 24; refine (spReg _ _).mono ?_; rintro e w2 ⟨rfl, rfl⟩) | (go_at_call 26; refine (spInB _ _ _ _).mono ?_; rintro e w2 ⟨rfl, rfl⟩))
    go_ret
    exact ⟨congrArg (fun x => Ending.returned (.bool x)) (by simp [rightF, nr1]), HB1.out⟩
  subst er1
  by_cases er2 : r2 = 0
  case neg =>
    have nr2 : (r2 == 0) = false := by simpa using er2
    go_wp2_with (first | (go_at_call 23; refine (spOp1 _ _ true (.inl ⟨rfl, h0, h1⟩)).mono ?_; rintro e w2 ⟨rfl, rfl⟩) | (go_at_call 24; refine (spReg _ _).mono ?_; rintro e w2 ⟨rfl, rfl⟩) | (go_at_call 26; refine (spInB _ _ _ _).mono ?_; rintro e w2 ⟨rfl, rfl⟩))
    go_ret
    exact ⟨congrArg (fun x => Ending.returned (.bool x)) (by simp [rightF, nr2]), HB1.out⟩
  subst er2
  go_wp2_with (first | (go_at_call 23; refine (spOp1 _ _ true (.inl ⟨rfl, h0, h1⟩)).mono ?_; rintro e w2 ⟨rfl, rfl⟩) | (go_at_call 24; refine (spReg _ _).mono ?_; rintro e w2 ⟨rfl, rfl⟩) | (go_at_call 26; refine (spInB _ _ _ _).mono ?_; rintro e w2 ⟨rfl, rfl⟩))
  go_ret
  exact ⟨congrArg (fun x => Ending.returned (.bool x)) (by simp [rightF]), HB1.out⟩
end Go.Proofs.YtdbngfeelfgbeaaDoor

namespace Go.Proofs.YtdbngfeelfgbeaaDoor
open Go.RowKit
set_option linter.unusedVariables false

theorem rgtYes (op rd r1 r2 im : Int) (h0 : 1 ≤ op) (h1 : op ≤ 64) (hrd : regB rd = true) (hr1 : regB r1 = true) (hr2 : regB r2 = true) (w : World) :
    Calls Tryd.prog 11 #[.agg #[.int .i64 op, .int .i64 rd, .int .i64 r1, .int .i64 r2, .int .i64 im]] w fun e w' => e = .returned (.bool (rightF (shT op).1 rd r1 r2 im)) ∧ Below w.heap.size w w' := by
  have hf := shT_form op h0 h1
  obtain ⟨f, c, g, h, hs⟩ : ∃ f c g h, shT op = (f, c, g, h) := ⟨_, _, _, _, rfl⟩
  rw [hs]
  rw [hs] at hf
  change 1 ≤ f ∧ f ≤ 9 at hf
  change Calls _ _ _ _ fun e w' => e = .returned (.bool (rightF f rd r1 r2 im)) ∧ Below w.heap.size w w'
  rcases (show f = 1 ∨ f = 2 ∨ f = 3 ∨ f = 4 ∨ f = 5 ∨ f = 6 ∨ f = 7 ∨ f = 8 ∨ f = 9 by omega) with rfl | rfl | rfl | rfl | rfl | rfl | rfl | rfl | rfl
  · exact rgt1 op rd r1 r2 im c g h hs h0 h1 hrd hr1 hr2 w
  · exact rgt2 op rd r1 r2 im c g h hs h0 h1 hrd hr1 hr2 w
  · exact rgt3 op rd r1 r2 im c g h hs h0 h1 hrd hr1 hr2 w
  · exact rgt4 op rd r1 r2 im c g h hs h0 h1 hrd hr1 hr2 w
  · exact rgt5 op rd r1 r2 im c g h hs h0 h1 hrd hr1 hr2 w
  · exact rgt6 op rd r1 r2 im c g h hs h0 h1 hrd hr1 hr2 w
  · exact rgt7 op rd r1 r2 im c g h hs h0 h1 hrd hr1 hr2 w
  · exact rgt8 op rd r1 r2 im c g h hs h0 h1 hrd hr1 hr2 w
  · exact rgt9 op rd r1 r2 im c g h hs h0 h1 hrd hr1 hr2 w

set_option maxHeartbeats 4000000 in
theorem rightC (op rd r1 r2 im : Int) (w : World) :
    Calls Tryd.prog 11 #[.agg #[.int .i64 op, .int .i64 rd, .int .i64 r1, .int .i64 r2, .int .i64 im]] w fun e w' => e = .returned (.bool (rightB op rd r1 r2 im)) ∧ Below w.heap.size w w' := by
  by_cases h : 1 ≤ op ∧ op ≤ 64
  case neg =>
    have hr : rightB op rd r1 r2 im = false := by
      unfold rightB
      rw [decide_eq_false h, Bool.false_and]
    have ho : op < 1 ∨ 64 < op := by omega
    clear h
    rw [hr]
    clear hr
    go_enter Tryd.func11, Tryd.ntmps11
    go_wp2_with (go_at_call 23; refine (spOp1 _ _ false (.inr ⟨rfl, ho⟩)).mono ?_; rintro e w2 ⟨rfl, rfl⟩; clear ho)
    go_ret
    exact ⟨rfl, (Below.refl _ _).alloc (Nat.le_refl _) _⟩
  obtain ⟨h0, h1⟩ := h
  have e1 : rightB op rd r1 r2 im = rightF (shT op).1 rd r1 r2 im := by
    unfold rightB
    rw [decide_eq_true ⟨h0, h1⟩, Bool.true_and]
  rw [e1]
  clear e1
  cases hrd : regB rd with
  | false =>
    rw [rightF_rd hrd]
    go_enter Tryd.func11, Tryd.ntmps11
    go_wp2_with (first | (go_at_call 23; refine (spOp1 _ _ true (.inl ⟨rfl, h0, h1⟩)).mono ?_; rintro e w2 ⟨rfl, rfl⟩) | (go_at_call 24; refine (spReg _ _).mono ?_; rintro e w2 ⟨rfl, rfl⟩))
    go_ret
    exact ⟨rfl, (Below.refl _ _).alloc (Nat.le_refl _) _⟩
  | true =>
    cases hr1 : regB r1 with
    | false =>
      rw [rightF_r1 hr1]
      go_enter Tryd.func11, Tryd.ntmps11
      go_wp2_with (first | (go_at_call 23; refine (spOp1 _ _ true (.inl ⟨rfl, h0, h1⟩)).mono ?_; rintro e w2 ⟨rfl, rfl⟩) | (go_at_call 24; refine (spReg _ _).mono ?_; rintro e w2 ⟨rfl, rfl⟩))
      go_ret
      exact ⟨rfl, (Below.refl _ _).alloc (Nat.le_refl _) _⟩
    | true =>
      cases hr2 : regB r2 with
      | false =>
        rw [rightF_r2 hr2]
        go_enter Tryd.func11, Tryd.ntmps11
        go_wp2_with (first | (go_at_call 23; refine (spOp1 _ _ true (.inl ⟨rfl, h0, h1⟩)).mono ?_; rintro e w2 ⟨rfl, rfl⟩) | (go_at_call 24; refine (spReg _ _).mono ?_; rintro e w2 ⟨rfl, rfl⟩))
        go_ret
        exact ⟨rfl, (Below.refl _ _).alloc (Nat.le_refl _) _⟩
      | true => exact rgtYes op rd r1 r2 im h0 h1 hrd hr1 hr2 w

set_option maxHeartbeats 1000000 in
theorem toInstrC (op rd r1 r2 im : Int) (w : World) :
    Calls Tryd.prog 6 #[.agg #[.int .i64 op, .int .i64 rd, .int .i64 r1, .int .i64 r2, .int .i64 im]] w fun e w' => e = .returned (.agg #[.int .i64 op, .int .i64 rd, .int .i64 r1, .int .i64 r2, .int .i64 im]) ∧ Below w.heap.size w w' := by
  go_enter Tryd.func6, Tryd.ntmps6
  go_wp2
  refine bodyPost_ret (v := .agg #[.int .i64 op, .int .i64 rd, .int .i64 r1, .int .i64 r2, .int .i64 im]) (by simp [results, Tryd.results6, go_sem]) rfl ⟨rfl, ?_⟩
  exact (((Below.refl _ _).alloc (Nat.le_refl _) _).alloc (by simp) _).alloc (by simp; omega) _
end Go.Proofs.YtdbngfeelfgbeaaDoor

namespace Go.Proofs.YtdbngfeelfgbeaaDoor.Tx
open Go.RowKit
set_option linter.unusedVariables false

set_option maxRecDepth 100000 in
set_option maxHeartbeats 8000000 in
theorem text1 (i : Nat) (n : List UInt8) (c g h rd r1 r2 im : Int) (hi : i < 64) (hn : Op.wordAt (i + 1) = txt n) (hnl : n.length ≤ 100) (hs : Hid (shT ((i : Int) + 1) = (1, c, g, h))) (hrd : In64 rd) (hr1 : In64 r1) (hr2 : In64 r2) (him : In64 im) (w : World) :
    Calls Tryd.prog 12 #[.agg #[.int .i64 ((i : Int) + 1), .int .i64 rd, .int .i64 r1, .int .i64 r2, .int .i64 im]] w fun e w' => e = .returned (.string (txt (textL 1 n rd r1 r2 im))) ∧ Below w.heap.size w w' := by
  have hc : ∀ w : World, (w.alloc (.cells Op.listVals.toArray 9)).cell? ⟨w.heap.size, i, none⟩ = some (.string (txt n)) := fun w => by rw [Op.cell_list w i hi, hn]
  have hi0 : (0 : Int) ≤ (i : Int) := by omega
  have hi1 : (i : Int) < 64 := by omega
  have hwi : wrap64 (i : Int) = (i : Int) := by unfold wrap64; omega
  have hwj : IntKind.i64.wrap (i : Int) = (i : Int) := wrap_i64 _ (by omega) (by omega)
  have hwk : IntKind.i64.wrap ((i : Int) + 1 - 1) = (i : Int) := by rw [show (i : Int) + 1 - 1 = i by omega]; exact hwj
  have hwl : (i : Int) + 1 - 1 = (i : Int) := by omega
  have hc1 : ∀ B : Obj, ((w.alloc B).alloc (.cells Op.listVals.toArray 9)).cell? ⟨w.heap.size + 1, i, none⟩ = some (.string (txt n)) := fun B => by
    have := hc (w.alloc B)
    rwa [World.size_alloc] at this
  have hp0 : ∀ w : World, (Op.stringOp .add { data := #[32] } (txt (Lib.itoa im))).run Tryd.prog w = .ok (.string (txt (immT im))) w := plus [32] (Lib.itoa im) (by have := itoa_len im him; simp; omega)
  have L1 := regT_len rd hrd
  have L2 := regT_len r1 hr1
  have L3 := regT_len r2 hr2
  have L4 := immT_len im him
  obtain ⟨T1, hT1⟩ : ∃ T, T = txt (n ++ regT rd) := ⟨_, rfl⟩
  have hp1 : ∀ w : World, (Op.stringOp .add (txt n) (txt (regT rd))).run Tryd.prog w = .ok (.string T1) w := by rw [hT1]; exact plus (n) (regT rd) (by first | omega | (simp; omega))
  obtain ⟨T2, hT2⟩ : ∃ T, T = txt (n ++ regT rd ++ immT im) := ⟨_, rfl⟩
  have hp2 : ∀ w : World, (Op.stringOp .add T1 (txt (immT im))).run Tryd.prog w = .ok (.string T2) w := by rw [hT1, hT2]; exact plus (n ++ regT rd) (immT im) (by first | omega | (simp; omega))
  have HT : Hid (T2 = txt (textL 1 n rd r1 r2 im)) := by rw [hT2]; simp [textL, Hid]
  clear hT1 hT2 L1 L2 L3 L4
  have hfd := shField0 1 c g h
  go_enter Tryd.func12, Tryd.ntmps12
  go_wp2_with fail
  go_region_with ((go_at_call 27; refine (Op.specList _).mono ?_; rintro e w1 ⟨rfl, rfl⟩))
  all_goals
    go_wp2_with fail
    refine (digitsC im him.1 him.2 _).mono ?_
    rintro e w2 ⟨rfl, hb2⟩
    have F2 : Five w2 w.heap.size ((i : Int) + 1) rd r1 r2 im := Five.below (by constructor <;> simp) hb2 (by simp <;> omega)
    have B2 : Below w.heap.size w w2 := Below.trans (by repeat (first | exact Below.refl _ _ | refine bdN ?_ _ | refine Below.drew ?_ | refine Below.alloc ?_ (by first | omega | (simp; done) | (simp; omega)) _)) (hb2.mono (by simp <;> omega))
    have z2 : w.heap.size < w2.heap.size := by have := hb2.size; simp at this; omega
    clear hb2 hc hc1 hwi hwj hwk hwl
    obtain ⟨c0, c1, c2, c3, c4, f0, f1, f2, f3, f4⟩ := F2
    have F2 : Hid (Five w2 w.heap.size ((i : Int) + 1) rd r1 r2 im) := ⟨c0, c1, c2, c3, c4, f0, f1, f2, f3, f4⟩
    go_wp2_with fail
    refine (specShs _ 1 c g h _ hs.out).mono ?_
    rintro e w3 ⟨rfl, hb3⟩
    have F3 : Hid (Five w3 w.heap.size ((i : Int) + 1) rd r1 r2 im) := F2.out.below hb3 z2
    have B3 : Below w.heap.size w w3 := B2.trans (hb3.mono B2.size)
    have z3 : w.heap.size < w3.heap.size := by have := hb3.size; omega
    clear hb3 c0 c1 c2 c3 c4 f0 f1 f2 f3 f4 F2 B2 z2
    obtain ⟨c0, c1, c2, c3, c4, f0, f1, f2, f3, f4⟩ := F3.out
    clear c0 c4 f0 f1 f2 f3 f4
    go_wp2_with fail
    refine (regC rd hrd _).mono ?_
    rintro e w4 ⟨rfl, hb4⟩
    have B4 : Below w.heap.size w w4 := B3.trans (hb4.mono B3.size)
    clear hb4 B3
    go_wp2
    go_ret
    exact ⟨congrArg (fun x => Ending.returned (.string x)) HT.out, B4⟩
end Go.Proofs.YtdbngfeelfgbeaaDoor.Tx

namespace Go.Proofs.YtdbngfeelfgbeaaDoor.Tx
open Go.RowKit
set_option linter.unusedVariables false

set_option maxRecDepth 100000 in
set_option maxHeartbeats 8000000 in
theorem text2 (i : Nat) (n : List UInt8) (c g h rd r1 r2 im : Int) (hi : i < 64) (hn : Op.wordAt (i + 1) = txt n) (hnl : n.length ≤ 100) (hs : Hid (shT ((i : Int) + 1) = (2, c, g, h))) (hrd : In64 rd) (hr1 : In64 r1) (hr2 : In64 r2) (him : In64 im) (w : World) :
    Calls Tryd.prog 12 #[.agg #[.int .i64 ((i : Int) + 1), .int .i64 rd, .int .i64 r1, .int .i64 r2, .int .i64 im]] w fun e w' => e = .returned (.string (txt (textL 2 n rd r1 r2 im))) ∧ Below w.heap.size w w' := by
  have hc : ∀ w : World, (w.alloc (.cells Op.listVals.toArray 9)).cell? ⟨w.heap.size, i, none⟩ = some (.string (txt n)) := fun w => by rw [Op.cell_list w i hi, hn]
  have hi0 : (0 : Int) ≤ (i : Int) := by omega
  have hi1 : (i : Int) < 64 := by omega
  have hwi : wrap64 (i : Int) = (i : Int) := by unfold wrap64; omega
  have hwj : IntKind.i64.wrap (i : Int) = (i : Int) := wrap_i64 _ (by omega) (by omega)
  have hwk : IntKind.i64.wrap ((i : Int) + 1 - 1) = (i : Int) := by rw [show (i : Int) + 1 - 1 = i by omega]; exact hwj
  have hwl : (i : Int) + 1 - 1 = (i : Int) := by omega
  have hc1 : ∀ B : Obj, ((w.alloc B).alloc (.cells Op.listVals.toArray 9)).cell? ⟨w.heap.size + 1, i, none⟩ = some (.string (txt n)) := fun B => by
    have := hc (w.alloc B)
    rwa [World.size_alloc] at this
  have hp0 : ∀ w : World, (Op.stringOp .add { data := #[32] } (txt (Lib.itoa im))).run Tryd.prog w = .ok (.string (txt (immT im))) w := plus [32] (Lib.itoa im) (by have := itoa_len im him; simp; omega)
  have L1 := regT_len rd hrd
  have L2 := regT_len r1 hr1
  have L3 := regT_len r2 hr2
  have L4 := immT_len im him
  obtain ⟨T1, hT1⟩ : ∃ T, T = txt (n ++ regT rd) := ⟨_, rfl⟩
  have hp1 : ∀ w : World, (Op.stringOp .add (txt n) (txt (regT rd))).run Tryd.prog w = .ok (.string T1) w := by rw [hT1]; exact plus (n) (regT rd) (by first | omega | (simp; omega))
  obtain ⟨T2, hT2⟩ : ∃ T, T = txt (n ++ regT rd ++ immT im) := ⟨_, rfl⟩
  have hp2 : ∀ w : World, (Op.stringOp .add T1 (txt (immT im))).run Tryd.prog w = .ok (.string T2) w := by rw [hT1, hT2]; exact plus (n ++ regT rd) (immT im) (by first | omega | (simp; omega))
  have HT : Hid (T2 = txt (textL 2 n rd r1 r2 im)) := by rw [hT2]; simp [textL, Hid]
  clear hT1 hT2 L1 L2 L3 L4
  have hfd := shField0 2 c g h
  go_enter Tryd.func12, Tryd.ntmps12
  go_wp2_with fail
  go_region_with ((go_at_call 27; refine (Op.specList _).mono ?_; rintro e w1 ⟨rfl, rfl⟩))
  all_goals
    go_wp2_with fail
    refine (digitsC im him.1 him.2 _).mono ?_
    rintro e w2 ⟨rfl, hb2⟩
    have F2 : Five w2 w.heap.size ((i : Int) + 1) rd r1 r2 im := Five.below (by constructor <;> simp) hb2 (by simp <;> omega)
    have B2 : Below w.heap.size w w2 := Below.trans (by repeat (first | exact Below.refl _ _ | refine bdN ?_ _ | refine Below.drew ?_ | refine Below.alloc ?_ (by first | omega | (simp; done) | (simp; omega)) _)) (hb2.mono (by simp <;> omega))
    have z2 : w.heap.size < w2.heap.size := by have := hb2.size; simp at this; omega
    clear hb2 hc hc1 hwi hwj hwk hwl
    obtain ⟨c0, c1, c2, c3, c4, f0, f1, f2, f3, f4⟩ := F2
    have F2 : Hid (Five w2 w.heap.size ((i : Int) + 1) rd r1 r2 im) := ⟨c0, c1, c2, c3, c4, f0, f1, f2, f3, f4⟩
    go_wp2_with fail
    refine (specShs _ 2 c g h _ hs.out).mono ?_
    rintro e w3 ⟨rfl, hb3⟩
    have F3 : Hid (Five w3 w.heap.size ((i : Int) + 1) rd r1 r2 im) := F2.out.below hb3 z2
    have B3 : Below w.heap.size w w3 := B2.trans (hb3.mono B2.size)
    have z3 : w.heap.size < w3.heap.size := by have := hb3.size; omega
    clear hb3 c0 c1 c2 c3 c4 f0 f1 f2 f3 f4 F2 B2 z2
    obtain ⟨c0, c1, c2, c3, c4, f0, f1, f2, f3, f4⟩ := F3.out
    clear c0 c4 f0 f1 f2 f3 f4
    go_wp2_with fail
    refine (regC rd hrd _).mono ?_
    rintro e w4 ⟨rfl, hb4⟩
    have B4 : Below w.heap.size w w4 := B3.trans (hb4.mono B3.size)
    clear hb4 B3
    go_wp2
    go_ret
    exact ⟨congrArg (fun x => Ending.returned (.string x)) HT.out, B4⟩
end Go.Proofs.YtdbngfeelfgbeaaDoor.Tx
