/- The text of an instruction in the model, form 7: the contract. The text of an instruction in the model, form 8: the contract. The text of an instruction in the model, form 9: the contract. InstrText of both: contracts. A struct of five ints, by value, that comes in: opened and shut. -/
import Derived.Test.YtjpdjalhhokghaaDoorGXInstrText20
import Derived.Test.YtjpdjalhhokghaaDoorGXInstrText25
import Derived.Test.YtjpdjalhhokghaaDoorGXInstrText10
import Derived.Deep.RegionHeld3
import Derived.Test.YtjpdjalhhokghaaDoorGXInstrText27
import Derived.Test.YtjpdjalhhokghaaDoorGXInstrText32
import Derived.DataShut
import Derived.Test.YtjpdjalhhokghaaDoorGXInstrText33
import Derived.Test.YtjpdjalhhokghaaDoorGXInstrText34
import Derived.Test.YtjpdjalhhokghaaDoorGXInstrText35
import Derived.Test.YtjpdjalhhokghaaDoorGXInstrText36
import Derived.Test.YtjpdjalhhokghaaDoorGXInstrText37
import Derived.Test.YtjpdjalhhokghaaDoorGXInstrText38
import Derived.Deep.Fields
import Derived.ChangeSame
import Derived.ChangeArms
import Derived.WideShapes
import Derived.OpenShut
import Derived.WalkKit
namespace Go.Proofs.YtjpdjalhhokghaaDoor.Tx
open Go.RowKit
set_option linter.unusedVariables false

set_option maxRecDepth 100000 in
set_option maxHeartbeats 8000000 in
theorem text7 (i : Nat) (n : List UInt8) (c g h rd r1 r2 im : Int) (hi : i < 64) (hn : Op.wordAt (i + 1) = txt n) (hnl : n.length ≤ 100) (hs : Hid (shT ((i : Int) + 1) = (7, c, g, h))) (hrd : In64 rd) (hr1 : In64 r1) (hr2 : In64 r2) (him : In64 im) (w : World) :
    Calls Tryd.prog 77 #[.agg #[.int .i64 ((i : Int) + 1), .int .i64 rd, .int .i64 r1, .int .i64 r2, .int .i64 im]] w fun e w' => e = .returned (.string (txt (textL 7 n rd r1 r2 im))) ∧ Below w.heap.size w w' := by
  have hc : ∀ w : World, (w.alloc (.cells Op.listVals.toArray 9)).cell? ⟨w.heap.size, i, none⟩ = some (.string (txt n)) := fun w => by rw [Op.cell_list w i hi, hn]
  have hi0 : (0 : Int) ≤ (i : Int) := by omega
  have hi1 : (i : Int) < 64 := by omega
  have hwi : wrap64 (i : Int) = (i : Int) := by unfold wrap64; omega
  have hwj : IntKind.i64.wrap (i : Int) = (i : Int) := wrap_i64 _ (by omega) (by omega)
  have hwk : IntKind.i64.wrap ((i : Int) + 1 - 1) = (i : Int) := by rw [show (i : Int) + 1 - 1 = i by omega]; exact hwj
  have hwl : (i : Int) + 1 - 1 = (i : Int) := by omega
  have hc1 : ∀ B : Obj, ((w.alloc B).alloc (.cells Op.listVals.toArray 9)).cell? ⟨w.heap.size + 1, i, none⟩ = some (.string (txt n)) := fun B => by
    have := hc (w.alloc B)
    rwa [World.size_alloc] at this
  have hp0 : ∀ w : World, (Op.stringOp .add { data := #[32] } (txt (Lib.itoa im))).run Tryd.prog w = .ok (.string (txt (immT im))) w := plus [32] (Lib.itoa im) (by have := itoa_len im him; simp; omega)
  have L1 := regT_len rd hrd
  have L2 := regT_len r1 hr1
  have L3 := regT_len r2 hr2
  have L4 := immT_len im him
  obtain ⟨T1, hT1⟩ : ∃ T, T = txt (n ++ regT rd) := ⟨_, rfl⟩
  have hp1 : ∀ w : World, (Op.stringOp .add (txt n) (txt (regT rd))).run Tryd.prog w = .ok (.string T1) w := by rw [hT1]; exact plus (n) (regT rd) (by first | omega | (simp; omega))
  obtain ⟨T2, hT2⟩ : ∃ T, T = txt (n ++ regT rd ++ regT r1) := ⟨_, rfl⟩
  have hp2 : ∀ w : World, (Op.stringOp .add T1 (txt (regT r1))).run Tryd.prog w = .ok (.string T2) w := by rw [hT1, hT2]; exact plus (n ++ regT rd) (regT r1) (by first | omega | (simp; omega))
  obtain ⟨T3, hT3⟩ : ∃ T, T = txt (n ++ regT rd ++ regT r1 ++ immT im) := ⟨_, rfl⟩
  have hp3 : ∀ w : World, (Op.stringOp .add T2 (txt (immT im))).run Tryd.prog w = .ok (.string T3) w := by rw [hT2, hT3]; exact plus (n ++ regT rd ++ regT r1) (immT im) (by first | omega | (simp; omega))
  have HT : Hid (T3 = txt (textL 7 n rd r1 r2 im)) := by rw [hT3]; simp [textL, Hid]
  clear hT1 hT2 hT3 L1 L2 L3 L4
  have hfd := shField0 7 c g h
  go_enter Tryd.func77, Tryd.ntmps77
  go_wp2_with fail
  go_region_with ((go_at_call 108; refine (Op.specList _).mono ?_; rintro e w1 ⟨rfl, rfl⟩))
  all_goals
    go_wp2_with fail
    refine (digitsC im him.1 him.2 _).mono ?_
    rintro e w2 ⟨rfl, hb2⟩
    have F2 : Five w2 w.heap.size ((i : Int) + 1) rd r1 r2 im := Five.below (by constructor <;> simp) hb2 (by simp <;> omega)
    have B2 : Below w.heap.size w w2 := Below.trans (by repeat (first | exact Below.refl _ _ | refine bdN ?_ _ | refine Below.drew ?_ | refine Below.alloc ?_ (by first | omega | (simp; done) | (simp; omega)) _)) (hb2.mono (by simp <;> omega))
    have z2 : w.heap.size < w2.heap.size := by have := hb2.size; simp at this; omega
    clear hb2 hc hc1 hwi hwj hwk hwl
    obtain ⟨c0, c1, c2, c3, c4, f0, f1, f2, f3, f4⟩ := F2
    have F2 : Hid (Five w2 w.heap.size ((i : Int) + 1) rd r1 r2 im) := ⟨c0, c1, c2, c3, c4, f0, f1, f2, f3, f4⟩
    go_wp2_with fail
    refine (specShs _ 7 c g h _ hs.out).mono ?_
    rintro e w3 ⟨rfl, hb3⟩
    have F3 : Hid (Five w3 w.heap.size ((i : Int) + 1) rd r1 r2 im) := F2.out.below hb3 z2
    have B3 : Below w.heap.size w w3 := B2.trans (hb3.mono B2.size)
    have z3 : w.heap.size < w3.heap.size := by have := hb3.size; omega
    clear hb3 c0 c1 c2 c3 c4 f0 f1 f2 f3 f4 F2 B2 z2
    obtain ⟨c0, c1, c2, c3, c4, f0, f1, f2, f3, f4⟩ := F3.out
    clear c0 c4 f0 f1 f2 f3 f4
    go_wp2_with fail
    go_region_held3 (fun wx => wx.cell? ⟨w.heap.size, 1, none⟩ = some (.int .i64 rd) ∧ wx.cell? ⟨w.heap.size, 2, none⟩ = some (.int .i64 r1)) (go_keep) (first | (go_at_call 110; refine (regC rd hrd _).mono ?_; rintro e w4 ⟨rfl, hb4⟩; have F4 : Hid (Five w4 w.heap.size ((i : Int) + 1) rd r1 r2 im) := (by first | exact F3.out.below hb4 z3 | exact F3.out.drew.below hb4 z3); have B4 : Below w.heap.size w w4 := (by first | exact B3.trans (hb4.mono B3.size) | exact B3.drew.trans (hb4.mono B3.size)); have z4 : w.heap.size < w4.heap.size := Nat.lt_of_lt_of_le z3 hb4.size; have q41 := F4.out.c1; have q42 := F4.out.c2) | (go_at_call 110; refine (regC r1 hr1 _).mono ?_; rintro e w5 ⟨rfl, hb5⟩; have F5 : Hid (Five w5 w.heap.size ((i : Int) + 1) rd r1 r2 im) := (by first | exact F4.out.below hb5 z4 | exact F4.out.drew.below hb5 z4); have B5 : Below w.heap.size w w5 := (by first | exact B4.trans (hb5.mono B4.size) | exact B4.drew.trans (hb5.mono B4.size)); have z5 : w.heap.size < w5.heap.size := Nat.lt_of_lt_of_le z4 hb5.size; have q51 := F5.out.c1; have q52 := F5.out.c2))
    all_goals
      go_wp2
      go_ret
      refine ⟨congrArg (fun x => Ending.returned (.string x)) HT.out, ?_⟩
      repeat (first | exact B5 | refine bdN ?_ _ | refine Below.drew ?_)
end Go.Proofs.YtjpdjalhhokghaaDoor.Tx

namespace Go.Proofs.YtjpdjalhhokghaaDoor.Tx
open Go.RowKit
set_option linter.unusedVariables false

set_option maxRecDepth 100000 in
set_option maxHeartbeats 8000000 in
theorem text8 (i : Nat) (n : List UInt8) (c g h rd r1 r2 im : Int) (hi : i < 64) (hn : Op.wordAt (i + 1) = txt n) (hnl : n.length ≤ 100) (hs : Hid (shT ((i : Int) + 1) = (8, c, g, h))) (hrd : In64 rd) (hr1 : In64 r1) (hr2 : In64 r2) (him : In64 im) (w : World) :
    Calls Tryd.prog 77 #[.agg #[.int .i64 ((i : Int) + 1), .int .i64 rd, .int .i64 r1, .int .i64 r2, .int .i64 im]] w fun e w' => e = .returned (.string (txt (textL 8 n rd r1 r2 im))) ∧ Below w.heap.size w w' := by
  have hc : ∀ w : World, (w.alloc (.cells Op.listVals.toArray 9)).cell? ⟨w.heap.size, i, none⟩ = some (.string (txt n)) := fun w => by rw [Op.cell_list w i hi, hn]
  have hi0 : (0 : Int) ≤ (i : Int) := by omega
  have hi1 : (i : Int) < 64 := by omega
  have hwi : wrap64 (i : Int) = (i : Int) := by unfold wrap64; omega
  have hwj : IntKind.i64.wrap (i : Int) = (i : Int) := wrap_i64 _ (by omega) (by omega)
  have hwk : IntKind.i64.wrap ((i : Int) + 1 - 1) = (i : Int) := by rw [show (i : Int) + 1 - 1 = i by omega]; exact hwj
  have hwl : (i : Int) + 1 - 1 = (i : Int) := by omega
  have hc1 : ∀ B : Obj, ((w.alloc B).alloc (.cells Op.listVals.toArray 9)).cell? ⟨w.heap.size + 1, i, none⟩ = some (.string (txt n)) := fun B => by
    have := hc (w.alloc B)
    rwa [World.size_alloc] at this
  have hp0 : ∀ w : World, (Op.stringOp .add { data := #[32] } (txt (Lib.itoa im))).run Tryd.prog w = .ok (.string (txt (immT im))) w := plus [32] (Lib.itoa im) (by have := itoa_len im him; simp; omega)
  have L1 := regT_len rd hrd
  have L2 := regT_len r1 hr1
  have L3 := regT_len r2 hr2
  have L4 := immT_len im him
  obtain ⟨T1, hT1⟩ : ∃ T, T = txt (n ++ regT rd) := ⟨_, rfl⟩
  have hp1 : ∀ w : World, (Op.stringOp .add (txt n) (txt (regT rd))).run Tryd.prog w = .ok (.string T1) w := by rw [hT1]; exact plus (n) (regT rd) (by first | omega | (simp; omega))
  obtain ⟨T2, hT2⟩ : ∃ T, T = txt (n ++ regT rd ++ regT r1) := ⟨_, rfl⟩
  have hp2 : ∀ w : World, (Op.stringOp .add T1 (txt (regT r1))).run Tryd.prog w = .ok (.string T2) w := by rw [hT1, hT2]; exact plus (n ++ regT rd) (regT r1) (by first | omega | (simp; omega))
  obtain ⟨T3, hT3⟩ : ∃ T, T = txt (n ++ regT rd ++ regT r1 ++ regT r2) := ⟨_, rfl⟩
  have hp3 : ∀ w : World, (Op.stringOp .add T2 (txt (regT r2))).run Tryd.prog w = .ok (.string T3) w := by rw [hT2, hT3]; exact plus (n ++ regT rd ++ regT r1) (regT r2) (by first | omega | (simp; omega))
  have HT : Hid (T3 = txt (textL 8 n rd r1 r2 im)) := by rw [hT3]; simp [textL, Hid]
  clear hT1 hT2 hT3 L1 L2 L3 L4
  have hfd := shField0 8 c g h
  go_enter Tryd.func77, Tryd.ntmps77
  go_wp2_with fail
  go_region_with ((go_at_call 108; refine (Op.specList _).mono ?_; rintro e w1 ⟨rfl, rfl⟩))
  all_goals
    go_wp2_with fail
    refine (digitsC im him.1 him.2 _).mono ?_
    rintro e w2 ⟨rfl, hb2⟩
    have F2 : Five w2 w.heap.size ((i : Int) + 1) rd r1 r2 im := Five.below (by constructor <;> simp) hb2 (by simp <;> omega)
    have B2 : Below w.heap.size w w2 := Below.trans (by repeat (first | exact Below.refl _ _ | refine bdN ?_ _ | refine Below.drew ?_ | refine Below.alloc ?_ (by first | omega | (simp; done) | (simp; omega)) _)) (hb2.mono (by simp <;> omega))
    have z2 : w.heap.size < w2.heap.size := by have := hb2.size; simp at this; omega
    clear hb2 hc hc1 hwi hwj hwk hwl
    obtain ⟨c0, c1, c2, c3, c4, f0, f1, f2, f3, f4⟩ := F2
    have F2 : Hid (Five w2 w.heap.size ((i : Int) + 1) rd r1 r2 im) := ⟨c0, c1, c2, c3, c4, f0, f1, f2, f3, f4⟩
    go_wp2_with fail
    refine (specShs _ 8 c g h _ hs.out).mono ?_
    rintro e w3 ⟨rfl, hb3⟩
    have F3 : Hid (Five w3 w.heap.size ((i : Int) + 1) rd r1 r2 im) := F2.out.below hb3 z2
    have B3 : Below w.heap.size w w3 := B2.trans (hb3.mono B2.size)
    have z3 : w.heap.size < w3.heap.size := by have := hb3.size; omega
    clear hb3 c0 c1 c2 c3 c4 f0 f1 f2 f3 f4 F2 B2 z2
    obtain ⟨c0, c1, c2, c3, c4, f0, f1, f2, f3, f4⟩ := F3.out
    clear c0 c4 f0 f1 f2 f3 f4
    go_wp2_with fail
    go_region_held3 (fun wx => wx.cell? ⟨w.heap.size, 1, none⟩ = some (.int .i64 rd) ∧ wx.cell? ⟨w.heap.size, 2, none⟩ = some (.int .i64 r1) ∧ wx.cell? ⟨w.heap.size, 3, none⟩ = some (.int .i64 r2)) (go_keep) (first | (go_at_call 110; refine (regC rd hrd _).mono ?_; rintro e w4 ⟨rfl, hb4⟩; have F4 : Hid (Five w4 w.heap.size ((i : Int) + 1) rd r1 r2 im) := (by first | exact F3.out.below hb4 z3 | exact F3.out.drew.below hb4 z3); have B4 : Below w.heap.size w w4 := (by first | exact B3.trans (hb4.mono B3.size) | exact B3.drew.trans (hb4.mono B3.size)); have z4 : w.heap.size < w4.heap.size := Nat.lt_of_lt_of_le z3 hb4.size; have q41 := F4.out.c1; have q42 := F4.out.c2; have q43 := F4.out.c3) | (go_at_call 110; refine (regC r1 hr1 _).mono ?_; rintro e w5 ⟨rfl, hb5⟩; have F5 : Hid (Five w5 w.heap.size ((i : Int) + 1) rd r1 r2 im) := (by first | exact F4.out.below hb5 z4 | exact F4.out.drew.below hb5 z4); have B5 : Below w.heap.size w w5 := (by first | exact B4.trans (hb5.mono B4.size) | exact B4.drew.trans (hb5.mono B4.size)); have z5 : w.heap.size < w5.heap.size := Nat.lt_of_lt_of_le z4 hb5.size; have q51 := F5.out.c1; have q52 := F5.out.c2; have q53 := F5.out.c3) | (go_at_call 110; refine (regC r2 hr2 _).mono ?_; rintro e w6 ⟨rfl, hb6⟩; have F6 : Hid (Five w6 w.heap.size ((i : Int) + 1) rd r1 r2 im) := (by first | exact F5.out.below hb6 z5 | exact F5.out.drew.below hb6 z5); have B6 : Below w.heap.size w w6 := (by first | exact B5.trans (hb6.mono B5.size) | exact B5.drew.trans (hb6.mono B5.size)); have z6 : w.heap.size < w6.heap.size := Nat.lt_of_lt_of_le z5 hb6.size; have q61 := F6.out.c1; have q62 := F6.out.c2; have q63 := F6.out.c3))
    all_goals
      go_wp2
      go_ret
      refine ⟨congrArg (fun x => Ending.returned (.string x)) HT.out, ?_⟩
      repeat (first | exact B6 | refine bdN ?_ _ | refine Below.drew ?_)
end Go.Proofs.YtjpdjalhhokghaaDoor.Tx

namespace Go.Proofs.YtjpdjalhhokghaaDoor.Tx
open Go.RowKit
set_option linter.unusedVariables false

set_option maxRecDepth 100000 in
set_option maxHeartbeats 8000000 in
theorem text9 (i : Nat) (n : List UInt8) (c g h rd r1 r2 im : Int) (hi : i < 64) (hn : Op.wordAt (i + 1) = txt n) (hnl : n.length ≤ 100) (hs : Hid (shT ((i : Int) + 1) = (9, c, g, h))) (hrd : In64 rd) (hr1 : In64 r1) (hr2 : In64 r2) (him : In64 im) (w : World) :
    Calls Tryd.prog 77 #[.agg #[.int .i64 ((i : Int) + 1), .int .i64 rd, .int .i64 r1, .int .i64 r2, .int .i64 im]] w fun e w' => e = .returned (.string (txt (textL 9 n rd r1 r2 im))) ∧ Below w.heap.size w w' := by
  have hc : ∀ w : World, (w.alloc (.cells Op.listVals.toArray 9)).cell? ⟨w.heap.size, i, none⟩ = some (.string (txt n)) := fun w => by rw [Op.cell_list w i hi, hn]
  have hi0 : (0 : Int) ≤ (i : Int) := by omega
  have hi1 : (i : Int) < 64 := by omega
  have hwi : wrap64 (i : Int) = (i : Int) := by unfold wrap64; omega
  have hwj : IntKind.i64.wrap (i : Int) = (i : Int) := wrap_i64 _ (by omega) (by omega)
  have hwk : IntKind.i64.wrap ((i : Int) + 1 - 1) = (i : Int) := by rw [show (i : Int) + 1 - 1 = i by omega]; exact hwj
  have hwl : (i : Int) + 1 - 1 = (i : Int) := by omega
  have hc1 : ∀ B : Obj, ((w.alloc B).alloc (.cells Op.listVals.toArray 9)).cell? ⟨w.heap.size + 1, i, none⟩ = some (.string (txt n)) := fun B => by
    have := hc (w.alloc B)
    rwa [World.size_alloc] at this
  have hp0 : ∀ w : World, (Op.stringOp .add { data := #[32] } (txt (Lib.itoa im))).run Tryd.prog w = .ok (.string (txt (immT im))) w := plus [32] (Lib.itoa im) (by have := itoa_len im him; simp; omega)
  have L1 := regT_len rd hrd
  have L2 := regT_len r1 hr1
  have L3 := regT_len r2 hr2
  have L4 := immT_len im him
  have HT : Hid (txt n = txt (textL 9 n rd r1 r2 im)) := by simp [textL, Hid]
  clear  L1 L2 L3 L4
  have hfd := shField0 9 c g h
  go_enter Tryd.func77, Tryd.ntmps77
  go_wp2_with fail
  go_region_with ((go_at_call 108; refine (Op.specList _).mono ?_; rintro e w1 ⟨rfl, rfl⟩))
  all_goals
    go_wp2_with fail
    refine (digitsC im him.1 him.2 _).mono ?_
    rintro e w2 ⟨rfl, hb2⟩
    have F2 : Five w2 w.heap.size ((i : Int) + 1) rd r1 r2 im := Five.below (by constructor <;> simp) hb2 (by simp <;> omega)
    have B2 : Below w.heap.size w w2 := Below.trans (by repeat (first | exact Below.refl _ _ | refine bdN ?_ _ | refine Below.drew ?_ | refine Below.alloc ?_ (by first | omega | (simp; done) | (simp; omega)) _)) (hb2.mono (by simp <;> omega))
    have z2 : w.heap.size < w2.heap.size := by have := hb2.size; simp at this; omega
    clear hb2 hc hc1 hwi hwj hwk hwl
    obtain ⟨c0, c1, c2, c3, c4, f0, f1, f2, f3, f4⟩ := F2
    have F2 : Hid (Five w2 w.heap.size ((i : Int) + 1) rd r1 r2 im) := ⟨c0, c1, c2, c3, c4, f0, f1, f2, f3, f4⟩
    go_wp2_with fail
    refine (specShs _ 9 c g h _ hs.out).mono ?_
    rintro e w3 ⟨rfl, hb3⟩
    have F3 : Hid (Five w3 w.heap.size ((i : Int) + 1) rd r1 r2 im) := F2.out.below hb3 z2
    have B3 : Below w.heap.size w w3 := B2.trans (hb3.mono B2.size)
    have z3 : w.heap.size < w3.heap.size := by have := hb3.size; omega
    clear hb3 c0 c1 c2 c3 c4 f0 f1 f2 f3 f4 F2 B2 z2
    obtain ⟨c0, c1, c2, c3, c4, f0, f1, f2, f3, f4⟩ := F3.out
    clear c0 c4 f0 f1 f2 f3 f4
    go_wp2
    go_ret
    exact ⟨congrArg (fun x => Ending.returned (.string x)) HT.out, B3⟩
end Go.Proofs.YtjpdjalhhokghaaDoor.Tx

namespace Go.Proofs.YtjpdjalhhokghaaDoor.Tx
open Go.RowKit
set_option linter.unusedVariables false

theorem in64_of {a : Int} (h : (Lit.int .i64 a).wf = true) : In64 a := by
  have h := (Lit.wf_int_iff _ _).1 h
  rw [IntKind.min_i64, IntKind.max_i64] at h
  exact h
theorem names_short (i : Nat) (h : i < 65) : (Op.words.getD i []).length ≤ 100 := by
  have key : ∀ j : Nat, j < 65 → (Op.words.getD j []).length ≤ 100 := by decide +kernel
  exact key i h

/-- The text of an instruction, and the code beside it. -/
def textB (op rd r1 r2 im : Int) : List UInt8 := textL (shT op).1 (Op.words.getD op.toNat []) rd r1 r2 im
def ansB (op rd r1 r2 im : Int) : ByteArray := if rightB op rd r1 r2 im = true then txt (textB op rd r1 r2 im) else { data := #[] }
def ansC (op rd r1 r2 im : Int) : Int := if rightB op rd r1 r2 im = true then 0 else 1

theorem textAny (op rd r1 r2 im : Int) (h0 : 1 ≤ op) (h1 : op ≤ 64) (hrd : In64 rd) (hr1 : In64 r1) (hr2 : In64 r2) (him : In64 im) (w : World) :
    Calls Tryd.prog 77 #[.agg #[.int .i64 op, .int .i64 rd, .int .i64 r1, .int .i64 r2, .int .i64 im]] w fun e w' => e = .returned (.string (txt (textB op rd r1 r2 im))) ∧ Below w.heap.size w w' := by
  have hf := shT_form op h0 h1
  unfold textB
  obtain ⟨i, rfl⟩ : ∃ i : Nat, op = (i : Int) + 1 := ⟨(op - 1).toNat, by omega⟩
  have hi : i < 64 := by omega
  rw [show ((i : Int) + 1).toNat = i + 1 by omega]
  have hn : Op.wordAt (i + 1) = txt (Op.words.getD (i + 1) []) := rfl
  have hnl := names_short (i + 1) (by omega)
  obtain ⟨f, c, g, h, hs⟩ : ∃ f c g h, shT ((i : Int) + 1) = (f, c, g, h) := ⟨_, _, _, _, rfl⟩
  rw [hs] at hf ⊢
  change 1 ≤ f ∧ f ≤ 9 at hf
  change Calls _ _ _ _ fun e w' => e = .returned (.string (txt (textL f _ rd r1 r2 im))) ∧ Below w.heap.size w w'
  rcases (show f = 1 ∨ f = 2 ∨ f = 3 ∨ f = 4 ∨ f = 5 ∨ f = 6 ∨ f = 7 ∨ f = 8 ∨ f = 9 by omega) with rfl | rfl | rfl | rfl | rfl | rfl | rfl | rfl | rfl
  · exact text1 i _ c g h rd r1 r2 im hi hn hnl hs hrd hr1 hr2 him w
  · exact text2 i _ c g h rd r1 r2 im hi hn hnl hs hrd hr1 hr2 him w
  · exact text3 i _ c g h rd r1 r2 im hi hn hnl hs hrd hr1 hr2 him w
  · exact text4 i _ c g h rd r1 r2 im hi hn hnl hs hrd hr1 hr2 him w
  · exact text5 i _ c g h rd r1 r2 im hi hn hnl hs hrd hr1 hr2 him w
  · exact text6 i _ c g h rd r1 r2 im hi hn hnl hs hrd hr1 hr2 him w
  · exact text7 i _ c g h rd r1 r2 im hi hn hnl hs hrd hr1 hr2 him w
  · exact text8 i _ c g h rd r1 r2 im hi hn hnl hs hrd hr1 hr2 him w
  · exact text9 i _ c g h rd r1 r2 im hi hn hnl hs hrd hr1 hr2 him w

theorem right_op {op rd r1 r2 im : Int} (h : rightB op rd r1 r2 im = true) : 1 ≤ op ∧ op ≤ 64 := by
  unfold rightB at h
  exact of_decide_eq_true (Bool.and_eq_true_iff.1 h).1

theorem specTextC (op rd r1 r2 im : Int) (hrd : In64 rd) (hr1 : In64 r1) (hr2 : In64 r2) (him : In64 im) (w : World) :
    Calls Tryd.prog 34 #[.agg #[.int .i64 op, .int .i64 rd, .int .i64 r1, .int .i64 r2, .int .i64 im]] w fun e w' => e = .returned (.tuple #[.string (ansB op rd r1 r2 im), .int .i64 (ansC op rd r1 r2 im)]) ∧ Below w.heap.size w w' := by
  unfold ansB ansC
  cases hr : rightB op rd r1 r2 im with
  | false =>
    go_enter Tryd.func34, Tryd.ntmps34
    go_wp2_with fail
    refine (rightC op rd r1 r2 im _).mono ?_
    rintro e w1 ⟨rfl, hb1⟩
    rw [hr]
    have HB1 : Hid (Below w.heap.size w w1) := ((Below.refl _ _).alloc (Nat.le_refl _) _).trans (hb1.mono (by simp))
    clear hb1 hr
    go_wp2
    go_ret2
    exact ⟨rfl, HB1.out⟩
  | true =>
    obtain ⟨h0, h1⟩ := right_op hr
    have HT : Hid (∀ w, Calls Tryd.prog 77 #[.agg #[.int .i64 op, .int .i64 rd, .int .i64 r1, .int .i64 r2, .int .i64 im]] w fun e w' => e = .returned (.string (txt (textB op rd r1 r2 im))) ∧ Below w.heap.size w w') := textAny op rd r1 r2 im h0 h1 hrd hr1 hr2 him
    clear h0 h1
    go_enter Tryd.func34, Tryd.ntmps34
    go_wp2_with fail
    refine (rightC op rd r1 r2 im _).mono ?_
    rintro e w1 ⟨rfl, hb1⟩
    rw [hr]
    obtain ⟨hc1, hf1⟩ := bcell hb1
    have HB1 : Below w.heap.size w w1 := ((Below.refl _ _).alloc (Nat.le_refl _) _).trans (hb1.mono (by simp))
    clear hb1 hr
    go_wp2_with fail
    refine (HT.out _).mono ?_
    rintro e w2 ⟨rfl, hb2⟩
    have HB2 : Hid (Below w.heap.size w w2) := HB1.trans (hb2.mono HB1.size)
    clear hb2 HB1 hc1 hf1
    go_wp2
    go_ret2
    exact ⟨rfl, HB2.out⟩

theorem implTextC (op rd r1 r2 im : Int) (hrd : In64 rd) (hr1 : In64 r1) (hr2 : In64 r2) (him : In64 im) (w : World) (hl : Laid w) :
    Calls Tryd.prog 35 #[.agg #[.int .i64 op, .int .i64 rd, .int .i64 r1, .int .i64 r2, .int .i64 im]] w fun e w' => e = .returned (.tuple #[.string (ansB op rd r1 r2 im), .int .i64 (ansC op rd r1 r2 im)]) ∧ Below w.heap.size w w' := by
  unfold ansB ansC
  cases hr : rightB op rd r1 r2 im with
  | false => exact insNoT op rd r1 r2 im w hl.e hr
  | true =>
    obtain ⟨h0, h1⟩ := right_op hr
    have hf := shT_form op h0 h1
    obtain ⟨i, rfl⟩ : ∃ i : Nat, op = (i : Int) := ⟨op.toNat, by omega⟩
    obtain ⟨f, c, g, h, hs⟩ : ∃ f c g h, shT (i : Int) = (f, c, g, h) := ⟨_, _, _, _, rfl⟩
    unfold textB
    rw [hs] at hf ⊢
    change 1 ≤ f ∧ f ≤ 9 at hf
    obtain ⟨told, ht⟩ := told_all f hf.1 hf.2
    rw [Int.toNat_natCast]
    exact insYesT i _ f c g h rd r1 r2 im told (by omega) (by omega) rfl (names_short i (by omega)) hs ht hr hrd hr1 hr2 him w hl
end Go.Proofs.YtjpdjalhhokghaaDoor.Tx

namespace Go.Proofs.YtjpdjalhhokghaaDoor
open Go Go.RowKit Go.ChangeShapes Go.WideShapes Go.Deep
set_option linter.unusedVariables false
section
variable {H : Type} {enc : TypeId × Value → H} {P : Program} {w : World} {base : Nat} {spare : Nat → Bool} {held : Bool}

theorem array5 {α : Type} {cs : Array α} (h : cs.size = 5) : ∃ c0 c1 c2 c3 c4, cs = #[c0, c1, c2, c3, c4] := by
  obtain ⟨l⟩ := cs
  match l, h with
  | [c0, c1, c2, c3, c4], _ => exact ⟨c0, c1, c2, c3, c4, rfl⟩

theorem trod_five {t : TypeId} {f0 f1 f2 f3 f4 : Field} {fuel : Nat} {cs : List Value} {x : DataW H × List MemPlace} (ht : P.underlying t = some (.struct #[f0, f1, f2, f3, f4])) (h : DataW.trod enc P w base spare held fuel t cs = some x) :
    ∃ y0 y1 y2 y3 y4 n, x = (.agg [y0.1, y1.1, y2.1, y3.1, y4.1], y0.2 ++ (y1.2 ++ (y2.2 ++ (y3.2 ++ y4.2)))) ∧ cs.length = P.cellsOf t ∧ DataW.trod enc P w base spare held n f0.type ((cs.drop f0.offset).take (P.cellsOf f0.type)) = some y0 ∧
      DataW.trod enc P w base spare held n f1.type ((cs.drop f1.offset).take (P.cellsOf f1.type)) = some y1 ∧ DataW.trod enc P w base spare held n f2.type ((cs.drop f2.offset).take (P.cellsOf f2.type)) = some y2 ∧
      DataW.trod enc P w base spare held n f3.type ((cs.drop f3.offset).take (P.cellsOf f3.type)) = some y3 ∧ DataW.trod enc P w base spare held n f4.type ((cs.drop f4.offset).take (P.cellsOf f4.type)) = some y4 := by
  obtain ⟨xs, n, _, rfl, hl, hlen, hf⟩ := DataW.trod_struct ht h
  match xs, hlen with
  | [y0, y1, y2, y3, y4], _ => exact ⟨y0, y1, y2, y3, y4, n, by simp, hl, by simpa using hf 0 f0 rfl, by simpa using hf 1 f1 rfl, by simpa using hf 2 f2 rfl, by simpa using hf 3 f3 rfl, by simpa using hf 4 f4 rfl⟩

theorem open_five {r : Reach} {b0 : Nat} {t : TypeId} {f0 f1 f2 f3 f4 : Field} {v : Value} {d : DataW H} {p : List MemPlace} (hs : P.underlying t = some (.struct #[f0, f1, f2, f3, f4])) (hone : oneCellFields P #[f0, f1, f2, f3, f4] = true) (hC : P.cellsOf t = 5)
    (u0 : P.underlying f0.type = some (.int .i64)) (u1 : P.underlying f1.type = some (.int .i64)) (u2 : P.underlying f2.type = some (.int .i64)) (u3 : P.underlying f3.type = some (.int .i64)) (u4 : P.underlying f4.type = some (.int .i64))
    (hv : Value.okWide P w r b0 t v) (h : DataW.Trod enc P w base spare held t v d p) :
    ∃ a0 a1 a2 a3 a4 : Int, v = .agg #[.int .i64 a0, .int .i64 a1, .int .i64 a2, .int .i64 a3, .int .i64 a4] ∧ d = .agg [.lit (.int .i64 a0), .lit (.int .i64 a1), .lit (.int .i64 a2), .lit (.int .i64 a3), .lit (.int .i64 a4)] ∧ p = [] ∧
      (Lit.int .i64 a0).wf = true ∧ (Lit.int .i64 a1).wf = true ∧ (Lit.int .i64 a2).wf = true ∧ (Lit.int .i64 a3).wf = true ∧ (Lit.int .i64 a4).wf = true := by
  obtain ⟨cs, rfl, hsz⟩ := okWide_struct hs hv
  obtain ⟨c0, c1, c2, c3, c4, rfl⟩ := array5 (hsz.trans hC)
  obtain ⟨fuel, hf⟩ := h
  obtain ⟨y0, y1, y2, y3, y4, n, hx, _, h0, h1, h2, h3, h4⟩ := trod_five hs hf
  obtain ⟨o0, k0⟩ := hone_of hone 0 f0 rfl
  obtain ⟨o1, k1⟩ := hone_of hone 1 f1 rfl
  obtain ⟨o2, k2⟩ := hone_of hone 2 f2 rfl
  obtain ⟨o3, k3⟩ := hone_of hone 3 f3 rfl
  obtain ⟨o4, k4⟩ := hone_of hone 4 f4 rfl
  simp only [Prod.mk.injEq] at hx
  have g0 : DataW.trod enc P w base spare held n f0.type [c0] = some y0 := by simpa [Value.cells, o0, k0] using h0
  have g1 : DataW.trod enc P w base spare held n f1.type [c1] = some y1 := by simpa [Value.cells, o1, k1] using h1
  have g2 : DataW.trod enc P w base spare held n f2.type [c2] = some y2 := by simpa [Value.cells, o2, k2] using h2
  have g3 : DataW.trod enc P w base spare held n f3.type [c3] = some y3 := by simpa [Value.cells, o3, k3] using h3
  have g4 : DataW.trod enc P w base spare held n f4.type [c4] = some y4 := by simpa [Value.cells, o4, k4] using h4
  obtain ⟨a0, e0, rfl, w0⟩ := DataW.trod_int u0 g0
  obtain ⟨a1, e1, rfl, w1⟩ := DataW.trod_int u1 g1
  obtain ⟨a2, e2, rfl, w2⟩ := DataW.trod_int u2 g2
  obtain ⟨a3, e3, rfl, w3⟩ := DataW.trod_int u3 g3
  obtain ⟨a4, e4, rfl, w4⟩ := DataW.trod_int u4 g4
  simp only [List.cons.injEq, and_true] at e0 e1 e2 e3 e4
  subst e0 e1 e2 e3 e4
  exact ⟨a0, a1, a2, a3, a4, rfl, hx.1, by simpa using hx.2, w0, w1, w2, w3, w4⟩

theorem shut_five {t : TypeId} {f0 f1 f2 f3 f4 : Field} {a0 a1 a2 a3 a4 : Int} (hs : P.underlying t = some (.struct #[f0, f1, f2, f3, f4])) (hone : oneCellFields P #[f0, f1, f2, f3, f4] = true) (hC : P.cellsOf t = 5)
    (u0 : P.underlying f0.type = some (.int .i64)) (u1 : P.underlying f1.type = some (.int .i64)) (u2 : P.underlying f2.type = some (.int .i64)) (u3 : P.underlying f3.type = some (.int .i64)) (u4 : P.underlying f4.type = some (.int .i64))
    (w0 : (Lit.int .i64 a0).wf = true) (w1 : (Lit.int .i64 a1).wf = true) (w2 : (Lit.int .i64 a2).wf = true) (w3 : (Lit.int .i64 a3).wf = true) (w4 : (Lit.int .i64 a4).wf = true) :
    DataW.Trod enc P w base spare held t (.agg #[.int .i64 a0, .int .i64 a1, .int .i64 a2, .int .i64 a3, .int .i64 a4]) (.agg [.lit (.int .i64 a0), .lit (.int .i64 a1), .lit (.int .i64 a2), .lit (.int .i64 a3), .lit (.int .i64 a4)]) [] := by
  obtain ⟨o0, k0⟩ := hone_of hone 0 f0 rfl
  obtain ⟨o1, k1⟩ := hone_of hone 1 f1 rfl
  obtain ⟨o2, k2⟩ := hone_of hone 2 f2 rfl
  obtain ⟨o3, k3⟩ := hone_of hone 3 f3 rfl
  obtain ⟨o4, k4⟩ := hone_of hone 4 f4 rfl
  have t0 := trod_int_mk (enc := enc) (w := w) (base := base) (spare := spare) (held := held) 0 u0 w0
  have t1 := trod_int_mk (enc := enc) (w := w) (base := base) (spare := spare) (held := held) 0 u1 w1
  have t2 := trod_int_mk (enc := enc) (w := w) (base := base) (spare := spare) (held := held) 0 u2 w2
  have t3 := trod_int_mk (enc := enc) (w := w) (base := base) (spare := spare) (held := held) 0 u3 w3
  have t4 := trod_int_mk (enc := enc) (w := w) (base := base) (spare := spare) (held := held) 0 u4 w4
  have ts := trod_struct_mk (enc := enc) (w := w) (base := base) (spare := spare) (held := held) (n := 1) (cs := [.int .i64 a0, .int .i64 a1, .int .i64 a2, .int .i64 a3, .int .i64 a4]) (xs := [(.lit (.int .i64 a0), []), (.lit (.int .i64 a1), []), (.lit (.int .i64 a2), []), (.lit (.int .i64 a3), []), (.lit (.int .i64 a4), [])]) hs (by simp [hC])
    (by simp [o0, o1, o2, o3, o4, k0, k1, k2, k3, k4, t0, t1, t2, t3, t4])
  exact ⟨_, by simpa [Value.cells] using ts⟩
end
end Go.Proofs.YtjpdjalhhokghaaDoor
