/- The text of an instruction in the model, form 2: the contract. -/
import Derived.Test.YtjpdjalhhokghaaDoorGXInstrText20
import Derived.Test.YtjpdjalhhokghaaDoorGXInstrText25
import Derived.Test.YtjpdjalhhokghaaDoorGXInstrText10
import Derived.Deep.RegionHeld3
namespace Go.Proofs.YtjpdjalhhokghaaDoor.Tx
open Go.RowKit
set_option linter.unusedVariables false

set_option maxRecDepth 100000 in
set_option maxHeartbeats 8000000 in
theorem text2 (i : Nat) (n : List UInt8) (c g h rd r1 r2 im : Int) (hi : i < 64) (hn : Op.wordAt (i + 1) = txt n) (hnl : n.length ≤ 100) (hs : Hid (shT ((i : Int) + 1) = (2, c, g, h))) (hrd : In64 rd) (hr1 : In64 r1) (hr2 : In64 r2) (him : In64 im) (w : World) :
    Calls Tryd.prog 77 #[.agg #[.int .i64 ((i : Int) + 1), .int .i64 rd, .int .i64 r1, .int .i64 r2, .int .i64 im]] w fun e w' => e = .returned (.string (txt (textL 2 n rd r1 r2 im))) ∧ Below w.heap.size w w' := by
  have hc : ∀ w : World, (w.alloc (.cells Op.listVals.toArray 9)).cell? ⟨w.heap.size, i, none⟩ = some (.string (txt n)) := fun w => by rw [Op.cell_list w i hi, hn]
  have hi0 : (0 : Int) ≤ (i : Int) := by omega
  have hi1 : (i : Int) < 64 := by omega
  have hwi : wrap64 (i : Int) = (i : Int) := by unfold wrap64; omega
  have hwj : IntKind.i64.wrap (i : Int) = (i : Int) := wrap_i64 _ (by omega) (by omega)
  have hwk : IntKind.i64.wrap ((i : Int) + 1 - 1) = (i : Int) := by rw [show (i : Int) + 1 - 1 = i by omega]; exact hwj
  have hwl : (i : Int) + 1 - 1 = (i : Int) := by omega
  have hc1 : ∀ B : Obj, ((w.alloc B).alloc (.cells Op.listVals.toArray 9)).cell? ⟨w.heap.size + 1, i, none⟩ = some (.string (txt n)) := fun B => by
    have := hc (w.alloc B)
    rwa [World.size_alloc] at this
  have hp0 : ∀ w : World, (Op.stringOp .add { data := #[32] } (txt (Lib.itoa im))).run Tryd.prog w = .ok (.string (txt (immT im))) w := plus [32] (Lib.itoa im) (by have := itoa_len im him; simp; omega)
  have L1 := regT_len rd hrd
  have L2 := regT_len r1 hr1
  have L3 := regT_len r2 hr2
  have L4 := immT_len im him
  obtain ⟨T1, hT1⟩ : ∃ T, T = txt (n ++ regT rd) := ⟨_, rfl⟩
  have hp1 : ∀ w : World, (Op.stringOp .add (txt n) (txt (regT rd))).run Tryd.prog w = .ok (.string T1) w := by rw [hT1]; exact plus (n) (regT rd) (by first | omega | (simp; omega))
  obtain ⟨T2, hT2⟩ : ∃ T, T = txt (n ++ regT rd ++ immT im) := ⟨_, rfl⟩
  have hp2 : ∀ w : World, (Op.stringOp .add T1 (txt (immT im))).run Tryd.prog w = .ok (.string T2) w := by rw [hT1, hT2]; exact plus (n ++ regT rd) (immT im) (by first | omega | (simp; omega))
  have HT : Hid (T2 = txt (textL 2 n rd r1 r2 im)) := by rw [hT2]; simp [textL, Hid]
  clear hT1 hT2 L1 L2 L3 L4
  have hfd := shField0 2 c g h
  go_enter Tryd.func77, Tryd.ntmps77
  go_wp2_with fail
  go_region_with ((go_at_call 108; refine (Op.specList _).mono ?_; rintro e w1 ⟨rfl, rfl⟩))
  all_goals
    go_wp2_with fail
    refine (digitsC im him.1 him.2 _).mono ?_
    rintro e w2 ⟨rfl, hb2⟩
    have F2 : Five w2 w.heap.size ((i : Int) + 1) rd r1 r2 im := Five.below (by constructor <;> simp) hb2 (by simp <;> omega)
    have B2 : Below w.heap.size w w2 := Below.trans (by repeat (first | exact Below.refl _ _ | refine bdN ?_ _ | refine Below.drew ?_ | refine Below.alloc ?_ (by first | omega | (simp; done) | (simp; omega)) _)) (hb2.mono (by simp <;> omega))
    have z2 : w.heap.size < w2.heap.size := by have := hb2.size; simp at this; omega
    clear hb2 hc hc1 hwi hwj hwk hwl
    obtain ⟨c0, c1, c2, c3, c4, f0, f1, f2, f3, f4⟩ := F2
    have F2 : Hid (Five w2 w.heap.size ((i : Int) + 1) rd r1 r2 im) := ⟨c0, c1, c2, c3, c4, f0, f1, f2, f3, f4⟩
    go_wp2_with fail
    refine (specShs _ 2 c g h _ hs.out).mono ?_
    rintro e w3 ⟨rfl, hb3⟩
    have F3 : Hid (Five w3 w.heap.size ((i : Int) + 1) rd r1 r2 im) := F2.out.below hb3 z2
    have B3 : Below w.heap.size w w3 := B2.trans (hb3.mono B2.size)
    have z3 : w.heap.size < w3.heap.size := by have := hb3.size; omega
    clear hb3 c0 c1 c2 c3 c4 f0 f1 f2 f3 f4 F2 B2 z2
    obtain ⟨c0, c1, c2, c3, c4, f0, f1, f2, f3, f4⟩ := F3.out
    clear c0 c4 f0 f1 f2 f3 f4
    go_wp2_with fail
    refine (regC rd hrd _).mono ?_
    rintro e w4 ⟨rfl, hb4⟩
    have B4 : Below w.heap.size w w4 := B3.trans (hb4.mono B3.size)
    clear hb4 B3
    go_wp2
    go_ret
    exact ⟨congrArg (fun x => Ending.returned (.string x)) HT.out, B4⟩
end Go.Proofs.YtjpdjalhhokghaaDoor.Tx
