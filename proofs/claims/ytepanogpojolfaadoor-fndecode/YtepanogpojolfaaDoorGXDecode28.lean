/- InstrOK, told fields '12i'. -/
import Derived.Test.YtepanogpojolfaaDoorGXDecode18
namespace Go.Proofs.YtepanogpojolfaaDoor
open Go.RowKit
set_option linter.unusedVariables false

set_option maxRecDepth 100000 in
set_option maxHeartbeats 8000000 in
theorem okC (op rd r1 r2 im f c g h : Int) (B : Bool) (hs : Hid (shT op = (f, c, g, h))) (ht : Hid (ToldIs f { data := #[49, 50, 105] })) (hi : Hid (NumIs f im B)) (h0 : 1 ≤ op) (h1 : op ≤ 64) (w : World) :
    Calls Tryd.prog 13 #[.agg #[.int .i64 op, .int .i64 rd, .int .i64 r1, .int .i64 r2, .int .i64 im]] w fun e w' => e = .returned (.bool (regB r1 && regB r2 && rd == 0 && B)) ∧ Below w.heap.size w w' := by
  go_enter Tryd.func13, Tryd.ntmps13
  go_wp2_with fail
  refine (shapeOKs op f c g h _ hs.out h0 h1).mono ?_
  rintro e w1 ⟨rfl, hb1⟩
  obtain ⟨hc1, hf1⟩ := bcell hb1
  have hz1 : w.heap.size < w1.heap.size := by have := hb1.size; simp at this; omega
  have HB1 : Below w.heap.size w w1 := ((Below.refl _ _).alloc (Nat.le_refl _) _).trans (hb1.mono (by simp))
  have hx : w1.cell? ⟨w.heap.size, 0, none⟩ = some (.int .i64 op) := by
    rw [hc1 _ _ (by simp)]
    simp
  clear hs hb1
  go_wp2_with fail
  refine (ht.out _).mono ?_
  rintro e w2 ⟨rfl, rfl⟩
  clear ht
  go_wp2
  refine wp_loop_rounds 4 ?_
  rw [rounds_succ]
  go_wp2_with (go_at_call 47; refine (fld49 _ _).mono ?_; rintro e w2 ⟨rfl, rfl⟩)
  cases hr2 : regB r1 with
  | false =>
    go_quiet ((go_at_call 48; exact Calls.quiet_of_same (fieldR f 49 r1 (by decide) _)))
    go_wp2
    go_ret
    refine ⟨congrArg (fun x => Ending.returned (.bool x)) (by simp [hr2]), ?_⟩
    repeat (first | exact HB1 | exact Below.refl _ _ | refine Below.setCell ?_ (by first | omega | (simp; done) | (simp; omega)) _ | refine bdN ?_ _ | refine Below.drew ?_ | refine Below.alloc ?_ (by first | omega | (simp; done) | (simp; omega)) _)
  | true =>
    go_quiet ((go_at_call 48; exact Calls.quiet_of_same (fieldR f 49 r1 (by decide) _)))
    go_wp2
    rw [rounds_succ]
    go_wp2_with (go_at_call 47; refine (fld50 _ _).mono ?_; rintro e w2 ⟨rfl, rfl⟩)
    cases hr3 : regB r2 with
    | false =>
      go_quiet ((go_at_call 48; exact Calls.quiet_of_same (fieldR f 50 r2 (by decide) _)))
      go_wp2
      go_ret
      refine ⟨congrArg (fun x => Ending.returned (.bool x)) (by simp [hr3]), ?_⟩
      repeat (first | exact HB1 | exact Below.refl _ _ | refine Below.setCell ?_ (by first | omega | (simp; done) | (simp; omega)) _ | refine bdN ?_ _ | refine Below.drew ?_ | refine Below.alloc ?_ (by first | omega | (simp; done) | (simp; omega)) _)
    | true =>
      go_quiet ((go_at_call 48; exact Calls.quiet_of_same (fieldR f 50 r2 (by decide) _)))
      go_wp2
      rw [rounds_succ]
      go_wp2_with (go_at_call 47; refine (fld105 _ _).mono ?_; rintro e w2 ⟨rfl, rfl⟩)
      go_region_with (go_at_call 48; refine (hi.out _).mono ?_; rintro e w3 ⟨rfl, hb3⟩)
      all_goals
        clear hi
        obtain ⟨hc3, hf3⟩ := bcell hb3
        have hz3 : w1.heap.size + 1 < w3.heap.size := by have := hb3.size; simp at this; omega
        have hne : ¬ w.heap.size = w1.heap.size + 1 := by omega
        have HW : Below w1.heap.size w1 w3 := by
          refine Below.trans ?_ (hb3.mono (by first | omega | (simp; done) | (simp; omega)))
          repeat (first | exact Below.refl _ _ | refine Below.setCell ?_ (by first | omega | (simp; done) | (simp; omega)) _ | refine bdN ?_ _ | refine Below.drew ?_ | refine Below.alloc ?_ (by first | omega | (simp; done) | (simp; omega)) _)
        have HB3 : Below w.heap.size w w3 := HB1.trans (HW.mono (by omega))
        have hx0 : w3.cell? ⟨w.heap.size, 0, none⟩ = some (.int .i64 op) := (HW.cell (p := ⟨w.heap.size, 0, none⟩) hz1).trans hx
        clear HW
        clear hb3
        cases B with
        | false =>
          go_wp2
          go_ret
          refine ⟨congrArg (fun x => Ending.returned (.bool x)) (by simp), ?_⟩
          repeat (first | exact HB1 | exact HB3 | exact Below.refl _ _ | refine Below.setCell ?_ (by first | omega | (simp; done) | (simp; omega)) _ | refine bdN ?_ _ | refine Below.drew ?_ | refine Below.alloc ?_ (by first | omega | (simp; done) | (simp; omega)) _)
        | true =>
          go_wp2
          rw [rounds_succ]
          by_cases erd : rd = 0
          case neg =>
            have nrd : (rd == 0) = false := by simpa using erd
            go_wp2
            go_ret
            refine ⟨congrArg (fun x => Ending.returned (.bool x)) (by simp [hr2, hr3, nrd]), ?_⟩
            repeat (first | exact HB1 | exact HB3 | exact Below.refl _ _ | refine Below.setCell ?_ (by first | omega | (simp; done) | (simp; omega)) _ | refine bdN ?_ _ | refine Below.drew ?_ | refine Below.alloc ?_ (by first | omega | (simp; done) | (simp; omega)) _)
          subst erd
          go_wp2
          go_ret
          refine ⟨congrArg (fun x => Ending.returned (.bool x)) (by simp [hr2, hr3]), ?_⟩
          repeat (first | exact HB1 | exact HB3 | exact Below.refl _ _ | refine Below.setCell ?_ (by first | omega | (simp; done) | (simp; omega)) _ | refine bdN ?_ _ | refine Below.drew ?_ | refine Below.alloc ?_ (by first | omega | (simp; done) | (simp; omega)) _)
end Go.Proofs.YtepanogpojolfaaDoor
