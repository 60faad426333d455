/- InstrOK, told fields 'd12'. InstrOK, told fields ''. -/
import Derived.Test.YtjpdjalhhokghaaDoorGXInstrText18
namespace Go.Proofs.YtjpdjalhhokghaaDoor
open Go.RowKit
set_option linter.unusedVariables false

set_option maxRecDepth 100000 in
set_option maxHeartbeats 8000000 in
theorem okE (op rd r1 r2 im f c g h : Int) (hs : Hid (shT op = (f, c, g, h))) (ht : Hid (ToldIs f { data := #[100, 49, 50] })) (h0 : 1 ≤ op) (h1 : op ≤ 64) (w : World) :
    Calls Tryd.prog 28 #[.agg #[.int .i64 op, .int .i64 rd, .int .i64 r1, .int .i64 r2, .int .i64 im]] w fun e w' => e = .returned (.bool (regB rd && regB r1 && regB r2 && im == 0)) ∧ Below w.heap.size w w' := by
  go_enter Tryd.func28, Tryd.ntmps28
  go_wp2_with fail
  refine (shapeOKs op f c g h _ hs.out h0 h1).mono ?_
  rintro e w1 ⟨rfl, hb1⟩
  obtain ⟨hc1, hf1⟩ := bcell hb1
  have hz1 : w.heap.size < w1.heap.size := by have := hb1.size; simp at this; omega
  have HB1 : Below w.heap.size w w1 := ((Below.refl _ _).alloc (Nat.le_refl _) _).trans (hb1.mono (by simp))
  have hx : w1.cell? ⟨w.heap.size, 0, none⟩ = some (.int .i64 op) := by
    rw [hc1 _ _ (by simp)]
    simp
  clear hs hb1
  go_wp2_with fail
  refine (ht.out _).mono ?_
  rintro e w2 ⟨rfl, rfl⟩
  clear ht
  go_wp2
  refine wp_loop_rounds 4 ?_
  rw [rounds_succ]
  go_wp2_with (go_at_call 67; refine (fld100 _ _).mono ?_; rintro e w2 ⟨rfl, rfl⟩)
  cases hr1 : regB rd with
  | false =>
    go_quiet ((go_at_call 68; exact Calls.quiet_of_same (fieldR f 100 rd (by decide) _)))
    go_wp2
    go_ret
    refine ⟨congrArg (fun x => Ending.returned (.bool x)) (by simp [hr1]), ?_⟩
    repeat (first | exact HB1 | exact Below.refl _ _ | refine Below.setCell ?_ (by first | omega | (simp; done) | (simp; omega)) _ | refine bdN ?_ _ | refine Below.drew ?_ | refine Below.alloc ?_ (by first | omega | (simp; done) | (simp; omega)) _)
  | true =>
    go_quiet ((go_at_call 68; exact Calls.quiet_of_same (fieldR f 100 rd (by decide) _)))
    go_wp2
    rw [rounds_succ]
    go_wp2_with (go_at_call 67; refine (fld49 _ _).mono ?_; rintro e w2 ⟨rfl, rfl⟩)
    cases hr2 : regB r1 with
    | false =>
      go_quiet ((go_at_call 68; exact Calls.quiet_of_same (fieldR f 49 r1 (by decide) _)))
      go_wp2
      go_ret
      refine ⟨congrArg (fun x => Ending.returned (.bool x)) (by simp [hr2]), ?_⟩
      repeat (first | exact HB1 | exact Below.refl _ _ | refine Below.setCell ?_ (by first | omega | (simp; done) | (simp; omega)) _ | refine bdN ?_ _ | refine Below.drew ?_ | refine Below.alloc ?_ (by first | omega | (simp; done) | (simp; omega)) _)
    | true =>
      go_quiet ((go_at_call 68; exact Calls.quiet_of_same (fieldR f 49 r1 (by decide) _)))
      go_wp2
      rw [rounds_succ]
      go_wp2_with (go_at_call 67; refine (fld50 _ _).mono ?_; rintro e w2 ⟨rfl, rfl⟩)
      cases hr3 : regB r2 with
      | false =>
        go_quiet ((go_at_call 68; exact Calls.quiet_of_same (fieldR f 50 r2 (by decide) _)))
        go_wp2
        go_ret
        refine ⟨congrArg (fun x => Ending.returned (.bool x)) (by simp [hr3]), ?_⟩
        repeat (first | exact HB1 | exact Below.refl _ _ | refine Below.setCell ?_ (by first | omega | (simp; done) | (simp; omega)) _ | refine bdN ?_ _ | refine Below.drew ?_ | refine Below.alloc ?_ (by first | omega | (simp; done) | (simp; omega)) _)
      | true =>
        go_quiet ((go_at_call 68; exact Calls.quiet_of_same (fieldR f 50 r2 (by decide) _)))
        go_wp2
        rw [rounds_succ]
        by_cases eim : im = 0
        case neg =>
          have nim : (im == 0) = false := by simpa using eim
          go_wp2
          go_ret
          refine ⟨congrArg (fun x => Ending.returned (.bool x)) (by simp [hr1, hr2, hr3, nim]), ?_⟩
          repeat (first | exact HB1 | exact Below.refl _ _ | refine Below.setCell ?_ (by first | omega | (simp; done) | (simp; omega)) _ | refine bdN ?_ _ | refine Below.drew ?_ | refine Below.alloc ?_ (by first | omega | (simp; done) | (simp; omega)) _)
        subst eim
        go_wp2
        go_ret
        refine ⟨congrArg (fun x => Ending.returned (.bool x)) (by simp [hr1, hr2, hr3]), ?_⟩
        repeat (first | exact HB1 | exact Below.refl _ _ | refine Below.setCell ?_ (by first | omega | (simp; done) | (simp; omega)) _ | refine bdN ?_ _ | refine Below.drew ?_ | refine Below.alloc ?_ (by first | omega | (simp; done) | (simp; omega)) _)
end Go.Proofs.YtjpdjalhhokghaaDoor

namespace Go.Proofs.YtjpdjalhhokghaaDoor
open Go.RowKit
set_option linter.unusedVariables false

set_option maxRecDepth 100000 in
set_option maxHeartbeats 8000000 in
theorem okF (op rd r1 r2 im f c g h : Int) (hs : Hid (shT op = (f, c, g, h))) (ht : Hid (ToldIs f { data := #[] })) (h0 : 1 ≤ op) (h1 : op ≤ 64) (w : World) :
    Calls Tryd.prog 28 #[.agg #[.int .i64 op, .int .i64 rd, .int .i64 r1, .int .i64 r2, .int .i64 im]] w fun e w' => e = .returned (.bool (rd == 0 && r1 == 0 && r2 == 0 && im == 0)) ∧ Below w.heap.size w w' := by
  go_enter Tryd.func28, Tryd.ntmps28
  go_wp2_with fail
  refine (shapeOKs op f c g h _ hs.out h0 h1).mono ?_
  rintro e w1 ⟨rfl, hb1⟩
  obtain ⟨hc1, hf1⟩ := bcell hb1
  have hz1 : w.heap.size < w1.heap.size := by have := hb1.size; simp at this; omega
  have HB1 : Below w.heap.size w w1 := ((Below.refl _ _).alloc (Nat.le_refl _) _).trans (hb1.mono (by simp))
  have hx : w1.cell? ⟨w.heap.size, 0, none⟩ = some (.int .i64 op) := by
    rw [hc1 _ _ (by simp)]
    simp
  clear hs hb1
  go_wp2_with fail
  refine (ht.out _).mono ?_
  rintro e w2 ⟨rfl, rfl⟩
  clear ht
  go_wp2
  refine wp_loop_rounds 1 ?_
  rw [rounds_succ]
  by_cases erd : rd = 0
  case neg =>
    have nrd : (rd == 0) = false := by simpa using erd
    go_wp2
    go_ret
    refine ⟨congrArg (fun x => Ending.returned (.bool x)) (by simp [nrd]), ?_⟩
    repeat (first | exact HB1 | exact Below.refl _ _ | refine Below.setCell ?_ (by first | omega | (simp; done) | (simp; omega)) _ | refine bdN ?_ _ | refine Below.drew ?_ | refine Below.alloc ?_ (by first | omega | (simp; done) | (simp; omega)) _)
  subst erd
  by_cases er1 : r1 = 0
  case neg =>
    have nr1 : (r1 == 0) = false := by simpa using er1
    go_wp2
    go_ret
    refine ⟨congrArg (fun x => Ending.returned (.bool x)) (by simp [nr1]), ?_⟩
    repeat (first | exact HB1 | exact Below.refl _ _ | refine Below.setCell ?_ (by first | omega | (simp; done) | (simp; omega)) _ | refine bdN ?_ _ | refine Below.drew ?_ | refine Below.alloc ?_ (by first | omega | (simp; done) | (simp; omega)) _)
  subst er1
  by_cases er2 : r2 = 0
  case neg =>
    have nr2 : (r2 == 0) = false := by simpa using er2
    go_wp2
    go_ret
    refine ⟨congrArg (fun x => Ending.returned (.bool x)) (by simp [nr2]), ?_⟩
    repeat (first | exact HB1 | exact Below.refl _ _ | refine Below.setCell ?_ (by first | omega | (simp; done) | (simp; omega)) _ | refine bdN ?_ _ | refine Below.drew ?_ | refine Below.alloc ?_ (by first | omega | (simp; done) | (simp; omega)) _)
  subst er2
  by_cases eim : im = 0
  case neg =>
    have nim : (im == 0) = false := by simpa using eim
    go_wp2
    go_ret
    refine ⟨congrArg (fun x => Ending.returned (.bool x)) (by simp [nim]), ?_⟩
    repeat (first | exact HB1 | exact Below.refl _ _ | refine Below.setCell ?_ (by first | omega | (simp; done) | (simp; omega)) _ | refine bdN ?_ _ | refine Below.drew ?_ | refine Below.alloc ?_ (by first | omega | (simp; done) | (simp; omega)) _)
  subst eim
  go_wp2
  go_ret
  refine ⟨congrArg (fun x => Ending.returned (.bool x)) (by simp []), ?_⟩
  repeat (first | exact HB1 | exact Below.refl _ _ | refine Below.setCell ?_ (by first | omega | (simp; done) | (simp; omega)) _ | refine bdN ?_ _ | refine Below.drew ?_ | refine Below.alloc ?_ (by first | omega | (simp; done) | (simp; omega)) _)
end Go.Proofs.YtjpdjalhhokghaaDoor
