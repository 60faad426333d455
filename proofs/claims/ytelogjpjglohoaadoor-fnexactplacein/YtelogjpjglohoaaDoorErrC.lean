/- The program's checks of ranges and the codes of their errors: contracts. -/
import Derived.Test.YtelogjpjglohoaaDoorErrL
namespace Go.Proofs.YtelogjpjglohoaaDoor
open Go.RowKit
set_option linter.unusedVariables false

/-- inside: nil, or the error of the range. -/
theorem inside_ok (n : ByteArray) (v low high : Int) (w : World) (h0 : low ≤ v) (h1 : v ≤ high) :
    Calls Tryd.prog 12 #[.string n, .int .i64 v, .int .i64 low, .int .i64 high] w fun e w' => e = .returned .nilIface ∧ w' = w := by
  go_enter Tryd.func12, Tryd.ntmps12
  go_wp2
  go_ret
  exact ⟨rfl, rfl⟩

theorem inside_no (n : ByteArray) (v low high : Int) (w : World) (a0 a1 : Addr) (hL : LaidAt w a0 a1) (h : v < low ∨ high < v) :
    Calls Tryd.prog 12 #[.string n, .int .i64 v, .int .i64 low, .int .i64 high] w fun e w' => e = .returned (argErr n a0) ∧ w' = w := by
  have hr := hL.r
  clear hL
  by_cases h0 : v < low
  · go_enter Tryd.func12, Tryd.ntmps12
    go_wp2
    go_ret
    exact ⟨rfl, rfl⟩
  · have h1 : high < v := by omega
    go_enter Tryd.func12, Tryd.ntmps12
    go_wp2
    go_ret
    exact ⟨rfl, rfl⟩

/-- codeFrom: 0, 4, 8, 3, 9 or 22. -/
theorem code_nil (w : World) :
    Calls Tryd.prog 13 #[.nilIface] w fun e w' => e = .returned (.int .i64 0) ∧ w' = w := by
  go_enter Tryd.func13, Tryd.ntmps13
  go_wp2
  go_ret
  exact ⟨rfl, rfl⟩

set_option maxHeartbeats 1000000 in
theorem code_range (n : ByteArray) (w : World) (a0 a1 : Addr) (hL : LaidAt w a0 a1) :
    Calls Tryd.prog 13 #[argErr n a0] w fun e w' => e = .returned (.int .i64 4) ∧ Below w.heap.size w w' := by
  have hr := hL.r
  clear hL
  go_enter Tryd.func13, Tryd.ntmps13
  go_wp2_with fail
  refine (is_arg_same n a0 w).mono ?_
  rintro e w1 ⟨rfl, hb⟩
  go_wp2
  go_ret
  exact ⟨rfl, hb⟩

set_option maxHeartbeats 1000000 in
theorem code_size (n : ByteArray) (w : World) (a0 a1 : Addr) (hL : LaidAt w a0 a1) :
    Calls Tryd.prog 13 #[argErr n a1] w fun e w' => e = .returned (.int .i64 8) ∧ Below w.heap.size w w' := by
  have hL0 := hL
  obtain ⟨c0, t0, h0⟩ := hL.hr
  obtain ⟨c1, t1, h1⟩ := hL.hs
  have hne := hL.ne
  have hr := hL.r
  clear hL
  go_enter Tryd.func13, Tryd.ntmps13
  go_wp2_with fail
  refine (is_arg_other n a1 a0 c1 c0 t1 t0 w (Ne.symm hne) h1 h0).mono ?_
  rintro e w1 ⟨rfl, hb⟩
  have hs := (hL0.below hb).s
  clear hL0 h0 h1 hr
  go_wp2_with fail
  refine (is_arg_same n a1 w1).mono ?_
  rintro e w2 ⟨rfl, hb2⟩
  go_wp2
  go_ret
  exact ⟨rfl, hb.trans (hb2.mono hb.size)⟩

set_option maxHeartbeats 2000000 in
theorem code_form (n : ByteArray) (w : World) (a0 a1 a2 a3 a4 : Addr) (hL : LaidAt w a0 a1) (hM : MoreAt w a0 a1 a2 a3 a4) :
    Calls Tryd.prog 13 #[argErr n a2] w fun e w' => e = .returned (.int .i64 3) ∧ Below w.heap.size w w' := by
  have HL : Hid (LaidAt w a0 a1) := hL
  have HM : Hid (MoreAt w a0 a1 a2 a3 a4) := hM
  have hr := hL.r
  clear hL hM
  go_enter Tryd.func13, Tryd.ntmps13
  have HB : Hid (Below w.heap.size w w) := Below.refl _ _
  go_wp2_with fail
  obtain ⟨c, t, hb0⟩ := HM.out.h2
  obtain ⟨d, u, hb1⟩ := HL.out.hr
  refine (is_arg_other n a2 a0 c d t u _ (Ne.symm HM.out.n02) hb0 hb1).mono ?_
  rintro e v1 ⟨rfl, hb⟩
  replace HL : Hid (LaidAt v1 a0 a1) := HL.out.below hb
  replace HM : Hid (MoreAt v1 a0 a1 a2 a3 a4) := HM.out.below hb
  replace HB : Hid (Below w.heap.size w v1) := HB.out.trans (hb.mono HB.out.size)
  clear hb hb0 hb1 hr c d t u
  have hq1 := HL.out.s
  go_wp2_with fail
  obtain ⟨c, t, hb0⟩ := HM.out.h2
  obtain ⟨d, u, hb1⟩ := HL.out.hs
  refine (is_arg_other n a2 a1 c d t u _ (Ne.symm HM.out.n12) hb0 hb1).mono ?_
  rintro e v2 ⟨rfl, hb⟩
  replace HL : Hid (LaidAt v2 a0 a1) := HL.out.below hb
  replace HM : Hid (MoreAt v2 a0 a1 a2 a3 a4) := HM.out.below hb
  replace HB : Hid (Below w.heap.size w v2) := HB.out.trans (hb.mono HB.out.size)
  clear hb hb0 hb1 hq1 c d t u
  have hq2 := HM.out.f
  unfold ErrVar at hq2
  go_wp2_with fail
  refine (is_arg_same n a2 _).mono ?_
  rintro e v9 ⟨rfl, hb⟩
  have bel := HB.out.trans (hb.mono HB.out.size)
  clear hb hq2 HL HM HB
  go_wp2
  go_ret
  exact ⟨rfl, bel⟩

set_option maxHeartbeats 2000000 in
theorem code_sum (n : ByteArray) (w : World) (a0 a1 a2 a3 a4 : Addr) (hL : LaidAt w a0 a1) (hM : MoreAt w a0 a1 a2 a3 a4) :
    Calls Tryd.prog 13 #[argErr n a3] w fun e w' => e = .returned (.int .i64 9) ∧ Below w.heap.size w w' := by
  have HL : Hid (LaidAt w a0 a1) := hL
  have HM : Hid (MoreAt w a0 a1 a2 a3 a4) := hM
  have hr := hL.r
  clear hL hM
  go_enter Tryd.func13, Tryd.ntmps13
  have HB : Hid (Below w.heap.size w w) := Below.refl _ _
  go_wp2_with fail
  obtain ⟨c, t, hb0⟩ := HM.out.h3
  obtain ⟨d, u, hb1⟩ := HL.out.hr
  refine (is_arg_other n a3 a0 c d t u _ (Ne.symm HM.out.n03) hb0 hb1).mono ?_
  rintro e v1 ⟨rfl, hb⟩
  replace HL : Hid (LaidAt v1 a0 a1) := HL.out.below hb
  replace HM : Hid (MoreAt v1 a0 a1 a2 a3 a4) := HM.out.below hb
  replace HB : Hid (Below w.heap.size w v1) := HB.out.trans (hb.mono HB.out.size)
  clear hb hb0 hb1 hr c d t u
  have hq1 := HL.out.s
  go_wp2_with fail
  obtain ⟨c, t, hb0⟩ := HM.out.h3
  obtain ⟨d, u, hb1⟩ := HL.out.hs
  refine (is_arg_other n a3 a1 c d t u _ (Ne.symm HM.out.n13) hb0 hb1).mono ?_
  rintro e v2 ⟨rfl, hb⟩
  replace HL : Hid (LaidAt v2 a0 a1) := HL.out.below hb
  replace HM : Hid (MoreAt v2 a0 a1 a2 a3 a4) := HM.out.below hb
  replace HB : Hid (Below w.heap.size w v2) := HB.out.trans (hb.mono HB.out.size)
  clear hb hb0 hb1 hq1 c d t u
  have hq2 := HM.out.f
  unfold ErrVar at hq2
  go_wp2_with fail
  obtain ⟨c, t, hb0⟩ := HM.out.h3
  obtain ⟨d, u, hb1⟩ := HM.out.h2
  refine (is_arg_other n a3 a2 c d t u _ (Ne.symm HM.out.n23) hb0 hb1).mono ?_
  rintro e v3 ⟨rfl, hb⟩
  replace HL : Hid (LaidAt v3 a0 a1) := HL.out.below hb
  replace HM : Hid (MoreAt v3 a0 a1 a2 a3 a4) := HM.out.below hb
  replace HB : Hid (Below w.heap.size w v3) := HB.out.trans (hb.mono HB.out.size)
  clear hb hb0 hb1 hq2 c d t u
  have hq3 := HM.out.u
  unfold ErrVar at hq3
  go_wp2_with fail
  refine (is_arg_same n a3 _).mono ?_
  rintro e v9 ⟨rfl, hb⟩
  have bel := HB.out.trans (hb.mono HB.out.size)
  clear hb hq3 HL HM HB
  go_wp2
  go_ret
  exact ⟨rfl, bel⟩

set_option maxHeartbeats 2000000 in
theorem code_end (n : ByteArray) (w : World) (a0 a1 a2 a3 a4 : Addr) (hL : LaidAt w a0 a1) (hM : MoreAt w a0 a1 a2 a3 a4) :
    Calls Tryd.prog 13 #[argErr n a4] w fun e w' => e = .returned (.int .i64 22) ∧ Below w.heap.size w w' := by
  have HL : Hid (LaidAt w a0 a1) := hL
  have HM : Hid (MoreAt w a0 a1 a2 a3 a4) := hM
  have hr := hL.r
  clear hL hM
  go_enter Tryd.func13, Tryd.ntmps13
  have HB : Hid (Below w.heap.size w w) := Below.refl _ _
  go_wp2_with fail
  obtain ⟨c, t, hb0⟩ := HM.out.h4
  obtain ⟨d, u, hb1⟩ := HL.out.hr
  refine (is_arg_other n a4 a0 c d t u _ (Ne.symm HM.out.n04) hb0 hb1).mono ?_
  rintro e v1 ⟨rfl, hb⟩
  replace HL : Hid (LaidAt v1 a0 a1) := HL.out.below hb
  replace HM : Hid (MoreAt v1 a0 a1 a2 a3 a4) := HM.out.below hb
  replace HB : Hid (Below w.heap.size w v1) := HB.out.trans (hb.mono HB.out.size)
  clear hb hb0 hb1 hr c d t u
  have hq1 := HL.out.s
  go_wp2_with fail
  obtain ⟨c, t, hb0⟩ := HM.out.h4
  obtain ⟨d, u, hb1⟩ := HL.out.hs
  refine (is_arg_other n a4 a1 c d t u _ (Ne.symm HM.out.n14) hb0 hb1).mono ?_
  rintro e v2 ⟨rfl, hb⟩
  replace HL : Hid (LaidAt v2 a0 a1) := HL.out.below hb
  replace HM : Hid (MoreAt v2 a0 a1 a2 a3 a4) := HM.out.below hb
  replace HB : Hid (Below w.heap.size w v2) := HB.out.trans (hb.mono HB.out.size)
  clear hb hb0 hb1 hq1 c d t u
  have hq2 := HM.out.f
  unfold ErrVar at hq2
  go_wp2_with fail
  obtain ⟨c, t, hb0⟩ := HM.out.h4
  obtain ⟨d, u, hb1⟩ := HM.out.h2
  refine (is_arg_other n a4 a2 c d t u _ (Ne.symm HM.out.n24) hb0 hb1).mono ?_
  rintro e v3 ⟨rfl, hb⟩
  replace HL : Hid (LaidAt v3 a0 a1) := HL.out.below hb
  replace HM : Hid (MoreAt v3 a0 a1 a2 a3 a4) := HM.out.below hb
  replace HB : Hid (Below w.heap.size w v3) := HB.out.trans (hb.mono HB.out.size)
  clear hb hb0 hb1 hq2 c d t u
  have hq3 := HM.out.u
  unfold ErrVar at hq3
  go_wp2_with fail
  obtain ⟨c, t, hb0⟩ := HM.out.h4
  obtain ⟨d, u, hb1⟩ := HM.out.h3
  refine (is_arg_other n a4 a3 c d t u _ (Ne.symm HM.out.n34) hb0 hb1).mono ?_
  rintro e v4 ⟨rfl, hb⟩
  replace HL : Hid (LaidAt v4 a0 a1) := HL.out.below hb
  replace HM : Hid (MoreAt v4 a0 a1 a2 a3 a4) := HM.out.below hb
  replace HB : Hid (Below w.heap.size w v4) := HB.out.trans (hb.mono HB.out.size)
  clear hb hb0 hb1 hq3 c d t u
  have hq4 := HM.out.e
  unfold ErrVar at hq4
  go_wp2_with fail
  refine (is_arg_same n a4 _).mono ?_
  rintro e v9 ⟨rfl, hb⟩
  have bel := HB.out.trans (hb.mono HB.out.size)
  clear hb hq4 HL HM HB
  go_wp2
  go_ret
  exact ⟨rfl, bel⟩
end Go.Proofs.YtelogjpjglohoaaDoor
