/- The two errors at package level, as they are laid. The program's checks of ranges and the codes of their errors: contracts. Contracts of SignOf. Bits laid into a word whose place is free, by the model: the contract. Contract of the model's test of bounds. -/
import Derived.Test.YtbfoopfmjiilcaaDoorGXWordsOf4
import Derived.ProofKit
import Derived.OpenShut
import Derived.LaidMore
import Derived.Stop.LaidTwo
import Derived.Stop.Joined
import Derived.Test.YtbfoopfmjiilcaaDoorGXWordsOf3
import Derived.Test.YtbfoopfmjiilcaaDoorGXWordsOf0
import Derived.Test.YtbfoopfmjiilcaaDoorRows
import Derived.WalkKit
import Derived.WalkSpells
namespace Go.Proofs.YtbfoopfmjiilcaaDoor
open Go.RowKit Go.ChangeShapes Go.WideShapes Go.ChangeAt
set_option linter.unusedVariables false

/-- errRange is a pointer, errSize another one. -/
structure LaidAt (w : World) (a0 a1 : Addr) : Prop where
  r : w.cell? ⟨0, 0, none⟩ = some (.iface 163 (.pointer (some a0)))
  s : w.cell? ⟨1, 0, none⟩ = some (.iface 163 (.pointer (some a1)))
  ne : a0 ≠ a1
  hr : ∃ c t, w.heap[a0.block]? = some (.cells c t (0, 0))
  hs : ∃ c t, w.heap[a1.block]? = some (.cells c t (0, 0))
def Laid (w : World) : Prop := ∃ a0 a1, LaidAt w a0 a1

theorem LaidAt.below {w w' : World} {a0 a1 : Addr} (h : LaidAt w a0 a1) (hb : Below w.heap.size w w') : LaidAt w' a0 a1 := by
  obtain ⟨r, s, ne, ⟨c0, t0, h0⟩, ⟨c1, t1, h1⟩⟩ := h
  exact ⟨(hb.cell (p := ⟨0, 0, none⟩) (World.block_lt_of_cell? w _ r)).trans r, (hb.cell (p := ⟨1, 0, none⟩) (World.block_lt_of_cell? w _ s)).trans s, ne,
    ⟨c0, t0, (hb.block _ (Array.getElem?_eq_some_iff.1 h0).1).trans h0⟩, ⟨c1, t1, (hb.block _ (Array.getElem?_eq_some_iff.1 h1).1).trans h1⟩⟩
theorem laid_below {w w' : World} (h : Laid w) (hb : Below w.heap.size w w') : Laid w' := by
  obtain ⟨a0, a1, h⟩ := h
  exact ⟨a0, a1, h.below hb⟩

def laidList : List (String × DataW Unit) := [("loop.example/g00654/impl.errRange", Rows.laid_loop_example_g00654_impl_errRange), ("loop.example/g00654/impl.errSize", Rows.laid_loop_example_g00654_impl_errSize)]
theorem gR : Tryd.prog.globalNamed "loop.example/g00654/impl.errRange" = some 0 := by kernel_rfl
theorem gS : Tryd.prog.globalNamed "loop.example/g00654/impl.errSize" = some 1 := by kernel_rfl
theorem tR : (Tryd.prog.globals[0]?).map (·.type) = some 127 := by kernel_rfl
theorem tS : (Tryd.prog.globals[1]?).map (·.type) = some 127 := by kernel_rfl
theorem cE : Tryd.prog.cellsOf 188 = 1 := by kernel_rfl
theorem cS : Tryd.prog.cellsOf 9 = 1 := by kernel_rfl
theorem starE : "*" ++ "errors.errorString" = "*errors.errorString" := by decide
theorem rowE (u : TypeId) (h : Tryd.prog.typeName? 3 u = some "*errors.errorString") : u = 163 :=
  typeName_ptr_named (nm := "errors.errorString") (by rw [starE]; kernel_rfl) (by kernel_rfl) (by decide) u (by rw [starE]; exact h)

theorem door_met (os : Os) (args : Array Value) : laidMetH Tryd.prog laidList ((World.doorLaid Tryd.prog 400 os).forCall (fun _ _ => 0) ⟨#[], args, []⟩).memory :=
  laidMetH_of_parts3 (fuel := 8) (laidMet_of_run' 8 (by kernel_rfl) (by kernel_rfl)) (by kernel_rfl) (by kernel_rfl)

theorem of_laid {W : World} (h : laidMetH Tryd.prog laidList W) : Laid W := by
  rw [MakeChecks.laidMetH_plain _ _ _ (by kernel_rfl)] at h
  obtain ⟨a0, a1, s0, s1, c0, c1, t0, t1, hv0, hv1, hc0, hs0, hz0, hc1, hs1, hz1, hne, hb0, hb1⟩ := laid_sentinels2 h gR tR gS tS Tryd.underlying127 rowE Tryd.underlying163 Tryd.underlying188 rfl rfl Tryd.underlying9 cE cS
  exact ⟨a0, a1, by simpa using World.var?_cell gR hv0 0, by simpa using World.var?_cell gS hv1 0, hne, ⟨c0, t0, hb0⟩, ⟨c1, t1, hb1⟩⟩

theorem vars_len2 {H : Type} {enc : TypeId × Value → H} {P : Program} {w : World} {sp : Nat → Bool} {m n : String} {gs : List (DataW H)} {ps : List MemPlace} (h : DataW.TrodVars enc P w sp [m, n] gs ps) : ∃ g k, gs = [g, k] := by
  obtain ⟨g0, t0, cs0, f0, d0, p0, g1, t1, cs1, f1, d1, p1, rfl, _⟩ := trodVars_two h
  exact ⟨d0, d1, rfl⟩
end Go.Proofs.YtbfoopfmjiilcaaDoor

namespace Go.Proofs.YtbfoopfmjiilcaaDoor
open Go.RowKit
set_option linter.unusedVariables false

/-- inside: nil, or the error of the range. -/
theorem inside_ok (n : ByteArray) (v low high : Int) (w : World) (h0 : low ≤ v) (h1 : v ≤ high) :
    Calls Tryd.prog 108 #[.string n, .int .i64 v, .int .i64 low, .int .i64 high] w fun e w' => e = .returned .nilIface ∧ w' = w := by
  go_enter Tryd.func108, Tryd.ntmps108
  go_wp2
  go_ret
  exact ⟨rfl, rfl⟩

theorem inside_no (n : ByteArray) (v low high : Int) (w : World) (a0 a1 : Addr) (hL : LaidAt w a0 a1) (h : v < low ∨ high < v) :
    Calls Tryd.prog 108 #[.string n, .int .i64 v, .int .i64 low, .int .i64 high] w fun e w' => e = .returned (argErr n a0) ∧ w' = w := by
  have hr := hL.r
  clear hL
  by_cases h0 : v < low
  · go_enter Tryd.func108, Tryd.ntmps108
    go_wp2
    go_ret
    exact ⟨rfl, rfl⟩
  · have h1 : high < v := by omega
    go_enter Tryd.func108, Tryd.ntmps108
    go_wp2
    go_ret
    exact ⟨rfl, rfl⟩

/-- codeFrom: 0, 4 or 8. -/
theorem code_nil (w : World) :
    Calls Tryd.prog 109 #[.nilIface] w fun e w' => e = .returned (.int .i64 0) ∧ w' = w := by
  go_enter Tryd.func109, Tryd.ntmps109
  go_wp2
  go_ret
  exact ⟨rfl, rfl⟩

set_option maxHeartbeats 1000000 in
theorem code_range (n : ByteArray) (w : World) (a0 a1 : Addr) (hL : LaidAt w a0 a1) :
    Calls Tryd.prog 109 #[argErr n a0] w fun e w' => e = .returned (.int .i64 4) ∧ Below w.heap.size w w' := by
  have hr := hL.r
  clear hL
  go_enter Tryd.func109, Tryd.ntmps109
  go_wp2_with fail
  refine (is_arg_same n a0 w).mono ?_
  rintro e w1 ⟨rfl, hb⟩
  go_wp2
  go_ret
  exact ⟨rfl, hb⟩

set_option maxHeartbeats 1000000 in
theorem code_size (n : ByteArray) (w : World) (a0 a1 : Addr) (hL : LaidAt w a0 a1) :
    Calls Tryd.prog 109 #[argErr n a1] w fun e w' => e = .returned (.int .i64 8) ∧ Below w.heap.size w w' := by
  have hL0 := hL
  obtain ⟨c0, t0, h0⟩ := hL.hr
  obtain ⟨c1, t1, h1⟩ := hL.hs
  have hne := hL.ne
  have hr := hL.r
  clear hL
  go_enter Tryd.func109, Tryd.ntmps109
  go_wp2_with fail
  refine (is_arg_other n a1 a0 c1 c0 t1 t0 w (Ne.symm hne) h1 h0).mono ?_
  rintro e w1 ⟨rfl, hb⟩
  have hs := (hL0.below hb).s
  clear hL0 h0 h1 hr
  go_wp2_with fail
  refine (is_arg_same n a1 w1).mono ?_
  rintro e w2 ⟨rfl, hb2⟩
  go_wp2
  go_ret
  exact ⟨rfl, hb.trans (hb2.mono hb.size)⟩
end Go.Proofs.YtbfoopfmjiilcaaDoor

namespace Go.Proofs.YtbfoopfmjiilcaaDoor
open Go.RowKit
set_option linter.unusedVariables false

theorem sign_bad_impl (v c : Int) (w : World) (hL : Laid w) (h : c < 1 ∨ 64 < c) :
    Calls Tryd.prog 133 #[.int .i64 v, .int .i64 c] w fun e w' => e = .returned (.tuple #[.int .i64 0, .int .i64 4]) ∧ Below w.heap.size w w' := by
  obtain ⟨a0, a1, hL⟩ := hL
  go_enter Tryd.func133, Tryd.ntmps133
  go_wp2_with fail
  refine (inside_no _ c 1 64 w a0 a1 hL h).mono ?_
  rintro e w1 ⟨rfl, rfl⟩
  go_wp2_with fail
  refine (code_range _ _ a0 a1 hL).mono ?_
  rintro e w2 ⟨rfl, hb⟩
  clear hL h
  go_wp2
  go_ret2
  exact ⟨rfl, hb⟩

theorem sign_ok_impl (v : Int) (c : Nat) (w : World) (h0 : 1 ≤ c) (h1 : c ≤ 64) :
    Calls Tryd.prog 133 #[.int .i64 v, .int .i64 c] w fun e w' => e = .returned (.tuple #[.int .i64 (sgn v c), .int .i64 0]) ∧ w' = w := by
  obtain ⟨d, hd⟩ : ∃ d, d = 64 - c := ⟨_, rfl⟩
  have hd1 : (64 : Int) - (c : Int) = (d : Int) := by omega
  have hd2 : (d : Int) ≤ 64 := by omega
  have HS : Hid (((v * 2 ^ d + 9223372036854775808) % 18446744073709551616 - 9223372036854775808) / 2 ^ d = sgn v c) := sgn_shifts v c d (by omega) h0
  clear hd
  go_enter Tryd.func133, Tryd.ntmps133
  go_wp2_with fail
  refine (inside_ok _ (c : Int) 1 64 w (by omega) (by omega)).mono ?_
  rintro e w1 ⟨rfl, rfl⟩
  go_wp2
  go_ret2
  refine ⟨ret_ints ?_ rfl, rfl⟩
  show wrap64 (v * 2 ^ d) / 2 ^ d = sgn v c
  unfold wrap64
  exact HS.out

end Go.Proofs.YtbfoopfmjiilcaaDoor

namespace Go.Proofs.YtbfoopfmjiilcaaDoor
open Go.RowKit
set_option linter.unusedVariables false

theorem putStep (word v : Int) (low count k : Nat) (hw : 0 ≤ word) (hz : word / 2 ^ low % 2 ^ count = 0) :
    putT word v low count / 2 ^ k = 2 * (putT word v low count / 2 ^ (k + 1)) + (if low ≤ k ∧ k < low + count then bitT v (k - low) else bitT word k) := by
  rw [← put_bit word v low count k hw hz]
  exact int_half _ k

set_option maxRecDepth 100000 in
set_option maxHeartbeats 4000000 in
theorem putC (word v : Int) (low count : Nat) (w : World) (hw : 0 ≤ word) (hw2 : word < 4294967296) (h : low + count ≤ 32) (hz : word / 2 ^ low % 2 ^ count = 0) :
    Calls Tryd.prog 74 #[.int .i64 word, .int .i64 low, .int .i64 count, .int .i64 v] w fun e w' => e = .returned (.int .i64 (putT word v low count)) ∧ w' = w := by
  have hbd := put_bd word v low count hw hw2 h hz
  have hst := fun k => putStep word v low count k hw hz
  obtain ⟨R, hR⟩ : ∃ R, R = putT word v low count := ⟨_, rfl⟩
  rw [← hR] at hbd hst
  rw [← hR]
  clear hR hw hw2 hz
  obtain ⟨hR0, hR1⟩ := hbd
  have hR1' : R < 4294967296 := hR1
  have HST : Hid (∀ k, R / 2 ^ k = 2 * (R / 2 ^ (k + 1)) + (if low ≤ k ∧ k < low + count then bitT v (k - low) else bitT word k)) := hst
  have HB : Hid (0 ≤ R ∧ R < 4294967296) := ⟨hR0, hR1'⟩
  clear hst hR0 hR1 hR1'
  go_enter Tryd.func74, Tryd.ntmps74
  go_wp2
  go_loop [9, 10] (fun x t => ∃ k : Nat, ∃ o : Int, k ≤ 32 ∧ t = .int .i64 ((k : Int) - 1) ∧ x = .int .i64 o ∧ Hid (o = R / 2 ^ k)) (fun _ t => (intOf t + 1).toNat)
  case atStart => exact ⟨32, 0, Nat.le_refl _, rfl, rfl, (Int.ediv_eq_zero_of_lt HB.out.1 HB.out.2).symm⟩
  case round =>
    obtain ⟨k, o, hk, rfl, rfl, ho⟩ := hrel
    by_cases hlt : 1 ≤ k
    · obtain ⟨j, rfl⟩ : ∃ j, k = j + 1 := ⟨k - 1, by omega⟩
      have ho0 : 0 ≤ o := by rw [ho.out]; exact Int.ediv_nonneg HB.out.1 (Int.le_of_lt (pow_pos _))
      have ho1 : o < 4294967296 := by
        rw [ho.out]
        have := Int.ediv_le_self (2 ^ (j + 1)) HB.out.1
        have := HB.out.2
        omega
      have HJ : Hid (R / 2 ^ j = 2 * o + (if low ≤ j ∧ j < low + count then bitT v (j - low) else bitT word j)) := by
        have := HST.out j
        rw [← ho.out] at this
        exact this
      have ej : ((j + 1 : Nat) : Int) - 1 = (j : Int) := by omega
      clear ho HST HB
      by_cases h1 : low ≤ j
      · by_cases h2 : j < low + count
        · obtain ⟨m, rfl⟩ : ∃ m, j = low + m := ⟨j - low, by omega⟩
          rw [if_pos ⟨h1, h2⟩, Nat.add_sub_cancel_left] at HJ
          have hm : (low : Int) + (m : Int) - (low : Int) = (m : Int) := by omega
          go_wp2_with fail
          refine (bit_any word (low + m) _ (by omega)).mono ?_
          rintro e w2 ⟨rfl, rfl⟩
          go_wp2_with fail
          refine (bit_any v m _ (by omega)).mono ?_
          rintro e w2 ⟨rfl, rfl⟩
          have hbd := bitT_bd v m
          generalize bitT v m = b at *
          have hb0 : 0 ≤ b := by omega
          have hb1 : b ≤ 1 := by omega
          clear hbd h1 h2
          go_wp2
          go_round
          case rel => exact ⟨low + m, 2 * o + b, by omega, by go_num, by go_num, HJ.out.symm⟩
          case measure => simp [intOf]; omega
        · rw [if_neg (by omega)] at HJ
          have h2i : (low : Int) + (count : Int) ≤ (j : Int) := by omega
          clear h2
          go_wp2_with fail
          refine (bit_any word j _ (by omega)).mono ?_
          rintro e w2 ⟨rfl, rfl⟩
          have hbd := bitT_bd word j
          generalize bitT word j = b at *
          have hb0 : 0 ≤ b := by omega
          have hb1 : b ≤ 1 := by omega
          clear hbd h1
          go_wp2
          go_round
          case rel => exact ⟨j, 2 * o + b, by omega, by go_num, by go_num, HJ.out.symm⟩
          case measure => simp [intOf]
      · rw [if_neg (by omega)] at HJ
        have h1i : (j : Int) < (low : Int) := by omega
        go_wp2_with fail
        refine (bit_any word j _ (by omega)).mono ?_
        rintro e w2 ⟨rfl, rfl⟩
        have hbd := bitT_bd word j
        generalize bitT word j = b at *
        have hb0 : 0 ≤ b := by omega
        have hb1 : b ≤ 1 := by omega
        clear hbd h1
        go_wp2
        go_round
        case rel => exact ⟨j, 2 * o + b, by omega, by go_num, by go_num, HJ.out.symm⟩
        case measure => simp [intOf]
    · obtain rfl : k = 0 := by omega
      have ho' : o = R := by rw [ho.out]; simp
      clear ho HST HB
      go_wp2
      go_ret
      exact ⟨rfl, rfl⟩
end Go.Proofs.YtbfoopfmjiilcaaDoor

namespace Go.Proofs.YtbfoopfmjiilcaaDoor
open Go.RowKit
set_option linter.unusedVariables false

theorem spIn (x low high : Int) (w : World) (b : Bool) (h : (b = true ∧ low ≤ x ∧ x ≤ high) ∨ (b = false ∧ (x < low ∨ high < x))) :
    Calls Tryd.prog 41 #[.int .i64 x, .int .i64 low, .int .i64 high] w fun e w' => e = .returned (.bool b) ∧ w' = w := by
  rcases h with ⟨rfl, h0, h1⟩ | ⟨rfl, h⟩
  · go_enter Tryd.func41, Tryd.ntmps41
    go_wp2
    go_ret
    refine ⟨congrArg (fun x => Ending.returned (.bool x)) ?_, rfl⟩
    first | rfl | (simp; done) | (simp; omega)
  · by_cases h0 : x < low
    · go_enter Tryd.func41, Tryd.ntmps41
      go_wp2
      go_ret
      refine ⟨congrArg (fun x => Ending.returned (.bool x)) ?_, rfl⟩
      first | rfl | (simp; done) | (simp; omega)
    · have h1 : high < x := by omega
      clear h
      go_enter Tryd.func41, Tryd.ntmps41
      go_wp2
      go_ret
      refine ⟨congrArg (fun x => Ending.returned (.bool x)) ?_, rfl⟩
      first | rfl | (simp; done) | (simp; omega)

end Go.Proofs.YtbfoopfmjiilcaaDoor
