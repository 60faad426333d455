/- Contracts of both TakeLittle. -/
import Derived.Test.YtjpdjalhhokghaaDoorTakA
import Derived.Test.YtjpdjalhhokghaaDoorSgnA
namespace Go.Proofs.YtjpdjalhhokghaaDoor
open Go.RowKit
set_option linter.unusedVariables false

theorem cut_size (t : ByteArray) (a n : Nat) (h : a + n ≤ t.size) : (t.extract a (a + n)).size = n := by
  rw [ByteArray.size_extract]; omega
theorem cut_bt (t : ByteArray) (a n i : Nat) (h : a + n ≤ t.size) (hi : i < n) : bt (t.extract a (a + n)) i = bt t (a + i) := by
  rw [← bt_eq (t.extract a (a + n)) i (by rw [cut_size t a n h]; exact hi), ← bt_eq t (a + i) (by omega)]
  exact ByteArray.getElem_extract _
theorem cut_val (t : ByteArray) (a n : Nat) (h : a + n ≤ t.size) : valF (bt (t.extract a (a + n))) (t.extract a (a + n)).size = valF (fun i => bt t (a + i)) n := by
  rw [cut_size t a n h]
  exact valF_congr _ _ n (fun i hi => cut_bt t a n i h hi)

theorem cut_ok (t : ByteArray) (a n : Nat) (w : World) (ht : t.size ≤ 65536) (hw : widthOK n) (h : a + n ≤ t.size) :
    Calls Tryd.prog 51 #[.string t, .int .i64 a, .int .i64 n] w fun e w' => e = .returned (.tuple #[.string (t.extract a (a + n)), .nilIface]) ∧ w' = w := by
  go_enter Tryd.func51, Tryd.ntmps51
  go_wp2_with fail
  refine (width_ok _ w hw).mono ?_
  rintro e w1 ⟨rfl, rfl⟩
  have h1 : ¬ ((a : Int) < 0) := by omega
  have h2 : ¬ ((t.size : Int) - (n : Int) < (a : Int)) := by omega
  have h3 : n ≤ 8 := by unfold widthOK at hw; omega
  clear hw
  go_wp2
  go_ret2
  exact ⟨rfl, rfl⟩

theorem cut_width (t : ByteArray) (a n : Int) (w : World) (a0 a1 : Addr) (hL : LaidAt w a0 a1) (h : ¬ widthOK n) :
    Calls Tryd.prog 51 #[.string t, .int .i64 a, .int .i64 n] w fun e w' => e = .returned (.tuple #[.string { data := #[] }, argErr { data := #[110] } a0]) ∧ w' = w := by
  go_enter Tryd.func51, Tryd.ntmps51
  go_wp2_with fail
  refine (width_no n w a0 a1 hL h).mono ?_
  rintro e w1 ⟨rfl, rfl⟩
  clear hL h
  go_wp2
  go_ret2
  exact ⟨rfl, rfl⟩

theorem cut_at (t : ByteArray) (a : Int) (n : Nat) (w : World) (a0 a1 : Addr) (ht : t.size ≤ 65536) (hL : LaidAt w a0 a1) (hw : widthOK n) (h : a < 0 ∨ (t.size : Int) < a + n) :
    Calls Tryd.prog 51 #[.string t, .int .i64 a, .int .i64 n] w fun e w' => e = .returned (.tuple #[.string { data := #[] }, argErr { data := #[116] } a1]) ∧ Below w.heap.size w w' := by
  have hs := hL.s
  clear hL
  go_enter Tryd.func51, Tryd.ntmps51
  go_wp2_with fail
  refine (width_ok _ w hw).mono ?_
  rintro e w1 ⟨rfl, rfl⟩
  have h3 : n ≤ 8 := by unfold widthOK at hw; omega
  clear hw
  by_cases h0 : a < 0
  · go_wp2_with fail
    go_region
    go_wp2
    go_ret2
    exact ⟨rfl, (Below.refl _ _).drew⟩
  · have h1 : (t.size : Int) - (n : Int) < a := by omega
    clear h
    go_wp2_with fail
    go_region
    go_wp2
    go_ret2
    exact ⟨rfl, (Below.refl _ _).drew⟩

/-- The number that both answer. -/
def takeV (t : ByteArray) (a n : Nat) : Int := IntKind.i64.wrap (valF (fun i => bt t (a + i)) n : Nat)

theorem takeV_small (t : ByteArray) (a n : Nat) (h : n ≤ 4) : takeV t a n = (valF (fun i => bt t (a + i)) n : Nat) := by
  have h1 := valF_lt (fun i => bt t (a + i)) n
  have h2 : 256 ^ n ≤ 256 ^ 4 := Nat.pow_le_pow_right (by decide) h
  have h3 : (256 : Nat) ^ 4 = 4294967296 := by decide
  unfold takeV
  rw [IntKind.wrap_i64]
  omega

theorem take_width_impl (t : ByteArray) (a n : Int) (w : World) (hL : Laid w) (ht : t.size ≤ 65536) (h : ¬ widthOK n) :
    Calls Tryd.prog 18 #[.string t, .int .i64 a, .int .i64 n] w fun e w' => e = .returned (.tuple #[.int .i64 0, .int .i64 4]) ∧ Below w.heap.size w w' := by
  obtain ⟨a0, a1, hL⟩ := hL
  go_enter Tryd.func18, Tryd.ntmps18
  go_wp2_with fail
  refine (cut_width t a n w a0 a1 hL h).mono ?_
  rintro e w1 ⟨rfl, rfl⟩
  go_wp2_with fail
  refine (code_range _ _ a0 a1 hL).mono ?_
  rintro e w2 ⟨rfl, hb⟩
  clear hL h
  go_wp2
  go_ret2
  exact ⟨rfl, hb⟩

theorem take_at_impl (t : ByteArray) (a : Int) (n : Nat) (w : World) (hL : Laid w) (ht : t.size ≤ 65536) (hw : widthOK n) (h : a < 0 ∨ (t.size : Int) < a + n) :
    Calls Tryd.prog 18 #[.string t, .int .i64 a, .int .i64 n] w fun e w' => e = .returned (.tuple #[.int .i64 0, .int .i64 8]) ∧ Below w.heap.size w w' := by
  obtain ⟨a0, a1, hL⟩ := hL
  go_enter Tryd.func18, Tryd.ntmps18
  go_wp2_with fail
  refine (cut_at t a n w a0 a1 ht hL hw h).mono ?_
  rintro e w1 ⟨rfl, hb1⟩
  have hL1 := hL.below hb1
  go_wp2_with fail
  refine (code_size _ w1 a0 a1 hL1).mono ?_
  rintro e w2 ⟨rfl, hb⟩
  clear hL hL1 h hw
  go_wp2
  go_ret2
  exact ⟨rfl, hb1.trans (hb.mono hb1.size)⟩

theorem take_long_impl (t : ByteArray) (a n : Int) (w : World) (ht : 65536 < t.size) :
    Calls Tryd.prog 18 #[.string t, .int .i64 a, .int .i64 n] w fun e w' => e = .returned (.tuple #[.int .i64 0, .int .i64 2]) ∧ Below w.heap.size w w' := by
  go_enter Tryd.func18, Tryd.ntmps18
  go_wp2
  go_ret2
  exact ⟨rfl, Below.refl _ _⟩

theorem take_long_spec (t : ByteArray) (a n : Int) (w : World) (ht : 65536 < t.size) :
    Calls Tryd.prog 22 #[.string t, .int .i64 a, .int .i64 n] w fun e w' => e = .returned (.tuple #[.int .i64 0, .int .i64 2]) ∧ Below w.heap.size w w' := by
  go_enter Tryd.func22, Tryd.ntmps22
  go_wp2
  go_ret2
  exact ⟨rfl, Below.refl _ _⟩

theorem take_width_spec (t : ByteArray) (a n : Int) (w : World) (ht : t.size ≤ 65536) (h : ¬ widthOK n) :
    Calls Tryd.prog 22 #[.string t, .int .i64 a, .int .i64 n] w fun e w' => e = .returned (.tuple #[.int .i64 0, .int .i64 4]) ∧ Below w.heap.size w w' := by
  go_enter Tryd.func22, Tryd.ntmps22
  go_wp2_with fail
  refine (specWidth n w false (.inr ⟨rfl, h⟩)).mono ?_
  rintro e w1 ⟨rfl, rfl⟩
  clear h
  go_wp2
  go_ret2
  exact ⟨rfl, Below.refl _ _⟩

theorem take_at_spec (t : ByteArray) (a : Int) (n : Nat) (w : World) (ht : t.size ≤ 65536) (hw : widthOK n) (h : a < 0 ∨ (t.size : Int) < a + n) :
    Calls Tryd.prog 22 #[.string t, .int .i64 a, .int .i64 n] w fun e w' => e = .returned (.tuple #[.int .i64 0, .int .i64 8]) ∧ Below w.heap.size w w' := by
  go_enter Tryd.func22, Tryd.ntmps22
  go_wp2_with fail
  refine (specWidth n w true (.inl ⟨rfl, hw⟩)).mono ?_
  rintro e w1 ⟨rfl, rfl⟩
  clear hw
  by_cases h0 : a < 0
  · go_wp2
    go_ret2
    exact ⟨rfl, Below.refl _ _⟩
  · by_cases h1 : (t.size : Int) < a
    · clear h
      go_wp2
      go_ret2
      exact ⟨rfl, Below.refl _ _⟩
    · have h2 : (t.size : Int) - a < (n : Int) := by omega
      clear h
      go_wp2
      go_ret2
      exact ⟨rfl, Below.refl _ _⟩

set_option maxRecDepth 100000 in
set_option maxHeartbeats 1000000 in
theorem specTake0 (t : ByteArray) (a n : Nat) (w : World) (ht : t.size ≤ 65536) (hn : n ≤ 8) (h : a + n ≤ t.size) :
    Calls Tryd.prog 61 #[.string t, .int .i64 a, .int .i64 n] w fun e w' => e = .returned (.int .i64 (takeV t a n)) ∧ w' = w := by
  go_enter Tryd.func61, Tryd.ntmps61
  go_wp2
  go_loop [7, 8] (fun x i => ∃ k o : Nat, k ≤ n ∧ i = .int .i64 ((k : Int) - 1) ∧ x = .int .u64 (o : Int) ∧ Hid (valF (fun i => bt t (a + i)) n = valF (fun i => bt t (a + i)) k + 256 ^ k * o)) (fun _ i => (intOf i + 1).toNat)
  case atStart => exact ⟨n, 0, Nat.le_refl _, rfl, rfl, by show _ = _; omega⟩
  case round =>
    obtain ⟨k, o, hk, rfl, rfl, ho⟩ := hrel
    by_cases hlt : 1 ≤ k
    · obtain ⟨j, rfl⟩ : ∃ j, k = j + 1 := ⟨k - 1, by omega⟩
      have hol := horner_bd _ n j o hn ho.out
      have HST : Hid (valF (fun i => bt t (a + i)) n = valF (fun i => bt t (a + i)) j + 256 ^ j * (256 * o + (bt t (a + j)).toNat)) := valF_horner _ n j o ho.out
      clear ho
      have ej : ((j + 1 : Nat) : Int) - 1 = (j : Int) := by omega
      have hlt2 : a + j < t.size := by omega
      rw [← bt_eq t (a + j) hlt2] at HST
      have hbyte := t[a + j].toNat_lt
      go_wp2
      go_round
      case rel => exact ⟨j, 256 * o + t[a + j].toNat, by omega, rfl, by go_num, HST⟩
      case measure => simp [intOf]
    · obtain rfl : k = 0 := by omega
      have hz : IntKind.i64.wrap (o : Int) = takeV t a n := by
        unfold takeV
        rw [ho.out]
        simp [valF]
      clear ho
      go_wp2
      go_ret
      exact ⟨rfl, rfl⟩

theorem take_ok_spec (t : ByteArray) (a n : Nat) (w : World) (ht : t.size ≤ 65536) (hw : widthOK n) (h : a + n ≤ t.size) :
    Calls Tryd.prog 22 #[.string t, .int .i64 a, .int .i64 n] w fun e w' => e = .returned (.tuple #[.int .i64 (takeV t a n), .int .i64 0]) ∧ Below w.heap.size w w' := by
  have hn : n ≤ 8 := by unfold widthOK at hw; omega
  go_enter Tryd.func22, Tryd.ntmps22
  go_wp2_with fail
  refine (specWidth n w true (.inl ⟨rfl, hw⟩)).mono ?_
  rintro e w1 ⟨rfl, rfl⟩
  clear hw
  go_wp2_with fail
  refine (specTake0 t a n _ ht hn h).mono ?_
  rintro e w2 ⟨rfl, rfl⟩
  go_wp2
  go_ret2
  exact ⟨rfl, Below.refl _ _⟩

theorem take_ok_impl (t : ByteArray) (a n : Nat) (w : World) (ht : t.size ≤ 65536) (hw : widthOK n) (h : a + n ≤ t.size) :
    Calls Tryd.prog 18 #[.string t, .int .i64 a, .int .i64 n] w fun e w' => e = .returned (.tuple #[.int .i64 (takeV t a n), .int .i64 0]) ∧ Below w.heap.size w w' := by
  have hc : n = 1 ∨ n = 2 ∨ n = 4 ∨ n = 8 := by unfold widthOK at hw; omega
  have hz := cut_size t a n h
  have hvl : valF (bt (t.extract a (a + n))) (t.extract a (a + n)).size < 256 ^ n := by rw [hz]; exact valF_lt _ _
  have hx := cut_val t a n h
  go_enter Tryd.func18, Tryd.ntmps18
  go_wp2_with fail
  refine (cut_ok t a n w ht hw h).mono ?_
  rintro e w1 ⟨rfl, rfl⟩
  rcases hc with rfl | rfl | rfl | rfl
  · have HT : Hid (takeV t a 1 = (valF (bt (t.extract a (a + 1))) (t.extract a (a + 1)).size : Nat)) := by show _ = _; rw [hx]; exact takeV_small t a 1 (by omega)
    clear hx hw
    go_wp2_with fail
    refine (gather_u8 (t.extract a (a + 1)) _ (by omega)).mono ?_
    rintro e w2 ⟨rfl, rfl⟩
    generalize valF (bt (t.extract a (a + 1))) (t.extract a (a + 1)).size = x at *
    have hx : x < 256 := by simpa using hvl
    clear hvl
    go_wp2
    go_ret2
    exact ⟨ret_ints HT.out.symm rfl, Below.refl _ _⟩
  · have HT : Hid (takeV t a 2 = (valF (bt (t.extract a (a + 2))) (t.extract a (a + 2)).size : Nat)) := by show _ = _; rw [hx]; exact takeV_small t a 2 (by omega)
    clear hx hw
    go_wp2_with fail
    refine (gather_u16 (t.extract a (a + 2)) _ (by omega)).mono ?_
    rintro e w2 ⟨rfl, rfl⟩
    generalize valF (bt (t.extract a (a + 2))) (t.extract a (a + 2)).size = x at *
    have hx : x < 65536 := by simpa using hvl
    clear hvl
    go_wp2
    go_ret2
    exact ⟨ret_ints HT.out.symm rfl, Below.refl _ _⟩
  · have HT : Hid (takeV t a 4 = (valF (bt (t.extract a (a + 4))) (t.extract a (a + 4)).size : Nat)) := by show _ = _; rw [hx]; exact takeV_small t a 4 (by omega)
    clear hx hw
    go_wp2_with fail
    refine (gather_u32 (t.extract a (a + 4)) _ (by omega)).mono ?_
    rintro e w2 ⟨rfl, rfl⟩
    generalize valF (bt (t.extract a (a + 4))) (t.extract a (a + 4)).size = x at *
    have hx : x < 4294967296 := by simpa using hvl
    clear hvl
    go_wp2
    go_ret2
    exact ⟨ret_ints HT.out.symm rfl, Below.refl _ _⟩
  · have HT : IntKind.i64.wrap (valF (bt (t.extract a (a + 8))) (t.extract a (a + 8)).size : Nat) = takeV t a 8 := by rw [hx]; rfl
    clear hx hw
    go_wp2_with fail
    refine (gather_u64 (t.extract a (a + 8)) _ (by omega)).mono ?_
    rintro e w2 ⟨rfl, rfl⟩
    generalize valF (bt (t.extract a (a + 8))) (t.extract a (a + 8)).size = x at *
    clear hvl
    go_wp2
    go_ret2
    exact ⟨rfl, Below.refl _ _⟩
end Go.Proofs.YtjpdjalhhokghaaDoor
