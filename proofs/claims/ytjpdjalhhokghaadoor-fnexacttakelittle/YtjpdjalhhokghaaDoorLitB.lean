/- Contracts of both PutLittle. -/
import Derived.Test.YtjpdjalhhokghaaDoorLitA
namespace Go.Proofs.YtjpdjalhhokghaaDoor
open Go.RowKit
set_option linter.unusedVariables false

def widthOK (n : Int) : Prop := n = 1 ∨ n = 2 ∨ n = 4 ∨ n = 8
theorem width_ok (n : Int) (w : World) (h : widthOK n) :
    Calls Tryd.prog 45 #[.int .i64 n] w fun e w' => e = .returned .nilIface ∧ w' = w := by
  rcases h with rfl | rfl | rfl | rfl
  all_goals
    go_enter Tryd.func45, Tryd.ntmps45
    go_wp2
    go_ret
    exact ⟨rfl, rfl⟩

theorem width_no (n : Int) (w : World) (a0 a1 : Addr) (hL : LaidAt w a0 a1) (h : ¬ widthOK n) :
    Calls Tryd.prog 45 #[.int .i64 n] w fun e w' => e = .returned (argErr { data := #[110] } a0) ∧ w' = w := by
  have hr := hL.r
  clear hL
  have h1 : ¬ n = 1 := fun e => h (.inl e)
  have h2 : ¬ n = 2 := fun e => h (.inr (.inl e))
  have h4 : ¬ n = 4 := fun e => h (.inr (.inr (.inl e)))
  have h8 : ¬ n = 8 := fun e => h (.inr (.inr (.inr e)))
  clear h
  go_enter Tryd.func45, Tryd.ntmps45
  go_wp2
  go_ret
  exact ⟨rfl, rfl⟩

theorem specWidth (n : Int) (w : World) (b : Bool) (h : (b = true ∧ widthOK n) ∨ (b = false ∧ ¬ widthOK n)) :
    Calls Tryd.prog 59 #[.int .i64 n] w fun e w' => e = .returned (.bool b) ∧ w' = w := by
  rcases h with ⟨rfl, h⟩ | ⟨rfl, h⟩
  · rcases h with rfl | rfl | rfl | rfl
    all_goals
      go_enter Tryd.func59, Tryd.ntmps59
      go_wp2
      go_ret
      exact ⟨rfl, rfl⟩
  · have h1 : (n == 1) = false := by simpa using fun e => h (.inl e)
    have h2 : (n == 2) = false := by simpa using fun e => h (.inr (.inl e))
    have h4 : (n == 4) = false := by simpa using fun e => h (.inr (.inr (.inl e)))
    have h8 : (n == 8) = false := by simpa using fun e => h (.inr (.inr (.inr e)))
    clear h
    go_enter Tryd.func59, Tryd.ntmps59
    go_wp2
    go_ret
    exact ⟨rfl, rfl⟩

theorem ret_two {a b : List UInt8} {x y : Int} (h : a = b) (k : x = y) : Ending.returned (.tuple #[.string ⟨a.toArray⟩, .int .i64 x]) = .returned (.tuple #[.string ⟨b.toArray⟩, .int .i64 y]) := by rw [h, k]

theorem put_bad_impl (v n : Int) (w : World) (hL : Laid w) (h : ¬ widthOK n) :
    Calls Tryd.prog 17 #[.int .i64 v, .int .i64 n] w fun e w' => e = .returned (.tuple #[.string { data := #[] }, .int .i64 4]) ∧ Below w.heap.size w w' := by
  obtain ⟨a0, a1, hL⟩ := hL
  go_enter Tryd.func17, Tryd.ntmps17
  go_wp2_with fail
  refine (width_no n w a0 a1 hL h).mono ?_
  rintro e w1 ⟨rfl, rfl⟩
  go_wp2_with fail
  refine (code_range _ _ a0 a1 hL).mono ?_
  rintro e w2 ⟨rfl, hb⟩
  clear hL h
  go_wp2
  go_ret2
  exact ⟨rfl, hb⟩

theorem put_bad_spec (v n : Int) (w : World) (h : ¬ widthOK n) :
    Calls Tryd.prog 21 #[.int .i64 v, .int .i64 n] w fun e w' => e = .returned (.tuple #[.string { data := #[] }, .int .i64 4]) ∧ Below w.heap.size w w' := by
  go_enter Tryd.func21, Tryd.ntmps21
  go_wp2_with fail
  refine (specWidth n w false (.inr ⟨rfl, h⟩)).mono ?_
  rintro e w1 ⟨rfl, rfl⟩
  clear h
  go_wp2
  go_ret2
  exact ⟨rfl, Below.refl _ _⟩

theorem put_ok_spec (v : Int) (n : Nat) (w : World) (h : widthOK n) :
    Calls Tryd.prog 21 #[.int .i64 v, .int .i64 n] w fun e w' => e = .returned (.tuple #[.string ⟨(leL (u64 v) n).toArray⟩, .int .i64 0]) ∧ Below w.heap.size w w' := by
  have hn : n ≤ 8 := by unfold widthOK at h; omega
  go_enter Tryd.func21, Tryd.ntmps21
  go_wp2_with fail
  refine (specWidth n w true (.inl ⟨rfl, h⟩)).mono ?_
  rintro e w1 ⟨rfl, rfl⟩
  clear h
  go_wp2_with fail
  refine (specLittle0 v n _ hn).mono ?_
  rintro e w2 ⟨rfl, hb⟩
  go_wp2
  go_ret2
  exact ⟨rfl, hb⟩

theorem put_ok_impl (v : Int) (n : Nat) (w : World) (h : widthOK n) :
    Calls Tryd.prog 17 #[.int .i64 v, .int .i64 n] w fun e w' => e = .returned (.tuple #[.string ⟨(leL (u64 v) n).toArray⟩, .int .i64 0]) ∧ Below w.heap.size w w' := by
  have hu := u64_lt v
  have hc : n = 1 ∨ n = 2 ∨ n = 4 ∨ n = 8 := by unfold widthOK at h; omega
  rcases hc with rfl | rfl | rfl | rfl
  · obtain ⟨x, hx⟩ : ∃ x, x = u64 v % 256 := ⟨_, rfl⟩
    have e1 : IntKind.u8.wrap v = (x : Int) := by rw [hx]; exact wrap_u8 v
    have e2 : v % 256 = (x : Int) := e1
    have hx2 : x < 256 := by omega
    have HX : Hid (leL x 1 = leL (u64 v) 1) := by rw [hx]; exact leL_1 _
    clear hx hu
    go_enter Tryd.func17, Tryd.ntmps17
    go_wp2_with fail
    refine (width_ok _ w h).mono ?_
    rintro e w1 ⟨rfl, rfl⟩
    go_wp2_with fail
    refine (spread_u8 x 1 _ (by omega) hx2).mono ?_
    rintro e w2 ⟨rfl, hb⟩
    go_wp2
    go_ret2
    exact ⟨ret_two HX.out rfl, hb⟩
  · obtain ⟨x, hx⟩ : ∃ x, x = u64 v % 65536 := ⟨_, rfl⟩
    have e1 : IntKind.u16.wrap v = (x : Int) := by rw [hx]; exact wrap_u16 v
    have e2 : v % 65536 = (x : Int) := e1
    have hx2 : x < 65536 := by omega
    have HX : Hid (leL x 2 = leL (u64 v) 2) := by rw [hx]; exact leL_2 _
    clear hx hu
    go_enter Tryd.func17, Tryd.ntmps17
    go_wp2_with fail
    refine (width_ok _ w h).mono ?_
    rintro e w1 ⟨rfl, rfl⟩
    go_wp2_with fail
    refine (spread_u16 x 2 _ (by omega) hx2).mono ?_
    rintro e w2 ⟨rfl, hb⟩
    go_wp2
    go_ret2
    exact ⟨ret_two HX.out rfl, hb⟩
  · obtain ⟨x, hx⟩ : ∃ x, x = u64 v % 4294967296 := ⟨_, rfl⟩
    have e1 : IntKind.u32.wrap v = (x : Int) := by rw [hx]; exact wrap_u32 v
    have e2 : v % 4294967296 = (x : Int) := e1
    have hx2 : x < 4294967296 := by omega
    have HX : Hid (leL x 4 = leL (u64 v) 4) := by rw [hx]; exact leL_4 _
    clear hx hu
    go_enter Tryd.func17, Tryd.ntmps17
    go_wp2_with fail
    refine (width_ok _ w h).mono ?_
    rintro e w1 ⟨rfl, rfl⟩
    go_wp2_with fail
    refine (spread_u32 x 4 _ (by omega) hx2).mono ?_
    rintro e w2 ⟨rfl, hb⟩
    go_wp2
    go_ret2
    exact ⟨ret_two HX.out rfl, hb⟩
  · have e1 := wrap_u64 v
    go_enter Tryd.func17, Tryd.ntmps17
    go_wp2_with fail
    refine (width_ok _ w h).mono ?_
    rintro e w1 ⟨rfl, rfl⟩
    go_wp2_with fail
    refine (spread_u64 (u64 v) 8 _ (by omega) hu).mono ?_
    rintro e w2 ⟨rfl, hb⟩
    go_wp2
    go_ret2
    exact ⟨rfl, hb⟩
end Go.Proofs.YtjpdjalhhokghaaDoor
