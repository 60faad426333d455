/- The program's search of the first that is wrong. -/
import Derived.Test.YtdcjddiigipdmaaObjS2
namespace Go.Proofs.Ytdcjddiigipdmaa
open Go Go.RowKit
set_option linter.unusedVariables false

set_option maxRecDepth 100000 in
set_option maxHeartbeats 2000000 in
/- A method bound to its object, asked of each number in turn. -/
theorem firstF (rc : Value) (n : Nat) (f : Nat → Int) (w : World) (hn : n ≤ 2000000) (x y : Int) (hl : FstIs n f x y)
    (hc : ∀ i W, i < n → Below w.heap.size w W → Calls Try.prog 42 #[rc, .int .i64 (i : Nat)] W fun e w' => e = .returned (.int .i64 (f i)) ∧ Below W.heap.size W w') :
    Calls Try.prog 41 #[.int .i64 n, .func (.func 42) #[rc] #[]] w fun e w' => e = .returned (.tuple #[.int .i64 x, .int .i64 y]) ∧ Below w.heap.size w w' := by
  have HC : Hid (∀ i W, i < n → Below w.heap.size w W → _) := hc
  clear hc
  go_enter Try.func41, Try.ntmps41
  go_wp2_with fail
  go_loopw [9] (fun i wr => ∃ k : Nat, k ≤ n ∧ i = .int .i64 k ∧ (∀ j, j < k → f j = 0) ∧ Below w.heap.size w wr) (fun i _ => n - (intOf i).toNat)
  case atStart => exact ⟨0, Nat.zero_le _, rfl, fun j hj => absurd hj (Nat.not_lt_zero _), Below.refl _ _⟩
  case round =>
    obtain ⟨k, hk, rfl, hok, hB⟩ := hrel
    by_cases hlt : k < n
    · have HAT : Hid (f k ≠ 0 → x = ((k : Nat) : Int) ∧ y = f k) := fun hne => hl.at hlt hok hne
      have HOK : Hid (∀ j, j < k → f j = 0) := hok
      have C := HC.out k wr hlt hB
      obtain ⟨v, hv⟩ : ∃ v, f k = v := ⟨_, rfl⟩
      rw [hv] at C
      have HV : Hid (f k = v) := hv
      have HCC : Hid (Calls _ _ _ _ _) := C
      have HB : Hid (Below w.heap.size w wr) := hB
      clear hok hv hB C
      go_wp2_with fail
      refine HCC.out.mono ?_
      rintro e w2 ⟨rfl, hb2⟩
      have B2 := HB.out.trans (hb2.mono HB.out.size)
      clear hb2 HCC HB
      by_cases h0 : v = 0
      · subst h0
        have HALL : Hid (∀ j, j < k + 1 → f j = 0) := FstIs.more HOK.out HV.out
        go_wp2_with fail
        go_roundw
        case rel => exact ⟨k + 1, by omega, by go_num, HALL.out, B2⟩
        case measure => simp [intOf]; omega
      · have h0b : (v != 0) = true := by simpa using h0
        obtain ⟨rfl, hy⟩ := HAT.out (by rw [HV.out]; exact h0)
        rw [HV.out] at hy
        subst hy
        go_wp2_with fail
        go_ret2
        exact ⟨rfl, B2⟩
    · obtain rfl : k = n := by omega
      obtain ⟨rfl, rfl⟩ := hl.end hok
      clear hok hl
      go_wp2_with fail
      go_ret2
      exact ⟨rfl, hB⟩
set_option maxRecDepth 100000 in
set_option maxHeartbeats 2000000 in
theorem firstD (rc : Value) (n : Nat) (f : Nat → Int) (w : World) (hn : n ≤ 2000000) (x y : Int) (hl : FstIs n f x y)
    (hc : ∀ i W, i < n → Below w.heap.size w W → Calls Try.prog 43 #[rc, .int .i64 (i : Nat)] W fun e w' => e = .returned (.int .i64 (f i)) ∧ Below W.heap.size W w') :
    Calls Try.prog 41 #[.int .i64 n, .func (.func 43) #[rc] #[]] w fun e w' => e = .returned (.tuple #[.int .i64 x, .int .i64 y]) ∧ Below w.heap.size w w' := by
  have HC : Hid (∀ i W, i < n → Below w.heap.size w W → _) := hc
  clear hc
  go_enter Try.func41, Try.ntmps41
  go_wp2_with fail
  go_loopw [9] (fun i wr => ∃ k : Nat, k ≤ n ∧ i = .int .i64 k ∧ (∀ j, j < k → f j = 0) ∧ Below w.heap.size w wr) (fun i _ => n - (intOf i).toNat)
  case atStart => exact ⟨0, Nat.zero_le _, rfl, fun j hj => absurd hj (Nat.not_lt_zero _), Below.refl _ _⟩
  case round =>
    obtain ⟨k, hk, rfl, hok, hB⟩ := hrel
    by_cases hlt : k < n
    · have HAT : Hid (f k ≠ 0 → x = ((k : Nat) : Int) ∧ y = f k) := fun hne => hl.at hlt hok hne
      have HOK : Hid (∀ j, j < k → f j = 0) := hok
      have C := HC.out k wr hlt hB
      obtain ⟨v, hv⟩ : ∃ v, f k = v := ⟨_, rfl⟩
      rw [hv] at C
      have HV : Hid (f k = v) := hv
      have HCC : Hid (Calls _ _ _ _ _) := C
      have HB : Hid (Below w.heap.size w wr) := hB
      clear hok hv hB C
      go_wp2_with fail
      refine HCC.out.mono ?_
      rintro e w2 ⟨rfl, hb2⟩
      have B2 := HB.out.trans (hb2.mono HB.out.size)
      clear hb2 HCC HB
      by_cases h0 : v = 0
      · subst h0
        have HALL : Hid (∀ j, j < k + 1 → f j = 0) := FstIs.more HOK.out HV.out
        go_wp2_with fail
        go_roundw
        case rel => exact ⟨k + 1, by omega, by go_num, HALL.out, B2⟩
        case measure => simp [intOf]; omega
      · have h0b : (v != 0) = true := by simpa using h0
        obtain ⟨rfl, hy⟩ := HAT.out (by rw [HV.out]; exact h0)
        rw [HV.out] at hy
        subst hy
        go_wp2_with fail
        go_ret2
        exact ⟨rfl, B2⟩
    · obtain rfl : k = n := by omega
      obtain ⟨rfl, rfl⟩ := hl.end hok
      clear hok hl
      go_wp2_with fail
      go_ret2
      exact ⟨rfl, hB⟩
set_option maxRecDepth 100000 in
set_option maxHeartbeats 2000000 in
theorem firstR (rc : Value) (n : Nat) (f : Nat → Int) (w : World) (hn : n ≤ 2000000) (x y : Int) (hl : FstIs n f x y)
    (hc : ∀ i W, i < n → Below w.heap.size w W → Calls Try.prog 44 #[rc, .int .i64 (i : Nat)] W fun e w' => e = .returned (.int .i64 (f i)) ∧ Below W.heap.size W w') :
    Calls Try.prog 41 #[.int .i64 n, .func (.func 44) #[rc] #[]] w fun e w' => e = .returned (.tuple #[.int .i64 x, .int .i64 y]) ∧ Below w.heap.size w w' := by
  have HC : Hid (∀ i W, i < n → Below w.heap.size w W → _) := hc
  clear hc
  go_enter Try.func41, Try.ntmps41
  go_wp2_with fail
  go_loopw [9] (fun i wr => ∃ k : Nat, k ≤ n ∧ i = .int .i64 k ∧ (∀ j, j < k → f j = 0) ∧ Below w.heap.size w wr) (fun i _ => n - (intOf i).toNat)
  case atStart => exact ⟨0, Nat.zero_le _, rfl, fun j hj => absurd hj (Nat.not_lt_zero _), Below.refl _ _⟩
  case round =>
    obtain ⟨k, hk, rfl, hok, hB⟩ := hrel
    by_cases hlt : k < n
    · have HAT : Hid (f k ≠ 0 → x = ((k : Nat) : Int) ∧ y = f k) := fun hne => hl.at hlt hok hne
      have HOK : Hid (∀ j, j < k → f j = 0) := hok
      have C := HC.out k wr hlt hB
      obtain ⟨v, hv⟩ : ∃ v, f k = v := ⟨_, rfl⟩
      rw [hv] at C
      have HV : Hid (f k = v) := hv
      have HCC : Hid (Calls _ _ _ _ _) := C
      have HB : Hid (Below w.heap.size w wr) := hB
      clear hok hv hB C
      go_wp2_with fail
      refine HCC.out.mono ?_
      rintro e w2 ⟨rfl, hb2⟩
      have B2 := HB.out.trans (hb2.mono HB.out.size)
      clear hb2 HCC HB
      by_cases h0 : v = 0
      · subst h0
        have HALL : Hid (∀ j, j < k + 1 → f j = 0) := FstIs.more HOK.out HV.out
        go_wp2_with fail
        go_roundw
        case rel => exact ⟨k + 1, by omega, by go_num, HALL.out, B2⟩
        case measure => simp [intOf]; omega
      · have h0b : (v != 0) = true := by simpa using h0
        obtain ⟨rfl, hy⟩ := HAT.out (by rw [HV.out]; exact h0)
        rw [HV.out] at hy
        subst hy
        go_wp2_with fail
        go_ret2
        exact ⟨rfl, B2⟩
    · obtain rfl : k = n := by omega
      obtain ⟨rfl, rfl⟩ := hl.end hok
      clear hok hl
      go_wp2_with fail
      go_ret2
      exact ⟨rfl, hB⟩
set_option maxRecDepth 100000 in
set_option maxHeartbeats 2000000 in
theorem firstS (rc : Value) (n : Nat) (f : Nat → Int) (w : World) (hn : n ≤ 2000000) (x y : Int) (hl : FstIs n f x y)
    (hc : ∀ i W, i < n → Below w.heap.size w W → Calls Try.prog 45 #[rc, .int .i64 (i : Nat)] W fun e w' => e = .returned (.int .i64 (f i)) ∧ Below W.heap.size W w') :
    Calls Try.prog 41 #[.int .i64 n, .func (.func 45) #[rc] #[]] w fun e w' => e = .returned (.tuple #[.int .i64 x, .int .i64 y]) ∧ Below w.heap.size w w' := by
  have HC : Hid (∀ i W, i < n → Below w.heap.size w W → _) := hc
  clear hc
  go_enter Try.func41, Try.ntmps41
  go_wp2_with fail
  go_loopw [9] (fun i wr => ∃ k : Nat, k ≤ n ∧ i = .int .i64 k ∧ (∀ j, j < k → f j = 0) ∧ Below w.heap.size w wr) (fun i _ => n - (intOf i).toNat)
  case atStart => exact ⟨0, Nat.zero_le _, rfl, fun j hj => absurd hj (Nat.not_lt_zero _), Below.refl _ _⟩
  case round =>
    obtain ⟨k, hk, rfl, hok, hB⟩ := hrel
    by_cases hlt : k < n
    · have HAT : Hid (f k ≠ 0 → x = ((k : Nat) : Int) ∧ y = f k) := fun hne => hl.at hlt hok hne
      have HOK : Hid (∀ j, j < k → f j = 0) := hok
      have C := HC.out k wr hlt hB
      obtain ⟨v, hv⟩ : ∃ v, f k = v := ⟨_, rfl⟩
      rw [hv] at C
      have HV : Hid (f k = v) := hv
      have HCC : Hid (Calls _ _ _ _ _) := C
      have HB : Hid (Below w.heap.size w wr) := hB
      clear hok hv hB C
      go_wp2_with fail
      refine HCC.out.mono ?_
      rintro e w2 ⟨rfl, hb2⟩
      have B2 := HB.out.trans (hb2.mono HB.out.size)
      clear hb2 HCC HB
      by_cases h0 : v = 0
      · subst h0
        have HALL : Hid (∀ j, j < k + 1 → f j = 0) := FstIs.more HOK.out HV.out
        go_wp2_with fail
        go_roundw
        case rel => exact ⟨k + 1, by omega, by go_num, HALL.out, B2⟩
        case measure => simp [intOf]; omega
      · have h0b : (v != 0) = true := by simpa using h0
        obtain ⟨rfl, hy⟩ := HAT.out (by rw [HV.out]; exact h0)
        rw [HV.out] at hy
        subst hy
        go_wp2_with fail
        go_ret2
        exact ⟨rfl, B2⟩
    · obtain rfl : k = n := by omega
      obtain ⟨rfl, rfl⟩ := hl.end hok
      clear hok hl
      go_wp2_with fail
      go_ret2
      exact ⟨rfl, hB⟩
end Go.Proofs.Ytdcjddiigipdmaa
