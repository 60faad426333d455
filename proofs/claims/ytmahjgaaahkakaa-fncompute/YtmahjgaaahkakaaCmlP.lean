/- Laws of operations on registers: plain; what they are drawn from: contracts. -/
import Derived.Test.YtmahjgaaahkakaaWidW
import Derived.Test.YtmahjgaaahkakaaSrcR
import Derived.Test.YtmahjgaaahkakaaSrcN
namespace Go.Proofs.Ytmahjgaaahkakaa
open Go.RowKit
set_option linter.unusedVariables false

theorem cl_in (a : Int) (h : In64 a) : wrap64 a = a := by unfold In64 at h; unfold wrap64; omega
theorem cl_less (a b : Int) (h : In64 a) : cm32 (wrap64 (a + b)) b = a := by
  unfold cm32
  unfold In64 at h
  unfold wrap64; omega
theorem cl_word (a b : Int) : cm45 a b = sgn (wrap64 (a + b)) 32 := by
  unfold cm45
  rw [sgn_wrap _ 32 (by decide)]
  obtain ⟨k, hk⟩ := sgn_far a 32
  obtain ⟨l, hl⟩ := sgn_far b 32
  rw [hk, hl, show a + k * 2 ^ 32 + (b + l * 2 ^ 32) = a + b + (k + l) * 2 ^ 32 from by rw [Int.add_mul]; omega, sgn_far2]
theorem cl_xor (a b : Int) (h : In64 a) : cm36 (cm36 a b) b = a := by
  have h1 := wiN_lt 36 _ _ (u64_lt a) (u64_lt b)
  have hx : ∀ x y, wiN 36 x y = x ^^^ y := fun x y => rfl
  have hu : u64 (cm36 a b) = u64 a ^^^ u64 b := by
    unfold cm36
    rw [hx] at h1
    rw [hx]
    generalize u64 a ^^^ u64 b = n at *
    unfold u64 wrap64; omega
  show wrap64 ((wiN 36 (u64 (cm36 a b)) (u64 b) : Nat) : Int) = a
  rw [hx, hu, Nat.xor_assoc, Nat.xor_self, Nat.xor_zero]
  unfold In64 at h
  unfold u64 wrap64; omega
theorem cl_sh (a : Int) (n : Nat) (h : n ≤ 62) : cm33 a ((n : Int) + 1) = wrap64 (cm33 a n + cm33 a n) := by
  have e1 : sh6 (n : Int) = n := by unfold sh6; omega
  have e2 : sh6 ((n : Int) + 1) = n + 1 := by unfold sh6; omega
  unfold cm33
  rw [e1, e2, ← e33, ← e33, Int.pow_succ, ← Int.mul_assoc]
  generalize a * 2 ^ n = P
  unfold wrap64; omega
theorem cl_sra (a : Int) (h : In64 a) : cm38 a 63 = if a < 0 then -1 else 0 := by
  have e1 : sh6 63 = 63 := by unfold sh6; rfl
  unfold cm38
  rw [e1, ← e38 a 63 h, show (2 : Int) ^ 63 = 9223372036854775808 from rfl]
  unfold In64 at h
  split <;> omega
theorem in_cm36 (a b : Int) : In64 (cm36 a b) := in64_wrap _

theorem chance_ctx (B b len cap m n : Nat) (a : Option Addr) (w : World) (h : Ctx w B b a len cap m) (hm : m ≤ 100000) (hn0 : 2 ≤ n) (hn1 : n ≤ 256) :
    Calls Try.prog 99 #[.pointer (some ⟨b, 0, none⟩), .int .i64 n] w fun e w' => ∃ v : Bool, e = .returned (.bool v) ∧ Ctx w' B b a len cap (m + 1) ∧ w.grownBy w' (some b) := by
  go_enter Try.func99, Try.ntmps99
  go_wp2_with fail
  refine (next_small B b len cap m n a w h hm hn0 hn1).mono ?_
  rintro e w1 ⟨v, hv, rfl, hc, hg⟩
  have hn2 : (n : Int) ≤ 256 := by omega
  have hn3 : 2 ≤ (n : Int) := by omega
  clear h
  go_wp2
  go_ret
  exact ⟨_, rfl, hc, hg⟩
set_option maxRecDepth 100000 in
set_option maxHeartbeats 2000000 in
theorem compute_ctx (B b len cap m : Nat) (a : Option Addr) (w : World) (h : Ctx w B b a len cap m) (hm : m ≤ 10000) :
    Calls Try.prog 45 #[.pointer (some ⟨b, 0, none⟩)] w fun e w' => ∃ o x y : Int, In64 x ∧ In64 y ∧ e = .returned (.tuple #[.int .i64 o, .int .i64 x, .int .i64 y]) ∧ Ctx w' B b a len cap (m + 1000) ∧ w.grownBy w' (some b) := by
  go_enter Try.func45, Try.ntmps45
  go_wp2_with fail
  refine (next_small B b len cap m 41 a w h (by omega) (by omega) (by omega)).mono ?_
  rintro e w1 ⟨o, ho, rfl, hc1, hg1⟩
  clear h
  go_wp2_with fail
  refine (chance_ctx B b len cap _ 10 a _ hc1 (by omega) (by omega) (by omega)).mono ?_
  rintro e w2 ⟨v1, rfl, hc2, hg2⟩
  have hgA := grownBy_trans hg1 hg2
  clear hg1 hg2 hc1
  cases v1
  · skip
    go_wp2_with fail
    refine (wide_ctx B b len cap _ a _ hc2 (by omega)).mono ?_
    rintro e w4 ⟨x, hx, rfl, hc4, hg4⟩
    go_wp2_with fail
    refine (wide_ctx B b len cap _ a _ hc4 (by omega)).mono ?_
    rintro e w5 ⟨y, hy, rfl, hc5, hg5⟩
    go_wp2_with fail
    refine (chance_ctx B b len cap _ 16 a _ hc5 (by omega) (by omega) (by omega)).mono ?_
    rintro e w6 ⟨v2, rfl, hc6, hg6⟩
    have hgB := grownBy_trans (grownBy_trans (grownBy_trans hgA hg4) hg5) hg6
    clear hgA hg4 hg5 hg6 hc2 hc4 hc5
    cases v2
    all_goals
      go_wp2_with fail
      refine (chance_ctx B b len cap _ 16 a _ hc6 (by omega) (by omega) (by omega)).mono ?_
      rintro e w7 ⟨v3, rfl, hc7, hg7⟩
      have hgC := grownBy_trans hgB hg7
      clear hgB hg7 hc6
      cases v3
      all_goals
        go_wp2
        go_ret3
        exact ⟨_, _, _, by first | assumption | (unfold In64; omega), by first | assumption | (unfold In64; omega), rfl, hc7.mono (by omega), hgC⟩
  · go_wp2_with fail
    refine (next_small B b len cap _ 68 a _ hc2 (by omega) (by omega) (by omega)).mono ?_
    rintro e w3 ⟨o2, ho2, rfl, hc3, hg3⟩
    have hgD := grownBy_trans hgA hg3
    clear hgA hg3 hc2
    go_wp2_with fail
    refine (wide_ctx B b len cap _ a _ hc3 (by omega)).mono ?_
    rintro e w4 ⟨x, hx, rfl, hc4, hg4⟩
    go_wp2_with fail
    refine (wide_ctx B b len cap _ a _ hc4 (by omega)).mono ?_
    rintro e w5 ⟨y, hy, rfl, hc5, hg5⟩
    go_wp2_with fail
    refine (chance_ctx B b len cap _ 16 a _ hc5 (by omega) (by omega) (by omega)).mono ?_
    rintro e w6 ⟨v2, rfl, hc6, hg6⟩
    have hgB := grownBy_trans (grownBy_trans (grownBy_trans hgD hg4) hg5) hg6
    clear hgD hg4 hg5 hg6 hc3 hc4 hc5
    cases v2
    all_goals
      go_wp2_with fail
      refine (chance_ctx B b len cap _ 16 a _ hc6 (by omega) (by omega) (by omega)).mono ?_
      rintro e w7 ⟨v3, rfl, hc7, hg7⟩
      have hgC := grownBy_trans hgB hg7
      clear hgB hg7 hc6
      cases v3
      all_goals
        go_wp2
        go_ret3
        exact ⟨_, _, _, by first | assumption | (unfold In64; omega), by first | assumption | (unfold In64; omega), rfl, hc7.mono (by omega), hgC⟩

theorem computeDrawn_any (len cap B : Nat) (a : Option Addr) (w : World) (hB : Bytes w B a len) (hb : B ≤ w.heap.size) :
    Calls Try.prog 22 #[.slice a len cap] w fun e w' => ∃ o x y : Int, 22 ≤ o ∧ o ≤ 62 ∧ In64 x ∧ In64 y ∧ e = .returned (.tuple #[.int .i64 o, .int .i64 x, .int .i64 y]) ∧ Below w.heap.size w w' := by
  go_enter Try.func22, Try.ntmps22
  go_wp2_with fail
  refine (source_any len cap a _ hB.1).mono ?_
  rintro e w1 ⟨sd, rfl, hs, hbel, hsz⟩
  go_wp2_with fail
  refine (compute_ctx B _ len cap 0 a _ ⟨⟨0, sd, by omega, hs⟩, hB.below (hbel.mono hb), hb, hsz⟩ (by omega)).mono ?_
  rintro e w2 ⟨o, x, y, hx, hy, rfl, hc2, hg⟩
  go_wp2_with fail
  refine (next_small B _ len cap _ 41 a _ hc2 (by omega) (by omega) (by omega)).mono ?_
  rintro e w3 ⟨k, hk, rfl, hc3, hg3⟩
  have hgg := grownBy_trans hg hg3
  have hk2 : (k : Int) ≤ 40 := by omega
  clear hg hg3 hc2 hc3 hs
  go_wp2
  go_ret3
  exact ⟨22 + (k : Int), x, y, by omega, by omega, hx, hy, rfl, hbel.trans (Below.refl _ _ |>.grown hgg (by omega) (fun k e => by injection e; omega))⟩
end Go.Proofs.Ytmahjgaaahkakaa
