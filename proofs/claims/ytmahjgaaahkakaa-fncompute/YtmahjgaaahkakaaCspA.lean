/- What the model makes of two numbers: contracts (CspA). -/
import Derived.Test.YtmahjgaaahkakaaCmpP
namespace Go.Proofs.Ytmahjgaaahkakaa
open Go.RowKit
set_option linter.unusedVariables false

theorem spC22 (a b : Int) (w : World) (ha : In64 a) (hb : In64 b) :
    Calls Try.prog 44 #[.int .i64 22, .int .i64 a, .int .i64 b] w fun e w' => e = .returned (.int .i64 (cm31 a b)) ∧ w' = w := by
  unfold cm31
  go_enter Try.func44, Try.ntmps44
  go_wp2_with fail
  refine (specSign0 a 32 _ (by decide) (by decide)).mono ?_
  rintro e w2 ⟨rfl, rfl⟩
  go_wp2_with fail
  refine (specSign0 b 32 _ (by decide) (by decide)).mono ?_
  rintro e w2 ⟨rfl, rfl⟩
  go_wp2_with fail
  refine (plC22 _).mono ?_
  rintro e w2 ⟨rfl, rfl⟩
  go_wp2
  go_ret
  exact ⟨ret_int' (by simp only [IntKind.wrap_u64, wrap64]; omega), rfl⟩

theorem spC23 (a b : Int) (w : World) (ha : In64 a) (hb : In64 b) :
    Calls Try.prog 44 #[.int .i64 23, .int .i64 a, .int .i64 b] w fun e w' => e = .returned (.int .i64 (cm34 a b)) ∧ w' = w := by
  unfold cm34
  go_enter Try.func44, Try.ntmps44
  go_wp2_with fail
  refine (specSign0 a 32 _ (by decide) (by decide)).mono ?_
  rintro e w2 ⟨rfl, rfl⟩
  go_wp2_with fail
  refine (specSign0 b 32 _ (by decide) (by decide)).mono ?_
  rintro e w2 ⟨rfl, rfl⟩
  go_wp2_with fail
  refine (plC23 _).mono ?_
  rintro e w2 ⟨rfl, rfl⟩
  go_wp2_with fail
  refine (bitC _ _).mono ?_
  rintro e w2 ⟨rfl, rfl⟩
  go_wp2
  go_ret
  exact ⟨ret_int' (by simp), rfl⟩

theorem spC24 (a b : Int) (w : World) (ha : In64 a) (hb : In64 b) :
    Calls Try.prog 44 #[.int .i64 24, .int .i64 a, .int .i64 b] w fun e w' => e = .returned (.int .i64 (cm35 a b)) ∧ w' = w := by
  unfold cm35
  go_enter Try.func44, Try.ntmps44
  go_wp2_with fail
  refine (specSign0 a 32 _ (by decide) (by decide)).mono ?_
  rintro e w2 ⟨rfl, rfl⟩
  go_wp2_with fail
  refine (specSign0 b 32 _ (by decide) (by decide)).mono ?_
  rintro e w2 ⟨rfl, rfl⟩
  go_wp2_with fail
  refine (plC24 _).mono ?_
  rintro e w2 ⟨rfl, rfl⟩
  go_wp2_with fail
  refine (specBelow a b _).mono ?_
  rintro e w2 ⟨rfl, rfl⟩
  go_wp2_with fail
  refine (bitC _ _).mono ?_
  rintro e w2 ⟨rfl, rfl⟩
  go_wp2
  go_ret
  exact ⟨rfl, rfl⟩

theorem spC25 (a b : Int) (w : World) (ha : In64 a) (hb : In64 b) :
    Calls Try.prog 44 #[.int .i64 25, .int .i64 a, .int .i64 b] w fun e w' => e = .returned (.int .i64 (cm36 a b)) ∧ w' = w := by
  unfold cm36
  go_enter Try.func44, Try.ntmps44
  go_wp2_with fail
  refine (specSign0 a 32 _ (by decide) (by decide)).mono ?_
  rintro e w2 ⟨rfl, rfl⟩
  go_wp2_with fail
  refine (specSign0 b 32 _ (by decide) (by decide)).mono ?_
  rintro e w2 ⟨rfl, rfl⟩
  go_wp2_with fail
  refine (plC25 _).mono ?_
  rintro e w2 ⟨rfl, rfl⟩
  go_wp2_with fail
  refine (plC25 _).mono ?_
  rintro e w2 ⟨rfl, rfl⟩
  go_wp2_with fail
  refine (wise_xor a b _).mono ?_
  rintro e w2 ⟨rfl, rfl⟩
  go_wp2
  go_ret
  exact ⟨rfl, rfl⟩

theorem spC26 (a b : Int) (w : World) (ha : In64 a) (hb : In64 b) :
    Calls Try.prog 44 #[.int .i64 26, .int .i64 a, .int .i64 b] w fun e w' => e = .returned (.int .i64 (cm39 a b)) ∧ w' = w := by
  unfold cm39
  go_enter Try.func44, Try.ntmps44
  go_wp2_with fail
  refine (specSign0 a 32 _ (by decide) (by decide)).mono ?_
  rintro e w2 ⟨rfl, rfl⟩
  go_wp2_with fail
  refine (specSign0 b 32 _ (by decide) (by decide)).mono ?_
  rintro e w2 ⟨rfl, rfl⟩
  go_wp2_with fail
  refine (plC26 _).mono ?_
  rintro e w2 ⟨rfl, rfl⟩
  go_wp2_with fail
  refine (plC26 _).mono ?_
  rintro e w2 ⟨rfl, rfl⟩
  go_wp2_with fail
  refine (wise_or a b _).mono ?_
  rintro e w2 ⟨rfl, rfl⟩
  go_wp2
  go_ret
  exact ⟨rfl, rfl⟩

theorem spC27 (a b : Int) (w : World) (ha : In64 a) (hb : In64 b) :
    Calls Try.prog 44 #[.int .i64 27, .int .i64 a, .int .i64 b] w fun e w' => e = .returned (.int .i64 (cm40 a b)) ∧ w' = w := by
  unfold cm40
  go_enter Try.func44, Try.ntmps44
  go_wp2_with fail
  refine (specSign0 a 32 _ (by decide) (by decide)).mono ?_
  rintro e w2 ⟨rfl, rfl⟩
  go_wp2_with fail
  refine (specSign0 b 32 _ (by decide) (by decide)).mono ?_
  rintro e w2 ⟨rfl, rfl⟩
  go_wp2_with fail
  refine (plC27 _).mono ?_
  rintro e w2 ⟨rfl, rfl⟩
  go_wp2_with fail
  refine (plC27 _).mono ?_
  rintro e w2 ⟨rfl, rfl⟩
  go_wp2_with fail
  refine (wise_and a b _).mono ?_
  rintro e w2 ⟨rfl, rfl⟩
  go_wp2
  go_ret
  exact ⟨rfl, rfl⟩

theorem spC28 (a b : Int) (w : World) (ha : In64 a) (hb : In64 b) :
    Calls Try.prog 44 #[.int .i64 28, .int .i64 a, .int .i64 b] w fun e w' => e = .returned (.int .i64 (cm33 a b)) ∧ w' = w := by
  unfold cm33
  go_enter Try.func44, Try.ntmps44
  go_wp2_with fail
  refine (specSign0 a 32 _ (by decide) (by decide)).mono ?_
  rintro e w2 ⟨rfl, rfl⟩
  go_wp2_with fail
  refine (specSign0 b 32 _ (by decide) (by decide)).mono ?_
  rintro e w2 ⟨rfl, rfl⟩
  go_wp2_with fail
  refine (plC28 _).mono ?_
  rintro e w2 ⟨rfl, rfl⟩
  go_wp2_with fail
  refine (fld6 b _).mono ?_
  rintro e w2 ⟨rfl, rfl⟩
  go_wp2_with fail
  refine (shL 0 a b _ (by decide)).mono ?_
  rintro e w2 ⟨rfl, rfl⟩
  go_wp2
  go_ret
  exact ⟨rfl, rfl⟩

theorem spC29 (a b : Int) (w : World) (ha : In64 a) (hb : In64 b) :
    Calls Try.prog 44 #[.int .i64 29, .int .i64 a, .int .i64 b] w fun e w' => e = .returned (.int .i64 (cm37 a b)) ∧ w' = w := by
  unfold cm37
  go_enter Try.func44, Try.ntmps44
  go_wp2_with fail
  refine (specSign0 a 32 _ (by decide) (by decide)).mono ?_
  rintro e w2 ⟨rfl, rfl⟩
  go_wp2_with fail
  refine (specSign0 b 32 _ (by decide) (by decide)).mono ?_
  rintro e w2 ⟨rfl, rfl⟩
  go_wp2_with fail
  refine (plC29 _).mono ?_
  rintro e w2 ⟨rfl, rfl⟩
  go_wp2_with fail
  refine (fld6 b _).mono ?_
  rintro e w2 ⟨rfl, rfl⟩
  go_wp2_with fail
  refine (shL 1 a b _ (by decide)).mono ?_
  rintro e w2 ⟨rfl, rfl⟩
  go_wp2
  go_ret
  exact ⟨rfl, rfl⟩

theorem spC30 (a b : Int) (w : World) (ha : In64 a) (hb : In64 b) :
    Calls Try.prog 44 #[.int .i64 30, .int .i64 a, .int .i64 b] w fun e w' => e = .returned (.int .i64 (cm38 a b)) ∧ w' = w := by
  unfold cm38
  go_enter Try.func44, Try.ntmps44
  go_wp2_with fail
  refine (specSign0 a 32 _ (by decide) (by decide)).mono ?_
  rintro e w2 ⟨rfl, rfl⟩
  go_wp2_with fail
  refine (specSign0 b 32 _ (by decide) (by decide)).mono ?_
  rintro e w2 ⟨rfl, rfl⟩
  go_wp2_with fail
  refine (plC30 _).mono ?_
  rintro e w2 ⟨rfl, rfl⟩
  go_wp2_with fail
  refine (fld6 b _).mono ?_
  rintro e w2 ⟨rfl, rfl⟩
  go_wp2_with fail
  refine (shL 2 a b _ (by decide)).mono ?_
  rintro e w2 ⟨rfl, rfl⟩
  go_wp2
  go_ret
  exact ⟨rfl, rfl⟩

end Go.Proofs.Ytmahjgaaahkakaa
