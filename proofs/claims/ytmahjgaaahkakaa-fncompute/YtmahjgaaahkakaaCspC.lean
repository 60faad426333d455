/- What the model makes of two numbers: contracts (CspC). -/
import Derived.Test.YtmahjgaaahkakaaCmpP
namespace Go.Proofs.Ytmahjgaaahkakaa
open Go.RowKit
set_option linter.unusedVariables false

theorem spC41 (a b : Int) (w : World) (ha : In64 a) (hb : In64 b) :
    Calls Try.prog 44 #[.int .i64 41, .int .i64 a, .int .i64 b] w fun e w' => e = .returned (.int .i64 (cm45 a b)) ∧ w' = w := by
  have ba := sgn32_bd a
  have bb := sgn32_bd b
  obtain ⟨ba1, ba2⟩ := ba
  obtain ⟨bb1, bb2⟩ := bb
  unfold cm45
  go_enter Try.func44, Try.ntmps44
  go_wp2_with fail
  refine (specSign0 a 32 _ (by decide) (by decide)).mono ?_
  rintro e w2 ⟨rfl, rfl⟩
  go_wp2_with fail
  refine (specSign0 b 32 _ (by decide) (by decide)).mono ?_
  rintro e w2 ⟨rfl, rfl⟩
  go_wp2_with fail
  refine (plC41 _).mono ?_
  rintro e w2 ⟨rfl, rfl⟩
  go_wp2_with fail
  refine (specSign0 _ 32 _ (by decide) (by decide)).mono ?_
  rintro e w2 ⟨rfl, rfl⟩
  go_wp2
  go_ret
  exact ⟨rfl, rfl⟩

theorem spC42 (a b : Int) (w : World) (ha : In64 a) (hb : In64 b) :
    Calls Try.prog 44 #[.int .i64 42, .int .i64 a, .int .i64 b] w fun e w' => e = .returned (.int .i64 (cm47 a b)) ∧ w' = w := by
  unfold cm47
  go_enter Try.func44, Try.ntmps44
  go_wp2_with fail
  refine (specSign0 a 32 _ (by decide) (by decide)).mono ?_
  rintro e w2 ⟨rfl, rfl⟩
  go_wp2_with fail
  refine (specSign0 b 32 _ (by decide) (by decide)).mono ?_
  rintro e w2 ⟨rfl, rfl⟩
  go_wp2_with fail
  refine (plC42 _).mono ?_
  rintro e w2 ⟨rfl, rfl⟩
  go_wp2_with fail
  refine (fld5 b _).mono ?_
  rintro e w2 ⟨rfl, rfl⟩
  go_wp2_with fail
  refine (shW 0 a b _ (by decide)).mono ?_
  rintro e w2 ⟨rfl, rfl⟩
  go_wp2
  go_ret
  exact ⟨rfl, rfl⟩

theorem spC43 (a b : Int) (w : World) (ha : In64 a) (hb : In64 b) :
    Calls Try.prog 44 #[.int .i64 43, .int .i64 a, .int .i64 b] w fun e w' => e = .returned (.int .i64 (cm48 a b)) ∧ w' = w := by
  unfold cm48
  go_enter Try.func44, Try.ntmps44
  go_wp2_with fail
  refine (specSign0 a 32 _ (by decide) (by decide)).mono ?_
  rintro e w2 ⟨rfl, rfl⟩
  go_wp2_with fail
  refine (specSign0 b 32 _ (by decide) (by decide)).mono ?_
  rintro e w2 ⟨rfl, rfl⟩
  go_wp2_with fail
  refine (plC43 _).mono ?_
  rintro e w2 ⟨rfl, rfl⟩
  go_wp2_with fail
  refine (fld5 b _).mono ?_
  rintro e w2 ⟨rfl, rfl⟩
  go_wp2_with fail
  refine (shW 1 a b _ (by decide)).mono ?_
  rintro e w2 ⟨rfl, rfl⟩
  go_wp2
  go_ret
  exact ⟨rfl, rfl⟩

theorem spC44 (a b : Int) (w : World) (ha : In64 a) (hb : In64 b) :
    Calls Try.prog 44 #[.int .i64 44, .int .i64 a, .int .i64 b] w fun e w' => e = .returned (.int .i64 (cm49 a b)) ∧ w' = w := by
  unfold cm49
  go_enter Try.func44, Try.ntmps44
  go_wp2_with fail
  refine (specSign0 a 32 _ (by decide) (by decide)).mono ?_
  rintro e w2 ⟨rfl, rfl⟩
  go_wp2_with fail
  refine (specSign0 b 32 _ (by decide) (by decide)).mono ?_
  rintro e w2 ⟨rfl, rfl⟩
  go_wp2_with fail
  refine (plC44 _).mono ?_
  rintro e w2 ⟨rfl, rfl⟩
  go_wp2_with fail
  refine (fld5 b _).mono ?_
  rintro e w2 ⟨rfl, rfl⟩
  go_wp2_with fail
  refine (shW 2 a b _ (by decide)).mono ?_
  rintro e w2 ⟨rfl, rfl⟩
  go_wp2
  go_ret
  exact ⟨rfl, rfl⟩

theorem spC45 (a b : Int) (w : World) (ha : In64 a) (hb : In64 b) :
    Calls Try.prog 44 #[.int .i64 45, .int .i64 a, .int .i64 b] w fun e w' => e = .returned (.int .i64 (cm45 a b)) ∧ w' = w := by
  have ba := sgn32_bd a
  have bb := sgn32_bd b
  obtain ⟨ba1, ba2⟩ := ba
  obtain ⟨bb1, bb2⟩ := bb
  unfold cm45
  go_enter Try.func44, Try.ntmps44
  go_wp2_with fail
  refine (specSign0 a 32 _ (by decide) (by decide)).mono ?_
  rintro e w2 ⟨rfl, rfl⟩
  go_wp2_with fail
  refine (specSign0 b 32 _ (by decide) (by decide)).mono ?_
  rintro e w2 ⟨rfl, rfl⟩
  go_wp2_with fail
  refine (plC45 _).mono ?_
  rintro e w2 ⟨rfl, rfl⟩
  go_wp2_with fail
  refine (specSign0 _ 32 _ (by decide) (by decide)).mono ?_
  rintro e w2 ⟨rfl, rfl⟩
  go_wp2
  go_ret
  exact ⟨rfl, rfl⟩

theorem spC46 (a b : Int) (w : World) (ha : In64 a) (hb : In64 b) :
    Calls Try.prog 44 #[.int .i64 46, .int .i64 a, .int .i64 b] w fun e w' => e = .returned (.int .i64 (cm46 a b)) ∧ w' = w := by
  have ba := sgn32_bd a
  have bb := sgn32_bd b
  obtain ⟨ba1, ba2⟩ := ba
  obtain ⟨bb1, bb2⟩ := bb
  unfold cm46
  go_enter Try.func44, Try.ntmps44
  go_wp2_with fail
  refine (specSign0 a 32 _ (by decide) (by decide)).mono ?_
  rintro e w2 ⟨rfl, rfl⟩
  go_wp2_with fail
  refine (specSign0 b 32 _ (by decide) (by decide)).mono ?_
  rintro e w2 ⟨rfl, rfl⟩
  go_wp2_with fail
  refine (plC46 _).mono ?_
  rintro e w2 ⟨rfl, rfl⟩
  go_wp2_with fail
  refine (specSign0 _ 32 _ (by decide) (by decide)).mono ?_
  rintro e w2 ⟨rfl, rfl⟩
  go_wp2
  go_ret
  exact ⟨rfl, rfl⟩

theorem spC47 (a b : Int) (w : World) (ha : In64 a) (hb : In64 b) :
    Calls Try.prog 44 #[.int .i64 47, .int .i64 a, .int .i64 b] w fun e w' => e = .returned (.int .i64 (cm47 a b)) ∧ w' = w := by
  unfold cm47
  go_enter Try.func44, Try.ntmps44
  go_wp2_with fail
  refine (specSign0 a 32 _ (by decide) (by decide)).mono ?_
  rintro e w2 ⟨rfl, rfl⟩
  go_wp2_with fail
  refine (specSign0 b 32 _ (by decide) (by decide)).mono ?_
  rintro e w2 ⟨rfl, rfl⟩
  go_wp2_with fail
  refine (plC47 _).mono ?_
  rintro e w2 ⟨rfl, rfl⟩
  go_wp2_with fail
  refine (fld5 b _).mono ?_
  rintro e w2 ⟨rfl, rfl⟩
  go_wp2_with fail
  refine (shW 0 a b _ (by decide)).mono ?_
  rintro e w2 ⟨rfl, rfl⟩
  go_wp2
  go_ret
  exact ⟨rfl, rfl⟩

theorem spC48 (a b : Int) (w : World) (ha : In64 a) (hb : In64 b) :
    Calls Try.prog 44 #[.int .i64 48, .int .i64 a, .int .i64 b] w fun e w' => e = .returned (.int .i64 (cm48 a b)) ∧ w' = w := by
  unfold cm48
  go_enter Try.func44, Try.ntmps44
  go_wp2_with fail
  refine (specSign0 a 32 _ (by decide) (by decide)).mono ?_
  rintro e w2 ⟨rfl, rfl⟩
  go_wp2_with fail
  refine (specSign0 b 32 _ (by decide) (by decide)).mono ?_
  rintro e w2 ⟨rfl, rfl⟩
  go_wp2_with fail
  refine (plC48 _).mono ?_
  rintro e w2 ⟨rfl, rfl⟩
  go_wp2_with fail
  refine (fld5 b _).mono ?_
  rintro e w2 ⟨rfl, rfl⟩
  go_wp2_with fail
  refine (shW 1 a b _ (by decide)).mono ?_
  rintro e w2 ⟨rfl, rfl⟩
  go_wp2
  go_ret
  exact ⟨rfl, rfl⟩

theorem spC49 (a b : Int) (w : World) (ha : In64 a) (hb : In64 b) :
    Calls Try.prog 44 #[.int .i64 49, .int .i64 a, .int .i64 b] w fun e w' => e = .returned (.int .i64 (cm49 a b)) ∧ w' = w := by
  unfold cm49
  go_enter Try.func44, Try.ntmps44
  go_wp2_with fail
  refine (specSign0 a 32 _ (by decide) (by decide)).mono ?_
  rintro e w2 ⟨rfl, rfl⟩
  go_wp2_with fail
  refine (specSign0 b 32 _ (by decide) (by decide)).mono ?_
  rintro e w2 ⟨rfl, rfl⟩
  go_wp2_with fail
  refine (plC49 _).mono ?_
  rintro e w2 ⟨rfl, rfl⟩
  go_wp2_with fail
  refine (fld5 b _).mono ?_
  rintro e w2 ⟨rfl, rfl⟩
  go_wp2_with fail
  refine (shW 2 a b _ (by decide)).mono ?_
  rintro e w2 ⟨rfl, rfl⟩
  go_wp2
  go_ret
  exact ⟨rfl, rfl⟩

end Go.Proofs.Ytmahjgaaahkakaa
