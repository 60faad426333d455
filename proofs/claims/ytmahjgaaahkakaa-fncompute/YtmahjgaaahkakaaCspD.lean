/- What the model makes of two numbers: contracts (CspD). -/
import Derived.Test.YtmahjgaaahkakaaCmpP
namespace Go.Proofs.Ytmahjgaaahkakaa
open Go.RowKit
set_option linter.unusedVariables false

theorem ovC54 (a b : Int) (w : World) (ha : In64 a) (hb : In64 b) :
    Calls Try.prog 98 #[.int .i64 54, .int .i64 a, .int .i64 b] w fun e w' => e = .returned (.int .i64 (quS a b)) ∧ w' = w := by
  go_enter Try.func98, Try.ntmps98
  go_wp2_with fail
  refine (signedC a b _ ha hb).mono ?_
  rintro e w2 ⟨rfl, rfl⟩
  go_wp2
  go_ret
  exact ⟨rfl, rfl⟩

theorem ovC55 (a b : Int) (w : World) :
    Calls Try.prog 98 #[.int .i64 55, .int .i64 a, .int .i64 b] w fun e w' => e = .returned (.int .i64 (quU a b)) ∧ w' = w := by
  go_enter Try.func98, Try.ntmps98
  go_wp2_with fail
  refine (specDivU a b _).mono ?_
  rintro e w2 ⟨rfl, rfl⟩
  go_wp2
  go_ret
  exact ⟨rfl, rfl⟩

theorem ovC56 (a b : Int) (w : World) (ha : In64 a) (hb : In64 b) :
    Calls Try.prog 98 #[.int .i64 56, .int .i64 a, .int .i64 b] w fun e w' => e = .returned (.int .i64 (reS a b)) ∧ w' = w := by
  go_enter Try.func98, Try.ntmps98
  go_wp2_with fail
  refine (signedC a b _ ha hb).mono ?_
  rintro e w2 ⟨rfl, rfl⟩
  go_wp2
  go_ret
  exact ⟨rfl, rfl⟩

theorem ovC57 (a b : Int) (w : World) :
    Calls Try.prog 98 #[.int .i64 57, .int .i64 a, .int .i64 b] w fun e w' => e = .returned (.int .i64 (reU a b)) ∧ w' = w := by
  go_enter Try.func98, Try.ntmps98
  go_wp2_with fail
  refine (specDivU a b _).mono ?_
  rintro e w2 ⟨rfl, rfl⟩
  go_wp2
  go_ret
  exact ⟨rfl, rfl⟩

theorem ovC59 (a b : Int) (w : World) :
    Calls Try.prog 98 #[.int .i64 59, .int .i64 a, .int .i64 b] w fun e w' => e = .returned (.int .i64 (sgn (quS (sgn a 32) (sgn b 32)) 32)) ∧ w' = w := by
  go_enter Try.func98, Try.ntmps98
  go_wp2_with fail
  refine (specSign0 a 32 _ (by decide) (by decide)).mono ?_
  rintro e w2 ⟨rfl, rfl⟩
  go_wp2_with fail
  refine (specSign0 b 32 _ (by decide) (by decide)).mono ?_
  rintro e w2 ⟨rfl, rfl⟩
  go_wp2_with fail
  refine (signedC _ _ _ (sgn_in64 a) (sgn_in64 b)).mono ?_
  rintro e w2 ⟨rfl, rfl⟩
  go_wp2_with fail
  refine (specSign0 _ 32 _ (by decide) (by decide)).mono ?_
  rintro e w2 ⟨rfl, rfl⟩
  go_wp2
  go_ret
  exact ⟨rfl, rfl⟩

theorem ovC60 (a b : Int) (w : World) :
    Calls Try.prog 98 #[.int .i64 60, .int .i64 a, .int .i64 b] w fun e w' => e = .returned (.int .i64 (sgn (quU (lo32 a) (lo32 b)) 32)) ∧ w' = w := by
  go_enter Try.func98, Try.ntmps98
  go_wp2_with fail
  refine (fld32 a _).mono ?_
  rintro e w2 ⟨rfl, rfl⟩
  go_wp2_with fail
  refine (fld32 b _).mono ?_
  rintro e w2 ⟨rfl, rfl⟩
  go_wp2_with fail
  refine (specDivU _ _ _).mono ?_
  rintro e w2 ⟨rfl, rfl⟩
  go_wp2_with fail
  refine (specSign0 _ 32 _ (by decide) (by decide)).mono ?_
  rintro e w2 ⟨rfl, rfl⟩
  go_wp2
  go_ret
  exact ⟨rfl, rfl⟩

theorem ovC61 (a b : Int) (w : World) :
    Calls Try.prog 98 #[.int .i64 61, .int .i64 a, .int .i64 b] w fun e w' => e = .returned (.int .i64 (sgn (reS (sgn a 32) (sgn b 32)) 32)) ∧ w' = w := by
  go_enter Try.func98, Try.ntmps98
  go_wp2_with fail
  refine (specSign0 a 32 _ (by decide) (by decide)).mono ?_
  rintro e w2 ⟨rfl, rfl⟩
  go_wp2_with fail
  refine (specSign0 b 32 _ (by decide) (by decide)).mono ?_
  rintro e w2 ⟨rfl, rfl⟩
  go_wp2_with fail
  refine (signedC _ _ _ (sgn_in64 a) (sgn_in64 b)).mono ?_
  rintro e w2 ⟨rfl, rfl⟩
  go_wp2_with fail
  refine (specSign0 _ 32 _ (by decide) (by decide)).mono ?_
  rintro e w2 ⟨rfl, rfl⟩
  go_wp2
  go_ret
  exact ⟨rfl, rfl⟩

theorem ovC62 (a b : Int) (w : World) :
    Calls Try.prog 98 #[.int .i64 62, .int .i64 a, .int .i64 b] w fun e w' => e = .returned (.int .i64 (sgn (reU (lo32 a) (lo32 b)) 32)) ∧ w' = w := by
  go_enter Try.func98, Try.ntmps98
  go_wp2_with fail
  refine (fld32 a _).mono ?_
  rintro e w2 ⟨rfl, rfl⟩
  go_wp2_with fail
  refine (fld32 b _).mono ?_
  rintro e w2 ⟨rfl, rfl⟩
  go_wp2_with fail
  refine (specDivU _ _ _).mono ?_
  rintro e w2 ⟨rfl, rfl⟩
  go_wp2_with fail
  refine (specSign0 _ 32 _ (by decide) (by decide)).mono ?_
  rintro e w2 ⟨rfl, rfl⟩
  go_wp2
  go_ret
  exact ⟨rfl, rfl⟩

theorem spC50 (a b : Int) (w : World) (ha : In64 a) (hb : In64 b) :
    Calls Try.prog 44 #[.int .i64 50, .int .i64 a, .int .i64 b] w fun e w' => e = .returned (.int .i64 (cm50 a b)) ∧ w' = w := by
  unfold cm50
  have ea := wrap_u64 a
  have eb := wrap_u64 b
  go_enter Try.func44, Try.ntmps44
  go_wp2_with fail
  refine (specSign0 a 32 _ (by decide) (by decide)).mono ?_
  rintro e w2 ⟨rfl, rfl⟩
  go_wp2_with fail
  refine (specSign0 b 32 _ (by decide) (by decide)).mono ?_
  rintro e w2 ⟨rfl, rfl⟩
  go_wp2_with fail
  refine (plC50 _).mono ?_
  rintro e w2 ⟨rfl, rfl⟩
  go_wp2_with fail
  refine (wide_any (u64 a) (u64 b) _ (u64_lt a) (u64_lt b)).mono ?_
  rintro e w2 ⟨rfl, rfl⟩
  go_wp2
  go_ret
  exact ⟨rfl, rfl⟩

theorem spC51 (a b : Int) (w : World) (ha : In64 a) (hb : In64 b) :
    Calls Try.prog 44 #[.int .i64 51, .int .i64 a, .int .i64 b] w fun e w' => e = .returned (.int .i64 (cm51 a b)) ∧ w' = w := by
  unfold cm51
  go_enter Try.func44, Try.ntmps44
  go_wp2_with fail
  refine (specSign0 a 32 _ (by decide) (by decide)).mono ?_
  rintro e w2 ⟨rfl, rfl⟩
  go_wp2_with fail
  refine (specSign0 b 32 _ (by decide) (by decide)).mono ?_
  rintro e w2 ⟨rfl, rfl⟩
  go_wp2_with fail
  refine (plC51 _).mono ?_
  rintro e w2 ⟨rfl, rfl⟩
  go_wp2_with fail
  refine (high_tt a b _ ha hb).mono ?_
  rintro e w2 ⟨rfl, rfl⟩
  go_wp2
  go_ret
  exact ⟨rfl, rfl⟩

theorem spC52 (a b : Int) (w : World) (ha : In64 a) (hb : In64 b) :
    Calls Try.prog 44 #[.int .i64 52, .int .i64 a, .int .i64 b] w fun e w' => e = .returned (.int .i64 (cm52 a b)) ∧ w' = w := by
  unfold cm52
  go_enter Try.func44, Try.ntmps44
  go_wp2_with fail
  refine (specSign0 a 32 _ (by decide) (by decide)).mono ?_
  rintro e w2 ⟨rfl, rfl⟩
  go_wp2_with fail
  refine (specSign0 b 32 _ (by decide) (by decide)).mono ?_
  rintro e w2 ⟨rfl, rfl⟩
  go_wp2_with fail
  refine (plC52 _).mono ?_
  rintro e w2 ⟨rfl, rfl⟩
  go_wp2_with fail
  refine (high_tf a b _ ha).mono ?_
  rintro e w2 ⟨rfl, rfl⟩
  go_wp2
  go_ret
  exact ⟨rfl, rfl⟩

theorem spC53 (a b : Int) (w : World) (ha : In64 a) (hb : In64 b) :
    Calls Try.prog 44 #[.int .i64 53, .int .i64 a, .int .i64 b] w fun e w' => e = .returned (.int .i64 (cm53 a b)) ∧ w' = w := by
  unfold cm53
  go_enter Try.func44, Try.ntmps44
  go_wp2_with fail
  refine (specSign0 a 32 _ (by decide) (by decide)).mono ?_
  rintro e w2 ⟨rfl, rfl⟩
  go_wp2_with fail
  refine (specSign0 b 32 _ (by decide) (by decide)).mono ?_
  rintro e w2 ⟨rfl, rfl⟩
  go_wp2_with fail
  refine (plC53 _).mono ?_
  rintro e w2 ⟨rfl, rfl⟩
  go_wp2_with fail
  refine (high_ff a b _).mono ?_
  rintro e w2 ⟨rfl, rfl⟩
  go_wp2
  go_ret
  exact ⟨rfl, rfl⟩

theorem spC54 (a b : Int) (w : World) (ha : In64 a) (hb : In64 b) :
    Calls Try.prog 44 #[.int .i64 54, .int .i64 a, .int .i64 b] w fun e w' => e = .returned (.int .i64 (cm54 a b)) ∧ w' = w := by
  unfold cm54
  go_enter Try.func44, Try.ntmps44
  go_wp2_with fail
  refine (specSign0 a 32 _ (by decide) (by decide)).mono ?_
  rintro e w2 ⟨rfl, rfl⟩
  go_wp2_with fail
  refine (specSign0 b 32 _ (by decide) (by decide)).mono ?_
  rintro e w2 ⟨rfl, rfl⟩
  go_wp2_with fail
  refine (plC54 _).mono ?_
  rintro e w2 ⟨rfl, rfl⟩
  go_wp2_with fail
  refine (ovC54 a b _ ha hb).mono ?_
  rintro e w2 ⟨rfl, rfl⟩
  go_wp2
  go_ret
  exact ⟨rfl, rfl⟩

theorem spC55 (a b : Int) (w : World) (ha : In64 a) (hb : In64 b) :
    Calls Try.prog 44 #[.int .i64 55, .int .i64 a, .int .i64 b] w fun e w' => e = .returned (.int .i64 (cm55 a b)) ∧ w' = w := by
  unfold cm55
  go_enter Try.func44, Try.ntmps44
  go_wp2_with fail
  refine (specSign0 a 32 _ (by decide) (by decide)).mono ?_
  rintro e w2 ⟨rfl, rfl⟩
  go_wp2_with fail
  refine (specSign0 b 32 _ (by decide) (by decide)).mono ?_
  rintro e w2 ⟨rfl, rfl⟩
  go_wp2_with fail
  refine (plC55 _).mono ?_
  rintro e w2 ⟨rfl, rfl⟩
  go_wp2_with fail
  refine (ovC55 a b _).mono ?_
  rintro e w2 ⟨rfl, rfl⟩
  go_wp2
  go_ret
  exact ⟨rfl, rfl⟩

theorem spC56 (a b : Int) (w : World) (ha : In64 a) (hb : In64 b) :
    Calls Try.prog 44 #[.int .i64 56, .int .i64 a, .int .i64 b] w fun e w' => e = .returned (.int .i64 (cm56 a b)) ∧ w' = w := by
  unfold cm56
  go_enter Try.func44, Try.ntmps44
  go_wp2_with fail
  refine (specSign0 a 32 _ (by decide) (by decide)).mono ?_
  rintro e w2 ⟨rfl, rfl⟩
  go_wp2_with fail
  refine (specSign0 b 32 _ (by decide) (by decide)).mono ?_
  rintro e w2 ⟨rfl, rfl⟩
  go_wp2_with fail
  refine (plC56 _).mono ?_
  rintro e w2 ⟨rfl, rfl⟩
  go_wp2_with fail
  refine (ovC56 a b _ ha hb).mono ?_
  rintro e w2 ⟨rfl, rfl⟩
  go_wp2
  go_ret
  exact ⟨rfl, rfl⟩

theorem spC57 (a b : Int) (w : World) (ha : In64 a) (hb : In64 b) :
    Calls Try.prog 44 #[.int .i64 57, .int .i64 a, .int .i64 b] w fun e w' => e = .returned (.int .i64 (cm57 a b)) ∧ w' = w := by
  unfold cm57
  go_enter Try.func44, Try.ntmps44
  go_wp2_with fail
  refine (specSign0 a 32 _ (by decide) (by decide)).mono ?_
  rintro e w2 ⟨rfl, rfl⟩
  go_wp2_with fail
  refine (specSign0 b 32 _ (by decide) (by decide)).mono ?_
  rintro e w2 ⟨rfl, rfl⟩
  go_wp2_with fail
  refine (plC57 _).mono ?_
  rintro e w2 ⟨rfl, rfl⟩
  go_wp2_with fail
  refine (ovC57 a b _).mono ?_
  rintro e w2 ⟨rfl, rfl⟩
  go_wp2
  go_ret
  exact ⟨rfl, rfl⟩

theorem spC58 (a b : Int) (w : World) (ha : In64 a) (hb : In64 b) :
    Calls Try.prog 44 #[.int .i64 58, .int .i64 a, .int .i64 b] w fun e w' => e = .returned (.int .i64 (cm58 a b)) ∧ w' = w := by
  have ba := sgn32_bd a
  have bb := sgn32_bd b
  obtain ⟨ba1, ba2⟩ := ba
  obtain ⟨bb1, bb2⟩ := bb
  unfold cm58
  go_enter Try.func44, Try.ntmps44
  go_wp2_with fail
  refine (specSign0 a 32 _ (by decide) (by decide)).mono ?_
  rintro e w2 ⟨rfl, rfl⟩
  go_wp2_with fail
  refine (specSign0 b 32 _ (by decide) (by decide)).mono ?_
  rintro e w2 ⟨rfl, rfl⟩
  go_wp2_with fail
  refine (plC58 _).mono ?_
  rintro e w2 ⟨rfl, rfl⟩
  go_wp2_with fail
  refine (specSign0 _ 32 _ (by decide) (by decide)).mono ?_
  rintro e w2 ⟨rfl, rfl⟩
  go_wp2
  go_ret
  exact ⟨ret_int' (by first | rfl | exact sgn_wrap _ 32 (by decide)), rfl⟩

theorem spC59 (a b : Int) (w : World) (ha : In64 a) (hb : In64 b) :
    Calls Try.prog 44 #[.int .i64 59, .int .i64 a, .int .i64 b] w fun e w' => e = .returned (.int .i64 (cm59 a b)) ∧ w' = w := by
  unfold cm59
  go_enter Try.func44, Try.ntmps44
  go_wp2_with fail
  refine (specSign0 a 32 _ (by decide) (by decide)).mono ?_
  rintro e w2 ⟨rfl, rfl⟩
  go_wp2_with fail
  refine (specSign0 b 32 _ (by decide) (by decide)).mono ?_
  rintro e w2 ⟨rfl, rfl⟩
  go_wp2_with fail
  refine (plC59 _).mono ?_
  rintro e w2 ⟨rfl, rfl⟩
  go_wp2_with fail
  refine (ovC59 a b _).mono ?_
  rintro e w2 ⟨rfl, rfl⟩
  go_wp2
  go_ret
  exact ⟨rfl, rfl⟩

theorem spC60 (a b : Int) (w : World) (ha : In64 a) (hb : In64 b) :
    Calls Try.prog 44 #[.int .i64 60, .int .i64 a, .int .i64 b] w fun e w' => e = .returned (.int .i64 (cm60 a b)) ∧ w' = w := by
  unfold cm60
  go_enter Try.func44, Try.ntmps44
  go_wp2_with fail
  refine (specSign0 a 32 _ (by decide) (by decide)).mono ?_
  rintro e w2 ⟨rfl, rfl⟩
  go_wp2_with fail
  refine (specSign0 b 32 _ (by decide) (by decide)).mono ?_
  rintro e w2 ⟨rfl, rfl⟩
  go_wp2_with fail
  refine (plC60 _).mono ?_
  rintro e w2 ⟨rfl, rfl⟩
  go_wp2_with fail
  refine (ovC60 a b _).mono ?_
  rintro e w2 ⟨rfl, rfl⟩
  go_wp2
  go_ret
  exact ⟨rfl, rfl⟩

theorem spC61 (a b : Int) (w : World) (ha : In64 a) (hb : In64 b) :
    Calls Try.prog 44 #[.int .i64 61, .int .i64 a, .int .i64 b] w fun e w' => e = .returned (.int .i64 (cm61 a b)) ∧ w' = w := by
  unfold cm61
  go_enter Try.func44, Try.ntmps44
  go_wp2_with fail
  refine (specSign0 a 32 _ (by decide) (by decide)).mono ?_
  rintro e w2 ⟨rfl, rfl⟩
  go_wp2_with fail
  refine (specSign0 b 32 _ (by decide) (by decide)).mono ?_
  rintro e w2 ⟨rfl, rfl⟩
  go_wp2_with fail
  refine (plC61 _).mono ?_
  rintro e w2 ⟨rfl, rfl⟩
  go_wp2_with fail
  refine (ovC61 a b _).mono ?_
  rintro e w2 ⟨rfl, rfl⟩
  go_wp2
  go_ret
  exact ⟨rfl, rfl⟩

theorem spC62 (a b : Int) (w : World) (ha : In64 a) (hb : In64 b) :
    Calls Try.prog 44 #[.int .i64 62, .int .i64 a, .int .i64 b] w fun e w' => e = .returned (.int .i64 (cm62 a b)) ∧ w' = w := by
  unfold cm62
  go_enter Try.func44, Try.ntmps44
  go_wp2_with fail
  refine (specSign0 a 32 _ (by decide) (by decide)).mono ?_
  rintro e w2 ⟨rfl, rfl⟩
  go_wp2_with fail
  refine (specSign0 b 32 _ (by decide) (by decide)).mono ?_
  rintro e w2 ⟨rfl, rfl⟩
  go_wp2_with fail
  refine (plC62 _).mono ?_
  rintro e w2 ⟨rfl, rfl⟩
  go_wp2_with fail
  refine (ovC62 a b _).mono ?_
  rintro e w2 ⟨rfl, rfl⟩
  go_wp2
  go_ret
  exact ⟨rfl, rfl⟩

end Go.Proofs.Ytmahjgaaahkakaa
