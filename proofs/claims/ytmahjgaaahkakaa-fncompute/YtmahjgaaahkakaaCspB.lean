/- What the model makes of two numbers: contracts (CspB). -/
import Derived.Test.YtmahjgaaahkakaaCmpP
namespace Go.Proofs.Ytmahjgaaahkakaa
open Go.RowKit
set_option linter.unusedVariables false

theorem spC31 (a b : Int) (w : World) (ha : In64 a) (hb : In64 b) :
    Calls Try.prog 44 #[.int .i64 31, .int .i64 a, .int .i64 b] w fun e w' => e = .returned (.int .i64 (cm31 a b)) ∧ w' = w := by
  unfold cm31
  go_enter Try.func44, Try.ntmps44
  go_wp2_with fail
  refine (specSign0 a 32 _ (by decide) (by decide)).mono ?_
  rintro e w2 ⟨rfl, rfl⟩
  go_wp2_with fail
  refine (specSign0 b 32 _ (by decide) (by decide)).mono ?_
  rintro e w2 ⟨rfl, rfl⟩
  go_wp2_with fail
  refine (plC31 _).mono ?_
  rintro e w2 ⟨rfl, rfl⟩
  go_wp2
  go_ret
  exact ⟨ret_int' (by simp only [IntKind.wrap_u64, wrap64]; omega), rfl⟩

theorem spC32 (a b : Int) (w : World) (ha : In64 a) (hb : In64 b) :
    Calls Try.prog 44 #[.int .i64 32, .int .i64 a, .int .i64 b] w fun e w' => e = .returned (.int .i64 (cm32 a b)) ∧ w' = w := by
  unfold cm32
  go_enter Try.func44, Try.ntmps44
  go_wp2_with fail
  refine (specSign0 a 32 _ (by decide) (by decide)).mono ?_
  rintro e w2 ⟨rfl, rfl⟩
  go_wp2_with fail
  refine (specSign0 b 32 _ (by decide) (by decide)).mono ?_
  rintro e w2 ⟨rfl, rfl⟩
  go_wp2_with fail
  refine (plC32 _).mono ?_
  rintro e w2 ⟨rfl, rfl⟩
  go_wp2
  go_ret
  exact ⟨ret_int' (by simp only [IntKind.wrap_u64, wrap64]; omega), rfl⟩

theorem spC33 (a b : Int) (w : World) (ha : In64 a) (hb : In64 b) :
    Calls Try.prog 44 #[.int .i64 33, .int .i64 a, .int .i64 b] w fun e w' => e = .returned (.int .i64 (cm33 a b)) ∧ w' = w := by
  unfold cm33
  go_enter Try.func44, Try.ntmps44
  go_wp2_with fail
  refine (specSign0 a 32 _ (by decide) (by decide)).mono ?_
  rintro e w2 ⟨rfl, rfl⟩
  go_wp2_with fail
  refine (specSign0 b 32 _ (by decide) (by decide)).mono ?_
  rintro e w2 ⟨rfl, rfl⟩
  go_wp2_with fail
  refine (plC33 _).mono ?_
  rintro e w2 ⟨rfl, rfl⟩
  go_wp2_with fail
  refine (fld6 b _).mono ?_
  rintro e w2 ⟨rfl, rfl⟩
  go_wp2_with fail
  refine (shL 0 a b _ (by decide)).mono ?_
  rintro e w2 ⟨rfl, rfl⟩
  go_wp2
  go_ret
  exact ⟨rfl, rfl⟩

theorem spC34 (a b : Int) (w : World) (ha : In64 a) (hb : In64 b) :
    Calls Try.prog 44 #[.int .i64 34, .int .i64 a, .int .i64 b] w fun e w' => e = .returned (.int .i64 (cm34 a b)) ∧ w' = w := by
  unfold cm34
  go_enter Try.func44, Try.ntmps44
  go_wp2_with fail
  refine (specSign0 a 32 _ (by decide) (by decide)).mono ?_
  rintro e w2 ⟨rfl, rfl⟩
  go_wp2_with fail
  refine (specSign0 b 32 _ (by decide) (by decide)).mono ?_
  rintro e w2 ⟨rfl, rfl⟩
  go_wp2_with fail
  refine (plC34 _).mono ?_
  rintro e w2 ⟨rfl, rfl⟩
  go_wp2_with fail
  refine (bitC _ _).mono ?_
  rintro e w2 ⟨rfl, rfl⟩
  go_wp2
  go_ret
  exact ⟨ret_int' (by simp), rfl⟩

theorem spC35 (a b : Int) (w : World) (ha : In64 a) (hb : In64 b) :
    Calls Try.prog 44 #[.int .i64 35, .int .i64 a, .int .i64 b] w fun e w' => e = .returned (.int .i64 (cm35 a b)) ∧ w' = w := by
  unfold cm35
  go_enter Try.func44, Try.ntmps44
  go_wp2_with fail
  refine (specSign0 a 32 _ (by decide) (by decide)).mono ?_
  rintro e w2 ⟨rfl, rfl⟩
  go_wp2_with fail
  refine (specSign0 b 32 _ (by decide) (by decide)).mono ?_
  rintro e w2 ⟨rfl, rfl⟩
  go_wp2_with fail
  refine (plC35 _).mono ?_
  rintro e w2 ⟨rfl, rfl⟩
  go_wp2_with fail
  refine (specBelow a b _).mono ?_
  rintro e w2 ⟨rfl, rfl⟩
  go_wp2_with fail
  refine (bitC _ _).mono ?_
  rintro e w2 ⟨rfl, rfl⟩
  go_wp2
  go_ret
  exact ⟨rfl, rfl⟩

theorem spC36 (a b : Int) (w : World) (ha : In64 a) (hb : In64 b) :
    Calls Try.prog 44 #[.int .i64 36, .int .i64 a, .int .i64 b] w fun e w' => e = .returned (.int .i64 (cm36 a b)) ∧ w' = w := by
  unfold cm36
  go_enter Try.func44, Try.ntmps44
  go_wp2_with fail
  refine (specSign0 a 32 _ (by decide) (by decide)).mono ?_
  rintro e w2 ⟨rfl, rfl⟩
  go_wp2_with fail
  refine (specSign0 b 32 _ (by decide) (by decide)).mono ?_
  rintro e w2 ⟨rfl, rfl⟩
  go_wp2_with fail
  refine (plC36 _).mono ?_
  rintro e w2 ⟨rfl, rfl⟩
  go_wp2_with fail
  refine (plC36 _).mono ?_
  rintro e w2 ⟨rfl, rfl⟩
  go_wp2_with fail
  refine (wise_xor a b _).mono ?_
  rintro e w2 ⟨rfl, rfl⟩
  go_wp2
  go_ret
  exact ⟨rfl, rfl⟩

theorem spC37 (a b : Int) (w : World) (ha : In64 a) (hb : In64 b) :
    Calls Try.prog 44 #[.int .i64 37, .int .i64 a, .int .i64 b] w fun e w' => e = .returned (.int .i64 (cm37 a b)) ∧ w' = w := by
  unfold cm37
  go_enter Try.func44, Try.ntmps44
  go_wp2_with fail
  refine (specSign0 a 32 _ (by decide) (by decide)).mono ?_
  rintro e w2 ⟨rfl, rfl⟩
  go_wp2_with fail
  refine (specSign0 b 32 _ (by decide) (by decide)).mono ?_
  rintro e w2 ⟨rfl, rfl⟩
  go_wp2_with fail
  refine (plC37 _).mono ?_
  rintro e w2 ⟨rfl, rfl⟩
  go_wp2_with fail
  refine (fld6 b _).mono ?_
  rintro e w2 ⟨rfl, rfl⟩
  go_wp2_with fail
  refine (shL 1 a b _ (by decide)).mono ?_
  rintro e w2 ⟨rfl, rfl⟩
  go_wp2
  go_ret
  exact ⟨rfl, rfl⟩

theorem spC38 (a b : Int) (w : World) (ha : In64 a) (hb : In64 b) :
    Calls Try.prog 44 #[.int .i64 38, .int .i64 a, .int .i64 b] w fun e w' => e = .returned (.int .i64 (cm38 a b)) ∧ w' = w := by
  unfold cm38
  go_enter Try.func44, Try.ntmps44
  go_wp2_with fail
  refine (specSign0 a 32 _ (by decide) (by decide)).mono ?_
  rintro e w2 ⟨rfl, rfl⟩
  go_wp2_with fail
  refine (specSign0 b 32 _ (by decide) (by decide)).mono ?_
  rintro e w2 ⟨rfl, rfl⟩
  go_wp2_with fail
  refine (plC38 _).mono ?_
  rintro e w2 ⟨rfl, rfl⟩
  go_wp2_with fail
  refine (fld6 b _).mono ?_
  rintro e w2 ⟨rfl, rfl⟩
  go_wp2_with fail
  refine (shL 2 a b _ (by decide)).mono ?_
  rintro e w2 ⟨rfl, rfl⟩
  go_wp2
  go_ret
  exact ⟨rfl, rfl⟩

theorem spC39 (a b : Int) (w : World) (ha : In64 a) (hb : In64 b) :
    Calls Try.prog 44 #[.int .i64 39, .int .i64 a, .int .i64 b] w fun e w' => e = .returned (.int .i64 (cm39 a b)) ∧ w' = w := by
  unfold cm39
  go_enter Try.func44, Try.ntmps44
  go_wp2_with fail
  refine (specSign0 a 32 _ (by decide) (by decide)).mono ?_
  rintro e w2 ⟨rfl, rfl⟩
  go_wp2_with fail
  refine (specSign0 b 32 _ (by decide) (by decide)).mono ?_
  rintro e w2 ⟨rfl, rfl⟩
  go_wp2_with fail
  refine (plC39 _).mono ?_
  rintro e w2 ⟨rfl, rfl⟩
  go_wp2_with fail
  refine (plC39 _).mono ?_
  rintro e w2 ⟨rfl, rfl⟩
  go_wp2_with fail
  refine (wise_or a b _).mono ?_
  rintro e w2 ⟨rfl, rfl⟩
  go_wp2
  go_ret
  exact ⟨rfl, rfl⟩

theorem spC40 (a b : Int) (w : World) (ha : In64 a) (hb : In64 b) :
    Calls Try.prog 44 #[.int .i64 40, .int .i64 a, .int .i64 b] w fun e w' => e = .returned (.int .i64 (cm40 a b)) ∧ w' = w := by
  unfold cm40
  go_enter Try.func44, Try.ntmps44
  go_wp2_with fail
  refine (specSign0 a 32 _ (by decide) (by decide)).mono ?_
  rintro e w2 ⟨rfl, rfl⟩
  go_wp2_with fail
  refine (specSign0 b 32 _ (by decide) (by decide)).mono ?_
  rintro e w2 ⟨rfl, rfl⟩
  go_wp2_with fail
  refine (plC40 _).mono ?_
  rintro e w2 ⟨rfl, rfl⟩
  go_wp2_with fail
  refine (plC40 _).mono ?_
  rintro e w2 ⟨rfl, rfl⟩
  go_wp2_with fail
  refine (wise_and a b _).mono ?_
  rintro e w2 ⟨rfl, rfl⟩
  go_wp2
  go_ret
  exact ⟨rfl, rfl⟩

end Go.Proofs.Ytmahjgaaahkakaa
