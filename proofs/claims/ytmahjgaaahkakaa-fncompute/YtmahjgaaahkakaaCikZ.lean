/- Compute: both contracts. -/
import Derived.Test.YtmahjgaaahkakaaCspA
import Derived.Test.YtmahjgaaahkakaaCspB
import Derived.Test.YtmahjgaaahkakaaCspC
import Derived.Test.YtmahjgaaahkakaaCspD
import Derived.Test.YtmahjgaaahkakaaCikA
import Derived.Test.YtmahjgaaahkakaaCikB
import Derived.Test.YtmahjgaaahkakaaCikC
import Derived.Test.YtmahjgaaahkakaaCikD
namespace Go.Proofs.Ytmahjgaaahkakaa
open Go.RowKit
set_option linter.unusedVariables false

theorem cmT_22 (a b : Int) : cmT 22 a b = cm31 a b := by simp [cmT]
theorem cmT_23 (a b : Int) : cmT 23 a b = cm34 a b := by simp [cmT]
theorem cmT_24 (a b : Int) : cmT 24 a b = cm35 a b := by simp [cmT]
theorem cmT_25 (a b : Int) : cmT 25 a b = cm36 a b := by simp [cmT]
theorem cmT_26 (a b : Int) : cmT 26 a b = cm39 a b := by simp [cmT]
theorem cmT_27 (a b : Int) : cmT 27 a b = cm40 a b := by simp [cmT]
theorem cmT_28 (a b : Int) : cmT 28 a b = cm33 a b := by simp [cmT]
theorem cmT_29 (a b : Int) : cmT 29 a b = cm37 a b := by simp [cmT]
theorem cmT_30 (a b : Int) : cmT 30 a b = cm38 a b := by simp [cmT]
theorem cmT_31 (a b : Int) : cmT 31 a b = cm31 a b := by simp [cmT]
theorem cmT_32 (a b : Int) : cmT 32 a b = cm32 a b := by simp [cmT]
theorem cmT_33 (a b : Int) : cmT 33 a b = cm33 a b := by simp [cmT]
theorem cmT_34 (a b : Int) : cmT 34 a b = cm34 a b := by simp [cmT]
theorem cmT_35 (a b : Int) : cmT 35 a b = cm35 a b := by simp [cmT]
theorem cmT_36 (a b : Int) : cmT 36 a b = cm36 a b := by simp [cmT]
theorem cmT_37 (a b : Int) : cmT 37 a b = cm37 a b := by simp [cmT]
theorem cmT_38 (a b : Int) : cmT 38 a b = cm38 a b := by simp [cmT]
theorem cmT_39 (a b : Int) : cmT 39 a b = cm39 a b := by simp [cmT]
theorem cmT_40 (a b : Int) : cmT 40 a b = cm40 a b := by simp [cmT]
theorem cmT_41 (a b : Int) : cmT 41 a b = cm45 a b := by simp [cmT]
theorem cmT_42 (a b : Int) : cmT 42 a b = cm47 a b := by simp [cmT]
theorem cmT_43 (a b : Int) : cmT 43 a b = cm48 a b := by simp [cmT]
theorem cmT_44 (a b : Int) : cmT 44 a b = cm49 a b := by simp [cmT]
theorem cmT_45 (a b : Int) : cmT 45 a b = cm45 a b := by simp [cmT]
theorem cmT_46 (a b : Int) : cmT 46 a b = cm46 a b := by simp [cmT]
theorem cmT_47 (a b : Int) : cmT 47 a b = cm47 a b := by simp [cmT]
theorem cmT_48 (a b : Int) : cmT 48 a b = cm48 a b := by simp [cmT]
theorem cmT_49 (a b : Int) : cmT 49 a b = cm49 a b := by simp [cmT]
theorem cmT_50 (a b : Int) : cmT 50 a b = cm50 a b := by simp [cmT]
theorem cmT_51 (a b : Int) : cmT 51 a b = cm51 a b := by simp [cmT]
theorem cmT_52 (a b : Int) : cmT 52 a b = cm52 a b := by simp [cmT]
theorem cmT_53 (a b : Int) : cmT 53 a b = cm53 a b := by simp [cmT]
theorem cmT_54 (a b : Int) : cmT 54 a b = cm54 a b := by simp [cmT]
theorem cmT_55 (a b : Int) : cmT 55 a b = cm55 a b := by simp [cmT]
theorem cmT_56 (a b : Int) : cmT 56 a b = cm56 a b := by simp [cmT]
theorem cmT_57 (a b : Int) : cmT 57 a b = cm57 a b := by simp [cmT]
theorem cmT_58 (a b : Int) : cmT 58 a b = cm58 a b := by simp [cmT]
theorem cmT_59 (a b : Int) : cmT 59 a b = cm59 a b := by simp [cmT]
theorem cmT_60 (a b : Int) : cmT 60 a b = cm60 a b := by simp [cmT]
theorem cmT_61 (a b : Int) : cmT 61 a b = cm61 a b := by simp [cmT]
theorem cmT_62 (a b : Int) : cmT 62 a b = cm62 a b := by simp [cmT]
theorem specComIn (op a b : Int) (w : World) (ha : In64 a) (hb : In64 b) (h0 : 22 ≤ op) (h1 : op ≤ 62) :
    Calls Try.prog 44 #[.int .i64 op, .int .i64 a, .int .i64 b] w fun e w' => e = .returned (.int .i64 (cmT op a b)) ∧ w' = w := by
  rcases (show op = 22 ∨ op = 23 ∨ op = 24 ∨ op = 25 ∨ op = 26 ∨ op = 27 ∨ op = 28 ∨ op = 29 ∨ op = 30 ∨ op = 31 ∨ op = 32 ∨ op = 33 ∨ op = 34 ∨ op = 35 ∨ op = 36 ∨ op = 37 ∨ op = 38 ∨ op = 39 ∨ op = 40 ∨ op = 41 ∨ op = 42 ∨ op = 43 ∨ op = 44 ∨ op = 45 ∨ op = 46 ∨ op = 47 ∨ op = 48 ∨ op = 49 ∨ op = 50 ∨ op = 51 ∨ op = 52 ∨ op = 53 ∨ op = 54 ∨ op = 55 ∨ op = 56 ∨ op = 57 ∨ op = 58 ∨ op = 59 ∨ op = 60 ∨ op = 61 ∨ op = 62 by omega) with rfl | rfl | rfl | rfl | rfl | rfl | rfl | rfl | rfl | rfl | rfl | rfl | rfl | rfl | rfl | rfl | rfl | rfl | rfl | rfl | rfl | rfl | rfl | rfl | rfl | rfl | rfl | rfl | rfl | rfl | rfl | rfl | rfl | rfl | rfl | rfl | rfl | rfl | rfl | rfl | rfl
  · rw [cmT_22]; exact spC22 a b w ha hb
  · rw [cmT_23]; exact spC23 a b w ha hb
  · rw [cmT_24]; exact spC24 a b w ha hb
  · rw [cmT_25]; exact spC25 a b w ha hb
  · rw [cmT_26]; exact spC26 a b w ha hb
  · rw [cmT_27]; exact spC27 a b w ha hb
  · rw [cmT_28]; exact spC28 a b w ha hb
  · rw [cmT_29]; exact spC29 a b w ha hb
  · rw [cmT_30]; exact spC30 a b w ha hb
  · rw [cmT_31]; exact spC31 a b w ha hb
  · rw [cmT_32]; exact spC32 a b w ha hb
  · rw [cmT_33]; exact spC33 a b w ha hb
  · rw [cmT_34]; exact spC34 a b w ha hb
  · rw [cmT_35]; exact spC35 a b w ha hb
  · rw [cmT_36]; exact spC36 a b w ha hb
  · rw [cmT_37]; exact spC37 a b w ha hb
  · rw [cmT_38]; exact spC38 a b w ha hb
  · rw [cmT_39]; exact spC39 a b w ha hb
  · rw [cmT_40]; exact spC40 a b w ha hb
  · rw [cmT_41]; exact spC41 a b w ha hb
  · rw [cmT_42]; exact spC42 a b w ha hb
  · rw [cmT_43]; exact spC43 a b w ha hb
  · rw [cmT_44]; exact spC44 a b w ha hb
  · rw [cmT_45]; exact spC45 a b w ha hb
  · rw [cmT_46]; exact spC46 a b w ha hb
  · rw [cmT_47]; exact spC47 a b w ha hb
  · rw [cmT_48]; exact spC48 a b w ha hb
  · rw [cmT_49]; exact spC49 a b w ha hb
  · rw [cmT_50]; exact spC50 a b w ha hb
  · rw [cmT_51]; exact spC51 a b w ha hb
  · rw [cmT_52]; exact spC52 a b w ha hb
  · rw [cmT_53]; exact spC53 a b w ha hb
  · rw [cmT_54]; exact spC54 a b w ha hb
  · rw [cmT_55]; exact spC55 a b w ha hb
  · rw [cmT_56]; exact spC56 a b w ha hb
  · rw [cmT_57]; exact spC57 a b w ha hb
  · rw [cmT_58]; exact spC58 a b w ha hb
  · rw [cmT_59]; exact spC59 a b w ha hb
  · rw [cmT_60]; exact spC60 a b w ha hb
  · rw [cmT_61]; exact spC61 a b w ha hb
  · rw [cmT_62]; exact spC62 a b w ha hb
theorem implComIn (op a b : Int) (w : World) (ha : In64 a) (hb : In64 b) (h0 : 22 ≤ op) (h1 : op ≤ 62) :
    Calls Try.prog 17 #[.int .i64 op, .int .i64 a, .int .i64 b] w fun e w' => e = .returned (.tuple #[.int .i64 (cmT op a b), .int .i64 0]) ∧ Below w.heap.size w w' := by
  rcases (show op = 22 ∨ op = 23 ∨ op = 24 ∨ op = 25 ∨ op = 26 ∨ op = 27 ∨ op = 28 ∨ op = 29 ∨ op = 30 ∨ op = 31 ∨ op = 32 ∨ op = 33 ∨ op = 34 ∨ op = 35 ∨ op = 36 ∨ op = 37 ∨ op = 38 ∨ op = 39 ∨ op = 40 ∨ op = 41 ∨ op = 42 ∨ op = 43 ∨ op = 44 ∨ op = 45 ∨ op = 46 ∨ op = 47 ∨ op = 48 ∨ op = 49 ∨ op = 50 ∨ op = 51 ∨ op = 52 ∨ op = 53 ∨ op = 54 ∨ op = 55 ∨ op = 56 ∨ op = 57 ∨ op = 58 ∨ op = 59 ∨ op = 60 ∨ op = 61 ∨ op = 62 by omega) with rfl | rfl | rfl | rfl | rfl | rfl | rfl | rfl | rfl | rfl | rfl | rfl | rfl | rfl | rfl | rfl | rfl | rfl | rfl | rfl | rfl | rfl | rfl | rfl | rfl | rfl | rfl | rfl | rfl | rfl | rfl | rfl | rfl | rfl | rfl | rfl | rfl | rfl | rfl | rfl | rfl
  · rw [cmT_22]; exact imC22 a b w ha hb
  · rw [cmT_23]; exact imC23 a b w ha hb
  · rw [cmT_24]; exact imC24 a b w ha hb
  · rw [cmT_25]; exact imC25 a b w ha hb
  · rw [cmT_26]; exact imC26 a b w ha hb
  · rw [cmT_27]; exact imC27 a b w ha hb
  · rw [cmT_28]; exact imC28 a b w ha hb
  · rw [cmT_29]; exact imC29 a b w ha hb
  · rw [cmT_30]; exact imC30 a b w ha hb
  · rw [cmT_31]; exact imC31 a b w ha hb
  · rw [cmT_32]; exact imC32 a b w ha hb
  · rw [cmT_33]; exact imC33 a b w ha hb
  · rw [cmT_34]; exact imC34 a b w ha hb
  · rw [cmT_35]; exact imC35 a b w ha hb
  · rw [cmT_36]; exact imC36 a b w ha hb
  · rw [cmT_37]; exact imC37 a b w ha hb
  · rw [cmT_38]; exact imC38 a b w ha hb
  · rw [cmT_39]; exact imC39 a b w ha hb
  · rw [cmT_40]; exact imC40 a b w ha hb
  · rw [cmT_41]; exact imC41 a b w ha hb
  · rw [cmT_42]; exact imC42 a b w ha hb
  · rw [cmT_43]; exact imC43 a b w ha hb
  · rw [cmT_44]; exact imC44 a b w ha hb
  · rw [cmT_45]; exact imC45 a b w ha hb
  · rw [cmT_46]; exact imC46 a b w ha hb
  · rw [cmT_47]; exact imC47 a b w ha hb
  · rw [cmT_48]; exact imC48 a b w ha hb
  · rw [cmT_49]; exact imC49 a b w ha hb
  · rw [cmT_50]; exact imC50 a b w ha hb
  · rw [cmT_51]; exact imC51 a b w ha hb
  · rw [cmT_52]; exact imC52 a b w ha hb
  · rw [cmT_53]; exact imC53 a b w ha hb
  · rw [cmT_54]; exact imC54 a b w ha hb
  · rw [cmT_55]; exact imC55 a b w ha hb
  · rw [cmT_56]; exact imC56 a b w ha hb
  · rw [cmT_57]; exact imC57 a b w ha hb
  · rw [cmT_58]; exact imC58 a b w ha hb
  · rw [cmT_59]; exact imC59 a b w ha hb
  · rw [cmT_60]; exact imC60 a b w ha hb
  · rw [cmT_61]; exact imC61 a b w ha hb
  · rw [cmT_62]; exact imC62 a b w ha hb

theorem implComNo (op a b : Int) (w : World) (h : op < 1 ∨ 64 < op) :
    Calls Try.prog 17 #[.int .i64 op, .int .i64 a, .int .i64 b] w fun e w' => e = .returned (.tuple #[.int .i64 0, .int .i64 4]) ∧ w' = w := by
  go_enter Try.func17, Try.ntmps17
  go_wp2_with fail
  refine (kindRange op 22 62 w h).mono ?_
  rintro e w1 ⟨rfl, rfl⟩
  clear h
  go_wp2
  go_ret2
  exact ⟨rfl, rfl⟩
theorem implComKind (op a b : Int) (w : World) (h0 : 1 ≤ op) (h1 : op ≤ 64) (h : op < 22 ∨ 62 < op) :
    Calls Try.prog 17 #[.int .i64 op, .int .i64 a, .int .i64 b] w fun e w' => e = .returned (.tuple #[.int .i64 0, .int .i64 26]) ∧ w' = w := by
  go_enter Try.func17, Try.ntmps17
  go_wp2_with fail
  refine (kindKind op 22 62 w h0 h1 h).mono ?_
  rintro e w1 ⟨rfl, rfl⟩
  clear h
  go_wp2
  go_ret2
  exact ⟨rfl, rfl⟩
theorem aluC (op : Int) (w : World) (b : Bool) (h : (b = true ∧ 22 ≤ op ∧ op ≤ 62) ∨ (b = false ∧ (op < 22 ∨ 62 < op))) :
    Calls Try.prog 43 #[.int .i64 op] w fun e w' => e = .returned (.bool b) ∧ w' = w := by
  go_enter Try.func43, Try.ntmps43
  go_wp2_with fail
  refine (spIn op 22 62 w b h).mono ?_
  rintro e w1 ⟨rfl, rfl⟩
  clear h
  go_wp2
  go_ret
  exact ⟨rfl, rfl⟩
theorem specComNo (op a b : Int) (w : World) (h : op < 1 ∨ 64 < op) :
    Calls Try.prog 20 #[.int .i64 op, .int .i64 a, .int .i64 b] w fun e w' => e = .returned (.tuple #[.int .i64 0, .int .i64 4]) ∧ w' = w := by
  go_enter Try.func20, Try.ntmps20
  go_wp2_with fail
  refine (opNo op w h).mono ?_
  rintro e w1 ⟨rfl, rfl⟩
  clear h
  go_wp2
  go_ret2
  exact ⟨rfl, rfl⟩
theorem specComKind (op a b : Int) (w : World) (h0 : 1 ≤ op) (h1 : op ≤ 64) (h : op < 22 ∨ 62 < op) :
    Calls Try.prog 20 #[.int .i64 op, .int .i64 a, .int .i64 b] w fun e w' => e = .returned (.tuple #[.int .i64 0, .int .i64 26]) ∧ w' = w := by
  go_enter Try.func20, Try.ntmps20
  go_wp2_with fail
  refine (opYes op w h0 h1).mono ?_
  rintro e w1 ⟨rfl, rfl⟩
  go_wp2_with fail
  refine (aluC op _ false (.inr ⟨rfl, h⟩)).mono ?_
  rintro e w1 ⟨rfl, rfl⟩
  clear h
  go_wp2
  go_ret2
  exact ⟨rfl, rfl⟩
theorem specCom (op a b : Int) (w : World) (ha : In64 a) (hb : In64 b) (h0 : 22 ≤ op) (h1 : op ≤ 62) :
    Calls Try.prog 20 #[.int .i64 op, .int .i64 a, .int .i64 b] w fun e w' => e = .returned (.tuple #[.int .i64 (cmT op a b), .int .i64 0]) ∧ w' = w := by
  go_enter Try.func20, Try.ntmps20
  go_wp2_with fail
  refine (opYes op w (by omega) (by omega)).mono ?_
  rintro e w1 ⟨rfl, rfl⟩
  go_wp2_with fail
  refine (aluC op _ true (.inl ⟨rfl, h0, h1⟩)).mono ?_
  rintro e w1 ⟨rfl, rfl⟩
  go_wp2_with fail
  refine (specComIn op a b _ ha hb h0 h1).mono ?_
  rintro e w1 ⟨rfl, rfl⟩
  go_wp2
  go_ret2
  exact ⟨rfl, rfl⟩
end Go.Proofs.Ytmahjgaaahkakaa
