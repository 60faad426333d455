/- The fields of an instruction: contracts. May an instruction stand so? The words. l02Shape: contract. The model's check of an operation's number: the contract. -/
import Derived.Test.YtiandbhcjecphaaGreatDoorGLShape7
import Derived.Laws.StructEq
import Derived.Test.YtiandbhcjecphaaGreatDoorGLShape2
import Derived.Test.YtiandbhcjecphaaGreatDoorGLShape1
namespace Go.Proofs.YtiandbhcjecphaaGreatDoor
open Go.RowKit
set_option linter.unusedVariables false

theorem told1 (w : World) :
    Calls Tryz.prog 63 #[.int .i64 1] w fun e w' => e = .returned (.string { data := #[100, 105] }) ∧ w' = w := by
  go_enter Tryz.func63, Tryz.ntmps63
  go_wp2
  go_ret
  exact ⟨rfl, rfl⟩
theorem told2 (w : World) :
    Calls Tryz.prog 63 #[.int .i64 2] w fun e w' => e = .returned (.string { data := #[100, 105] }) ∧ w' = w := by
  go_enter Tryz.func63, Tryz.ntmps63
  go_wp2
  go_ret
  exact ⟨rfl, rfl⟩
theorem told3 (w : World) :
    Calls Tryz.prog 63 #[.int .i64 3] w fun e w' => e = .returned (.string { data := #[100, 49, 105] }) ∧ w' = w := by
  go_enter Tryz.func63, Tryz.ntmps63
  go_wp2
  go_ret
  exact ⟨rfl, rfl⟩
theorem told4 (w : World) :
    Calls Tryz.prog 63 #[.int .i64 4] w fun e w' => e = .returned (.string { data := #[49, 50, 105] }) ∧ w' = w := by
  go_enter Tryz.func63, Tryz.ntmps63
  go_wp2
  go_ret
  exact ⟨rfl, rfl⟩
theorem told5 (w : World) :
    Calls Tryz.prog 63 #[.int .i64 5] w fun e w' => e = .returned (.string { data := #[50, 49, 105] }) ∧ w' = w := by
  go_enter Tryz.func63, Tryz.ntmps63
  go_wp2
  go_ret
  exact ⟨rfl, rfl⟩
theorem told6 (w : World) :
    Calls Tryz.prog 63 #[.int .i64 6] w fun e w' => e = .returned (.string { data := #[100, 49, 105] }) ∧ w' = w := by
  go_enter Tryz.func63, Tryz.ntmps63
  go_wp2
  go_ret
  exact ⟨rfl, rfl⟩
theorem told7 (w : World) :
    Calls Tryz.prog 63 #[.int .i64 7] w fun e w' => e = .returned (.string { data := #[100, 49, 105] }) ∧ w' = w := by
  go_enter Tryz.func63, Tryz.ntmps63
  go_wp2
  go_ret
  exact ⟨rfl, rfl⟩
theorem told8 (w : World) :
    Calls Tryz.prog 63 #[.int .i64 8] w fun e w' => e = .returned (.string { data := #[100, 49, 50] }) ∧ w' = w := by
  go_enter Tryz.func63, Tryz.ntmps63
  go_wp2
  go_ret
  exact ⟨rfl, rfl⟩
theorem told9 (w : World) :
    Calls Tryz.prog 63 #[.int .i64 9] w fun e w' => e = .returned (.string { data := #[] }) ∧ w' = w := by
  go_enter Tryz.func63, Tryz.ntmps63
  go_wp2
  go_ret
  exact ⟨rfl, rfl⟩
theorem fld100 (b : Nat) (w : World) :
    Calls Tryz.prog 64 #[.pointer (some ⟨b, 0, none⟩), .int .u8 100] w fun e w' => e = .returned (.pointer (some ⟨b, 1, none⟩)) ∧ w' = w := by
  go_enter Tryz.func64, Tryz.ntmps64
  go_wp2
  go_ret
  exact ⟨rfl, rfl⟩
theorem fld49 (b : Nat) (w : World) :
    Calls Tryz.prog 64 #[.pointer (some ⟨b, 0, none⟩), .int .u8 49] w fun e w' => e = .returned (.pointer (some ⟨b, 2, none⟩)) ∧ w' = w := by
  go_enter Tryz.func64, Tryz.ntmps64
  go_wp2
  go_ret
  exact ⟨rfl, rfl⟩
theorem fld50 (b : Nat) (w : World) :
    Calls Tryz.prog 64 #[.pointer (some ⟨b, 0, none⟩), .int .u8 50] w fun e w' => e = .returned (.pointer (some ⟨b, 3, none⟩)) ∧ w' = w := by
  go_enter Tryz.func64, Tryz.ntmps64
  go_wp2
  go_ret
  exact ⟨rfl, rfl⟩
theorem fld105 (b : Nat) (w : World) :
    Calls Tryz.prog 64 #[.pointer (some ⟨b, 0, none⟩), .int .u8 105] w fun e w' => e = .returned (.pointer (some ⟨b, 4, none⟩)) ∧ w' = w := by
  go_enter Tryz.func64, Tryz.ntmps64
  go_wp2
  go_ret
  exact ⟨rfl, rfl⟩
end Go.Proofs.YtiandbhcjecphaaGreatDoor

namespace Go.Proofs.YtiandbhcjecphaaGreatDoor
open Go.RowKit
set_option linter.unusedVariables false

/-- Is it an instruction of that form? -/
def rightF (f rd r1 r2 im : Int) : Bool :=
  if f = 1 ∨ f = 2 then regB rd && r1 == 0 && r2 == 0 && okB f im
  else if f = 3 ∨ f = 6 ∨ f = 7 then regB rd && regB r1 && r2 == 0 && okB f im
  else if f = 4 ∨ f = 5 then rd == 0 && regB r1 && regB r2 && okB f im
  else if f = 8 then regB rd && regB r1 && regB r2 && im == 0
  else rd == 0 && r1 == 0 && r2 == 0 && im == 0

theorem shapeOKs (op f c g h : Int) (w : World) (hs : shT op = (f, c, g, h)) (h0 : 1 ≤ op) (h1 : op ≤ 64) :
    Calls Tryz.prog 62 #[.int .i64 op] w fun e w' => e = .returned (.tuple #[.agg #[.int .i64 f, .int .i64 c, .int .i64 g, .int .i64 h], .int .i64 0]) ∧ Below w.heap.size w w' := by
  have := shapeOK op w h0 h1
  rw [hs] at this
  exact this
/-- What toldFields answers, what fieldAllows answers of the number. -/
def ToldIs (f : Int) (t : ByteArray) : Prop := ∀ w, Calls Tryz.prog 63 #[.int .i64 f] w fun e w' => e = .returned (.string t) ∧ w' = w
def NumIs (f im : Int) (B : Bool) : Prop := ∀ w, Calls Tryz.prog 65 #[.int .i64 f, .int .u8 105, .int .i64 im] w fun e w' => e = .returned (.bool B) ∧ Below w.heap.size w w'
end Go.Proofs.YtiandbhcjecphaaGreatDoor

namespace Go.Proofs.YtiandbhcjecphaaGreatDoor
open Go.RowKit
set_option linter.unusedVariables false

set_option maxRecDepth 100000 in
set_option maxHeartbeats 40000000 in
theorem specShC (op : Int) (w : World)  :
    Calls Tryz.prog 90 #[.int .i64 op] w fun e w' => e = .returned (shV (shT op)) ∧ Below w.heap.size w w' := by
  go_enter Tryz.func90, Tryz.ntmps90
  go_wp2
  all_goals first
    | (obtain rfl := eq_of_beq (‹(op == _) = true›)
       skip
       exact bodyPost_ret (v := shV (shT _)) (by simp [results, Tryz.results90, go_sem]; rfl) rfl ⟨rfl, (Below.refl _ _).alloc (Nat.le_refl _) _⟩)
    | (have ho : shT op = (0, 0, 0, 0) := by
         apply shT_out
         simp only [beq_eq_false_iff_ne] at *
         omega
       rw [ho]
       exact bodyPost_ret (v := shV (0, 0, 0, 0)) (by simp [results, Tryz.results90, go_sem]; rfl) rfl ⟨rfl, (Below.refl _ _).alloc (Nat.le_refl _) _⟩)

end Go.Proofs.YtiandbhcjecphaaGreatDoor

namespace Go.Proofs.YtiandbhcjecphaaGreatDoor
open Go.RowKit
set_option linter.unusedVariables false

theorem spOp1 (c : Int) (w : World) (b : Bool) (h : (b = true ∧ 1 ≤ c ∧ c ≤ 64) ∨ (b = false ∧ (c < 1 ∨ 64 < c))) :
    Calls Tryz.prog 117 #[.int .i64 c] w fun e w' => e = .returned (.bool b) ∧ w' = w := by
  go_enter Tryz.func117, Tryz.ntmps117
  go_wp2_with fail
  refine (spIn _ _ _ _ b h).mono ?_
  rintro e w1 ⟨rfl, rfl⟩
  clear h
  go_wp2
  go_ret
  exact ⟨rfl, rfl⟩

end Go.Proofs.YtiandbhcjecphaaGreatDoor
