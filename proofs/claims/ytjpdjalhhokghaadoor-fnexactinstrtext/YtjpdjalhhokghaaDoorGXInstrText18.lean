/- May an instruction stand so? The words. l02Shape: contract. -/
import Derived.Test.YtjpdjalhhokghaaDoorGXInstrText17
import Derived.Test.YtjpdjalhhokghaaDoorGXInstrText3
namespace Go.Proofs.YtjpdjalhhokghaaDoor
open Go.RowKit
set_option linter.unusedVariables false

/-- Is it an instruction of that form? -/
def rightF (f rd r1 r2 im : Int) : Bool :=
  if f = 1 ∨ f = 2 then regB rd && r1 == 0 && r2 == 0 && okB f im
  else if f = 3 ∨ f = 6 ∨ f = 7 then regB rd && regB r1 && r2 == 0 && okB f im
  else if f = 4 ∨ f = 5 then rd == 0 && regB r1 && regB r2 && okB f im
  else if f = 8 then regB rd && regB r1 && regB r2 && im == 0
  else rd == 0 && r1 == 0 && r2 == 0 && im == 0

theorem shapeOKs (op f c g h : Int) (w : World) (hs : shT op = (f, c, g, h)) (h0 : 1 ≤ op) (h1 : op ≤ 64) :
    Calls Tryd.prog 24 #[.int .i64 op] w fun e w' => e = .returned (.tuple #[.agg #[.int .i64 f, .int .i64 c, .int .i64 g, .int .i64 h], .int .i64 0]) ∧ Below w.heap.size w w' := by
  have := shapeOK op w h0 h1
  rw [hs] at this
  exact this
/-- What toldFields answers, what fieldAllows answers of the number. -/
def ToldIs (f : Int) (t : ByteArray) : Prop := ∀ w, Calls Tryd.prog 66 #[.int .i64 f] w fun e w' => e = .returned (.string t) ∧ w' = w
def NumIs (f im : Int) (B : Bool) : Prop := ∀ w, Calls Tryd.prog 68 #[.int .i64 f, .int .u8 105, .int .i64 im] w fun e w' => e = .returned (.bool B) ∧ Below w.heap.size w w'
end Go.Proofs.YtjpdjalhhokghaaDoor

namespace Go.Proofs.YtjpdjalhhokghaaDoor
open Go.RowKit
set_option linter.unusedVariables false

set_option maxRecDepth 100000 in
set_option maxHeartbeats 40000000 in
theorem specShC (op : Int) (w : World)  :
    Calls Tryd.prog 63 #[.int .i64 op] w fun e w' => e = .returned (shV (shT op)) ∧ Below w.heap.size w w' := by
  go_enter Tryd.func63, Tryd.ntmps63
  go_wp2
  all_goals first
    | (obtain rfl := eq_of_beq (‹(op == _) = true›)
       skip
       exact bodyPost_ret (v := shV (shT _)) (by simp [results, Tryd.results63, go_sem]; rfl) rfl ⟨rfl, (Below.refl _ _).alloc (Nat.le_refl _) _⟩)
    | (have ho : shT op = (0, 0, 0, 0) := by
         apply shT_out
         simp only [beq_eq_false_iff_ne] at *
         omega
       rw [ho]
       exact bodyPost_ret (v := shV (0, 0, 0, 0)) (by simp [results, Tryd.results63, go_sem]; rfl) rfl ⟨rfl, (Below.refl _ _).alloc (Nat.le_refl _) _⟩)

end Go.Proofs.YtjpdjalhhokghaaDoor
