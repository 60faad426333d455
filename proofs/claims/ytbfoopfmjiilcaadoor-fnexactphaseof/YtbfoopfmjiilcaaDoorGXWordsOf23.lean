/- May an instruction stand so? The words. -/
import Derived.Test.YtbfoopfmjiilcaaDoorGXWordsOf22
namespace Go.Proofs.YtbfoopfmjiilcaaDoor
open Go.RowKit
set_option linter.unusedVariables false

/-- Is it an instruction of that form? -/
def rightF (f rd r1 r2 im : Int) : Bool :=
  if f = 1 ∨ f = 2 then regB rd && r1 == 0 && r2 == 0 && okB f im
  else if f = 3 ∨ f = 6 ∨ f = 7 then regB rd && regB r1 && r2 == 0 && okB f im
  else if f = 4 ∨ f = 5 then rd == 0 && regB r1 && regB r2 && okB f im
  else if f = 8 then regB rd && regB r1 && regB r2 && im == 0
  else rd == 0 && r1 == 0 && r2 == 0 && im == 0

theorem shapeOKs (op f c g h : Int) (w : World) (hs : shT op = (f, c, g, h)) (h0 : 1 ≤ op) (h1 : op ≤ 64) :
    Calls Tryd.prog 76 #[.int .i64 op] w fun e w' => e = .returned (.tuple #[.agg #[.int .i64 f, .int .i64 c, .int .i64 g, .int .i64 h], .int .i64 0]) ∧ Below w.heap.size w w' := by
  have := shapeOK op w h0 h1
  rw [hs] at this
  exact this
/-- What toldFields answers, what fieldAllows answers of the number. -/
def ToldIs (f : Int) (t : ByteArray) : Prop := ∀ w, Calls Tryd.prog 77 #[.int .i64 f] w fun e w' => e = .returned (.string t) ∧ w' = w
def NumIs (f im : Int) (B : Bool) : Prop := ∀ w, Calls Tryd.prog 79 #[.int .i64 f, .int .u8 105, .int .i64 im] w fun e w' => e = .returned (.bool B) ∧ Below w.heap.size w w'
end Go.Proofs.YtbfoopfmjiilcaaDoor
