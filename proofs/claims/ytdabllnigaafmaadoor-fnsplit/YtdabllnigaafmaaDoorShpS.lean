/- The shapes of the operations: contracts. -/
import Derived.Test.YtdabllnigaafmaaDoorShp1
import Derived.Test.YtdabllnigaafmaaDoorShp2
import Derived.Test.YtdabllnigaafmaaDoorShp3
import Derived.Test.YtdabllnigaafmaaDoorShp4
import Derived.Test.YtdabllnigaafmaaDoorShp5
import Derived.Test.YtdabllnigaafmaaDoorErrC
namespace Go.Proofs.YtdabllnigaafmaaDoor
open Go.RowKit
set_option linter.unusedVariables false

theorem bcell {W w1 : World} (hb : Below W.heap.size W w1) : (∀ b o, b < W.heap.size → w1.cell? ⟨b, o, none⟩ = W.cell? ⟨b, o, none⟩) ∧ (∀ b o, b < W.heap.size → w1.frozen? ⟨b, o, none⟩ = W.frozen? ⟨b, o, none⟩) :=
  ⟨fun b o h => hb.cell (p := ⟨b, o, none⟩) h, fun b o h => hb.frozen (p := ⟨b, o, none⟩) h⟩

end Go.Proofs.YtdabllnigaafmaaDoor
