/- halfShape: contract. -/
import Derived.Test.YtdabllnigaafmaaDoorShpP
namespace Go.Proofs.YtdabllnigaafmaaDoor
open Go.RowKit
set_option linter.unusedVariables false

end Go.Proofs.YtdabllnigaafmaaDoor
