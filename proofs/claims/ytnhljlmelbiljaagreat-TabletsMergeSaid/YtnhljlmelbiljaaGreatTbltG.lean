/- Layer 19: where a tablet would be parted, by a contract. -/
import Derived.Test.YtnhljlmelbiljaaGreatTbltF
import Derived.Test.YtnhljlmelbiljaaGreatTbltS
import Derived.Test.YtnhljlmelbiljaaGreatZY
import Derived.Sort.OwnSorted
import Derived.Lib.OwnBridge
import Derived.BigQuiet
import Derived.Deep.Cut
import Derived.Deep.CutRange
namespace Go.Proofs.YtnhljlmelbiljaaGreat
set_option linter.unusedVariables false
set_option linter.unusedSimpArgs false
open Go Go.RowKit Go.Sort
attribute [local go_sem ↓] run_index_S
attribute [local go_sem] S_append S_extract

end Go.Proofs.YtnhljlmelbiljaaGreat
