/- Layer 3: the laws' walks: SpansDecode, SpansLess. -/
import Derived.Test.YtadkkandfgfboaaSpansS
import Derived.Test.YtadkkandfgfboaaSpansO
namespace Go.Proofs.Ytadkkandfgfboaa
set_option linter.unusedVariables false
open Go Go.RowKit
attribute [local go_sem ↓] run_index_S
attribute [local go_sem] S_append S_extract

end Go.Proofs.Ytadkkandfgfboaa
