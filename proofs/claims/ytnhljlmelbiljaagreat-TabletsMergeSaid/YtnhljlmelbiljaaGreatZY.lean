/- Texts of lower layers, as one. -/
import Derived.Test.YtnhljlmelbiljaaGreatZF
import Derived.Test.YtnhljlmelbiljaaGreatZC
import Derived.Test.YtnhljlmelbiljaaGreatZA
import Derived.Deep.QuietTactic
import Derived.BigQuiet
import Derived.Lib.QuietBelow
import Derived.Test.YtnhljlmelbiljaaGreatShelf
import Derived.Lib.IndexLaws
import Derived.StillTailTactics
/- Layer 8: keys, the program's and the document's, by contracts. -/
namespace Go.Proofs.YtnhljlmelbiljaaGreat
set_option linter.unusedVariables false
open Go Go.RowKit
attribute [local go_sem ↓] run_index_S
attribute [local go_sem] S_append S_extract

end Go.Proofs.YtnhljlmelbiljaaGreat

/- Layer 8: keys, the program's and the document's, by contracts: Index, Stretch. -/
namespace Go.Proofs.YtnhljlmelbiljaaGreat
set_option linter.unusedVariables false
open Go Go.RowKit Go.Sort
attribute [local go_sem ↓] run_index_S
attribute [local go_sem] S_append S_extract

end Go.Proofs.YtnhljlmelbiljaaGreat

/- Layer 8: keys.Parse, by a contract. -/
namespace Go.Proofs.YtnhljlmelbiljaaGreat
set_option linter.unusedVariables false
open Go Go.RowKit Go.Sort
attribute [local go_sem ↓] run_index_S
attribute [local go_sem] S_append S_extract

theorem RowIn.row {C D : Array Value} {T : TypeId} {w : World} {b : Nat} (h : RowIn C T w b) : RowIn D T (w.setRow b D) b := setRow_heap w b _ _ _ _ h
end Go.Proofs.YtnhljlmelbiljaaGreat

/- Layer 8: keys.Parse, by a contract. -/
namespace Go.Proofs.YtnhljlmelbiljaaGreat
set_option linter.unusedVariables false
open Go Go.RowKit Go.Sort
attribute [local go_sem ↓] run_index_S
attribute [local go_sem] S_append S_extract

end Go.Proofs.YtnhljlmelbiljaaGreat

/- Layer 8: keys.Parse, by a contract: an index cell's key; whatever else. -/
namespace Go.Proofs.YtnhljlmelbiljaaGreat
set_option linter.unusedVariables false
open Go Go.RowKit Go.Sort
attribute [local go_sem ↓] run_index_S
attribute [local go_sem] S_append S_extract

end Go.Proofs.YtnhljlmelbiljaaGreat

/- Layer 8: keys.Row, does, by contracts; the laws' walks: KeysStretch. -/
namespace Go.Proofs.YtnhljlmelbiljaaGreat
set_option linter.unusedVariables false
open Go Go.RowKit Go.Sort
attribute [local go_sem ↓] run_index_S
attribute [local go_sem] S_append S_extract

end Go.Proofs.YtnhljlmelbiljaaGreat

/- Layer 8: the document's zero, by a contract; a key's parts by places. -/
namespace Go.Proofs.YtnhljlmelbiljaaGreat
set_option linter.unusedVariables false
open Go Go.RowKit Go.Sort
attribute [local go_sem ↓] run_index_S
attribute [local go_sem] S_append S_extract

end Go.Proofs.YtnhljlmelbiljaaGreat

/- Layer 8: the document's Parse, by contracts, case by case. -/
namespace Go.Proofs.YtnhljlmelbiljaaGreat
set_option linter.unusedVariables false
open Go Go.RowKit Go.Sort
attribute [local go_sem ↓] run_index_S
attribute [local go_sem] S_append S_extract

end Go.Proofs.YtnhljlmelbiljaaGreat

/- Layer 8: the document's Parse, Row, by contracts; the laws' walks: KeysParse. -/
namespace Go.Proofs.YtnhljlmelbiljaaGreat
set_option linter.unusedVariables false
open Go Go.RowKit Go.Sort
attribute [local go_sem ↓] run_index_S
attribute [local go_sem] S_append S_extract

end Go.Proofs.YtnhljlmelbiljaaGreat
