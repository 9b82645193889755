/- Layer 2: the document's answers (spoorref02), each function by a contract. -/
import Derived.Test.YtblgfhljaafmhaaIntsC2
import Derived.Test.YtblgfhljaafmhaaSumsM
namespace Go.Proofs.Ytblgfhljaafmhaa
set_option linter.unusedVariables false
open Go Go.RowKit
attribute [local go_sem ↓] run_index_S
attribute [local go_sem] S_append S_extract

theorem step_next (p : Nat × Nat) (l : List UInt8) (k : Nat) (h : k < l.length) :
    ((M.runP p (l.take k)).1 + B l k) % 65521 = (M.runP p (l.take (k + 1))).1 ∧ ((M.runP p (l.take k)).2 + ((M.runP p (l.take k)).1 + B l k) % 65521) % 65521 = ((M.runP p (l.take (k + 1))).2 : Int) := by
  rw [M.runP_take p l k h, B_at l k h]
  simp only [M.stepP]
  omega

end Go.Proofs.Ytblgfhljaafmhaa
