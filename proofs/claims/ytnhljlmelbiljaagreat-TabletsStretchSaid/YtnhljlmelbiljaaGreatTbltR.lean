/- Layer 19: the document's cell of a key, by a contract. -/
import Derived.Test.YtnhljlmelbiljaaGreatTbltE
import Derived.Test.YtnhljlmelbiljaaGreatTbltN
import Derived.Deep.Cut
import Derived.Deep.CutRange
namespace Go.Proofs.YtnhljlmelbiljaaGreat
set_option linter.unusedVariables false
set_option linter.unusedSimpArgs false
open Go Go.RowKit
attribute [local go_sem ↓] run_index_S
attribute [local go_sem] S_append S_extract

/-- The document's tablet's value. -/
def rtV (f t : List UInt8) (ro : Option Addr) (n cap : Nat) : Array Value := #[.string (S f), .string (S t), .slice ro n cap]
def StR (Rs : List M.Rw) : Prop := ∀ r, r ∈ Rs → M.Stt r.l
theorem StR.pw {Rs : List M.Rw} (h : StR Rs) : M.PW (M.rls Rs) := fun i l hl => by
  simp only [M.rls, List.getElem?_map] at hl
  cases q : Rs[i]? with
  | none => rw [q] at hl; cases hl
  | some r =>
    rw [q] at hl
    injection hl with hl
    subst hl
    exact h r (List.mem_of_getElem? q)
end Go.Proofs.YtnhljlmelbiljaaGreat
