/- Layer 2: the chapter's examples (spoorlaw02.does) come out true. -/
import Derived.Test.YtblgfhljaafmhaaSumsC2
namespace Go.Proofs.Ytblgfhljaafmhaa
set_option linter.unusedVariables false
open Go Go.RowKit

theorem sx1 : M.sumP [97, 98, 99] = 38600999 := by decide
theorem sx2 : M.sumP [87, 105, 107, 105, 112, 101, 100, 105, 97] = 300286872 := by decide
theorem sx3 : M.sumP [97, 98] = 19267780 := by decide
theorem sx4 : M.moreP 19267780 [99] = 38600999 := by decide
theorem sx5 : rollS 38600999 3 97 100 = 38994218 := by decide
theorem sx6 : M.sumP [98, 99, 100] = 38994218 := by decide
theorem sx7 : M.big 4 300286872 = [17, 230, 3, 152] := by decide

end Go.Proofs.Ytblgfhljaafmhaa
