/- Layer 8: keys.Row, does, by contracts; the laws' walks: KeysStretch. -/
import Derived.Test.YtjlddackpckmfaaKeysP3
namespace Go.Proofs.Ytjlddackpckmfaa
set_option linter.unusedVariables false
open Go Go.RowKit Go.Sort
attribute [local go_sem ↓] run_index_S
attribute [local go_sem] S_append S_extract

theorem k_of : M.ofK 5 258 = [115, 0, 0, 0, 0, 0, 0, 0, 5, 0, 0, 0, 0, 0, 0, 1, 2] := by decide +kernel
theorem k_from : M.fromK 5 = [115, 0, 0, 0, 0, 0, 0, 0, 5] := by decide +kernel
theorem k_to : M.toK 5 = [115, 0, 0, 0, 0, 0, 0, 0, 6] := by decide +kernel
def k_sp : M.Sp := ⟨5, 1, 0, [97], [104], 5, 0, []⟩
theorem k_idx : M.idxK k_sp = [120, 97, 0, 104, 0, 0, 0, 0, 0, 0, 0, 0, 5, 0, 0, 0, 0, 0, 0, 0, 5, 0, 0, 0, 0, 0, 0, 0, 1] := by decide +kernel
theorem k_fit : k_sp.fits := by constructor <;> decide
theorem k_fs : M.fromS [97] [104] (-3) 4 = [120, 97, 0, 104, 0, 0, 0, 0, 0, 0, 0, 0, 0] := by decide +kernel
theorem k_ts : M.toS [97] [104] (-3) 4 = [120, 97, 0, 104, 0, 0, 0, 0, 0, 0, 0, 0, 5] := by decide +kernel
theorem k_row : M.rowK [115, 0, 0, 0, 0, 0, 0, 0, 5, 0, 0, 0, 0, 0, 0, 1, 2] = [115, 0, 0, 0, 0, 0, 0, 0, 5] := by
  have := M.parse_span 5 258 (by decide) (by decide)
  rw [show M.spanK 5 258 = [115, 0, 0, 0, 0, 0, 0, 0, 5, 0, 0, 0, 0, 0, 0, 1, 2] by decide +kernel] at this
  rw [M.rowK, this]
  rfl
theorem k_abc : M.rowK [97, 98, 99] = [] := rfl

end Go.Proofs.Ytjlddackpckmfaa
