/- Layer 3: the laws' walks: SpansBack. -/
import Derived.Test.YtadkkandfgfboaaSpansL2
import Derived.Test.YtadkkandfgfboaaSpansM2
namespace Go.Proofs.Ytadkkandfgfboaa
set_option linter.unusedVariables false
open Go Go.RowKit
attribute [local go_sem ↓] run_index_S
attribute [local go_sem] S_append S_extract

theorem dec_fits {l : List UInt8} (hl : l.length ≤ 140737488351232) {x : M.Sp} (h : M.dec l = some x) : x.fits := by
  rw [M.dec_take] at h
  cases ht : M.take l 0 with
  | none => rw [ht] at h; simp at h
  | some r =>
    obtain ⟨y, e⟩ := r
    rw [ht] at h
    simp only at h
    split at h
    · simp only [Option.some.injEq] at h
      rw [← h]; exact take_fits hl ht
    · simp at h

end Go.Proofs.Ytadkkandfgfboaa
