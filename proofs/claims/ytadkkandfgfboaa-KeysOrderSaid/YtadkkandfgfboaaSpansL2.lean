/- Layer 3: the laws' walks: SpansEncode. -/
import Derived.Test.YtadkkandfgfboaaSpansL
namespace Go.Proofs.Ytadkkandfgfboaa
set_option linter.unusedVariables false
open Go Go.RowKit
attribute [local go_sem ↓] run_index_S
attribute [local go_sem] S_append S_extract

theorem span_cells {x : M.Sp} {T : TypeId} {w : World} {b : Nat} (h : RowIn #[.int .i64 x.trace, .int .i64 x.id, .int .i64 x.parent, .string (S x.svc), .string (S x.host), .int .i64 x.start, .int .i64 x.dur, .string (S x.note)] T w b) : w.cell? ⟨b, 0, none⟩ = some (.int .i64 x.trace) ∧ w.cell? ⟨b, 1, none⟩ = some (.int .i64 x.id) ∧ w.cell? ⟨b, 2, none⟩ = some (.int .i64 x.parent) ∧ w.cell? ⟨b, 3, none⟩ = some (.string (S x.svc)) ∧ w.cell? ⟨b, 4, none⟩ = some (.string (S x.host)) ∧ w.cell? ⟨b, 5, none⟩ = some (.int .i64 x.start) ∧ w.cell? ⟨b, 6, none⟩ = some (.int .i64 x.dur) ∧ w.cell? ⟨b, 7, none⟩ = some (.string (S x.note)) :=
  ⟨h.cell 0, h.cell 1, h.cell 2, h.cell 3, h.cell 4, h.cell 5, h.cell 6, h.cell 7⟩

def M.greatB (x : M.Sp) : Bool := decide (1000 < x.svc.length) || decide (1000 < x.host.length) || decide (1000 < x.note.length)
theorem M.greatB_false {x : M.Sp} (h : M.greatB x = false) : x.svc.length ≤ 1000 ∧ x.host.length ≤ 1000 ∧ x.note.length ≤ 1000 := by
  simp [M.greatB] at h
  omega

end Go.Proofs.Ytadkkandfgfboaa
