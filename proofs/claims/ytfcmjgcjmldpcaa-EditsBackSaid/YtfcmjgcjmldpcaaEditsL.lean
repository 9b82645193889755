/- Layer 16: give, by a contract. -/
import Derived.Test.YtfcmjgcjmldpcaaEditsK
namespace Go.Proofs.Ytfcmjgcjmldpcaa
set_option linter.unusedVariables false
set_option linter.unusedSimpArgs false
open Go Go.RowKit
attribute [local go_sem ↓] run_index_S
attribute [local go_sem] S_append S_extract

set_option maxHeartbeats 4000000 in
set_option maxRecDepth 100000 in
theorem give16_any (v : Value) (log next file : Int) (hf : 0 ≤ file ∧ file < 2147483647) (b : Nat) (w : World) (h : BkIn #[v, .int .i64 log, .int .i64 next] 24 w b) :
    Calls Try.prog 49 #[.pointer (some ⟨b, 0, none⟩), .int .i64 file] w fun e w' => e = .returned (.bool (decide (next ≤ file))) ∧ w' = w.setCell ⟨b, 2, none⟩ (.int .i64 (file + 1)) := by
  have z2 : w.cell? ⟨b, 2, none⟩ = some (.int .i64 next) := h.cell 2
  have f2 := h.free 2
  obtain ⟨hf1, hf2⟩ := hf
  go_enter Try.func49, Try.ntmps49
  go_wp2_with fail
  go_ret
  exact ⟨rfl, rfl⟩

end Go.Proofs.Ytfcmjgcjmldpcaa
