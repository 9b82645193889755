/- Layer 4: the program's Whole, by a contract: a range over the frames. -/
import Derived.Test.YtehcedepiepbiaaFramesE
import Derived.RangeFuncBox
import Derived.RangeFuncFrom
import Derived.Maps.OwnIn
namespace Go.Proofs.Ytehcedepiepbiaa
set_option linter.unusedVariables false
open Go Go.RowKit Go.Shelf
attribute [local go_sem ↓] run_index_S
attribute [local go_sem] S_append S_extract
attribute [local go_sem] Oper.semAt_some

theorem eachF_any (l : List UInt8) (w : World) : Calls Try.prog 29 #[.string (S l)] w fun e w' => e = .returned (.func (.func 34) #[] #[.pointer (some ⟨w.heap.size, 0, none⟩)]) ∧ w' = w.alloc (.cells #[.string (S l)] 9) := by
  go_enter Try.func29, Try.ntmps29
  go_wp2_with fail
  go_ret
  exact ⟨rfl, rfl⟩

theorem each_stops (l : List UInt8) (hl : l.length ≤ 1000000) (n : Nat) (hn : 1 ≤ n) (b n₀ : Nat) (w : World) (hbn : b < n₀) (hn₀ : n₀ ≤ w.heap.size) (hc : w.cell? ⟨b, 0, none⟩ = some (.string (S l))) :
    SeqStopsK Fence.wide n Try.prog 34 #[.pointer (some ⟨b, 0, none⟩)] encF (KpB b) (fun ys => ys = M.runs l 0) (fun _ => True) (l.length + 1) w := fun lp J Jx W hW hJ hJx hY h0 =>
  each1_in l hl n hn lp b n₀ W.heap.size hbn J Jx hJ hY W ((hW.cell (p := ⟨b, 0, none⟩) (by simp; omega)).trans hc) (Nat.le_trans hn₀ hW.size) h0

end Go.Proofs.Ytehcedepiepbiaa
