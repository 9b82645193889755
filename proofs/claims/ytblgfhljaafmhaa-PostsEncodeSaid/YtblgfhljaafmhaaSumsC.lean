/- Layer 2: the program's functions (sums), each by a contract. -/
import Derived.Test.YtblgfhljaafmhaaIntsC2
import Derived.Test.YtblgfhljaafmhaaSumsM
import Derived.StillTailTactics
import Derived.Deep.RegionWith
import Derived.BigRegion
namespace Go.Proofs.Ytblgfhljaafmhaa
set_option linter.unusedVariables false
open Go Go.RowKit
attribute [local go_sem ↓] run_index_S
attribute [local go_sem] S_append S_extract

theorem wraps_u32 : ∀ n : Int, 0 ≤ n → n < 2 ^ 32 → IntKind.u32.wrap n = n := fun n h0 h1 => IntWalk.u32_in n (by omega)
theorem and16 (s : Nat) (hs : s < 4294967296) : bits .and .u32 (s : Int) 65535 = ((s % 65536 : Nat) : Int) := by
  rw [show (65535 : Int) = 2 ^ 16 - 1 from rfl, bits_mask .u32 32 (by decide) wraps_u32 16 (by decide) _ (by omega) (by omega)]
  rfl
theorem join16 (c a : Nat) (hc : c < 65536) (ha : a < 65536) : bits .or .u32 ((c : Int) * 65536) (a : Int) = ((c * 65536 + a : Nat) : Int) := by
  rw [bits_join .u32 32 (by decide) wraps_u32 16 _ _ (by omega) (by omega) (by omega) (by omega) (by omega) (by omega)]
  omega

end Go.Proofs.Ytblgfhljaafmhaa
