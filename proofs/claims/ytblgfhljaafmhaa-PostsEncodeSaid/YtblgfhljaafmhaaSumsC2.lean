/- Layer 2: Roll and Bytes, the program's and the document's, each by a contract. -/
import Derived.Test.YtblgfhljaafmhaaSumsC
import Derived.Test.YtblgfhljaafmhaaSumsR
import Derived.Test.YtblgfhljaafmhaaIntsM2
namespace Go.Proofs.Ytblgfhljaafmhaa
set_option linter.unusedVariables false
open Go Go.RowKit
attribute [local go_sem ↓] run_index_S
attribute [local go_sem] S_append S_extract

/-- What Roll comes to. -/
def rollS (s : Nat) (n o i : Int) : Nat := M.rollP s (M.modN n) o.toNat i.toNat

/-- The numbers on the way: a', and b' by the document's way and by the program's. -/
theorem roll_parts (s : Nat) (n o i : Int) (ho : 0 ≤ o ∧ o ≤ 255) (hi : 0 ≤ i ∧ i ≤ 255) :
    ∃ a b : Nat, a < 65521 ∧ b < 65521 ∧ rollS s n o i = M.wholeP (a, b) ∧ (((M.partsP s).1 : Int) + 65521 - o + i) % 65521 = (a : Int) ∧
      (((M.partsP s).2 : Int) + 65521 - (((M.modN n : Nat) : Int) * o) % 65521 + a + 65521 - 1) % 65521 = (b : Int) ∧
      ((((M.partsP s).2 : Int) - n.tmod 65521 * o + a - 1).tmod 65521 + 65521) % 65521 = (b : Int) := by
  have hp := M.partsP_lt s
  refine ⟨((M.partsP s).1 + 65521 - o.toNat + i.toNat) % 65521, ((M.partsP s).2 + 65521 - M.modN n * o.toNat % 65521 + ((M.partsP s).1 + 65521 - o.toNat + i.toNat) % 65521 + 65521 - 1) % 65521, by omega, by omega, rfl, by omega, ?_, ?_⟩
  · have e : ((M.modN n * o.toNat : Nat) : Int) = ((M.modN n : Nat) : Int) * o := by rw [Int.natCast_mul, Int.toNat_of_nonneg ho.1]
    rw [← e]
    omega
  · have e : ((M.modN n * o.toNat : Nat) : Int) = ((M.modN n : Nat) : Int) * o := by rw [Int.natCast_mul, Int.toNat_of_nonneg ho.1]
    have h3 := M.prod_cases n o
    have h4 := M.tmod_cases (((M.partsP s).2 : Int) - n.tmod 65521 * o + (((M.partsP s).1 + 65521 - o.toNat + i.toNat) % 65521 : Nat) - 1)
    rw [h4]
    rw [← e] at h3
    generalize M.modN n * o.toNat = z at *
    generalize n.tmod 65521 * o = y at *
    generalize ((M.partsP s).1 + 65521 - o.toNat + i.toNat) % 65521 = x at *
    split <;> rcases h3 with ⟨h3, _⟩ | ⟨h3, _⟩ <;> omega

end Go.Proofs.Ytblgfhljaafmhaa
