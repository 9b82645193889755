/- Layer 2: Roll and Bytes, the program's and the document's, each by a contract. -/
import Derived.Test.YtehcedepiepbiaaSumsC
import Derived.Test.YtehcedepiepbiaaSumsR
import Derived.Test.YtehcedepiepbiaaIntsM2
namespace Go.Proofs.Ytehcedepiepbiaa
set_option linter.unusedVariables false
open Go Go.RowKit
attribute [local go_sem ↓] run_index_S
attribute [local go_sem] S_append S_extract

/-- What Roll comes to. -/
def rollS (s : Nat) (n o i : Int) : Nat := M.rollP s (M.modN n) o.toNat i.toNat

/-- The numbers on the way: a', and b' by the document's way and by the program's. -/
theorem roll_parts (s : Nat) (n o i : Int) (ho : 0 ≤ o ∧ o ≤ 255) (hi : 0 ≤ i ∧ i ≤ 255) :
    ∃ a b : Nat, a < 65521 ∧ b < 65521 ∧ rollS s n o i = M.wholeP (a, b) ∧ (((M.partsP s).1 : Int) + 65521 - o + i) % 65521 = (a : Int) ∧
      (((M.partsP s).2 : Int) + 65521 - (((M.modN n : Nat) : Int) * o) % 65521 + a + 65521 - 1) % 65521 = (b : Int) ∧
      ((((M.partsP s).2 : Int) - n.tmod 65521 * o + a - 1).tmod 65521 + 65521) % 65521 = (b : Int) := by
  have hp := M.partsP_lt s
  refine ⟨((M.partsP s).1 + 65521 - o.toNat + i.toNat) % 65521, ((M.partsP s).2 + 65521 - M.modN n * o.toNat % 65521 + ((M.partsP s).1 + 65521 - o.toNat + i.toNat) % 65521 + 65521 - 1) % 65521, by omega, by omega, rfl, by omega, ?_, ?_⟩
  · have e : ((M.modN n * o.toNat : Nat) : Int) = ((M.modN n : Nat) : Int) * o := by rw [Int.natCast_mul, Int.toNat_of_nonneg ho.1]
    rw [← e]
    omega
  · have e : ((M.modN n * o.toNat : Nat) : Int) = ((M.modN n : Nat) : Int) * o := by rw [Int.natCast_mul, Int.toNat_of_nonneg ho.1]
    have h3 := M.prod_cases n o
    have h4 := M.tmod_cases (((M.partsP s).2 : Int) - n.tmod 65521 * o + (((M.partsP s).1 + 65521 - o.toNat + i.toNat) % 65521 : Nat) - 1)
    rw [h4]
    rw [← e] at h3
    generalize M.modN n * o.toNat = z at *
    generalize n.tmod 65521 * o = y at *
    generalize ((M.partsP s).1 + 65521 - o.toNat + i.toNat) % 65521 = x at *
    split <;> rcases h3 with ⟨h3, _⟩ | ⟨h3, _⟩ <;> omega

theorem bytes_any (s : Nat) (hs : s < 4294967296) (w : World) :
    Calls Try.prog 24 #[.int .u32 s] w fun e w' => e = .returned (.string (S (M.big 4 s))) ∧ Below w.heap.size w w' := by
  have hd : (M.bigN s).drop 4 = M.big 4 s := rfl
  have hsl := run_piece_from (P := Try.prog) 9 Try.underlying9 (M.bigN s) 4 4 rfl (by rw [M.bigN_length]; omega)
  rw [hd] at hsl
  go_enter Try.func24, Try.ntmps24
  go_wp2_with (go_at_call 30; refine (big_nat s _ (by omega)).mono ?_; rintro e w' ⟨rfl, hb1⟩)
  go_ret
  exact ⟨rfl, by assumption⟩

theorem refBytes_any (s : Nat) (hs : s < 4294967296) (w : World) :
    Calls Try.prog 26 #[.int .u32 s] w fun e w' => e = .returned (.string (S (M.big 4 s))) ∧ Below w.heap.size w w' := by
  have kk := @run_string_four Try.prog 35 9 5 Try.underlying35 Try.underlying5 Try.underlying9
  have e : (⟨#[UInt8.ofNat (s / 16777216), UInt8.ofNat (s / 65536 % 256), UInt8.ofNat (s / 256 % 256), UInt8.ofNat (s % 256)]⟩ : ByteArray) = S (M.big 4 s) := by
    have e1 : s / 16777216 = s / 16777216 % 256 := by omega
    rw [e1]
    simp [M.big, M.u8]
  have HE := Lib.hid e
  clear e
  go_enter Try.func26, Try.ntmps26
  go_wp2_with fail
  go_ret
  exact ⟨ret_string HE.out, (Below.refl _ _).alloc (Nat.le_refl _) _⟩

end Go.Proofs.Ytehcedepiepbiaa
