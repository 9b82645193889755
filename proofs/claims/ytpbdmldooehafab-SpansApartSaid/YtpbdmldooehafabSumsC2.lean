/- Layer 2: Roll and Bytes, the program's and the document's, each by a contract. -/
import Derived.Test.YtpbdmldooehafabSumsC
import Derived.Test.YtpbdmldooehafabSumsR
import Derived.Test.YtpbdmldooehafabIntsM2
namespace Go.Proofs.Ytpbdmldooehafab
set_option linter.unusedVariables false
open Go Go.RowKit
attribute [local go_sem ↓] run_index_S
attribute [local go_sem] S_append S_extract

/-- What Roll comes to. -/
def rollS (s : Nat) (n o i : Int) : Nat := M.rollP s (M.modN n) o.toNat i.toNat

/-- The numbers on the way: a', and b' by the document's way and by the program's. -/
theorem roll_parts (s : Nat) (n o i : Int) (ho : 0 ≤ o ∧ o ≤ 255) (hi : 0 ≤ i ∧ i ≤ 255) :
    ∃ a b : Nat, a < 65521 ∧ b < 65521 ∧ rollS s n o i = M.wholeP (a, b) ∧ (((M.partsP s).1 : Int) + 65521 - o + i) % 65521 = (a : Int) ∧
      (((M.partsP s).2 : Int) + 65521 - (((M.modN n : Nat) : Int) * o) % 65521 + a + 65521 - 1) % 65521 = (b : Int) ∧
      ((((M.partsP s).2 : Int) - n.tmod 65521 * o + a - 1).tmod 65521 + 65521) % 65521 = (b : Int) := by
  have hp := M.partsP_lt s
  refine ⟨((M.partsP s).1 + 65521 - o.toNat + i.toNat) % 65521, ((M.partsP s).2 + 65521 - M.modN n * o.toNat % 65521 + ((M.partsP s).1 + 65521 - o.toNat + i.toNat) % 65521 + 65521 - 1) % 65521, by omega, by omega, rfl, by omega, ?_, ?_⟩
  · have e : ((M.modN n * o.toNat : Nat) : Int) = ((M.modN n : Nat) : Int) * o := by rw [Int.natCast_mul, Int.toNat_of_nonneg ho.1]
    rw [← e]
    omega
  · have e : ((M.modN n * o.toNat : Nat) : Int) = ((M.modN n : Nat) : Int) * o := by rw [Int.natCast_mul, Int.toNat_of_nonneg ho.1]
    have h3 := M.prod_cases n o
    have h4 := M.tmod_cases (((M.partsP s).2 : Int) - n.tmod 65521 * o + (((M.partsP s).1 + 65521 - o.toNat + i.toNat) % 65521 : Nat) - 1)
    rw [h4]
    rw [← e] at h3
    generalize M.modN n * o.toNat = z at *
    generalize n.tmod 65521 * o = y at *
    generalize ((M.partsP s).1 + 65521 - o.toNat + i.toNat) % 65521 = x at *
    split <;> rcases h3 with ⟨h3, _⟩ | ⟨h3, _⟩ <;> omega

set_option maxHeartbeats 1000000 in
theorem roll_any (s : Nat) (hs : s < 4294967296) (n : Int) (hn : -9223372036854775808 ≤ n ∧ n ≤ 9223372036854775807) (o i : Int) (ho : 0 ≤ o ∧ o ≤ 255) (hi : 0 ≤ i ∧ i ≤ 255) (w : World) :
    Calls Try.prog 31 #[.int .u32 s, .int .i64 n, .int .u8 o, .int .u8 i] w fun e w' => e = .returned (.int .u32 (rollS s n o i)) ∧ Below w.heap.size w w' := by
  obtain ⟨a, b, ha, hb, hr, h1, _, h2⟩ := roll_parts s n o i ho hi
  have hp := M.partsP_lt s
  have cp := fun W => split_any s hs W
  have cs := fun W => sum_any (a, b) ⟨ha, hb⟩ W
  have hPb := M.prod_bound n o ho.1 ho.2
  have htb : -65521 < n.tmod 65521 ∧ n.tmod 65521 < 65521 := by
    have hm := M.tmod_cases n
    split at hm <;> omega
  obtain ⟨t, ht⟩ : ∃ t, n.tmod 65521 = t := ⟨_, rfl⟩
  rw [ht] at hPb h2 htb
  obtain ⟨P, hPP⟩ : ∃ P : Int, t * o = P := ⟨_, rfl⟩
  rw [hPP] at hPb h2
  rw [hr]
  generalize M.partsP s = q at *
  obtain ⟨u, hu⟩ : ∃ u, ((q.2 : Int) - P + a - 1).tmod 65521 = u := ⟨_, rfl⟩
  have hub : -65521 < u ∧ u < 65521 := by
    have hm := M.tmod_cases ((q.2 : Int) - P + a - 1)
    rw [hu] at hm
    split at hm <;> omega
  rw [hu] at h2
  have h1' : ((q.1 : Int) - o + i + 65521) % 65521 = (a : Int) := by omega
  have CP := Lib.hid cp
  have CS := Lib.hid cs
  clear cp cs hr h1
  go_enter Try.func31, Try.ntmps31
  go_wp2_with fail
  with_reducible refine (CP.out _).mono ?_
  rintro e w' ⟨rfl, rfl⟩
  go_wp2_with fail
  with_reducible refine (CS.out _).mono ?_
  rintro e w2 ⟨rfl, hb2⟩
  go_wp2_with fail
  go_ret
  exact ⟨rfl, below_step (((Below.refl _ _).alloc (Nat.le_refl _) _).alloc (by simp) _) hb2⟩

theorem bytes_any (s : Nat) (hs : s < 4294967296) (w : World) :
    Calls Try.prog 15 #[.int .u32 s] w fun e w' => e = .returned (.string (S (M.big 4 s))) ∧ Below w.heap.size w w' := by
  have hd : (M.bigN s).drop 4 = M.big 4 s := rfl
  have hsl := run_piece_from (P := Try.prog) 9 Try.underlying9 (M.bigN s) 4 4 rfl (by rw [M.bigN_length]; omega)
  rw [hd] at hsl
  go_enter Try.func15, Try.ntmps15
  go_wp2_with (go_at_call 32; refine (big_nat s _ (by omega)).mono ?_; rintro e w' ⟨rfl, hb1⟩)
  go_ret
  exact ⟨rfl, by assumption⟩

end Go.Proofs.Ytpbdmldooehafab
