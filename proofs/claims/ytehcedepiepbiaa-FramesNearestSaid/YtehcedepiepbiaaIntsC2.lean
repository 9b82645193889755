/- Layer 1: the program's functions (ints), continued: Get, OfBig, GetText, PutText. -/
import Derived.Test.YtehcedepiepbiaaIntsC
namespace Go.Proofs.Ytehcedepiepbiaa
set_option linter.unusedVariables false
open Go Go.RowKit
attribute [local go_sem ↓] run_index_S
attribute [local go_sem] S_append S_extract

theorem wraps_i64 : ∀ n : Int, 0 ≤ n → n < 2 ^ 63 → IntKind.i64.wrap n = n := fun n h0 h1 => IntWalk.i64_in n (by omega)
/-- 'n<<7 | d', d below 128. -/
theorem join7 (v b : Int) (h0 : 0 ≤ v) (h1 : v ≤ 72057594037927935) (hb0 : 0 ≤ b) (hb1 : b < 128) : bits .or .i64 (v * 128) b = v * 128 + b :=
  bits_join .i64 63 (by decide) wraps_i64 7 _ _ (by omega) (by omega) (by omega) hb0 (by omega) (by omega)
/-- 'n<<8 | d', d below 256. -/
theorem join8 (v b : Int) (h0 : 0 ≤ v) (h1 : v ≤ 36028797018963967) (hb0 : 0 ≤ b) (hb1 : b < 256) : bits .or .i64 (v * 256) b = v * 256 + b :=
  bits_join .i64 63 (by decide) wraps_i64 8 _ _ (by omega) (by omega) (by omega) hb0 (by omega) (by omega)
theorem clear_any (y : Int) (h0 : 0 ≤ y) (h1 : y ≤ 255) : bits .andNot .u8 y 128 = y % 128 := by
  have := clear128_fin ⟨y.toNat, by omega⟩
  simp only at this
  rw [show y = ((y.toNat : Nat) : Int) from by omega, this]
  omega

/-- The first byte at a place is that of what stands there. -/
theorem B_drop (l : List UInt8) (a : Nat) : ((l.drop a).getD 0 0).toNat = (B l a).toNat := by
  simp [B, List.getD]

theorem gets_ok {l : List UInt8} {a k : Nat} (hk : M.ld (l.drop a) = k) (h : a + k < l.length) (h8 : k ≤ 8) (h128 : B l a ≠ 128) :
    M.gets l a = some (M.val ((l.drop a).take (k + 1)), a + k + 1) := by
  subst hk
  have hr := B_range l a
  refine gets_some rfl h h8 rfl rfl ?_
  exact (M.putN_val (l.drop a) (by rw [List.length_drop]; omega) h8).2 (by rw [B_drop]; omega)
theorem gets_no {l : List UInt8} {a k : Nat} (hk : M.ld (l.drop a) = k) (h : ¬ (a + k < l.length ∧ k ≤ 8 ∧ B l a ≠ 128)) : M.gets l a = none := by
  subst hk
  have hr := B_range l a
  refine gets_none rfl rfl rfl ?_
  intro ⟨h1, h2, h3⟩
  refine h ⟨h1, h2, ?_⟩
  have := (M.putN_val (l.drop a) (by rw [List.length_drop]; omega) h2).1 h3
  rw [B_drop] at this
  omega

end Go.Proofs.Ytehcedepiepbiaa
