/- Layer 2: the laws' walks, continued: SumsWindow, SumsOne. -/
import Derived.Test.YtblgfhljaafmhaaSumsL
import Derived.Deep.QuietTactic
import Derived.BigQuiet
import Derived.Lib.QuietBelow
namespace Go.Proofs.Ytblgfhljaafmhaa
set_option linter.unusedVariables false
open Go Go.RowKit
attribute [local go_sem ↓] run_index_S
attribute [local go_sem] S_append S_extract

theorem piece_cons (l : List UInt8) (i j : Nat) (h : i < j) (hj : j ≤ l.length) : piece l i j = l[i] :: piece l (i + 1) j := by
  unfold piece
  rw [List.drop_eq_getElem_cons (by omega), show j - i = (j - (i + 1)) + 1 from by omega, List.take_succ_cons]
theorem piece_snoc (l : List UInt8) (i j : Nat) (h : i ≤ j) (hj : j < l.length) : piece l i (j + 1) = piece l i j ++ [l[j]] := by
  unfold piece
  rw [show j + 1 - i = (j - i) + 1 from by omega, List.take_succ_eq_append_getElem (by simp; omega)]
  congr 1
  simp
  congr 1
  omega

/-- The next window's sum. -/
theorem window_step (l : List UInt8) (k i : Nat) (hk : 1 ≤ k) (hki : k ≤ i) (hi : i < l.length) :
    rollS (M.sumP (piece l (i - k) i)) (k : Int) (B l (i - k)) (B l i) = M.sumP (piece l (i - k + 1) (i + 1)) := by
  rw [piece_cons l (i - k) i (by omega) (by omega), piece_snoc l (i - k + 1) i (by omega) hi, B_at l _ (by omega), B_at l i hi]
  unfold rollS
  simp only [Int.toNat_natCast]
  refine M.roll_window _ _ _ k ?_
  rw [piece_length _ _ _ (by omega) (by omega)]
  omega

/-- A byte by another one's bits. -/
theorem xor_byte (x y : Int) (hx : 0 ≤ x ∧ x ≤ 255) (hy : 0 ≤ y ∧ y ≤ 255) : ∃ v : UInt8, bits .xor .u8 x y = (v.toNat : Int) ∧ ((v.toNat : Int) = x ↔ y = 0) := by
  have h := u8_xor x y hx.1 (by omega) hy.1 (by omega)
  have hlt : x.toNat ^^^ y.toNat < 2 ^ 8 := Nat.xor_lt_two_pow (by omega) (by omega)
  refine ⟨UInt8.ofNat (x.toNat ^^^ y.toNat), ?_, ?_⟩
  · rw [h, UInt8.toNat_ofNat']; congr 1; omega
  · rw [UInt8.toNat_ofNat', Nat.mod_eq_of_lt (by omega)]
    constructor
    · intro e
      have e1 : x.toNat ^^^ y.toNat = x.toNat := by omega
      have e2 : x.toNat ^^^ (x.toNat ^^^ y.toNat) = y.toNat := by rw [← Nat.xor_assoc, Nat.xor_self, Nat.zero_xor]
      rw [e1, Nat.xor_self] at e2
      omega
    · intro e
      subst e
      simp; omega

end Go.Proofs.Ytblgfhljaafmhaa
