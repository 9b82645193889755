/- Plain mathematics of layer 4: a payload's frame, and where one stands. No Go here. -/
import Derived.Test.YtehcedepiepbiaaSumsM2
import Derived.Test.YtehcedepiepbiaaKit
namespace Go.Proofs.Ytehcedepiepbiaa.M
set_option linter.unusedVariables false

/-- P4.1. -/
def frameP (p : List UInt8) : List UInt8 := [2] ++ [UInt8.ofNat (p.length / 256), UInt8.ofNat (p.length % 256)] ++ p ++ big 4 (sumP p) ++ [3]
theorem frameP_length (p : List UInt8) : (frameP p).length = p.length + 8 := by
  simp [frameP, big_length]

/-- P4.2: how long the payload is, as a frame at a tells. -/
def many (s : List UInt8) (a : Nat) : Nat := (s.getD (a + 1) 0).toNat * 256 + (s.getD (a + 2) 0).toNat
theorem many_lt (s : List UInt8) (a : Nat) : many s a < 65536 := by
  have h1 := (s.getD (a + 1) 0).toNat_lt
  have h2 := (s.getD (a + 2) 0).toNat_lt
  unfold many; omega
/-- Does a frame stand at a? -/
structure Stands (s : List UInt8) (a : Nat) : Prop where
  room : a + 8 ≤ s.length
  two : s.getD a 0 = 2
  most : many s a ≤ 16384
  fits : a + many s a + 8 ≤ s.length
  three : s.getD (a + many s a + 7) 0 = 3
  sum : piece s (a + many s a + 3) (a + many s a + 7) = big 4 (sumP (piece s (a + 3) (a + many s a + 3)))
instance (s : List UInt8) (a : Nat) : Decidable (Stands s a) :=
  decidable_of_iff (a + 8 ≤ s.length ∧ s.getD a 0 = 2 ∧ many s a ≤ 16384 ∧ a + many s a + 8 ≤ s.length ∧ s.getD (a + many s a + 7) 0 = 3 ∧ piece s (a + many s a + 3) (a + many s a + 7) = big 4 (sumP (piece s (a + 3) (a + many s a + 3))))
    ⟨fun ⟨h1, h2, h3, h4, h5, h6⟩ => ⟨h1, h2, h3, h4, h5, h6⟩, fun h => ⟨h.room, h.two, h.most, h.fits, h.three, h.sum⟩⟩
/-- P4.2 Next. -/
def next (s : List UInt8) (a : Nat) : Option (List UInt8 × Nat) := if Stands s a then some (piece s (a + 3) (a + many s a + 3), a + many s a + 8) else none
def nextI (s : List UInt8) (at_ : Int) : Option (List UInt8 × Nat) := if 0 ≤ at_ then next s at_.toNat else none
theorem nextI_nat (s : List UInt8) (a : Nat) : nextI s a = next s a := by simp [nextI]
theorem nextI_neg (s : List UInt8) (at_ : Int) (h : at_ < 0) : nextI s at_ = none := by rw [nextI, if_neg (by omega)]
theorem next_no {s : List UInt8} {a : Nat} (h : ¬ Stands s a) : next s a = none := by rw [next, if_neg h]
theorem next_yes {s : List UInt8} {a : Nat} (h : Stands s a) : next s a = some (piece s (a + 3) (a + many s a + 3), a + many s a + 8) := by rw [next, if_pos h]
theorem next_bounds {s p : List UInt8} {a e : Nat} (h : next s a = some (p, e)) : Stands s a ∧ a + 8 ≤ e ∧ e ≤ s.length ∧ e = a + p.length + 8 ∧ p.length ≤ 16384 ∧ p = piece s (a + 3) (a + many s a + 3) := by
  unfold next at h
  split at h
  · rename_i hs
    simp only [Option.some.injEq, Prod.mk.injEq] at h
    obtain ⟨h1, h2⟩ := h
    have hf := hs.fits
    have hm := hs.most
    have hl : p.length = many s a := by rw [← h1, piece_length _ _ _ (by omega) (by omega)]; omega
    exact ⟨hs, by omega, by omega, by omega, by omega, h1.symm⟩
  · simp at h

end Go.Proofs.Ytehcedepiepbiaa.M
