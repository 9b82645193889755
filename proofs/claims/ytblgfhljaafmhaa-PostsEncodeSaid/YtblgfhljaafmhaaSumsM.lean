/- Plain mathematics of layer 2: sums over bytes. No Go here. -/
import Derived.Test.YtblgfhljaafmhaaIntsM
namespace Go.Proofs.Ytblgfhljaafmhaa.M
set_option linter.unusedVariables false

/-- By a byte a sum's parts go on. -/
def stepP (p : Nat × Nat) (x : UInt8) : Nat × Nat := ((p.1 + x.toNat) % 65521, (p.2 + (p.1 + x.toNat) % 65521) % 65521)
def runP (p : Nat × Nat) (l : List UInt8) : Nat × Nat := l.foldl stepP p
def partsP (s : Nat) : Nat × Nat := (s % 65536 % 65521, s / 65536 % 65521)
def wholeP (p : Nat × Nat) : Nat := p.2 * 65536 + p.1
/-- P2.1 More. -/
def moreP (s : Nat) (l : List UInt8) : Nat := wholeP (runP (partsP s) l)
/-- P2.1 Sum. -/
def sumP (l : List UInt8) : Nat := moreP 1 l

theorem stepP_lt (p : Nat × Nat) (x : UInt8) : (stepP p x).1 < 65521 ∧ (stepP p x).2 < 65521 := by simp only [stepP]; omega
theorem partsP_lt (s : Nat) : (partsP s).1 < 65521 ∧ (partsP s).2 < 65521 := by simp only [partsP]; omega
theorem runP_nil (p : Nat × Nat) : runP p [] = p := rfl
theorem runP_snoc (p : Nat × Nat) (l : List UInt8) (x : UInt8) : runP p (l ++ [x]) = stepP (runP p l) x := by simp [runP]
theorem runP_app (p : Nat × Nat) (a b : List UInt8) : runP p (a ++ b) = runP (runP p a) b := by simp [runP]
theorem runP_take (p : Nat × Nat) (l : List UInt8) (k : Nat) (h : k < l.length) : runP p (l.take (k + 1)) = stepP (runP p (l.take k)) l[k] := by
  rw [List.take_succ_eq_append_getElem h, runP_snoc]
theorem runP_lt (p : Nat × Nat) (h : p.1 < 65521 ∧ p.2 < 65521) (l : List UInt8) : (runP p l).1 < 65521 ∧ (runP p l).2 < 65521 := by
  refine snoc_ind (p := fun l => (runP p l).1 < 65521 ∧ (runP p l).2 < 65521) h ?_ l
  intro ds d _
  rw [runP_snoc]
  exact stepP_lt _ _
theorem wholeP_lt (p : Nat × Nat) (h : p.1 < 65521 ∧ p.2 < 65521) : wholeP p < 4294967296 := by simp only [wholeP]; omega
theorem moreP_lt (s : Nat) (l : List UInt8) : moreP s l < 4294967296 := wholeP_lt _ (runP_lt _ (partsP_lt s) l)
theorem partsP_whole (p : Nat × Nat) (h : p.1 < 65521 ∧ p.2 < 65521) : partsP (wholeP p) = p := by
  obtain ⟨a, b⟩ := p
  simp only [partsP, wholeP, Prod.mk.injEq]
  simp only at h
  omega
/-- P2.4: joined texts. -/
theorem moreP_app (s : Nat) (a b : List UInt8) : moreP (moreP s a) b = moreP s (a ++ b) := by
  unfold moreP
  rw [partsP_whole _ (runP_lt _ (partsP_lt s) a), runP_app]

/-- P2.2 Roll: k is n modulo 65521. -/
def rollP (s : Nat) (k o i : Nat) : Nat :=
  let a := ((partsP s).1 + 65521 - o + i) % 65521
  wholeP (a, ((partsP s).2 + 65521 - k * o % 65521 + a + 65521 - 1) % 65521)
theorem rollP_lt (s k o i : Nat) : rollP s k o i < 4294967296 := wholeP_lt _ ⟨Nat.mod_lt _ (by decide), Nat.mod_lt _ (by decide)⟩
theorem tmod_cases (x : Int) : x.tmod 65521 = if 0 ≤ x then x % 65521 else -((-x) % 65521) := by
  by_cases h : 0 ≤ x
  · rw [if_pos h, Int.tmod_eq_emod_of_nonneg h]
  · rw [if_neg h]
    have e : x = -(-x) := by omega
    rw [e, Int.neg_tmod, Int.tmod_eq_emod_of_nonneg (by omega)]
    omega
/-- n modulo 65521. -/
def modN (n : Int) : Nat := (n % 65521).toNat

theorem modN_lt (n : Int) : modN n < 65521 := by unfold modN; omega
/-- The product that both ways take modulo 65521. -/
theorem prod_cases (n o : Int) : ((modN n : Nat) : Int) * o = n.tmod 65521 * o ∧ n.tmod 65521 ≥ 0 ∨ ((modN n : Nat) : Int) * o = n.tmod 65521 * o + 65521 * o ∧ n.tmod 65521 < 0 := by
  have h := tmod_cases n
  have hm : ((modN n : Nat) : Int) = n % 65521 := by unfold modN; omega
  by_cases h0 : 0 ≤ n
  · left
    rw [if_pos h0] at h
    rw [hm, h]
    exact ⟨rfl, by omega⟩
  · rw [if_neg h0] at h
    by_cases h1 : n % 65521 = 0
    · left
      have h2 : n.tmod 65521 = 0 := by omega
      rw [hm, h2, h1]; exact ⟨rfl, by omega⟩
    · right
      have h2 : n % 65521 = n.tmod 65521 + 65521 := by omega
      rw [hm, h2, Int.add_mul]
      exact ⟨rfl, by omega⟩
theorem prod_bound (n o : Int) (h0 : 0 ≤ o) (h1 : o ≤ 255) : -16707600 ≤ n.tmod 65521 * o ∧ n.tmod 65521 * o ≤ 16707600 := by
  have h := tmod_cases n
  have hb : -65520 ≤ n.tmod 65521 ∧ n.tmod 65521 ≤ 65520 := by
    rw [h]; split <;> omega
  constructor
  · have := Int.mul_le_mul_of_nonneg_right hb.1 h0
    omega
  · have := Int.mul_le_mul_of_nonneg_right hb.2 h0
    omega

end Go.Proofs.Ytblgfhljaafmhaa.M
