/- Plain mathematics of layer 13: cursors, their bytes, what is saved and loaded. -/
import Derived.Test.YtekmnpmeienhhaaFilesM
import Derived.Test.YtekmnpmeienhhaaSpansM
namespace Go.Proofs.Ytekmnpmeienhhaa
set_option linter.unusedVariables false
open Go Go.RowKit

namespace Cu
structure C where
  next : Int
  gap : Int
def c0 : C := ⟨0, 0⟩
def may (c : C) : Bool := M.win c.next 0 2147483647 && M.win c.gap 0 2147483647
def enc (c : C) : List UInt8 := 67 :: (M.putN c.next.toNat ++ M.putN c.gap.toNat)
def encR (c : C) : Int × List UInt8 := if may c then (0, enc c) else (2, [])
def dec (s : List UInt8) : Option C :=
  match M.gets s 1 with
  | none => none
  | some (n, k) =>
    match M.gets s k with
    | none => none
    | some (g, e) => if e = s.length ∧ s.head? = some 67 ∧ may ⟨n, g⟩ = true then some ⟨n, g⟩ else none
abbrev nC : List UInt8 := [99, 117, 114, 115, 111, 114]
abbrev nD : List UInt8 := [99, 117, 114, 115, 111, 114, 43]
def save (c : C) (D : Dk.St) : Int × Dk.St := if D.up = false then (51, D) else if may c = false then (2, D) else Dk.renew nD nC (enc c) D
def load (D : Dk.St) : Int × C :=
  if D.up = false then (51, c0) else if Dk.has nC D.L = false then (0, c0) else
  match dec (Dk.get nC D.L).dat with
  | none => (60, c0)
  | some c => (0, c)
theorem may_iff {c : C} : may c = true ↔ (0 ≤ c.next ∧ c.next ≤ 2147483647) ∧ (0 ≤ c.gap ∧ c.gap ≤ 2147483647) := by
  unfold may
  rw [Bool.and_eq_true, M.win_true, M.win_true]
theorem putN_len5 {n : Nat} (h : n ≤ 2147483647) : (M.putN n).length ≤ 5 := by
  have h1 := M.putN_len_mono n 2147483647 h
  have h2 : (M.putN 2147483647).length = 5 := by decide +kernel
  omega
theorem enc_len {c : C} (h : may c = true) : (enc c).length ≤ 11 := by
  obtain ⟨⟨h1, h2⟩, h3, h4⟩ := may_iff.1 h
  have k1 := putN_len5 (n := c.next.toNat) (by omega)
  have k2 := putN_len5 (n := c.gap.toNat) (by omega)
  unfold enc
  rw [List.length_cons, List.length_append]
  omega
theorem dec_enc {c : C} (h : may c = true) : dec (enc c) = some c := by
  obtain ⟨⟨h1, h2⟩, h3, h4⟩ := may_iff.1 h
  have k1 := M.gets_put [67] (M.putN c.gap.toNat) c.next.toNat (by omega)
  have k2 := M.gets_put (67 :: M.putN c.next.toNat) [] c.gap.toNat (by omega)
  simp only [List.append_nil, List.cons_append, List.nil_append, List.length_cons, List.length_nil, Nat.zero_add] at k1 k2
  have e1 : M.gets (enc c) 1 = some (c.next.toNat, 1 + (M.putN c.next.toNat).length) := by unfold enc; exact k1
  have e2 : M.gets (enc c) ((1 + (M.putN c.next.toNat).length : Nat) : Int) = some (c.gap.toNat, (M.putN c.next.toNat).length + 1 + (M.putN c.gap.toNat).length) := by
    unfold enc
    rw [Nat.add_comm 1]
    exact k2
  have ec : (⟨(c.next.toNat : Int), (c.gap.toNat : Int)⟩ : C) = c := by cases c; simp only [C.mk.injEq] at *; omega
  unfold dec
  rw [e1]
  simp only [e2]
  rw [if_pos]
  · rw [ec]
  · refine ⟨?_, rfl, ?_⟩
    · unfold enc; rw [List.length_cons, List.length_append]; omega
    · rw [ec]; exact h
theorem dec_some {s : List UInt8} {c : C} (h : dec s = some c) : may c = true ∧ enc c = s := by
  unfold dec at h
  cases h1 : M.gets s 1 with
  | none => rw [h1] at h; cases h
  | some p =>
    obtain ⟨n, k⟩ := p
    rw [h1] at h
    simp only at h
    cases h2 : M.gets s (k : Int) with
    | none => rw [h2] at h; cases h
    | some q =>
      obtain ⟨g, e⟩ := q
      rw [h2] at h
      simp only at h
      split at h
      · rename_i hc
        obtain ⟨c1, c2, c3⟩ := hc
        cases h
        refine ⟨c3, ?_⟩
        obtain ⟨a1, a2, a3, a4, a5, a6⟩ := M.gets_bounds h1
        obtain ⟨b1, b2, b3, b4, b5, b6⟩ := M.gets_bounds h2
        unfold enc
        simp only [Int.toNat_natCast]
        rw [a6, b6, c1]
        simp only [Int.toNat_natCast, Int.toNat_one] at *
        cases s with
        | nil => simp at c2
        | cons x r =>
          simp only [List.head?_cons, Option.some.injEq] at c2
          subst c2
          simp only [List.length_cons] at *
          obtain ⟨k', rfl⟩ : ∃ k', k = k' + 1 := ⟨k - 1, by omega⟩
          simp only [List.drop_succ_cons, List.drop_zero]
          rw [List.take_of_length_le (l := r.drop k') (by rw [List.length_drop]; omega), Nat.add_sub_cancel, List.take_append_drop]
      · cases h
end Cu

end Go.Proofs.Ytekmnpmeienhhaa
