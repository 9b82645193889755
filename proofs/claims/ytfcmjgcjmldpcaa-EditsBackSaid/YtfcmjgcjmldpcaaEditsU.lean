/- Plain mathematics of layer 16: what Compact leaves of a sorted list. -/
import Derived.Test.YtfcmjgcjmldpcaaEditsO
namespace Go.Proofs.Ytfcmjgcjmldpcaa
set_option linter.unusedVariables false
set_option linter.unusedSimpArgs false
open Go Go.RowKit

theorem compact_sorted {zs : List Int} (hs : ∀ i j, i ≤ j → j < zs.length → zs.toArray[i]! ≤ zs.toArray[j]!) : ∀ m, m ≤ zs.length →
    (Lib.compactUpTo zs.toArray m).Pairwise (· < ·) ∧ (∀ x, x ∈ Lib.compactUpTo zs.toArray m ↔ ∃ i, i < m ∧ x = zs.toArray[i]!)
  | 0, _ => ⟨by simp [Lib.compactUpTo], fun x => by simp [Lib.compactUpTo]⟩
  | m + 1, hm => by
    obtain ⟨h1, h2⟩ := compact_sorted hs m (by omega)
    rw [Lib.compactUpTo_succ]
    cases q : Lib.keeps zs.toArray m with
    | true =>
      simp only [if_true]
      constructor
      · rw [List.pairwise_append]
        refine ⟨h1, by simp, fun a ha b hb => ?_⟩
        rw [List.mem_singleton] at hb
        subst hb
        obtain ⟨i, hi, rfl⟩ := (h2 a).1 ha
        have a1 := hs i (m - 1) (by omega) (by omega)
        have a2 := hs (m - 1) m (by omega) (by omega)
        have a3 : zs.toArray[m]! ≠ zs.toArray[m - 1]! := by
          unfold Lib.keeps at q
          simp at q
          rcases q with q | q
          · omega
          · simpa using q
        omega
      · intro x
        rw [List.mem_append, List.mem_singleton, h2]
        constructor
        · rintro (⟨i, hi, e⟩ | e)
          · exact ⟨i, by omega, e⟩
          · exact ⟨m, by omega, e⟩
        · rintro ⟨i, hi, e⟩
          by_cases k : i = m
          · subst k; exact .inr e
          · exact .inl ⟨i, by omega, e⟩
    | false =>
      simp only [Bool.false_eq_true, if_false, List.append_nil]
      refine ⟨h1, fun x => ?_⟩
      rw [h2]
      constructor
      · rintro ⟨i, hi, e⟩
        exact ⟨i, by omega, e⟩
      · rintro ⟨i, hi, e⟩
        by_cases k : i = m
        · subst k
          unfold Lib.keeps at q
          simp at q
          refine ⟨i - 1, by omega, ?_⟩
          rw [e]
          simpa using q.2
        · exact ⟨i, by omega, e⟩
/-- Two strictly rising lists of the same members are the same. -/
theorem strict_eq : ∀ {a b : List Int}, a.Pairwise (· < ·) → b.Pairwise (· < ·) → (∀ x, x ∈ a ↔ x ∈ b) → a = b
  | [], [], _, _, _ => rfl
  | [], y :: b, _, _, h => absurd ((h y).2 (by simp)) (by simp)
  | x :: a, [], _, _, h => absurd ((h x).1 (by simp)) (by simp)
  | x :: a, y :: b, ha, hb, h => by
    rw [List.pairwise_cons] at ha hb
    have hxy : x = y := by
      have h1 := (h x).1 (by simp)
      have h2 := (h y).2 (by simp)
      rcases List.mem_cons.1 h1 with e | e
      · exact e
      · rcases List.mem_cons.1 h2 with e' | e'
        · exact e'.symm
        · have := hb.1 x e
          have := ha.1 y e'
          omega
    subst hxy
    rw [strict_eq ha.2 hb.2 (fun z => ⟨fun hz => by
      rcases List.mem_cons.1 ((h z).1 (List.mem_cons_of_mem _ hz)) with e | e
      · have := ha.1 z hz; omega
      · exact e, fun hz => by
      rcases List.mem_cons.1 ((h z).2 (List.mem_cons_of_mem _ hz)) with e | e
      · have := hb.1 z hz; omega
      · exact e⟩)]
theorem Ed.put_mem (n x : Int) : ∀ l : List Int, x ∈ Ed.put n l ↔ x = n ∨ x ∈ l
  | [] => by simp [Ed.put]
  | y :: t => by
    unfold Ed.put
    split
    · simp
    · split
      · rename_i h; subst h; simp
      · rw [List.mem_cons, Ed.put_mem n x t, List.mem_cons]
        constructor
        · rintro (h | h | h)
          · exact .inr (.inl h)
          · exact .inl h
          · exact .inr (.inr h)
        · rintro (h | h | h)
          · exact .inr (.inl h)
          · exact .inl h
          · exact .inr (.inr h)
theorem Ed.put_strict (n : Int) : ∀ {l : List Int}, l.Pairwise (· < ·) → (Ed.put n l).Pairwise (· < ·)
  | [], _ => by simp [Ed.put]
  | y :: t, h => by
    unfold Ed.put
    have h' := h
    rw [List.pairwise_cons] at h
    split
    · rename_i hl
      rw [List.pairwise_cons]
      refine ⟨fun z hz => ?_, h'⟩
      rcases List.mem_cons.1 hz with rfl | hz
      · exact hl
      · have := h.1 z hz; omega
    · split
      · exact h'
      · rename_i h1 h2
        rw [List.pairwise_cons]
        refine ⟨fun z hz => ?_, Ed.put_strict n h.2⟩
        rcases (Ed.put_mem n z t).1 hz with rfl | hz
        · omega
        · exact h.1 z hz
theorem Ed.fold_spec : ∀ (l a : List Int), a.Pairwise (· < ·) → (l.foldl (fun a n => Ed.put n a) a).Pairwise (· < ·) ∧ ∀ x, x ∈ l.foldl (fun a n => Ed.put n a) a ↔ x ∈ l ∨ x ∈ a
  | [], a, h => ⟨h, by simp⟩
  | n :: l, a, h => by
    obtain ⟨h1, h2⟩ := Ed.fold_spec l (Ed.put n a) (Ed.put_strict n h)
    refine ⟨h1, fun x => ?_⟩
    show x ∈ l.foldl (fun a n => Ed.put n a) (Ed.put n a) ↔ _
    rw [h2, Ed.put_mem, List.mem_cons]
    constructor
    · rintro (h | h | h)
      · exact .inl (.inr h)
      · exact .inl (.inl h)
      · exact .inr h
    · rintro ((h | h) | h)
      · exact .inr (.inl h)
      · exact .inl h
      · exact .inr (.inr h)
theorem Ed.uni_spec (l : List Int) : (Ed.uni l).Pairwise (· < ·) ∧ ∀ x, x ∈ Ed.uni l ↔ x ∈ l := by
  obtain ⟨h1, h2⟩ := Ed.fold_spec l [] List.Pairwise.nil
  exact ⟨h1, fun x => by unfold Ed.uni; rw [h2]; simp⟩
theorem arr_at (zs : List Int) (i : Nat) (h : i < zs.length) : zs.toArray[i]! = zs[i] := by simp [h]
/-- What union leaves is what the document's puts leave. -/
theorem compact_uni (l : List Int) : Lib.compact (sortI l) = Ed.uni l := by
  have hp : (sortI l).Pairwise (fun a b => decide (a ≤ b) = true) := List.pairwise_mergeSort (fun a b c => by simp; omega) (fun a b => by simp; omega) l
  have hs : ∀ i j, i ≤ j → j < (sortI l).length → (sortI l).toArray[i]! ≤ (sortI l).toArray[j]! := fun i j hij hj => by
    rcases Nat.lt_or_ge i j with q | q
    · have := List.pairwise_iff_getElem.1 hp i j (by omega) hj q
      rw [arr_at _ i (by omega), arr_at _ j hj]
      simpa using this
    · obtain rfl : i = j := by omega
      exact Int.le_refl _
  obtain ⟨h1, h2⟩ := compact_sorted hs (sortI l).length (Nat.le_refl _)
  obtain ⟨u1, u2⟩ := Ed.uni_spec l
  refine strict_eq h1 u1 (fun x => ?_)
  rw [u2]
  show x ∈ Lib.compactUpTo (sortI l).toArray (sortI l).length ↔ _
  rw [h2, ← List.mem_mergeSort (le := fun x y : Int => decide (x ≤ y))]
  constructor
  · rintro ⟨i, hi, rfl⟩
    rw [arr_at _ i hi]
    exact List.getElem_mem _
  · intro hx
    obtain ⟨i, hi, e⟩ := List.getElem_of_mem hx
    refine ⟨i, hi, ?_⟩
    rw [← e]
    exact (arr_at _ i hi).symm

end Go.Proofs.Ytfcmjgcjmldpcaa
