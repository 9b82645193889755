/- Plain mathematics of layer 9: the order of sorted cells, each with each. No Go here. -/
import Derived.Test.YtppkecilbkgbdaaBlocksV
namespace Go.Proofs.Ytppkecilbkgbdaa
set_option linter.unusedVariables false
open Go Go.RowKit

theorem M.less_irr : ∀ (a : List UInt8), Op.bytesLess a a = false
  | [] => rfl
  | x :: a => by simp [Op.bytesLess, M.less_irr a, UInt8.lt_irrefl]
theorem M.less_trans : ∀ (a b c : List UInt8), Op.bytesLess a b = true → Op.bytesLess b c = true → Op.bytesLess a c = true
  | _, [], _, h, _ => by cases ‹List UInt8› <;> simp [Op.bytesLess] at h
  | _, _ :: _, [], _, h => by simp [Op.bytesLess] at h
  | [], _ :: _, _ :: _, _, _ => rfl
  | x :: a, y :: b, z :: c, h, k => by
    simp only [Op.bytesLess, Bool.or_eq_true, Bool.and_eq_true, decide_eq_true_eq, beq_iff_eq] at *
    rcases h with h | ⟨rfl, h⟩
    · rcases k with k | ⟨rfl, k⟩
      · exact Or.inl (UInt8.lt_trans h k)
      · exact Or.inl h
    · rcases k with k | ⟨rfl, k⟩
      · exact Or.inl k
      · exact Or.inr ⟨rfl, M.less_trans a b c h k⟩
theorem M.ahead_iff {a b : M.Cl} : M.aheadC a b = true ↔ Op.bytesLess a.key b.key = true ∨ (a.key = b.key ∧ b.seq < a.seq) := by
  simp [M.aheadC]
theorem M.ahead_irr (a : M.Cl) : M.aheadC a a = false := by
  cases h : M.aheadC a a with
  | false => rfl
  | true =>
    rcases M.ahead_iff.1 h with h | ⟨_, h⟩
    · rw [M.less_irr] at h; cases h
    · omega
theorem M.ahead_trans {a b c : M.Cl} (h : M.aheadC a b = true) (k : M.aheadC b c = true) : M.aheadC a c = true := by
  rw [M.ahead_iff] at *
  rcases h with h | ⟨h, h'⟩
  · rcases k with k | ⟨k, k'⟩
    · exact Or.inl (M.less_trans _ _ _ h k)
    · exact Or.inl (by rw [← k]; exact h)
  · rcases k with k | ⟨k, k'⟩
    · exact Or.inl (by rw [h]; exact k)
    · exact Or.inr ⟨h.trans k, by omega⟩
theorem M.ahead_asymm {a b : M.Cl} (h : M.aheadC a b = true) : M.aheadC b a = false := by
  cases k : M.aheadC b a with
  | false => rfl
  | true => have := M.ahead_trans h k; rw [M.ahead_irr] at this; cases this
theorem M.srt_all {L : List M.Cl} : ∀ {p : M.Cl}, M.srt (some p) L = true → ∀ c ∈ L, M.aheadC p c = true := by
  induction L with
  | nil => intro p h c hc; simp at hc
  | cons x L ih =>
    intro p h c hc
    simp only [M.srt, M.nextB, Bool.and_eq_true] at h
    rcases List.mem_cons.1 hc with rfl | hc
    · exact h.1.2
    · exact M.ahead_trans h.1.2 (ih h.2 c hc)
theorem M.getD_memC {L : List M.Cl} {j : Nat} (h : j < L.length) : L.getD j M.cl0 ∈ L := by
  have e : L.getD j M.cl0 = L[j] := by simp [List.getD, List.getElem?_eq_getElem h]
  rw [e]; exact List.getElem_mem _
theorem M.srt_pair {L : List M.Cl} : ∀ {p : Option M.Cl}, M.srt p L = true → ∀ i j, i < j → j < L.length → M.aheadC (L.getD i M.cl0) (L.getD j M.cl0) = true := by
  induction L with
  | nil => intro p h i j hi hj; simp at hj
  | cons x L ih =>
    intro p h i j hi hj
    simp only [M.srt, Bool.and_eq_true] at h
    cases j with
    | zero => omega
    | succ j =>
      simp only [List.length_cons] at hj
      cases i with
      | zero => exact M.srt_all h.2 _ (by rw [List.getD_cons_succ]; exact M.getD_memC (by omega))
      | succ i => simpa using ih h.2 i j (by omega) (by omega)
theorem M.findL_cons (k : List UInt8) (c : M.Cl) (L : List M.Cl) : M.findL k (c :: L) = if c.key = k then some c else M.findL k L := by
  unfold M.findL
  rw [List.find?_cons]
  by_cases h : c.key = k <;> simp [h]
/-- What is found at the key of a cell of sorted ones: that cell, or one of a greater number. -/
theorem M.findL_at {L : List M.Cl} : ∀ {p : Option M.Cl} {i : Nat}, M.srt p L = true → i < L.length → ∃ d, M.findL (L.getD i M.cl0).key L = some d ∧ d.key = (L.getD i M.cl0).key ∧ (d = L.getD i M.cl0 ∨ (L.getD i M.cl0).seq < d.seq) := by
  induction L with
  | nil => intro p i h hi; simp at hi
  | cons x L ih =>
    intro p i h hi
    simp only [M.srt, Bool.and_eq_true] at h
    simp only [List.length_cons] at hi
    cases i with
    | zero => exact ⟨x, by rw [M.findL_cons]; simp, by simp, Or.inl (by simp)⟩
    | succ i =>
      simp only [List.getD_cons_succ]
      rw [M.findL_cons]
      by_cases e : x.key = (L.getD i M.cl0).key
      · have ha := M.srt_all h.2 _ (M.getD_memC (show i < L.length by omega))
        refine ⟨x, by rw [if_pos e], e, Or.inr ?_⟩
        rcases M.ahead_iff.1 ha with q | ⟨_, q⟩
        · rw [e, M.less_irr] at q; cases q
        · exact q
      · rw [if_neg e]
        exact ih h.2 (by omega)
theorem M.findL_is (k : List UInt8) (L : List M.Cl) : (M.findL k L).isSome = L.any (fun c => c.key == k) := by
  induction L with
  | nil => rfl
  | cons x L ih =>
    rw [M.findL_cons, List.any_cons]
    by_cases h : x.key = k
    · simp [h]
    · have : (x.key == k) = false := by simpa using h
      rw [if_neg h, ih, this, Bool.false_or]
theorem M.any_take (k : List UInt8) (L : List M.Cl) {i : Nat} (hi : i < L.length) : (L.take (i + 1)).any (fun c => c.key == k) = ((L.take i).any (fun c => c.key == k) || ((L.getD i M.cl0).key == k)) := by
  rw [takeC_snoc hi, List.any_append]; simp

end Go.Proofs.Ytppkecilbkgbdaa
