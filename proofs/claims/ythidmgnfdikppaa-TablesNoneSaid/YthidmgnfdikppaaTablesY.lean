/- Plain mathematics of layer 10: ranges side by side. No Go here. -/
import Derived.Test.YthidmgnfdikppaaTablesP
namespace Go.Proofs.Ythidmgnfdikppaa
set_option linter.unusedVariables false
open Go Go.RowKit

theorem M.split_key {L : List M.Cl} (hs : M.srt none L = true) (b : List UInt8) : ∀ n, n ≤ L.length → ∃ m, m ≤ n ∧ (∀ k, k < m → Op.bytesLess (L.getD k M.cl0).key b = true) ∧ (∀ k, m ≤ k → k < n → Op.bytesLess (L.getD k M.cl0).key b = false)
  | 0, _ => ⟨0, Nat.le_refl _, fun k hk => by omega, fun k h1 h2 => by omega⟩
  | n + 1, hn => by
    obtain ⟨m, hm, h1, h2⟩ := M.split_key hs b n (by omega)
    rcases Nat.lt_or_ge m n with q | q
    · refine ⟨m, by omega, h1, fun k k1 k2 => ?_⟩
      rcases Nat.lt_or_ge k n with r | r
      · exact h2 k k1 r
      · have e1 := h2 m (Nat.le_refl _) q
        have e2 := M.key_mono hs (show m ≤ k by omega) (by omega)
        cases e : Op.bytesLess (L.getD k M.cl0).key b with
        | false => rfl
        | true => rw [M.le_less e2 e] at e1; cases e1
    · obtain rfl : m = n := by omega
      cases e : Op.bytesLess (L.getD m M.cl0).key b with
      | true => exact ⟨m + 1, Nat.le_refl _, fun k hk => by
          by_cases c : k = m
          · subst c; exact e
          · exact h1 k (by omega), fun k k1 k2 => by omega⟩
      | false => exact ⟨m, by omega, h1, fun k k1 k2 => by obtain rfl : k = m := by omega
                                                           exact e⟩
theorem M.filter_two {L : List M.Cl} {p q r : M.Cl → Bool} {m : Nat} (hm : m ≤ L.length) (h1 : ∀ k, k < m → p (L.getD k M.cl0) = r (L.getD k M.cl0) ∧ q (L.getD k M.cl0) = false) (h2 : ∀ k, m ≤ k → k < L.length → p (L.getD k M.cl0) = false ∧ q (L.getD k M.cl0) = r (L.getD k M.cl0)) : L.filter p ++ L.filter q = L.filter r := by
  have hg : ∀ k (hk : k < L.length), L.getD k M.cl0 = L[k] := fun k hk => by simp [List.getD, hk]
  have e : L = L.take m ++ L.drop m := (List.take_append_drop m L).symm
  have a1 : (L.take m).filter p = (L.take m).filter r := List.filter_congr fun x hx => by
    obtain ⟨k, hk, rfl⟩ := List.getElem_of_mem hx
    rw [List.length_take] at hk
    have := (h1 k (by omega)).1
    rwa [hg k (by omega), ← List.getElem_take (j := m) (h := by rw [List.length_take]; omega)] at this
  have a2 : (L.take m).filter q = [] := by
    rw [List.filter_eq_nil_iff]
    intro x hx
    obtain ⟨k, hk, rfl⟩ := List.getElem_of_mem hx
    rw [List.length_take] at hk
    have := (h1 k (by omega)).2
    rw [hg k (by omega)] at this
    rw [List.getElem_take, this]; decide
  have a3 : (L.drop m).filter p = [] := by
    rw [List.filter_eq_nil_iff]
    intro x hx
    obtain ⟨k, hk, rfl⟩ := List.getElem_of_mem hx
    rw [List.length_drop] at hk
    have := (h2 (m + k) (by omega) (by omega)).1
    rw [hg (m + k) (by omega)] at this
    rw [List.getElem_drop, this]; decide
  have a4 : (L.drop m).filter q = (L.drop m).filter r := List.filter_congr fun x hx => by
    obtain ⟨k, hk, rfl⟩ := List.getElem_of_mem hx
    rw [List.length_drop] at hk
    have := (h2 (m + k) (by omega) (by omega)).2
    rwa [hg (m + k) (by omega), ← List.getElem_drop (h := by rw [List.length_drop]; omega)] at this
  have b1 : L.filter p = (L.take m).filter r := by conv => lhs; rw [e, List.filter_append, a1, a3, List.append_nil]
  have b2 : L.filter q = (L.drop m).filter r := by conv => lhs; rw [e, List.filter_append, a2, a4, List.nil_append]
  rw [b1, b2]
  conv => rhs; rw [e, List.filter_append]
def M.leB (a b : List UInt8) : Bool := Op.bytesLess a b || (a == b)
theorem M.leB_not {a b : List UInt8} (h : M.leB a b = true) : Op.bytesLess b a = false := by
  unfold M.leB at h
  rw [Bool.or_eq_true, beq_iff_eq] at h
  rcases h with h | h
  · exact M.less_asym h
  · subst h; exact M.less_irr _
theorem M.range_two {L : List M.Cl} (hs : M.srt none L = true) {a b c : List UInt8} (h1 : M.leB a b = true) (h2 : M.leB b c = true) (hb : b.isEmpty = false) (hc : c.isEmpty = false) : M.rangeL a b L ++ M.rangeL b c L = M.rangeL a c L := by
  obtain ⟨m, hm, q1, q2⟩ := M.split_key hs b L.length (Nat.le_refl _)
  have n1 := M.leB_not h1
  have n2 := M.leB_not h2
  refine M.filter_two hm (fun k hk => ?_) (fun k k1 k2 => ?_)
  · have e1 := q1 k hk
    have e2 := M.less_le e1 n2
    unfold M.inR
    rw [hb, hc, e1, e2]; simp
  · have e1 := q2 k k1 k2
    have e2 : Op.bytesLess (L.getD k M.cl0).key a = false := by
      cases e : Op.bytesLess (L.getD k M.cl0).key a with
      | false => rfl
      | true => rw [M.less_le e n1] at e1; cases e1
    unfold M.inR
    rw [hb, hc, e1, e2]; simp
theorem M.range_whole {L : List M.Cl} (hs : M.srt none L = true) {b : List UInt8} (hb : b.isEmpty = false) : M.rangeL [] b L ++ M.rangeL b [] L = L := by
  obtain ⟨m, hm, q1, q2⟩ := M.split_key hs b L.length (Nat.le_refl _)
  have : M.rangeL [] b L ++ M.rangeL b [] L = L.filter (fun _ => true) := by
    refine M.filter_two hm (fun k hk => ?_) (fun k k1 k2 => ?_)
    · have e1 := q1 k hk
      unfold M.inR
      rw [hb, e1, M.less_nil0]; simp
    · have e1 := q2 k k1 k2
      unfold M.inR
      rw [hb, e1]; simp
  rw [this]
  exact List.filter_eq_self.2 fun _ _ => rfl
theorem M.range_key (L : List M.Cl) (a : List UInt8) : M.rangeL a (a ++ [0]) L = L.filter (fun c => decide (c.key = a)) := by
  unfold M.rangeL
  refine List.filter_congr fun c _ => ?_
  have hne : (a ++ [(0 : UInt8)]).isEmpty = false := by cases a <;> rfl
  unfold M.inR
  rw [M.less_snoc0, hne, Bool.false_or]
  by_cases e : c.key = a
  · rw [e, M.less_irr]; simp
  · have := M.less_flip _ _ e
    rw [this]
    cases Op.bytesLess c.key a <;> simp [e]
theorem M.find_key (L : List M.Cl) (a : List UInt8) : M.findL a L = (M.rangeL a (a ++ [0]) L).head? := by
  rw [M.range_key, M.findL, List.head?_filter]
theorem M.head_key {L K : List M.Cl} {a : List UInt8} {c : M.Cl} (h : M.rangeL a (a ++ [0]) L = c :: K) : c.key = a := by
  rw [M.range_key] at h
  have : c ∈ L.filter (fun c => decide (c.key = a)) := by rw [h]; exact List.mem_cons_self ..
  simpa using (List.mem_filter.1 this).2

end Go.Proofs.Ythidmgnfdikppaa
