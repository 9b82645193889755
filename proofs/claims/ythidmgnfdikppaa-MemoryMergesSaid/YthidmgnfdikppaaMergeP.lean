/- Plain mathematics of layer 11: what comes is what the rows have, in order. No Go here. -/
import Derived.Test.YthidmgnfdikppaaMergesCt
namespace Go.Proofs.Ythidmgnfdikppaa
set_option linter.unusedVariables false
open Go Go.RowKit

def M.cntR (c : M.Cl) (R : List (List M.Cl)) : Nat := (R.map (M.cnt c)).sum
theorem M.cnt_cons (c d : M.Cl) (L : List M.Cl) : M.cnt c (d :: L) = (if M.eqC d c = true then 1 else 0) + M.cnt c L := by
  unfold M.cnt
  by_cases e : M.eqC d c = true
  · rw [if_pos e, List.filter_cons_of_pos (p := fun x => M.eqC x c) e, List.length_cons]; omega
  · rw [if_neg e, List.filter_cons_of_neg (p := fun x => M.eqC x c) e]; omega
theorem M.cntR_set (c : M.Cl) : ∀ (R : List (List M.Cl)) (b : Nat) (d : M.Cl) (t : List M.Cl), R[b]? = some (d :: t) → M.cntR c R = (if M.eqC d c = true then 1 else 0) + M.cntR c (R.set b t)
  | [], b, d, t, h => by simp at h
  | x :: R, 0, d, t, h => by
    simp at h; subst h
    simp only [M.cntR, List.map_cons, List.sum_cons, List.set_cons_zero, M.cnt_cons]
    omega
  | x :: R, b + 1, d, t, h => by
    have := M.cntR_set c R b d t (by simpa using h)
    simp only [M.cntR, List.map_cons, List.sum_cons, List.set_cons_succ] at *
    omega
theorem M.cntR_nil (c : M.Cl) : ∀ (R : List (List M.Cl)), (∀ (i : Nat) (d : M.Cl) (s : List M.Cl), R[i]? ≠ some (d :: s)) → M.cntR c R = 0
  | [], _ => rfl
  | x :: R, h => by
    have hx : x = [] := by
      cases x with
      | nil => rfl
      | cons d s => exact absurd (by simp) (h 0 d s)
    have := M.cntR_nil c R (fun i d s hi => h (i + 1) d s (by simpa using hi))
    simp only [M.cntR, List.map_cons, List.sum_cons] at *
    rw [this, hx]; rfl
theorem M.Mrg.cnt {R : List (List M.Cl)} {L : List M.Cl} (h : M.Mrg R L) (c : M.Cl) : M.cnt c L = M.cntR c R := by
  induction h with
  | done h => rw [M.cntR_nil c _ h]; rfl
  | step h _ ih => rw [M.cnt_cons, M.cntR_set c _ _ _ _ h.here, ih]
theorem M.Mrg.mem {R : List (List M.Cl)} {L : List M.Cl} (h : M.Mrg R L) : ∀ x, x ∈ L → ∃ (b : Nat) (l : List M.Cl), R[b]? = some l ∧ x ∈ l := by
  induction h with
  | done _ => simp
  | @step R b c t L h k ih =>
    intro x hx
    rcases List.mem_cons.1 hx with rfl | hx
    · exact ⟨b, _, h.here, by simp⟩
    · obtain ⟨b', l, h1, h2⟩ := ih x hx
      by_cases e : b = b'
      · subst e
        have hb : b < R.length := (List.getElem?_eq_some_iff.1 h.here).1
        rw [List.getElem?_set_self hb] at h1
        injection h1 with h1
        subst h1
        exact ⟨b, _, h.here, by simp [h2]⟩
      · rw [List.getElem?_set_ne e] at h1
        exact ⟨b', l, h1, h2⟩
/-- All rows are in order. -/
def M.PW (R : List (List M.Cl)) : Prop := ∀ (b : Nat) (l : List M.Cl), R[b]? = some l → l.Pairwise (fun x y => M.aheadC x y = true)
theorem M.srt_pw {L : List M.Cl} (h : M.srt none L = true) : L.Pairwise (fun x y => M.aheadC x y = true) := by
  rw [List.pairwise_iff_getElem]
  intro i j hi hj hij
  have := M.srt_pair h i j hij hj
  simpa [List.getD, hi, hj] using this
theorem M.Mrg.asc {R : List (List M.Cl)} {L : List M.Cl} (h : M.Mrg R L) (hp : M.PW R) : L.Pairwise (fun x y => M.aheadC y x = false) := by
  induction h with
  | done _ => exact List.Pairwise.nil
  | @step R b c t L h k ih =>
    have hb : b < R.length := (List.getElem?_eq_some_iff.1 h.here).1
    have hct := hp b _ h.here
    rw [List.pairwise_cons] at hct
    refine List.pairwise_cons.2 ⟨fun x hx => ?_, ih (fun b' l hl => ?_)⟩
    · obtain ⟨b', l, h1, h2⟩ := k.mem x hx
      by_cases e : b = b'
      · subst e
        rw [List.getElem?_set_self hb] at h1
        injection h1 with h1
        subst h1
        exact M.ahead_asymm (hct.1 x h2)
      · rw [List.getElem?_set_ne e] at h1
        cases l with
        | nil => cases h2
        | cons d s =>
          have hd := h.all b' d s h1
          rcases List.mem_cons.1 h2 with rfl | h2
          · exact hd
          · have := hp b' _ h1
            rw [List.pairwise_cons] at this
            cases q : M.aheadC x c with
            | false => rfl
            | true => rw [M.ahead_trans (this.1 x h2) q] at hd; cases hd
    · by_cases e : b = b'
      · subst e
        rw [List.getElem?_set_self hb] at hl
        injection hl with hl
        subst hl
        exact hct.2
      · rw [List.getElem?_set_ne e] at hl
        exact hp b' l hl
theorem M.mayR_pw {Rs : List M.Rw} (h : M.mayR Rs = true) : M.PW (M.rls Rs) := fun b l hl => by
  unfold M.rls at hl
  rw [List.getElem?_map] at hl
  cases hq : Rs[b]? with
  | none => rw [hq] at hl; cases hl
  | some r =>
    rw [hq] at hl
    injection hl with hl
    subst hl
    unfold M.mayR at h
    rw [List.all_eq_true] at h
    exact M.srt_pw (h r (List.mem_of_getElem? hq))
theorem M.cntR_snoc (c : M.Cl) {Rs : List M.Rw} {j : Nat} (h : j < Rs.length) : M.cntR c (M.rls (Rs.take (j + 1))) = M.cntR c (M.rls (Rs.take j)) + M.cnt c (Rs.getD j M.rw0).l := by
  rw [M.rls_snoc h]; simp [M.cntR]
theorem M.sumR_snoc {Rs : List M.Rw} {j : Nat} (h : j < Rs.length) : ((M.rls (Rs.take (j + 1))).map List.length).sum = ((M.rls (Rs.take j)).map List.length).sum + (Rs.getD j M.rw0).l.length := by
  rw [M.rls_snoc h]; simp
theorem M.cntR_le (c : M.Cl) : ∀ (R : List (List M.Cl)), M.cntR c R ≤ (R.map List.length).sum
  | [] => Nat.le_refl _
  | x :: R => by
    have h1 := M.cntR_le c R
    have h2 := M.cnt_le c x
    simp only [M.cntR, List.map_cons, List.sum_cons] at *
    omega
theorem M.sumR_take {Rs : List M.Rw} (j : Nat) : ((M.rls (Rs.take j)).map List.length).sum ≤ ((M.rls Rs).map List.length).sum := by
  have e : Rs = Rs.take j ++ Rs.drop j := (List.take_append_drop j Rs).symm
  have : ((M.rls Rs).map List.length).sum = ((M.rls (Rs.take j)).map List.length).sum + ((M.rls (Rs.drop j)).map List.length).sum := by
    rw [← List.sum_append, ← List.map_append]
    unfold M.rls
    rw [← List.map_append, List.take_append_drop]
  omega

end Go.Proofs.Ythidmgnfdikppaa
