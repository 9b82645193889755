/- Plain mathematics of layer 11: the merge, computed as the document computes it. No Go here. -/
import Derived.Test.YthidmgnfdikppaaMergeM
namespace Go.Proofs.Ythidmgnfdikppaa
set_option linter.unusedVariables false
open Go Go.RowKit

def M.bstep (i : Nat) (acc : Option (Nat × M.Cl × List M.Cl)) (row : List M.Cl) : Option (Nat × M.Cl × List M.Cl) := match row with
  | [] => acc
  | d :: s => match acc with
    | none => some (i, d, s)
    | some (b, c, t) => if M.aheadC d c = true then some (i, d, s) else some (b, c, t)
/-- The best of the first n rows. -/
def M.bestN (R : List (List M.Cl)) : Nat → Option (Nat × M.Cl × List M.Cl)
  | 0 => none
  | i + 1 => M.bstep i (M.bestN R i) (R.getD i [])
def M.BestO (R : List (List M.Cl)) : Option (Nat × M.Cl × List M.Cl) → Prop
  | none => ∀ (i : Nat) (d : M.Cl) (s : List M.Cl), R[i]? ≠ some (d :: s)
  | some (b, c, t) => M.Best R b c t
theorem M.bestN_spec (R : List (List M.Cl)) : ∀ n, n ≤ R.length → M.BestO (R.take n) (M.bestN R n)
  | 0, _ => by intro i d s; simp
  | n + 1, hn => by
    have ih := M.bestN_spec R n (by omega)
    have hl : (R.take n).length = n := by simp; omega
    have hg : R.getD n [] = R[n] := by simp [List.getD, show n < R.length from by omega]
    have e : R.take (n + 1) = R.take n ++ [R[n]] := by rw [List.take_succ_eq_append_getElem (by omega)]
    have low : ∀ i, i < n → (R.take n ++ [R[n]])[i]? = (R.take n)[i]? := fun i hi => List.getElem?_append_left (by omega)
    have top : (R.take n ++ [R[n]])[n]? = some R[n] := by rw [List.getElem?_append_right (by omega), hl]; simp
    have big : ∀ i, n < i → (R.take n ++ [R[n]])[i]? = none := fun i hi => by rw [List.getElem?_eq_none]; simp; omega
    have lowO : ∀ i, n ≤ i → (R.take n)[i]? = none := fun i hi => by rw [List.getElem?_eq_none]; omega
    rw [e, M.bestN, hg]
    cases hx : R[n] with
    | nil =>
      rw [hx] at low top big
      show M.BestO (R.take n ++ [[]]) (M.bestN R n)
      cases hb : M.bestN R n with
      | none =>
        rw [hb] at ih
        intro i d s hi
        rcases Nat.lt_trichotomy i n with q | q | q
        · exact ih i d s ((low i q).symm.trans hi)
        · subst q; rw [top] at hi; cases hi
        · rw [big i q] at hi; cases hi
      | some x =>
        obtain ⟨b, c, t⟩ := x
        rw [hb] at ih
        have h : M.Best (R.take n) b c t := ih
        have hbn : b < n := by
          rcases Nat.lt_or_ge b n with q | q
          · exact q
          · have := h.here; rw [lowO b q] at this; cases this
        refine (⟨(low b hbn).trans h.here, fun i d s hi => ?_, fun i d s hib hi => ?_⟩ : M.Best _ b c t)
        · rcases Nat.lt_trichotomy i n with q | q | q
          · exact h.all i d s ((low i q).symm.trans hi)
          · subst q; rw [top] at hi; cases hi
          · rw [big i q] at hi; cases hi
        · exact h.first i d s hib ((low i (by omega)).symm.trans hi)
    | cons x r =>
      rw [hx] at low top big
      cases hb : M.bestN R n with
      | none =>
        rw [hb] at ih
        refine (⟨top, fun i d s hi => ?_, fun i d s hib hi => ?_⟩ : M.Best _ n x r)
        · rcases Nat.lt_trichotomy i n with q | q | q
          · exact absurd ((low i q).symm.trans hi) (ih i d s)
          · subst q; rw [top] at hi; injection hi with hi; injection hi with e1 e2; subst e1; exact M.ahead_irr _
          · rw [big i q] at hi; cases hi
        · exact absurd ((low i hib).symm.trans hi) (ih i d s)
      | some y =>
        obtain ⟨b, c, t⟩ := y
        rw [hb] at ih
        have h : M.Best (R.take n) b c t := ih
        have hbn : b < n := by
          rcases Nat.lt_or_ge b n with q | q
          · exact q
          · have := h.here; rw [lowO b q] at this; cases this
        simp only [M.bstep]
        by_cases ha : M.aheadC x c = true
        · rw [if_pos ha]
          refine (⟨top, fun i d s hi => ?_, fun i d s hib hi => ?_⟩ : M.Best _ n x r)
          · rcases Nat.lt_trichotomy i n with q | q | q
            · cases hd : M.aheadC d x with
              | false => rfl
              | true => have := M.ahead_trans hd ha; rw [h.all i d s ((low i q).symm.trans hi)] at this; cases this
            · subst q; rw [top] at hi; injection hi with hi; injection hi with e1 e2; subst e1; exact M.ahead_irr _
            · rw [big i q] at hi; cases hi
          · exact M.ahead_mix ha (h.all i d s ((low i hib).symm.trans hi))
        · rw [if_neg ha]
          have ha : M.aheadC x c = false := by simpa using ha
          refine (⟨(low b hbn).trans h.here, fun i d s hi => ?_, fun i d s hib hi => ?_⟩ : M.Best _ b c t)
          · rcases Nat.lt_trichotomy i n with q | q | q
            · exact h.all i d s ((low i q).symm.trans hi)
            · subst q; rw [top] at hi; injection hi with hi; injection hi with e1 e2; subst e1; exact ha
            · rw [big i q] at hi; cases hi
          · exact h.first i d s hib ((low i (by omega)).symm.trans hi)
def M.mrgC : Nat → List (List M.Cl) → List M.Cl
  | 0, _ => []
  | k + 1, R => match M.bestN R R.length with
    | none => []
    | some (b, c, t) => c :: M.mrgC k (R.set b t)
theorem M.mrgC_is : ∀ (k : Nat) (R : List (List M.Cl)), (R.map List.length).sum ≤ k → M.Mrg R (M.mrgC k R)
  | 0, R, h => by
    refine .done fun i d s hi => ?_
    have := M.sum_set R i d s hi
    omega
  | k + 1, R, h => by
    have hs := M.bestN_spec R R.length (Nat.le_refl _)
    rw [List.take_length] at hs
    unfold M.mrgC
    cases hb : M.bestN R R.length with
    | none => rw [hb] at hs; exact .done hs
    | some x =>
      obtain ⟨b, c, t⟩ := x
      rw [hb] at hs
      have h1 : M.Best R b c t := hs
      have := M.sum_set R b c t h1.here
      exact .step h1 (M.mrgC_is k _ (by omega))
theorem M.mrgC_eq {k : Nat} {R : List (List M.Cl)} (h : (R.map List.length).sum ≤ k) : M.mrg R = M.mrgC k R := ((M.mrgC_is k R h).eq).symm

end Go.Proofs.Ythidmgnfdikppaa
