/- Plain mathematics of RowsOnce: pieces of a row no two of which are of one trace and ID. -/
import Derived.Test.YtjlddackpckmfaaZF
namespace Go.Proofs.Ytjlddackpckmfaa.M
set_option linter.unusedVariables false

def goodB (n : Int) (x : Sp) : Bool := mayB x && !pastB x.start n
def goodL (n : Int) (L : List Sp) : List Sp := L.filter (goodB n)
def apartL (L : List Sp) : Prop := L.Pairwise fun x y => same x y = false
theorem same_refl (x : Sp) : same x x = true := by simp [same]
theorem shelf_T {T : List Sp} {n : Int} (hT : ∀ y ∈ T, y.fits ∧ goodB n y = true) {x : Sp} (hm : mayB x = true) :
    (match getL (T.flatMap cls2) (keyB x) with
      | none => true
      | some c => dropB c n) = !(T.any fun y => same y x) := by
  cases h : getL (T.flatMap cls2) (keyB x) with
  | none =>
    symm
    show (!(T.any fun y => same y x)) = true
    rw [Bool.not_eq_true', List.any_eq_false]
    intro y hy hs
    rw [getL, List.find?_eq_none] at h
    have hmy : mayB y = true := by have := (hT y hy).2; simp only [goodB, Bool.and_eq_true] at this; exact this.1
    refine h (cell1 y) ?_ ?_
    · rw [List.mem_reverse, List.mem_flatMap]; exact ⟨y, hy, by simp [cls2]⟩
    · have := (keyB_inj hmy hm).2 hs
      simp [cell1, this]
  | some c =>
    have hc := getL_some h
    obtain ⟨z, hz, hcz⟩ := List.mem_flatMap.1 hc.1
    obtain ⟨hf, hgz⟩ := hT z hz
    simp only [goodB, Bool.and_eq_true, Bool.not_eq_true'] at hgz
    rcases (by simpa [cls2] using hcz : c = cell1 z ∨ c = cell2 z) with rfl | rfl
    · show dropB (cell1 z) n = _
      rw [dropB_cell1 hf hgz.1, hgz.2]
      symm
      rw [Bool.not_eq_false', List.any_eq_true]
      exact ⟨z, hz, (keyB_inj hgz.1 hm).1 hc.2⟩
    · exact absurd hc.2.symm (key_idx hm hgz.1)
theorem tk_fresh {T : List Sp} {n : Int} (hT : ∀ y ∈ T, y.fits ∧ goodB n y = true) {P : List Sp} (hP : apartL P) :
    tk (getL (T.flatMap cls2)) n P = P.filter fun x => goodB n x && !(T.any fun y => same y x) := by
  induction P using snocI with
  | h0 => rfl
  | h1 P x ih =>
    have hp := List.pairwise_append.1 hP
    rw [tk_snoc, ih hp.1, tkS, List.filter_append]
    have hok : okT (getL (T.flatMap cls2)) n (P.filter fun x => goodB n x && !(T.any fun y => same y x)) x = (goodB n x && !(T.any fun y => same y x)) := by
      cases hm : mayB x with
      | false => simp [okT, goodB, hm]
      | true =>
        have hsT := shelf_T hT hm
        have : ((P.filter fun x => goodB n x && !(T.any fun y => same y x)).any fun y => decide (keyB y = keyB x)) = false := by
          rw [List.any_eq_false]
          intro y hy hk
          have hy' := List.mem_filter.1 hy
          have hmy : mayB y = true := by have := hy'.2; simp only [goodB, Bool.and_eq_true] at this; exact this.1.1
          have h1 := (keyB_inj hmy hm).1 (by simpa using hk)
          have h2 := hp.2.2 y hy'.1 x (by simp)
          rw [h1] at h2; cases h2
        unfold okT
        rw [this]
        cases hgl : getL (T.flatMap cls2) (keyB x) with
        | none => rw [hgl] at hsT; simp only at hsT; simp [goodB, hm, ← hsT]
        | some c => rw [hgl] at hsT; simp only at hsT; simp [goodB, hm, hsT]
    rw [hok]
    by_cases h : (goodB n x && !(T.any fun y => same y x)) = true
    · rw [if_pos h]; simp [h]
    · rw [if_neg h]; simp [h]
theorem goodL_mem {n : Int} {L : List Sp} (hf : ∀ x ∈ L, x.fits) : ∀ y ∈ goodL n L, y.fits ∧ goodB n y = true := fun y hy => by
  have := List.mem_filter.1 hy
  exact ⟨hf y this.1, this.2⟩
theorem tk_all {n : Int} {L : List Sp} (hL : apartL L) : tk (getL []) n L = goodL n L := by
  have := tk_fresh (T := []) (n := n) (fun y hy => by simp at hy) hL
  simp only [List.flatMap_nil] at this
  rw [this, goodL]
  congr 1
  funext x
  simp
theorem tk_again {n : Int} {L : List Sp} (hf : ∀ x ∈ L, x.fits) (hL : apartL L) : tk (getL ((goodL n L).flatMap cls2)) n L = [] := by
  rw [tk_fresh (goodL_mem hf) hL, List.filter_eq_nil_iff]
  intro x hx h
  simp only [Bool.and_eq_true, Bool.not_eq_true', List.any_eq_false] at h
  exact absurd (same_refl x) (h.2 x (List.mem_filter.2 ⟨hx, h.1⟩))
theorem take_split {L : List Sp} {a b : Nat} (h : a ≤ b) : L.take b = L.take a ++ (L.drop a).take (b - a) := by
  have := List.take_add (l := L) (i := a) (j := b - a)
  rwa [show a + (b - a) = b from by omega] at this
theorem piece_split {L : List Sp} {l a b : Nat} (h1 : l ≤ a) (h2 : a ≤ b) : (L.drop l).take (b - l) = (L.drop l).take (a - l) ++ (L.drop a).take (b - a) := by
  have := take_split (L := L.drop l) (a := a - l) (b := b - l) (by omega)
  rw [this, List.drop_drop, show l + (a - l) = a from by omega, show b - l - (a - l) = b - a from by omega]
theorem once_step {n : Int} {L : List Sp} (hf : ∀ x ∈ L, x.fits) (hL : apartL L) {l a b : Nat} (h1 : l ≤ a) (h2 : a ≤ b) :
    tk (getL ((goodL n (L.take a)).flatMap cls2)) n ((L.drop l).take (b - l)) = goodL n ((L.drop a).take (b - a)) := by
  rw [tk_fresh (goodL_mem fun x hx => hf x (List.mem_of_mem_take hx)) (hL.sublist ((List.take_sublist _ _).trans (List.drop_sublist _ _))), piece_split h1 h2, List.filter_append]
  have e1 : ((L.drop l).take (a - l)).filter (fun x => goodB n x && !((goodL n (L.take a)).any fun y => same y x)) = [] := by
    rw [List.filter_eq_nil_iff]
    intro x hx h
    simp only [Bool.and_eq_true, Bool.not_eq_true', List.any_eq_false] at h
    refine absurd (same_refl x) (h.2 x (List.mem_filter.2 ⟨?_, h.1⟩))
    have e : L.take a = L.take l ++ (L.drop l).take (a - l) := take_split h1
    rw [e]; exact List.mem_append.2 (.inr hx)
  rw [e1, List.nil_append, goodL]
  have hsp : L.take a ++ (L.drop a).take (b - a) = L.take b := (take_split h2).symm
  have hp : apartL (L.take a ++ (L.drop a).take (b - a)) := by rw [hsp]; exact hL.sublist (List.take_sublist _ _)
  have hp' := (List.pairwise_append.1 hp).2.2
  refine List.filter_congr fun x hx => ?_
  have : ((goodL n (L.take a)).any fun y => same y x) = false := by
    rw [List.any_eq_false]
    intro y hy h
    have h3 := hp' y (List.mem_filter.1 hy).1 x hx
    rw [h3] at h; cases h
  rw [goodL] at this; rw [this]; simp
theorem once_join {n : Int} {L : List Sp} {a b : Nat} (h : a ≤ b) : goodL n (L.take a) ++ goodL n ((L.drop a).take (b - a)) = goodL n (L.take b) := by
  rw [take_split h, goodL, goodL, goodL, List.filter_append]
theorem goodL_len (n : Int) (L : List Sp) : (goodL n L).length ≤ L.length := List.length_filter_le _ _

end Go.Proofs.Ytjlddackpckmfaa.M
