/- Layer 19: mathematics: a stretch of the whole; tables in another order. -/
import Derived.Test.YtnhljlmelbiljaaGreatTbltM
namespace Go.Proofs.YtnhljlmelbiljaaGreat
set_option linter.unusedVariables false
set_option linter.unusedSimpArgs false
open Go Go.RowKit

/-- A stretch of the whole. -/
theorem M.stretch19 {f t : List UInt8} {R : List (List M.Cl)} (hp : M.PW R) (a b : List UInt8) : M.rangeT f t R a b = M.rangeL a b (M.rangeT f t R [] []) :=
  M.pwk_ext (M.rangeT_pwk f t hp a b) ((M.rangeT_pwk f t hp [] []).filter _) (fun k => by
    rw [M.rangeT_find f t hp, M.find_range19, M.rangeT_all f t hp, M.getT]
    cases M.inK f t k <;> cases M.inK a b k <;> rfl)
/-! The order of rows makes no difference to what is newest. -/
def M.upS : Option Int → Option Int → Option Int
  | none, c => c
  | some b, none => some b
  | some b, some c => if b < c then some c else some b
theorem M.upS_comm (a b : Option Int) : M.upS a b = M.upS b a := by
  cases a <;> cases b <;> simp only [M.upS]
  split <;> split <;> simp <;> omega
theorem M.up_seq (a b : Option M.Cl) : (M.up a b).map (·.seq) = M.upS (a.map (·.seq)) (b.map (·.seq)) := by
  cases a with
  | none => cases b <;> rfl
  | some x => cases b with
    | none => rfl
    | some y =>
      by_cases h : x.seq < y.seq
      · simp [M.up, M.upS, h]
      · simp [M.up, M.upS, h]
theorem M.bestR_rev (k : List UInt8) : ∀ (R : List (List M.Cl)), (M.bestR k R.reverse).map (·.seq) = (M.bestR k R).map (·.seq)
  | [] => rfl
  | L :: R => by
    rw [List.reverse_cons, M.bestR_snoc, M.up_seq, M.bestR_rev k R, M.upS_comm, ← M.up_seq]
    rfl
def M.ks (c : M.Cl) : List UInt8 × Int := (c.key, c.seq)
theorem M.ks_ext : ∀ {A B : List M.Cl}, M.PwK A → M.PwK B → (∀ k, (M.findL k A).map (·.seq) = (M.findL k B).map (·.seq)) → A.map M.ks = B.map M.ks
  | [], [], _, _, _ => rfl
  | [], y :: B, _, _, h => by have := h y.key; rw [M.find_cons_eq rfl] at this; cases this
  | x :: A, [], _, _, h => by have := h x.key; rw [M.find_cons_eq rfl] at this; cases this
  | x :: A, y :: B, hA, hB, h => by
    obtain ⟨a1, a2⟩ := List.pairwise_cons.1 hA
    obtain ⟨b1, b2⟩ := List.pairwise_cons.1 hB
    have e : x.key = y.key := by
      by_cases e : x.key = y.key
      · exact e
      · exfalso
        have hx := h x.key
        rw [M.find_cons_eq rfl, M.find_cons_ne (fun q => e q.symm)] at hx
        have hy := h y.key
        rw [M.find_cons_eq (c := y) rfl, M.find_cons_ne e] at hy
        cases q : M.findL x.key B with
        | none => rw [q] at hx; cases hx
        | some z =>
          cases r : M.findL y.key A with
          | none => rw [r] at hy; cases hy
          | some u =>
            have z1 := M.find_some19 q
            have u1 := M.find_some19 r
            have h1 := b1 z z1.1
            have h2 := a1 u u1.1
            rw [z1.2] at h1
            rw [u1.2] at h2
            rw [M.less_asym19 h1] at h2
            cases h2
    have es : x.seq = y.seq := by
      have := h x.key
      rw [M.find_cons_eq rfl, M.find_cons_eq e.symm] at this
      simpa using this
    have ih := M.ks_ext a2 b2 (fun k => by
      by_cases ek : x.key = k
      · have n1 : M.findL k A = none := by
          cases r : M.findL k A with
          | none => rfl
          | some u =>
            have u1 := M.find_some19 r
            have := a1 u u1.1
            rw [u1.2, ek, M.less_irr] at this; cases this
        have n2 : M.findL k B = none := by
          cases r : M.findL k B with
          | none => rfl
          | some u =>
            have u1 := M.find_some19 r
            have := b1 u u1.1
            rw [u1.2, ← e, ek, M.less_irr] at this; cases this
        rw [n1, n2]
      · have := h k
        rw [M.find_cons_ne ek, M.find_cons_ne (fun q => ek (e.trans q))] at this
        exact this)
    rw [List.map_cons, List.map_cons, ih]
    unfold M.ks
    rw [e, es]
theorem M.turned19 {f t : List UInt8} {mem : List M.Cl} {tabs : List (List M.Cl)} (hp : M.PW (mem :: tabs)) (hq : M.PW (mem :: tabs.reverse)) (a b : List UInt8) :
    (M.rangeT f t (mem :: tabs.reverse) a b).map M.ks = (M.rangeT f t (mem :: tabs) a b).map M.ks :=
  M.ks_ext (M.rangeT_pwk f t hq a b) (M.rangeT_pwk f t hp a b) (fun k => by
    rw [M.rangeT_find f t hq, M.rangeT_find f t hp]
    by_cases h : (M.inK f t k && M.inK a b k) = true
    · rw [if_pos h, if_pos h]
      show (M.up _ (M.bestR k tabs.reverse)).map _ = (M.up _ (M.bestR k tabs)).map _
      rw [M.up_seq, M.up_seq, M.bestR_rev]
    · rw [if_neg h, if_neg h])


end Go.Proofs.YtnhljlmelbiljaaGreat
