/- A region that draws its order, walked operation by operation: what holds is said of what has come up, not of the order in which it came. -/
import Derived.Test.YthidmgnfdikppaaZA
import Derived.Orders
import Derived.RegionTactic
namespace Go.Proofs.Ythidmgnfdikppaa
set_option linter.unusedVariables false
open Go Go.RowKit

/-- A list of one, or of none. -/
def opt1 {α : Type} (b : Bool) (x : α) : List α := if b then [x] else []
theorem mem_opt1 {α : Type} {b : Bool} {x p : α} : p ∈ opt1 b x ↔ b = true ∧ p = x := by
  unfold opt1; cases b <;> simp
section
variable {P : Program} {ops : Array Oper} {Q : Exit → Act → World → Prop} {md : Region.Mode}
theorem wpAny_walk0 {σ : Type} (lst : σ → Array Bool) (nx : σ → List (Nat × σ)) (m : σ → Nat) (k : Nat) (J : σ → Act → World → Prop)
    (hr : ∀ s, nx s ≠ [] → Region.ready md ops (lst s) = (nx s).map Prod.fst)
    (hl : ∀ s, ∀ p ∈ nx s, (lst s).setIfInBounds p.1 true = lst p.2 ∧ m p.2 + 1 = m s)
    (hs : ∀ s a w, J s a w → ∀ p ∈ nx s, wpOp P ops Q p.1 (J p.2) a w)
    (he : ∀ s a w, nx s = [] → J s a w → wpAny P md ops Q (k + m s) (lst s) a w) :
    ∀ (n : Nat) (s : σ) (a : Act) (w : World), m s = n → J s a w → wpAny P md ops Q (k + n) (lst s) a w
  | 0, s, a, w, hm, hJ => by
    by_cases hn : nx s = []
    · have := he s a w hn hJ; rwa [hm] at this
    · obtain ⟨p, hp⟩ := List.exists_mem_of_ne_nil _ hn
      have := (hl s p hp).2
      omega
  | n + 1, s, a, w, hm, hJ => by
    by_cases hn : nx s = []
    · have := he s a w hn hJ; rwa [hm] at this
    · refine wpAny_all (hr s hn) (by simpa using hn) ?_
      intro i hi
      obtain ⟨p, hp, rfl⟩ := List.mem_map.1 hi
      obtain ⟨h1, h2⟩ := hl s p hp
      refine wpOp_mono (fun a' w' h => ?_) (hs s a w hJ p hp)
      rw [h1]
      exact wpAny_walk0 lst nx m k J hr hl hs he n p.2 a' w' (by omega) h
/-- What is asked of the states, to be settled by counting. -/
def walkOk {σ : Type} (md : Region.Mode) (ops : Array Oper) (lst : σ → Array Bool) (nx : σ → List (Nat × σ)) (m : σ → Nat) (s : σ) : Bool :=
  ((nx s).isEmpty || Region.ready md ops (lst s) == (nx s).map Prod.fst) && (nx s).all (fun p => (lst s).setIfInBounds p.1 true == lst p.2 && m p.2 + 1 == m s)
theorem wpAny_walk {σ : Type} {a0 : Act} {w0 : World} {listed : Array Bool} {fuel : Nat} (lst : σ → Array Bool) (nx : σ → List (Nat × σ)) (m : σ → Nat) (k : Nat) (s0 : σ) (J : Act → σ → Act → World → Prop)
    (hok : ∀ s, walkOk md ops lst nx m s = true) (hl0 : listed = lst s0) (hf : fuel = k + m s0)
    (h0 : J a0 s0 a0 w0)
    (hs : ∀ s a w, J a0 s a w → ∀ p ∈ nx s, wpOp P ops Q p.1 (J a0 p.2) a w)
    (he : ∀ s a w, nx s = [] → J a0 s a w → wpAny P md ops Q (k + m s) (lst s) a w) : wpAny P md ops Q fuel listed a0 w0 := by
  subst hl0 hf
  refine wpAny_walk0 lst nx m k (J a0) (fun s hn => ?_) (fun s p hp => ?_) hs he (m s0) s0 a0 w0 rfl h0
  · have := hok s
    simp only [walkOk, Bool.and_eq_true, Bool.or_eq_true, List.isEmpty_iff, beq_iff_eq] at this
    exact this.1.resolve_left hn
  · have := hok s
    simp only [walkOk, Bool.and_eq_true, List.all_eq_true, beq_iff_eq] at this
    exact this.2 p hp
end

end Go.Proofs.Ythidmgnfdikppaa
