/- Layer 16: copies of numbers, by contracts. -/
import Derived.Test.YtfcmjgcjmldpcaaEditsF
import Derived.Test.YtfcmjgcjmldpcaaShelf
namespace Go.Proofs.Ytfcmjgcjmldpcaa
set_option linter.unusedVariables false
set_option linter.unusedSimpArgs false
open Go Go.RowKit

def nsL (l : List Int) : List Value := l.map (Value.int .i64)
theorem nsL_length (l : List Int) : (nsL l).length = l.length := by simp [nsL]
theorem own_shape16 {w : World} {B : Nat} {e : TypeId} {sz : Nat} {v : Value} {n : Nat} {xs : List Value} (h : w.ownsRow B e sz v n xs) : ∃ ao cap, v = .slice ao n cap := by
  rcases h.2 with ⟨rfl, h0⟩ | ⟨g, cap, cur, rfl, _⟩
  · exact ⟨none, 0, by rw [h0]⟩
  · exact ⟨_, cap, rfl⟩
theorem own_cell16 {w : World} {B : Nat} {e : TypeId} {sz : Nat} {ao : Option Addr} {cap n : Nat} {xs : List Value} (hn : 0 < n) (h : w.ownsRow B e sz (.slice ao n cap) n xs) : ∃ g, ao = some ⟨g, 0, none⟩ ∧ B ≤ g ∧ ∀ j val, xs[j]? = some val → w.cell? ⟨g, j, none⟩ = some val := by
  have h' := World.ownsRowF_of h
  rcases h.2 with ⟨h1, h0⟩ | ⟨g, cap', cur, e1, hB, _⟩
  · cases h1; omega
  · injection e1 with e1
    subst e1
    refine ⟨g, rfl, hB, fun j val hx => ?_⟩
    have hc := h'.cells (g := g) (by simp [Value.ownBlock]) j val hx
    rwa [Addr.add_lit, Nat.zero_add] at hc
theorem nsAt_own {w : World} {B : Nat} {e : TypeId} {ao : Option Addr} {cap : Nat} {l : List Int} (h : w.ownsRow B e 1 (.slice ao l.length cap) l.length (nsL l)) : NsAt w ao l := fun hn => by
  obtain ⟨g, e1, _, hc⟩ := own_cell16 (List.length_pos_iff.2 hn) h
  exact ⟨g, 0, e1, fun j hj => by rw [Nat.zero_add]; exact hc j _ (by simp [nsL, List.getD, hj])⟩
def CloneI (l : List Int) (w : World) (e : Ending) (w' : World) : Prop := ∃ ao c, e = .returned (.slice ao l.length c) ∧ w'.ownsRow w.heap.size 3 1 (.slice ao l.length c) l.length (nsL l) ∧ Below w.heap.size w w'
theorem cloneI_any (l : List Int) (hl : l.length ≤ 100000) (ao : Option Addr) (cap : Nat) (w : World) (h : NsAt w ao l) :
    Calls Try.prog 48 #[.slice ao l.length cap] w (CloneI l w) := by
  cases ao with
  | none =>
    have hL : l = [] := by
      cases l with
      | nil => rfl
      | cons x r => obtain ⟨g, off, e, _⟩ := h (by simp); cases e
    subst hL
    refine (Try.slices_Clone_int_nil _ cap w).mono ?_
    rintro e w' ⟨rfl, rfl⟩
    exact ⟨none, 0, rfl, World.ownsRow_nil _ _ _ _, Below.refl _ _⟩
  | some a =>
    by_cases hL : l = []
    · subst hL
      refine (Try.slices_Clone_int_zero a cap w).mono ?_
      rintro e w' ⟨v', rfl, hown, _, hb⟩
      obtain ⟨ao', cap', rfl⟩ := own_shape16 hown
      exact ⟨ao', cap', rfl, hown, hb⟩
    · obtain ⟨g, off, e, hc⟩ := h hL
      injection e with e
      subst e
      refine (Try.slices_Clone_int g off l.length cap l w (Nat.le_refl _) (by omega) hc).mono ?_
      rintro e w' ⟨v', rfl, hown, _, hb⟩
      rw [List.take_length] at hown
      obtain ⟨ao', cap', rfl⟩ := own_shape16 hown
      exact ⟨ao', cap', rfl, hown, hb⟩

end Go.Proofs.Ytfcmjgcjmldpcaa
