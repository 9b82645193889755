/- Texts of lower layers, as one. -/
import Derived.Test.YtnhljlmelbiljaaGreatZM
import Derived.Test.YtnhljlmelbiljaaGreatZT
/- Layer 15: the laws' put, by a contract. -/
namespace Go.Proofs.YtnhljlmelbiljaaGreat
set_option linter.unusedVariables false
set_option linter.unusedSimpArgs false
open Go Go.RowKit
attribute [local go_sem ↓] run_index_S
attribute [local go_sem] S_append S_extract

/-- What is laid in, one by one. -/
def M.putsL (A L : List M.Cl) : List M.Cl := L.foldl (fun A c => M.putL c A) A
theorem M.puts_snoc (A : List M.Cl) {L : List M.Cl} {i : Nat} (h : i < L.length) : M.putsL A (L.take (i + 1)) = M.putL (L.getD i M.cl0) (M.putsL A (L.take i)) := by
  rw [takeC_snoc h, M.putsL, List.foldl_append]
  rfl
theorem M.putL_len (c : M.Cl) (A : List M.Cl) : (M.putL c A).length ≤ A.length + 1 := by
  unfold M.putL
  split
  · exact M.insC_len c A
  · omega
theorem M.puts_len : ∀ (L A : List M.Cl), (M.putsL A L).length ≤ A.length + L.length
  | [], A => by simp [M.putsL]
  | c :: L, A => by
    have h1 := M.puts_len L (M.putL c A)
    have h2 := M.putL_len c A
    show (M.putsL (M.putL c A) L).length ≤ _
    simp only [List.length_cons]
    omega
end Go.Proofs.YtnhljlmelbiljaaGreat

/- Layer 15, mathematics: joined and laid lists by their members. -/
namespace Go.Proofs.YtnhljlmelbiljaaGreat
set_option linter.unusedVariables false
open Go Go.RowKit

theorem M.putL_strict {c : M.Cl} {A : List M.Cl} (h : M.Stt A) : M.Stt (M.putL c A) := by
  unfold M.putL
  split
  · exact M.insC_strict h
  · exact h
theorem M.puts_strict : ∀ (L : List M.Cl) {A : List M.Cl}, M.Stt A → M.Stt (M.putsL A L)
  | [], _, h => h
  | c :: L, _, h => M.puts_strict L (M.putL_strict h)
end Go.Proofs.YtnhljlmelbiljaaGreat

/- Layer 15, mathematics: what two memories are joined to is what their cells merged come to, each key and Seq once. -/
namespace Go.Proofs.YtnhljlmelbiljaaGreat
set_option linter.unusedVariables false
open Go Go.RowKit

theorem M.nwF_find : ∀ (t : List M.Cl) (c x : M.Cl), M.Asc (c :: t) → x ∈ M.nwF c t → M.findL x.key t = some x ∧ x.key ≠ c.key
  | [], _, _, _, h => by cases h
  | d :: t, c, x, ha, h => by
    obtain ⟨h1, h2⟩ := List.pairwise_cons.1 ha
    rw [M.nwF] at h
    by_cases e : c.key = d.key
    · rw [if_pos e] at h
      have hct : M.Asc (c :: t) := List.pairwise_cons.2 ⟨fun y hy => h1 y (by simp [hy]), (List.pairwise_cons.1 h2).2⟩
      obtain ⟨k1, k2⟩ := M.nwF_find t c x hct h
      refine ⟨?_, k2⟩
      unfold M.findL at *
      rw [List.find?_cons_of_neg (by simp; exact fun q => k2 (q.symm.trans e.symm))]
      exact k1
    · rw [if_neg e] at h
      rcases List.mem_cons.1 h with rfl | h
      · refine ⟨?_, fun q => e q.symm⟩
        unfold M.findL
        rw [List.find?_cons_of_pos (by simp)]
      · obtain ⟨k1, k2⟩ := M.nwF_find t d x h2 h
        have hl := M.nwF_less t d h2 x h
        have hcd := M.asc_less (h1 d (by simp)) e
        refine ⟨?_, fun q => ?_⟩
        · unfold M.findL at *
          rw [List.find?_cons_of_neg (by simp; exact fun q => k2 q.symm)]
          exact k1
        · have := M.less_trans _ _ _ hcd hl
          rw [q, M.less_irr] at this; cases this
/-- The newest of a key is the first of it. -/
theorem M.nw_find {L : List M.Cl} (h : M.Asc L) {x : M.Cl} (hx : x ∈ M.nw L) : M.findL x.key L = some x := by
  cases L with
  | nil => simp [M.nw] at hx
  | cons c t =>
    rw [M.nw_cons] at hx
    rcases List.mem_cons.1 hx with rfl | hx
    · unfold M.findL
      rw [List.find?_cons_of_pos (by simp)]
    · obtain ⟨k1, k2⟩ := M.nwF_find t c x h hx
      unfold M.findL at *
      rw [List.find?_cons_of_neg (by simp; exact fun q => k2 q.symm)]
      exact k1
end Go.Proofs.YtnhljlmelbiljaaGreat
