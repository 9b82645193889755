/- Lists of cells in strict order, by their members. -/
import Derived.Test.YthidmgnfdikppaaZH
import Derived.Test.YthidmgnfdikppaaTablesM
namespace Go.Proofs.Ythidmgnfdikppaa
set_option linter.unusedVariables false
open Go Go.RowKit

theorem M.gD15 {α : Type} (L : List α) (k : Nat) (d : α) (h : k < L.length) : L.getD k d = L[k] := by
  simp [List.getD, h]
abbrev M.Stt (L : List M.Cl) : Prop := L.Pairwise (fun x y => M.aheadC x y = true)
theorem M.stt_irr (x : M.Cl) : M.aheadC x x = false := by
  cases q : M.aheadC x x with
  | false => rfl
  | true =>
    rcases M.ahead_iff.1 q with h | ⟨_, h⟩
    · rw [M.less_irr] at h; cases h
    · omega
theorem M.stt_asym {x y : M.Cl} (h : M.aheadC x y = true) : M.aheadC y x = false := by
  cases q : M.aheadC y x with
  | false => rfl
  | true =>
    have := M.ahead_trans h q
    rw [M.stt_irr] at this
    cases this
theorem M.stt_of {a b : M.Cl} (h : M.aheadC b a = false) (k : ¬ (a.key = b.key ∧ a.seq = b.seq)) : M.aheadC a b = true := by
  rw [M.ahead_iff]
  by_cases e : a.key = b.key
  · refine .inr ⟨e, ?_⟩
    rcases Int.lt_trichotomy a.seq b.seq with q | q | q
    · have : M.aheadC b a = true := M.ahead_iff.2 (.inr ⟨e.symm, q⟩)
      rw [h] at this; cases this
    · exact absurd ⟨e, q⟩ k
    · exact q
  · refine .inl ?_
    cases q : Op.bytesLess a.key b.key with
    | true => rfl
    | false =>
      have hf := M.less_flip a.key b.key e
      have : M.aheadC b a = true := M.ahead_iff.2 (.inl (by rw [hf, q]; rfl))
      rw [h] at this; cases this
theorem M.stt_same : ∀ {L : List M.Cl} {x y : M.Cl}, M.Stt L → x ∈ L → y ∈ L → M.aheadC x y = false → M.aheadC y x = false → x = y
  | [], _, _, _, h, _, _, _ => by cases h
  | z :: t, x, y, h, hx, hy, h1, h2 => by
    obtain ⟨k1, k2⟩ := List.pairwise_cons.1 h
    rcases List.mem_cons.1 hx with e1 | kx
    · rcases List.mem_cons.1 hy with e2 | ky
      · rw [e1, e2]
      · rw [e1, k1 y ky] at h1; cases h1
    · rcases List.mem_cons.1 hy with e2 | ky
      · rw [e2, k1 x kx] at h2; cases h2
      · exact M.stt_same k2 kx ky h1 h2
theorem M.stt_mem : ∀ {A B : List M.Cl}, M.Stt A → M.Stt B → (∀ x, x ∈ A ↔ x ∈ B) → A = B
  | [], [], _, _, _ => rfl
  | [], y :: B, _, _, h => by have := (h y).2 (by simp); cases this
  | x :: A, [], _, _, h => by have := (h x).1 (by simp); cases this
  | x :: A, y :: B, hA, hB, h => by
    obtain ⟨a1, a2⟩ := List.pairwise_cons.1 hA
    obtain ⟨b1, b2⟩ := List.pairwise_cons.1 hB
    obtain rfl : x = y := by
      rcases List.mem_cons.1 ((h x).1 (by simp)) with e | e
      · exact e
      · rcases List.mem_cons.1 ((h y).2 (by simp)) with e2 | e2
        · exact e2.symm
        · have := M.stt_asym (b1 x e)
          rw [a1 y e2] at this
          cases this
    rw [M.stt_mem a2 b2 (fun z => ?_)]
    constructor
    · intro hz
      rcases List.mem_cons.1 ((h z).1 (by simp [hz])) with e | e
      · have := a1 z hz
        rw [e, M.stt_irr] at this; cases this
      · exact e
    · intro hz
      rcases List.mem_cons.1 ((h z).2 (by simp [hz])) with e | e
      · have := b1 z hz
        rw [e, M.stt_irr] at this; cases this
      · exact e

theorem clOff_blk15 {x : M.Cl} {w w' : World} {g o : Nat} (h : ClOff x w g o) (hb : w'.heap[g]? = w.heap[g]?) : ClOff x w' g o := by
  have k := fun {o : Nat} {v : Value} (h : w.cell? ⟨g, o, none⟩ = some v) => (World.cell?_of_block (a := ⟨g, o, none⟩) hb).trans h
  obtain ⟨h0, h1, h2⟩ := h
  exact ⟨k h0, k h1, k h2⟩

end Go.Proofs.Ythidmgnfdikppaa
