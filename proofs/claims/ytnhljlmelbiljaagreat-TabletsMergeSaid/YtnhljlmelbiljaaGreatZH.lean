/- Texts of lower layers, as one. -/
import Derived.Test.YtnhljlmelbiljaaGreatZG
import Derived.Test.YtnhljlmelbiljaaGreatZE
import Derived.Deep.RegionHeld3
/- Layer 9: the document's answer, by contracts: which cells may be, are sorted; their bytes. -/
namespace Go.Proofs.YtnhljlmelbiljaaGreat
set_option linter.unusedVariables false
open Go Go.RowKit
attribute [local go_sem ↓] run_index_S
attribute [local go_sem] S_append S_extract

end Go.Proofs.YtnhljlmelbiljaaGreat

/- Layer 9: the document's bytes of sorted cells, by a contract. -/
namespace Go.Proofs.YtnhljlmelbiljaaGreat
set_option linter.unusedVariables false
open Go Go.RowKit
attribute [local go_sem ↓] run_index_S
attribute [local go_sem] S_append S_extract

end Go.Proofs.YtnhljlmelbiljaaGreat

/- Layer 9: the document's cells of bytes, by a contract. -/
namespace Go.Proofs.YtnhljlmelbiljaaGreat
set_option linter.unusedVariables false
open Go Go.RowKit
attribute [local go_sem ↓] run_index_S
attribute [local go_sem] S_append S_extract

end Go.Proofs.YtnhljlmelbiljaaGreat

/- Layer 9: the law's own helpers, by contracts; the document's Find. -/
namespace Go.Proofs.YtnhljlmelbiljaaGreat
set_option linter.unusedVariables false
open Go Go.RowKit
attribute [local go_sem ↓] run_index_S
attribute [local go_sem] S_append S_extract

def SmallC9 (c : M.Cl) : Prop := c.key.length ≤ 1000 ∧ c.val.length ≤ 1000
def SmallCs9 (L : List M.Cl) (n : Nat) : Prop := L.length ≤ n ∧ ∀ x ∈ L, SmallC9 x
theorem SmallC9.ok {c : M.Cl} (h : SmallC9 c) (hi : c.ints) : ClOk c := ⟨by have := h.1; omega, by have := h.2; omega, hi⟩
theorem M.encL_ge {k : List UInt8} (L : List M.Cl) : L.length ≤ (M.encL k L).length := by
  induction L generalizing k with
  | nil => simp
  | cons c L ih =>
    have h1 := M.putN_length (M.com k c.key)
    have h2 := ih (k := c.key)
    simp only [M.encL, M.encOne, List.length_append, List.length_cons] at *
    omega
end Go.Proofs.YtnhljlmelbiljaaGreat

/- Layer 9: some of the chapter's examples, walked. -/
namespace Go.Proofs.YtnhljlmelbiljaaGreat
set_option linter.unusedVariables false
open Go Go.RowKit
attribute [local go_sem ↓] run_index_S
attribute [local go_sem] S_append S_extract

end Go.Proofs.YtnhljlmelbiljaaGreat

/- Plain mathematics of layer 9: the order of sorted cells, each with each. No Go here. -/
namespace Go.Proofs.YtnhljlmelbiljaaGreat
set_option linter.unusedVariables false
open Go Go.RowKit

theorem M.less_irr : ∀ (a : List UInt8), Op.bytesLess a a = false
  | [] => rfl
  | x :: a => by simp [Op.bytesLess, M.less_irr a, UInt8.lt_irrefl]
theorem M.less_trans : ∀ (a b c : List UInt8), Op.bytesLess a b = true → Op.bytesLess b c = true → Op.bytesLess a c = true
  | _, [], _, h, _ => by cases ‹List UInt8› <;> simp [Op.bytesLess] at h
  | _, _ :: _, [], _, h => by simp [Op.bytesLess] at h
  | [], _ :: _, _ :: _, _, _ => rfl
  | x :: a, y :: b, z :: c, h, k => by
    simp only [Op.bytesLess, Bool.or_eq_true, Bool.and_eq_true, decide_eq_true_eq, beq_iff_eq] at *
    rcases h with h | ⟨rfl, h⟩
    · rcases k with k | ⟨rfl, k⟩
      · exact Or.inl (UInt8.lt_trans h k)
      · exact Or.inl h
    · rcases k with k | ⟨rfl, k⟩
      · exact Or.inl k
      · exact Or.inr ⟨rfl, M.less_trans a b c h k⟩
theorem M.ahead_iff {a b : M.Cl} : M.aheadC a b = true ↔ Op.bytesLess a.key b.key = true ∨ (a.key = b.key ∧ b.seq < a.seq) := by
  simp [M.aheadC]
theorem M.ahead_irr (a : M.Cl) : M.aheadC a a = false := by
  cases h : M.aheadC a a with
  | false => rfl
  | true =>
    rcases M.ahead_iff.1 h with h | ⟨_, h⟩
    · rw [M.less_irr] at h; cases h
    · omega
theorem M.ahead_trans {a b c : M.Cl} (h : M.aheadC a b = true) (k : M.aheadC b c = true) : M.aheadC a c = true := by
  rw [M.ahead_iff] at *
  rcases h with h | ⟨h, h'⟩
  · rcases k with k | ⟨k, k'⟩
    · exact Or.inl (M.less_trans _ _ _ h k)
    · exact Or.inl (by rw [← k]; exact h)
  · rcases k with k | ⟨k, k'⟩
    · exact Or.inl (by rw [h]; exact k)
    · exact Or.inr ⟨h.trans k, by omega⟩
theorem M.ahead_asymm {a b : M.Cl} (h : M.aheadC a b = true) : M.aheadC b a = false := by
  cases k : M.aheadC b a with
  | false => rfl
  | true => have := M.ahead_trans h k; rw [M.ahead_irr] at this; cases this
theorem M.srt_all {L : List M.Cl} : ∀ {p : M.Cl}, M.srt (some p) L = true → ∀ c ∈ L, M.aheadC p c = true := by
  induction L with
  | nil => intro p h c hc; simp at hc
  | cons x L ih =>
    intro p h c hc
    simp only [M.srt, M.nextB, Bool.and_eq_true] at h
    rcases List.mem_cons.1 hc with rfl | hc
    · exact h.1.2
    · exact M.ahead_trans h.1.2 (ih h.2 c hc)
theorem M.getD_memC {L : List M.Cl} {j : Nat} (h : j < L.length) : L.getD j M.cl0 ∈ L := by
  have e : L.getD j M.cl0 = L[j] := by simp [List.getD, List.getElem?_eq_getElem h]
  rw [e]; exact List.getElem_mem _
theorem M.srt_pair {L : List M.Cl} : ∀ {p : Option M.Cl}, M.srt p L = true → ∀ i j, i < j → j < L.length → M.aheadC (L.getD i M.cl0) (L.getD j M.cl0) = true := by
  induction L with
  | nil => intro p h i j hi hj; simp at hj
  | cons x L ih =>
    intro p h i j hi hj
    simp only [M.srt, Bool.and_eq_true] at h
    cases j with
    | zero => omega
    | succ j =>
      simp only [List.length_cons] at hj
      cases i with
      | zero => exact M.srt_all h.2 _ (by rw [List.getD_cons_succ]; exact M.getD_memC (by omega))
      | succ i => simpa using ih h.2 i j (by omega) (by omega)
end Go.Proofs.YtnhljlmelbiljaaGreat

/- Layer 9: BlocksFind, walked. -/
namespace Go.Proofs.YtnhljlmelbiljaaGreat
set_option linter.unusedVariables false
open Go Go.RowKit
attribute [local go_sem ↓] run_index_S
attribute [local go_sem] S_append S_extract

end Go.Proofs.YtnhljlmelbiljaaGreat

/- Layer 9: BlocksDecode, walked. -/
namespace Go.Proofs.YtnhljlmelbiljaaGreat
set_option linter.unusedVariables false
open Go Go.RowKit
attribute [local go_sem ↓] run_index_S
attribute [local go_sem] S_append S_extract

/-- A block with room for so many cells, which may be written. -/
def RoomC (N : Nat) (w : World) (g : Nat) : Prop := ∃ C, RowIn C 38 w g ∧ N ≤ C.size
theorem RoomC.below {N : Nat} {w w' : World} {g : Nat} (h : RoomC N w g) (hb : Below w.heap.size w w') : RoomC N w' g := by
  obtain ⟨C, h1, h2⟩ := h
  exact ⟨C, h1.below hb, h2⟩
theorem RoomC.set {N : Nat} {w : World} {g : Nat} (h : RoomC N w g) (i : Nat) (v : Value) : RoomC N (w.setCell ⟨g, i, none⟩ v) g := by
  obtain ⟨C, h1, h2⟩ := h
  exact ⟨_, h1.set i v, by simpa using h2⟩
theorem RoomC.cell {N : Nat} {w : World} {g : Nat} (h : RoomC N w g) (i : Nat) (hi : i < N) : ∃ v, w.cell? ⟨g, i, none⟩ = some v := by
  obtain ⟨C, h1, h2⟩ := h
  exact ⟨_, (h1.cell i).trans (Array.getElem?_eq_getElem (by omega))⟩
theorem RoomC.free {N : Nat} {w : World} {g : Nat} (h : RoomC N w g) (i : Nat) : w.frozen? ⟨g, i, none⟩ = false := by
  obtain ⟨C, h1, h2⟩ := h
  exact h1.free i
theorem M.decC_len {s : List UInt8} {L : List M.Cl} (h : M.decC s = some L) : L.length ≤ s.length := by
  obtain ⟨h1, h2, h3⟩ := M.decC_enc h
  have e1 := M.encL_ge (k := []) L
  have e2 := congrArg List.length h1
  simp only [M.encCs, List.length_append] at e2
  omega

end Go.Proofs.YtnhljlmelbiljaaGreat

/- Layer 9: BlocksBack, walked. -/
namespace Go.Proofs.YtnhljlmelbiljaaGreat
set_option linter.unusedVariables false
open Go Go.RowKit
attribute [local go_sem ↓] run_index_S
attribute [local go_sem] S_append S_extract

theorem M.encCs_len {L : List M.Cl} {n : Nat} (h : M.srt none L = true) (hl : L.length ≤ n) : (M.encCs L).length ≤ 10 + 240 * n := by
  have h1 := M.encL_len (k := []) (M.srt_may h)
  have h2 := (M.putN_length L.length).2
  simp only [M.encCs, List.length_append]
  omega
theorem decC_oks {s : List UInt8} {K : List M.Cl} (h : M.decC s = some K) : (∀ c ∈ K, ClOk c) ∧ M.srt none K = true ∧ M.encCs K = s := by
  obtain ⟨h1, h2, h3⟩ := M.decC_enc h
  refine ⟨fun c hc => ?_, h2, h1⟩
  obtain ⟨q1, q2, q3, q4⟩ := M.mayC_true.1 (M.srt_may h2 c hc)
  exact ⟨by omega, by omega, by have := (h3 c hc); exact ⟨by omega, by omega⟩⟩

end Go.Proofs.YtnhljlmelbiljaaGreat
