/- Layer 16: rows of numbers and of tablets that are to be read. -/
import Derived.Test.YtfcmjgcjmldpcaaEditsM
namespace Go.Proofs.Ytfcmjgcjmldpcaa
set_option linter.unusedVariables false
open Go Go.RowKit

/-- Numbers in memory. -/
def NsAt (w : World) (ao : Option Addr) (l : List Int) : Prop := l ≠ [] → ∃ g off, ao = some ⟨g, off, none⟩ ∧ ∀ j, j < l.length → w.cell? ⟨g, off + j, none⟩ = some (.int .i64 (l.getD j 0))
/-- A tablet in memory: what it is, where its numbers lie, and their room. -/
structure Rt where
  f : List UInt8
  l : List Int
  o : Option Addr
  k : Nat
def rt0 : Rt := ⟨[], [], none, 0⟩
def Rt.tb (r : Rt) : Ed.Tb := ⟨r.f, r.l⟩
def TbAt (w : World) (g o : Nat) (r : Rt) : Prop := w.cell? ⟨g, o, none⟩ = some (.string (S r.f)) ∧ w.cell? ⟨g, o + 1, none⟩ = some (.slice r.o r.l.length r.k) ∧ NsAt w r.o r.l
def TbsAt (w : World) (ao : Option Addr) (Rs : List Rt) : Prop := Rs ≠ [] → ∃ g off, ao = some ⟨g, off, none⟩ ∧ ∀ j, j < Rs.length → TbAt w g (off + j * 2) (Rs.getD j rt0)
section
variable {w w' : World} {ao : Option Addr}
theorem cell_lt {w : World} {p : Addr} {v : Value} (h : w.cell? p = some v) : p.block < w.heap.size := by
  unfold World.cell? at h
  rcases Nat.lt_or_ge p.block w.heap.size with q | q
  · exact q
  · rw [Array.getElem?_eq_none q] at h; simp at h
theorem NsAt.below {l : List Int} (h : NsAt w ao l) (hb : Below w.heap.size w w') : NsAt w' ao l := fun hn => by
  obtain ⟨g, off, e, hc⟩ := h hn
  exact ⟨g, off, e, fun j hj => (hb.cell (p := ⟨g, off + j, none⟩) (cell_lt (hc j hj))).trans (hc j hj)⟩
theorem NsAt.off {l : List Int} (h : NsAt w ao l) (j : Nat) (hj : j < l.length) : ∃ g off, ao = some ⟨g, off, none⟩ ∧ w.cell? ⟨g, off + j, none⟩ = some (.int .i64 (l.getD j 0)) := by
  obtain ⟨g, off, e, hc⟩ := h (fun h => by rw [h] at hj; simp at hj)
  exact ⟨g, off, e, hc j hj⟩
theorem nsAt_nil (w : World) (ao : Option Addr) : NsAt w ao [] := fun h => absurd rfl h
theorem TbAt.below {g o : Nat} {r : Rt} (h : TbAt w g o r) (hb : Below w.heap.size w w') : TbAt w' g o r :=
  ⟨(hb.cell (p := ⟨g, o, none⟩) (cell_lt h.1)).trans h.1, (hb.cell (p := ⟨g, o + 1, none⟩) (cell_lt h.2.1)).trans h.2.1, h.2.2.below hb⟩
theorem TbsAt.below {Rs : List Rt} (h : TbsAt w ao Rs) (hb : Below w.heap.size w w') : TbsAt w' ao Rs := fun hn => by
  obtain ⟨g, off, e, hc⟩ := h hn
  exact ⟨g, off, e, fun j hj => (hc j hj).below hb⟩
theorem TbsAt.off {Rs : List Rt} (h : TbsAt w ao Rs) (j : Nat) (hj : j < Rs.length) : ∃ g off, ao = some ⟨g, off, none⟩ ∧ TbAt w g (off + j * 2) (Rs.getD j rt0) := by
  obtain ⟨g, off, e, hc⟩ := h (fun h => by rw [h] at hj; simp at hj)
  exact ⟨g, off, e, hc j hj⟩
theorem TbsAt.same {Rs : List Rt} (h : TbsAt w ao Rs) (he : w'.heap = w.heap) : TbsAt w' ao Rs := by
  have e : ∀ a, w'.cell? a = w.cell? a := fun a => by unfold World.cell?; rw [he]
  intro hn
  obtain ⟨g, off, e1, hc⟩ := h hn
  refine ⟨g, off, e1, fun j hj => ?_⟩
  have := hc j hj
  unfold TbAt NsAt at *
  simp only [e]
  exact this
end
/-- A state, handed about: its tablets' row. -/
def tbs (Rs : List Rt) : List Ed.Tb := Rs.map Rt.tb
def stV (ao : Option Addr) (n cap : Nat) (log next : Int) : Value := .agg #[.slice ao n cap, .int .i64 log, .int .i64 next]
theorem tbs_length (Rs : List Rt) : (tbs Rs).length = Rs.length := by simp [tbs]
theorem tbs_at (Rs : List Rt) (i : Nat) : (tbs Rs).getD i Ed.tb0 = (Rs.getD i rt0).tb := by
  unfold tbs
  by_cases h : i < Rs.length
  · simp [List.getD, h]
  · have h' : Rs.length ≤ i := by omega
    simp [List.getD, h']
    rfl

end Go.Proofs.Ytfcmjgcjmldpcaa
