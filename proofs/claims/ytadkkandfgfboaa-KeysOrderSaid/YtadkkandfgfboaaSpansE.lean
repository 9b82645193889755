/- Layer 3: Encode, the program's and the document's, each by a contract. -/
import Derived.Test.YtadkkandfgfboaaSpansC
import Derived.Test.YtadkkandfgfboaaIntsC2
import Derived.Deep.QuietTactic
import Derived.BigQuiet
import Derived.Lib.QuietBelow
namespace Go.Proofs.Ytadkkandfgfboaa
set_option linter.unusedVariables false
open Go Go.RowKit
attribute [local go_sem ↓] run_index_S
attribute [local go_sem] S_append S_extract

theorem bcell {W w1 : World} (hb : Below W.heap.size W w1) : (∀ b o, b < W.heap.size → w1.cell? ⟨b, o, none⟩ = W.cell? ⟨b, o, none⟩) ∧ (∀ b o, b < W.heap.size → w1.frozen? ⟨b, o, none⟩ = W.frozen? ⟨b, o, none⟩) :=
  ⟨fun b o h => hb.cell (p := ⟨b, o, none⟩) h, fun b o h => hb.frozen (p := ⟨b, o, none⟩) h⟩

theorem ret_se {a b : List UInt8} {n : Int} (h : a = b) : Ending.returned (.tuple #[.string ⟨a.toArray⟩, .int .i64 n]) = .returned (.tuple #[.string ⟨b.toArray⟩, .int .i64 n]) := by rw [h]

/-- A span lies in a block. -/
structure SpAt (x : M.Sp) (w : World) (b : Nat) : Prop where
  c0 : w.cell? ⟨b, 0, none⟩ = some (.int .i64 x.trace)
  c1 : w.cell? ⟨b, 1, none⟩ = some (.int .i64 x.id)
  c2 : w.cell? ⟨b, 2, none⟩ = some (.int .i64 x.parent)
  c3 : w.cell? ⟨b, 3, none⟩ = some (.string (S x.svc))
  c4 : w.cell? ⟨b, 4, none⟩ = some (.string (S x.host))
  c5 : w.cell? ⟨b, 5, none⟩ = some (.int .i64 x.start)
  c6 : w.cell? ⟨b, 6, none⟩ = some (.int .i64 x.dur)
  c7 : w.cell? ⟨b, 7, none⟩ = some (.string (S x.note))
  at_ : b < w.heap.size
theorem SpAt.below {x : M.Sp} {w w' : World} {b : Nat} (h : SpAt x w b) (hb : Below w.heap.size w w') : SpAt x w' b := by
  obtain ⟨c, f⟩ := bcell hb
  exact ⟨by rw [c _ _ h.at_]; exact h.c0, by rw [c _ _ h.at_]; exact h.c1, by rw [c _ _ h.at_]; exact h.c2, by rw [c _ _ h.at_]; exact h.c3, by rw [c _ _ h.at_]; exact h.c4, by rw [c _ _ h.at_]; exact h.c5, by rw [c _ _ h.at_]; exact h.c6, by rw [c _ _ h.at_]; exact h.c7, Nat.lt_of_lt_of_le h.at_ hb.size⟩
theorem SpAt.grown {x : M.Sp} {w : World} {b : Nat} (h : SpAt x w b) (d : Nat) (os : Array Obj) : SpAt x (Sort.grow (redrawn w d) os) b := h.below (below_regrown w d os)
theorem spAt_new (x : M.Sp) (w : World) (t : TypeId) : SpAt x (w.alloc (.cells #[.int .i64 x.trace, .int .i64 x.id, .int .i64 x.parent, .string (S x.svc), .string (S x.host), .int .i64 x.start, .int .i64 x.dur, .string (S x.note)] t)) w.heap.size := by
  refine ⟨?_, ?_, ?_, ?_, ?_, ?_, ?_, ?_, by simp⟩ <;> (rw [cell_new]; rfl)

/-- The rows of numbers and of texts that Encode goes along, and the span's own texts. -/
structure EncAt (x : M.Sp) (w : World) (a : Nat) : Prop where
  s : w.cell? ⟨a, 3, none⟩ = some (.string (S x.svc))
  h : w.cell? ⟨a, 4, none⟩ = some (.string (S x.host))
  n : w.cell? ⟨a, 7, none⟩ = some (.string (S x.note))
  at_ : a < w.heap.size
theorem EncAt.below {x : M.Sp} {w w' : World} {a : Nat} (h : EncAt x w a) (hb : Below w.heap.size w w') : EncAt x w' a := by
  obtain ⟨c, f⟩ := bcell hb
  have hs := hb.size
  exact ⟨by rw [c _ _ h.at_]; exact h.s, by rw [c _ _ h.at_]; exact h.h, by rw [c _ _ h.at_]; exact h.n, Nat.lt_of_lt_of_le h.at_ hs⟩
structure NumsAt (x : M.Sp) (w : World) (b : Nat) : Prop where
  c : ∀ j, j < 5 → w.cell? ⟨b, j, none⟩ = some (.int .i64 ((M.nums x).getD j 0 : Nat))
  at_ : b < w.heap.size
theorem NumsAt.below {x : M.Sp} {w w' : World} {b : Nat} (h : NumsAt x w b) (hb : Below w.heap.size w w') : NumsAt x w' b := by
  obtain ⟨c, f⟩ := bcell hb
  exact ⟨fun j hj => by rw [c _ _ h.at_]; exact h.c j hj, Nat.lt_of_lt_of_le h.at_ hb.size⟩
structure TxtsAt (x : M.Sp) (w : World) (b : Nat) : Prop where
  c : ∀ j, j < 3 → w.cell? ⟨b, j, none⟩ = some (.string (S ((M.txts x).getD j [])))
  at_ : b < w.heap.size
theorem TxtsAt.below {x : M.Sp} {w w' : World} {b : Nat} (h : TxtsAt x w b) (hb : Below w.heap.size w w') : TxtsAt x w' b := by
  obtain ⟨c, f⟩ := bcell hb
  exact ⟨fun j hj => by rw [c _ _ h.at_]; exact h.c j hj, Nat.lt_of_lt_of_le h.at_ hb.size⟩
theorem numsAt_new (x : M.Sp) (hm : M.mayB x = true) (w : World) (t : TypeId) : NumsAt x (w.alloc (.cells #[.int .i64 x.trace, .int .i64 x.id, .int .i64 x.parent, .int .i64 x.start, .int .i64 x.dur] t)) w.heap.size := by
  obtain ⟨h1, h2, h3, _, _, h4, h5, _⟩ := M.mayB_parts hm
  refine ⟨fun j hj => ?_, by simp⟩
  rw [cell_new]
  match j, hj with
  | 0, _ => simp [M.nums]; omega
  | 1, _ => simp [M.nums]; omega
  | 2, _ => simp [M.nums]; omega
  | 3, _ => simp [M.nums]; omega
  | 4, _ => simp [M.nums]; omega
theorem txtsAt_new (x : M.Sp) (w : World) (t : TypeId) : TxtsAt x (w.alloc (.cells #[.string (S x.svc), .string (S x.host), .string (S x.note)] t)) w.heap.size := by
  refine ⟨fun j hj => ?_, by simp⟩
  rw [cell_new]
  match j, hj with
  | 0, _ => simp [M.txts]
  | 1, _ => simp [M.txts]
  | 2, _ => simp [M.txts]

end Go.Proofs.Ytadkkandfgfboaa
