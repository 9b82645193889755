/- Layer 3: the document's Take, Decode, by contracts; Less. -/
import Derived.Test.YtadkkandfgfboaaSpansD
namespace Go.Proofs.Ytadkkandfgfboaa
set_option linter.unusedVariables false
open Go Go.RowKit
attribute [local go_sem ↓] run_index_S
attribute [local go_sem] S_append S_extract

/-- A block whose cells are known. -/
def RowIn (C : Array Value) (T : TypeId) (w : World) (b : Nat) : Prop := w.heap[b]? = some (.cells C T (0, 0))
section
variable {C : Array Value} {T : TypeId} {w w' : World} {b : Nat}
theorem RowIn.lt (h : RowIn C T w b) : b < w.heap.size := by
  rcases Nat.lt_or_ge b w.heap.size with h' | h'
  · exact h'
  · simp [RowIn, Array.getElem?_eq_none h'] at h
theorem RowIn.free (h : RowIn C T w b) (j : Nat) : w.frozen? ⟨b, j, none⟩ = false := by
  unfold RowIn at h
  simp [World.frozen?, h]
theorem RowIn.cell (h : RowIn C T w b) (j : Nat) : w.cell? ⟨b, j, none⟩ = C[j]? := by
  unfold RowIn at h
  simp [World.cell?, h]
theorem RowIn.below (h : RowIn C T w b) (hb : Below w.heap.size w w') : RowIn C T w' b := by
  have hl := h.lt
  unfold RowIn at *
  rw [hb.block b hl]; exact h
theorem RowIn.other (h : RowIn C T w b) {c : Nat} (hne : b ≠ c) (i : Nat) (v : Value) : RowIn C T (w.setCell ⟨c, i, none⟩ v) b := by
  unfold RowIn at *
  rw [Below.heap_setCell _ _ _ _ hne]; exact h
theorem RowIn.set (h : RowIn C T w b) (i : Nat) (v : Value) : RowIn (C.setIfInBounds i v) T (w.setCell ⟨b, i, none⟩ v) b := by
  unfold RowIn at *
  simp [World.setCell, Array.getElem?_modify, h]
theorem RowIn.more (h : RowIn C T w b) (o : Obj) : RowIn C T (w.alloc o) b := h.below ((Below.refl _ _).alloc (Nat.le_refl _) _)
end
theorem rowIn_new (C : Array Value) (T : TypeId) (w : World) : RowIn C T (w.alloc (.cells C T)) w.heap.size := heap_alloc_new w _
theorem rowIn_at (C : Array Value) (T : TypeId) (w : World) (b : Nat) (hb : b = w.heap.size) : RowIn C T (w.alloc (.cells C T)) b := hb ▸ heap_alloc_new w _

def padN (ns : List Nat) : Array Value := #[.int .i64 (ns.getD 0 0 : Nat), .int .i64 (ns.getD 1 0 : Nat), .int .i64 (ns.getD 2 0 : Nat), .int .i64 (ns.getD 3 0 : Nat), .int .i64 (ns.getD 4 0 : Nat)]
def padT (ts : List (List UInt8)) : Array Value := #[.string (S (ts.getD 0 [])), .string (S (ts.getD 1 [])), .string (S (ts.getD 2 []))]
theorem padN_snoc {ns : List Nat} {k : Nat} (hl : ns.length = k) (hk : k < 5) (n : Nat) : (padN ns).setIfInBounds k (.int .i64 n) = padN (ns ++ [n]) := by
  subst hl
  match ns, hk with
  | [], _ => rfl
  | [_], _ => rfl
  | [_, _], _ => rfl
  | [_, _, _], _ => rfl
  | [_, _, _, _], _ => rfl
theorem padT_snoc {ts : List (List UInt8)} {k : Nat} (hl : ts.length = k) (hk : k < 3) (t : List UInt8) : (padT ts).setIfInBounds k (.string (S t)) = padT (ts ++ [t]) := by
  subst hl
  match ts, hk with
  | [], _ => rfl
  | [_], _ => rfl
  | [_, _], _ => rfl
theorem padN_at (ns : List Nat) (k : Nat) (hk : k < 5) : (padN ns)[k]? = some (.int .i64 (ns.getD k 0 : Nat)) := by
  match k, hk with
  | 0, _ => rfl
  | 1, _ => rfl
  | 2, _ => rfl
  | 3, _ => rfl
  | 4, _ => rfl
theorem padT_at (ts : List (List UInt8)) (k : Nat) (hk : k < 3) : (padT ts)[k]? = some (.string (S (ts.getD k []))) := by
  match k, hk with
  | 0, _ => rfl
  | 1, _ => rfl
  | 2, _ => rfl

/-- P3.2, as far as the numbers and texts. -/
def M.take (l : List UInt8) (a : Nat) : Option (M.Sp × Nat) := match M.takeN 5 l a with
  | none => none
  | some (ns, b) => match M.takeT 3 l b with
    | none => none
    | some (ts, e) => some (M.spOf ns ts, e)
def takV (r : Option (M.Sp × Nat)) : Value := match r with
  | some (x, e) => .tuple #[spV x, .int .i64 e, .bool true]
  | none => .tuple #[spV M.sp0, .int .i64 0, .bool false]

end Go.Proofs.Ytadkkandfgfboaa
