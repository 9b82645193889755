/- '[]byte(s)': a new row of the string's bytes; read, written, and made a string again. -/
import Derived.Test.YtblgfhljaafmhaaKit
namespace Go.Proofs.Ytblgfhljaafmhaa
set_option linter.unusedVariables false
open Go Go.RowKit

/-- Block b begins with the bytes l, which may be written. -/
def BytesAt (w : World) (b : Nat) (e : TypeId) (l : List UInt8) : Prop :=
  ∃ (C : Array Value) (m : Nat), w.heap[b]? = some (.cells C e (m, m + 1)) ∧ C.size ≤ m ∧ l.length ≤ C.size ∧ ∀ j (h : j < l.length), C[j]? = some (.int .u8 (l[j].toNat : Int))

theorem bytes_conv {P : Program} (w : World) (src dst e : TypeId) (hs : P.underlying src = some .string) (hd : P.underlying dst = some (.slice e)) (he : P.underlying e = some (.int .u8)) (l : List UInt8) :
    ∃ (w1 : World) (cap : Nat), (convert src dst (.string ⟨l.toArray⟩)).run P w = .ok (.slice (some ⟨w.heap.size, 0, none⟩) l.length cap) w1 ∧ BytesAt w1 w.heap.size e l ∧ Below w.heap.size w w1 ∧ w1.heap.size = w.heap.size + 1 := by
  have hr := run_bytes_of_string (P := P) w src dst e ⟨l.toArray⟩ hs hd he
  have hsz : ((⟨l.toArray⟩ : ByteArray).size : Nat) = l.length := by simp [ByteArray.size]
  rw [hsz] at hr
  refine ⟨_, _, hr, ⟨_, _, heap_alloc_new w.drew _, Nat.le_refl _, ?_, ?_⟩, (Below.refl _ _).drew.alloc (Nat.le_refl _) _, by simp⟩
  · simp [bytesRow]
  · intro j h
    have := bytesRow_at ⟨l.toArray⟩ (grownCap w l.length 0 e) j (by simpa using h)
    rw [this]
    rfl

section
variable {w : World} {b : Nat} {e : TypeId} {l : List UInt8}
theorem BytesAt.cell (h : BytesAt w b e l) (j : Nat) (hj : j < l.length) : w.cell? ⟨b, j, none⟩ = some (.int .u8 (B l j)) := by
  obtain ⟨C, m, h1, h2, h3, h4⟩ := h
  have := h4 j hj
  rw [B_at l j hj]
  simp [World.cell?, h1, this]
theorem BytesAt.free (h : BytesAt w b e l) (j : Nat) (hj : j < l.length) : w.frozen? ⟨b, j, none⟩ = false := by
  obtain ⟨C, m, h1, h2, h3, h4⟩ := h
  simp [World.frozen?, h1]
  omega
theorem BytesAt.set (h : BytesAt w b e l) (j : Nat) (hj : j < l.length) (v : UInt8) : BytesAt (w.setCell ⟨b, j, none⟩ (.int .u8 (v.toNat : Int))) b e (l.set j v) := by
  obtain ⟨C, m, h1, h2, h3, h4⟩ := h
  refine ⟨C.setIfInBounds j (.int .u8 (v.toNat : Int)), m, ?_, by simpa using h2, by simpa using h3, ?_⟩
  · have hlt : b < w.heap.size := by
      rcases Nat.lt_or_ge b w.heap.size with h | h
      · exact h
      · simp [Array.getElem?_eq_none h] at h1
    have hget : w.heap[b] = .cells C e (m, m + 1) := by
      have := h1; rw [Array.getElem?_eq_getElem hlt] at this; exact Option.some.inj this
    simp [World.setCell, Array.getElem?_modify, h1]
  · intro i hi
    have hi' : i < l.length := by simpa using hi
    rw [Array.getElem?_setIfInBounds]
    by_cases hij : j = i
    · subst hij
      rw [if_pos rfl, if_pos (by omega)]
      simp
    · rw [if_neg hij, h4 i hi', List.getElem_set_ne hij]
theorem BytesAt.back {P : Program} (h : BytesAt w b e l) (src dst : TypeId) (hs : P.underlying src = some (.slice e)) (he : P.underlying e = some (.int .u8)) (hd : P.underlying dst = some .string) (cap : Nat) :
    (convert src dst (.slice (some ⟨b, 0, none⟩) l.length cap)).run P w = .ok (.string ⟨l.toArray⟩) w :=
  run_convert_bytes_back w src dst e ⟨b, 0, none⟩ cap l hs he hd (fun j hj => by rw [Addr.add_lit, Nat.zero_add, h.cell j hj, B_at l j hj])
theorem BytesAt.below {w' : World} {B' : Nat} (h : BytesAt w b e l) (hb : Below B' w w') (hlt : b < B') : BytesAt w' b e l := by
  obtain ⟨C, m, h1, h2, h3, h4⟩ := h
  exact ⟨C, m, by rw [hb.block b hlt]; exact h1, h2, h3, h4⟩
end

end Go.Proofs.Ytblgfhljaafmhaa
