/- Layer 9: BlocksOne, walked. -/
import Derived.Test.YtnhljlmelbiljaaGreatZI
import Derived.BigQuiet
namespace Go.Proofs.YtnhljlmelbiljaaGreat
set_option linter.unusedVariables false
open Go Go.RowKit
attribute [local go_sem ↓] run_index_S
attribute [local go_sem] S_append S_extract

/-- A cell stored whole. -/
def store3 (w : World) (g o : Nat) (c : M.Cl) : World := ((w.setCell ⟨g, o, none⟩ (.string (S c.key))).setCell ⟨g, o + 1, none⟩ (.int .i64 c.seq)).setCell ⟨g, o + 2, none⟩ (.string (S c.val))
theorem RoomC.read {N : Nat} {w : World} {g : Nat} (h : RoomC N w g) {o : Nat} (ho : o < N) (v : Value) (p : Nat) : (w.setCell ⟨g, o, none⟩ v).cell? ⟨g, p, none⟩ = if o = p then some v else w.cell? ⟨g, p, none⟩ := by
  obtain ⟨C, h1, h2⟩ := h
  rw [(h1.set o v).cell p, h1.cell p, Array.getElem?_setIfInBounds]
  by_cases e : o = p
  · subst e; simp; omega
  · simp [e]
theorem store3_at {N : Nat} {w : World} {g o : Nat} (h : RoomC N w g) (ho : o + 2 < N) (c : M.Cl) : ClOff c (store3 w g o c) g o := by
  have h1 := h.set o (.string (S c.key))
  have h2 := h1.set (o + 1) (.int .i64 c.seq)
  refine ⟨?_, ?_, ?_⟩
  · rw [store3, h2.read (by omega), if_neg (by omega), h1.read (by omega), if_neg (by omega), h.read (by omega), if_pos rfl]
  · rw [store3, h2.read (by omega), if_neg (by omega), h1.read (by omega), if_pos rfl]
  · rw [store3, h2.read (by omega), if_pos rfl]
theorem store3_cell {N : Nat} {w : World} {g o : Nat} (h : RoomC N w g) (ho : o + 2 < N) (c : M.Cl) {p : Nat} (hp : p < o ∨ o + 2 < p) : (store3 w g o c).cell? ⟨g, p, none⟩ = w.cell? ⟨g, p, none⟩ := by
  have h1 := h.set o (.string (S c.key))
  have h2 := h1.set (o + 1) (.int .i64 c.seq)
  rw [store3, h2.read (by omega), if_neg (by omega), h1.read (by omega), if_neg (by omega), h.read (by omega), if_neg (by omega)]
theorem store3_room {N : Nat} {w : World} {g o : Nat} (h : RoomC N w g) (c : M.Cl) : RoomC N (store3 w g o c) g := ((h.set _ _).set _ _).set _ _
theorem store3_off {N : Nat} {w : World} {g o : Nat} (h : RoomC N w g) (ho : o + 2 < N) (c : M.Cl) {x : M.Cl} {p : Nat} (hx : ClOff x w g p) (hp : p + 2 < o ∨ o + 2 < p) : ClOff x (store3 w g o c) g p := by
  obtain ⟨x0, x1, x2⟩ := hx
  exact ⟨(store3_cell h ho c (by omega)).trans x0, (store3_cell h ho c (by omega)).trans x1, (store3_cell h ho c (by omega)).trans x2⟩
theorem clsAt_at0 {w : World} {g : Nat} {L : List M.Cl} (h : ClsAt w (some ⟨g, 0, none⟩) L) (j : Nat) (hj : j < L.length) : ClOff (L.getD j M.cl0) w g (j * 3) := by
  obtain ⟨g', o', q, hc⟩ := h.off j hj
  cases q
  rwa [Nat.zero_add] at hc
end Go.Proofs.YtnhljlmelbiljaaGreat
