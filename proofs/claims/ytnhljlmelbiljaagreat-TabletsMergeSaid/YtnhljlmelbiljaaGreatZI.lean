/- Texts of lower layers, as one. -/
import Derived.Test.YtnhljlmelbiljaaGreatZH
import Derived.Maps.AppendAt
/- Layer 9: cells that came in, appended to a row of the call's own; the laws' twin of cells. -/
namespace Go.Proofs.YtnhljlmelbiljaaGreat
set_option linter.unusedVariables false
open Go Go.RowKit
attribute [local go_sem ↓] run_index_S
attribute [local go_sem] S_append S_extract

theorem clOff_get9 {x : M.Cl} {w : World} {g o : Nat} (h : ClOff x w g o) (i : Nat) (u : Value) (hu : (clL x)[i]? = some u) : w.cell? ⟨g, o + i, none⟩ = some u := by
  obtain ⟨h0, h1, h2⟩ := h
  match i with
  | 0 => simp [clL] at hu; subst hu; exact h0
  | 1 => simp [clL] at hu; subst hu; exact h1
  | 2 => simp [clL] at hu; subst hu; exact h2
  | i + 3 => simp [clL] at hu
theorem clsAt_get9 {w : World} {g o : Nat} {L : List M.Cl} (h : ∀ j, j < L.length → ClOff (L.getD j M.cl0) w g (o + j * 3)) (j : Nat) (u : Value) (hu : (cls L)[j]? = some u) : w.cell? ⟨g, o + j, none⟩ = some u := by
  have hj : j < L.length * 3 := by
    rw [← cls_length]
    exact (List.getElem?_eq_some_iff.1 hu).1
  have e : j = j / 3 * 3 + j % 3 := by omega
  have h1 := h (j / 3) (by omega)
  rw [e, cls_get L (j / 3) (j % 3) (by omega) (by omega)] at hu
  have h2 := clOff_get9 h1 _ u hu
  rw [show o + j / 3 * 3 + j % 3 = o + j from by omega] at h2
  exact h2
theorem append_none9 {P : Program} (w : World) (base : Nat) (t ty e : TypeId) (i : TypeInfo) (sz : Nat) (ht : P.underlying t = some (.slice e)) (hi : P.info? e = some i) {v : Value} {n : Nat} {xs : List Value} (h : w.ownsRow base e sz v n xs) (c : Nat) :
    (Builtin.append_ #[t, t] ty #[v, .slice none 0 c]).run P w = .ok v w := by
  rcases h.2 with ⟨rfl, rfl⟩ | ⟨g, cap, cur, rfl, _, _, hc, _⟩
  · simp [Builtin.append_, run_underlying ht, sizeOf, typeInfo, hi, Builtin.lenOf, Builtin.firstCells]
  · simp [Builtin.append_, run_underlying ht, sizeOf, typeInfo, hi, Builtin.lenOf, Builtin.firstCells, hc, storeCells]

set_option maxRecDepth 100000 in
/-- What an append of a row of cells comes to. -/
theorem append_cls (w : World) (base : Nat) (t ty : TypeId) (i : TypeInfo) (z : Value) (ht : Tryz.prog.underlying t = some (.slice 38)) (hi : Tryz.prog.info? 38 = some i) (hz : i.zero = some z) (h1 : i.size = 3) (h2 : i.bytes = 40) (h3 : z.cells.size = 3)
    (v : Value) (n : Nat) (xs : List Value) (ho : w.ownsRow base 38 3 v n xs) (ao : Option Addr) (c : Nat) (L : List M.Cl) (hs : ClsAt w ao L) (h63 : n + L.length ≤ 1000000) (hbase : base ≤ w.heap.size) :
    ∃ v' w', (Builtin.append_ #[t, t] ty #[v, .slice ao L.length c]).run Tryz.prog w = .ok v' w' ∧ w'.ownsRow base 38 3 v' (n + L.length) (xs ++ cls L) ∧ w.grownBy w' v.ownBlock := by
  cases ao with
  | none =>
    have hL : L = [] := by
      cases L with
      | nil => rfl
      | cons x r => obtain ⟨g, off, e, _⟩ := hs (by simp); cases e
    subst hL
    exact ⟨v, w, append_none9 w base t ty _ i 3 ht hi ho c, by simpa [cls] using ho, World.grownBy.refl w _⟩
  | some ad =>
    have hc : ∀ j u, (cls L)[j]? = some u → w.cell? (ad.add j) = some u := by
      intro j u hu
      by_cases hL : L = []
      · subst hL; simp [cls] at hu
      · obtain ⟨g, off, e, hk⟩ := hs hL
        injection e with e
        subst e
        rw [Addr.add_lit]
        exact clsAt_get9 hk j u hu
    obtain ⟨v', w', hr, h5, h6, _⟩ := run_append_own_at (P := Tryz.prog) w base t ty 38 i z 3 40 ht hi hz h1 h2 h3 (by decide) v n xs ho ad L.length c (cls L) (cls_length L) hc (cls_oneC L) (by unfold maxLen; omega) (by omega) hbase
    exact ⟨v', w', hr, h5, h6⟩
/-- Rows of cells, parted: what stands ahead. -/
theorem clsAt_take9 {w : World} {ao : Option Addr} {L : List M.Cl} {x : M.Cl} (h : ClsAt w ao (L ++ [x])) : ∃ g off, ao = some ⟨g, off, none⟩ ∧ ClsAt w (some ⟨g, off, none⟩) L ∧ ClOff x w g (off + L.length * 3) := by
  obtain ⟨g, off, e, hc⟩ := h (by simp)
  refine ⟨g, off, e, fun _ => ⟨g, off, rfl, fun j hj => ?_⟩, ?_⟩
  · have := hc j (by simp; omega)
    rwa [show (L ++ [x]).getD j M.cl0 = L.getD j M.cl0 from by simp [List.getD, List.getElem?_append_left hj]] at this
  · have := hc L.length (by simp)
    rwa [show (L ++ [x]).getD L.length M.cl0 = x from by simp [List.getD]] at this
theorem ownC_cap {B : Nat} {w : World} {g n cap : Nat} {xs : List Value} (h : w.ownsRow B 38 3 (.slice (some ⟨g, 0, none⟩) n cap) n xs) : n ≤ cap := by
  rcases h.2 with ⟨e, _⟩ | ⟨g', cap', cur, e, hB, hg, hc, _⟩
  · cases e
  · injection e with e1 e2 e3
    omega
def c70 : M.Cl := ⟨[], -70, []⟩
end Go.Proofs.YtnhljlmelbiljaaGreat

/- Layer 9: BlocksEncode, walked. -/
namespace Go.Proofs.YtnhljlmelbiljaaGreat
set_option linter.unusedVariables false
open Go Go.RowKit
attribute [local go_sem ↓] run_index_S
attribute [local go_sem] S_append S_extract

theorem clsAt_pre9 {w : World} {ao : Option Addr} {L : List M.Cl} {x : M.Cl} (h : ClsAt w ao (L ++ [x])) : ClsAt w ao L := by
  obtain ⟨g, off, rfl, h1, h2⟩ := clsAt_take9 h
  exact h1

end Go.Proofs.YtnhljlmelbiljaaGreat
