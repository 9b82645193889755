/- Layer 12: in a region that draws its order: spans that came in, appended to a row of the call's own. -/
import Derived.Test.YtblgfhljaafmhaaPostsU2
import Derived.Deep.RegionLaw
import Derived.Maps.AppendAt
namespace Go.Proofs.Ytblgfhljaafmhaa
set_option linter.unusedVariables false
open Go Go.RowKit

theorem spOff_get {x : M.Sp} {w : World} {g o : Nat} (h : SpOff x w g o) (i : Nat) (u : Value) (hu : (spL x)[i]? = some u) : w.cell? ⟨g, o + i, none⟩ = some u := by
  obtain ⟨h0, h1, h2, h3, h4, h5, h6, h7⟩ := h
  match i with
  | 0 => simp [spL] at hu; subst hu; exact h0
  | 1 => simp [spL] at hu; subst hu; exact h1
  | 2 => simp [spL] at hu; subst hu; exact h2
  | 3 => simp [spL] at hu; subst hu; exact h3
  | 4 => simp [spL] at hu; subst hu; exact h4
  | 5 => simp [spL] at hu; subst hu; exact h5
  | 6 => simp [spL] at hu; subst hu; exact h6
  | 7 => simp [spL] at hu; subst hu; exact h7
  | i + 8 => simp [spL] at hu
theorem spsAt_get {w : World} {g o : Nat} {L : List M.Sp} (h : ∀ j, j < L.length → SpOff (L.getD j M.sp0) w g (o + j * 8)) (j : Nat) (u : Value) (hu : (sps L)[j]? = some u) : w.cell? ⟨g, o + j, none⟩ = some u := by
  have hj : j < L.length * 8 := by
    rw [← sps_length]
    exact (List.getElem?_eq_some_iff.1 hu).1
  have e : j = j / 8 * 8 + j % 8 := by omega
  have h1 := h (j / 8) (by omega)
  rw [e, sps_get L (j / 8) (j % 8) (by omega) (by omega)] at hu
  have h2 := spOff_get h1 _ u hu
  rw [show o + j / 8 * 8 + j % 8 = o + j from by omega] at h2
  exact h2
theorem append_none {P : Program} (w : World) (base : Nat) (t ty e : TypeId) (i : TypeInfo) (sz : Nat) (ht : P.underlying t = some (.slice e)) (hi : P.info? e = some i) {v : Value} {n : Nat} {xs : List Value} (h : w.ownsRow base e sz v n xs) (c : Nat) :
    (Builtin.append_ #[t, t] ty #[v, .slice none 0 c]).run P w = .ok v w := by
  rcases h.2 with ⟨rfl, rfl⟩ | ⟨g, cap, cur, rfl, _, _, hc, _⟩
  · simp [Builtin.append_, run_underlying ht, sizeOf, typeInfo, hi, Builtin.lenOf, Builtin.firstCells]
  · simp [Builtin.append_, run_underlying ht, sizeOf, typeInfo, hi, Builtin.lenOf, Builtin.firstCells, hc, storeCells]
theorem sps_oneP (L : List M.Sp) : ∀ u ∈ sps L, u.oneCell' = true := by
  intro u hu
  obtain ⟨x, _, hx⟩ := List.mem_flatMap.1 hu
  exact spL_one x u hx

/-- What an append of a row of spans comes to. -/
theorem append_sps (w : World) (base : Nat) (t ty : TypeId) (i : TypeInfo) (z : Value) (ht : Try.prog.underlying t = some (.slice 29)) (hi : Try.prog.info? 29 = some i) (hz : i.zero = some z) (h1 : i.size = 8) (h2 : i.bytes = 88) (h3 : z.cells.size = 8)
    (v : Value) (n : Nat) (xs : List Value) (ho : w.ownsRow base 29 8 v n xs) (ao : Option Addr) (c : Nat) (L : List M.Sp) (hs : SpsAt w ao L) (h63 : n + L.length ≤ 1000000) (hbase : base ≤ w.heap.size) :
    ∃ v' w', (Builtin.append_ #[t, t] ty #[v, .slice ao L.length c]).run Try.prog w = .ok v' w' ∧ w'.ownsRow base 29 8 v' (n + L.length) (xs ++ sps L) ∧ w.grownBy w' v.ownBlock := by
  cases ao with
  | none =>
    have hL : L = [] := by
      cases L with
      | nil => rfl
      | cons x r => obtain ⟨g, off, e, _⟩ := hs (by simp); cases e
    subst hL
    exact ⟨v, w, append_none w base t ty _ i 8 ht hi ho c, by simpa [sps] using ho, World.grownBy.refl w _⟩
  | some ad =>
    have hc : ∀ j u, (sps L)[j]? = some u → w.cell? (ad.add j) = some u := by
      intro j u hu
      by_cases hL : L = []
      · subst hL; simp [sps] at hu
      · obtain ⟨g, off, e, hk⟩ := hs hL
        injection e with e
        subst e
        rw [Addr.add_lit]
        exact spsAt_get hk j u hu
    obtain ⟨v', w', hr, h5, h6, _⟩ := run_append_own_at (P := Try.prog) w base t ty 29 i z 8 88 ht hi hz h1 h2 h3 (by decide) v n xs ho ad L.length c (sps L) (sps_length L) hc (sps_oneP L) (by unfold maxLen; omega) (by omega) hbase
    exact ⟨v', w', hr, h5, h6⟩
theorem step_append_sps {w : World} {ops : Array Oper} {o : Oper} {a : Act} {K : Act → World → Prop} {Q : Exit → Act → World → Prop} {E : Prop} (hgd : o.guard = none) (s x : Operand) (t : TypeId)
    (hop : o.op = .call { callee := .builtin .append, args := #[s, x], argTypes := #[t, t] })
    (base : Nat) (i : TypeInfo) (z : Value) (ht : Try.prog.underlying t = some (.slice 29)) (hi : Try.prog.info? 29 = some i) (hz : i.zero = some z) (h1 : i.size = 8) (h2 : i.bytes = 88) (h3 : z.cells.size = 8)
    (v : Value) (n : Nat) (xs : List Value) (hv : a.eval s = v) (ho : w.ownsRow base 29 8 v n xs) (ao : Option Addr) (c : Nat) (L : List M.Sp) (hx : a.eval x = .slice ao L.length c) (hs : SpsAt w ao L) (h63 : n + L.length ≤ 1000000) (hbase : base ≤ w.heap.size)
    (h : ∀ v' w', w'.ownsRow base 29 8 v' (n + L.length) (xs ++ sps L) → w.grownBy w' v.ownBlock → K (a.put o.dst v') w') :
    if Region.wanted o (yielded ops a.tmps) = true then Oper.wp Try.prog o a w K Q else E := by
  have hw : Region.wanted o (yielded ops a.tmps) = true := by simp [Region.wanted, hgd]
  rw [if_pos hw]
  obtain ⟨v', w', hrun, h5, h6⟩ := append_sps w base t o.type i z ht hi hz h1 h2 h3 v n xs ho ao c L hs h63 hbase
  unfold Oper.wp execOp
  simp only [hop, resolve, invoke, builtin, Sem.run_bind, Sem.run_pure, Result.andThen_ok, List.map_toArray, List.map_cons, List.map_nil, hv, hx, hrun]
  exact h v' w' h5 h6
/-- 'make([]Span, 0, n)'. -/
theorem make_sps (t : TypeId) (ht : Try.prog.underlying t = some (.slice 29)) (n : Nat) (hn : n ≤ 1000000) (kl kc : IntKind) :
    ∃ C : Array Value, C.size = n * 8 ∧ ∀ w : World, (Instr.makeSlice t (.int kl 0) (.int kc (n : Int))).run Try.prog w = .ok (.slice (some ⟨w.heap.size, 0, none⟩) 0 n) (w.alloc (.cells C 29)) := by
  obtain ⟨i0, z0, hi, hz0, hz1, hz2, hz3⟩ := infoSp_parts
  refine ⟨madeCells z0.cells (n * 8), by simp [size_madeCells], fun w => ?_⟩
  have hr := run_make (P := Try.prog) w t _ i0 z0 ht hi hz0 kl kc 0 n (by omega) (by omega) (by rw [hz2]; omega) (by omega)
  rw [hz1] at hr
  exact hr
/-- Rows of spans, parted: what stands ahead. -/
theorem spsAt_take {w : World} {ao : Option Addr} {L : List M.Sp} {x : M.Sp} (h : SpsAt w ao (L ++ [x])) : ∃ g off, ao = some ⟨g, off, none⟩ ∧ SpsAt w (some ⟨g, off, none⟩) L ∧ SpOff x w g (off + L.length * 8) := by
  obtain ⟨g, off, e, hc⟩ := h (by simp)
  refine ⟨g, off, e, fun _ => ⟨g, off, rfl, fun j hj => ?_⟩, ?_⟩
  · have := hc j (by simp; omega)
    rwa [show (L ++ [x]).getD j M.sp0 = L.getD j M.sp0 from by simp [List.getD, List.getElem?_append_left hj]] at this
  · have := hc L.length (by simp)
    rwa [show (L ++ [x]).getD L.length M.sp0 = x from by simp [List.getD]] at this
def s70 : M.Sp := { trace := 0, id := -70, parent := 0, svc := [], host := [], start := 0, dur := 0, note := [] }

end Go.Proofs.Ytblgfhljaafmhaa
