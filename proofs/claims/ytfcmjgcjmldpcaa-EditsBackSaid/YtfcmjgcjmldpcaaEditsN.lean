/- Layer 16: numbers appended to a row of one's own. -/
import Derived.Test.YtfcmjgcjmldpcaaEditsL
import Derived.Maps.AppendAt
namespace Go.Proofs.Ytfcmjgcjmldpcaa
set_option linter.unusedVariables false
set_option linter.unusedSimpArgs false
open Go Go.RowKit

theorem infoN : (Try.prog.info? 3).map (fun i => (i.zero.map (fun z => z.cells.size), i.size, i.bytes)) = some (some 1, 1, 8) := by kernel_rfl
theorem infoN_parts : ∃ (i0 : TypeInfo) (z : Value), Try.prog.info? 3 = some i0 ∧ i0.zero = some z ∧ i0.size = 1 ∧ i0.bytes = 8 ∧ z.cells.size = 1 := by
  have h := infoN
  cases hi : Try.prog.info? 3 with
  | none => rw [hi] at h; cases h
  | some i0 =>
    rw [hi] at h
    cases hz : i0.zero with
    | none => simp [hz] at h
    | some z =>
      simp [hz] at h
      exact ⟨i0, z, rfl, hz, h.2.1, h.2.2, h.1⟩
theorem nsL_append (a b : List Int) : nsL (a ++ b) = nsL a ++ nsL b := by simp [nsL]
theorem nsL_oneC (l : List Int) : ∀ u ∈ nsL l, u.oneCell' = true := by
  intro u hu
  obtain ⟨x, _, rfl⟩ := List.mem_map.1 hu
  rfl
theorem append_none16 (w : World) (base : Nat) (t ty e : TypeId) (i : TypeInfo) (sz : Nat) (ht : Try.prog.underlying t = some (.slice e)) (hi : Try.prog.info? e = some i) {v : Value} {n : Nat} {xs : List Value} (ho : w.ownsRow base e sz v n xs) (c : Nat) :
    (Builtin.append_ #[t, t] ty #[v, .slice none 0 c]).run Try.prog w = .ok v w := by
  rcases ho.2 with ⟨rfl, rfl⟩ | ⟨g, cap, cur, rfl, _, _, hc, _⟩
  · simp [Builtin.append_, run_underlying ht, sizeOf, typeInfo, hi, Builtin.lenOf, Builtin.firstCells]
  · simp [Builtin.append_, run_underlying ht, sizeOf, typeInfo, hi, Builtin.lenOf, Builtin.firstCells, hc, storeCells]
set_option maxRecDepth 100000 in
theorem append_nums (w : World) (base : Nat) (t ty : TypeId) (i : TypeInfo) (z : Value) (ht : Try.prog.underlying t = some (.slice 3)) (hi : Try.prog.info? 3 = some i) (hz : i.zero = some z) (h1 : i.size = 1) (h2 : i.bytes = 8) (h3 : z.cells.size = 1)
    (v : Value) (n : Nat) (xs : List Value) (ho : w.ownsRow base 3 1 v n xs) (ao : Option Addr) (c : Nat) (L : List Int) (hs : NsAt w ao L) (h63 : n + L.length ≤ 1000000) (hbase : base ≤ w.heap.size) :
    ∃ v' w', (Builtin.append_ #[t, t] ty #[v, .slice ao L.length c]).run Try.prog w = .ok v' w' ∧ w'.ownsRow base 3 1 v' (n + L.length) (xs ++ nsL L) ∧ w.grownBy w' v.ownBlock := by
  cases ao with
  | none =>
    have hL : L = [] := by
      cases L with
      | nil => rfl
      | cons x r => obtain ⟨g, off, e, _⟩ := hs (by simp); cases e
    subst hL
    exact ⟨v, w, append_none16 w base t ty _ i 1 ht hi ho c, by simpa [nsL] using ho, World.grownBy.refl w _⟩
  | some ad =>
    have hc : ∀ j u, (nsL L)[j]? = some u → w.cell? (ad.add j) = some u := by
      intro j u hu
      by_cases hL : L = []
      · subst hL; simp [nsL] at hu
      · obtain ⟨g, off, e, hk⟩ := hs hL
        injection e with e
        subst e
        rw [Addr.add_lit]
        have hj : j < L.length := by rw [← nsL_length]; exact (List.getElem?_eq_some_iff.1 hu).1
        rw [hk j hj]
        simp [nsL, hj] at hu
        rw [← hu]
        simp [List.getD, hj]
    obtain ⟨v', w', hr, h5, h6, _⟩ := run_append_own_at (P := Try.prog) w base t ty 3 i z 1 8 ht hi hz h1 h2 h3 (by decide) v n xs ho ad L.length c (nsL L) (by simp [nsL]) hc (nsL_oneC L) (by unfold maxLen; omega) (by omega) hbase
    exact ⟨v', w', hr, h5, h6⟩
set_option maxRecDepth 100000 in
theorem wpList_append_nums {w : World} {ops : Array Oper} {rest : List Oper} {o : Oper} {a : Act} {Q : Exit → Act → World → Prop} (hgd : o.guard = none) (s x : Operand) (t : TypeId)
    (hop : o.op = .call { callee := .builtin .append, args := #[s, x], argTypes := #[t, t] })
    (base : Nat) (i : TypeInfo) (z : Value) (ht : Try.prog.underlying t = some (.slice 3)) (hi : Try.prog.info? 3 = some i) (hz : i.zero = some z) (h1 : i.size = 1) (h2 : i.bytes = 8) (h3 : z.cells.size = 1)
    (v : Value) (n : Nat) (xs : List Value) (hv : a.eval s = v) (ho : w.ownsRow base 3 1 v n xs) (ao : Option Addr) (c : Nat) (L : List Int) (hx : a.eval x = .slice ao L.length c) (hs : NsAt w ao L) (h63 : n + L.length ≤ 1000000) (hbase : base ≤ w.heap.size)
    (h : ∀ v' w', w'.ownsRow base 3 1 v' (n + L.length) (xs ++ nsL L) → w.grownBy w' v.ownBlock → wpList Try.prog ops Q rest (a.put o.dst v') w') :
    wpList Try.prog ops Q (o :: rest) a w := by
  refine wpList_plain hgd fun K hK => ?_
  obtain ⟨v', w', hrun, h5, h6⟩ := append_nums w base t o.type i z ht hi hz h1 h2 h3 v n xs ho ao c L hs h63 hbase
  unfold Oper.wp execOp
  simp only [hop, resolve, invoke, builtin, Sem.run_bind, Sem.run_pure, Result.andThen_ok, List.map_toArray, List.map_cons, List.map_nil, hv, hx, hrun]
  exact hK _ _ (h v' w' h5 h6)

end Go.Proofs.Ytfcmjgcjmldpcaa
