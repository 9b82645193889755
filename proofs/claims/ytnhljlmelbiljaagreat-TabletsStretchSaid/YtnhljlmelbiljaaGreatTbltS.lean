/- Rows of texts that are to be read; a text into a rising list, by a contract (layer 19). -/
import Derived.Test.YtnhljlmelbiljaaGreatTbltN
import Derived.Test.YtnhljlmelbiljaaGreatZE
import Derived.Test.YtnhljlmelbiljaaGreatZF
import Derived.Maps.AppendAt
namespace Go.Proofs.YtnhljlmelbiljaaGreat
set_option linter.unusedVariables false
set_option linter.unusedSimpArgs false
open Go Go.RowKit
attribute [local go_sem ↓] run_index_S
attribute [local go_sem] S_append S_extract

/-- Texts in memory. -/
def TsAt (w : World) (ao : Option Addr) (l : List (List UInt8)) : Prop := l ≠ [] → ∃ g off, ao = some ⟨g, off, none⟩ ∧ ∀ j, j < l.length → w.cell? ⟨g, off + j, none⟩ = some (.string (S (l.getD j [])))
theorem TsAt.below {w w' : World} {ao : Option Addr} {l : List (List UInt8)} (h : TsAt w ao l) (hb : Below w.heap.size w w') : TsAt w' ao l := fun hn => by
  obtain ⟨g, off, e, hc⟩ := h hn
  exact ⟨g, off, e, fun j hj => (hb.cell (p := ⟨g, off + j, none⟩) (block_lt_of_cell (hc j hj))).trans (hc j hj)⟩
theorem TsAt.off {w : World} {ao : Option Addr} {l : List (List UInt8)} (h : TsAt w ao l) (j : Nat) (hj : j < l.length) : ∃ g off, ao = some ⟨g, off, none⟩ ∧ w.cell? ⟨g, off + j, none⟩ = some (.string (S (l.getD j []))) := by
  obtain ⟨g, off, e, hc⟩ := h (fun h => by rw [h] at hj; simp at hj)
  exact ⟨g, off, e, hc j hj⟩
instance car_ts {w w' : World} {ao : Option Addr} {l : List (List UInt8)} : Car w w' (TsAt w ao l) (TsAt w' ao l) := ⟨fun hb h => h.below hb⟩
/-- Texts as cells. -/
def tsV (l : List (List UInt8)) : List Value := l.map fun p => Value.string (S p)
theorem tsV_length (l : List (List UInt8)) : (tsV l).length = l.length := by simp [tsV]
theorem infoTx : (Tryz.prog.info? 9).map (fun i => (i.zero.map (fun z => z.cells.size), i.size, i.bytes)) = some (some 1, 1, 16) := by kernel_rfl
theorem infoTx_parts : ∃ (i0 : TypeInfo) (z : Value), Tryz.prog.info? 9 = some i0 ∧ i0.zero = some z ∧ i0.size = 1 ∧ i0.bytes = 16 ∧ z.cells.size = 1 := by
  have h := infoTx
  cases hi : Tryz.prog.info? 9 with
  | none => rw [hi] at h; cases h
  | some i0 =>
    rw [hi] at h
    cases hz : i0.zero with
    | none => simp [hz] at h
    | some z =>
      simp [hz] at h
      exact ⟨i0, z, rfl, hz, h.2.1, h.2.2, h.1⟩
theorem own_shapeT {w : World} {B : Nat} {e : TypeId} {sz : Nat} {v : Value} {n : Nat} {xs : List Value} (h : w.ownsRow B e sz v n xs) : ∃ ao cap, v = .slice ao n cap := by
  rcases h.2 with ⟨rfl, h0⟩ | ⟨g, cap, cur, rfl, _⟩
  · exact ⟨none, 0, by rw [h0]⟩
  · exact ⟨_, cap, rfl⟩
theorem own_cellT {w : World} {B : Nat} {e : TypeId} {sz : Nat} {ao : Option Addr} {cap n : Nat} {xs : List Value} (hn : 0 < n) (h : w.ownsRow B e sz (.slice ao n cap) n xs) : ∃ g, ao = some ⟨g, 0, none⟩ ∧ B ≤ g ∧ ∀ j val, xs[j]? = some val → w.cell? ⟨g, j, none⟩ = some val := by
  have h' := World.ownsRowF_of h
  rcases h.2 with ⟨h1, h0⟩ | ⟨g, cap', cur, e1, hB, _⟩
  · cases h1; omega
  · injection e1 with e1
    subst e1
    refine ⟨g, rfl, hB, fun j val hx => ?_⟩
    have hc := h'.cells (g := g) (by simp [Value.ownBlock]) j val hx
    rwa [Addr.add_lit, Nat.zero_add] at hc
theorem tsAt_own {w : World} {B : Nat} {e : TypeId} {ao : Option Addr} {cap : Nat} {l : List (List UInt8)} (h : w.ownsRow B e 1 (.slice ao l.length cap) l.length (tsV l)) : TsAt w ao l := fun hn => by
  obtain ⟨g, e1, _, hc⟩ := own_cellT (List.length_pos_iff.2 hn) h
  exact ⟨g, 0, e1, fun j hj => by rw [Nat.zero_add]; exact hc j _ (by simp [tsV, List.getD, hj])⟩
theorem tsV_append (a b : List (List UInt8)) : tsV (a ++ b) = tsV a ++ tsV b := by simp [tsV]
theorem tsV_oneC (l : List (List UInt8)) : ∀ u ∈ tsV l, u.oneCell' = true := by
  intro u hu
  obtain ⟨x, _, rfl⟩ := List.mem_map.1 hu
  rfl
theorem append_noneT (w : World) (base : Nat) (t ty e : TypeId) (i : TypeInfo) (sz : Nat) (ht : Tryz.prog.underlying t = some (.slice e)) (hi : Tryz.prog.info? e = some i) {v : Value} {n : Nat} {xs : List Value} (ho : w.ownsRow base e sz v n xs) (c : Nat) :
    (Builtin.append_ #[t, t] ty #[v, .slice none 0 c]).run Tryz.prog w = .ok v w := by
  rcases ho.2 with ⟨rfl, rfl⟩ | ⟨g, cap, cur, rfl, _, _, hc, _⟩
  · simp [Builtin.append_, run_underlying ht, sizeOf, typeInfo, hi, Builtin.lenOf, Builtin.firstCells]
  · simp [Builtin.append_, run_underlying ht, sizeOf, typeInfo, hi, Builtin.lenOf, Builtin.firstCells, hc, storeCells]
set_option maxRecDepth 100000 in
theorem append_txsT (w : World) (base : Nat) (t ty : TypeId) (i : TypeInfo) (z : Value) (ht : Tryz.prog.underlying t = some (.slice 9)) (hi : Tryz.prog.info? 9 = some i) (hz : i.zero = some z) (h1 : i.size = 1) (h2 : i.bytes = 16) (h3 : z.cells.size = 1)
    (v : Value) (n : Nat) (xs : List Value) (ho : w.ownsRow base 9 1 v n xs) (ao : Option Addr) (c : Nat) (L : List (List UInt8)) (hs : TsAt w ao L) (h63 : n + L.length ≤ 1000000) (hbase : base ≤ w.heap.size) :
    ∃ v' w', (Builtin.append_ #[t, t] ty #[v, .slice ao L.length c]).run Tryz.prog w = .ok v' w' ∧ w'.ownsRow base 9 1 v' (n + L.length) (xs ++ tsV L) ∧ w.grownBy w' v.ownBlock := by
  cases ao with
  | none =>
    have hL : L = [] := by
      cases L with
      | nil => rfl
      | cons x r => obtain ⟨g, off, e, _⟩ := hs (by simp); cases e
    subst hL
    exact ⟨v, w, append_noneT w base t ty _ i 1 ht hi ho c, by simpa [tsV] using ho, World.grownBy.refl w _⟩
  | some ad =>
    have hc : ∀ j u, (tsV L)[j]? = some u → w.cell? (ad.add j) = some u := by
      intro j u hu
      by_cases hL : L = []
      · subst hL; simp [tsV] at hu
      · obtain ⟨g, off, e, hk⟩ := hs hL
        injection e with e
        subst e
        rw [Addr.add_lit]
        have hj : j < L.length := by rw [← tsV_length]; exact (List.getElem?_eq_some_iff.1 hu).1
        rw [hk j hj]
        simp [tsV, hj] at hu
        rw [← hu]
        simp [List.getD, hj]
    obtain ⟨v', w', hr, h5, h6, _⟩ := run_append_own_at (P := Tryz.prog) w base t ty 9 i z 1 16 ht hi hz h1 h2 h3 (by decide) v n xs ho ad L.length c (tsV L) (by simp [tsV]) hc (tsV_oneC L) (by unfold maxLen; omega) (by omega) hbase
    exact ⟨v', w', hr, h5, h6⟩
set_option maxRecDepth 100000 in
theorem wpList_append_txs {w : World} {ops : Array Oper} {rest : List Oper} {o : Oper} {a : Act} {Q : Exit → Act → World → Prop} (hgd : o.guard = none) (s x : Operand) (t : TypeId)
    (hop : o.op = .call { callee := .builtin .append, args := #[s, x], argTypes := #[t, t] })
    (base : Nat) (i : TypeInfo) (z : Value) (ht : Tryz.prog.underlying t = some (.slice 9)) (hi : Tryz.prog.info? 9 = some i) (hz : i.zero = some z) (h1 : i.size = 1) (h2 : i.bytes = 16) (h3 : z.cells.size = 1)
    (v : Value) (n : Nat) (xs : List Value) (hv : a.eval s = v) (ho : w.ownsRow base 9 1 v n xs) (ao : Option Addr) (c : Nat) (L : List (List UInt8)) (hx : a.eval x = .slice ao L.length c) (hs : TsAt w ao L) (h63 : n + L.length ≤ 1000000) (hbase : base ≤ w.heap.size)
    (h : ∀ v' w', w'.ownsRow base 9 1 v' (n + L.length) (xs ++ tsV L) → w.grownBy w' v.ownBlock → wpList Tryz.prog ops Q rest (a.put o.dst v') w') :
    wpList Tryz.prog ops Q (o :: rest) a w := by
  refine wpList_plain hgd fun K hK => ?_
  obtain ⟨v', w', hrun, h5, h6⟩ := append_txsT w base t o.type i z ht hi hz h1 h2 h3 v n xs ho ao c L hs h63 hbase
  unfold Oper.wp execOp
  simp only [hop, resolve, invoke, builtin, Sem.run_bind, Sem.run_pure, Result.andThen_ok, List.map_toArray, List.map_cons, List.map_nil, hv, hx, hrun]
  exact hK _ _ (h v' w' h5 h6)

theorem wpList_append_txsm {w : World} {ops : Array Oper} {rest : List Oper} {o : Oper} {a : Act} {Q : Exit → Act → World → Prop} (hgd : o.guard = none) (s x : Operand) (t : TypeId)
    (hop : o.op = .call { callee := .builtin .append, args := #[s, x], argTypes := #[t, t] })
    (base : Nat) (i : TypeInfo) (z : Value) (ht : Tryz.prog.underlying t = some (.slice 9)) (hi : Tryz.prog.info? 9 = some i) (hz : i.zero = some z) (h1 : i.size = 1) (h2 : i.bytes = 16) (h3 : z.cells.size = 1)
    (v : Value) (n : Nat) (xs : List Value) (hv : a.eval s = v) (ho : w.ownsRow base 9 1 v n xs) (ao : Option Addr) (c m : Nat) (L : List (List UInt8)) (hx : a.eval x = .slice ao m c) (hm : m = L.length) (hs : TsAt w ao L) (h63 : n + m ≤ 1000000) (hbase : base ≤ w.heap.size)
    (h : ∀ v' w', w'.ownsRow base 9 1 v' (n + m) (xs ++ tsV L) → w.grownBy w' v.ownBlock → wpList Tryz.prog ops Q rest (a.put o.dst v') w') :
    wpList Tryz.prog ops Q (o :: rest) a w := by
  subst hm
  exact wpList_append_txs hgd s x t hop base i z ht hi hz h1 h2 h3 v n xs hv ho ao c L hx hs h63 hbase h
theorem tsAt_cell {w : World} {q : Nat} {x : List UInt8} (h : RowIn #[.string (S x)] 9 w q) : TsAt w (some ⟨q, 0, none⟩) [x] := fun _ => ⟨q, 0, rfl, fun j hj => by
  have : j = 0 := by simp at hj; exact hj
  subst this
  exact h.cell 0⟩
theorem own_capT {w : World} {B sz n cap : Nat} {e : TypeId} {a : Option Addr} {xs : List Value} (h : w.ownsRow B e sz (.slice a n cap) n xs) : n ≤ cap := by
  rcases h.2 with ⟨h1, h0⟩ | ⟨g, cap', cur, h1, _, _, h2, _⟩
  · omega
  · injection h1 with _ _ h3
    omega
end Go.Proofs.YtnhljlmelbiljaaGreat
