/- Rows of texts that are to be read; a text into a rising list, by a contract (layer 19). -/
import Derived.Test.YtnhljlmelbiljaaGreatTbltN
import Derived.Test.YtnhljlmelbiljaaGreatZE
import Derived.Test.YtnhljlmelbiljaaGreatZF
import Derived.Maps.AppendAt
namespace Go.Proofs.YtnhljlmelbiljaaGreat
set_option linter.unusedVariables false
set_option linter.unusedSimpArgs false
open Go Go.RowKit
attribute [local go_sem ↓] run_index_S
attribute [local go_sem] S_append S_extract

/-- Texts in memory. -/
def TsAt (w : World) (ao : Option Addr) (l : List (List UInt8)) : Prop := l ≠ [] → ∃ g off, ao = some ⟨g, off, none⟩ ∧ ∀ j, j < l.length → w.cell? ⟨g, off + j, none⟩ = some (.string (S (l.getD j [])))
theorem TsAt.below {w w' : World} {ao : Option Addr} {l : List (List UInt8)} (h : TsAt w ao l) (hb : Below w.heap.size w w') : TsAt w' ao l := fun hn => by
  obtain ⟨g, off, e, hc⟩ := h hn
  exact ⟨g, off, e, fun j hj => (hb.cell (p := ⟨g, off + j, none⟩) (block_lt_of_cell (hc j hj))).trans (hc j hj)⟩
theorem TsAt.off {w : World} {ao : Option Addr} {l : List (List UInt8)} (h : TsAt w ao l) (j : Nat) (hj : j < l.length) : ∃ g off, ao = some ⟨g, off, none⟩ ∧ w.cell? ⟨g, off + j, none⟩ = some (.string (S (l.getD j []))) := by
  obtain ⟨g, off, e, hc⟩ := h (fun h => by rw [h] at hj; simp at hj)
  exact ⟨g, off, e, hc j hj⟩
theorem tsAt_nil (w : World) (ao : Option Addr) : TsAt w ao [] := fun h => absurd rfl h
instance car_ts {w w' : World} {ao : Option Addr} {l : List (List UInt8)} : Car w w' (TsAt w ao l) (TsAt w' ao l) := ⟨fun hb h => h.below hb⟩
/-- Texts as cells. -/
def tsV (l : List (List UInt8)) : List Value := l.map fun p => Value.string (S p)
theorem tsV_length (l : List (List UInt8)) : (tsV l).length = l.length := by simp [tsV]
theorem infoTx : (Tryz.prog.info? 9).map (fun i => (i.zero.map (fun z => z.cells.size), i.size, i.bytes)) = some (some 1, 1, 16) := by kernel_rfl
theorem infoTx_parts : ∃ (i0 : TypeInfo) (z : Value), Tryz.prog.info? 9 = some i0 ∧ i0.zero = some z ∧ i0.size = 1 ∧ i0.bytes = 16 ∧ z.cells.size = 1 := by
  have h := infoTx
  cases hi : Tryz.prog.info? 9 with
  | none => rw [hi] at h; cases h
  | some i0 =>
    rw [hi] at h
    cases hz : i0.zero with
    | none => simp [hz] at h
    | some z =>
      simp [hz] at h
      exact ⟨i0, z, rfl, hz, h.2.1, h.2.2, h.1⟩
theorem own_shapeT {w : World} {B : Nat} {e : TypeId} {sz : Nat} {v : Value} {n : Nat} {xs : List Value} (h : w.ownsRow B e sz v n xs) : ∃ ao cap, v = .slice ao n cap := by
  rcases h.2 with ⟨rfl, h0⟩ | ⟨g, cap, cur, rfl, _⟩
  · exact ⟨none, 0, by rw [h0]⟩
  · exact ⟨_, cap, rfl⟩
theorem own_cellT {w : World} {B : Nat} {e : TypeId} {sz : Nat} {ao : Option Addr} {cap n : Nat} {xs : List Value} (hn : 0 < n) (h : w.ownsRow B e sz (.slice ao n cap) n xs) : ∃ g, ao = some ⟨g, 0, none⟩ ∧ B ≤ g ∧ ∀ j val, xs[j]? = some val → w.cell? ⟨g, j, none⟩ = some val := by
  have h' := World.ownsRowF_of h
  rcases h.2 with ⟨h1, h0⟩ | ⟨g, cap', cur, e1, hB, _⟩
  · cases h1; omega
  · injection e1 with e1
    subst e1
    refine ⟨g, rfl, hB, fun j val hx => ?_⟩
    have hc := h'.cells (g := g) (by simp [Value.ownBlock]) j val hx
    rwa [Addr.add_lit, Nat.zero_add] at hc
theorem tsAt_own {w : World} {B : Nat} {e : TypeId} {ao : Option Addr} {cap : Nat} {l : List (List UInt8)} (h : w.ownsRow B e 1 (.slice ao l.length cap) l.length (tsV l)) : TsAt w ao l := fun hn => by
  obtain ⟨g, e1, _, hc⟩ := own_cellT (List.length_pos_iff.2 hn) h
  exact ⟨g, 0, e1, fun j hj => by rw [Nat.zero_add]; exact hc j _ (by simp [tsV, List.getD, hj])⟩
theorem tsV_append (a b : List (List UInt8)) : tsV (a ++ b) = tsV a ++ tsV b := by simp [tsV]
theorem tsV_oneC (l : List (List UInt8)) : ∀ u ∈ tsV l, u.oneCell' = true := by
  intro u hu
  obtain ⟨x, _, rfl⟩ := List.mem_map.1 hu
  rfl
theorem append_noneT (w : World) (base : Nat) (t ty e : TypeId) (i : TypeInfo) (sz : Nat) (ht : Tryz.prog.underlying t = some (.slice e)) (hi : Tryz.prog.info? e = some i) {v : Value} {n : Nat} {xs : List Value} (ho : w.ownsRow base e sz v n xs) (c : Nat) :
    (Builtin.append_ #[t, t] ty #[v, .slice none 0 c]).run Tryz.prog w = .ok v w := by
  rcases ho.2 with ⟨rfl, rfl⟩ | ⟨g, cap, cur, rfl, _, _, hc, _⟩
  · simp [Builtin.append_, run_underlying ht, sizeOf, typeInfo, hi, Builtin.lenOf, Builtin.firstCells]
  · simp [Builtin.append_, run_underlying ht, sizeOf, typeInfo, hi, Builtin.lenOf, Builtin.firstCells, hc, storeCells]
set_option maxRecDepth 100000 in
theorem append_txsT (w : World) (base : Nat) (t ty : TypeId) (i : TypeInfo) (z : Value) (ht : Tryz.prog.underlying t = some (.slice 9)) (hi : Tryz.prog.info? 9 = some i) (hz : i.zero = some z) (h1 : i.size = 1) (h2 : i.bytes = 16) (h3 : z.cells.size = 1)
    (v : Value) (n : Nat) (xs : List Value) (ho : w.ownsRow base 9 1 v n xs) (ao : Option Addr) (c : Nat) (L : List (List UInt8)) (hs : TsAt w ao L) (h63 : n + L.length ≤ 1000000) (hbase : base ≤ w.heap.size) :
    ∃ v' w', (Builtin.append_ #[t, t] ty #[v, .slice ao L.length c]).run Tryz.prog w = .ok v' w' ∧ w'.ownsRow base 9 1 v' (n + L.length) (xs ++ tsV L) ∧ w.grownBy w' v.ownBlock := by
  cases ao with
  | none =>
    have hL : L = [] := by
      cases L with
      | nil => rfl
      | cons x r => obtain ⟨g, off, e, _⟩ := hs (by simp); cases e
    subst hL
    exact ⟨v, w, append_noneT w base t ty _ i 1 ht hi ho c, by simpa [tsV] using ho, World.grownBy.refl w _⟩
  | some ad =>
    have hc : ∀ j u, (tsV L)[j]? = some u → w.cell? (ad.add j) = some u := by
      intro j u hu
      by_cases hL : L = []
      · subst hL; simp [tsV] at hu
      · obtain ⟨g, off, e, hk⟩ := hs hL
        injection e with e
        subst e
        rw [Addr.add_lit]
        have hj : j < L.length := by rw [← tsV_length]; exact (List.getElem?_eq_some_iff.1 hu).1
        rw [hk j hj]
        simp [tsV, hj] at hu
        rw [← hu]
        simp [List.getD, hj]
    obtain ⟨v', w', hr, h5, h6, _⟩ := run_append_own_at (P := Tryz.prog) w base t ty 9 i z 1 16 ht hi hz h1 h2 h3 (by decide) v n xs ho ad L.length c (tsV L) (by simp [tsV]) hc (tsV_oneC L) (by unfold maxLen; omega) (by omega) hbase
    exact ⟨v', w', hr, h5, h6⟩
set_option maxRecDepth 100000 in
theorem wpList_append_txs {w : World} {ops : Array Oper} {rest : List Oper} {o : Oper} {a : Act} {Q : Exit → Act → World → Prop} (hgd : o.guard = none) (s x : Operand) (t : TypeId)
    (hop : o.op = .call { callee := .builtin .append, args := #[s, x], argTypes := #[t, t] })
    (base : Nat) (i : TypeInfo) (z : Value) (ht : Tryz.prog.underlying t = some (.slice 9)) (hi : Tryz.prog.info? 9 = some i) (hz : i.zero = some z) (h1 : i.size = 1) (h2 : i.bytes = 16) (h3 : z.cells.size = 1)
    (v : Value) (n : Nat) (xs : List Value) (hv : a.eval s = v) (ho : w.ownsRow base 9 1 v n xs) (ao : Option Addr) (c : Nat) (L : List (List UInt8)) (hx : a.eval x = .slice ao L.length c) (hs : TsAt w ao L) (h63 : n + L.length ≤ 1000000) (hbase : base ≤ w.heap.size)
    (h : ∀ v' w', w'.ownsRow base 9 1 v' (n + L.length) (xs ++ tsV L) → w.grownBy w' v.ownBlock → wpList Tryz.prog ops Q rest (a.put o.dst v') w') :
    wpList Tryz.prog ops Q (o :: rest) a w := by
  refine wpList_plain hgd fun K hK => ?_
  obtain ⟨v', w', hrun, h5, h6⟩ := append_txsT w base t o.type i z ht hi hz h1 h2 h3 v n xs ho ao c L hs h63 hbase
  unfold Oper.wp execOp
  simp only [hop, resolve, invoke, builtin, Sem.run_bind, Sem.run_pure, Result.andThen_ok, List.map_toArray, List.map_cons, List.map_nil, hv, hx, hrun]
  exact hK _ _ (h v' w' h5 h6)

theorem tsAt_take {w : World} {o : Option Addr} {l : List (List UInt8)} (h : TsAt w o l) (k : Nat) : TsAt w o (l.take k) := fun hn => by
  have hl : l ≠ [] := fun e => hn (by rw [e]; simp)
  obtain ⟨g, off, e, hc⟩ := h hl
  refine ⟨g, off, e, fun j hj => ?_⟩
  rw [List.length_take] at hj
  rw [show (l.take k).getD j [] = l.getD j [] from by simp [List.getD, List.getElem?_take, show j < k by omega]]
  exact hc j (by omega)
theorem tsAt_drop {w : World} {g off : Nat} {l : List (List UInt8)} (h : TsAt w (some ⟨g, off, none⟩) l) (k : Nat) : TsAt w (some ⟨g, off + k, none⟩) (l.drop k) := fun hn => by
  have hl : l ≠ [] := fun e => hn (by rw [e]; simp)
  obtain ⟨g', off', e, hc⟩ := h hl
  cases e
  refine ⟨g, off + k, rfl, fun j hj => ?_⟩
  rw [List.length_drop] at hj
  rw [show (l.drop k).getD j [] = l.getD (k + j) [] from by simp [List.getD, List.getElem?_drop], Nat.add_assoc]
  exact hc (k + j) (by omega)
theorem wpList_append_txsm {w : World} {ops : Array Oper} {rest : List Oper} {o : Oper} {a : Act} {Q : Exit → Act → World → Prop} (hgd : o.guard = none) (s x : Operand) (t : TypeId)
    (hop : o.op = .call { callee := .builtin .append, args := #[s, x], argTypes := #[t, t] })
    (base : Nat) (i : TypeInfo) (z : Value) (ht : Tryz.prog.underlying t = some (.slice 9)) (hi : Tryz.prog.info? 9 = some i) (hz : i.zero = some z) (h1 : i.size = 1) (h2 : i.bytes = 16) (h3 : z.cells.size = 1)
    (v : Value) (n : Nat) (xs : List Value) (hv : a.eval s = v) (ho : w.ownsRow base 9 1 v n xs) (ao : Option Addr) (c m : Nat) (L : List (List UInt8)) (hx : a.eval x = .slice ao m c) (hm : m = L.length) (hs : TsAt w ao L) (h63 : n + m ≤ 1000000) (hbase : base ≤ w.heap.size)
    (h : ∀ v' w', w'.ownsRow base 9 1 v' (n + m) (xs ++ tsV L) → w.grownBy w' v.ownBlock → wpList Tryz.prog ops Q rest (a.put o.dst v') w') :
    wpList Tryz.prog ops Q (o :: rest) a w := by
  subst hm
  exact wpList_append_txs hgd s x t hop base i z ht hi hz h1 h2 h3 v n xs hv ho ao c L hx hs h63 hbase h
theorem tsAt_cell {w : World} {q : Nat} {x : List UInt8} (h : RowIn #[.string (S x)] 9 w q) : TsAt w (some ⟨q, 0, none⟩) [x] := fun _ => ⟨q, 0, rfl, fun j hj => by
  have : j = 0 := by simp at hj; exact hj
  subst this
  exact h.cell 0⟩
theorem own_capT {w : World} {B sz n cap : Nat} {e : TypeId} {a : Option Addr} {xs : List Value} (h : w.ownsRow B e sz (.slice a n cap) n xs) : n ≤ cap := by
  rcases h.2 with ⟨h1, h0⟩ | ⟨g, cap', cur, h1, _, _, h2, _⟩
  · omega
  · injection h1 with _ _ h3
    omega
theorem M.putK_pos (s : List UInt8) (l : List (List UInt8)) : ∃ p, p ≤ l.length ∧ (∀ j, j < p → Op.bytesLess (l.getD j []) s = true) ∧ (p < l.length → Op.bytesLess (l.getD p []) s = false) := by
  induction l with
  | nil => exact ⟨0, by simp, fun j hj => by omega, fun h => by simp at h⟩
  | cons x l ih =>
    cases q : Op.bytesLess x s with
    | true =>
      obtain ⟨p, h1, h2, h3⟩ := ih
      refine ⟨p + 1, by simpa using h1, fun j hj => ?_, fun h => by simpa using h3 (by simpa using h)⟩
      cases j with
      | zero => simpa using q
      | succ j => simpa using h2 j (by omega)
    | false => exact ⟨0, by simp, fun j hj => by omega, fun _ => by simpa using q⟩
def PutK19 (s : List UInt8) (l : List (List UInt8)) (w : World) (e : Ending) (w' : World) : Prop := ∃ ao c, e = .returned (.slice ao (M.putK s l).length c) ∧ TsAt w' ao (M.putK s l) ∧ (M.putK s l).length ≤ c ∧ Below w.heap.size w w'
set_option maxHeartbeats 4000000 in
set_option maxRecDepth 100000 in
theorem putK19_any (l : List (List UInt8)) (hl : l.length ≤ 100000) (o : Option Addr) (c : Nat) (hc : l.length ≤ c) (s : List UInt8) (w : World) (h : TsAt w o l) :
    Calls Tryz.prog 38 #[.slice o l.length c, .string (S s)] w (PutK19 s l w) := by
  have HA := Lib.hid h
  obtain ⟨i0, zz, hi0, hz0, h01, h02, h03⟩ := infoTx_parts
  clear h
  obtain ⟨p, hp, hL, hQ⟩ := M.putK_pos s l
  have HP := Lib.hid (M.putK_at hp hL hQ)
  have HL := Lib.hid hL
  have HQ := Lib.hid hQ
  clear hL hQ
  go_enter Tryz.func38, Tryz.ntmps38
  go_wp2_with fail
  go_loopw [5] (fun i wr => ∃ k : Nat, k ≤ p ∧ i = .int .i64 k ∧ w = wr) (fun i _ => p - (intOf i).toNat)
  case atStart => exact ⟨0, Nat.zero_le _, rfl, rfl⟩
  case round =>
    obtain ⟨k, hk, rfl, rfl⟩ := hrel
    by_cases hlt : k < p
    · have hkl : k < l.length := by omega
      have hki : (k : Int) < (l.length : Int) := by omega
      obtain ⟨g, off, rfl, x0⟩ := HA.out.off k hkl
      have d1 := HL.out k hlt
      have HLT := Lib.hid hlt
      generalize l.getD k [] = y at *
      clear hlt
      go_wp2_with fail
      go_roundw
      case rel => exact ⟨k + 1, by have := HLT.out; omega, by go_num, trivial⟩
      case measure => have := HLT.out; simp [intOf]; omega
    · obtain rfl : k = p := by omega
      have HLP := Lib.hid (show k = (l.take k).length from by rw [List.length_take]; omega)
      have HLD := Lib.hid (show l.length - k = (l.drop k).length from by rw [List.length_drop])
      have HT := Lib.hid (tsAt_take HA.out k)
      have hkc : (k : Int) ≤ (c : Int) := by omega
      have hkl : (k : Int) ≤ (l.length : Int) := by omega
      by_cases hlast : k < l.length
      · have hki : (k : Int) < (l.length : Int) := by omega
        obtain ⟨g, off, rfl, x0⟩ := HA.out.off k hlast
        have d1 := HQ.out hlast
        have HD := Lib.hid (tsAt_drop HA.out k)
        have q0 : ¬ (c = k) := by omega
        by_cases hy : l.getD k [] = s
        · have HPE := Lib.hid (show M.putK s l = l from by rw [HP.out, if_pos ⟨hlast, hy⟩])
          have d2 : (l.getD k [] == s) = true := beq_iff_eq.2 hy
          clear hy
          generalize l.getD k [] = y at *
          go_wp2_with fail
          go_ret
          exact ⟨_, _, by rw [HPE.out]; rfl, by rw [HPE.out]; exact HA.out, by rw [HPE.out]; exact hc, Below.refl _ _⟩
        · have HPE := Lib.hid (show l.take k ++ [s] ++ l.drop k = M.putK s l from by rw [HP.out, if_neg (fun q => hy q.2)]; simp)
          have d2 : (l.getD k [] == s) = false := beq_eq_false_iff_ne.2 hy
          clear hy
          have FIN := Lib.hid (show ∀ (a5 : Option Addr) (c5 : Nat) (w5 : World), w5.ownsRow w.heap.size 9 1 (.slice a5 (k + 1 + (l.length - k)) c5) (k + 1 + (l.length - k)) (tsV (l.take k) ++ tsV [s] ++ tsV (l.drop k)) → Below w.heap.size w w5 → PutK19 s l w (.returned (.slice a5 (k + 1 + (l.length - k)) c5)) w5 from fun a5 c5 w5 h hb => by
            rw [← tsV_append, ← tsV_append, HPE.out] at h
            have hle : (M.putK s l).length = k + 1 + (l.length - k) := by
              have := congrArg List.length HPE.out
              simp only [List.length_append, List.length_take, List.length_drop, List.length_cons, List.length_nil] at this
              omega
            exact ⟨a5, c5, by rw [hle], tsAt_own (by rw [hle]; exact h), by rw [hle]; exact own_capT h, hb⟩)
          generalize l.getD k [] = y at *
          go_wp2_with (first
            | (have _t := HO3; clear _t; at_builtin; refine wpList_append_txsm rfl _ _ 73 rfl w.heap.size i0 zz Tryz.underlying73 hi0 hz0 h01 h02 h03 (.slice a3 (k + 1) c3) (k + 1) _ rfl HO3.out (some ⟨g, off + k, none⟩) (c - k) (l.length - k) (l.drop k) rfl HLD.out (HD.out.below HB3.out) (by omega) HB3.out.size ?_; intro v4 w4 ho4 hg4; obtain ⟨a4, c4, rfl⟩ := own_shapeT ho4; have HF := Lib.hid (FIN.out a4 c4 w4 ho4 (HB3.out.grown hg4 HB3.out.size (fun q hq => (HO3.out.lt q hq).1))); clear ho4 hg4)
            | (have _t := HO2; clear _t; at_builtin; refine wpList_append_txsm rfl _ _ 73 rfl w.heap.size i0 zz Tryz.underlying73 hi0 hz0 h01 h02 h03 (.slice a2 k c2) k _ rfl (HO2.out.alloc _) (some ⟨w2.heap.size, 0, none⟩) 1 1 [s] rfl rfl (tsAt_cell (rowIn_new _ _ w2)) (by omega) (HB2.out.alloc HB2.out.size _).size ?_; intro v3 w3 ho3 hg3; obtain ⟨a3, c3, rfl⟩ := own_shapeT ho3; have HO3 := Lib.hid ho3; have HB3 := Lib.hid ((HB2.out.alloc HB2.out.size (.cells #[.string (S s)] 9)).grown hg3 (HB2.out.alloc HB2.out.size _).size (fun q hq => (HO2.out.lt q hq).1)); clear ho3 hg3)
            | (at_builtin; refine wpList_append_txsm rfl _ _ 73 rfl w.heap.size i0 zz Tryz.underlying73 hi0 hz0 h01 h02 h03 (.slice none 0 0) 0 [] rfl (World.ownsRow_nil _ _ _ _) (some ⟨g, off, none⟩) c k (l.take k) rfl HLP.out HT.out (by omega) (Nat.le_refl _) ?_; intro v2 w2 ho2 hg2; rw [Nat.zero_add, List.nil_append] at ho2; obtain ⟨a2, c2, rfl⟩ := own_shapeT ho2; have HO2 := Lib.hid ho2; have HB2 := Lib.hid ((Below.refl w.heap.size w).grown hg2 (Nat.le_refl _) (fun q hq => by cases hq)); clear ho2 hg2))
          go_ret
          exact HF.out
      · have e0 : decide ((k : Int) < (l.length : Int)) = false := decide_eq_false (by omega)
        have e1 : decide (k < l.length) = false := decide_eq_false hlast
        have e2 : l.length - k = 0 := by omega
        have hkl' : l.length = k := by omega
        have HPE := Lib.hid (show l.take k ++ [s] ++ l.drop k = M.putK s l from by rw [HP.out, if_neg (fun q => hlast q.1)]; simp)
        clear hlast
        have FIN := Lib.hid (show ∀ (a5 : Option Addr) (c5 : Nat) (w5 : World), w5.ownsRow w.heap.size 9 1 (.slice a5 (k + 1 + (l.length - k)) c5) (k + 1 + (l.length - k)) (tsV (l.take k) ++ tsV [s] ++ tsV (l.drop k)) → Below w.heap.size w w5 → PutK19 s l w (.returned (.slice a5 (k + 1 + (l.length - k)) c5)) w5 from fun a5 c5 w5 h hb => by
          rw [← tsV_append, ← tsV_append, HPE.out] at h
          have hle : (M.putK s l).length = k + 1 + (l.length - k) := by
            have := congrArg List.length HPE.out
            simp only [List.length_append, List.length_take, List.length_drop, List.length_cons, List.length_nil] at this
            omega
          exact ⟨a5, c5, by rw [hle], tsAt_own (by rw [hle]; exact h), by rw [hle]; exact own_capT h, hb⟩)
        go_wp2_with (first
          | (have _t := HO3; clear _t; at_builtin; refine wpList_append_txsm rfl _ _ 73 rfl w.heap.size i0 zz Tryz.underlying73 hi0 hz0 h01 h02 h03 (.slice a3 (k + 1) c3) (k + 1) _ rfl HO3.out _ _ _ [] rfl (by simp) (tsAt_nil _ _) (by omega) HB3.out.size ?_; intro v4 w4 ho4 hg4; obtain ⟨a4, c4, rfl⟩ := own_shapeT ho4; have HF := Lib.hid (FIN.out a4 c4 w4 (by have e9 : l.drop k = [] := List.drop_eq_nil_of_le (by omega); rw [e9]; have e8 : l.length - k = 0 := (by omega); rw [e8]; first | exact ho4 | simpa using ho4) (HB3.out.grown hg4 HB3.out.size (fun q hq => (HO3.out.lt q hq).1))); clear ho4 hg4)
          | (have _t := HO2; clear _t; at_builtin; refine wpList_append_txsm rfl _ _ 73 rfl w.heap.size i0 zz Tryz.underlying73 hi0 hz0 h01 h02 h03 (.slice a2 k c2) k _ rfl (HO2.out.alloc _) (some ⟨w2.heap.size, 0, none⟩) 1 1 [s] rfl rfl (tsAt_cell (rowIn_new _ _ w2)) (by omega) (HB2.out.alloc HB2.out.size _).size ?_; intro v3 w3 ho3 hg3; obtain ⟨a3, c3, rfl⟩ := own_shapeT ho3; have HO3 := Lib.hid ho3; have HB3 := Lib.hid ((HB2.out.alloc HB2.out.size (.cells #[.string (S s)] 9)).grown hg3 (HB2.out.alloc HB2.out.size _).size (fun q hq => (HO2.out.lt q hq).1)); clear ho3 hg3)
          | (at_builtin; refine wpList_append_txsm rfl _ _ 73 rfl w.heap.size i0 zz Tryz.underlying73 hi0 hz0 h01 h02 h03 (.slice none 0 0) 0 [] rfl (World.ownsRow_nil _ _ _ _) o c k (l.take k) rfl HLP.out HT.out (by omega) (Nat.le_refl _) ?_; intro v2 w2 ho2 hg2; rw [Nat.zero_add, List.nil_append] at ho2; obtain ⟨a2, c2, rfl⟩ := own_shapeT ho2; have HO2 := Lib.hid ho2; have HB2 := Lib.hid ((Below.refl w.heap.size w).grown hg2 (Nat.le_refl _) (fun q hq => by cases hq)); clear ho2 hg2))
        all_goals (go_ret; have h := HF.out; rw [show l.length - k = 0 from by omega] at h; exact h)

end Go.Proofs.YtnhljlmelbiljaaGreat
