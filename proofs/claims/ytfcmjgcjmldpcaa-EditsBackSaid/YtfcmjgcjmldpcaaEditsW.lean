/- Layer 16: a tablet parted: split, by a contract. -/
import Derived.Test.YtfcmjgcjmldpcaaEditsQ
import Derived.Test.YtfcmjgcjmldpcaaLast
namespace Go.Proofs.Ytfcmjgcjmldpcaa
set_option linter.unusedVariables false
set_option linter.unusedSimpArgs false
open Go Go.RowKit
attribute [local go_sem ↓] run_index_S
attribute [local go_sem] S_append S_extract

/-- A struct stored into the middle of a block that is known whole. -/
theorem wp_store_at16 {o : Oper} {a : Act} {w : World} {K : Act → World → Prop} {Q : Exit → Act → World → Prop} (ty : TypeId) (x y : Operand) (ho : o.op = .store ty x y)
    (g off : Nat) (cells : Array Value) (hx : a.eval x = .pointer (some ⟨g, off, none⟩)) (hy : a.eval y = .agg cells)
    (t : TypeId) (cur : Array Value) (hg : w.heap[g]? = some (.cells cur t (0, 0))) (hi : (Try.prog.info? ty).map (·.size) = some cells.size)
    (hfit : off + cells.size ≤ cur.size) (h1 : ∀ v ∈ cells.toList, v.oneCell' = true)
    (h : K (a.put o.dst undef) (w.setRow g (cur.toList.take off ++ cells.toList ++ cur.toList.drop (off + cells.size)).toArray)) : o.wp Try.prog a w K Q := by
  have hr : (storeVar ty ⟨g, off, none⟩ (.agg cells)).run Try.prog w = .ok () (w.setRow g (cur.toList.take off ++ cells.toList ++ cur.toList.drop (off + cells.size)).toArray) := by
    have := run_storeCells_at (P := Try.prog) g off t cells.toList 0 cur w hg (by simpa using hfit) h1
    cases hq : Try.prog.info? ty with
    | none => simp [hq] at hi
    | some i =>
      have hs : cells.size = i.size := by simp [hq] at hi; omega
      simpa [storeVar, sizeOf, typeInfo, hq, Value.cells, hs] using this
  unfold Oper.wp execOp
  simp only [ho, hx, hy, Instr.storeAt, Instr.sureAddr, Sem.run_bind, Sem.run_pure, Result.andThen_ok, hr]
  exact h
theorem wpList_store_at16 {ops : Array Oper} {rest : List Oper} {o : Oper} {a : Act} {w : World} {Q : Exit → Act → World → Prop} (hgd : o.guard = none) (ty : TypeId) (x y : Operand) (ho : o.op = .store ty x y)
    (g off : Nat) (cells : Array Value) (hx : a.eval x = .pointer (some ⟨g, off, none⟩)) (hy : a.eval y = .agg cells)
    (t : TypeId) (cur : Array Value) (hg : w.heap[g]? = some (.cells cur t (0, 0))) (hi : (Try.prog.info? ty).map (·.size) = some cells.size)
    (hfit : off + cells.size ≤ cur.size) (h1 : ∀ v ∈ cells.toList, v.oneCell' = true)
    (h : wpList Try.prog ops Q rest (a.put o.dst undef) (w.setRow g (cur.toList.take off ++ cells.toList ++ cur.toList.drop (off + cells.size)).toArray)) : wpList Try.prog ops Q (o :: rest) a w :=
  wpList_plain hgd fun _ hK => wp_store_at16 ty x y ho g off cells hx hy t cur hg hi hfit h1 (hK _ _ h)
theorem wp_copy_run16 (w : World) {o : Oper} {a : Act} {K : Act → World → Prop} {Q : Exit → Act → World → Prop} (d s : Operand) (t t' : TypeId)
    (ho : o.op = .call { callee := .builtin .copy, args := #[d, s], argTypes := #[t, t'] }) (v u : Value) (hd : a.eval d = v) (hs : a.eval s = u) {v' : Value} {w' : World}
    (hr : (Builtin.copy_ #[t, t'] o.type #[v, u]).run Try.prog w = .ok v' w') (h : K (a.put o.dst v') w') : o.wp Try.prog a w K Q := by
  unfold Oper.wp execOp
  simp only [ho, resolve, invoke, builtin, Sem.run_bind, Sem.run_pure, Result.andThen_ok, List.map_toArray, List.map_cons, List.map_nil, hd, hs, hr]
  exact h
theorem wpList_copy_run16 (w : World) {ops : Array Oper} {rest : List Oper} {o : Oper} {a : Act} {Q : Exit → Act → World → Prop} (hgd : o.guard = none) (d s : Operand) (t t' : TypeId)
    (ho : o.op = .call { callee := .builtin .copy, args := #[d, s], argTypes := #[t, t'] }) (v u : Value) (hd : a.eval d = v) (hs : a.eval s = u) {v' : Value} {w' : World}
    (hr : (Builtin.copy_ #[t, t'] o.type #[v, u]).run Try.prog w = .ok v' w') (h : wpList Try.prog ops Q rest (a.put o.dst v') w') : wpList Try.prog ops Q (o :: rest) a w :=
  wpList_plain hgd fun _ hK => wp_copy_run16 w d s t t' ho v u hd hs hr (hK _ _ h)
theorem step_copy_run16 {ops : Array Oper} {o : Oper} {a : Act} {w : World} {K : Act → World → Prop} {Q : Exit → Act → World → Prop} {E : Prop}
    (hg : o.guard = none) (d x : Operand) (dT sT : TypeId) (hop : o.op = Op.call { callee := Callee.builtin Builtin.copy, args := #[d, x], argTypes := #[dT, sT] })
    (v u : Value) (hd : a.eval d = v) (hx : a.eval x = u) {v' : Value} {w' : World} (hr : (Builtin.copy_ #[dT, sT] o.type #[v, u]).run Try.prog w = .ok v' w') (hK : K (a.put o.dst v') w') :
    if Region.wanted o (yielded ops a.tmps) = true then Oper.wp Try.prog o a w K Q else E := by
  have hw : Region.wanted o (yielded ops a.tmps) = true := by simp [Region.wanted, hg]
  rw [if_pos hw]
  exact wp_copy_run16 w d x dT sT hop v u hd hx hr hK
/-- Nothing to be copied. -/
theorem run_copy_none16 (w : World) (dT sT ty elem : TypeId) (hu : Try.prog.underlying dT = some (.slice elem)) (sz : Nat) (hs : (Try.prog.info? elem).map (·.size) = some sz) (a : Option Addr) (d : Addr) (dLen dCap sLen sCap : Nat) (h : Nat.min sLen dLen = 0) :
    (Builtin.copy_ #[dT, sT] ty #[.slice (some d) dLen dCap, .slice a sLen sCap]).run Try.prog w = .ok (goInt 0) w := by
  cases hq : Try.prog.info? elem with
  | none => simp [hq] at hs
  | some i =>
    cases a with
    | none => simp [Builtin.copy_, run_underlying hu, Builtin.lenOf, Builtin.firstCells, sizeOf, typeInfo, hq, h, storeCells]; try rfl
    | some a =>
      have hl := run_loadCells_list (P := Try.prog) w a [] (by simp)
      simp only [List.length_nil] at hl
      simp [Builtin.copy_, run_underlying hu, Builtin.lenOf, Builtin.firstCells, sizeOf, typeInfo, hq, h, hl, storeCells]
      try rfl
/-- 'make([]Tablet, n)'. -/
theorem make_tabs (t : TypeId) (ht : Try.prog.underlying t = some (.slice 41)) (n : Nat) (hn : n ≤ 1000000) (kl kc : IntKind) :
    ∃ C : Array Value, C.size = n * 2 ∧ ∀ w : World, (Instr.makeSlice t (.int kl (n : Int)) (.int kc (n : Int))).run Try.prog w = .ok (.slice (some ⟨w.heap.size, 0, none⟩) n n) (w.alloc (.cells C 41)) := by
  obtain ⟨i0, z0, hi, hz0, hz1, hz2, hz3⟩ := infoTb_parts
  refine ⟨madeCells z0.cells (n * 2), by simp [size_madeCells], fun w => ?_⟩
  have hr := run_make (P := Try.prog) w t _ i0 z0 ht hi hz0 kl kc n n (by omega) (by omega) (by rw [hz2]; omega) (by omega)
  rw [hz1] at hr
  exact hr
theorem tbC_app (a b : List Rt) : tbC (a ++ b) = tbC a ++ tbC b := by simp [tbC]
theorem tbC_take (Rs : List Rt) (k : Nat) : tbC (Rs.take k) = (tbC Rs).take (k * 2) := by
  induction Rs generalizing k with
  | nil => simp [tbC]
  | cons m t ih =>
    cases k with
    | zero => simp [tbC]
    | succ k =>
      have := ih k
      rw [show (k + 1) * 2 = k * 2 + 1 + 1 from by omega]
      simp only [tbC, List.flatMap_cons, tbL, List.cons_append, List.nil_append, List.take_succ_cons] at this ⊢
      rw [this]
theorem tbC_drop (Rs : List Rt) (k : Nat) : tbC (Rs.drop k) = (tbC Rs).drop (k * 2) := by
  induction Rs generalizing k with
  | nil => simp [tbC]
  | cons m t ih =>
    cases k with
    | zero => simp
    | succ k =>
      have := ih k
      rw [show (k + 1) * 2 = k * 2 + 1 + 1 from by omega]
      simp only [tbC, List.flatMap_cons, tbL, List.cons_append, List.nil_append, List.drop_succ_cons] at this ⊢
      exact this
theorem infoTb_size : (Try.prog.info? 41).map (·.size) = some 2 := by
  obtain ⟨i0, z, hi, _, h2, _⟩ := infoTb_parts
  rw [hi]; simp [h2]
/-- A row being made beside a state of one's own. -/
structure SpI (w0 wk : World) (b g c G : Nat) (Rk : List Rt) (log next : Int) (D : List Value) (w : World) : Prop where
  own : Own16 w0 g c Rk w
  bx : BkIn #[.slice (some ⟨g, 0, none⟩) Rk.length c, .int .i64 log, .int .i64 next] 24 w b
  row : BkIn D.toArray 41 w G
  gG : g < G
  bG : b < G
  b0 : w0.heap.size ≤ b
  kp : Kp b wk w
section
variable {w0 wk w w' : World} {b g c G : Nat} {Rk : List Rt} {log next : Int} {D : List Value}
theorem SpI.below (h : SpI w0 wk b g c G Rk log next D w) (hb : Below w.heap.size w w') : SpI w0 wk b g c G Rk log next D w' := ⟨h.own.below hb, h.bx.below hb, h.row.below hb, h.gG, h.bG, h.b0, h.kp.below hb⟩
theorem SpI.drew (h : SpI w0 wk b g c G Rk log next D w) : SpI w0 wk b g c G Rk log next D w.drew := h.below ((Below.refl _ w).drew)
theorem Own16.rowPut (h : Own16 w0 g c Rk w) {E : Array Value} (hE : BkIn E 41 w G) (hG : G ≠ g) (h0 : w0.heap.size ≤ G) (C : Array Value) : Own16 w0 g c Rk (w.setRow G C) :=
  ⟨own_row16 h.row (by simp [Value.ownBlock]; omega) _, fun r hr => own_row16 (h.own r hr) (own_of_blk hE (h.own r hr) (by decide)) _, below_row16 h.bel h0 _⟩
theorem BkIn.rowOther {C : Array Value} {T : TypeId} {w : World} {b G : Nat} (h : BkIn C T w b) (hne : b ≠ G) (D : Array Value) : BkIn C T (w.setRow G D) b := (setRow_other w G b D hne).trans h
theorem BkIn.rowPut {C : Array Value} {T : TypeId} {w : World} {G : Nat} (h : BkIn C T w G) (D : Array Value) : BkIn D T (w.setRow G D) G := setRow_heap w G C D T _ h
theorem SpI.put (h : SpI w0 wk b g c G Rk log next D w) (E : List Value) : SpI w0 wk b g c G Rk log next E (w.setRow G E.toArray) :=
  ⟨h.own.rowPut h.row (by have := h.gG; omega) (by have := h.own.row.lt g rfl; have := h.gG; omega) _, h.bx.rowOther (by have := h.bG; omega) _, h.row.rowPut _, h.gG, h.bG, h.b0, h.kp.row h.row _⟩
theorem SpI.src (h : SpI w0 wk b g c G Rk log next D w) {j : Nat} {v : Value} (hv : (tbC Rk)[j]? = some v) : w.cell? ⟨g, j, none⟩ = some v := by
  have hj : j < Rk.length * 2 := by rw [← tbC_length]; exact (List.getElem?_eq_some_iff.1 hv).1
  rw [h.own.row.cellAt j hj, hv]
/-- The row that was made, for the old one. -/
theorem SpI.out (h : SpI w0 wk b g c G Rk log next D w) {Rn : List Rt} {cap : Nat} (hD : D = tbC Rn) (hcap : cap = Rn.length) (hM : cap ≤ maxLen) (hn : ∀ r, r ∈ Rn → OwnN w0.heap.size w r) : EdOut w0 b (tbs Rn) log next (w.setCell ⟨b, 0, none⟩ (.slice (some ⟨G, 0, none⟩) Rn.length cap)) ∧ Kp b wk (w.setCell ⟨b, 0, none⟩ (.slice (some ⟨G, 0, none⟩) Rn.length cap)) := by
  have h0 := h.own.row.lt g rfl
  have hgG := h.gG
  have hbG := h.bG
  have ho : Own16 w0 G cap Rn w := ⟨⟨tbC_length Rn, .inr ⟨G, cap, D.toArray, rfl, by omega, h.row, by omega, hM, by rw [hD]; simp [tbC_length, hcap], by rw [hD]; simp only; exact List.take_of_length_le (by rw [tbC_length]; omega)⟩⟩, hn, h.own.bel⟩
  refine ⟨(ho.box h.bx h.b0 0 _).out (c := cap) ?_, h.kp.box 0 _⟩
  have := h.bx.set 0 (.slice (some ⟨G, 0, none⟩) Rn.length cap)
  simpa using this
end
def splitL (Rk : List Rt) (k : Nat) (r : Rt) : List Rt := Rk.take (k + 1) ++ r :: Rk.drop (k + 1)
theorem splitL_len (Rk : List Rt) (k : Nat) (r : Rt) (hk : k < Rk.length) : (splitL Rk k r).length = Rk.length + 1 := by simp [splitL]; omega
theorem tbs_splitL (Rk : List Rt) (k : Nat) (r : Rt) : tbs (splitL Rk k r) = (tbs Rk).take (k + 1) ++ r.tb :: (tbs Rk).drop (k + 1) := by simp [tbs, splitL, List.map_take, List.map_drop]
def SplitR (w0 wk : World) (b k : Nat) (Rk : List Rt) (key : List UInt8) (log next : Int) (e : Ending) (w' : World) : Prop :=
  e = .returned (.tuple #[]) ∧ EdOut w0 b ((tbs Rk).take (k + 1) ++ ⟨key, (Rk.getD k rt0).l⟩ :: (tbs Rk).drop (k + 1)) log next w' ∧ Kp b wk w'

theorem tbC_one (r : Rt) : tbC [r] = tbL r := by simp [tbC]
theorem splitC (Rk : List Rt) (k : Nat) (r : Rt) : tbC (splitL Rk k r) = tbC (Rk.take (k + 1)) ++ tbL r ++ tbC (Rk.drop (k + 1)) := by
  unfold splitL
  rw [show r :: Rk.drop (k + 1) = [r] ++ Rk.drop (k + 1) from rfl, tbC_app, tbC_app, tbC_one, List.append_assoc]
/-- The two copies. -/
theorem split_cp {w0 wk w : World} {b g c G : Nat} {Rk : List Rt} {log next : Int} {D : List Value} (h : SpI w0 wk b g c G Rk log next D w) {k : Nat} (hk : k < Rk.length) (hD : D.length = (Rk.length + 1) * 2) :
    (∀ ty dc sc, (Builtin.copy_ #[22, 22] ty #[.slice (some ⟨G, 0, none⟩) (Rk.length + 1) dc, .slice (some ⟨g, 0, none⟩) (k + 1) sc]).run Try.prog w = .ok (goInt ((k : Int) + 1)) (w.setRow G (tbC (Rk.take (k + 1)) ++ D.drop ((k + 1) * 2)).toArray)) := fun ty dc sc => by
  have hl : (tbC (Rk.take (k + 1))).length = (k + 1) * 2 := by rw [tbC_length, List.length_take]; omega
  have := run_copy16 (P := Try.prog) w 22 22 ty 41 2 G 0 (Rk.length + 1) dc ⟨g, 0, none⟩ (k + 1) sc D.toArray 41 (tbC (Rk.take (k + 1))) Try.underlying22 infoTb_size h.row
    (by rw [hl]; simp only [Nat.min_def]; rw [if_pos (by omega)])
    (fun j v hv => by
      rw [Addr.add_lit, Nat.zero_add]
      refine h.src ?_
      rw [tbC_take] at hv
      rw [List.getElem?_take] at hv
      split at hv
      · exact hv
      · cases hv)
    (by rw [hl]; simp [hD]; omega) (tbC_oneC _)
  rw [this]
  have e : Nat.min (k + 1) (Rk.length + 1) = k + 1 := by simp only [Nat.min_def]; rw [if_pos (by omega)]
  rw [e, hl]
  simp
theorem split_cp2 {w0 wk w : World} {b g c G : Nat} {Rk : List Rt} {log next : Int} {D : List Value} (h : SpI w0 wk b g c G Rk log next D w) {k : Nat} (hk : k + 1 < Rk.length) (hD : D.length = (Rk.length + 1) * 2) :
    (∀ ty dc sc, (Builtin.copy_ #[22, 22] ty #[.slice (some ⟨G, (k + 2) * 2, none⟩) (Rk.length + 1 - (k + 2)) dc, .slice (some ⟨g, (k + 1) * 2, none⟩) (Rk.length - (k + 1)) sc]).run Try.prog w = .ok (goInt ((Rk.length - (k + 1) : Nat) : Int)) (w.setRow G (D.take ((k + 2) * 2) ++ tbC (Rk.drop (k + 1))).toArray)) := fun ty dc sc => by
  have hl : (tbC (Rk.drop (k + 1))).length = (Rk.length - (k + 1)) * 2 := by rw [tbC_length, List.length_drop]
  have hm : Nat.min (Rk.length - (k + 1)) (Rk.length + 1 - (k + 2)) = Rk.length - (k + 1) := by simp only [Nat.min_def]; split <;> omega
  have hf : (k + 2) * 2 + (Rk.length - (k + 1)) * 2 = (Rk.length + 1) * 2 := by omega
  have := run_copy16 (P := Try.prog) w 22 22 ty 41 2 G ((k + 2) * 2) (Rk.length + 1 - (k + 2)) dc ⟨g, (k + 1) * 2, none⟩ (Rk.length - (k + 1)) sc D.toArray 41 (tbC (Rk.drop (k + 1))) Try.underlying22 infoTb_size h.row
    (by rw [hl, hm])
    (fun j v hv => by
      rw [Addr.add_lit]
      refine h.src ?_
      rw [tbC_drop, List.getElem?_drop] at hv
      exact hv)
    (by rw [hl, hf]; simp [hD]) (tbC_oneC _)
  have e1 : D.toArray.toList.drop ((Rk.length + 1) * 2) = [] := List.drop_eq_nil_of_le (by simp [hD])
  rw [this, hm, hl, hf, e1, List.append_nil]
theorem wpList_store_spi {w0 wk w : World} {b g c G : Nat} {Rk : List Rt} {log next : Int} {D : List Value} (h : SpI w0 wk b g c G Rk log next D w) {ops : Array Oper} {rest : List Oper} {o : Oper} {a : Act} {Q : Exit → Act → World → Prop} (hgd : o.guard = none) (x y : Operand) (ho : o.op = .store 41 x y)
    (off : Nat) (u v : Value) (hx : a.eval x = .pointer (some ⟨G, off, none⟩)) (hy : a.eval y = .agg #[u, v]) (hfit : off + 2 ≤ D.length) (hu : u.oneCell' = true) (hv : v.oneCell' = true)
    (hK : ∀ w', SpI w0 wk b g c G Rk log next (D.take off ++ [u, v] ++ D.drop (off + 2)) w' → w'.heap.size = w.heap.size → (∀ B r, OwnN B w r → OwnN B w' r) → wpList Try.prog ops Q rest (a.put o.dst undef) w') : wpList Try.prog ops Q (o :: rest) a w := by
  refine wpList_store_at16 hgd 41 x y ho G off #[u, v] hx hy 41 D.toArray h.row infoTb_size (by simpa using hfit) (by simp [hu, hv]) ?_
  exact hK _ (h.put _) (by simp) (fun B r hr => own_row16 hr (own_of_blk h.row hr (by decide)) _)
theorem split_D (Rk : List Rt) (D2 : List Value) (k : Nat) (hk : k < Rk.length) (hl : D2.length = (Rk.length + 1) * 2) (ht : D2.take ((k + 1) * 2) = tbC (Rk.take (k + 1))) :
    (D2.take ((k + 2) * 2) ++ tbC (Rk.drop (k + 1))).length = (Rk.length + 1) * 2 ∧ (D2.take ((k + 2) * 2) ++ tbC (Rk.drop (k + 1)))[k * 2 + 1]? = some (.slice (Rk.getD k rt0).o (Rk.getD k rt0).l.length (Rk.getD k rt0).k) ∧
      ∀ r, (D2.take ((k + 2) * 2) ++ tbC (Rk.drop (k + 1))).take ((k + 1) * 2) ++ [.string (S r.f), .slice r.o r.l.length r.k] ++ (D2.take ((k + 2) * 2) ++ tbC (Rk.drop (k + 1))).drop ((k + 1) * 2 + 2) = tbC (splitL Rk k r) := by
  have h2 : (D2.take ((k + 2) * 2)).length = (k + 2) * 2 := by rw [List.length_take, hl]; omega
  have h3 : (tbC (Rk.drop (k + 1))).length = (Rk.length - (k + 1)) * 2 := by rw [tbC_length, List.length_drop]
  have h4 : (D2.take ((k + 2) * 2) ++ tbC (Rk.drop (k + 1))).take ((k + 1) * 2) = tbC (Rk.take (k + 1)) := by
    rw [List.take_append_of_le_length (by omega), List.take_take, Nat.min_eq_left (by omega)]; exact ht
  refine ⟨by rw [List.length_append, h2, h3]; omega, ?_, fun r => ?_⟩
  · have h5 : k * 2 + 1 < (k + 1) * 2 := by omega
    have h6 : ((D2.take ((k + 2) * 2) ++ tbC (Rk.drop (k + 1))).take ((k + 1) * 2))[k * 2 + 1]? = (D2.take ((k + 2) * 2) ++ tbC (Rk.drop (k + 1)))[k * 2 + 1]? := by rw [List.getElem?_take, if_pos h5]
    rw [← h6, h4, tbC_get (Rk.take (k + 1)) k 1 (by rw [List.length_take]; omega) (by omega)]
    have : (Rk.take (k + 1)).getD k rt0 = Rk.getD k rt0 := by simp [List.getD, List.getElem?_take]
    rw [this]; rfl
  · rw [h4, show (k + 1) * 2 + 2 = (k + 2) * 2 from by omega, List.drop_left' h2, splitC]
    rfl
set_option maxHeartbeats 4000000 in
set_option maxRecDepth 100000 in
theorem split16_any (w0 : World) (b g c k : Nat) (Rs Rk : List Rt) (log next : Int) (hk : k < Rs.length) (hn : Rs.length ≤ 16) (hl : (Rk.getD k rt0).l.length ≤ 100000) (key : List UInt8) (w : World) (h : Ahd w0 b g c Rs Rk log next w) :
    Calls Try.prog 51 #[.pointer (some ⟨b, 0, none⟩), .int .i64 k, .string (S key)] w (SplitR w0 w b k Rk key log next) := by
  have hlen : Rk.length = Rs.length := h.cl.len
  have hb := h.bx
  rw [← hlen] at hb hk hn
  obtain ⟨C, hC, hmk⟩ := make_tabs 22 Try.underlying22 (Rk.length + 1) (by omega) .i64 .i64
  simp only [Int.natCast_add, Int.natCast_one] at hmk
  have ew : IntKind.i64.wrap ((Rk.length : Int) + 1) = (Rk.length : Int) + 1 := IntWalk.i64_in _ (by omega)
  have ek1 : IntKind.i64.wrap ((k : Int) + 1) = (k : Int) + 1 := IntWalk.i64_in _ (by omega)
  have ek2 : IntKind.i64.wrap ((k : Int) + 2) = (k : Int) + 2 := IntWalk.i64_in _ (by omega)
  have hgw := h.cl.row.lt g rfl
  have hbw := hb.lt
  have HS1 := Lib.hid (show SpI w0 w b g c w.heap.size Rk log next C.toList (w.alloc (.cells C 41)) from
    ⟨h.own.below ((Below.refl _ _).alloc (Nat.le_refl _) _), hb.below ((Below.refl _ _).alloc (Nat.le_refl _) _), by rw [Array.toArray_toList]; exact bkIn_new C 41 w, hgw.2, hbw, h.b0, (Kp.refl b w).below ((Below.refl _ _).alloc (Nat.le_refl _) _)⟩)
  have HCP := Lib.hid (split_cp HS1.out hk (by simpa using hC))
  have hcp := HCP.out
  have z0 : w.cell? ⟨b, 0, none⟩ = some (.slice (some ⟨g, 0, none⟩) Rk.length c) := hb.cell 0
  have z1 : (w.alloc (.cells C 41)).cell? ⟨b, 0, none⟩ = some (.slice (some ⟨g, 0, none⟩) Rk.length c) := HS1.out.bx.cell 0
  have HOW := Lib.hid h.own
  have hck : Rk.length ≤ c := by
    obtain ⟨cur, _, _, _, h1, _⟩ := setRow_own16 HOW.out.row
    exact h1
  have b1 : (k : Int) + 1 ≤ (c : Int) := by omega
  have b0 : (0 : Int) ≤ (k : Int) + 1 := by omega
  have b2 : (0 : Int) ≤ (Rk.length : Int) + 1 := by omega
  clear h hb hgw hbw hlen
  go_enter Try.func51, Try.ntmps51
  go_wp2_with (at_builtin; refine wpList_copy_run16 _ rfl _ _ 22 22 rfl _ _ rfl rfl (hcp _ _ _) ?_)
  have HS2 := Lib.hid (HS1.out.put (tbC (Rk.take (k + 1)) ++ C.toList.drop ((k + 1) * 2)))
  have HC := Lib.hid hC
  generalize (w.alloc (.cells C 41)).setRow w.heap.size (tbC (Rk.take (k + 1)) ++ C.toList.drop ((k + 1) * 2)).toArray = w2 at *
  have HL2 := Lib.hid (show (tbC (Rk.take (k + 1)) ++ C.toList.drop ((k + 1) * 2)).length = (Rk.length + 1) * 2 from by simp only [List.length_append, tbC_length, List.length_take, List.length_drop, Array.length_toList, HC.out]; omega)
  have HT2 := Lib.hid (show (tbC (Rk.take (k + 1)) ++ C.toList.drop ((k + 1) * 2)).take ((k + 1) * 2) = tbC (Rk.take (k + 1)) from List.take_left' (by rw [tbC_length, List.length_take]; omega))
  generalize tbC (Rk.take (k + 1)) ++ C.toList.drop ((k + 1) * 2) = D2 at *
  clear hmk hcp HCP z0 z1 HS1 HC hC
  generalize w.heap.size = G at *
  have hb3 : (k : Int) + 2 ≤ (Rk.length : Int) + 1 := by omega
  have hb4 : (k : Int) + 1 ≤ (Rk.length : Int) := by omega
  have hb5 : (0 : Int) ≤ (k : Int) + 2 := by omega
  have hj1 : ((k : Int) + 1).toNat = k + 1 := by omega
  have hj2 : ((k : Int) + 2).toNat = k + 2 := by omega
  have HB := Lib.hid (Below.refl w2.heap.size w2)
  obtain ⟨D3, hD3⟩ : ∃ x, x = D2.take ((k + 2) * 2) ++ tbC (Rk.drop (k + 1)) := ⟨_, rfl⟩
  have HL3 := Lib.hid (split_D Rk D2 k hk HL2.out HT2.out)
  rw [← hD3] at HL3
  have HD3 := Lib.hid hD3
  have HK := Lib.hid hk
  have HOWN := Lib.hid (HS2.out.own.own _ (Ed.gD_mem (d := rt0) hk))
  have HG0 := Lib.hid (show ∀ x, Below w2.heap.size w2 x → w0.heap.size ≤ x.heap.size from fun x hx => Nat.le_trans HS2.out.own.bel.size hx.size)
  clear hD3
  by_cases hlast : k + 1 < Rk.length
  · have q0 : ¬ (Rk.length = k + 1) := by omega
    have q1 : ¬ (Rk.length + 1 = k + 2) := by omega
    have q2 : ¬ (c = k + 1) := by omega
    have HCP2 := Lib.hid (fun x hx => split_cp2 (HS2.out.below (w' := x) hx) hlast HL2.out)
    refine wp_region_Z (S := fun V => V.cell? ⟨b, 0, none⟩ = some (.slice (some ⟨g, 0, none⟩) Rk.length c)) 11 (by kernel_rfl) ?_ (fun hHeld => ?_)
    · exact (HS2.out.below HB.out.drew).bx.cell 0
    replace HB := Lib.hid HB.out.drew
    obtain ⟨wd, hwd⟩ : ∃ x, x = World.drew w2 := ⟨_, rfl⟩
    rw [← hwd] at HB hHeld ⊢
    clear hwd
    refine wpAnyZ_takeY (i := 0) (oi := { dst := some 23, op := Op.move (Operand.tmp 6), type := 22, pos := "edits.go:113", after := #[], guard := none }) (v := ?_) rfl (by kernel_rfl) (by kernel_rfl) (by kernel_rfl) (by rfl) (fun _ _ _ h => h) (Or.inl ⟨by rfl, ?_⟩) (by assumption) ?_
    rotate_left
    · (intro w; go_simp); (first | done | with_reducible rfl)
    try simp only [Act.put, List.setIfInBounds_toArray, List.set_cons_zero, List.set_cons_succ]
    refine wpAnyZ_takeY (i := 1) (oi := { dst := some 24, op := Op.move (Operand.tmp 1), type := 3, pos := "edits.go:113", after := #[], guard := none }) (v := ?_) rfl (by kernel_rfl) (by kernel_rfl) (by kernel_rfl) (by rfl) (fun _ _ _ h => h) (Or.inl ⟨by rfl, ?_⟩) (by assumption) ?_
    rotate_left
    · (intro w; go_simp); (first | done | with_reducible rfl)
    try simp only [Act.put, List.setIfInBounds_toArray, List.set_cons_zero, List.set_cons_succ]
    refine wpAnyZ_takeY (i := 2) (oi := { dst := some 25, op := Op.binOp BinOp.add 3 (Operand.tmp 24) (Operand.const (Value.int IntKind.i64 2)) 3, type := 3, pos := "edits.go:113", after := #[{ on := 1, ground := Ground.data }], guard := none }) (v := ?_) rfl (by kernel_rfl) (by kernel_rfl) (by kernel_rfl) (by rfl) (fun _ _ _ h => h) (Or.inl ⟨by rfl, ?_⟩) (by assumption) ?_
    rotate_left
    · (intro w; go_simp); (first | done | with_reducible rfl)
    try simp only [Act.put, List.setIfInBounds_toArray, List.set_cons_zero, List.set_cons_succ]
    refine wpAnyZ_takeY (i := 3) (oi := { dst := some 26, op := Op.slice 22 (Operand.tmp 23) (some (Operand.tmp 25)) none none, type := 22, pos := "edits.go:113", after := #[{ on := 0, ground := Ground.data }, { on := 2, ground := Ground.data }], guard := none }) (v := ?_) rfl (by kernel_rfl) (by kernel_rfl) (by kernel_rfl) (by rfl) (fun _ _ _ h => h) (Or.inl ⟨by rfl, ?_⟩) (by assumption) ?_
    rotate_left
    · (intro w; go_simp); (first | done | with_reducible rfl)
    try simp only [Act.put, List.setIfInBounds_toArray, List.set_cons_zero, List.set_cons_succ]
    refine wpAnyZ_takeY (i := 4) (oi := { dst := some 27, op := Op.move (Operand.tmp 0), type := 59, pos := "edits.go:113", after := #[], guard := none }) (v := ?_) rfl (by kernel_rfl) (by kernel_rfl) (by kernel_rfl) (by rfl) (fun _ _ _ h => h) (Or.inl ⟨by rfl, ?_⟩) (by assumption) ?_
    rotate_left
    · (intro w; go_simp); (first | done | with_reducible rfl)
    try simp only [Act.put, List.setIfInBounds_toArray, List.set_cons_zero, List.set_cons_succ]
    refine wpAnyZ_takeY (i := 5) (oi := { dst := some 28, op := Op.nilCheck (Operand.tmp 27), type := 0, pos := "edits.go:113", after := #[{ on := 4, ground := Ground.data }], guard := none }) (v := ?_) rfl (by kernel_rfl) (by kernel_rfl) (by kernel_rfl) (by rfl) (fun _ _ _ h => h) (Or.inl ⟨by rfl, ?_⟩) (by assumption) ?_
    rotate_left
    · (intro w; go_simp); (first | done | with_reducible rfl)
    try simp only [Act.put, List.setIfInBounds_toArray, List.set_cons_zero, List.set_cons_succ]
    refine wpAnyZ_takeY (i := 6) (oi := { dst := some 29, op := Op.fieldAddr 24 (Operand.tmp 28) 0, type := 0, pos := "edits.go:113", after := #[{ on := 5, ground := Ground.data }], guard := none }) (v := ?_) rfl (by kernel_rfl) (by kernel_rfl) (by kernel_rfl) (by rfl) (fun _ _ _ h => h) (Or.inl ⟨by rfl, ?_⟩) (by assumption) ?_
    rotate_left
    · (intro w; go_simp); (first | done | with_reducible rfl)
    try simp only [Act.put, List.setIfInBounds_toArray, List.set_cons_zero, List.set_cons_succ]
    refine wpAnyZ_take (i := 7) (oi := { dst := some 30, op := Op.load 22 (Operand.tmp 29), type := 22, pos := "edits.go:113", after := #[{ on := 6, ground := Ground.data }], guard := none }) (v := ?_) [10, 11] rfl (by kernel_rfl) (by kernel_rfl) (by kernel_rfl) (by kernel_rfl) (fun _ _ _ h => h) (Or.inl ⟨by rfl, ?_⟩) (by assumption) ?_
    rotate_left
    · (intro w hSw; (try dsimp only at hSw); go_simp); (first | done | with_reducible rfl)
    try simp only [Act.put, List.setIfInBounds_toArray, List.set_cons_zero, List.set_cons_succ]
    refine wpAnyZ_takeY (i := 8) (oi := { dst := some 31, op := Op.move (Operand.tmp 1), type := 3, pos := "edits.go:113", after := #[], guard := none }) (v := ?_) rfl (by kernel_rfl) (by kernel_rfl) (by kernel_rfl) (by rfl) (fun _ _ _ h => h) (Or.inl ⟨by rfl, ?_⟩) (by assumption) ?_
    rotate_left
    · (intro w; go_simp); (first | done | with_reducible rfl)
    try simp only [Act.put, List.setIfInBounds_toArray, List.set_cons_zero, List.set_cons_succ]
    refine wpAnyZ_takeY (i := 9) (oi := { dst := some 32, op := Op.binOp BinOp.add 3 (Operand.tmp 31) (Operand.const (Value.int IntKind.i64 1)) 3, type := 3, pos := "edits.go:113", after := #[{ on := 8, ground := Ground.data }], guard := none }) (v := ?_) rfl (by kernel_rfl) (by kernel_rfl) (by kernel_rfl) (by rfl) (fun _ _ _ h => h) (Or.inl ⟨by rfl, ?_⟩) (by assumption) ?_
    rotate_left
    · (intro w; go_simp); (first | done | with_reducible rfl)
    try simp only [Act.put, List.setIfInBounds_toArray, List.set_cons_zero, List.set_cons_succ]
    refine wpAnyZ_takeY (i := 10) (oi := { dst := some 33, op := Op.slice 22 (Operand.tmp 30) (some (Operand.tmp 32)) none none, type := 22, pos := "edits.go:113", after := #[{ on := 7, ground := Ground.data }, { on := 9, ground := Ground.data }], guard := none }) (v := ?_) rfl (by kernel_rfl) (by kernel_rfl) (by kernel_rfl) (by rfl) (fun _ _ _ h => h) (Or.inl ⟨by rfl, ?_⟩) (by assumption) ?_
    rotate_left
    · (intro w; go_simp); (first | done | with_reducible rfl)
    try simp only [Act.put, List.setIfInBounds_toArray, List.set_cons_zero, List.set_cons_succ]
    refine wpAnyZ_ready (rs := [11]) (by kernel_rfl) (by simp) ?_
    refine AllReadyZ.last (o := { dst := some 34, op := Op.call { callee := Callee.builtin Builtin.copy, args := #[Operand.tmp 26, Operand.tmp 33], argTypes := #[22, 22] }, type := 3, pos := "edits.go:113", after := #[{ on := 3, ground := Ground.data }, { on := 10, ground := Ground.data }], guard := none }) rfl (fun K hK => ?_) AllReadyZ.nil
    have hcp2 := HCP2.out _ HB.out
    rw [← HD3.out] at hcp2
    refine step_copy_run16 rfl _ _ 22 22 rfl _ _ (by simp [Act.eval, Act.put, q0]) (by simp [Act.eval, Act.put]) (hcp2 _ (Rk.length + 1 - (k + 2)) (c - (k + 1))) ?_
    refine hK.out _ _ ?_
    clear hK K
    refine wpAny_done (by kernel_rfl) ?_ _
    have hs3 := (HS2.out.below HB.out).put D3
    generalize wd.setRow G D3.toArray = w3 at *
    clear HCP2 q0 q1 q2 hb3 hb4 hb5 hj2 HS2 HT2 HL2 HOW HB hHeld b0 b1 b2 hlast
    have HS3 := Lib.hid hs3
    clear hs3
    have x3 := (HS3.out.row.cell (k * 2 + 1)).trans (by rw [List.getElem?_toArray, HL3.out.2.1])
    have CI := Lib.hid (cloneI_any (Rk.getD k rt0).l hl (Rk.getD k rt0).o (Rk.getD k rt0).k w3 (nsAt_own (HS3.out.own.own _ (Ed.gD_mem (d := rt0) HK.out))))
    have HG0 := Lib.hid (show w0.heap.size ≤ w3.heap.size from HS3.out.own.bel.size)
    have k3 : (k : Int) < (Rk.length : Int) + 1 := by have := HK.out; omega
    have k4 : (k : Int) + 1 < (Rk.length : Int) + 1 := by have := HK.out; omega
    have HRL := Lib.hid (show ∃ x, x = (Rk.getD k rt0).l from ⟨_, rfl⟩)
    obtain ⟨rl, hrl⟩ := HRL.out
    replace HRL := Lib.hid hrl
    rw [← hrl] at x3 CI hl
    clear hrl
    generalize (Rk.getD k rt0).o = ro at *
    generalize (Rk.getD k rt0).k = rk at *
    have hn17 : Rk.length + 1 ≤ 17 := (by omega)
    go_wp2_with fail
    with_reducible refine (CI.out).mono ?_
    rintro e w4 ⟨a4, c4, rfl, hown, hb4'⟩
    have HN4 := Lib.hid (show OwnN w0.heap.size w4 ⟨key, rl, a4, c4⟩ from own_base16 hown (HG0.out))
    have HS4 := Lib.hid (HS3.out.below hb4')
    clear hown hb4' CI HS3
    go_wp2_with (refine wpList_store_spi HS4.out rfl _ _ rfl ((k + 1) * 2) _ _ rfl rfl (by rw [HL3.out.1]; omega) rfl rfl ?_; intro w5 hs5 _ hown5; have HS5 := Lib.hid hs5; have HN5 := Lib.hid (hown5 _ _ HN4.out); have z5 := HS5.out.bx.cell 0; have f5 := HS5.out.bx.free 0; clear hs5 hown5)
    go_end0
    refine ⟨rfl, ?_⟩
    have HF := HS5.out.out (Rn := splitL Rk k ⟨key, rl, a4, c4⟩) (cap := Rk.length + 1) (HL3.out.2.2 ⟨key, rl, a4, c4⟩) (by rw [splitL_len _ _ _ HK.out]) (by unfold maxLen; omega) (fun r hr => by
      unfold splitL at hr
      rcases List.mem_append.1 hr with hr | hr
      · exact HS5.out.own.own r (List.mem_of_mem_take hr)
      · rcases List.mem_cons.1 hr with rfl | hr
        · exact HN5.out
        · exact HS5.out.own.own r (List.mem_of_mem_drop hr))
    rw [tbs_splitL, splitL_len _ _ _ HK.out, show (⟨key, rl, a4, c4⟩ : Rt).tb = ⟨key, (Rk.getD k rt0).l⟩ from congrArg (Ed.Tb.mk key) HRL.out] at HF
    exact HF
  · have q3 : Rk.length = k + 1 := by omega
    have q4 : (k : Int) + 2 ≤ (k : Int) + 1 + 1 := by omega
    have HE := Lib.hid (show D3 = D2 from by rw [HD3.out, List.drop_eq_nil_of_le (by omega), List.take_of_length_le (by rw [HL2.out]; omega)]; simp [tbC])
    refine wp_region_Z (S := fun V => V.cell? ⟨b, 0, none⟩ = some (.slice (some ⟨g, 0, none⟩) Rk.length c)) 11 (by kernel_rfl) ?_ (fun hHeld => ?_)
    · exact (HS2.out.below HB.out.drew).bx.cell 0
    replace HB := Lib.hid HB.out.drew
    obtain ⟨wd, hwd⟩ : ∃ x, x = World.drew w2 := ⟨_, rfl⟩
    rw [← hwd] at HB hHeld ⊢
    clear hwd
    refine wpAnyZ_takeY (i := 0) (oi := { dst := some 23, op := Op.move (Operand.tmp 6), type := 22, pos := "edits.go:113", after := #[], guard := none }) (v := ?_) rfl (by kernel_rfl) (by kernel_rfl) (by kernel_rfl) (by rfl) (fun _ _ _ h => h) (Or.inl ⟨by rfl, ?_⟩) (by assumption) ?_
    rotate_left
    · (intro w; go_simp); (first | done | with_reducible rfl)
    try simp only [Act.put, List.setIfInBounds_toArray, List.set_cons_zero, List.set_cons_succ]
    refine wpAnyZ_takeY (i := 1) (oi := { dst := some 24, op := Op.move (Operand.tmp 1), type := 3, pos := "edits.go:113", after := #[], guard := none }) (v := ?_) rfl (by kernel_rfl) (by kernel_rfl) (by kernel_rfl) (by rfl) (fun _ _ _ h => h) (Or.inl ⟨by rfl, ?_⟩) (by assumption) ?_
    rotate_left
    · (intro w; go_simp); (first | done | with_reducible rfl)
    try simp only [Act.put, List.setIfInBounds_toArray, List.set_cons_zero, List.set_cons_succ]
    refine wpAnyZ_takeY (i := 2) (oi := { dst := some 25, op := Op.binOp BinOp.add 3 (Operand.tmp 24) (Operand.const (Value.int IntKind.i64 2)) 3, type := 3, pos := "edits.go:113", after := #[{ on := 1, ground := Ground.data }], guard := none }) (v := ?_) rfl (by kernel_rfl) (by kernel_rfl) (by kernel_rfl) (by rfl) (fun _ _ _ h => h) (Or.inl ⟨by rfl, ?_⟩) (by assumption) ?_
    rotate_left
    · (intro w; go_simp); (first | done | with_reducible rfl)
    try simp only [Act.put, List.setIfInBounds_toArray, List.set_cons_zero, List.set_cons_succ]
    refine wpAnyZ_takeY (i := 3) (oi := { dst := some 26, op := Op.slice 22 (Operand.tmp 23) (some (Operand.tmp 25)) none none, type := 22, pos := "edits.go:113", after := #[{ on := 0, ground := Ground.data }, { on := 2, ground := Ground.data }], guard := none }) (v := ?_) rfl (by kernel_rfl) (by kernel_rfl) (by kernel_rfl) (by rfl) (fun _ _ _ h => h) (Or.inl ⟨by rfl, ?_⟩) (by assumption) ?_
    rotate_left
    · (intro w; go_simp); (first | done | with_reducible rfl)
    try simp only [Act.put, List.setIfInBounds_toArray, List.set_cons_zero, List.set_cons_succ]
    refine wpAnyZ_takeY (i := 4) (oi := { dst := some 27, op := Op.move (Operand.tmp 0), type := 59, pos := "edits.go:113", after := #[], guard := none }) (v := ?_) rfl (by kernel_rfl) (by kernel_rfl) (by kernel_rfl) (by rfl) (fun _ _ _ h => h) (Or.inl ⟨by rfl, ?_⟩) (by assumption) ?_
    rotate_left
    · (intro w; go_simp); (first | done | with_reducible rfl)
    try simp only [Act.put, List.setIfInBounds_toArray, List.set_cons_zero, List.set_cons_succ]
    refine wpAnyZ_takeY (i := 5) (oi := { dst := some 28, op := Op.nilCheck (Operand.tmp 27), type := 0, pos := "edits.go:113", after := #[{ on := 4, ground := Ground.data }], guard := none }) (v := ?_) rfl (by kernel_rfl) (by kernel_rfl) (by kernel_rfl) (by rfl) (fun _ _ _ h => h) (Or.inl ⟨by rfl, ?_⟩) (by assumption) ?_
    rotate_left
    · (intro w; go_simp); (first | done | with_reducible rfl)
    try simp only [Act.put, List.setIfInBounds_toArray, List.set_cons_zero, List.set_cons_succ]
    refine wpAnyZ_takeY (i := 6) (oi := { dst := some 29, op := Op.fieldAddr 24 (Operand.tmp 28) 0, type := 0, pos := "edits.go:113", after := #[{ on := 5, ground := Ground.data }], guard := none }) (v := ?_) rfl (by kernel_rfl) (by kernel_rfl) (by kernel_rfl) (by rfl) (fun _ _ _ h => h) (Or.inl ⟨by rfl, ?_⟩) (by assumption) ?_
    rotate_left
    · (intro w; go_simp); (first | done | with_reducible rfl)
    try simp only [Act.put, List.setIfInBounds_toArray, List.set_cons_zero, List.set_cons_succ]
    refine wpAnyZ_take (i := 7) (oi := { dst := some 30, op := Op.load 22 (Operand.tmp 29), type := 22, pos := "edits.go:113", after := #[{ on := 6, ground := Ground.data }], guard := none }) (v := ?_) [10, 11] rfl (by kernel_rfl) (by kernel_rfl) (by kernel_rfl) (by kernel_rfl) (fun _ _ _ h => h) (Or.inl ⟨by rfl, ?_⟩) (by assumption) ?_
    rotate_left
    · (intro w hSw; (try dsimp only at hSw); go_simp); (first | done | with_reducible rfl)
    try simp only [Act.put, List.setIfInBounds_toArray, List.set_cons_zero, List.set_cons_succ]
    refine wpAnyZ_takeY (i := 8) (oi := { dst := some 31, op := Op.move (Operand.tmp 1), type := 3, pos := "edits.go:113", after := #[], guard := none }) (v := ?_) rfl (by kernel_rfl) (by kernel_rfl) (by kernel_rfl) (by rfl) (fun _ _ _ h => h) (Or.inl ⟨by rfl, ?_⟩) (by assumption) ?_
    rotate_left
    · (intro w; go_simp); (first | done | with_reducible rfl)
    try simp only [Act.put, List.setIfInBounds_toArray, List.set_cons_zero, List.set_cons_succ]
    refine wpAnyZ_takeY (i := 9) (oi := { dst := some 32, op := Op.binOp BinOp.add 3 (Operand.tmp 31) (Operand.const (Value.int IntKind.i64 1)) 3, type := 3, pos := "edits.go:113", after := #[{ on := 8, ground := Ground.data }], guard := none }) (v := ?_) rfl (by kernel_rfl) (by kernel_rfl) (by kernel_rfl) (by rfl) (fun _ _ _ h => h) (Or.inl ⟨by rfl, ?_⟩) (by assumption) ?_
    rotate_left
    · (intro w; go_simp); (first | done | with_reducible rfl)
    try simp only [Act.put, List.setIfInBounds_toArray, List.set_cons_zero, List.set_cons_succ]
    refine wpAnyZ_takeY (i := 10) (oi := { dst := some 33, op := Op.slice 22 (Operand.tmp 30) (some (Operand.tmp 32)) none none, type := 22, pos := "edits.go:113", after := #[{ on := 7, ground := Ground.data }, { on := 9, ground := Ground.data }], guard := none }) (v := ?_) rfl (by kernel_rfl) (by kernel_rfl) (by kernel_rfl) (by rfl) (fun _ _ _ h => h) (Or.inl ⟨by rfl, ?_⟩) (by assumption) ?_
    rotate_left
    · (intro w; go_simp); (first | done | with_reducible rfl)
    try simp only [Act.put, List.setIfInBounds_toArray, List.set_cons_zero, List.set_cons_succ]
    refine wpAnyZ_ready (rs := [11]) (by kernel_rfl) (by simp) ?_
    refine AllReadyZ.last (o := { dst := some 34, op := Op.call { callee := Callee.builtin Builtin.copy, args := #[Operand.tmp 26, Operand.tmp 33], argTypes := #[22, 22] }, type := 3, pos := "edits.go:113", after := #[{ on := 3, ground := Ground.data }, { on := 10, ground := Ground.data }], guard := none }) rfl (fun K hK => ?_) AllReadyZ.nil
    refine step_copy_run16 rfl _ _ 22 22 rfl _ _ (by simp [Act.eval, Act.put]; exact ⟨rfl, rfl⟩) (by simp [Act.eval, Act.put]; exact ⟨rfl, rfl⟩) (run_copy_none16 _ _ _ _ 41 Try.underlying22 2 infoTb_size _ _ 0 _ 0 _ (Nat.min_self 0)) ?_
    refine hK.out _ _ ?_
    clear hK K
    refine wpAny_done (by kernel_rfl) ?_ _
    generalize (if c = k + 1 then some ({ block := g, off := 0 } : Addr) else some { block := g, off := (k + 1) * 2 }) = sa
    have hs3 := HS2.out.below HB.out
    rw [← HE.out] at hs3
    generalize hw3 : wd = w3 at *
    clear hw3 q3 q4 hb3 hb4 hb5 hj2 HS2 HT2 HL2 HOW HB hHeld b0 b1 b2 hlast HE
    have HS3 := Lib.hid hs3
    clear hs3
    have x3 := (HS3.out.row.cell (k * 2 + 1)).trans (by rw [List.getElem?_toArray, HL3.out.2.1])
    have CI := Lib.hid (cloneI_any (Rk.getD k rt0).l hl (Rk.getD k rt0).o (Rk.getD k rt0).k w3 (nsAt_own (HS3.out.own.own _ (Ed.gD_mem (d := rt0) HK.out))))
    have HG0 := Lib.hid (show w0.heap.size ≤ w3.heap.size from HS3.out.own.bel.size)
    have k3 : (k : Int) < (Rk.length : Int) + 1 := by have := HK.out; omega
    have k4 : (k : Int) + 1 < (Rk.length : Int) + 1 := by have := HK.out; omega
    have HRL := Lib.hid (show ∃ x, x = (Rk.getD k rt0).l from ⟨_, rfl⟩)
    obtain ⟨rl, hrl⟩ := HRL.out
    replace HRL := Lib.hid hrl
    rw [← hrl] at x3 CI hl
    clear hrl
    generalize (Rk.getD k rt0).o = ro at *
    generalize (Rk.getD k rt0).k = rk at *
    have hn17 : Rk.length + 1 ≤ 17 := (by omega)
    go_wp2_with fail
    with_reducible refine (CI.out).mono ?_
    rintro e w4 ⟨a4, c4, rfl, hown, hb4'⟩
    have HN4 := Lib.hid (show OwnN w0.heap.size w4 ⟨key, rl, a4, c4⟩ from own_base16 hown (HG0.out))
    have HS4 := Lib.hid (HS3.out.below hb4')
    clear hown hb4' CI HS3
    go_wp2_with (refine wpList_store_spi HS4.out rfl _ _ rfl ((k + 1) * 2) _ _ rfl rfl (by rw [HL3.out.1]; omega) rfl rfl ?_; intro w5 hs5 _ hown5; have HS5 := Lib.hid hs5; have HN5 := Lib.hid (hown5 _ _ HN4.out); have z5 := HS5.out.bx.cell 0; have f5 := HS5.out.bx.free 0; clear hs5 hown5)
    go_end0
    refine ⟨rfl, ?_⟩
    have HF := HS5.out.out (Rn := splitL Rk k ⟨key, rl, a4, c4⟩) (cap := Rk.length + 1) (HL3.out.2.2 ⟨key, rl, a4, c4⟩) (by rw [splitL_len _ _ _ HK.out]) (by unfold maxLen; omega) (fun r hr => by
      unfold splitL at hr
      rcases List.mem_append.1 hr with hr | hr
      · exact HS5.out.own.own r (List.mem_of_mem_take hr)
      · rcases List.mem_cons.1 hr with rfl | hr
        · exact HN5.out
        · exact HS5.out.own.own r (List.mem_of_mem_drop hr))
    rw [tbs_splitL, splitL_len _ _ _ HK.out, show (⟨key, rl, a4, c4⟩ : Rt).tb = ⟨key, (Rk.getD k rt0).l⟩ from congrArg (Ed.Tb.mk key) HRL.out] at HF
    exact HF

end Go.Proofs.Ytfcmjgcjmldpcaa
