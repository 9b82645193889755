/- Layer 16: tablets appended; the document's copied, by a contract. -/
import Derived.Test.YtfcmjgcjmldpcaaEditsZ
import Derived.Test.YtfcmjgcjmldpcaaLast
import Derived.Test.YtfcmjgcjmldpcaaEditsAi
namespace Go.Proofs.Ytfcmjgcjmldpcaa
set_option linter.unusedVariables false
set_option linter.unusedSimpArgs false
open Go Go.RowKit
attribute [local go_sem ↓] run_index_S
attribute [local go_sem] S_append S_extract

/-- Tablets' cells at a place. -/
def CellsAt (w : World) (ad : Addr) (L : List Rt) : Prop := ∀ j u, (tbC L)[j]? = some u → w.cell? (ad.add j) = some u
theorem append_tabs (w : World) (base : Nat) (t ty : TypeId) (i : TypeInfo) (z : Value) (ht : Try.prog.underlying t = some (.slice 41)) (hi : Try.prog.info? 41 = some i) (hz : i.zero = some z) (h1 : i.size = 2) (h2 : i.bytes = 40) (h3 : z.cells.size = 2)
    (v : Value) (n : Nat) (xs : List Value) (ho : w.ownsRow base 41 2 v n xs) (ad : Addr) (c m : Nat) (L : List Rt) (hm : m = L.length) (hs : CellsAt w ad L) (h63 : n + m ≤ 100000) (hbase : base ≤ w.heap.size) :
    ∃ v' w', (Builtin.append_ #[t, t] ty #[v, .slice (some ad) m c]).run Try.prog w = .ok v' w' ∧ w'.ownsRow base 41 2 v' (n + m) (xs ++ tbC L) ∧ w.grownBy w' v.ownBlock := by
  subst hm
  obtain ⟨v', w', hr, h5, h6, _⟩ := run_append_own_at (P := Try.prog) w base t ty 41 i z 2 40 ht hi hz h1 h2 h3 (by decide) v n xs ho ad L.length c (tbC L) (tbC_length L) hs (tbC_oneC L) (by unfold maxLen; omega) (by omega) hbase
  exact ⟨v', w', hr, h5, h6⟩
theorem step_append_tabs {w : World} {ops : Array Oper} {o : Oper} {a : Act} {K : Act → World → Prop} {Q : Exit → Act → World → Prop} {E : Prop} (hgd : o.guard = none) (s x : Operand) (t : TypeId)
    (hop : o.op = .call { callee := .builtin .append, args := #[s, x], argTypes := #[t, t] })
    (base : Nat) (i : TypeInfo) (z : Value) (ht : Try.prog.underlying t = some (.slice 41)) (hi : Try.prog.info? 41 = some i) (hz : i.zero = some z) (h1 : i.size = 2) (h2 : i.bytes = 40) (h3 : z.cells.size = 2)
    (v : Value) (n : Nat) (xs : List Value) (hv : a.eval s = v) (ho : w.ownsRow base 41 2 v n xs) (ad : Addr) (c m : Nat) (L : List Rt) (hx : a.eval x = .slice (some ad) m c) (hm : m = L.length) (hs : CellsAt w ad L) (h63 : n + m ≤ 100000) (hbase : base ≤ w.heap.size)
    (h : ∀ v' w', w'.ownsRow base 41 2 v' (n + m) (xs ++ tbC L) → w.grownBy w' v.ownBlock → K (a.put o.dst v') w') :
    if Region.wanted o (yielded ops a.tmps) = true then Oper.wp Try.prog o a w K Q else E := by
  have hw : Region.wanted o (yielded ops a.tmps) = true := by simp [Region.wanted, hgd]
  rw [if_pos hw]
  obtain ⟨v', w', hrun, h5, h6⟩ := append_tabs w base t o.type i z ht hi hz h1 h2 h3 v n xs ho ad c m L hm hs h63 hbase
  unfold Oper.wp execOp
  simp only [hop, resolve, invoke, builtin, Sem.run_bind, Sem.run_pure, Result.andThen_ok, List.map_toArray, List.map_cons, List.map_nil, hv, hx, hrun]
  exact h v' w' h5 h6
theorem cellsAt_one {w : World} {q : Nat} {f : List UInt8} {l : List Int} {o : Option Addr} {k : Nat} (h : BkIn #[.string (S f), .slice o l.length k] 41 w q) : CellsAt w ⟨q, 0, none⟩ [⟨f, l, o, k⟩] := fun j u hu => by
  rw [Addr.add_lit, Nat.zero_add]
  rw [h.cell j]
  simpa [tbC, tbL] using hu
/-- A copy being made, tablet by tablet. -/
structure CpI (w0 : World) (k : Nat) (Rs Rk : List Rt) (a : Option Addr) (c : Nat) (w : World) : Prop where
  len : Rk.length = k
  same : tbs Rk = tbs (Rs.take k)
  row : w.ownsRow w0.heap.size 41 2 (.slice a k c) k (tbC Rk)
  own : ∀ j, j < k → OwnN w0.heap.size w (Rk.getD j rt0)
  dis : ∀ i j, i < j → j < k → ∀ x, (Rk.getD i rt0).blk = some x → (Rk.getD j rt0).blk ≠ some x
  bel : Below w0.heap.size w0 w
theorem CpI.below {w0 w w' : World} {k : Nat} {Rs Rk : List Rt} {a : Option Addr} {c : Nat} (h : CpI w0 k Rs Rk a c w) (hb : Below w.heap.size w w') : CpI w0 k Rs Rk a c w' :=
  ⟨h.len, h.same, own_below16 h.row hb, fun j hj => own_below16 (h.own j hj) hb, h.dis, h.bel.trans (hb.mono h.bel.size)⟩
theorem CpI.put {w0 w : World} {k : Nat} {Rs Rk : List Rt} {a : Option Addr} {c : Nat} (h : CpI w0 k Rs Rk a c w) {D : Array Value} {b : Nat} (hD : BkIn D 24 w b) (hb0 : w0.heap.size ≤ b) (i : Nat) (v : Value) : CpI w0 k Rs Rk a c (w.setCell ⟨b, i, none⟩ v) :=
  ⟨h.len, h.same, ownsRow_setCell_other h.row (own_of_blk hD h.row (by decide)) _, fun j hj => ownsRow_setCell_other (h.own j hj) (own_of_blk hD (h.own j hj) (by decide)) _, h.dis, h.bel.setCell (by exact hb0) _⟩
theorem gD_snoc {α : Type} (L : List α) (x d : α) (j : Nat) : (L ++ [x]).getD j d = if j < L.length then L.getD j d else if j = L.length then x else d := by
  simp only [List.getD]
  by_cases h : j < L.length
  · rw [if_pos h, List.getElem?_append_left h]
  · rw [if_neg h, List.getElem?_append_right (by omega)]
    by_cases e : j = L.length
    · rw [if_pos e, e, Nat.sub_self]; rfl
    · rw [if_neg e, List.getElem?_eq_none (by simp; omega)]; rfl
theorem CpI.step {w0 w w6 w7 : World} {k : Nat} {Rs Rk : List Rt} {a a7 o' : Option Addr} {c c7 c' : Nat} (h : CpI w0 k Rs Rk a c w) (hk : k < Rs.length) (hb : Below w.heap.size w w6)
    (hown : w6.ownsRow w.heap.size 3 1 (.slice o' (Rs.getD k rt0).l.length c') (Rs.getD k rt0).l.length (nsL (Rs.getD k rt0).l)) (hg : w6.grownBy w7 (Value.slice a k c).ownBlock)
    (hrow : w7.ownsRow w0.heap.size 41 2 (.slice a7 (k + 1) c7) (k + 1) (tbC Rk ++ tbC [⟨(Rs.getD k rt0).f, (Rs.getD k rt0).l, o', c'⟩])) :
    CpI w0 (k + 1) Rs (Rk ++ [⟨(Rs.getD k rt0).f, (Rs.getD k rt0).l, o', c'⟩]) a7 c7 w7 := by
  have h6 := h.below hb
  have hkeep : ∀ {B n : Nat} {v : Value} {xs : List Value}, w6.ownsRow B 3 1 v n xs → w7.ownsRow B 3 1 v n xs := fun hi => by
    refine World.ownsRow.kept hi hg ?_
    cases q : (Value.slice a k c).ownBlock with
    | none =>
      rename_i v _
      cases q2 : v.ownBlock with
      | none => exact .inl rfl
      | some x => exact .inr (by simp)
    | some x => exact .inr (own_apart16 h6.row hi (by decide) q)
  refine ⟨by rw [List.length_append, h.len]; rfl, ?_, by rw [tbC_app]; exact hrow, fun j hj => ?_, fun i j hij hj x hx => ?_, h6.bel.grown hg h6.bel.size (fun q hq => (h6.row.lt q hq).1)⟩
  · have hs := h.same
    unfold tbs at hs ⊢
    rw [List.map_append, hs, Ed.take_snoc Rs k rt0 hk, List.map_append]; rfl
  · rw [gD_snoc, h.len]
    by_cases e : j < k
    · rw [if_pos e]; exact hkeep (h6.own j e)
    · rw [if_neg e, if_pos (by omega)]
      exact hkeep (own_base16 hown h.bel.size)
  · rw [gD_snoc, h.len, if_pos (by omega)] at hx
    rw [gD_snoc, h.len]
    by_cases e : j < k
    · rw [if_pos e]; exact h.dis i j hij e x hx
    · rw [if_neg e, if_pos (by omega)]
      intro hq
      have a1 := (hown.lt x hq).1
      have a2 := ((h.own i (by omega)).lt x hx).2
      omega
theorem CpI.cl {w0 w : World} {Rs Rk : List Rt} {g c : Nat} (h : CpI w0 Rs.length Rs Rk (some ⟨g, 0, none⟩) c w) : ClI w0 Rs.length Rs Rk g c w :=
  ⟨h.len, by have := h.same; rwa [List.take_length] at this, h.row, fun j hj => by
    have e1 : Rk.getD j rt0 = rt0 := by simp [List.getD, show Rk.length ≤ j by rw [h.len]; exact hj]
    have e2 : Rs.getD j rt0 = rt0 := by simp [List.getD, hj]
    rw [e1, e2], h.own, h.dis, h.bel⟩

theorem ClI.rowSt {w0 w : World} {k : Nat} {Rs Rk : List Rt} {g c : Nat} (h : ClI w0 k Rs Rk g c w) {b : Nat} {D : Array Value} (hD : BkIn D 24 w b) (hb0 : w0.heap.size ≤ b) (C : Array Value) : ClI w0 k Rs Rk g c (w.setRow b C) :=
  ⟨h.len, h.same, own_row16 h.row (own_of_blk hD h.row (by decide)) _, h.old, fun j hj => own_row16 (h.own j hj) (own_of_blk hD (h.own j hj) (by decide)) _, h.dis, below_row16 h.bel hb0 _⟩
set_option maxHeartbeats 4000000 in
set_option maxRecDepth 100000 in
theorem refCopied16_any (Rs : List Rt) (hne : Rs ≠ []) (hn : Rs.length ≤ 16) (hl : ∀ r, r ∈ Rs → r.l.length ≤ 100000) (ao : Option Addr) (cap : Nat) (log next : Int) (w : World) (h : TbsAt w ao Rs) :
    Calls Try.prog 32 #[stV ao Rs.length cap log next] w (Clone16 Rs log next w) := by
  have HA := Lib.hid h
  have HL := Lib.hid hl
  have hp : 0 < Rs.length := List.length_pos_iff.2 hne
  obtain ⟨i0, zz, hi0, hz0, h01, h02, h03⟩ := infoN_parts
  obtain ⟨i1, z1, hi1, hz1, h11, h12, h13⟩ := infoTb_parts
  clear h hl hne
  obtain ⟨w2, hw2⟩ : ∃ x, x = ((w.alloc (.cells (stA ao Rs.length cap log next) 24)).alloc (.cells stZ 24)).alloc (.cells (stA none 0 0 log next) 24) := ⟨_, rfl⟩
  have hb2 : Below w.heap.size w w2 := by rw [hw2]; exact (bel_two _ _ _).alloc (bel_two _ _ _).size _
  have H1 := Lib.hid (show BkIn (stA ao Rs.length cap log next) 24 w2 w.heap.size from by rw [hw2]; exact ((bkIn_new _ _ w).below ((Below.refl _ _).alloc (Nat.le_refl _) _)).below ((Below.refl _ _).alloc (Nat.le_refl _) _))
  have H2 := Lib.hid (show BkIn stZ 24 w2 (w.heap.size + 1) from by rw [hw2]; have := (bkIn_new stZ 24 (w.alloc (.cells (stA ao Rs.length cap log next) 24))).below ((Below.refl _ _).alloc (Nat.le_refl _) (.cells (stA none 0 0 log next) 24)); simpa using this)
  have H3 := Lib.hid (show BkIn (stA none 0 0 log next) 24 w2 (w.heap.size + 1 + 1) from by rw [hw2]; have := bkIn_new (stA none 0 0 log next) 24 ((w.alloc (.cells (stA ao Rs.length cap log next) 24)).alloc (.cells stZ 24)); simpa using this)
  have HC := Lib.hid (show CpI w 0 Rs [] none 0 w2 from ⟨rfl, by simp [tbs], World.ownsRow_nil _ _ _ _, fun j hj => absurd hj (by omega), fun i j _ hj => absurd hj (by omega), hb2⟩)
  unfold stV
  unfold stA stZ at hw2
  clear hb2
  go_enter Try.func32, Try.ntmps32
  go_wp2_with fail
  rw [← hw2]
  clear hw2
  go_loopw [4] (fun i wr => ∃ (k : Nat) (Rk : List Rt) (a : Option Addr) (c : Nat), k ≤ Rs.length ∧ i = .int .i64 k ∧ Hid (CpI w k Rs Rk a c wr) ∧ Hid (BkIn (stA a k c log next) 24 wr (w.heap.size + 1 + 1)) ∧ Hid (BkIn (stA ao Rs.length cap log next) 24 wr w.heap.size) ∧ Hid (BkIn stZ 24 wr (w.heap.size + 1))) (fun i _ => Rs.length - (intOf i).toNat)
  case atStart => exact ⟨0, [], none, 0, Nat.zero_le _, rfl, HC, H3, H1, H2⟩
  case round =>
    obtain ⟨k, Rk, a, c, hk, rfl, HC, H3, H1, H2⟩ := hrel
    have z1' : wr.cell? ⟨w.heap.size, 0, none⟩ = some (.slice ao Rs.length cap) := H1.out.cell 0
    by_cases hlt : k < Rs.length
    · have hki : (k : Int) < (Rs.length : Int) := by omega
      obtain ⟨gs, os, rfl, hc⟩ := HA.out.off k hlt
      have HR := Lib.hid hc
      have HLk := Lib.hid (HL.out _ (Ed.gD_mem (d := rt0) hlt))
      have HLT := Lib.hid hlt
      have HST := Lib.hid (fun (x6 x7 : World) (a7 o' : Option Addr) (c7 c' : Nat) (x : World) (hCx : CpI w k Rs Rk a c x) (hb : Below x.heap.size x x6) hown hg hrow => hCx.step (w6 := x6) (w7 := x7) (a7 := a7) (o' := o') (c7 := c7) (c' := c') hlt hb hown hg hrow)
      generalize hr : Rs.getD k rt0 = r at *
      obtain ⟨f, l, o, kc⟩ := r
      simp only at HLk HST
      clear hc hlt hr
      go_wp2_with fail
      clear z1'
      refine wp_region_Z (S := fun V => V.cell? ⟨w.heap.size + 1 + 1, 0, none⟩ = some (.slice a k c) ∧ V.cell? ⟨w.heap.size, 0, none⟩ = some (.slice (some ⟨gs, os, none⟩) Rs.length cap) ∧ V.cell? ⟨gs, os + k * 2, none⟩ = some (.string (S f)) ∧ V.cell? ⟨gs, os + k * 2 + 1, none⟩ = some (.slice o l.length kc)) 19 (by kernel_rfl) ?_ (fun hHeld => ?_)
      · exact ⟨(H3.out.below (Below.refl _ wr).drew).cell 0, (H1.out.below (Below.refl _ wr).drew).cell 0, (HR.out.below (HC.out.below (Below.refl _ wr).drew).bel).1, (HR.out.below (HC.out.below (Below.refl _ wr).drew).bel).2.1⟩
      replace HC := Lib.hid (HC.out.below (Below.refl _ wr).drew)
      replace H1 := Lib.hid (H1.out.below (Below.refl _ wr).drew)
      replace H2 := Lib.hid (H2.out.below (Below.refl _ wr).drew)
      replace H3 := Lib.hid (H3.out.below (Below.refl _ wr).drew)
      obtain ⟨wd, hwd⟩ : ∃ x, x = World.drew wr := ⟨_, rfl⟩
      rw [← hwd] at HC H1 H2 H3 hHeld ⊢
      clear hwd
      refine wpAnyZ_takeY (i := 0) (oi := { dst := some 17, op := Op.fieldAddr 24 (Operand.tmp 3) 0, type := 0, pos := "ref.go:42", after := #[], guard := none }) (v := ?_) rfl (by kernel_rfl) (by kernel_rfl) (by kernel_rfl) (by rfl) (fun _ _ _ h => h) (Or.inl ⟨by rfl, ?_⟩) (by assumption) ?_
      rotate_left
      · (intro w; go_simp); (first | done | with_reducible rfl)
      try simp only [Act.put, List.setIfInBounds_toArray, List.set_cons_zero, List.set_cons_succ]
      refine wpAnyZ_take (i := 1) (oi := { dst := some 18, op := Op.load 22 (Operand.tmp 17), type := 22, pos := "ref.go:42", after := #[{ on := 0, ground := Ground.data }], guard := none }) (v := ?_) [17, 18, 19] rfl (by kernel_rfl) (by kernel_rfl) (by kernel_rfl) (by kernel_rfl) (fun _ _ _ h => h) (Or.inl ⟨by rfl, ?_⟩) (by assumption) ?_
      rotate_left
      · (intro w hSw; (try dsimp only at hSw); go_simp); (first | done | with_reducible rfl)
      try simp only [Act.put, List.setIfInBounds_toArray, List.set_cons_zero, List.set_cons_succ]
      refine wpAnyZ_takeY (i := 2) (oi := { dst := some 19, op := Op.fieldAddr 24 (Operand.tmp 1) 0, type := 0, pos := "ref.go:42", after := #[], guard := none }) (v := ?_) rfl (by kernel_rfl) (by kernel_rfl) (by kernel_rfl) (by rfl) (fun _ _ _ h => h) (Or.inl ⟨by rfl, ?_⟩) (by assumption) ?_
      rotate_left
      · (intro w; go_simp); (first | done | with_reducible rfl)
      try simp only [Act.put, List.setIfInBounds_toArray, List.set_cons_zero, List.set_cons_succ]
      refine wpAnyZ_take (i := 3) (oi := { dst := some 20, op := Op.load 22 (Operand.tmp 19), type := 22, pos := "ref.go:42", after := #[{ on := 2, ground := Ground.data }], guard := none }) (v := ?_) [5, 6, 7, 15, 16, 17, 18, 19] rfl (by kernel_rfl) (by kernel_rfl) (by kernel_rfl) (by kernel_rfl) (fun _ _ _ h => h) (Or.inl ⟨by rfl, ?_⟩) (by assumption) ?_
      rotate_left
      · (intro w hSw; (try dsimp only at hSw); go_simp); (first | done | with_reducible rfl)
      try simp only [Act.put, List.setIfInBounds_toArray, List.set_cons_zero, List.set_cons_succ]
      refine wpAnyZ_takeY (i := 4) (oi := { dst := some 21, op := Op.move (Operand.tmp 4), type := 3, pos := "ref.go:42", after := #[], guard := none }) (v := ?_) rfl (by kernel_rfl) (by kernel_rfl) (by kernel_rfl) (by rfl) (fun _ _ _ h => h) (Or.inl ⟨by rfl, ?_⟩) (by assumption) ?_
      rotate_left
      · (intro w; go_simp); (first | done | with_reducible rfl)
      try simp only [Act.put, List.setIfInBounds_toArray, List.set_cons_zero, List.set_cons_succ]
      refine wpAnyZ_takeY (i := 5) (oi := { dst := some 22, op := Op.indexAddr 22 (Operand.tmp 20) (Operand.tmp 21), type := 0, pos := "ref.go:42", after := #[{ on := 3, ground := Ground.data }, { on := 4, ground := Ground.data }], guard := none }) (v := ?_) rfl (by kernel_rfl) (by kernel_rfl) (by kernel_rfl) (by rfl) (fun _ _ _ h => h) (Or.inl ⟨by rfl, ?_⟩) (by assumption) ?_
      rotate_left
      · (intro w; go_simp); (first | done | with_reducible rfl)
      try simp only [Act.put, List.setIfInBounds_toArray, List.set_cons_zero, List.set_cons_succ]
      refine wpAnyZ_takeY (i := 6) (oi := { dst := some 23, op := Op.fieldAddr 41 (Operand.tmp 22) 0, type := 0, pos := "ref.go:42", after := #[{ on := 5, ground := Ground.data }], guard := none }) (v := ?_) rfl (by kernel_rfl) (by kernel_rfl) (by kernel_rfl) (by rfl) (fun _ _ _ h => h) (Or.inl ⟨by rfl, ?_⟩) (by assumption) ?_
      rotate_left
      · (intro w; go_simp); (first | done | with_reducible rfl)
      try simp only [Act.put, List.setIfInBounds_toArray, List.set_cons_zero, List.set_cons_succ]
      refine wpAnyZ_take (i := 7) (oi := { dst := some 24, op := Op.load 9 (Operand.tmp 23), type := 9, pos := "ref.go:42", after := #[{ on := 6, ground := Ground.data }], guard := none }) (v := ?_) [15, 16, 17, 18, 19] rfl (by kernel_rfl) (by kernel_rfl) (by kernel_rfl) (by kernel_rfl) (fun _ _ _ h => h) (Or.inl ⟨by rfl, ?_⟩) (by assumption) ?_
      rotate_left
      · (intro w hSw; (try dsimp only at hSw); go_simp); (first | done | with_reducible rfl)
      try simp only [Act.put, List.setIfInBounds_toArray, List.set_cons_zero, List.set_cons_succ]
      refine wpAnyZ_takeY (i := 8) (oi := { dst := some 25, op := Op.fieldAddr 24 (Operand.tmp 1) 0, type := 0, pos := "ref.go:42", after := #[], guard := none }) (v := ?_) rfl (by kernel_rfl) (by kernel_rfl) (by kernel_rfl) (by rfl) (fun _ _ _ h => h) (Or.inl ⟨by rfl, ?_⟩) (by assumption) ?_
      rotate_left
      · (intro w; go_simp); (first | done | with_reducible rfl)
      try simp only [Act.put, List.setIfInBounds_toArray, List.set_cons_zero, List.set_cons_succ]
      refine wpAnyZ_take (i := 9) (oi := { dst := some 26, op := Op.load 22 (Operand.tmp 25), type := 22, pos := "ref.go:42", after := #[{ on := 8, ground := Ground.data }], guard := none }) (v := ?_) [11, 12, 13, 14, 15, 16, 17, 18, 19] rfl (by kernel_rfl) (by kernel_rfl) (by kernel_rfl) (by kernel_rfl) (fun _ _ _ h => h) (Or.inl ⟨by rfl, ?_⟩) (by assumption) ?_
      rotate_left
      · (intro w hSw; (try dsimp only at hSw); go_simp); (first | done | with_reducible rfl)
      try simp only [Act.put, List.setIfInBounds_toArray, List.set_cons_zero, List.set_cons_succ]
      refine wpAnyZ_takeY (i := 10) (oi := { dst := some 27, op := Op.move (Operand.tmp 4), type := 3, pos := "ref.go:42", after := #[], guard := none }) (v := ?_) rfl (by kernel_rfl) (by kernel_rfl) (by kernel_rfl) (by rfl) (fun _ _ _ h => h) (Or.inl ⟨by rfl, ?_⟩) (by assumption) ?_
      rotate_left
      · (intro w; go_simp); (first | done | with_reducible rfl)
      try simp only [Act.put, List.setIfInBounds_toArray, List.set_cons_zero, List.set_cons_succ]
      refine wpAnyZ_takeY (i := 11) (oi := { dst := some 28, op := Op.indexAddr 22 (Operand.tmp 26) (Operand.tmp 27), type := 0, pos := "ref.go:42", after := #[{ on := 9, ground := Ground.data }, { on := 10, ground := Ground.data }], guard := none }) (v := ?_) rfl (by kernel_rfl) (by kernel_rfl) (by kernel_rfl) (by rfl) (fun _ _ _ h => h) (Or.inl ⟨by rfl, ?_⟩) (by assumption) ?_
      rotate_left
      · (intro w; go_simp); (first | done | with_reducible rfl)
      try simp only [Act.put, List.setIfInBounds_toArray, List.set_cons_zero, List.set_cons_succ]
      refine wpAnyZ_takeY (i := 12) (oi := { dst := some 29, op := Op.fieldAddr 41 (Operand.tmp 28) 1, type := 0, pos := "ref.go:42", after := #[{ on := 11, ground := Ground.data }], guard := none }) (v := ?_) rfl (by kernel_rfl) (by kernel_rfl) (by kernel_rfl) (by rfl) (fun _ _ _ h => h) (Or.inl ⟨by rfl, ?_⟩) (by assumption) ?_
      rotate_left
      · (intro w; go_simp); (first | done | with_reducible rfl)
      try simp only [Act.put, List.setIfInBounds_toArray, List.set_cons_zero, List.set_cons_succ]
      refine wpAnyZ_take (i := 13) (oi := { dst := some 30, op := Op.load 25 (Operand.tmp 29), type := 25, pos := "ref.go:42", after := #[{ on := 12, ground := Ground.data }], guard := none }) (v := ?_) [14, 15, 16, 17, 18, 19] rfl (by kernel_rfl) (by kernel_rfl) (by kernel_rfl) (by kernel_rfl) (fun _ _ _ h => h) (Or.inl ⟨by rfl, ?_⟩) (by assumption) ?_
      rotate_left
      · (intro w hSw; (try dsimp only at hSw); go_simp); (first | done | with_reducible rfl)
      try simp only [Act.put, List.setIfInBounds_toArray, List.set_cons_zero, List.set_cons_succ]
      refine wpAnyZ_ready (rs := [14]) (by kernel_rfl) (by simp) ?_
      refine AllReadyZ.cons (o := { dst := some 31, op := Op.call { callee := Callee.builtin Builtin.append, args := #[Operand.const (Value.slice none 0 0), Operand.tmp 30], argTypes := #[25, 25] }, type := 25, pos := "ref.go:42", after := #[{ on := 13, ground := Ground.data }], guard := none }) rfl (by rfl) (fun K hK => ?_) (AllReadyZ.nil)
      refine step_append_nums16 (by rfl) _ _ 25 (by rfl) wd.heap.size i0 zz Try.underlying25 hi0 hz0 h01 h02 h03 (.slice none 0 0) 0 [] (by rfl) (World.ownsRow_nil _ _ _ _) o kc l.length l (by rfl) rfl (HR.out.below HC.out.bel).2.2 (by have := HLk.out; omega) (Nat.le_refl _) ?_
      intro v5 w5 ho5 hg5
      rw [Nat.zero_add, List.nil_append] at ho5
      obtain ⟨a5, c5, rfl⟩ := own_shape16 ho5
      have hb5 := (Below.refl wd.heap.size wd).grown hg5 (Nat.le_refl _) (fun q hq => by cases hq)
      have HCd := Lib.hid HC.out
      have HO5 := Lib.hid ho5
      have HB5 := Lib.hid hb5
      replace HC := Lib.hid (HC.out.below hb5)
      replace H1 := Lib.hid (H1.out.below hb5)
      replace H2 := Lib.hid (H2.out.below hb5)
      replace H3 := Lib.hid (H3.out.below hb5)
      clear ho5 hg5 hb5
      refine hK.out _ _ ?_ (fun hHeld => ?_)
      · exact ⟨H3.out.cell 0, H1.out.cell 0, (HR.out.below HC.out.bel).1, (HR.out.below HC.out.bel).2.1⟩
      clear hK K
      try simp only [Act.put, List.setIfInBounds_toArray, List.set_cons_zero, List.set_cons_succ]
      refine wpAnyZ_takeY (i := 15) (oi := { dst := some 32, op := Op.build 41 #[(0, Operand.tmp 24), (1, Operand.tmp 31)], type := 41, pos := "ref.go:42", after := #[{ on := 7, ground := Ground.data }, { on := 14, ground := Ground.data }], guard := none }) (v := ?_) rfl (by kernel_rfl) (by kernel_rfl) (by kernel_rfl) (by rfl) (fun _ _ _ h => h) (Or.inl ⟨by rfl, ?_⟩) (by assumption) ?_
      rotate_left
      · (intro w; go_simp); (first | done | with_reducible rfl)
      try simp only [Act.put, List.setIfInBounds_toArray, List.set_cons_zero, List.set_cons_succ]
      refine wpAnyZ_ready (rs := [16]) (by kernel_rfl) (by simp) ?_
      refine AllReadyZ.cons (o := { dst := some 33, op := Op.buildSlice 22 1 #[(0, Operand.tmp 32)], type := 22, pos := "ref.go:42", after := #[{ on := 15, ground := Ground.data }], guard := none }) rfl (by rfl) (fun K hK => ?_) (AllReadyZ.nil)
      go_simp
      have hb6 := (Below.refl w5.heap.size w5).alloc (Nat.le_refl _) (.cells #[.string (S f), .slice a5 l.length c5] 41)
      have HX6 := Lib.hid (bkIn_new #[.string (S f), .slice a5 l.length c5] 41 w5)
      replace HO5 := Lib.hid (own_below16 HO5.out hb6)
      replace HB5 := Lib.hid (below_step HB5.out hb6)
      replace HC := Lib.hid (HC.out.below hb6)
      replace H1 := Lib.hid (H1.out.below hb6)
      replace H2 := Lib.hid (H2.out.below hb6)
      replace H3 := Lib.hid (H3.out.below hb6)
      clear hb6
      generalize (World.alloc w5 (.cells #[.string (S f), .slice a5 l.length c5] 41)) = w6 at *
      refine hK.out _ _ ?_ (fun hHeld => ?_)
      · exact ⟨H3.out.cell 0, H1.out.cell 0, (HR.out.below HC.out.bel).1, (HR.out.below HC.out.bel).2.1⟩
      clear hK K
      try simp only [Act.put, List.setIfInBounds_toArray, List.set_cons_zero, List.set_cons_succ]
      refine wpAnyZ_ready (rs := [17]) (by kernel_rfl) (by simp) ?_
      refine AllReadyZ.cons (o := { dst := some 34, op := Op.call { callee := Callee.builtin Builtin.append, args := #[Operand.tmp 18, Operand.tmp 33], argTypes := #[22, 22] }, type := 22, pos := "ref.go:42", after := #[{ on := 1, ground := Ground.data }, { on := 16, ground := Ground.data }, { on := 14, ground := Ground.chain }], guard := none }) rfl (by rfl) (fun K hK => ?_) (AllReadyZ.nil)
      refine step_append_tabs (by rfl) _ _ 22 (by rfl) w.heap.size i1 z1 Try.underlying22 hi1 hz1 h11 h12 h13 (.slice a k c) k (tbC Rk) (by rfl) HC.out.row ⟨w5.heap.size, 0, none⟩ 1 1 [⟨f, l, a5, c5⟩] (by rfl) rfl (cellsAt_one HX6.out) (by have := HLT.out; omega) HC.out.bel.size ?_
      intro v7 w7 ho7 hg7
      obtain ⟨a7, c7, rfl⟩ := own_shape16 ho7
      have HN := Lib.hid (HST.out w6 w7 a7 a5 c7 c5 wd HCd.out HB5.out HO5.out hg7 ho7)
      replace H1 := Lib.hid (H1.out.grown hg7 (own_of_blk H1.out HC.out.row (by decide)))
      replace H2 := Lib.hid (H2.out.grown hg7 (own_of_blk H2.out HC.out.row (by decide)))
      replace H3 := Lib.hid (H3.out.grown hg7 (own_of_blk H3.out HC.out.row (by decide)))
      clear ho7 hg7 HCd HO5 HB5 HX6 HST
      refine hK.out _ _ ?_ (fun hHeld => ?_)
      · exact ⟨H3.out.cell 0, H1.out.cell 0, (HR.out.below HN.out.bel).1, (HR.out.below HN.out.bel).2.1⟩
      clear hK K
      try simp only [Act.put, List.setIfInBounds_toArray, List.set_cons_zero, List.set_cons_succ]
      refine wpAnyZ_takeY (i := 18) (oi := { dst := some 35, op := Op.fieldAddr 24 (Operand.tmp 3) 0, type := 0, pos := "ref.go:42", after := #[{ on := 0, ground := Ground.phase }, { on := 1, ground := Ground.phase }, { on := 2, ground := Ground.phase }, { on := 3, ground := Ground.phase }, { on := 4, ground := Ground.phase }, { on := 5, ground := Ground.phase }, { on := 6, ground := Ground.phase }, { on := 7, ground := Ground.phase }, { on := 8, ground := Ground.phase }, { on := 9, ground := Ground.phase }, { on := 10, ground := Ground.phase }, { on := 11, ground := Ground.phase }, { on := 12, ground := Ground.phase }, { on := 13, ground := Ground.phase }, { on := 14, ground := Ground.phase }, { on := 15, ground := Ground.phase }, { on := 16, ground := Ground.phase }, { on := 17, ground := Ground.phase }], guard := none }) (v := ?_) rfl (by kernel_rfl) (by kernel_rfl) (by kernel_rfl) (by rfl) (fun _ _ _ h => h) (Or.inl ⟨by rfl, ?_⟩) (by assumption) ?_
      rotate_left
      · (intro w; go_simp); (first | done | with_reducible rfl)
      try simp only [Act.put, List.setIfInBounds_toArray, List.set_cons_zero, List.set_cons_succ]
      refine wpAnyZ_ready (rs := [19]) (by kernel_rfl) (by simp) ?_
      refine AllReadyZ.last (o := { dst := none, op := Op.store 22 (Operand.tmp 35) (Operand.tmp 34), type := 0, pos := "ref.go:42", after := #[{ on := 18, ground := Ground.data }, { on := 17, ground := Ground.data }, { on := 17, ground := Ground.chain }, { on := 0, ground := Ground.phase }, { on := 1, ground := Ground.phase }, { on := 2, ground := Ground.phase }, { on := 3, ground := Ground.phase }, { on := 4, ground := Ground.phase }, { on := 5, ground := Ground.phase }, { on := 6, ground := Ground.phase }, { on := 7, ground := Ground.phase }, { on := 8, ground := Ground.phase }, { on := 9, ground := Ground.phase }, { on := 10, ground := Ground.phase }, { on := 11, ground := Ground.phase }, { on := 12, ground := Ground.phase }, { on := 13, ground := Ground.phase }, { on := 14, ground := Ground.phase }, { on := 15, ground := Ground.phase }, { on := 16, ground := Ground.phase }, { on := 17, ground := Ground.phase }], guard := none }) rfl (fun K hK => ?_) AllReadyZ.nil
      have f9 := H3.out.free 0
      have m9 := H3.out.cell 0
      go_simp
      refine hK.out _ _ ?_
      clear hK K
      refine wpAny_done (by kernel_rfl) ?_ _
      have HN2 := Lib.hid (HN.out.put H3.out (by omega) 0 (.slice a7 (k + 1) c7))
      replace H1 := Lib.hid (H1.out.other (show w.heap.size ≠ w.heap.size + 1 + 1 from by omega) 0 (.slice a7 (k + 1) c7))
      replace H2 := Lib.hid (H2.out.other (show w.heap.size + 1 ≠ w.heap.size + 1 + 1 from by omega) 0 (.slice a7 (k + 1) c7))
      have H3' := Lib.hid (show BkIn (stA a7 (k + 1) c7 log next) 24 (w7.setCell ⟨w.heap.size + 1 + 1, 0, none⟩ (.slice a7 (k + 1) c7)) (w.heap.size + 1 + 1) from by have := H3.out.set 0 (.slice a7 (k + 1) c7); simpa using this)
      clear H3 HN hHeld m9 f9
      generalize w7.setCell ⟨w.heap.size + 1 + 1, 0, none⟩ (.slice a7 (k + 1) c7) = w8 at *
      go_wp2_with fail
      go_roundw
      case rel => exact ⟨k + 1, Rk ++ [⟨f, l, a5, c5⟩], a7, c7, by have := HLT.out; omega, by go_num, HN2, H3', H1, H2⟩
      case measure => have := HLT.out; simp [intOf]; omega
    · obtain rfl : k = Rs.length := by omega
      obtain ⟨g, rfl, _⟩ := own_cell16 hp HC.out.row
      have s0 : wr.cell? ⟨w.heap.size + 1 + 1, 0, none⟩ = some (.slice (some ⟨g, 0, none⟩) Rs.length c) := H3.out.cell 0
      have s1 : wr.cell? ⟨w.heap.size + 1 + 1, 1, none⟩ = some (.int .i64 log) := H3.out.cell 1
      have s2 : wr.cell? ⟨w.heap.size + 1 + 1, 2, none⟩ = some (.int .i64 next) := H3.out.cell 2
      go_wp2_with (refine wpList_store_row rfl 24 _ _ rfl (w.heap.size + 1) _ rfl rfl 24 _ H2.out infoSt_size rfl (by simp [Value.oneCell']) ?_)
      exact bodyPost_ret (ret_st1 rfl _ _ (w.heap.size + 1) rfl (load_st rfl (H2.out.rowPut (stA (some ⟨g, 0, none⟩) Rs.length c log next)))) rfl ⟨Rk, g, c, rfl, HC.out.cl.rowSt H2.out (by omega) _⟩

end Go.Proofs.Ytfcmjgcjmldpcaa
