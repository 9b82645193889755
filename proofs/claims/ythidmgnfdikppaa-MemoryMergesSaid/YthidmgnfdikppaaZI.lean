/- Texts of lower layers, as one. -/
import Derived.Test.YthidmgnfdikppaaZH
import Derived.Maps.AppendAt
/- Layer 9: cells that came in, appended to a row of the call's own; the laws' twin of cells. -/
namespace Go.Proofs.Ythidmgnfdikppaa
set_option linter.unusedVariables false
open Go Go.RowKit
attribute [local go_sem ↓] run_index_S
attribute [local go_sem] S_append S_extract

theorem clOff_get9 {x : M.Cl} {w : World} {g o : Nat} (h : ClOff x w g o) (i : Nat) (u : Value) (hu : (clL x)[i]? = some u) : w.cell? ⟨g, o + i, none⟩ = some u := by
  obtain ⟨h0, h1, h2⟩ := h
  match i with
  | 0 => simp [clL] at hu; subst hu; exact h0
  | 1 => simp [clL] at hu; subst hu; exact h1
  | 2 => simp [clL] at hu; subst hu; exact h2
  | i + 3 => simp [clL] at hu
theorem clsAt_get9 {w : World} {g o : Nat} {L : List M.Cl} (h : ∀ j, j < L.length → ClOff (L.getD j M.cl0) w g (o + j * 3)) (j : Nat) (u : Value) (hu : (cls L)[j]? = some u) : w.cell? ⟨g, o + j, none⟩ = some u := by
  have hj : j < L.length * 3 := by
    rw [← cls_length]
    exact (List.getElem?_eq_some_iff.1 hu).1
  have e : j = j / 3 * 3 + j % 3 := by omega
  have h1 := h (j / 3) (by omega)
  rw [e, cls_get L (j / 3) (j % 3) (by omega) (by omega)] at hu
  have h2 := clOff_get9 h1 _ u hu
  rw [show o + j / 3 * 3 + j % 3 = o + j from by omega] at h2
  exact h2
theorem append_none9 {P : Program} (w : World) (base : Nat) (t ty e : TypeId) (i : TypeInfo) (sz : Nat) (ht : P.underlying t = some (.slice e)) (hi : P.info? e = some i) {v : Value} {n : Nat} {xs : List Value} (h : w.ownsRow base e sz v n xs) (c : Nat) :
    (Builtin.append_ #[t, t] ty #[v, .slice none 0 c]).run P w = .ok v w := by
  rcases h.2 with ⟨rfl, rfl⟩ | ⟨g, cap, cur, rfl, _, _, hc, _⟩
  · simp [Builtin.append_, run_underlying ht, sizeOf, typeInfo, hi, Builtin.lenOf, Builtin.firstCells]
  · simp [Builtin.append_, run_underlying ht, sizeOf, typeInfo, hi, Builtin.lenOf, Builtin.firstCells, hc, storeCells]

set_option maxRecDepth 100000 in
/-- What an append of a row of cells comes to. -/
theorem append_cls (w : World) (base : Nat) (t ty : TypeId) (i : TypeInfo) (z : Value) (ht : Try.prog.underlying t = some (.slice 38)) (hi : Try.prog.info? 38 = some i) (hz : i.zero = some z) (h1 : i.size = 3) (h2 : i.bytes = 40) (h3 : z.cells.size = 3)
    (v : Value) (n : Nat) (xs : List Value) (ho : w.ownsRow base 38 3 v n xs) (ao : Option Addr) (c : Nat) (L : List M.Cl) (hs : ClsAt w ao L) (h63 : n + L.length ≤ 1000000) (hbase : base ≤ w.heap.size) :
    ∃ v' w', (Builtin.append_ #[t, t] ty #[v, .slice ao L.length c]).run Try.prog w = .ok v' w' ∧ w'.ownsRow base 38 3 v' (n + L.length) (xs ++ cls L) ∧ w.grownBy w' v.ownBlock := by
  cases ao with
  | none =>
    have hL : L = [] := by
      cases L with
      | nil => rfl
      | cons x r => obtain ⟨g, off, e, _⟩ := hs (by simp); cases e
    subst hL
    exact ⟨v, w, append_none9 w base t ty _ i 3 ht hi ho c, by simpa [cls] using ho, World.grownBy.refl w _⟩
  | some ad =>
    have hc : ∀ j u, (cls L)[j]? = some u → w.cell? (ad.add j) = some u := by
      intro j u hu
      by_cases hL : L = []
      · subst hL; simp [cls] at hu
      · obtain ⟨g, off, e, hk⟩ := hs hL
        injection e with e
        subst e
        rw [Addr.add_lit]
        exact clsAt_get9 hk j u hu
    obtain ⟨v', w', hr, h5, h6, _⟩ := run_append_own_at (P := Try.prog) w base t ty 38 i z 3 40 ht hi hz h1 h2 h3 (by decide) v n xs ho ad L.length c (cls L) (cls_length L) hc (cls_oneC L) (by unfold maxLen; omega) (by omega) hbase
    exact ⟨v', w', hr, h5, h6⟩
theorem wpList_append_cls {w : World} {ops : Array Oper} {rest : List Oper} {o : Oper} {a : Act} {Q : Exit → Act → World → Prop} (hgd : o.guard = none) (s x : Operand) (t : TypeId)
    (hop : o.op = .call { callee := .builtin .append, args := #[s, x], argTypes := #[t, t] })
    (base : Nat) (i : TypeInfo) (z : Value) (ht : Try.prog.underlying t = some (.slice 38)) (hi : Try.prog.info? 38 = some i) (hz : i.zero = some z) (h1 : i.size = 3) (h2 : i.bytes = 40) (h3 : z.cells.size = 3)
    (v : Value) (n : Nat) (xs : List Value) (hv : a.eval s = v) (ho : w.ownsRow base 38 3 v n xs) (ao : Option Addr) (c : Nat) (L : List M.Cl) (hx : a.eval x = .slice ao L.length c) (hs : ClsAt w ao L) (h63 : n + L.length ≤ 1000000) (hbase : base ≤ w.heap.size)
    (h : ∀ v' w', w'.ownsRow base 38 3 v' (n + L.length) (xs ++ cls L) → w.grownBy w' v.ownBlock → wpList Try.prog ops Q rest (a.put o.dst v') w') :
    wpList Try.prog ops Q (o :: rest) a w := by
  refine wpList_plain hgd fun K hK => ?_
  obtain ⟨v', w', hrun, h5, h6⟩ := append_cls w base t o.type i z ht hi hz h1 h2 h3 v n xs ho ao c L hs h63 hbase
  unfold Oper.wp execOp
  simp only [hop, resolve, invoke, builtin, Sem.run_bind, Sem.run_pure, Result.andThen_ok, List.map_toArray, List.map_cons, List.map_nil, hv, hx, hrun]
  exact hK _ _ (h v' w' h5 h6)
/-- 'make([]Cell, 0, n)'. -/
theorem make_cls (t : TypeId) (ht : Try.prog.underlying t = some (.slice 38)) (n : Nat) (hn : n ≤ 1000000) (kl kc : IntKind) :
    ∃ C : Array Value, C.size = n * 3 ∧ ∀ w : World, (Instr.makeSlice t (.int kl 0) (.int kc (n : Int))).run Try.prog w = .ok (.slice (some ⟨w.heap.size, 0, none⟩) 0 n) (w.alloc (.cells C 38)) := by
  obtain ⟨i0, z0, hi, hz0, hz1, hz2, hz3⟩ := infoCl_parts
  refine ⟨madeCells z0.cells (n * 3), by simp [size_madeCells], fun w => ?_⟩
  have hr := run_make (P := Try.prog) w t _ i0 z0 ht hi hz0 kl kc 0 n (by omega) (by omega) (by rw [hz2]; omega) (by omega)
  rw [hz1] at hr
  exact hr
/-- Rows of cells, parted: what stands ahead. -/
theorem clsAt_take9 {w : World} {ao : Option Addr} {L : List M.Cl} {x : M.Cl} (h : ClsAt w ao (L ++ [x])) : ∃ g off, ao = some ⟨g, off, none⟩ ∧ ClsAt w (some ⟨g, off, none⟩) L ∧ ClOff x w g (off + L.length * 3) := by
  obtain ⟨g, off, e, hc⟩ := h (by simp)
  refine ⟨g, off, e, fun _ => ⟨g, off, rfl, fun j hj => ?_⟩, ?_⟩
  · have := hc j (by simp; omega)
    rwa [show (L ++ [x]).getD j M.cl0 = L.getD j M.cl0 from by simp [List.getD, List.getElem?_append_left hj]] at this
  · have := hc L.length (by simp)
    rwa [show (L ++ [x]).getD L.length M.cl0 = x from by simp [List.getD]] at this
theorem ownC_cap {B : Nat} {w : World} {g n cap : Nat} {xs : List Value} (h : w.ownsRow B 38 3 (.slice (some ⟨g, 0, none⟩) n cap) n xs) : n ≤ cap := by
  rcases h.2 with ⟨e, _⟩ | ⟨g', cap', cur, e, hB, hg, hc, _⟩
  · cases e
  · injection e with e1 e2 e3
    omega
def c70 : M.Cl := ⟨[], -70, []⟩
/-- The twin: those cells, and one more behind. -/
def TwinR9 (L : List M.Cl) (w : World) (e : Ending) (w' : World) : Prop := ∃ g c, e = .returned (.slice (some ⟨g, 0, none⟩) L.length c) ∧ L.length + 1 ≤ c ∧ ClsAt w' (some ⟨g, 0, none⟩) (L ++ [c70]) ∧ Below w.heap.size w w'

set_option maxHeartbeats 4000000 in
set_option maxRecDepth 100000 in
theorem twin9_any (L : List M.Cl) (ao : Option Addr) (cap : Nat) (hl : L.length ≤ 900) (w : World) (h : ClsAt w ao L) :
    Calls Try.prog 23 #[.slice ao L.length cap] w fun e w' => TwinR9 L w e w' := by
  obtain ⟨i0, z0, hi, hz0, hz1, hz2, hz3⟩ := infoCl_parts
  obtain ⟨C, hC, hmk⟩ := make_cls 22 Try.underlying22 (L.length + 1) (by omega) .i64 .i64
  simp only [Int.natCast_add, Int.natCast_one] at hmk
  have ew : IntKind.i64.wrap ((L.length : Int) + 1) = (L.length : Int) + 1 := IntWalk.i64_in _ (by omega)
  have HMK := Lib.hid (World.ownsRow_made (base := w.heap.size) w C (L.length + 1) (Nat.le_refl _) (by unfold maxLen; omega) hC (e := 38))
  have HL := Lib.hid (h.below ((Below.refl w.heap.size w).alloc (Nat.le_refl _) (.cells C 38)))
  have HB := Lib.hid ((Below.refl w.heap.size w).alloc (Nat.le_refl _) (.cells C 38))
  have b1 : (0 : Int) ≤ (L.length : Int) := by omega
  clear h
  go_enter Try.func23, Try.ntmps23
  go_wp2_with (first
    | (have _t := HO1; clear _t; at_builtin; refine wpList_append_cls rfl _ _ 22 rfl w.heap.size i0 z0 Try.underlying22 hi hz0 hz1 hz2 hz3 (.slice a1 L.length q1) L.length (cls L) rfl (HO1.out.alloc _) (some ⟨w1.heap.size, 0, none⟩) 1 [c70] rfl (clsAt_row (rowIn_new (clA c70) 38 w1) rfl) (by have e1 : [c70].length = 1 := rfl; omega) (by have := HB1.out.size; rw [szA]; omega) ?_; intro v2 w2 ho2 hg2; obtain ⟨a2, q2, rfl⟩ := ownP_shape ho2; obtain ⟨g, rfl⟩ := ownC_addr ho2 (Nat.succ_pos _); have HO2 := Lib.hid (show w2.ownsRow w.heap.size 38 3 (.slice (some ⟨g, 0, none⟩) (L.length + 1) q2) (L.length + 1) (cls (L ++ [c70])) from by rw [cls_append]; exact ho2); have HB2 := Lib.hid ((HB1.out.alloc HB1.out.size (.cells (clA c70) 38)).grown hg2 (by have := HB1.out.size; rw [szA]; omega) (fun q hq => (HO1.out.lt q hq).1)); have hq2 : L.length + 1 ≤ q2 := ownC_cap HO2.out; have b2 : (L.length : Int) ≤ (q2 : Int) := (by omega); clear ho2 hg2)
    | (at_builtin; refine wpList_append_cls rfl _ _ 22 rfl w.heap.size i0 z0 Try.underlying22 hi hz0 hz1 hz2 hz3 (.slice (some ⟨w.heap.size, 0, none⟩) 0 (L.length + 1)) 0 [] rfl HMK.out ao cap L rfl HL.out (by omega) HB.out.size ?_; intro v1 w1 ho1 hg1; obtain ⟨a1, q1, rfl⟩ := ownP_shape ho1; have HO1 := Lib.hid (show w1.ownsRow w.heap.size 38 3 (.slice a1 L.length q1) L.length (cls L) from by simpa using ho1); have HB1 := Lib.hid (HB.out.grown hg1 HB.out.size (fun q hq => (HMK.out.lt q hq).1)); clear ho1 hg1))
  go_ret
  exact ⟨g, q2, rfl, hq2, clsAt_own HO2.out (by simp), HB2.out⟩

end Go.Proofs.Ythidmgnfdikppaa

/- Layer 9: BlocksEncode, walked. -/
namespace Go.Proofs.Ythidmgnfdikppaa
set_option linter.unusedVariables false
open Go Go.RowKit
attribute [local go_sem ↓] run_index_S
attribute [local go_sem] S_append S_extract

theorem clsAt_pre9 {w : World} {ao : Option Addr} {L : List M.Cl} {x : M.Cl} (h : ClsAt w ao (L ++ [x])) : ClsAt w ao L := by
  obtain ⟨g, off, rfl, h1, h2⟩ := clsAt_take9 h
  exact h1

set_option maxHeartbeats 4000000 in
set_option maxRecDepth 100000 in
theorem left9_any (L : List M.Cl) (ao : Option Addr) (cap : Nat) (hl : L.length ≤ 900) (w : World) (g q : Nat) (hq : L.length + 1 ≤ q) (h : ClsAt w (some ⟨g, 0, none⟩) (L ++ [c70])) (k : ClsAt w ao L) :
    Calls Try.prog 26 #[.slice (some ⟨g, 0, none⟩) L.length q, .slice ao L.length cap] w fun e w' => e = .returned (.bool true) ∧ Below w.heap.size w w' := by
  have CM := Lib.hid (sameCells9_yes L L.length rfl (some ⟨g, 0, none⟩) ao q cap (by omega) (clsAt_pre9 h) k)
  have H7 : Hid (ClOff c70 w g (L.length * 3)) := by
    obtain ⟨g', off, e, h1, h2⟩ := clsAt_take9 h
    injection e with e
    injection e with e1 e2
    subst e1 e2
    rw [Nat.zero_add] at h2
    exact Lib.hid h2
  have d0 : decide ((L.length : Int) < (q : Int)) = true := by simp; omega
  have ew : IntKind.i64.wrap ((L.length : Int) + 1) = (L.length : Int) + 1 := IntWalk.i64_in _ (by omega)
  have b1 : (0 : Int) ≤ (L.length : Int) + 1 := by omega
  have b2 : (L.length : Int) + 1 ≤ (q : Int) := by omega
  have b3 : (L.length : Int) < (L.length : Int) + 1 := by omega
  have b4 : ((L.length : Int) + 1).toNat = L.length + 1 := by omega
  clear h k
  go_enter Try.func26, Try.ntmps26
  go_wp2_with fail
  with_reducible refine CM.out.mono ?_
  rintro e w1 ⟨rfl, hb⟩
  have HB := Lib.hid hb
  obtain ⟨z0, z1, z2⟩ := H7.out.below hb
  have z1 : w1.cell? ⟨g, L.length * 3 + 1, none⟩ = some (.int .i64 (-70)) := z1
  clear hb z0 z2
  go_wp2_with fail
  go_ret
  exact ⟨rfl, HB.out⟩

end Go.Proofs.Ythidmgnfdikppaa
