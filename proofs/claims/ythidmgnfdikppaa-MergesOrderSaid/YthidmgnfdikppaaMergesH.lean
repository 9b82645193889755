/- Layer 11: a head laid behind the others, by a contract. -/
import Derived.Test.YthidmgnfdikppaaMergesG
namespace Go.Proofs.Ythidmgnfdikppaa
set_option linter.unusedVariables false
open Go Go.RowKit
attribute [local go_sem ↓] run_index_S
attribute [local go_sem] S_append S_extract

theorem push_row11 {B bi : Nat} {ao : Option Addr} {n cap : Nat} {H : List M.Hd} {w W wN : World} (h : Hq B bi ao n cap H w) (hW : Below w.heap.size w W) (hg : W.grownBy wN (Value.slice ao n cap).ownBlock) : RowIn #[.slice ao n cap] 71 wN bi :=
  (hg.block bi (Nat.lt_of_lt_of_le h.row.lt hW.size) (fun e => h.ne bi e.symm rfl)).trans (h.row.below hW)
theorem push_end11 {B bi : Nat} {ao ao' : Option Addr} {n cap cap' : Nat} {H : List M.Hd} {x : M.Hd} {w W wN : World} (h : Hq B bi ao n cap H w) (hW : Below w.heap.size w W) (ho : wN.ownsRow B 127 5 (.slice ao' (n + 1) cap') (n + 1) (hds H ++ hdL x)) (hg : W.grownBy wN (Value.slice ao n cap).ownBlock) (h7 : (Value.slice ao' (n + 1) cap').ownBlock = (Value.slice ao n cap).ownBlock ∨ (Value.slice ao' (n + 1) cap').ownBlock = some W.heap.size) :
    ∃ ao'' cap'', Hq B bi ao'' (n + 1) cap'' (H ++ [x]) (wN.setCell ⟨bi, 0, none⟩ (.slice ao' (n + 1) cap')) ∧ Two bi (Value.slice ao n cap).ownBlock w (wN.setCell ⟨bi, 0, none⟩ (.slice ao' (n + 1) cap')) ∧ ∀ q, (Value.slice ao'' (n + 1) cap'').ownBlock = some q → (Value.slice ao n cap).ownBlock = some q ∨ w.heap.size ≤ q := by
  have hr := push_row11 h hW hg
  have hne := row_apart hr ho (by decide)
  refine ⟨ao', cap', ⟨?_, ?_, ?_, ?_⟩, ?_, ?_⟩
  · exact hr.set 0 _
  · have e : hds (H ++ [x]) = hds H ++ hdL x := by rw [hds_append, hds_one]
    rw [e]
    exact ownsRow_setCell_other ho (fun e => hne bi e rfl) _
  · simp [h.len]
  · exact Nat.le_trans h.base (Nat.le_trans hW.size (Nat.le_trans hg.size (by simp)))
  · exact ((Two.below hW).trans (Two.of hg) (fun q e => .inl e)).set (p := ⟨bi, 0, none⟩) rfl _
  · intro q hq
    rcases h7 with e | e
    · exact .inl (e.symm.trans hq)
    · rw [e] at hq; injection hq with hq; subst hq; exact .inr hW.size
set_option maxRecDepth 100000 in
theorem ta11 (v : Value) (w : World) : Sem.run Try.prog (Instr.typeAssert (.iface 127 v) 20 127 false) w = .ok v w := by kernel_rfl
set_option maxHeartbeats 4000000 in
set_option maxRecDepth 100000 in
theorem push11_any (B bi : Nat) (ao : Option Addr) (n cap : Nat) (H : List M.Hd) (x : M.Hd) (w : World) (h : Hq B bi ao n cap H w) (hn : n + 1 ≤ 1000000) :
    Calls Try.prog 183 #[.pointer (some ⟨bi, 0, none⟩), .iface 127 (.agg (hdA x))] w (PushR B bi ao n cap (H ++ [x]) w) := by
  have HQ := Lib.hid h
  have h0 : w.cell? ⟨bi, 0, none⟩ = some (.slice ao n cap) := h.row.cell 0
  have h0a : (w.alloc (.cells (hdA x) 127)).cell? ⟨bi, 0, none⟩ = some (.slice ao n cap) := (h.row.more _).cell 0
  have hlt := h.row.lt
  have m1 : ¬ (bi = w.heap.size) := by omega
  have m2 : ¬ (w.heap.size = bi) := by omega
  have HW := Lib.hid (((Below.refl w.heap.size w).drew).alloc (Nat.le_refl _) (.cells (hdA x) 127))
  have HO := Lib.hid ((own_below11 h.own (Below.refl w.heap.size w).drew).alloc (.cells (hdA x) 127))
  have HB := Lib.hid (show B ≤ (w.drew.alloc (.cells (hdA x) 127)).heap.size from Nat.le_trans h.base HW.out.size)
  unfold PushR
  clear h hlt
  have hta := ta11
  have hsz : (hdA x).size = 5 := rfl
  have hf : Array.foldl (fun (cs : Array Value) (x : Value × Nat) => cs.setIfInBounds x.snd x.fst) #[Value.string { data := #[] }, Value.int IntKind.i64 0, Value.string { data := #[] }, Value.slice none 0 0, Value.int IntKind.i64 0] (hdA x).zipIdx 0 5 = hdA x := rfl
  go_enter Try.func183, Try.ntmps183
  go_wp2_with fail
  refine wp_region_any (by kernel_rfl) ?_
  change wpAny _ _ _ _ _ _ _ (World.drew _)
  refine wpAny_take (i := 0) (oi := { dst := some 4, op := Op.move (Operand.tmp 0), type := 129, pos := "merges.go:38", after := #[], guard := none }) (v := ?_) rfl (by kernel_rfl) (by kernel_rfl) (by kernel_rfl) (fun _ _ _ h => h) (Or.inl ⟨by rfl, ?_⟩) ?_
  rotate_left
  · (intro w; go_simp); (first | done | with_reducible rfl)
  try simp only [Act.put, List.setIfInBounds_toArray, List.set_cons_zero, List.set_cons_succ]
  refine wpAny_take (i := 1) (oi := { dst := some 5, op := Op.move (Operand.tmp 0), type := 129, pos := "merges.go:38", after := #[], guard := none }) (v := ?_) rfl (by kernel_rfl) (by kernel_rfl) (by kernel_rfl) (fun _ _ _ h => h) (Or.inl ⟨by rfl, ?_⟩) ?_
  rotate_left
  · (intro w; go_simp); (first | done | with_reducible rfl)
  try simp only [Act.put, List.setIfInBounds_toArray, List.set_cons_zero, List.set_cons_succ]
  refine wpAny_take (i := 2) (oi := { dst := some 6, op := Op.nilCheck (Operand.tmp 5), type := 0, pos := "merges.go:38", after := #[{ on := 1, ground := Ground.data }], guard := none }) (v := ?_) rfl (by kernel_rfl) (by kernel_rfl) (by kernel_rfl) (fun _ _ _ h => h) (Or.inl ⟨by rfl, ?_⟩) ?_
  rotate_left
  · (intro w; go_simp); (first | done | with_reducible rfl)
  try simp only [Act.put, List.setIfInBounds_toArray, List.set_cons_zero, List.set_cons_succ]
  refine wpAny_take (i := 4) (oi := { dst := some 8, op := Op.move (Operand.tmp 1), type := 20, pos := "merges.go:38", after := #[], guard := none }) (v := ?_) rfl (by kernel_rfl) (by kernel_rfl) (by kernel_rfl) (fun _ _ _ h => h) (Or.inl ⟨by rfl, ?_⟩) ?_
  rotate_left
  · (intro w; go_simp); (first | done | with_reducible rfl)
  try simp only [Act.put, List.setIfInBounds_toArray, List.set_cons_zero, List.set_cons_succ]
  refine wpAny_take (i := 5) (oi := { dst := some 9, op := Op.typeAssert (Operand.tmp 8) 20 127 false, type := 127, pos := "merges.go:38", after := #[{ on := 4, ground := Ground.data }], guard := none }) (v := ?_) rfl (by kernel_rfl) (by kernel_rfl) (by kernel_rfl) (fun _ _ _ h => h) (Or.inl ⟨by rfl, ?_⟩) ?_
  rotate_left
  · (intro w; go_simp); (first | done | with_reducible rfl)
  try simp only [Act.put, List.setIfInBounds_toArray, List.set_cons_zero, List.set_cons_succ]
  refine wpAny_ready (rs := [3, 6]) (by kernel_rfl) (by simp) ?_
  refine AllReady.cons (o := { dst := some 7, op := Op.load 69 (Operand.tmp 6), type := 69, pos := "merges.go:38", after := #[{ on := 2, ground := Ground.data }], guard := none }) rfl (fun K hK => ?_) (AllReady.cons (o := { dst := some 10, op := Op.buildSlice 69 1 #[(0, Operand.tmp 9)], type := 69, pos := "merges.go:38", after := #[{ on := 5, ground := Ground.data }], guard := none }) rfl (fun K hK => ?_) AllReady.nil)
  go_simp
  refine hK _ _ ?_
  clear hK K
  try simp only [Act.put, List.setIfInBounds_toArray, List.set_cons_zero, List.set_cons_succ]
  refine wpAny_ready (rs := [6]) (by kernel_rfl) (by simp) ?_
  refine AllReady.cons (o := { dst := some 10, op := Op.buildSlice 69 1 #[(0, Operand.tmp 9)], type := 69, pos := "merges.go:38", after := #[{ on := 5, ground := Ground.data }], guard := none }) rfl (fun K hK => ?_) AllReady.nil
  go_simp
  refine hK _ _ ?_
  clear hK K
  try simp only [Act.put, List.setIfInBounds_toArray, List.set_cons_zero, List.set_cons_succ]
  refine wpAny_ready (rs := [7]) (by kernel_rfl) (by simp) ?_
  refine AllReady.cons (o := { dst := some 11, op := Op.call { callee := Callee.builtin Builtin.append, args := #[Operand.tmp 7, Operand.tmp 10], argTypes := #[69, 69] }, type := 69, pos := "merges.go:38", after := #[{ on := 3, ground := Ground.data }, { on := 6, ground := Ground.data }], guard := none }) rfl (fun K hK => ?_) AllReady.nil
  refine wp_append_hd (.tmp 7) (.tmp 10) 69 rfl B ty_heads11 _ n (hds H) rfl HO.out x _ rfl (hd_new _ x _) hn HB.out ?_
  intro v' wN hown hg h7
  obtain ⟨ao', cap', rfl⟩ := ownP_shape hown
  have HN := Lib.hid (And.intro hown (And.intro hg h7))
  have HRN := Lib.hid (push_row11 HQ.out HW.out hg)
  clear hown hg h7
  have fz := HRN.out.free 0
  have hc0 : wN.cell? ⟨bi, 0, none⟩ = some (.slice ao n cap) := HRN.out.cell 0
  refine hK _ _ ?_
  clear hK K
  try simp only [Act.put, List.setIfInBounds_toArray, List.set_cons_zero, List.set_cons_succ]
  refine wpAny_take (i := 8) (oi := { dst := some 12, op := Op.nilCheck (Operand.tmp 4), type := 0, pos := "merges.go:38", after := #[{ on := 0, ground := Ground.data }, { on := 0, ground := Ground.phase }, { on := 1, ground := Ground.phase }, { on := 2, ground := Ground.phase }, { on := 3, ground := Ground.phase }, { on := 4, ground := Ground.phase }, { on := 5, ground := Ground.phase }, { on := 6, ground := Ground.phase }, { on := 7, ground := Ground.phase }], guard := none }) (v := ?_) rfl (by kernel_rfl) (by kernel_rfl) (by kernel_rfl) (fun _ _ _ h => h) (Or.inl ⟨by rfl, ?_⟩) ?_
  rotate_left
  · (intro w; go_simp); (first | done | with_reducible rfl)
  try simp only [Act.put, List.setIfInBounds_toArray, List.set_cons_zero, List.set_cons_succ]
  refine wpAny_ready (rs := [9]) (by kernel_rfl) (by simp) ?_
  refine AllReady.cons (o := { dst := none, op := Op.store 69 (Operand.tmp 12) (Operand.tmp 11), type := 0, pos := "merges.go:38", after := #[{ on := 8, ground := Ground.data }, { on := 7, ground := Ground.data }, { on := 7, ground := Ground.chain }, { on := 0, ground := Ground.phase }, { on := 1, ground := Ground.phase }, { on := 2, ground := Ground.phase }, { on := 3, ground := Ground.phase }, { on := 4, ground := Ground.phase }, { on := 5, ground := Ground.phase }, { on := 6, ground := Ground.phase }, { on := 7, ground := Ground.phase }], guard := none }) rfl (fun K hK => ?_) AllReady.nil
  go_simp
  refine hK _ _ ?_
  clear hK K
  try simp only [Act.put, List.setIfInBounds_toArray, List.set_cons_zero, List.set_cons_succ]
  refine wpAny_done (by kernel_rfl) ?_ _
  go_end0
  exact ⟨rfl, push_end11 HQ.out HW.out HN.out.1 HN.out.2.1 HN.out.2.2⟩
  go_simp
  refine hK _ _ ?_
  clear hK K
  try simp only [Act.put, List.setIfInBounds_toArray, List.set_cons_zero, List.set_cons_succ]
  refine wpAny_ready (rs := [3]) (by kernel_rfl) (by simp) ?_
  refine AllReady.cons (o := { dst := some 7, op := Op.load 69 (Operand.tmp 6), type := 69, pos := "merges.go:38", after := #[{ on := 2, ground := Ground.data }], guard := none }) rfl (fun K hK => ?_) AllReady.nil
  go_simp
  refine hK _ _ ?_
  clear hK K
  try simp only [Act.put, List.setIfInBounds_toArray, List.set_cons_zero, List.set_cons_succ]
  refine wpAny_ready (rs := [7]) (by kernel_rfl) (by simp) ?_
  refine AllReady.cons (o := { dst := some 11, op := Op.call { callee := Callee.builtin Builtin.append, args := #[Operand.tmp 7, Operand.tmp 10], argTypes := #[69, 69] }, type := 69, pos := "merges.go:38", after := #[{ on := 3, ground := Ground.data }, { on := 6, ground := Ground.data }], guard := none }) rfl (fun K hK => ?_) AllReady.nil
  refine wp_append_hd (.tmp 7) (.tmp 10) 69 rfl B ty_heads11 _ n (hds H) rfl HO.out x _ rfl (hd_new _ x _) hn HB.out ?_
  intro v' wN hown hg h7
  obtain ⟨ao', cap', rfl⟩ := ownP_shape hown
  have HN := Lib.hid (And.intro hown (And.intro hg h7))
  have HRN := Lib.hid (push_row11 HQ.out HW.out hg)
  clear hown hg h7
  have fz := HRN.out.free 0
  have hc0 : wN.cell? ⟨bi, 0, none⟩ = some (.slice ao n cap) := HRN.out.cell 0
  refine hK _ _ ?_
  clear hK K
  try simp only [Act.put, List.setIfInBounds_toArray, List.set_cons_zero, List.set_cons_succ]
  refine wpAny_take (i := 8) (oi := { dst := some 12, op := Op.nilCheck (Operand.tmp 4), type := 0, pos := "merges.go:38", after := #[{ on := 0, ground := Ground.data }, { on := 0, ground := Ground.phase }, { on := 1, ground := Ground.phase }, { on := 2, ground := Ground.phase }, { on := 3, ground := Ground.phase }, { on := 4, ground := Ground.phase }, { on := 5, ground := Ground.phase }, { on := 6, ground := Ground.phase }, { on := 7, ground := Ground.phase }], guard := none }) (v := ?_) rfl (by kernel_rfl) (by kernel_rfl) (by kernel_rfl) (fun _ _ _ h => h) (Or.inl ⟨by rfl, ?_⟩) ?_
  rotate_left
  · (intro w; go_simp); (first | done | with_reducible rfl)
  try simp only [Act.put, List.setIfInBounds_toArray, List.set_cons_zero, List.set_cons_succ]
  refine wpAny_ready (rs := [9]) (by kernel_rfl) (by simp) ?_
  refine AllReady.cons (o := { dst := none, op := Op.store 69 (Operand.tmp 12) (Operand.tmp 11), type := 0, pos := "merges.go:38", after := #[{ on := 8, ground := Ground.data }, { on := 7, ground := Ground.data }, { on := 7, ground := Ground.chain }, { on := 0, ground := Ground.phase }, { on := 1, ground := Ground.phase }, { on := 2, ground := Ground.phase }, { on := 3, ground := Ground.phase }, { on := 4, ground := Ground.phase }, { on := 5, ground := Ground.phase }, { on := 6, ground := Ground.phase }, { on := 7, ground := Ground.phase }], guard := none }) rfl (fun K hK => ?_) AllReady.nil
  go_simp
  refine hK _ _ ?_
  clear hK K
  try simp only [Act.put, List.setIfInBounds_toArray, List.set_cons_zero, List.set_cons_succ]
  refine wpAny_done (by kernel_rfl) ?_ _
  go_end0
  exact ⟨rfl, push_end11 HQ.out HW.out HN.out.1 HN.out.2.1 HN.out.2.2⟩

end Go.Proofs.Ythidmgnfdikppaa
