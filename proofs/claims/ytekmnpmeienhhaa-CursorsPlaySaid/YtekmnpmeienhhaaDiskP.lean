/- Layer 5: drop. -/
import Derived.Test.YtekmnpmeienhhaaDiskO
import Derived.Test.YtekmnpmeienhhaaLast
namespace Go.Proofs.Ytekmnpmeienhhaa
set_option linter.unusedVariables false
open Go Go.RowKit Go.Maps

section
variable {w : World} {ops : Array Oper} {o : Oper} {a : Act} {K : Act → World → Prop} {Q : Exit → Act → World → Prop} {E : Prop}
theorem step_look5 (hgd : o.guard = none) (m x : Operand) (hop : o.op = Op.lookup 41 m x false) {mb n : Nat} {V : List UInt8 → Value} {L : List Dk.Fl} {nm : List UInt8} (hm : a.eval m = .map (some mb)) (hx : a.eval x = .string (S nm))
    (hown : w.ownsMap Try.prog 9 heldR mb n (datM V L)) (hl : nm.length ≤ 140737488351232) (v : Value) (he : vOf V nm L = v) (hK : K (a.put o.dst (.agg #[v, .int .i64 (Dk.get nm L).safe])) w) :
    if Region.wanted o (yielded ops a.tmps) = true then Oper.wp Try.prog o a w K Q else E := by
  subst he
  have hw : Region.wanted o (yielded ops a.tmps) = true := by simp [Region.wanted, hgd]
  rw [if_pos hw]
  have hrun := run_look5 hown hl
  unfold Oper.wp
  simp [execOp, hop, hm, hx, hrun, Result.andThen]
  exact hK
theorem step_put5 (hgd : o.guard = none) (m x v : Operand) (hop : o.op = Op.mapUpdate 41 m x v) {mb n : Nat} {V : List UInt8 → Value} {L : List Dk.Fl} {f : Dk.Fl} {u : Value} (hm : a.eval m = .map (some mb)) (hx : a.eval x = .string (S f.name)) (hv : a.eval v = .agg #[u, .int .i64 f.safe])
    (hown : w.ownsMap Try.prog 9 heldR mb n (datM V L)) (hn : n ≤ 100000) (hl : f.name.length ≤ 140737488351232)
    (hK : ∀ w', w'.ownsMap Try.prog 9 heldR mb (n + 1) (datM (upV V f.name u) (Dk.put f L)) → w.mapTurned w' mb → K (a.put o.dst undef) w') :
    if Region.wanted o (yielded ops a.tmps) = true then Oper.wp Try.prog o a w K Q else E := by
  have hw : Region.wanted o (yielded ops a.tmps) = true := by simp [Region.wanted, hgd]
  rw [if_pos hw]
  obtain ⟨w', hrun, r1, r2⟩ := hown.store law5 Try.underlying41 (by unfold maxLen; omega) (key5 hl) (val := .agg #[u, .int .i64 f.safe]) (d := .held (flV u f.safe)) (ps := []) rfl
  rw [datM_put] at r1
  unfold Oper.wp
  simp [execOp, hop, hm, hx, hv, hrun, Result.andThen]
  exact hK _ r1 r2
end
theorem run_fieldT5 (w : World) (v : Value) (n : Int) : (Instr.field 93 (.agg #[v, .int .i64 n]) 0).run Try.prog w = .ok v w := by kernel_rfl
theorem wr_turned {w w' : World} {b : Nat} {A : Nat → Prop} (h : w.mapTurned w' b) (hA : A b) : Wr A w w' := wr_grown h.grown (fun q hq => by cases hq; exact .inl hA)
section
variable {B d mb : Nat} {V : List UInt8 → Value} {sv : Value} {c : Cs} {D : Dk.St} {w : World} {F : Nat → Prop}
theorem DkCo.vrow (h : DkCo B d mb V sv D w) (nm : List UInt8) : w.ownsRow B 5 1 (vOf V nm D.L) (Dk.get nm D.L).dat.length (bts (Dk.get nm D.L).dat) := by
  unfold vOf
  cases hh : Dk.has nm D.L with
  | true =>
    obtain ⟨h1, h2⟩ := Dk.get_mem hh
    have := h.row _ h1
    rw [h2] at this
    exact this
  | false =>
    rw [Dk.get_none hh]
    exact World.ownsRow_nil _ _ _ _
theorem DkCo.drew (h : DkCo B d mb V sv D w) : DkCo B d mb V sv D w.drew := ⟨h.box, h.map, h.row, h.ap⟩
set_option maxRecDepth 100000 in
set_option maxHeartbeats 1000000 in
theorem drop5 (h : DkCo B d mb V sv D w) (hO : Dk.OkL D.L) (hz : Dk.size D.L ≤ 1048576) (nm : List UInt8) (hl : nm.length ≤ 140737488351232) : Calls Try.prog 76 #[.pointer (some ⟨d, 0, none⟩), .string (S nm)] w fun e w' =>
    e = .returned (.tuple #[]) ∧ DkCo B d mb V sv { D with L := Dk.del nm D.L } w' ∧ Wr (fun q => q = d ∨ q = mb) w w' := by
  have hsd := Dk.size_del (nm := nm) hO.ne
  obtain ⟨ao, ac, hv⟩ := row_shape5 (h.vrow nm)
  have HV := Lib.hid hv
  have HL := Lib.hid hl
  have hft := run_fieldT5
  have e1 : IntKind.i64.wrap ((Dk.size D.L : Int) - ((Dk.get nm D.L).dat.length : Int)) = (Dk.size D.L : Int) - ((Dk.get nm D.L).dat.length : Int) := IntWalk.i64_in _ (by omega)
  have HE := Lib.hid (show (Dk.size D.L : Int) - ((Dk.get nm D.L).dat.length : Int) = (Dk.size (Dk.del nm D.L) : Int) from by omega)
  have HX0 := Lib.hid h
  have HOK := Lib.hid hO
  clear hsd hv hl h hO hz
  go_enter Try.func76, Try.ntmps76
  go_wp2_with fail
  refine wp_region_Z (S := fun W => W.cell? ⟨d, 1, none⟩ = some (.int .i64 (Dk.size D.L)) ∧ W.cell? ⟨d, 2, none⟩ = some (.map (some mb)) ∧ W.ownsMap Try.prog 9 heldR mb D.L.length (datM V D.L)) 15 (by kernel_rfl) ?_ (fun hHeld => ?_)
  · exact ⟨HX0.out.box.cell 1, HX0.out.box.cell 2, HX0.out.map⟩
  have HX := Lib.hid HX0.out.drew
  have HW := Lib.hid ((Wr.refl (fun q => q = d ∨ q = mb) w).drew)
  obtain ⟨wd, hwd⟩ : ∃ x, x = World.drew w := ⟨_, rfl⟩
  rw [← hwd] at HX HW hHeld ⊢
  clear hwd
  refine wpAnyZ_takeY (i := 0) (oi := { dst := some 4, op := Op.move (Operand.tmp 0), type := 24, pos := "disk.go:133", after := #[], guard := none }) (v := ?_) rfl (by kernel_rfl) (by kernel_rfl) (by kernel_rfl) (by rfl) (fun _ _ _ h => h) (Or.inl ⟨by rfl, ?_⟩) (by assumption) ?_
  rotate_left
  · (intro w; go_simp); (first | done | with_reducible rfl)
  try simp only [Act.put, List.setIfInBounds_toArray, List.set_cons_zero, List.set_cons_succ]
  refine wpAnyZ_takeY (i := 1) (oi := { dst := some 5, op := Op.nilCheck (Operand.tmp 4), type := 0, pos := "disk.go:133", after := #[{ on := 0, ground := Ground.data }], guard := none }) (v := ?_) rfl (by kernel_rfl) (by kernel_rfl) (by kernel_rfl) (by rfl) (fun _ _ _ h => h) (Or.inl ⟨by rfl, ?_⟩) (by assumption) ?_
  rotate_left
  · (intro w; go_simp); (first | done | with_reducible rfl)
  try simp only [Act.put, List.setIfInBounds_toArray, List.set_cons_zero, List.set_cons_succ]
  refine wpAnyZ_takeY (i := 2) (oi := { dst := some 6, op := Op.fieldAddr 43 (Operand.tmp 5) 1, type := 0, pos := "disk.go:133", after := #[{ on := 1, ground := Ground.data }], guard := none }) (v := ?_) rfl (by kernel_rfl) (by kernel_rfl) (by kernel_rfl) (by rfl) (fun _ _ _ h => h) (Or.inl ⟨by rfl, ?_⟩) (by assumption) ?_
  rotate_left
  · (intro w; go_simp); (first | done | with_reducible rfl)
  try simp only [Act.put, List.setIfInBounds_toArray, List.set_cons_zero, List.set_cons_succ]
  refine wpAnyZ_take (i := 3) (oi := { dst := some 7, op := Op.load 3 (Operand.tmp 6), type := 3, pos := "disk.go:133", after := #[{ on := 2, ground := Ground.data }], guard := none }) (v := ?_) [12, 13, 14, 15] rfl (by kernel_rfl) (by kernel_rfl) (by kernel_rfl) (by kernel_rfl) (fun _ _ _ h => h) (Or.inl ⟨by rfl, ?_⟩) (by assumption) ?_
  rotate_left
  · (intro w hSw; (try dsimp only at hSw); go_simp); (first | done | with_reducible rfl)
  try simp only [Act.put, List.setIfInBounds_toArray, List.set_cons_zero, List.set_cons_succ]
  refine wpAnyZ_takeY (i := 4) (oi := { dst := some 8, op := Op.move (Operand.tmp 0), type := 24, pos := "disk.go:133", after := #[], guard := none }) (v := ?_) rfl (by kernel_rfl) (by kernel_rfl) (by kernel_rfl) (by rfl) (fun _ _ _ h => h) (Or.inl ⟨by rfl, ?_⟩) (by assumption) ?_
  rotate_left
  · (intro w; go_simp); (first | done | with_reducible rfl)
  try simp only [Act.put, List.setIfInBounds_toArray, List.set_cons_zero, List.set_cons_succ]
  refine wpAnyZ_takeY (i := 5) (oi := { dst := some 9, op := Op.nilCheck (Operand.tmp 8), type := 0, pos := "disk.go:133", after := #[{ on := 4, ground := Ground.data }], guard := none }) (v := ?_) rfl (by kernel_rfl) (by kernel_rfl) (by kernel_rfl) (by rfl) (fun _ _ _ h => h) (Or.inl ⟨by rfl, ?_⟩) (by assumption) ?_
  rotate_left
  · (intro w; go_simp); (first | done | with_reducible rfl)
  try simp only [Act.put, List.setIfInBounds_toArray, List.set_cons_zero, List.set_cons_succ]
  refine wpAnyZ_takeY (i := 6) (oi := { dst := some 10, op := Op.fieldAddr 43 (Operand.tmp 9) 2, type := 0, pos := "disk.go:133", after := #[{ on := 5, ground := Ground.data }], guard := none }) (v := ?_) rfl (by kernel_rfl) (by kernel_rfl) (by kernel_rfl) (by rfl) (fun _ _ _ h => h) (Or.inl ⟨by rfl, ?_⟩) (by assumption) ?_
  rotate_left
  · (intro w; go_simp); (first | done | with_reducible rfl)
  try simp only [Act.put, List.setIfInBounds_toArray, List.set_cons_zero, List.set_cons_succ]
  refine wpAnyZ_take (i := 7) (oi := { dst := some 11, op := Op.load 41 (Operand.tmp 10), type := 41, pos := "disk.go:133", after := #[{ on := 6, ground := Ground.data }], guard := none }) (v := ?_) [9, 10, 11, 12, 13, 14, 15] rfl (by kernel_rfl) (by kernel_rfl) (by kernel_rfl) (by kernel_rfl) (fun _ _ _ h => h) (Or.inl ⟨by rfl, ?_⟩) (by assumption) ?_
  rotate_left
  · (intro w hSw; (try dsimp only at hSw); go_simp); (first | done | with_reducible rfl)
  try simp only [Act.put, List.setIfInBounds_toArray, List.set_cons_zero, List.set_cons_succ]
  refine wpAnyZ_takeY (i := 8) (oi := { dst := some 12, op := Op.move (Operand.tmp 1), type := 9, pos := "disk.go:133", after := #[], guard := none }) (v := ?_) rfl (by kernel_rfl) (by kernel_rfl) (by kernel_rfl) (by rfl) (fun _ _ _ h => h) (Or.inl ⟨by rfl, ?_⟩) (by assumption) ?_
  rotate_left
  · (intro w; go_simp); (first | done | with_reducible rfl)
  try simp only [Act.put, List.setIfInBounds_toArray, List.set_cons_zero, List.set_cons_succ]
  refine wpAnyZ_ready (rs := [9]) (by kernel_rfl) (by simp) ?_
  refine AllReadyZ.cons (o := { dst := some 13, op := Op.lookup 41 (Operand.tmp 11) (Operand.tmp 12) false, type := 93, pos := "disk.go:133", after := #[{ on := 7, ground := Ground.data }, { on := 8, ground := Ground.data }], guard := none }) rfl (by rfl) (fun K hK => ?_) (AllReadyZ.nil)
  refine step_look5 (by rfl) _ _ (by rfl) (by rfl) (by rfl) hHeld.2.2 HL.out _ HV.out ?_
  refine hK.out _ _ ?_ (fun hHeld => ?_)
  · exact hHeld
  clear hK K
  try simp only [Act.put, List.setIfInBounds_toArray, List.set_cons_zero, List.set_cons_succ]
  refine wpAnyZ_takeY (i := 10) (oi := { dst := some 14, op := Op.field 93 (Operand.tmp 13) 0, type := 68, pos := "disk.go:133", after := #[{ on := 9, ground := Ground.data }], guard := none }) (v := ?_) rfl (by kernel_rfl) (by kernel_rfl) (by kernel_rfl) (by rfl) (fun _ _ _ h => h) (Or.inl ⟨by rfl, ?_⟩) (by assumption) ?_
  rotate_left
  · (intro w; go_simp); (first | done | with_reducible rfl)
  try simp only [Act.put, List.setIfInBounds_toArray, List.set_cons_zero, List.set_cons_succ]
  refine wpAnyZ_takeY (i := 11) (oi := { dst := some 15, op := Op.call { callee := Callee.builtin Builtin.len, args := #[Operand.tmp 14], argTypes := #[68] }, type := 3, pos := "disk.go:133", after := #[{ on := 10, ground := Ground.data }], guard := none }) (v := ?_) rfl (by kernel_rfl) (by kernel_rfl) (by kernel_rfl) (by rfl) (fun _ _ _ h => h) (Or.inl ⟨by rfl, ?_⟩) (by assumption) ?_
  rotate_left
  · (intro w; go_simp); (first | done | with_reducible rfl)
  try simp only [Act.put, List.setIfInBounds_toArray, List.set_cons_zero, List.set_cons_succ]
  refine wpAnyZ_takeY (i := 12) (oi := { dst := some 16, op := Op.binOp BinOp.sub 3 (Operand.tmp 7) (Operand.tmp 15) 3, type := 3, pos := "disk.go:133", after := #[{ on := 3, ground := Ground.data }, { on := 11, ground := Ground.data }], guard := none }) (v := ?_) rfl (by kernel_rfl) (by kernel_rfl) (by kernel_rfl) (by rfl) (fun _ _ _ h => h) (Or.inl ⟨by rfl, ?_⟩) (by assumption) ?_
  rotate_left
  · (intro w; go_simp); (first | done | with_reducible rfl)
  try simp only [Act.put, List.setIfInBounds_toArray, List.set_cons_zero, List.set_cons_succ]
  refine wpAnyZ_takeY (i := 13) (oi := { dst := some 17, op := Op.nilCheck (Operand.tmp 4), type := 0, pos := "disk.go:133", after := #[{ on := 0, ground := Ground.data }, { on := 0, ground := Ground.phase }, { on := 1, ground := Ground.phase }, { on := 2, ground := Ground.phase }, { on := 3, ground := Ground.phase }, { on := 4, ground := Ground.phase }, { on := 5, ground := Ground.phase }, { on := 6, ground := Ground.phase }, { on := 7, ground := Ground.phase }, { on := 8, ground := Ground.phase }, { on := 9, ground := Ground.phase }, { on := 10, ground := Ground.phase }, { on := 11, ground := Ground.phase }, { on := 12, ground := Ground.phase }], guard := none }) (v := ?_) rfl (by kernel_rfl) (by kernel_rfl) (by kernel_rfl) (by rfl) (fun _ _ _ h => h) (Or.inl ⟨by rfl, ?_⟩) (by assumption) ?_
  rotate_left
  · (intro w; go_simp); (first | done | with_reducible rfl)
  try simp only [Act.put, List.setIfInBounds_toArray, List.set_cons_zero, List.set_cons_succ]
  refine wpAnyZ_takeY (i := 14) (oi := { dst := some 18, op := Op.fieldAddr 43 (Operand.tmp 17) 1, type := 0, pos := "disk.go:133", after := #[{ on := 13, ground := Ground.data }, { on := 0, ground := Ground.phase }, { on := 1, ground := Ground.phase }, { on := 2, ground := Ground.phase }, { on := 3, ground := Ground.phase }, { on := 4, ground := Ground.phase }, { on := 5, ground := Ground.phase }, { on := 6, ground := Ground.phase }, { on := 7, ground := Ground.phase }, { on := 8, ground := Ground.phase }, { on := 9, ground := Ground.phase }, { on := 10, ground := Ground.phase }, { on := 11, ground := Ground.phase }, { on := 12, ground := Ground.phase }], guard := none }) (v := ?_) rfl (by kernel_rfl) (by kernel_rfl) (by kernel_rfl) (by rfl) (fun _ _ _ h => h) (Or.inl ⟨by rfl, ?_⟩) (by assumption) ?_
  rotate_left
  · (intro w; go_simp); (first | done | with_reducible rfl)
  try simp only [Act.put, List.setIfInBounds_toArray, List.set_cons_zero, List.set_cons_succ]
  refine wpAnyZ_ready (rs := [15]) (by kernel_rfl) (by simp) ?_
  refine AllReadyZ.last (o := { dst := none, op := Op.store 3 (Operand.tmp 18) (Operand.tmp 16), type := 0, pos := "disk.go:133", after := #[{ on := 14, ground := Ground.data }, { on := 12, ground := Ground.data }, { on := 0, ground := Ground.phase }, { on := 1, ground := Ground.phase }, { on := 2, ground := Ground.phase }, { on := 3, ground := Ground.phase }, { on := 4, ground := Ground.phase }, { on := 5, ground := Ground.phase }, { on := 6, ground := Ground.phase }, { on := 7, ground := Ground.phase }, { on := 8, ground := Ground.phase }, { on := 9, ground := Ground.phase }, { on := 10, ground := Ground.phase }, { on := 11, ground := Ground.phase }, { on := 12, ground := Ground.phase }], guard := none }) rfl (fun K hK => ?_) AllReadyZ.nil
  have f1 := HX.out.box.free 1
  have m1 : wd.cell? ⟨d, 1, none⟩ = some (.int .i64 (Dk.size D.L)) := HX.out.box.cell 1
  go_simp
  refine hK.out _ _ ?_
  clear hK K
  refine wpAny_done (by kernel_rfl) ?_ _
  clear hHeld f1 m1 e1
  rw [HE.out]
  have HB := Lib.hid (show Bk (dkC { D with L := Dk.del nm D.L } mb sv) 43 (wd.setCell ⟨d, 1, none⟩ (.int .i64 (Dk.size (Dk.del nm D.L)))) d from HX.out.box.set 1 _)
  have HM := Lib.hid (HX.out.map.setCell (a := ⟨d, 1, none⟩) HX.out.ne (.int .i64 (Dk.size (Dk.del nm D.L))))
  have HWW := Lib.hid (show Wr (fun q => q = d ∨ q = mb) wd (wd.setCell ⟨d, 1, none⟩ (.int .i64 (Dk.size (Dk.del nm D.L)))) from wr_set _ _ _ (.inl rfl))
  generalize (wd.setCell ⟨d, 1, none⟩ (.int .i64 (Dk.size (Dk.del nm D.L)))) = w5 at *
  have c2 : w5.cell? ⟨d, 2, none⟩ = some (.map (some mb)) := HB.out.cell 2
  go_wp2_with (at_delete; refine wpList_delete_own _ rfl _ _ 41 9 rfl 93 law5 Try.underlying41 heldR mb D.L.length (datM V D.L) rfl HM.out _ _ rfl (key5 HL.out) ?_; intro w6 hm6 ht6)
  go_end0
  rw [datM_del] at hm6
  have hwt : Wr (fun q => q = d ∨ q = mb) w5 w6 := wr_turned ht6 (.inr rfl)
  have hw2 := HWW.out.trans hwt
  exact ⟨rfl, HX.out.delW hw2 (HB.out.wr (wr_turned (A := fun q => q = mb) ht6 rfl) (fun e => HX.out.ne e.symm)) hm6, HW.out.trans hw2⟩
end

end Go.Proofs.Ytekmnpmeienhhaa
