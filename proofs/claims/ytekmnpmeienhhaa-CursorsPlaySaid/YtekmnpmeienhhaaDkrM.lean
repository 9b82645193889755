/- Layer 5: Same. -/
import Derived.Test.YtekmnpmeienhhaaZT
import Derived.Deep.RegionHeld
namespace Go.Proofs.Ytekmnpmeienhhaa
set_option linter.unusedVariables false
open Go Go.RowKit Go.Maps

section
variable {P : Nat → Prop} {B a r : Nat} {D : Dk.St} {w : World}
theorem Pl5.cells (h : Pl5 P B a r D D w) : w.cell? ⟨r, 1, none⟩ = some (.int .i64 D.starts) ∧ w.cell? ⟨r, 2, none⟩ = some (.bool (!D.up)) := by
  obtain ⟨c, hc⟩ := h.ref
  exact ⟨hc.s.2.1, hc.s.2.2.1⟩
set_option maxRecDepth 100000 in
set_option maxHeartbeats 8000000 in
theorem same5 (h : Pl5 P B a r D D w) : Calls Try.prog 25 #[.pointer (some ⟨a, 0, none⟩), .pointer (some ⟨r, 0, none⟩)] w fun e w' => e = .returned (.bool true) ∧ Below w.heap.size w w' := by
  have C1 := Lib.hid (show Calls Try.prog 27 #[.pointer (some ⟨a, 0, none⟩)] w (RowT (Dk.names D.L) w) from by obtain ⟨X, hX⟩ := h.tell; exact namesX hX)
  have HP := Lib.hid h
  have HOK := Lib.hid h.ok
  have hfew := h.ok.few
  have HNL := Lib.hid (show (Dk.names D.L).length = D.L.length from by simp [Dk.names])
  have HUL := Lib.hid (show (Dk.unsynced D.L).length = D.L.length from by simp [Dk.unsynced])
  clear h
  go_enter Try.func25, Try.ntmps25
  go_wp2_with fail
  with_reducible refine C1.out.mono ?_
  rintro e w1 ⟨no, nc, rfl, hr, hb⟩
  have HN := Lib.hid (tsA_row5 hr)
  replace HP := Lib.hid (HP.out.below hb)
  have HB := Lib.hid hb
  rw [HNL.out]
  clear hr hb C1
  have s1 : ((Dk.size D.L : Int) != (Dk.size D.L : Int)) = false := by simp
  have s2 : (D.up == !D.up) = false := by cases D.up <;> rfl
  have s3 : ((D.starts : Int) != (D.starts : Int)) = false := by simp
  go_upto_region 2 with fail
  refine wp_region_held_drew (S := fun V => V.cell? ⟨r, 1, none⟩ = some (.int .i64 D.starts) ∧ V.cell? ⟨r, 2, none⟩ = some (.bool (!D.up))) (by kernel_rfl) ?_ (fun hHeld => ?_)
  · exact (HP.out.below (Below.refl _ _).drew).cells
  replace HP := Lib.hid (HP.out.below (Below.refl _ _).drew)
  replace HN := Lib.hid (HN.out.below (Below.refl _ _).drew)
  have HBX := Lib.hid (Below.refl w1.heap.size w1).drew
  obtain ⟨wd, hwd⟩ : ∃ x, x = World.drew w1 := ⟨_, rfl⟩
  rw [← hwd] at HP HN HBX hHeld ⊢
  clear hwd
  refine wpAnyH_take (i := 0) (oi := { dst := some 13, op := Op.move (Operand.tmp 5), type := 46, pos := "law.go:113", after := #[], guard := none }) (v := ?_) rfl (by kernel_rfl) (by kernel_rfl) (by kernel_rfl) (fun _ _ _ h => h) (Or.inl ⟨by rfl, ?_⟩) (by assumption) ?_
  rotate_left
  · (intro w hSw; (try dsimp only at hSw); go_simp); (first | done | with_reducible rfl)
  try simp only [Act.put, List.setIfInBounds_toArray, List.set_cons_zero, List.set_cons_succ]
  refine wpAnyH_take (i := 1) (oi := { dst := some 14, op := Op.move (Operand.tmp 1), type := 28, pos := "law.go:113", after := #[], guard := none }) (v := ?_) rfl (by kernel_rfl) (by kernel_rfl) (by kernel_rfl) (fun _ _ _ h => h) (Or.inl ⟨by rfl, ?_⟩) (by assumption) ?_
  rotate_left
  · (intro w hSw; (try dsimp only at hSw); go_simp); (first | done | with_reducible rfl)
  try simp only [Act.put, List.setIfInBounds_toArray, List.set_cons_zero, List.set_cons_succ]
  refine wpAnyH_ready (rs := [2]) (by kernel_rfl) (by simp) ?_
  refine AllReadyH.cons (o := { dst := some 15, op := Op.call { callee := Callee.value (Operand.func 63), args := #[Operand.tmp 14], argTypes := #[28] }, type := 46, pos := "law.go:113", after := #[{ on := 1, ground := Ground.data }], guard := none }) rfl (fun K hK => ?_) AllReadyH.nil
  go_simp
  have CJ := Lib.hid (show Calls Try.prog 63 #[.pointer (some ⟨r, 0, none⟩)] wd (RowT (Dk.names D.L) wd) from by obtain ⟨c, hc⟩ := HP.out.ref; exact rNames5 hc)
  go_simp
  go_at_call 63
  with_reducible refine (CJ.out).mono ?_
  rintro e v2 ⟨ov2, cv2, rfl, hr, hb⟩
  have HRv2 := Lib.hid (tsA_row5 hr)
  replace HP := Lib.hid (HP.out.below hb)
  replace HN := Lib.hid (HN.out.below hb)
  replace HBX := Lib.hid (below_step HBX.out hb)
  rw [HNL.out]
  clear hr hb CJ
  go_wp2_with fail
  refine hK.out _ _ ?_ (fun hHeld => ?_)
  · exact HP.out.cells
  clear hK K
  try simp only [Act.put, List.setIfInBounds_toArray, List.set_cons_zero, List.set_cons_succ]
  refine wpAnyH_ready (rs := [3]) (by kernel_rfl) (by simp) ?_
  refine AllReadyH.cons (o := { dst := some 16, op := Op.call { callee := Callee.value (Operand.func 33), args := #[Operand.tmp 13, Operand.tmp 15], argTypes := #[46, 46] }, type := 4, pos := "law.go:113", after := #[{ on := 0, ground := Ground.data }, { on := 2, ground := Ground.data }, { on := 2, ground := Ground.chain }], guard := none }) rfl (fun K hK => ?_) AllReadyH.nil
  go_simp
  have CJ := sameTexts5_any (Dk.names D.L) (Dk.names D.L) (by rw [HNL.out]; omega) (by rw [HNL.out]; omega) no ov2 nc cv2 v2 HN.out HRv2.out
  rw [show decide (Dk.names D.L = Dk.names D.L) = true from by simp, HNL.out] at CJ
  replace CJ := Lib.hid CJ
  go_simp
  go_at_call 33
  with_reducible refine (CJ.out).mono ?_
  rintro e v3 ⟨rfl, hb⟩
  replace HP := Lib.hid (HP.out.below hb)
  replace HN := Lib.hid (HN.out.below hb)
  replace HBX := Lib.hid (below_step HBX.out hb)
  clear hb CJ HRv2
  go_wp2_with fail
  refine hK.out _ _ ?_ (fun hHeld => ?_)
  · exact HP.out.cells
  clear hK K
  try simp only [Act.put, List.setIfInBounds_toArray, List.set_cons_zero, List.set_cons_succ]
  refine wpAnyH_take (i := 4) (oi := { dst := some 17, op := Op.unOp UnOp.not 4 (Operand.tmp 16), type := 4, pos := "law.go:113", after := #[{ on := 3, ground := Ground.data }], guard := none }) (v := ?_) rfl (by kernel_rfl) (by kernel_rfl) (by kernel_rfl) (fun _ _ _ h => h) (Or.inl ⟨by rfl, ?_⟩) (by assumption) ?_
  rotate_left
  · (intro w hSw; (try dsimp only at hSw); go_simp); (first | done | with_reducible rfl)
  try simp only [Act.put, List.setIfInBounds_toArray, List.set_cons_zero, List.set_cons_succ]
  refine wpAnyH_take (i := 5) (oi := { dst := some 18, op := Op.move (Operand.tmp 17), type := 4, pos := "law.go:113", after := #[{ on := 4, ground := Ground.data }, { on := 3, ground := Ground.chain }], guard := none }) (v := ?_) rfl (by kernel_rfl) (by kernel_rfl) (by kernel_rfl) (fun _ _ _ h => h) (Or.inl ⟨by rfl, ?_⟩) (by assumption) ?_
  rotate_left
  · (intro w hSw; (try dsimp only at hSw); go_simp); (first | done | with_reducible rfl)
  try simp only [Act.put, List.setIfInBounds_toArray, List.set_cons_zero, List.set_cons_succ]
  refine wpAnyH_take (i := 6) (oi := { dst := some 19, op := Op.move (Operand.tmp 0), type := 24, pos := "law.go:113", after := #[{ on := 5, ground := Ground.guard }], guard := some (5, false) }) (v := ?_) rfl (by kernel_rfl) (by kernel_rfl) (by kernel_rfl) (fun _ _ _ h => h) (Or.inl ⟨by rfl, ?_⟩) (by assumption) ?_
  rotate_left
  · (intro w hSw; (try dsimp only at hSw); go_simp); (first | done | with_reducible rfl)
  try simp only [Act.put, List.setIfInBounds_toArray, List.set_cons_zero, List.set_cons_succ]
  refine wpAnyH_take (i := 8) (oi := { dst := some 21, op := Op.move (Operand.tmp 1), type := 28, pos := "law.go:113", after := #[{ on := 5, ground := Ground.guard }], guard := some (5, false) }) (v := ?_) rfl (by kernel_rfl) (by kernel_rfl) (by kernel_rfl) (fun _ _ _ h => h) (Or.inl ⟨by rfl, ?_⟩) (by assumption) ?_
  rotate_left
  · (intro w hSw; (try dsimp only at hSw); go_simp); (first | done | with_reducible rfl)
  try simp only [Act.put, List.setIfInBounds_toArray, List.set_cons_zero, List.set_cons_succ]
  refine wpAnyH_ready (rs := [7]) (by kernel_rfl) (by simp) ?_
  refine AllReadyH.cons (o := { dst := some 20, op := Op.call { callee := Callee.value (Operand.func 28), args := #[Operand.tmp 19], argTypes := #[24] }, type := 32, pos := "law.go:113", after := #[{ on := 6, ground := Ground.data }, { on := 5, ground := Ground.chain }, { on := 5, ground := Ground.guard }], guard := some (5, false) }) rfl (fun K hK => ?_) AllReadyH.nil
  go_simp
  have CJ := Lib.hid (show Calls Try.prog 28 #[.pointer (some ⟨a, 0, none⟩)] v3 (RowN (Dk.unsynced D.L) v3) from by obtain ⟨X, hX⟩ := HP.out.tell; exact unsyncedX hX)
  go_simp
  go_at_call 28
  with_reducible refine (CJ.out).mono ?_
  rintro e v7 ⟨ov7, cv7, rfl, hr, hb⟩
  have HRv7 := Lib.hid ((nsK_row hr).1)
  replace HP := Lib.hid (HP.out.below hb)
  replace HN := Lib.hid (HN.out.below hb)
  replace HBX := Lib.hid (below_step HBX.out hb)
  rw [HUL.out]
  clear hr hb CJ
  go_wp2_with fail
  refine hK.out _ _ ?_ (fun hHeld => ?_)
  · exact HP.out.cells
  clear hK K
  try simp only [Act.put, List.setIfInBounds_toArray, List.set_cons_zero, List.set_cons_succ]
  refine wpAnyH_ready (rs := [9]) (by kernel_rfl) (by simp) ?_
  refine AllReadyH.cons (o := { dst := some 22, op := Op.call { callee := Callee.value (Operand.func 64), args := #[Operand.tmp 21], argTypes := #[28] }, type := 32, pos := "law.go:113", after := #[{ on := 8, ground := Ground.data }, { on := 7, ground := Ground.chain }, { on := 5, ground := Ground.guard }], guard := some (5, false) }) rfl (fun K hK => ?_) AllReadyH.nil
  go_simp
  have CJ := Lib.hid (show Calls Try.prog 64 #[.pointer (some ⟨r, 0, none⟩)] v7 (RowN (Dk.unsynced D.L) v7) from by obtain ⟨c, hc⟩ := HP.out.ref; exact rUnsynced5 hc)
  go_simp
  go_at_call 64
  with_reducible refine (CJ.out).mono ?_
  rintro e v9 ⟨ov9, cv9, rfl, hr, hb⟩
  have HRv9 := Lib.hid ((nsK_row hr).1)
  replace HP := Lib.hid (HP.out.below hb)
  replace HN := Lib.hid (HN.out.below hb)
  replace HBX := Lib.hid (below_step HBX.out hb)
  rw [HUL.out]
  replace HRv7 := Lib.hid (HRv7.out.below hb)
  clear hr hb CJ
  go_wp2_with fail
  refine hK.out _ _ ?_ (fun hHeld => ?_)
  · exact HP.out.cells
  clear hK K
  try simp only [Act.put, List.setIfInBounds_toArray, List.set_cons_zero, List.set_cons_succ]
  refine wpAnyH_ready (rs := [10]) (by kernel_rfl) (by simp) ?_
  refine AllReadyH.cons (o := { dst := some 23, op := Op.call { callee := Callee.value (Operand.func 22), args := #[Operand.tmp 20, Operand.tmp 22], argTypes := #[32, 32] }, type := 4, pos := "law.go:113", after := #[{ on := 7, ground := Ground.data }, { on := 9, ground := Ground.data }, { on := 9, ground := Ground.chain }, { on := 5, ground := Ground.guard }], guard := some (5, false) }) rfl (fun K hK => ?_) AllReadyH.nil
  go_simp
  have CJ := sameInts5_any (Dk.unsynced D.L) (Dk.unsynced D.L) (by rw [HUL.out]; omega) (by rw [HUL.out]; omega) ov7 ov9 cv7 cv9 v9 HRv7.out HRv9.out
  rw [show decide (Dk.unsynced D.L = Dk.unsynced D.L) = true from by simp, HUL.out] at CJ
  replace CJ := Lib.hid CJ
  go_simp
  go_at_call 22
  with_reducible refine (CJ.out).mono ?_
  rintro e v10 ⟨rfl, hb⟩
  replace HP := Lib.hid (HP.out.below hb)
  replace HN := Lib.hid (HN.out.below hb)
  replace HBX := Lib.hid (below_step HBX.out hb)
  clear hb CJ HRv7 HRv9
  go_wp2_with fail
  refine hK.out _ _ ?_ (fun hHeld => ?_)
  · exact HP.out.cells
  clear hK K
  try simp only [Act.put, List.setIfInBounds_toArray, List.set_cons_zero, List.set_cons_succ]
  refine wpAnyH_take (i := 11) (oi := { dst := some 24, op := Op.unOp UnOp.not 4 (Operand.tmp 23), type := 4, pos := "law.go:113", after := #[{ on := 10, ground := Ground.data }, { on := 5, ground := Ground.guard }], guard := some (5, false) }) (v := ?_) rfl (by kernel_rfl) (by kernel_rfl) (by kernel_rfl) (fun _ _ _ h => h) (Or.inl ⟨by rfl, ?_⟩) (by assumption) ?_
  rotate_left
  · (intro w hSw; (try dsimp only at hSw); go_simp); (first | done | with_reducible rfl)
  try simp only [Act.put, List.setIfInBounds_toArray, List.set_cons_zero, List.set_cons_succ]
  refine wpAnyH_take (i := 12) (oi := { dst := some 25, op := Op.pick (Operand.tmp 18) (Operand.const (Value.bool true)) (Operand.tmp 24), type := 4, pos := "law.go:113", after := #[{ on := 5, ground := Ground.data }, { on := 11, ground := Ground.data }], guard := none }) (v := ?_) rfl (by kernel_rfl) (by kernel_rfl) (by kernel_rfl) (fun _ _ _ h => h) (Or.inl ⟨by rfl, ?_⟩) (by assumption) ?_
  rotate_left
  · (intro w hSw; (try dsimp only at hSw); go_simp); (first | done | with_reducible rfl)
  try simp only [Act.put, List.setIfInBounds_toArray, List.set_cons_zero, List.set_cons_succ]
  refine wpAnyH_take (i := 13) (oi := { dst := some 26, op := Op.move (Operand.tmp 25), type := 4, pos := "law.go:113", after := #[{ on := 12, ground := Ground.data }, { on := 10, ground := Ground.chain }], guard := none }) (v := ?_) rfl (by kernel_rfl) (by kernel_rfl) (by kernel_rfl) (fun _ _ _ h => h) (Or.inl ⟨by rfl, ?_⟩) (by assumption) ?_
  rotate_left
  · (intro w hSw; (try dsimp only at hSw); go_simp); (first | done | with_reducible rfl)
  try simp only [Act.put, List.setIfInBounds_toArray, List.set_cons_zero, List.set_cons_succ]
  refine wpAnyH_take (i := 14) (oi := { dst := some 27, op := Op.move (Operand.tmp 0), type := 24, pos := "law.go:113", after := #[{ on := 13, ground := Ground.guard }], guard := some (13, false) }) (v := ?_) rfl (by kernel_rfl) (by kernel_rfl) (by kernel_rfl) (fun _ _ _ h => h) (Or.inl ⟨by rfl, ?_⟩) (by assumption) ?_
  rotate_left
  · (intro w hSw; (try dsimp only at hSw); go_simp); (first | done | with_reducible rfl)
  try simp only [Act.put, List.setIfInBounds_toArray, List.set_cons_zero, List.set_cons_succ]
  refine wpAnyH_take (i := 16) (oi := { dst := some 29, op := Op.move (Operand.tmp 1), type := 28, pos := "law.go:113", after := #[{ on := 13, ground := Ground.guard }], guard := some (13, false) }) (v := ?_) rfl (by kernel_rfl) (by kernel_rfl) (by kernel_rfl) (fun _ _ _ h => h) (Or.inl ⟨by rfl, ?_⟩) (by assumption) ?_
  rotate_left
  · (intro w hSw; (try dsimp only at hSw); go_simp); (first | done | with_reducible rfl)
  try simp only [Act.put, List.setIfInBounds_toArray, List.set_cons_zero, List.set_cons_succ]
  refine wpAnyH_ready (rs := [15]) (by kernel_rfl) (by simp) ?_
  refine AllReadyH.cons (o := { dst := some 28, op := Op.call { callee := Callee.value (Operand.func 29), args := #[Operand.tmp 27], argTypes := #[24] }, type := 3, pos := "law.go:113", after := #[{ on := 14, ground := Ground.data }, { on := 13, ground := Ground.chain }, { on := 13, ground := Ground.guard }], guard := some (13, false) }) rfl (fun K hK => ?_) AllReadyH.nil
  go_simp
  have CJ := Lib.hid (show Calls Try.prog 29 #[.pointer (some ⟨a, 0, none⟩)] v10 (fun e w' => e = .returned (.int .i64 (Dk.size D.L)) ∧ v10 = w') from by obtain ⟨X, hX⟩ := HP.out.tell; exact sizeX hX)
  go_simp
  go_at_call 29
  with_reducible refine (CJ.out).mono ?_
  rintro e v15 ⟨rfl, rfl⟩
  clear CJ
  go_wp2_with fail
  refine hK.out _ _ ?_ (fun hHeld => ?_)
  · exact HP.out.cells
  clear hK K
  try simp only [Act.put, List.setIfInBounds_toArray, List.set_cons_zero, List.set_cons_succ]
  refine wpAnyH_ready (rs := [17]) (by kernel_rfl) (by simp) ?_
  refine AllReadyH.cons (o := { dst := some 30, op := Op.call { callee := Callee.value (Operand.func 65), args := #[Operand.tmp 29], argTypes := #[28] }, type := 3, pos := "law.go:113", after := #[{ on := 16, ground := Ground.data }, { on := 15, ground := Ground.chain }, { on := 13, ground := Ground.guard }], guard := some (13, false) }) rfl (fun K hK => ?_) AllReadyH.nil
  go_simp
  have CJ := Lib.hid (show Calls Try.prog 65 #[.pointer (some ⟨r, 0, none⟩)] v10 (fun e w' => e = .returned (.int .i64 (Dk.size D.L)) ∧ v10 = w') from by obtain ⟨c, hc⟩ := HP.out.ref; exact rSize5 hc)
  go_simp
  go_at_call 65
  with_reducible refine (CJ.out).mono ?_
  rintro e v17 ⟨rfl, rfl⟩
  clear CJ
  go_wp2_with fail
  refine hK.out _ _ ?_ (fun hHeld => ?_)
  · exact HP.out.cells
  clear hK K
  try simp only [Act.put, List.setIfInBounds_toArray, List.set_cons_zero, List.set_cons_succ]
  refine wpAnyH_take (i := 18) (oi := { dst := some 31, op := Op.binOp BinOp.neq 3 (Operand.tmp 28) (Operand.tmp 30) 3, type := 4, pos := "law.go:113", after := #[{ on := 15, ground := Ground.data }, { on := 17, ground := Ground.data }, { on := 13, ground := Ground.guard }], guard := some (13, false) }) (v := ?_) rfl (by kernel_rfl) (by kernel_rfl) (by kernel_rfl) (fun _ _ _ h => h) (Or.inl ⟨by rfl, ?_⟩) (by assumption) ?_
  rotate_left
  · (intro w hSw; (try dsimp only at hSw); go_simp); (first | done | with_reducible rfl)
  try simp only [Act.put, List.setIfInBounds_toArray, List.set_cons_zero, List.set_cons_succ]
  refine wpAnyH_take (i := 19) (oi := { dst := some 32, op := Op.pick (Operand.tmp 26) (Operand.const (Value.bool true)) (Operand.tmp 31), type := 4, pos := "law.go:113", after := #[{ on := 13, ground := Ground.data }, { on := 18, ground := Ground.data }], guard := none }) (v := ?_) rfl (by kernel_rfl) (by kernel_rfl) (by kernel_rfl) (fun _ _ _ h => h) (Or.inl ⟨by rfl, ?_⟩) (by assumption) ?_
  rotate_left
  · (intro w hSw; (try dsimp only at hSw); go_simp); (first | done | with_reducible rfl)
  try simp only [Act.put, List.setIfInBounds_toArray, List.set_cons_zero, List.set_cons_succ]
  refine wpAnyH_take (i := 20) (oi := { dst := some 33, op := Op.move (Operand.tmp 32), type := 4, pos := "law.go:113", after := #[{ on := 19, ground := Ground.data }, { on := 17, ground := Ground.chain }], guard := none }) (v := ?_) rfl (by kernel_rfl) (by kernel_rfl) (by kernel_rfl) (fun _ _ _ h => h) (Or.inl ⟨by rfl, ?_⟩) (by assumption) ?_
  rotate_left
  · (intro w hSw; (try dsimp only at hSw); go_simp); (first | done | with_reducible rfl)
  try simp only [Act.put, List.setIfInBounds_toArray, List.set_cons_zero, List.set_cons_succ]
  refine wpAnyH_take (i := 21) (oi := { dst := some 34, op := Op.move (Operand.tmp 0), type := 24, pos := "law.go:113", after := #[{ on := 20, ground := Ground.guard }], guard := some (20, false) }) (v := ?_) rfl (by kernel_rfl) (by kernel_rfl) (by kernel_rfl) (fun _ _ _ h => h) (Or.inl ⟨by rfl, ?_⟩) (by assumption) ?_
  rotate_left
  · (intro w hSw; (try dsimp only at hSw); go_simp); (first | done | with_reducible rfl)
  try simp only [Act.put, List.setIfInBounds_toArray, List.set_cons_zero, List.set_cons_succ]
  refine wpAnyH_take (i := 23) (oi := { dst := some 36, op := Op.move (Operand.tmp 1), type := 28, pos := "law.go:113", after := #[{ on := 20, ground := Ground.guard }], guard := some (20, false) }) (v := ?_) rfl (by kernel_rfl) (by kernel_rfl) (by kernel_rfl) (fun _ _ _ h => h) (Or.inl ⟨by rfl, ?_⟩) (by assumption) ?_
  rotate_left
  · (intro w hSw; (try dsimp only at hSw); go_simp); (first | done | with_reducible rfl)
  try simp only [Act.put, List.setIfInBounds_toArray, List.set_cons_zero, List.set_cons_succ]
  refine wpAnyH_take (i := 24) (oi := { dst := some 37, op := Op.nilCheck (Operand.tmp 36), type := 0, pos := "law.go:113", after := #[{ on := 23, ground := Ground.data }, { on := 20, ground := Ground.guard }], guard := some (20, false) }) (v := ?_) rfl (by kernel_rfl) (by kernel_rfl) (by kernel_rfl) (fun _ _ _ h => h) (Or.inl ⟨by rfl, ?_⟩) (by assumption) ?_
  rotate_left
  · (intro w hSw; (try dsimp only at hSw); go_simp); (first | done | with_reducible rfl)
  try simp only [Act.put, List.setIfInBounds_toArray, List.set_cons_zero, List.set_cons_succ]
  refine wpAnyH_take (i := 25) (oi := { dst := some 38, op := Op.fieldAddr 91 (Operand.tmp 37) 2, type := 0, pos := "law.go:113", after := #[{ on := 24, ground := Ground.data }, { on := 20, ground := Ground.guard }], guard := some (20, false) }) (v := ?_) rfl (by kernel_rfl) (by kernel_rfl) (by kernel_rfl) (fun _ _ _ h => h) (Or.inl ⟨by rfl, ?_⟩) (by assumption) ?_
  rotate_left
  · (intro w hSw; (try dsimp only at hSw); go_simp); (first | done | with_reducible rfl)
  try simp only [Act.put, List.setIfInBounds_toArray, List.set_cons_zero, List.set_cons_succ]
  refine wpAnyH_take (i := 26) (oi := { dst := some 39, op := Op.load 4 (Operand.tmp 38), type := 4, pos := "law.go:113", after := #[{ on := 25, ground := Ground.data }, { on := 20, ground := Ground.guard }], guard := some (20, false) }) (v := ?_) rfl (by kernel_rfl) (by kernel_rfl) (by kernel_rfl) (fun _ _ _ h => h) (Or.inl ⟨by rfl, ?_⟩) (by assumption) ?_
  rotate_left
  · (intro w hSw; (try dsimp only at hSw); go_simp); (first | done | with_reducible rfl)
  try simp only [Act.put, List.setIfInBounds_toArray, List.set_cons_zero, List.set_cons_succ]
  refine wpAnyH_ready (rs := [22]) (by kernel_rfl) (by simp) ?_
  refine AllReadyH.cons (o := { dst := some 35, op := Op.call { callee := Callee.value (Operand.func 30), args := #[Operand.tmp 34], argTypes := #[24] }, type := 4, pos := "law.go:113", after := #[{ on := 21, ground := Ground.data }, { on := 20, ground := Ground.chain }, { on := 20, ground := Ground.guard }], guard := some (20, false) }) rfl (fun K hK => ?_) AllReadyH.nil
  go_simp
  have CJ := Lib.hid (show Calls Try.prog 30 #[.pointer (some ⟨a, 0, none⟩)] v10 (fun e w' => e = .returned (.bool D.up) ∧ v10 = w') from by obtain ⟨X, hX⟩ := HP.out.tell; exact upX hX)
  go_simp
  go_at_call 30
  with_reducible refine (CJ.out).mono ?_
  rintro e v22 ⟨rfl, rfl⟩
  clear CJ
  go_wp2_with fail
  refine hK.out _ _ ?_ (fun hHeld => ?_)
  · exact HP.out.cells
  clear hK K
  try simp only [Act.put, List.setIfInBounds_toArray, List.set_cons_zero, List.set_cons_succ]
  refine wpAnyH_take (i := 27) (oi := { dst := some 40, op := Op.binOp BinOp.eql 4 (Operand.tmp 35) (Operand.tmp 39) 4, type := 4, pos := "law.go:113", after := #[{ on := 22, ground := Ground.data }, { on := 26, ground := Ground.data }, { on := 20, ground := Ground.guard }], guard := some (20, false) }) (v := ?_) rfl (by kernel_rfl) (by kernel_rfl) (by kernel_rfl) (fun _ _ _ h => h) (Or.inl ⟨by rfl, ?_⟩) (by assumption) ?_
  rotate_left
  · (intro w hSw; (try dsimp only at hSw); go_simp); (first | done | with_reducible rfl)
  try simp only [Act.put, List.setIfInBounds_toArray, List.set_cons_zero, List.set_cons_succ]
  refine wpAnyH_take (i := 28) (oi := { dst := some 41, op := Op.pick (Operand.tmp 33) (Operand.const (Value.bool true)) (Operand.tmp 40), type := 4, pos := "law.go:113", after := #[{ on := 20, ground := Ground.data }, { on := 27, ground := Ground.data }], guard := none }) (v := ?_) rfl (by kernel_rfl) (by kernel_rfl) (by kernel_rfl) (fun _ _ _ h => h) (Or.inl ⟨by rfl, ?_⟩) (by assumption) ?_
  rotate_left
  · (intro w hSw; (try dsimp only at hSw); go_simp); (first | done | with_reducible rfl)
  try simp only [Act.put, List.setIfInBounds_toArray, List.set_cons_zero, List.set_cons_succ]
  refine wpAnyH_take (i := 29) (oi := { dst := some 42, op := Op.move (Operand.tmp 41), type := 4, pos := "law.go:113", after := #[{ on := 28, ground := Ground.data }, { on := 22, ground := Ground.chain }], guard := none }) (v := ?_) rfl (by kernel_rfl) (by kernel_rfl) (by kernel_rfl) (fun _ _ _ h => h) (Or.inl ⟨by rfl, ?_⟩) (by assumption) ?_
  rotate_left
  · (intro w hSw; (try dsimp only at hSw); go_simp); (first | done | with_reducible rfl)
  try simp only [Act.put, List.setIfInBounds_toArray, List.set_cons_zero, List.set_cons_succ]
  refine wpAnyH_take (i := 30) (oi := { dst := some 43, op := Op.move (Operand.tmp 0), type := 24, pos := "law.go:113", after := #[{ on := 29, ground := Ground.guard }], guard := some (29, false) }) (v := ?_) rfl (by kernel_rfl) (by kernel_rfl) (by kernel_rfl) (fun _ _ _ h => h) (Or.inl ⟨by rfl, ?_⟩) (by assumption) ?_
  rotate_left
  · (intro w hSw; (try dsimp only at hSw); go_simp); (first | done | with_reducible rfl)
  try simp only [Act.put, List.setIfInBounds_toArray, List.set_cons_zero, List.set_cons_succ]
  refine wpAnyH_take (i := 32) (oi := { dst := some 45, op := Op.move (Operand.tmp 1), type := 28, pos := "law.go:113", after := #[{ on := 29, ground := Ground.guard }], guard := some (29, false) }) (v := ?_) rfl (by kernel_rfl) (by kernel_rfl) (by kernel_rfl) (fun _ _ _ h => h) (Or.inl ⟨by rfl, ?_⟩) (by assumption) ?_
  rotate_left
  · (intro w hSw; (try dsimp only at hSw); go_simp); (first | done | with_reducible rfl)
  try simp only [Act.put, List.setIfInBounds_toArray, List.set_cons_zero, List.set_cons_succ]
  refine wpAnyH_take (i := 33) (oi := { dst := some 46, op := Op.nilCheck (Operand.tmp 45), type := 0, pos := "law.go:113", after := #[{ on := 32, ground := Ground.data }, { on := 29, ground := Ground.guard }], guard := some (29, false) }) (v := ?_) rfl (by kernel_rfl) (by kernel_rfl) (by kernel_rfl) (fun _ _ _ h => h) (Or.inl ⟨by rfl, ?_⟩) (by assumption) ?_
  rotate_left
  · (intro w hSw; (try dsimp only at hSw); go_simp); (first | done | with_reducible rfl)
  try simp only [Act.put, List.setIfInBounds_toArray, List.set_cons_zero, List.set_cons_succ]
  refine wpAnyH_take (i := 34) (oi := { dst := some 47, op := Op.fieldAddr 91 (Operand.tmp 46) 1, type := 0, pos := "law.go:113", after := #[{ on := 33, ground := Ground.data }, { on := 29, ground := Ground.guard }], guard := some (29, false) }) (v := ?_) rfl (by kernel_rfl) (by kernel_rfl) (by kernel_rfl) (fun _ _ _ h => h) (Or.inl ⟨by rfl, ?_⟩) (by assumption) ?_
  rotate_left
  · (intro w hSw; (try dsimp only at hSw); go_simp); (first | done | with_reducible rfl)
  try simp only [Act.put, List.setIfInBounds_toArray, List.set_cons_zero, List.set_cons_succ]
  refine wpAnyH_take (i := 35) (oi := { dst := some 48, op := Op.load 3 (Operand.tmp 47), type := 3, pos := "law.go:113", after := #[{ on := 34, ground := Ground.data }, { on := 29, ground := Ground.guard }], guard := some (29, false) }) (v := ?_) rfl (by kernel_rfl) (by kernel_rfl) (by kernel_rfl) (fun _ _ _ h => h) (Or.inl ⟨by rfl, ?_⟩) (by assumption) ?_
  rotate_left
  · (intro w hSw; (try dsimp only at hSw); go_simp); (first | done | with_reducible rfl)
  try simp only [Act.put, List.setIfInBounds_toArray, List.set_cons_zero, List.set_cons_succ]
  refine wpAnyH_ready (rs := [31]) (by kernel_rfl) (by simp) ?_
  refine AllReadyH.cons (o := { dst := some 44, op := Op.call { callee := Callee.value (Operand.func 31), args := #[Operand.tmp 43], argTypes := #[24] }, type := 3, pos := "law.go:113", after := #[{ on := 30, ground := Ground.data }, { on := 29, ground := Ground.chain }, { on := 29, ground := Ground.guard }], guard := some (29, false) }) rfl (fun K hK => ?_) AllReadyH.nil
  go_simp
  have CJ := Lib.hid (show Calls Try.prog 31 #[.pointer (some ⟨a, 0, none⟩)] v10 (fun e w' => e = .returned (.int .i64 D.starts) ∧ v10 = w') from by obtain ⟨X, hX⟩ := HP.out.tell; exact startsX hX)
  go_simp
  go_at_call 31
  with_reducible refine (CJ.out).mono ?_
  rintro e v31 ⟨rfl, rfl⟩
  clear CJ
  go_wp2_with fail
  refine hK.out _ _ ?_ (fun hHeld => ?_)
  · exact HP.out.cells
  clear hK K
  try simp only [Act.put, List.setIfInBounds_toArray, List.set_cons_zero, List.set_cons_succ]
  refine wpAnyH_take (i := 36) (oi := { dst := some 49, op := Op.binOp BinOp.neq 3 (Operand.tmp 44) (Operand.tmp 48) 3, type := 4, pos := "law.go:113", after := #[{ on := 31, ground := Ground.data }, { on := 35, ground := Ground.data }, { on := 29, ground := Ground.guard }], guard := some (29, false) }) (v := ?_) rfl (by kernel_rfl) (by kernel_rfl) (by kernel_rfl) (fun _ _ _ h => h) (Or.inl ⟨by rfl, ?_⟩) (by assumption) ?_
  rotate_left
  · (intro w hSw; (try dsimp only at hSw); go_simp); (first | done | with_reducible rfl)
  try simp only [Act.put, List.setIfInBounds_toArray, List.set_cons_zero, List.set_cons_succ]
  refine wpAnyH_take (i := 37) (oi := { dst := some 50, op := Op.pick (Operand.tmp 42) (Operand.const (Value.bool true)) (Operand.tmp 49), type := 4, pos := "law.go:113", after := #[{ on := 29, ground := Ground.data }, { on := 36, ground := Ground.data }], guard := none }) (v := ?_) rfl (by kernel_rfl) (by kernel_rfl) (by kernel_rfl) (fun _ _ _ h => h) (Or.inl ⟨by rfl, ?_⟩) (by assumption) ?_
  rotate_left
  · (intro w hSw; (try dsimp only at hSw); go_simp); (first | done | with_reducible rfl)
  refine wpAnyH_done (by kernel_rfl) ?_ _
  obtain ⟨wz, hwz⟩ : ∃ x, x = v10 := ⟨_, rfl⟩
  rw [← hwz] at HP HN HBX ⊢
  clear hwz hHeld s1 s2 s3
  replace HB := Lib.hid (below_step HB.out HBX.out)
  go_wp2_with fail
  clear HBX
  go_loopw [6] (fun j wq => ∃ m : Nat, m ≤ D.L.length ∧ j = .int .i64 m ∧ Hid (Below wz.heap.size wz wq)) (fun j _ => D.L.length - (intOf j).toNat)
  case atStart => exact ⟨0, Nat.zero_le _, rfl, Lib.hid (Below.refl _ _)⟩
  case round =>
    obtain ⟨wx, rfl⟩ : ∃ x, x = wr := ⟨_, rfl⟩
    obtain ⟨m, hm, rfl, HQ⟩ := hrel
    by_cases hmt : m < D.L.length
    · have d2 : decide (m < D.L.length) = true := by simpa using hmt
      have hi1 : (0 : Int) ≤ (m : Int) := by omega
      have hi2 : (m : Int) < (D.L.length : Int) := by omega
      obtain ⟨g, o, rfl, hc⟩ := (HN.out.below HQ.out) (fun e => by have := HNL.out; rw [e] at this; simp at this; omega)
      have k1 := hc m (by rw [HNL.out]; exact hmt)
      have hlen : ((Dk.names D.L).getD m []).length ≤ 16 := by
        have := (Dk.at5 HOK.out.l hmt).2.2
        simpa [Dk.names, List.getD, hmt] using this
      have HC := Lib.hid (fun wy (hy : Below wx.heap.size wx wy) => (show wy.cell? ⟨g, o + m, none⟩ = some (.string (S ((Dk.names D.L).getD m []))) from (hy.cell (p := ⟨g, o + m, none⟩) (cell_lt5 k1)).trans k1))
      clear hc hm
      generalize (Dk.names D.L).getD m [] = u at *
      have HPx := Lib.hid (HP.out.below HQ.out)
      have CR := Lib.hid (show Calls Try.prog 26 #[.pointer (some ⟨a, 0, none⟩), .string (S u)] wx (fun e w' => e = .returned (.tuple #[.string (S (Dk.read u D).2), .int .i64 (Dk.read u D).1]) ∧ Below wx.heap.size wx w') from by obtain ⟨X, hX⟩ := HPx.out.tell; exact readX hX u (by omega))
      have HRR := Lib.hid (fun wy (hy : Below wx.heap.size wx wy) => (show Calls Try.prog 66 #[.pointer (some ⟨r, 0, none⟩), .string (S u)] wy (fun e w' => e = .returned (.tuple #[.string (S (Dk.read u D).2), .int .i64 (Dk.read u D).1]) ∧ wy = w') from by obtain ⟨c, hc⟩ := (HPx.out.below hy).ref; exact rRead5 hc u))
      have HS1 := Lib.hid (fun wy (hy : Below wx.heap.size wx wy) q => (show Calls Try.prog 23 #[.pointer (some ⟨a, 0, none⟩), .string (S u)] (wy.drewN q) (fun e w' => e = .returned (.int .i64 (Dk.get u D.L).safe) ∧ ∃ j, w' = wy.drewN j) from by obtain ⟨X, hX⟩ := ((HPx.out.below hy).below (below_drewN (Below.refl _ _) q)).tell; exact (syncedX hX u (by omega)).mono fun e w' h => ⟨h.1, q, h.2.symm⟩))
      have HS2 := Lib.hid (fun wy (hy : Below wx.heap.size wx wy) q => (show Calls Try.prog 24 #[.pointer (some ⟨r, 0, none⟩), .string (S u)] (wy.drewN q) (fun e w' => e = .returned (.int .i64 (Dk.get u D.L).safe) ∧ ∃ j, w' = wy.drewN j) from by obtain ⟨c, hc⟩ := ((HPx.out.below hy).below (below_drewN (Below.refl _ _) q)).ref; exact (rSynced5 hc u).mono fun e w' h => ⟨h.1, q, h.2.symm⟩))
      generalize (Dk.read u D).2 = rd at *
      generalize (Dk.read u D).1 = re at *
      generalize (Dk.get u D.L).safe = sf at *
      go_wp2_with fail
      with_reducible refine CR.out.mono ?_
      rintro e wy ⟨rfl, hy⟩
      have k2 := HC.out _ hy
      have CR2 := Lib.hid (HRR.out _ hy)
      have CS1 := Lib.hid (HS1.out _ hy)
      have CS2 := Lib.hid (HS2.out _ hy)
      have HQ2 := Lib.hid (below_step HQ.out hy)
      clear hy CR HRR HS1 HS2 HC k1
      go_wp2_with fail
      with_reducible refine CR2.out.mono ?_
      rintro e wy2 ⟨rfl, rfl⟩
      have q2 : (re != re) = false := by simp
      have q3 : ((sf : Int) != (sf : Int)) = false := by simp
      go_wp2_with fail
      go_quiet (first | (go_at_call 23; exact CS1.out _) | (go_at_call 24; exact CS2.out _))
      go_wp2_with fail
      go_roundw
      case rel => exact ⟨m + 1, by omega, by go_num, Lib.hid (below_drewN HQ2.out _)⟩
      case measure => simp [intOf]; omega
    · have d2 : decide (m < D.L.length) = false := by simpa using hmt
      go_wp2_with fail
      go_ret
      exact ⟨rfl, below_step HB.out HQ.out⟩
end

end Go.Proofs.Ytekmnpmeienhhaa
