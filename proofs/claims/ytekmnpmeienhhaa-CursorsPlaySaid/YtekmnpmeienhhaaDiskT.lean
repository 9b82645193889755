/- Layer 5: Append. -/
import Derived.Test.YtekmnpmeienhhaaDiskSa
namespace Go.Proofs.Ytekmnpmeienhhaa
set_option linter.unusedVariables false
open Go Go.RowKit Go.Maps

section
variable {B d mb : Nat} {V : List UInt8 → Value} {sv : Value} {c : Cs} {D : Dk.St} {w : World} {F : Nat → Prop}
set_option maxRecDepth 100000 in
set_option maxHeartbeats 4000000 in
theorem append_down5 (h : DkAt B F d D w) (hB : B ≤ w.heap.size) (nm s : List UInt8) (hl : nm.length ≤ 140737488351232) (hs : s.length ≤ 140737488351232) (hu : D.up = false) : Calls Try.prog 32 #[.pointer (some ⟨d, 0, none⟩), .string (S nm), .string (S s)] w (OpR B F d (Dk.append nm s D) w) := by
  have CS := Lib.hid (state5 h)
  have HR := Lib.hid (show OpR B F d (Dk.append nm s D) w (.returned (.int .i64 51)) w from by
    have e : Dk.append nm s D = (51, D) := by unfold Dk.append; rw [if_pos hu]
    rw [e]; exact opR_same h hB (Below.refl _ _) 51)
  have hst : stE D = 51 := by unfold stE; rw [hu]; rfl
  rw [hst] at CS
  clear h hB hl hs hu hst
  go_enter Try.func32, Try.ntmps32
  go_wp2_with fail
  with_reducible refine CS.out.mono ?_
  rintro e w1 ⟨rfl, rfl⟩
  go_wp2_with fail
  go_ret
  exact HR.out
set_option maxRecDepth 100000 in
set_option maxHeartbeats 4000000 in
theorem append_bad5 (h : DkAt B F d D w) (hB : B ≤ w.heap.size) (nm s : List UInt8) (hl : nm.length ≤ 140737488351232) (hs : s.length ≤ 140737488351232) (hu : D.up = true) (hn : Dk.named nm = false) : Calls Try.prog 32 #[.pointer (some ⟨d, 0, none⟩), .string (S nm), .string (S s)] w (OpR B F d (Dk.append nm s D) w) := by
  have CS := Lib.hid (state5 h)
  have CN := Lib.hid (named5 nm hl w)
  have HR := Lib.hid (show OpR B F d (Dk.append nm s D) w (.returned (.int .i64 2)) w from by
    have e : Dk.append nm s D = (2, D) := by unfold Dk.append; rw [if_neg (by rw [hu]; simp), if_pos hn]
    rw [e]; exact opR_same h hB (Below.refl _ _) 2)
  have hst : stE D = 0 := by unfold stE; rw [hu]; rfl
  rw [hst] at CS
  rw [hn] at CN
  clear h hB hl hs hu hst hn
  go_enter Try.func32, Try.ntmps32
  go_wp2_with fail
  with_reducible refine CS.out.mono ?_
  rintro e w1 ⟨rfl, rfl⟩
  go_wp2_with fail
  with_reducible refine CN.out.mono ?_
  rintro e w1 ⟨rfl, rfl⟩
  go_wp2_with fail
  go_ret
  exact HR.out
set_option maxRecDepth 100000 in
set_option maxHeartbeats 4000000 in
theorem append_full5 (h : DkAt B F d D w) (hB : B ≤ w.heap.size) (nm s : List UInt8) (hl : nm.length ≤ 140737488351232) (hs : s.length ≤ 140737488351232) (hu : D.up = true) (hn : Dk.named nm = true) (hh : Dk.has nm D.L = true) (hfu : D.room < Dk.size D.L + s.length) : Calls Try.prog 32 #[.pointer (some ⟨d, 0, none⟩), .string (S nm), .string (S s)] w (OpR B F d (Dk.append nm s D) w) := by
  have CS := Lib.hid (state5 h)
  have CN := Lib.hid (named5 nm hl w)
  have hst : stE D = 0 := by unfold stE; rw [hu]; rfl
  rw [hst] at CS
  rw [hn] at CN
  have hfull : (Dk.has nm D.L = false ∧ D.L.length = 1024) ∨ D.room < Dk.size D.L + s.length := .inr hfu
  have HR := Lib.hid (fun w' (hb : Below w.heap.size w w') => show OpR B F d (Dk.append nm s D) w (.returned (.int .i64 50)) w' from by
    have e : Dk.append nm s D = (50, D) := by unfold Dk.append; rw [if_neg (by rw [hu]; simp), if_neg (by rw [hn]; simp), if_pos hfull]
    rw [e]; exact opR_same h hB hb 50)
  obtain ⟨hO, mb, V, sv, c, hI, hFt, hFB⟩ := h
  have HO := Lib.hid hO
  have HI := Lib.hid hI
  have HFT := Lib.hid hFt
  have HFB := Lib.hid hFB
  have HBs := Lib.hid hB
  obtain ⟨vo, vc, hv⟩ := row_shape5 (hI.vrow nm)
  have hvr := hI.vrow nm
  rw [hv] at hvr
  have HVR := Lib.hid hvr
  have HV := Lib.hid hv
  have HL := Lib.hid hl
  have HM := Lib.hid hI.map
  have c2 : w.cell? ⟨d, 2, none⟩ = some (.map (some mb)) := hI.box.cell 2
  have hrm := hO.room
  have hms := hO.most
  have hfw := hO.few
  have hgz := Dk.get_size hO.l nm
  have hgs := Dk.get_safe hO.l nm
  have e1 : IntKind.i64.wrap ((D.room : Int) - (Dk.size D.L : Int)) = (D.room : Int) - (Dk.size D.L : Int) := IntWalk.i64_in _ (by omega)
  have d1 : decide ((D.room : Int) - (Dk.size D.L : Int) < (s.length : Int)) = true := by simp; omega
  clear hfu
  have HH := Lib.hid hh
  clear hO hI hFt hFB hB hv hvr hl hs hu hst hn hfull hh
  go_enter Try.func32, Try.ntmps32
  go_wp2_with fail
  with_reducible refine CS.out.mono ?_
  rintro e w1 ⟨rfl, rfl⟩
  go_wp2_with fail
  with_reducible refine CN.out.mono ?_
  rintro e w1 ⟨rfl, rfl⟩
  go_wp2_with (at_lookup; refine wpList_look_ok5 _ rfl _ _ rfl rfl rfl HM.out HL.out _ HV.out ?_; rw [HH.out])
  have HX := Lib.hid (bk_new #[.slice vo (Dk.get nm D.L).dat.length vc, .int .i64 (Dk.get nm D.L).safe] 93 w)
  have HI2 := Lib.hid (HI.out.below ((Below.refl _ _).alloc (Nat.le_refl _) (.cells #[.slice vo (Dk.get nm D.L).dat.length vc, .int .i64 (Dk.get nm D.L).safe] 93)))
  have HB2 := Lib.hid ((Below.refl w.heap.size w).alloc (Nat.le_refl _) (.cells #[.slice vo (Dk.get nm D.L).dat.length vc, .int .i64 (Dk.get nm D.L).safe] 93))
  have HVR2 := Lib.hid (row_below5 HVR.out ((Below.refl w.heap.size w).alloc (Nat.le_refl _) (.cells #[.slice vo (Dk.get nm D.L).dat.length vc, .int .i64 (Dk.get nm D.L).safe] 93)))
  generalize (w.alloc (.cells #[.slice vo (Dk.get nm D.L).dat.length vc, .int .i64 (Dk.get nm D.L).safe] 93)) = W2 at *
  clear c2
  generalize hXX : w.heap.size = X at *
  have HXX := Lib.hid hXX
  clear hXX
  have HBw := Lib.hid (show B ≤ w.heap.size from by rw [HXX.out]; exact HBs.out)
  have HFBw := Lib.hid (show ∀ b, F b → B ≤ b ∧ b < w.heap.size from by rw [HXX.out]; exact HFB.out)
  have hln := HI2.out.map.len Try.underlying41 3
  rw [datM_size] at hln
  have HLN := Lib.hid hln
  clear hln
  refine wp_region_held_drew (S := fun W => W.cell? ⟨d, 2, none⟩ = some (.map (some mb)) ∧ W.cell? ⟨d, 0, none⟩ = some (.int .i64 D.room) ∧ W.cell? ⟨d, 1, none⟩ = some (.int .i64 (Dk.size D.L)) ∧ (Builtin.len_ #[41] 3 #[.map (some mb)]).run Try.prog W = .ok (.int .i64 D.L.length) W) (by kernel_rfl) ?_ (fun hHeld => ?_)
  · exact ⟨HI2.out.box.cell 2, HI2.out.box.cell 0, HI2.out.box.cell 1, by have h9 := (HI2.out.co.drew).map.len Try.underlying41 3; rw [datM_size] at h9; exact h9⟩
  replace HX := Lib.hid HX.out.drew
  have HI3 := Lib.hid (HI2.out.below ((Below.refl _ W2).drew))
  replace HB2 := Lib.hid (show Below X w W2.drew from HB2.out.drew)
  replace HVR2 := Lib.hid (row_below5 HVR2.out ((Below.refl _ W2).drew))
  obtain ⟨W3, hW3⟩ : ∃ x, x = World.drew W2 := ⟨_, rfl⟩
  rw [← hW3] at HX HI3 HB2 HVR2 hHeld ⊢
  clear hW3 HI2 HLN
  have HB2w := Lib.hid (show Below w.heap.size w W3 from by rw [HXX.out]; exact HB2.out)
  refine wpAnyH_take (i := 0) (oi := { dst := some 27, op := Op.move (Operand.tmp 9), type := 4, pos := "disk.go:74", after := #[], guard := none }) (v := ?_) rfl (by kernel_rfl) (by kernel_rfl) (by kernel_rfl) (fun _ _ _ h => h) (Or.inl ⟨by rfl, ?_⟩) (by assumption) ?_
  rotate_left
  · (intro w hSw; (try dsimp only at hSw); go_simp); (first | done | with_reducible rfl)
  try simp only [Act.put, List.setIfInBounds_toArray, List.set_cons_zero, List.set_cons_succ]
  refine wpAnyH_take (i := 1) (oi := { dst := some 28, op := Op.unOp UnOp.not 4 (Operand.tmp 27), type := 4, pos := "disk.go:74", after := #[{ on := 0, ground := Ground.data }], guard := none }) (v := ?_) rfl (by kernel_rfl) (by kernel_rfl) (by kernel_rfl) (fun _ _ _ h => h) (Or.inl ⟨by rfl, ?_⟩) (by assumption) ?_
  rotate_left
  · (intro w hSw; (try dsimp only at hSw); go_simp); (first | done | with_reducible rfl)
  try simp only [Act.put, List.setIfInBounds_toArray, List.set_cons_zero, List.set_cons_succ]
  refine wpAnyH_take (i := 2) (oi := { dst := some 29, op := Op.move (Operand.tmp 28), type := 4, pos := "disk.go:74", after := #[{ on := 1, ground := Ground.data }], guard := none }) (v := ?_) rfl (by kernel_rfl) (by kernel_rfl) (by kernel_rfl) (fun _ _ _ h => h) (Or.inl ⟨by rfl, ?_⟩) (by assumption) ?_
  rotate_left
  · (intro w hSw; (try dsimp only at hSw); go_simp); (first | done | with_reducible rfl)
  try simp only [Act.put, List.setIfInBounds_toArray, List.set_cons_zero, List.set_cons_succ]
  refine wpAnyH_take (i := 3) (oi := { dst := some 30, op := Op.move (Operand.tmp 0), type := 24, pos := "disk.go:74", after := #[{ on := 2, ground := Ground.guard }], guard := some (2, true) }) (v := undef) rfl (by kernel_rfl) (by kernel_rfl) (by kernel_rfl) (fun _ _ _ h => h) (Or.inr ⟨by rfl, rfl⟩) (by assumption) ?_
  try simp only [Act.put, List.setIfInBounds_toArray, List.set_cons_zero, List.set_cons_succ]
  refine wpAnyH_take (i := 4) (oi := { dst := some 31, op := Op.nilCheck (Operand.tmp 30), type := 0, pos := "disk.go:74", after := #[{ on := 3, ground := Ground.data }, { on := 2, ground := Ground.guard }], guard := some (2, true) }) (v := undef) rfl (by kernel_rfl) (by kernel_rfl) (by kernel_rfl) (fun _ _ _ h => h) (Or.inr ⟨by rfl, rfl⟩) (by assumption) ?_
  try simp only [Act.put, List.setIfInBounds_toArray, List.set_cons_zero, List.set_cons_succ]
  refine wpAnyH_take (i := 5) (oi := { dst := some 32, op := Op.fieldAddr 43 (Operand.tmp 31) 2, type := 0, pos := "disk.go:74", after := #[{ on := 4, ground := Ground.data }, { on := 2, ground := Ground.guard }], guard := some (2, true) }) (v := undef) rfl (by kernel_rfl) (by kernel_rfl) (by kernel_rfl) (fun _ _ _ h => h) (Or.inr ⟨by rfl, rfl⟩) (by assumption) ?_
  try simp only [Act.put, List.setIfInBounds_toArray, List.set_cons_zero, List.set_cons_succ]
  refine wpAnyH_take (i := 6) (oi := { dst := some 33, op := Op.load 41 (Operand.tmp 32), type := 41, pos := "disk.go:74", after := #[{ on := 5, ground := Ground.data }, { on := 2, ground := Ground.guard }], guard := some (2, true) }) (v := undef) rfl (by kernel_rfl) (by kernel_rfl) (by kernel_rfl) (fun _ _ _ h => h) (Or.inr ⟨by rfl, rfl⟩) (by assumption) ?_
  try simp only [Act.put, List.setIfInBounds_toArray, List.set_cons_zero, List.set_cons_succ]
  refine wpAnyH_take (i := 7) (oi := { dst := some 34, op := Op.call { callee := Callee.builtin Builtin.len, args := #[Operand.tmp 33], argTypes := #[41] }, type := 3, pos := "disk.go:74", after := #[{ on := 6, ground := Ground.data }, { on := 2, ground := Ground.chain }, { on := 2, ground := Ground.guard }], guard := some (2, true) }) (v := undef) rfl (by kernel_rfl) (by kernel_rfl) (by kernel_rfl) (fun _ _ _ h => h) (Or.inr ⟨by rfl, rfl⟩) (by assumption) ?_
  try simp only [Act.put, List.setIfInBounds_toArray, List.set_cons_zero, List.set_cons_succ]
  refine wpAnyH_take (i := 8) (oi := { dst := some 35, op := Op.binOp BinOp.eql 3 (Operand.tmp 34) (Operand.const (Value.int IntKind.i64 1024)) 3, type := 4, pos := "disk.go:74", after := #[{ on := 7, ground := Ground.data }, { on := 2, ground := Ground.guard }], guard := some (2, true) }) (v := undef) rfl (by kernel_rfl) (by kernel_rfl) (by kernel_rfl) (fun _ _ _ h => h) (Or.inr ⟨by rfl, rfl⟩) (by assumption) ?_
  try simp only [Act.put, List.setIfInBounds_toArray, List.set_cons_zero, List.set_cons_succ]
  refine wpAnyH_take (i := 9) (oi := { dst := some 36, op := Op.pick (Operand.tmp 29) (Operand.tmp 35) (Operand.const (Value.bool false)), type := 4, pos := "disk.go:74", after := #[{ on := 2, ground := Ground.data }, { on := 8, ground := Ground.data }], guard := none }) (v := ?_) rfl (by kernel_rfl) (by kernel_rfl) (by kernel_rfl) (fun _ _ _ h => h) (Or.inl ⟨by rfl, ?_⟩) (by assumption) ?_
  rotate_left
  · (intro w hSw; (try dsimp only at hSw); go_simp); (first | done | with_reducible rfl)
  try simp only [Act.put, List.setIfInBounds_toArray, List.set_cons_zero, List.set_cons_succ]
  refine wpAnyH_take (i := 10) (oi := { dst := some 37, op := Op.move (Operand.tmp 36), type := 4, pos := "disk.go:74", after := #[{ on := 9, ground := Ground.data }, { on := 7, ground := Ground.chain }], guard := none }) (v := ?_) rfl (by kernel_rfl) (by kernel_rfl) (by kernel_rfl) (fun _ _ _ h => h) (Or.inl ⟨by rfl, ?_⟩) (by assumption) ?_
  rotate_left
  · (intro w hSw; (try dsimp only at hSw); go_simp); (first | done | with_reducible rfl)
  try simp only [Act.put, List.setIfInBounds_toArray, List.set_cons_zero, List.set_cons_succ]
  refine wpAnyH_take (i := 11) (oi := { dst := some 38, op := Op.move (Operand.tmp 2), type := 9, pos := "disk.go:74", after := #[{ on := 10, ground := Ground.guard }], guard := some (10, false) }) (v := ?_) rfl (by kernel_rfl) (by kernel_rfl) (by kernel_rfl) (fun _ _ _ h => h) (Or.inl ⟨by rfl, ?_⟩) (by assumption) ?_
  rotate_left
  · (intro w hSw; (try dsimp only at hSw); go_simp); (first | done | with_reducible rfl)
  try simp only [Act.put, List.setIfInBounds_toArray, List.set_cons_zero, List.set_cons_succ]
  refine wpAnyH_take (i := 12) (oi := { dst := some 39, op := Op.call { callee := Callee.builtin Builtin.len, args := #[Operand.tmp 38], argTypes := #[9] }, type := 3, pos := "disk.go:74", after := #[{ on := 11, ground := Ground.data }, { on := 10, ground := Ground.guard }], guard := some (10, false) }) (v := ?_) rfl (by kernel_rfl) (by kernel_rfl) (by kernel_rfl) (fun _ _ _ h => h) (Or.inl ⟨by rfl, ?_⟩) (by assumption) ?_
  rotate_left
  · (intro w hSw; (try dsimp only at hSw); go_simp); (first | done | with_reducible rfl)
  try simp only [Act.put, List.setIfInBounds_toArray, List.set_cons_zero, List.set_cons_succ]
  refine wpAnyH_take (i := 13) (oi := { dst := some 40, op := Op.move (Operand.tmp 0), type := 24, pos := "disk.go:74", after := #[{ on := 10, ground := Ground.guard }], guard := some (10, false) }) (v := ?_) rfl (by kernel_rfl) (by kernel_rfl) (by kernel_rfl) (fun _ _ _ h => h) (Or.inl ⟨by rfl, ?_⟩) (by assumption) ?_
  rotate_left
  · (intro w hSw; (try dsimp only at hSw); go_simp); (first | done | with_reducible rfl)
  try simp only [Act.put, List.setIfInBounds_toArray, List.set_cons_zero, List.set_cons_succ]
  refine wpAnyH_take (i := 14) (oi := { dst := some 41, op := Op.nilCheck (Operand.tmp 40), type := 0, pos := "disk.go:74", after := #[{ on := 13, ground := Ground.data }, { on := 10, ground := Ground.guard }], guard := some (10, false) }) (v := ?_) rfl (by kernel_rfl) (by kernel_rfl) (by kernel_rfl) (fun _ _ _ h => h) (Or.inl ⟨by rfl, ?_⟩) (by assumption) ?_
  rotate_left
  · (intro w hSw; (try dsimp only at hSw); go_simp); (first | done | with_reducible rfl)
  try simp only [Act.put, List.setIfInBounds_toArray, List.set_cons_zero, List.set_cons_succ]
  refine wpAnyH_take (i := 15) (oi := { dst := some 42, op := Op.fieldAddr 43 (Operand.tmp 41) 0, type := 0, pos := "disk.go:74", after := #[{ on := 14, ground := Ground.data }, { on := 10, ground := Ground.guard }], guard := some (10, false) }) (v := ?_) rfl (by kernel_rfl) (by kernel_rfl) (by kernel_rfl) (fun _ _ _ h => h) (Or.inl ⟨by rfl, ?_⟩) (by assumption) ?_
  rotate_left
  · (intro w hSw; (try dsimp only at hSw); go_simp); (first | done | with_reducible rfl)
  try simp only [Act.put, List.setIfInBounds_toArray, List.set_cons_zero, List.set_cons_succ]
  refine wpAnyH_take (i := 16) (oi := { dst := some 43, op := Op.load 3 (Operand.tmp 42), type := 3, pos := "disk.go:74", after := #[{ on := 15, ground := Ground.data }, { on := 10, ground := Ground.guard }], guard := some (10, false) }) (v := ?_) rfl (by kernel_rfl) (by kernel_rfl) (by kernel_rfl) (fun _ _ _ h => h) (Or.inl ⟨by rfl, ?_⟩) (by assumption) ?_
  rotate_left
  · (intro w hSw; (try dsimp only at hSw); go_simp); (first | done | with_reducible rfl)
  try simp only [Act.put, List.setIfInBounds_toArray, List.set_cons_zero, List.set_cons_succ]
  refine wpAnyH_take (i := 17) (oi := { dst := some 44, op := Op.move (Operand.tmp 0), type := 24, pos := "disk.go:74", after := #[{ on := 10, ground := Ground.guard }], guard := some (10, false) }) (v := ?_) rfl (by kernel_rfl) (by kernel_rfl) (by kernel_rfl) (fun _ _ _ h => h) (Or.inl ⟨by rfl, ?_⟩) (by assumption) ?_
  rotate_left
  · (intro w hSw; (try dsimp only at hSw); go_simp); (first | done | with_reducible rfl)
  try simp only [Act.put, List.setIfInBounds_toArray, List.set_cons_zero, List.set_cons_succ]
  refine wpAnyH_take (i := 18) (oi := { dst := some 45, op := Op.nilCheck (Operand.tmp 44), type := 0, pos := "disk.go:74", after := #[{ on := 17, ground := Ground.data }, { on := 10, ground := Ground.guard }], guard := some (10, false) }) (v := ?_) rfl (by kernel_rfl) (by kernel_rfl) (by kernel_rfl) (fun _ _ _ h => h) (Or.inl ⟨by rfl, ?_⟩) (by assumption) ?_
  rotate_left
  · (intro w hSw; (try dsimp only at hSw); go_simp); (first | done | with_reducible rfl)
  try simp only [Act.put, List.setIfInBounds_toArray, List.set_cons_zero, List.set_cons_succ]
  refine wpAnyH_take (i := 19) (oi := { dst := some 46, op := Op.fieldAddr 43 (Operand.tmp 45) 1, type := 0, pos := "disk.go:74", after := #[{ on := 18, ground := Ground.data }, { on := 10, ground := Ground.guard }], guard := some (10, false) }) (v := ?_) rfl (by kernel_rfl) (by kernel_rfl) (by kernel_rfl) (fun _ _ _ h => h) (Or.inl ⟨by rfl, ?_⟩) (by assumption) ?_
  rotate_left
  · (intro w hSw; (try dsimp only at hSw); go_simp); (first | done | with_reducible rfl)
  try simp only [Act.put, List.setIfInBounds_toArray, List.set_cons_zero, List.set_cons_succ]
  refine wpAnyH_take (i := 20) (oi := { dst := some 47, op := Op.load 3 (Operand.tmp 46), type := 3, pos := "disk.go:74", after := #[{ on := 19, ground := Ground.data }, { on := 10, ground := Ground.guard }], guard := some (10, false) }) (v := ?_) rfl (by kernel_rfl) (by kernel_rfl) (by kernel_rfl) (fun _ _ _ h => h) (Or.inl ⟨by rfl, ?_⟩) (by assumption) ?_
  rotate_left
  · (intro w hSw; (try dsimp only at hSw); go_simp); (first | done | with_reducible rfl)
  try simp only [Act.put, List.setIfInBounds_toArray, List.set_cons_zero, List.set_cons_succ]
  refine wpAnyH_take (i := 21) (oi := { dst := some 48, op := Op.binOp BinOp.sub 3 (Operand.tmp 43) (Operand.tmp 47) 3, type := 3, pos := "disk.go:74", after := #[{ on := 16, ground := Ground.data }, { on := 20, ground := Ground.data }, { on := 10, ground := Ground.guard }], guard := some (10, false) }) (v := ?_) rfl (by kernel_rfl) (by kernel_rfl) (by kernel_rfl) (fun _ _ _ h => h) (Or.inl ⟨by rfl, ?_⟩) (by assumption) ?_
  rotate_left
  · (intro w hSw; (try dsimp only at hSw); go_simp); (first | done | with_reducible rfl)
  try simp only [Act.put, List.setIfInBounds_toArray, List.set_cons_zero, List.set_cons_succ]
  refine wpAnyH_take (i := 22) (oi := { dst := some 49, op := Op.binOp BinOp.gtr 3 (Operand.tmp 39) (Operand.tmp 48) 3, type := 4, pos := "disk.go:74", after := #[{ on := 12, ground := Ground.data }, { on := 21, ground := Ground.data }, { on := 10, ground := Ground.guard }], guard := some (10, false) }) (v := ?_) rfl (by kernel_rfl) (by kernel_rfl) (by kernel_rfl) (fun _ _ _ h => h) (Or.inl ⟨by rfl, ?_⟩) (by assumption) ?_
  rotate_left
  · (intro w hSw; (try dsimp only at hSw); go_simp); (first | done | with_reducible rfl)
  try simp only [Act.put, List.setIfInBounds_toArray, List.set_cons_zero, List.set_cons_succ]
  refine wpAnyH_take (i := 23) (oi := { dst := some 50, op := Op.pick (Operand.tmp 37) (Operand.const (Value.bool true)) (Operand.tmp 49), type := 4, pos := "disk.go:74", after := #[{ on := 10, ground := Ground.data }, { on := 22, ground := Ground.data }], guard := none }) (v := ?_) rfl (by kernel_rfl) (by kernel_rfl) (by kernel_rfl) (fun _ _ _ h => h) (Or.inl ⟨by rfl, ?_⟩) (by assumption) ?_
  rotate_left
  · (intro w hSw; (try dsimp only at hSw); go_simp); (first | done | with_reducible rfl)
  refine wpAnyH_done (by kernel_rfl) ?_ _
  clear hHeld
  go_wp2_with fail
  go_ret
  exact HR.out _ HB2.out
set_option maxRecDepth 100000 in
set_option maxHeartbeats 4000000 in
theorem append_many5 (h : DkAt B F d D w) (hB : B ≤ w.heap.size) (nm s : List UInt8) (hl : nm.length ≤ 140737488351232) (hs : s.length ≤ 140737488351232) (hu : D.up = true) (hn : Dk.named nm = true) (hh : Dk.has nm D.L = false) (hfu : D.L.length = 1024) : Calls Try.prog 32 #[.pointer (some ⟨d, 0, none⟩), .string (S nm), .string (S s)] w (OpR B F d (Dk.append nm s D) w) := by
  have CS := Lib.hid (state5 h)
  have CN := Lib.hid (named5 nm hl w)
  have hst : stE D = 0 := by unfold stE; rw [hu]; rfl
  rw [hst] at CS
  rw [hn] at CN
  have hfull : (Dk.has nm D.L = false ∧ D.L.length = 1024) ∨ D.room < Dk.size D.L + s.length := .inl ⟨hh, hfu⟩
  have HR := Lib.hid (fun w' (hb : Below w.heap.size w w') => show OpR B F d (Dk.append nm s D) w (.returned (.int .i64 50)) w' from by
    have e : Dk.append nm s D = (50, D) := by unfold Dk.append; rw [if_neg (by rw [hu]; simp), if_neg (by rw [hn]; simp), if_pos hfull]
    rw [e]; exact opR_same h hB hb 50)
  obtain ⟨hO, mb, V, sv, c, hI, hFt, hFB⟩ := h
  have HO := Lib.hid hO
  have HI := Lib.hid hI
  have HFT := Lib.hid hFt
  have HFB := Lib.hid hFB
  have HBs := Lib.hid hB
  obtain ⟨vo, vc, hv⟩ := row_shape5 (hI.vrow nm)
  have hvr := hI.vrow nm
  rw [hv] at hvr
  have HVR := Lib.hid hvr
  have HV := Lib.hid hv
  have HL := Lib.hid hl
  have HM := Lib.hid hI.map
  have c2 : w.cell? ⟨d, 2, none⟩ = some (.map (some mb)) := hI.box.cell 2
  have hrm := hO.room
  have hms := hO.most
  have hfw := hO.few
  have hgz := Dk.get_size hO.l nm
  have hgs := Dk.get_safe hO.l nm
  have e1 : IntKind.i64.wrap ((D.room : Int) - (Dk.size D.L : Int)) = (D.room : Int) - (Dk.size D.L : Int) := IntWalk.i64_in _ (by omega)
  have d2 : ((D.L.length : Int) == 1024) = true := by simp; omega
  clear hfu
  have HH := Lib.hid hh
  clear hO hI hFt hFB hB hv hvr hl hs hu hst hn hfull hh
  go_enter Try.func32, Try.ntmps32
  go_wp2_with fail
  with_reducible refine CS.out.mono ?_
  rintro e w1 ⟨rfl, rfl⟩
  go_wp2_with fail
  with_reducible refine CN.out.mono ?_
  rintro e w1 ⟨rfl, rfl⟩
  go_wp2_with (at_lookup; refine wpList_look_ok5 _ rfl _ _ rfl rfl rfl HM.out HL.out _ HV.out ?_; rw [HH.out])
  have HX := Lib.hid (bk_new #[.slice vo (Dk.get nm D.L).dat.length vc, .int .i64 (Dk.get nm D.L).safe] 93 w)
  have HI2 := Lib.hid (HI.out.below ((Below.refl _ _).alloc (Nat.le_refl _) (.cells #[.slice vo (Dk.get nm D.L).dat.length vc, .int .i64 (Dk.get nm D.L).safe] 93)))
  have HB2 := Lib.hid ((Below.refl w.heap.size w).alloc (Nat.le_refl _) (.cells #[.slice vo (Dk.get nm D.L).dat.length vc, .int .i64 (Dk.get nm D.L).safe] 93))
  have HVR2 := Lib.hid (row_below5 HVR.out ((Below.refl w.heap.size w).alloc (Nat.le_refl _) (.cells #[.slice vo (Dk.get nm D.L).dat.length vc, .int .i64 (Dk.get nm D.L).safe] 93)))
  generalize (w.alloc (.cells #[.slice vo (Dk.get nm D.L).dat.length vc, .int .i64 (Dk.get nm D.L).safe] 93)) = W2 at *
  clear c2
  generalize hXX : w.heap.size = X at *
  have HXX := Lib.hid hXX
  clear hXX
  have HBw := Lib.hid (show B ≤ w.heap.size from by rw [HXX.out]; exact HBs.out)
  have HFBw := Lib.hid (show ∀ b, F b → B ≤ b ∧ b < w.heap.size from by rw [HXX.out]; exact HFB.out)
  have hln := HI2.out.map.len Try.underlying41 3
  rw [datM_size] at hln
  have HLN := Lib.hid hln
  clear hln
  refine wp_region_held_drew (S := fun W => W.cell? ⟨d, 2, none⟩ = some (.map (some mb)) ∧ W.cell? ⟨d, 0, none⟩ = some (.int .i64 D.room) ∧ W.cell? ⟨d, 1, none⟩ = some (.int .i64 (Dk.size D.L)) ∧ (Builtin.len_ #[41] 3 #[.map (some mb)]).run Try.prog W = .ok (.int .i64 D.L.length) W) (by kernel_rfl) ?_ (fun hHeld => ?_)
  · exact ⟨HI2.out.box.cell 2, HI2.out.box.cell 0, HI2.out.box.cell 1, by have h9 := (HI2.out.co.drew).map.len Try.underlying41 3; rw [datM_size] at h9; exact h9⟩
  replace HX := Lib.hid HX.out.drew
  have HI3 := Lib.hid (HI2.out.below ((Below.refl _ W2).drew))
  replace HB2 := Lib.hid (show Below X w W2.drew from HB2.out.drew)
  replace HVR2 := Lib.hid (row_below5 HVR2.out ((Below.refl _ W2).drew))
  obtain ⟨W3, hW3⟩ : ∃ x, x = World.drew W2 := ⟨_, rfl⟩
  rw [← hW3] at HX HI3 HB2 HVR2 hHeld ⊢
  clear hW3 HI2 HLN
  have HB2w := Lib.hid (show Below w.heap.size w W3 from by rw [HXX.out]; exact HB2.out)
  refine wpAnyH_take (i := 0) (oi := { dst := some 27, op := Op.move (Operand.tmp 9), type := 4, pos := "disk.go:74", after := #[], guard := none }) (v := ?_) rfl (by kernel_rfl) (by kernel_rfl) (by kernel_rfl) (fun _ _ _ h => h) (Or.inl ⟨by rfl, ?_⟩) (by assumption) ?_
  rotate_left
  · (intro w hSw; (try dsimp only at hSw); go_simp); (first | done | with_reducible rfl)
  try simp only [Act.put, List.setIfInBounds_toArray, List.set_cons_zero, List.set_cons_succ]
  refine wpAnyH_take (i := 1) (oi := { dst := some 28, op := Op.unOp UnOp.not 4 (Operand.tmp 27), type := 4, pos := "disk.go:74", after := #[{ on := 0, ground := Ground.data }], guard := none }) (v := ?_) rfl (by kernel_rfl) (by kernel_rfl) (by kernel_rfl) (fun _ _ _ h => h) (Or.inl ⟨by rfl, ?_⟩) (by assumption) ?_
  rotate_left
  · (intro w hSw; (try dsimp only at hSw); go_simp); (first | done | with_reducible rfl)
  try simp only [Act.put, List.setIfInBounds_toArray, List.set_cons_zero, List.set_cons_succ]
  refine wpAnyH_take (i := 2) (oi := { dst := some 29, op := Op.move (Operand.tmp 28), type := 4, pos := "disk.go:74", after := #[{ on := 1, ground := Ground.data }], guard := none }) (v := ?_) rfl (by kernel_rfl) (by kernel_rfl) (by kernel_rfl) (fun _ _ _ h => h) (Or.inl ⟨by rfl, ?_⟩) (by assumption) ?_
  rotate_left
  · (intro w hSw; (try dsimp only at hSw); go_simp); (first | done | with_reducible rfl)
  try simp only [Act.put, List.setIfInBounds_toArray, List.set_cons_zero, List.set_cons_succ]
  refine wpAnyH_take (i := 3) (oi := { dst := some 30, op := Op.move (Operand.tmp 0), type := 24, pos := "disk.go:74", after := #[{ on := 2, ground := Ground.guard }], guard := some (2, true) }) (v := ?_) rfl (by kernel_rfl) (by kernel_rfl) (by kernel_rfl) (fun _ _ _ h => h) (Or.inl ⟨by rfl, ?_⟩) (by assumption) ?_
  rotate_left
  · (intro w hSw; (try dsimp only at hSw); go_simp); (first | done | with_reducible rfl)
  try simp only [Act.put, List.setIfInBounds_toArray, List.set_cons_zero, List.set_cons_succ]
  refine wpAnyH_take (i := 4) (oi := { dst := some 31, op := Op.nilCheck (Operand.tmp 30), type := 0, pos := "disk.go:74", after := #[{ on := 3, ground := Ground.data }, { on := 2, ground := Ground.guard }], guard := some (2, true) }) (v := ?_) rfl (by kernel_rfl) (by kernel_rfl) (by kernel_rfl) (fun _ _ _ h => h) (Or.inl ⟨by rfl, ?_⟩) (by assumption) ?_
  rotate_left
  · (intro w hSw; (try dsimp only at hSw); go_simp); (first | done | with_reducible rfl)
  try simp only [Act.put, List.setIfInBounds_toArray, List.set_cons_zero, List.set_cons_succ]
  refine wpAnyH_take (i := 5) (oi := { dst := some 32, op := Op.fieldAddr 43 (Operand.tmp 31) 2, type := 0, pos := "disk.go:74", after := #[{ on := 4, ground := Ground.data }, { on := 2, ground := Ground.guard }], guard := some (2, true) }) (v := ?_) rfl (by kernel_rfl) (by kernel_rfl) (by kernel_rfl) (fun _ _ _ h => h) (Or.inl ⟨by rfl, ?_⟩) (by assumption) ?_
  rotate_left
  · (intro w hSw; (try dsimp only at hSw); go_simp); (first | done | with_reducible rfl)
  try simp only [Act.put, List.setIfInBounds_toArray, List.set_cons_zero, List.set_cons_succ]
  refine wpAnyH_take (i := 6) (oi := { dst := some 33, op := Op.load 41 (Operand.tmp 32), type := 41, pos := "disk.go:74", after := #[{ on := 5, ground := Ground.data }, { on := 2, ground := Ground.guard }], guard := some (2, true) }) (v := ?_) rfl (by kernel_rfl) (by kernel_rfl) (by kernel_rfl) (fun _ _ _ h => h) (Or.inl ⟨by rfl, ?_⟩) (by assumption) ?_
  rotate_left
  · (intro w hSw; (try dsimp only at hSw); go_simp); (first | done | with_reducible rfl)
  try simp only [Act.put, List.setIfInBounds_toArray, List.set_cons_zero, List.set_cons_succ]
  refine wpAnyH_take (i := 7) (oi := { dst := some 34, op := Op.call { callee := Callee.builtin Builtin.len, args := #[Operand.tmp 33], argTypes := #[41] }, type := 3, pos := "disk.go:74", after := #[{ on := 6, ground := Ground.data }, { on := 2, ground := Ground.chain }, { on := 2, ground := Ground.guard }], guard := some (2, true) }) (v := ?_) rfl (by kernel_rfl) (by kernel_rfl) (by kernel_rfl) (fun _ _ _ h => h) (Or.inl ⟨by rfl, ?_⟩) (by assumption) ?_
  rotate_left
  · (intro w hSw; (try dsimp only at hSw); go_simp); (first | done | with_reducible rfl)
  try simp only [Act.put, List.setIfInBounds_toArray, List.set_cons_zero, List.set_cons_succ]
  refine wpAnyH_take (i := 8) (oi := { dst := some 35, op := Op.binOp BinOp.eql 3 (Operand.tmp 34) (Operand.const (Value.int IntKind.i64 1024)) 3, type := 4, pos := "disk.go:74", after := #[{ on := 7, ground := Ground.data }, { on := 2, ground := Ground.guard }], guard := some (2, true) }) (v := ?_) rfl (by kernel_rfl) (by kernel_rfl) (by kernel_rfl) (fun _ _ _ h => h) (Or.inl ⟨by rfl, ?_⟩) (by assumption) ?_
  rotate_left
  · (intro w hSw; (try dsimp only at hSw); go_simp); (first | done | with_reducible rfl)
  try simp only [Act.put, List.setIfInBounds_toArray, List.set_cons_zero, List.set_cons_succ]
  refine wpAnyH_take (i := 9) (oi := { dst := some 36, op := Op.pick (Operand.tmp 29) (Operand.tmp 35) (Operand.const (Value.bool false)), type := 4, pos := "disk.go:74", after := #[{ on := 2, ground := Ground.data }, { on := 8, ground := Ground.data }], guard := none }) (v := ?_) rfl (by kernel_rfl) (by kernel_rfl) (by kernel_rfl) (fun _ _ _ h => h) (Or.inl ⟨by rfl, ?_⟩) (by assumption) ?_
  rotate_left
  · (intro w hSw; (try dsimp only at hSw); go_simp); (first | done | with_reducible rfl)
  try simp only [Act.put, List.setIfInBounds_toArray, List.set_cons_zero, List.set_cons_succ]
  refine wpAnyH_take (i := 10) (oi := { dst := some 37, op := Op.move (Operand.tmp 36), type := 4, pos := "disk.go:74", after := #[{ on := 9, ground := Ground.data }, { on := 7, ground := Ground.chain }], guard := none }) (v := ?_) rfl (by kernel_rfl) (by kernel_rfl) (by kernel_rfl) (fun _ _ _ h => h) (Or.inl ⟨by rfl, ?_⟩) (by assumption) ?_
  rotate_left
  · (intro w hSw; (try dsimp only at hSw); go_simp); (first | done | with_reducible rfl)
  try simp only [Act.put, List.setIfInBounds_toArray, List.set_cons_zero, List.set_cons_succ]
  refine wpAnyH_take (i := 11) (oi := { dst := some 38, op := Op.move (Operand.tmp 2), type := 9, pos := "disk.go:74", after := #[{ on := 10, ground := Ground.guard }], guard := some (10, false) }) (v := undef) rfl (by kernel_rfl) (by kernel_rfl) (by kernel_rfl) (fun _ _ _ h => h) (Or.inr ⟨by rfl, rfl⟩) (by assumption) ?_
  try simp only [Act.put, List.setIfInBounds_toArray, List.set_cons_zero, List.set_cons_succ]
  refine wpAnyH_take (i := 12) (oi := { dst := some 39, op := Op.call { callee := Callee.builtin Builtin.len, args := #[Operand.tmp 38], argTypes := #[9] }, type := 3, pos := "disk.go:74", after := #[{ on := 11, ground := Ground.data }, { on := 10, ground := Ground.guard }], guard := some (10, false) }) (v := undef) rfl (by kernel_rfl) (by kernel_rfl) (by kernel_rfl) (fun _ _ _ h => h) (Or.inr ⟨by rfl, rfl⟩) (by assumption) ?_
  try simp only [Act.put, List.setIfInBounds_toArray, List.set_cons_zero, List.set_cons_succ]
  refine wpAnyH_take (i := 13) (oi := { dst := some 40, op := Op.move (Operand.tmp 0), type := 24, pos := "disk.go:74", after := #[{ on := 10, ground := Ground.guard }], guard := some (10, false) }) (v := undef) rfl (by kernel_rfl) (by kernel_rfl) (by kernel_rfl) (fun _ _ _ h => h) (Or.inr ⟨by rfl, rfl⟩) (by assumption) ?_
  try simp only [Act.put, List.setIfInBounds_toArray, List.set_cons_zero, List.set_cons_succ]
  refine wpAnyH_take (i := 14) (oi := { dst := some 41, op := Op.nilCheck (Operand.tmp 40), type := 0, pos := "disk.go:74", after := #[{ on := 13, ground := Ground.data }, { on := 10, ground := Ground.guard }], guard := some (10, false) }) (v := undef) rfl (by kernel_rfl) (by kernel_rfl) (by kernel_rfl) (fun _ _ _ h => h) (Or.inr ⟨by rfl, rfl⟩) (by assumption) ?_
  try simp only [Act.put, List.setIfInBounds_toArray, List.set_cons_zero, List.set_cons_succ]
  refine wpAnyH_take (i := 15) (oi := { dst := some 42, op := Op.fieldAddr 43 (Operand.tmp 41) 0, type := 0, pos := "disk.go:74", after := #[{ on := 14, ground := Ground.data }, { on := 10, ground := Ground.guard }], guard := some (10, false) }) (v := undef) rfl (by kernel_rfl) (by kernel_rfl) (by kernel_rfl) (fun _ _ _ h => h) (Or.inr ⟨by rfl, rfl⟩) (by assumption) ?_
  try simp only [Act.put, List.setIfInBounds_toArray, List.set_cons_zero, List.set_cons_succ]
  refine wpAnyH_take (i := 16) (oi := { dst := some 43, op := Op.load 3 (Operand.tmp 42), type := 3, pos := "disk.go:74", after := #[{ on := 15, ground := Ground.data }, { on := 10, ground := Ground.guard }], guard := some (10, false) }) (v := undef) rfl (by kernel_rfl) (by kernel_rfl) (by kernel_rfl) (fun _ _ _ h => h) (Or.inr ⟨by rfl, rfl⟩) (by assumption) ?_
  try simp only [Act.put, List.setIfInBounds_toArray, List.set_cons_zero, List.set_cons_succ]
  refine wpAnyH_take (i := 17) (oi := { dst := some 44, op := Op.move (Operand.tmp 0), type := 24, pos := "disk.go:74", after := #[{ on := 10, ground := Ground.guard }], guard := some (10, false) }) (v := undef) rfl (by kernel_rfl) (by kernel_rfl) (by kernel_rfl) (fun _ _ _ h => h) (Or.inr ⟨by rfl, rfl⟩) (by assumption) ?_
  try simp only [Act.put, List.setIfInBounds_toArray, List.set_cons_zero, List.set_cons_succ]
  refine wpAnyH_take (i := 18) (oi := { dst := some 45, op := Op.nilCheck (Operand.tmp 44), type := 0, pos := "disk.go:74", after := #[{ on := 17, ground := Ground.data }, { on := 10, ground := Ground.guard }], guard := some (10, false) }) (v := undef) rfl (by kernel_rfl) (by kernel_rfl) (by kernel_rfl) (fun _ _ _ h => h) (Or.inr ⟨by rfl, rfl⟩) (by assumption) ?_
  try simp only [Act.put, List.setIfInBounds_toArray, List.set_cons_zero, List.set_cons_succ]
  refine wpAnyH_take (i := 19) (oi := { dst := some 46, op := Op.fieldAddr 43 (Operand.tmp 45) 1, type := 0, pos := "disk.go:74", after := #[{ on := 18, ground := Ground.data }, { on := 10, ground := Ground.guard }], guard := some (10, false) }) (v := undef) rfl (by kernel_rfl) (by kernel_rfl) (by kernel_rfl) (fun _ _ _ h => h) (Or.inr ⟨by rfl, rfl⟩) (by assumption) ?_
  try simp only [Act.put, List.setIfInBounds_toArray, List.set_cons_zero, List.set_cons_succ]
  refine wpAnyH_take (i := 20) (oi := { dst := some 47, op := Op.load 3 (Operand.tmp 46), type := 3, pos := "disk.go:74", after := #[{ on := 19, ground := Ground.data }, { on := 10, ground := Ground.guard }], guard := some (10, false) }) (v := undef) rfl (by kernel_rfl) (by kernel_rfl) (by kernel_rfl) (fun _ _ _ h => h) (Or.inr ⟨by rfl, rfl⟩) (by assumption) ?_
  try simp only [Act.put, List.setIfInBounds_toArray, List.set_cons_zero, List.set_cons_succ]
  refine wpAnyH_take (i := 21) (oi := { dst := some 48, op := Op.binOp BinOp.sub 3 (Operand.tmp 43) (Operand.tmp 47) 3, type := 3, pos := "disk.go:74", after := #[{ on := 16, ground := Ground.data }, { on := 20, ground := Ground.data }, { on := 10, ground := Ground.guard }], guard := some (10, false) }) (v := undef) rfl (by kernel_rfl) (by kernel_rfl) (by kernel_rfl) (fun _ _ _ h => h) (Or.inr ⟨by rfl, rfl⟩) (by assumption) ?_
  try simp only [Act.put, List.setIfInBounds_toArray, List.set_cons_zero, List.set_cons_succ]
  refine wpAnyH_take (i := 22) (oi := { dst := some 49, op := Op.binOp BinOp.gtr 3 (Operand.tmp 39) (Operand.tmp 48) 3, type := 4, pos := "disk.go:74", after := #[{ on := 12, ground := Ground.data }, { on := 21, ground := Ground.data }, { on := 10, ground := Ground.guard }], guard := some (10, false) }) (v := undef) rfl (by kernel_rfl) (by kernel_rfl) (by kernel_rfl) (fun _ _ _ h => h) (Or.inr ⟨by rfl, rfl⟩) (by assumption) ?_
  try simp only [Act.put, List.setIfInBounds_toArray, List.set_cons_zero, List.set_cons_succ]
  refine wpAnyH_take (i := 23) (oi := { dst := some 50, op := Op.pick (Operand.tmp 37) (Operand.const (Value.bool true)) (Operand.tmp 49), type := 4, pos := "disk.go:74", after := #[{ on := 10, ground := Ground.data }, { on := 22, ground := Ground.data }], guard := none }) (v := ?_) rfl (by kernel_rfl) (by kernel_rfl) (by kernel_rfl) (fun _ _ _ h => h) (Or.inl ⟨by rfl, ?_⟩) (by assumption) ?_
  rotate_left
  · (intro w hSw; (try dsimp only at hSw); go_simp); (first | done | with_reducible rfl)
  refine wpAnyH_done (by kernel_rfl) ?_ _
  clear hHeld
  go_wp2_with fail
  go_ret
  exact HR.out _ HB2.out
set_option maxRecDepth 100000 in
set_option maxHeartbeats 4000000 in
theorem append_fulln5 (h : DkAt B F d D w) (hB : B ≤ w.heap.size) (nm s : List UInt8) (hl : nm.length ≤ 140737488351232) (hs : s.length ≤ 140737488351232) (hu : D.up = true) (hn : Dk.named nm = true) (hh : Dk.has nm D.L = false) (hfe : D.L.length ≠ 1024) (hfu : D.room < Dk.size D.L + s.length) : Calls Try.prog 32 #[.pointer (some ⟨d, 0, none⟩), .string (S nm), .string (S s)] w (OpR B F d (Dk.append nm s D) w) := by
  have CS := Lib.hid (state5 h)
  have CN := Lib.hid (named5 nm hl w)
  have hst : stE D = 0 := by unfold stE; rw [hu]; rfl
  rw [hst] at CS
  rw [hn] at CN
  have hfull : (Dk.has nm D.L = false ∧ D.L.length = 1024) ∨ D.room < Dk.size D.L + s.length := .inr hfu
  have HR := Lib.hid (fun w' (hb : Below w.heap.size w w') => show OpR B F d (Dk.append nm s D) w (.returned (.int .i64 50)) w' from by
    have e : Dk.append nm s D = (50, D) := by unfold Dk.append; rw [if_neg (by rw [hu]; simp), if_neg (by rw [hn]; simp), if_pos hfull]
    rw [e]; exact opR_same h hB hb 50)
  obtain ⟨hO, mb, V, sv, c, hI, hFt, hFB⟩ := h
  have HO := Lib.hid hO
  have HI := Lib.hid hI
  have HFT := Lib.hid hFt
  have HFB := Lib.hid hFB
  have HBs := Lib.hid hB
  obtain ⟨vo, vc, hv⟩ := row_shape5 (hI.vrow nm)
  have hvr := hI.vrow nm
  rw [hv] at hvr
  have HVR := Lib.hid hvr
  have HV := Lib.hid hv
  have HL := Lib.hid hl
  have HM := Lib.hid hI.map
  have c2 : w.cell? ⟨d, 2, none⟩ = some (.map (some mb)) := hI.box.cell 2
  have hrm := hO.room
  have hms := hO.most
  have hfw := hO.few
  have hgz := Dk.get_size hO.l nm
  have hgs := Dk.get_safe hO.l nm
  have e1 : IntKind.i64.wrap ((D.room : Int) - (Dk.size D.L : Int)) = (D.room : Int) - (Dk.size D.L : Int) := IntWalk.i64_in _ (by omega)
  have d2 : ((D.L.length : Int) == 1024) = false := by simp; omega
  have d1 : decide ((D.room : Int) - (Dk.size D.L : Int) < (s.length : Int)) = true := by simp; omega
  clear hfu hfe
  have HH := Lib.hid hh
  clear hO hI hFt hFB hB hv hvr hl hs hu hst hn hfull hh
  go_enter Try.func32, Try.ntmps32
  go_wp2_with fail
  with_reducible refine CS.out.mono ?_
  rintro e w1 ⟨rfl, rfl⟩
  go_wp2_with fail
  with_reducible refine CN.out.mono ?_
  rintro e w1 ⟨rfl, rfl⟩
  go_wp2_with (at_lookup; refine wpList_look_ok5 _ rfl _ _ rfl rfl rfl HM.out HL.out _ HV.out ?_; rw [HH.out])
  have HX := Lib.hid (bk_new #[.slice vo (Dk.get nm D.L).dat.length vc, .int .i64 (Dk.get nm D.L).safe] 93 w)
  have HI2 := Lib.hid (HI.out.below ((Below.refl _ _).alloc (Nat.le_refl _) (.cells #[.slice vo (Dk.get nm D.L).dat.length vc, .int .i64 (Dk.get nm D.L).safe] 93)))
  have HB2 := Lib.hid ((Below.refl w.heap.size w).alloc (Nat.le_refl _) (.cells #[.slice vo (Dk.get nm D.L).dat.length vc, .int .i64 (Dk.get nm D.L).safe] 93))
  have HVR2 := Lib.hid (row_below5 HVR.out ((Below.refl w.heap.size w).alloc (Nat.le_refl _) (.cells #[.slice vo (Dk.get nm D.L).dat.length vc, .int .i64 (Dk.get nm D.L).safe] 93)))
  generalize (w.alloc (.cells #[.slice vo (Dk.get nm D.L).dat.length vc, .int .i64 (Dk.get nm D.L).safe] 93)) = W2 at *
  clear c2
  generalize hXX : w.heap.size = X at *
  have HXX := Lib.hid hXX
  clear hXX
  have HBw := Lib.hid (show B ≤ w.heap.size from by rw [HXX.out]; exact HBs.out)
  have HFBw := Lib.hid (show ∀ b, F b → B ≤ b ∧ b < w.heap.size from by rw [HXX.out]; exact HFB.out)
  have hln := HI2.out.map.len Try.underlying41 3
  rw [datM_size] at hln
  have HLN := Lib.hid hln
  clear hln
  refine wp_region_held_drew (S := fun W => W.cell? ⟨d, 2, none⟩ = some (.map (some mb)) ∧ W.cell? ⟨d, 0, none⟩ = some (.int .i64 D.room) ∧ W.cell? ⟨d, 1, none⟩ = some (.int .i64 (Dk.size D.L)) ∧ (Builtin.len_ #[41] 3 #[.map (some mb)]).run Try.prog W = .ok (.int .i64 D.L.length) W) (by kernel_rfl) ?_ (fun hHeld => ?_)
  · exact ⟨HI2.out.box.cell 2, HI2.out.box.cell 0, HI2.out.box.cell 1, by have h9 := (HI2.out.co.drew).map.len Try.underlying41 3; rw [datM_size] at h9; exact h9⟩
  replace HX := Lib.hid HX.out.drew
  have HI3 := Lib.hid (HI2.out.below ((Below.refl _ W2).drew))
  replace HB2 := Lib.hid (show Below X w W2.drew from HB2.out.drew)
  replace HVR2 := Lib.hid (row_below5 HVR2.out ((Below.refl _ W2).drew))
  obtain ⟨W3, hW3⟩ : ∃ x, x = World.drew W2 := ⟨_, rfl⟩
  rw [← hW3] at HX HI3 HB2 HVR2 hHeld ⊢
  clear hW3 HI2 HLN
  have HB2w := Lib.hid (show Below w.heap.size w W3 from by rw [HXX.out]; exact HB2.out)
  refine wpAnyH_take (i := 0) (oi := { dst := some 27, op := Op.move (Operand.tmp 9), type := 4, pos := "disk.go:74", after := #[], guard := none }) (v := ?_) rfl (by kernel_rfl) (by kernel_rfl) (by kernel_rfl) (fun _ _ _ h => h) (Or.inl ⟨by rfl, ?_⟩) (by assumption) ?_
  rotate_left
  · (intro w hSw; (try dsimp only at hSw); go_simp); (first | done | with_reducible rfl)
  try simp only [Act.put, List.setIfInBounds_toArray, List.set_cons_zero, List.set_cons_succ]
  refine wpAnyH_take (i := 1) (oi := { dst := some 28, op := Op.unOp UnOp.not 4 (Operand.tmp 27), type := 4, pos := "disk.go:74", after := #[{ on := 0, ground := Ground.data }], guard := none }) (v := ?_) rfl (by kernel_rfl) (by kernel_rfl) (by kernel_rfl) (fun _ _ _ h => h) (Or.inl ⟨by rfl, ?_⟩) (by assumption) ?_
  rotate_left
  · (intro w hSw; (try dsimp only at hSw); go_simp); (first | done | with_reducible rfl)
  try simp only [Act.put, List.setIfInBounds_toArray, List.set_cons_zero, List.set_cons_succ]
  refine wpAnyH_take (i := 2) (oi := { dst := some 29, op := Op.move (Operand.tmp 28), type := 4, pos := "disk.go:74", after := #[{ on := 1, ground := Ground.data }], guard := none }) (v := ?_) rfl (by kernel_rfl) (by kernel_rfl) (by kernel_rfl) (fun _ _ _ h => h) (Or.inl ⟨by rfl, ?_⟩) (by assumption) ?_
  rotate_left
  · (intro w hSw; (try dsimp only at hSw); go_simp); (first | done | with_reducible rfl)
  try simp only [Act.put, List.setIfInBounds_toArray, List.set_cons_zero, List.set_cons_succ]
  refine wpAnyH_take (i := 3) (oi := { dst := some 30, op := Op.move (Operand.tmp 0), type := 24, pos := "disk.go:74", after := #[{ on := 2, ground := Ground.guard }], guard := some (2, true) }) (v := ?_) rfl (by kernel_rfl) (by kernel_rfl) (by kernel_rfl) (fun _ _ _ h => h) (Or.inl ⟨by rfl, ?_⟩) (by assumption) ?_
  rotate_left
  · (intro w hSw; (try dsimp only at hSw); go_simp); (first | done | with_reducible rfl)
  try simp only [Act.put, List.setIfInBounds_toArray, List.set_cons_zero, List.set_cons_succ]
  refine wpAnyH_take (i := 4) (oi := { dst := some 31, op := Op.nilCheck (Operand.tmp 30), type := 0, pos := "disk.go:74", after := #[{ on := 3, ground := Ground.data }, { on := 2, ground := Ground.guard }], guard := some (2, true) }) (v := ?_) rfl (by kernel_rfl) (by kernel_rfl) (by kernel_rfl) (fun _ _ _ h => h) (Or.inl ⟨by rfl, ?_⟩) (by assumption) ?_
  rotate_left
  · (intro w hSw; (try dsimp only at hSw); go_simp); (first | done | with_reducible rfl)
  try simp only [Act.put, List.setIfInBounds_toArray, List.set_cons_zero, List.set_cons_succ]
  refine wpAnyH_take (i := 5) (oi := { dst := some 32, op := Op.fieldAddr 43 (Operand.tmp 31) 2, type := 0, pos := "disk.go:74", after := #[{ on := 4, ground := Ground.data }, { on := 2, ground := Ground.guard }], guard := some (2, true) }) (v := ?_) rfl (by kernel_rfl) (by kernel_rfl) (by kernel_rfl) (fun _ _ _ h => h) (Or.inl ⟨by rfl, ?_⟩) (by assumption) ?_
  rotate_left
  · (intro w hSw; (try dsimp only at hSw); go_simp); (first | done | with_reducible rfl)
  try simp only [Act.put, List.setIfInBounds_toArray, List.set_cons_zero, List.set_cons_succ]
  refine wpAnyH_take (i := 6) (oi := { dst := some 33, op := Op.load 41 (Operand.tmp 32), type := 41, pos := "disk.go:74", after := #[{ on := 5, ground := Ground.data }, { on := 2, ground := Ground.guard }], guard := some (2, true) }) (v := ?_) rfl (by kernel_rfl) (by kernel_rfl) (by kernel_rfl) (fun _ _ _ h => h) (Or.inl ⟨by rfl, ?_⟩) (by assumption) ?_
  rotate_left
  · (intro w hSw; (try dsimp only at hSw); go_simp); (first | done | with_reducible rfl)
  try simp only [Act.put, List.setIfInBounds_toArray, List.set_cons_zero, List.set_cons_succ]
  refine wpAnyH_take (i := 7) (oi := { dst := some 34, op := Op.call { callee := Callee.builtin Builtin.len, args := #[Operand.tmp 33], argTypes := #[41] }, type := 3, pos := "disk.go:74", after := #[{ on := 6, ground := Ground.data }, { on := 2, ground := Ground.chain }, { on := 2, ground := Ground.guard }], guard := some (2, true) }) (v := ?_) rfl (by kernel_rfl) (by kernel_rfl) (by kernel_rfl) (fun _ _ _ h => h) (Or.inl ⟨by rfl, ?_⟩) (by assumption) ?_
  rotate_left
  · (intro w hSw; (try dsimp only at hSw); go_simp); (first | done | with_reducible rfl)
  try simp only [Act.put, List.setIfInBounds_toArray, List.set_cons_zero, List.set_cons_succ]
  refine wpAnyH_take (i := 8) (oi := { dst := some 35, op := Op.binOp BinOp.eql 3 (Operand.tmp 34) (Operand.const (Value.int IntKind.i64 1024)) 3, type := 4, pos := "disk.go:74", after := #[{ on := 7, ground := Ground.data }, { on := 2, ground := Ground.guard }], guard := some (2, true) }) (v := ?_) rfl (by kernel_rfl) (by kernel_rfl) (by kernel_rfl) (fun _ _ _ h => h) (Or.inl ⟨by rfl, ?_⟩) (by assumption) ?_
  rotate_left
  · (intro w hSw; (try dsimp only at hSw); go_simp); (first | done | with_reducible rfl)
  try simp only [Act.put, List.setIfInBounds_toArray, List.set_cons_zero, List.set_cons_succ]
  refine wpAnyH_take (i := 9) (oi := { dst := some 36, op := Op.pick (Operand.tmp 29) (Operand.tmp 35) (Operand.const (Value.bool false)), type := 4, pos := "disk.go:74", after := #[{ on := 2, ground := Ground.data }, { on := 8, ground := Ground.data }], guard := none }) (v := ?_) rfl (by kernel_rfl) (by kernel_rfl) (by kernel_rfl) (fun _ _ _ h => h) (Or.inl ⟨by rfl, ?_⟩) (by assumption) ?_
  rotate_left
  · (intro w hSw; (try dsimp only at hSw); go_simp); (first | done | with_reducible rfl)
  try simp only [Act.put, List.setIfInBounds_toArray, List.set_cons_zero, List.set_cons_succ]
  refine wpAnyH_take (i := 10) (oi := { dst := some 37, op := Op.move (Operand.tmp 36), type := 4, pos := "disk.go:74", after := #[{ on := 9, ground := Ground.data }, { on := 7, ground := Ground.chain }], guard := none }) (v := ?_) rfl (by kernel_rfl) (by kernel_rfl) (by kernel_rfl) (fun _ _ _ h => h) (Or.inl ⟨by rfl, ?_⟩) (by assumption) ?_
  rotate_left
  · (intro w hSw; (try dsimp only at hSw); go_simp); (first | done | with_reducible rfl)
  try simp only [Act.put, List.setIfInBounds_toArray, List.set_cons_zero, List.set_cons_succ]
  refine wpAnyH_take (i := 11) (oi := { dst := some 38, op := Op.move (Operand.tmp 2), type := 9, pos := "disk.go:74", after := #[{ on := 10, ground := Ground.guard }], guard := some (10, false) }) (v := ?_) rfl (by kernel_rfl) (by kernel_rfl) (by kernel_rfl) (fun _ _ _ h => h) (Or.inl ⟨by rfl, ?_⟩) (by assumption) ?_
  rotate_left
  · (intro w hSw; (try dsimp only at hSw); go_simp); (first | done | with_reducible rfl)
  try simp only [Act.put, List.setIfInBounds_toArray, List.set_cons_zero, List.set_cons_succ]
  refine wpAnyH_take (i := 12) (oi := { dst := some 39, op := Op.call { callee := Callee.builtin Builtin.len, args := #[Operand.tmp 38], argTypes := #[9] }, type := 3, pos := "disk.go:74", after := #[{ on := 11, ground := Ground.data }, { on := 10, ground := Ground.guard }], guard := some (10, false) }) (v := ?_) rfl (by kernel_rfl) (by kernel_rfl) (by kernel_rfl) (fun _ _ _ h => h) (Or.inl ⟨by rfl, ?_⟩) (by assumption) ?_
  rotate_left
  · (intro w hSw; (try dsimp only at hSw); go_simp); (first | done | with_reducible rfl)
  try simp only [Act.put, List.setIfInBounds_toArray, List.set_cons_zero, List.set_cons_succ]
  refine wpAnyH_take (i := 13) (oi := { dst := some 40, op := Op.move (Operand.tmp 0), type := 24, pos := "disk.go:74", after := #[{ on := 10, ground := Ground.guard }], guard := some (10, false) }) (v := ?_) rfl (by kernel_rfl) (by kernel_rfl) (by kernel_rfl) (fun _ _ _ h => h) (Or.inl ⟨by rfl, ?_⟩) (by assumption) ?_
  rotate_left
  · (intro w hSw; (try dsimp only at hSw); go_simp); (first | done | with_reducible rfl)
  try simp only [Act.put, List.setIfInBounds_toArray, List.set_cons_zero, List.set_cons_succ]
  refine wpAnyH_take (i := 14) (oi := { dst := some 41, op := Op.nilCheck (Operand.tmp 40), type := 0, pos := "disk.go:74", after := #[{ on := 13, ground := Ground.data }, { on := 10, ground := Ground.guard }], guard := some (10, false) }) (v := ?_) rfl (by kernel_rfl) (by kernel_rfl) (by kernel_rfl) (fun _ _ _ h => h) (Or.inl ⟨by rfl, ?_⟩) (by assumption) ?_
  rotate_left
  · (intro w hSw; (try dsimp only at hSw); go_simp); (first | done | with_reducible rfl)
  try simp only [Act.put, List.setIfInBounds_toArray, List.set_cons_zero, List.set_cons_succ]
  refine wpAnyH_take (i := 15) (oi := { dst := some 42, op := Op.fieldAddr 43 (Operand.tmp 41) 0, type := 0, pos := "disk.go:74", after := #[{ on := 14, ground := Ground.data }, { on := 10, ground := Ground.guard }], guard := some (10, false) }) (v := ?_) rfl (by kernel_rfl) (by kernel_rfl) (by kernel_rfl) (fun _ _ _ h => h) (Or.inl ⟨by rfl, ?_⟩) (by assumption) ?_
  rotate_left
  · (intro w hSw; (try dsimp only at hSw); go_simp); (first | done | with_reducible rfl)
  try simp only [Act.put, List.setIfInBounds_toArray, List.set_cons_zero, List.set_cons_succ]
  refine wpAnyH_take (i := 16) (oi := { dst := some 43, op := Op.load 3 (Operand.tmp 42), type := 3, pos := "disk.go:74", after := #[{ on := 15, ground := Ground.data }, { on := 10, ground := Ground.guard }], guard := some (10, false) }) (v := ?_) rfl (by kernel_rfl) (by kernel_rfl) (by kernel_rfl) (fun _ _ _ h => h) (Or.inl ⟨by rfl, ?_⟩) (by assumption) ?_
  rotate_left
  · (intro w hSw; (try dsimp only at hSw); go_simp); (first | done | with_reducible rfl)
  try simp only [Act.put, List.setIfInBounds_toArray, List.set_cons_zero, List.set_cons_succ]
  refine wpAnyH_take (i := 17) (oi := { dst := some 44, op := Op.move (Operand.tmp 0), type := 24, pos := "disk.go:74", after := #[{ on := 10, ground := Ground.guard }], guard := some (10, false) }) (v := ?_) rfl (by kernel_rfl) (by kernel_rfl) (by kernel_rfl) (fun _ _ _ h => h) (Or.inl ⟨by rfl, ?_⟩) (by assumption) ?_
  rotate_left
  · (intro w hSw; (try dsimp only at hSw); go_simp); (first | done | with_reducible rfl)
  try simp only [Act.put, List.setIfInBounds_toArray, List.set_cons_zero, List.set_cons_succ]
  refine wpAnyH_take (i := 18) (oi := { dst := some 45, op := Op.nilCheck (Operand.tmp 44), type := 0, pos := "disk.go:74", after := #[{ on := 17, ground := Ground.data }, { on := 10, ground := Ground.guard }], guard := some (10, false) }) (v := ?_) rfl (by kernel_rfl) (by kernel_rfl) (by kernel_rfl) (fun _ _ _ h => h) (Or.inl ⟨by rfl, ?_⟩) (by assumption) ?_
  rotate_left
  · (intro w hSw; (try dsimp only at hSw); go_simp); (first | done | with_reducible rfl)
  try simp only [Act.put, List.setIfInBounds_toArray, List.set_cons_zero, List.set_cons_succ]
  refine wpAnyH_take (i := 19) (oi := { dst := some 46, op := Op.fieldAddr 43 (Operand.tmp 45) 1, type := 0, pos := "disk.go:74", after := #[{ on := 18, ground := Ground.data }, { on := 10, ground := Ground.guard }], guard := some (10, false) }) (v := ?_) rfl (by kernel_rfl) (by kernel_rfl) (by kernel_rfl) (fun _ _ _ h => h) (Or.inl ⟨by rfl, ?_⟩) (by assumption) ?_
  rotate_left
  · (intro w hSw; (try dsimp only at hSw); go_simp); (first | done | with_reducible rfl)
  try simp only [Act.put, List.setIfInBounds_toArray, List.set_cons_zero, List.set_cons_succ]
  refine wpAnyH_take (i := 20) (oi := { dst := some 47, op := Op.load 3 (Operand.tmp 46), type := 3, pos := "disk.go:74", after := #[{ on := 19, ground := Ground.data }, { on := 10, ground := Ground.guard }], guard := some (10, false) }) (v := ?_) rfl (by kernel_rfl) (by kernel_rfl) (by kernel_rfl) (fun _ _ _ h => h) (Or.inl ⟨by rfl, ?_⟩) (by assumption) ?_
  rotate_left
  · (intro w hSw; (try dsimp only at hSw); go_simp); (first | done | with_reducible rfl)
  try simp only [Act.put, List.setIfInBounds_toArray, List.set_cons_zero, List.set_cons_succ]
  refine wpAnyH_take (i := 21) (oi := { dst := some 48, op := Op.binOp BinOp.sub 3 (Operand.tmp 43) (Operand.tmp 47) 3, type := 3, pos := "disk.go:74", after := #[{ on := 16, ground := Ground.data }, { on := 20, ground := Ground.data }, { on := 10, ground := Ground.guard }], guard := some (10, false) }) (v := ?_) rfl (by kernel_rfl) (by kernel_rfl) (by kernel_rfl) (fun _ _ _ h => h) (Or.inl ⟨by rfl, ?_⟩) (by assumption) ?_
  rotate_left
  · (intro w hSw; (try dsimp only at hSw); go_simp); (first | done | with_reducible rfl)
  try simp only [Act.put, List.setIfInBounds_toArray, List.set_cons_zero, List.set_cons_succ]
  refine wpAnyH_take (i := 22) (oi := { dst := some 49, op := Op.binOp BinOp.gtr 3 (Operand.tmp 39) (Operand.tmp 48) 3, type := 4, pos := "disk.go:74", after := #[{ on := 12, ground := Ground.data }, { on := 21, ground := Ground.data }, { on := 10, ground := Ground.guard }], guard := some (10, false) }) (v := ?_) rfl (by kernel_rfl) (by kernel_rfl) (by kernel_rfl) (fun _ _ _ h => h) (Or.inl ⟨by rfl, ?_⟩) (by assumption) ?_
  rotate_left
  · (intro w hSw; (try dsimp only at hSw); go_simp); (first | done | with_reducible rfl)
  try simp only [Act.put, List.setIfInBounds_toArray, List.set_cons_zero, List.set_cons_succ]
  refine wpAnyH_take (i := 23) (oi := { dst := some 50, op := Op.pick (Operand.tmp 37) (Operand.const (Value.bool true)) (Operand.tmp 49), type := 4, pos := "disk.go:74", after := #[{ on := 10, ground := Ground.data }, { on := 22, ground := Ground.data }], guard := none }) (v := ?_) rfl (by kernel_rfl) (by kernel_rfl) (by kernel_rfl) (fun _ _ _ h => h) (Or.inl ⟨by rfl, ?_⟩) (by assumption) ?_
  rotate_left
  · (intro w hSw; (try dsimp only at hSw); go_simp); (first | done | with_reducible rfl)
  refine wpAnyH_done (by kernel_rfl) ?_ _
  clear hHeld
  go_wp2_with fail
  go_ret
  exact HR.out _ HB2.out
set_option maxRecDepth 100000 in
set_option maxHeartbeats 4000000 in
theorem append_more5 (h : DkAt B F d D w) (hB : B ≤ w.heap.size) (nm s : List UInt8) (hl : nm.length ≤ 140737488351232) (hs : s.length ≤ 140737488351232) (hu : D.up = true) (hn : Dk.named nm = true) (hh : Dk.has nm D.L = true) (hfi : Dk.size D.L + s.length ≤ D.room) : Calls Try.prog 32 #[.pointer (some ⟨d, 0, none⟩), .string (S nm), .string (S s)] w (OpR B F d (Dk.append nm s D) w) := by
  have CS := Lib.hid (state5 h)
  have CN := Lib.hid (named5 nm hl w)
  have hst : stE D = 0 := by unfold stE; rw [hu]; rfl
  rw [hst] at CS
  rw [hn] at CN
  have HE := Lib.hid (show Dk.append nm s D = (if (Dk.struck { D with L := Dk.put ⟨nm, (Dk.get nm D.L).dat ++ s, (Dk.get nm D.L).safe⟩ D.L }).1 then 51 else 0, (Dk.struck { D with L := Dk.put ⟨nm, (Dk.get nm D.L).dat ++ s, (Dk.get nm D.L).safe⟩ D.L }).2) from by
    unfold Dk.append; rw [if_neg (by rw [hu]; simp), if_neg (by rw [hn]; simp), if_neg (by rw [hh]; simp; omega)])
  have HOK := Lib.hid (Dk.put_ok5 h.ok (f := ⟨nm, (Dk.get nm D.L).dat ++ s, (Dk.get nm D.L).safe⟩) hn (by have := Dk.get_safe h.ok.l nm; simp; omega) (.inl hh) (by simp; omega))
  obtain ⟨hO, mb, V, sv, c, hI, hFt, hFB⟩ := h
  have HO := Lib.hid hO
  have HI := Lib.hid hI
  have HFT := Lib.hid hFt
  have HFB := Lib.hid hFB
  have HBs := Lib.hid hB
  obtain ⟨vo, vc, hv⟩ := row_shape5 (hI.vrow nm)
  have hvr := hI.vrow nm
  rw [hv] at hvr
  have HVR := Lib.hid hvr
  have HV := Lib.hid hv
  have HL := Lib.hid hl
  have HM := Lib.hid hI.map
  have c2 : w.cell? ⟨d, 2, none⟩ = some (.map (some mb)) := hI.box.cell 2
  have hrm := hO.room
  have hms := hO.most
  have hfw := hO.few
  have hgz := Dk.get_size hO.l nm
  have hgs := Dk.get_safe hO.l nm
  have e1 : IntKind.i64.wrap ((D.room : Int) - (Dk.size D.L : Int)) = (D.room : Int) - (Dk.size D.L : Int) := IntWalk.i64_in _ (by omega)
  obtain ⟨i0, hi, hz0, hz1, hz2⟩ := info_parts infoB5
  have d1 : decide ((D.room : Int) - (Dk.size D.L : Int) < (s.length : Int)) = false := by simp; omega
  have HH := Lib.hid hh
  have HLEN := Lib.hid (show D.L.length ≤ 100000 from by omega)
  have HBD := Lib.hid (show B ≤ d from (hFB d (hFt d (.inl rfl))).1)
  have HBM := Lib.hid (show B ≤ mb from (hFB mb (hFt mb (.inr (.inl rfl)))).1)
  clear hO hI hFt hFB hB hv hvr hl hs hu hst hn hh
  go_enter Try.func32, Try.ntmps32
  go_wp2_with fail
  with_reducible refine CS.out.mono ?_
  rintro e w1 ⟨rfl, rfl⟩
  go_wp2_with fail
  with_reducible refine CN.out.mono ?_
  rintro e w1 ⟨rfl, rfl⟩
  go_wp2_with (at_lookup; refine wpList_look_ok5 _ rfl _ _ rfl rfl rfl HM.out HL.out _ HV.out ?_; rw [HH.out])
  have HX := Lib.hid (bk_new #[.slice vo (Dk.get nm D.L).dat.length vc, .int .i64 (Dk.get nm D.L).safe] 93 w)
  have HI2 := Lib.hid (HI.out.below ((Below.refl _ _).alloc (Nat.le_refl _) (.cells #[.slice vo (Dk.get nm D.L).dat.length vc, .int .i64 (Dk.get nm D.L).safe] 93)))
  have HB2 := Lib.hid ((Below.refl w.heap.size w).alloc (Nat.le_refl _) (.cells #[.slice vo (Dk.get nm D.L).dat.length vc, .int .i64 (Dk.get nm D.L).safe] 93))
  have HVR2 := Lib.hid (row_below5 HVR.out ((Below.refl w.heap.size w).alloc (Nat.le_refl _) (.cells #[.slice vo (Dk.get nm D.L).dat.length vc, .int .i64 (Dk.get nm D.L).safe] 93)))
  generalize (w.alloc (.cells #[.slice vo (Dk.get nm D.L).dat.length vc, .int .i64 (Dk.get nm D.L).safe] 93)) = W2 at *
  clear c2
  generalize hXX : w.heap.size = X at *
  have HXX := Lib.hid hXX
  clear hXX
  have HBw := Lib.hid (show B ≤ w.heap.size from by rw [HXX.out]; exact HBs.out)
  have HFBw := Lib.hid (show ∀ b, F b → B ≤ b ∧ b < w.heap.size from by rw [HXX.out]; exact HFB.out)
  have hln := HI2.out.map.len Try.underlying41 3
  rw [datM_size] at hln
  have HLN := Lib.hid hln
  clear hln
  refine wp_region_held_drew (S := fun W => W.cell? ⟨d, 2, none⟩ = some (.map (some mb)) ∧ W.cell? ⟨d, 0, none⟩ = some (.int .i64 D.room) ∧ W.cell? ⟨d, 1, none⟩ = some (.int .i64 (Dk.size D.L)) ∧ (Builtin.len_ #[41] 3 #[.map (some mb)]).run Try.prog W = .ok (.int .i64 D.L.length) W) (by kernel_rfl) ?_ (fun hHeld => ?_)
  · exact ⟨HI2.out.box.cell 2, HI2.out.box.cell 0, HI2.out.box.cell 1, by have h9 := (HI2.out.co.drew).map.len Try.underlying41 3; rw [datM_size] at h9; exact h9⟩
  replace HX := Lib.hid HX.out.drew
  have HI3 := Lib.hid (HI2.out.below ((Below.refl _ W2).drew))
  replace HB2 := Lib.hid (show Below X w W2.drew from HB2.out.drew)
  replace HVR2 := Lib.hid (row_below5 HVR2.out ((Below.refl _ W2).drew))
  obtain ⟨W3, hW3⟩ : ∃ x, x = World.drew W2 := ⟨_, rfl⟩
  rw [← hW3] at HX HI3 HB2 HVR2 hHeld ⊢
  clear hW3 HI2 HLN
  have HB2w := Lib.hid (show Below w.heap.size w W3 from by rw [HXX.out]; exact HB2.out)
  refine wpAnyH_take (i := 0) (oi := { dst := some 27, op := Op.move (Operand.tmp 9), type := 4, pos := "disk.go:74", after := #[], guard := none }) (v := ?_) rfl (by kernel_rfl) (by kernel_rfl) (by kernel_rfl) (fun _ _ _ h => h) (Or.inl ⟨by rfl, ?_⟩) (by assumption) ?_
  rotate_left
  · (intro w hSw; (try dsimp only at hSw); go_simp); (first | done | with_reducible rfl)
  try simp only [Act.put, List.setIfInBounds_toArray, List.set_cons_zero, List.set_cons_succ]
  refine wpAnyH_take (i := 1) (oi := { dst := some 28, op := Op.unOp UnOp.not 4 (Operand.tmp 27), type := 4, pos := "disk.go:74", after := #[{ on := 0, ground := Ground.data }], guard := none }) (v := ?_) rfl (by kernel_rfl) (by kernel_rfl) (by kernel_rfl) (fun _ _ _ h => h) (Or.inl ⟨by rfl, ?_⟩) (by assumption) ?_
  rotate_left
  · (intro w hSw; (try dsimp only at hSw); go_simp); (first | done | with_reducible rfl)
  try simp only [Act.put, List.setIfInBounds_toArray, List.set_cons_zero, List.set_cons_succ]
  refine wpAnyH_take (i := 2) (oi := { dst := some 29, op := Op.move (Operand.tmp 28), type := 4, pos := "disk.go:74", after := #[{ on := 1, ground := Ground.data }], guard := none }) (v := ?_) rfl (by kernel_rfl) (by kernel_rfl) (by kernel_rfl) (fun _ _ _ h => h) (Or.inl ⟨by rfl, ?_⟩) (by assumption) ?_
  rotate_left
  · (intro w hSw; (try dsimp only at hSw); go_simp); (first | done | with_reducible rfl)
  try simp only [Act.put, List.setIfInBounds_toArray, List.set_cons_zero, List.set_cons_succ]
  refine wpAnyH_take (i := 3) (oi := { dst := some 30, op := Op.move (Operand.tmp 0), type := 24, pos := "disk.go:74", after := #[{ on := 2, ground := Ground.guard }], guard := some (2, true) }) (v := undef) rfl (by kernel_rfl) (by kernel_rfl) (by kernel_rfl) (fun _ _ _ h => h) (Or.inr ⟨by rfl, rfl⟩) (by assumption) ?_
  try simp only [Act.put, List.setIfInBounds_toArray, List.set_cons_zero, List.set_cons_succ]
  refine wpAnyH_take (i := 4) (oi := { dst := some 31, op := Op.nilCheck (Operand.tmp 30), type := 0, pos := "disk.go:74", after := #[{ on := 3, ground := Ground.data }, { on := 2, ground := Ground.guard }], guard := some (2, true) }) (v := undef) rfl (by kernel_rfl) (by kernel_rfl) (by kernel_rfl) (fun _ _ _ h => h) (Or.inr ⟨by rfl, rfl⟩) (by assumption) ?_
  try simp only [Act.put, List.setIfInBounds_toArray, List.set_cons_zero, List.set_cons_succ]
  refine wpAnyH_take (i := 5) (oi := { dst := some 32, op := Op.fieldAddr 43 (Operand.tmp 31) 2, type := 0, pos := "disk.go:74", after := #[{ on := 4, ground := Ground.data }, { on := 2, ground := Ground.guard }], guard := some (2, true) }) (v := undef) rfl (by kernel_rfl) (by kernel_rfl) (by kernel_rfl) (fun _ _ _ h => h) (Or.inr ⟨by rfl, rfl⟩) (by assumption) ?_
  try simp only [Act.put, List.setIfInBounds_toArray, List.set_cons_zero, List.set_cons_succ]
  refine wpAnyH_take (i := 6) (oi := { dst := some 33, op := Op.load 41 (Operand.tmp 32), type := 41, pos := "disk.go:74", after := #[{ on := 5, ground := Ground.data }, { on := 2, ground := Ground.guard }], guard := some (2, true) }) (v := undef) rfl (by kernel_rfl) (by kernel_rfl) (by kernel_rfl) (fun _ _ _ h => h) (Or.inr ⟨by rfl, rfl⟩) (by assumption) ?_
  try simp only [Act.put, List.setIfInBounds_toArray, List.set_cons_zero, List.set_cons_succ]
  refine wpAnyH_take (i := 7) (oi := { dst := some 34, op := Op.call { callee := Callee.builtin Builtin.len, args := #[Operand.tmp 33], argTypes := #[41] }, type := 3, pos := "disk.go:74", after := #[{ on := 6, ground := Ground.data }, { on := 2, ground := Ground.chain }, { on := 2, ground := Ground.guard }], guard := some (2, true) }) (v := undef) rfl (by kernel_rfl) (by kernel_rfl) (by kernel_rfl) (fun _ _ _ h => h) (Or.inr ⟨by rfl, rfl⟩) (by assumption) ?_
  try simp only [Act.put, List.setIfInBounds_toArray, List.set_cons_zero, List.set_cons_succ]
  refine wpAnyH_take (i := 8) (oi := { dst := some 35, op := Op.binOp BinOp.eql 3 (Operand.tmp 34) (Operand.const (Value.int IntKind.i64 1024)) 3, type := 4, pos := "disk.go:74", after := #[{ on := 7, ground := Ground.data }, { on := 2, ground := Ground.guard }], guard := some (2, true) }) (v := undef) rfl (by kernel_rfl) (by kernel_rfl) (by kernel_rfl) (fun _ _ _ h => h) (Or.inr ⟨by rfl, rfl⟩) (by assumption) ?_
  try simp only [Act.put, List.setIfInBounds_toArray, List.set_cons_zero, List.set_cons_succ]
  refine wpAnyH_take (i := 9) (oi := { dst := some 36, op := Op.pick (Operand.tmp 29) (Operand.tmp 35) (Operand.const (Value.bool false)), type := 4, pos := "disk.go:74", after := #[{ on := 2, ground := Ground.data }, { on := 8, ground := Ground.data }], guard := none }) (v := ?_) rfl (by kernel_rfl) (by kernel_rfl) (by kernel_rfl) (fun _ _ _ h => h) (Or.inl ⟨by rfl, ?_⟩) (by assumption) ?_
  rotate_left
  · (intro w hSw; (try dsimp only at hSw); go_simp); (first | done | with_reducible rfl)
  try simp only [Act.put, List.setIfInBounds_toArray, List.set_cons_zero, List.set_cons_succ]
  refine wpAnyH_take (i := 10) (oi := { dst := some 37, op := Op.move (Operand.tmp 36), type := 4, pos := "disk.go:74", after := #[{ on := 9, ground := Ground.data }, { on := 7, ground := Ground.chain }], guard := none }) (v := ?_) rfl (by kernel_rfl) (by kernel_rfl) (by kernel_rfl) (fun _ _ _ h => h) (Or.inl ⟨by rfl, ?_⟩) (by assumption) ?_
  rotate_left
  · (intro w hSw; (try dsimp only at hSw); go_simp); (first | done | with_reducible rfl)
  try simp only [Act.put, List.setIfInBounds_toArray, List.set_cons_zero, List.set_cons_succ]
  refine wpAnyH_take (i := 11) (oi := { dst := some 38, op := Op.move (Operand.tmp 2), type := 9, pos := "disk.go:74", after := #[{ on := 10, ground := Ground.guard }], guard := some (10, false) }) (v := ?_) rfl (by kernel_rfl) (by kernel_rfl) (by kernel_rfl) (fun _ _ _ h => h) (Or.inl ⟨by rfl, ?_⟩) (by assumption) ?_
  rotate_left
  · (intro w hSw; (try dsimp only at hSw); go_simp); (first | done | with_reducible rfl)
  try simp only [Act.put, List.setIfInBounds_toArray, List.set_cons_zero, List.set_cons_succ]
  refine wpAnyH_take (i := 12) (oi := { dst := some 39, op := Op.call { callee := Callee.builtin Builtin.len, args := #[Operand.tmp 38], argTypes := #[9] }, type := 3, pos := "disk.go:74", after := #[{ on := 11, ground := Ground.data }, { on := 10, ground := Ground.guard }], guard := some (10, false) }) (v := ?_) rfl (by kernel_rfl) (by kernel_rfl) (by kernel_rfl) (fun _ _ _ h => h) (Or.inl ⟨by rfl, ?_⟩) (by assumption) ?_
  rotate_left
  · (intro w hSw; (try dsimp only at hSw); go_simp); (first | done | with_reducible rfl)
  try simp only [Act.put, List.setIfInBounds_toArray, List.set_cons_zero, List.set_cons_succ]
  refine wpAnyH_take (i := 13) (oi := { dst := some 40, op := Op.move (Operand.tmp 0), type := 24, pos := "disk.go:74", after := #[{ on := 10, ground := Ground.guard }], guard := some (10, false) }) (v := ?_) rfl (by kernel_rfl) (by kernel_rfl) (by kernel_rfl) (fun _ _ _ h => h) (Or.inl ⟨by rfl, ?_⟩) (by assumption) ?_
  rotate_left
  · (intro w hSw; (try dsimp only at hSw); go_simp); (first | done | with_reducible rfl)
  try simp only [Act.put, List.setIfInBounds_toArray, List.set_cons_zero, List.set_cons_succ]
  refine wpAnyH_take (i := 14) (oi := { dst := some 41, op := Op.nilCheck (Operand.tmp 40), type := 0, pos := "disk.go:74", after := #[{ on := 13, ground := Ground.data }, { on := 10, ground := Ground.guard }], guard := some (10, false) }) (v := ?_) rfl (by kernel_rfl) (by kernel_rfl) (by kernel_rfl) (fun _ _ _ h => h) (Or.inl ⟨by rfl, ?_⟩) (by assumption) ?_
  rotate_left
  · (intro w hSw; (try dsimp only at hSw); go_simp); (first | done | with_reducible rfl)
  try simp only [Act.put, List.setIfInBounds_toArray, List.set_cons_zero, List.set_cons_succ]
  refine wpAnyH_take (i := 15) (oi := { dst := some 42, op := Op.fieldAddr 43 (Operand.tmp 41) 0, type := 0, pos := "disk.go:74", after := #[{ on := 14, ground := Ground.data }, { on := 10, ground := Ground.guard }], guard := some (10, false) }) (v := ?_) rfl (by kernel_rfl) (by kernel_rfl) (by kernel_rfl) (fun _ _ _ h => h) (Or.inl ⟨by rfl, ?_⟩) (by assumption) ?_
  rotate_left
  · (intro w hSw; (try dsimp only at hSw); go_simp); (first | done | with_reducible rfl)
  try simp only [Act.put, List.setIfInBounds_toArray, List.set_cons_zero, List.set_cons_succ]
  refine wpAnyH_take (i := 16) (oi := { dst := some 43, op := Op.load 3 (Operand.tmp 42), type := 3, pos := "disk.go:74", after := #[{ on := 15, ground := Ground.data }, { on := 10, ground := Ground.guard }], guard := some (10, false) }) (v := ?_) rfl (by kernel_rfl) (by kernel_rfl) (by kernel_rfl) (fun _ _ _ h => h) (Or.inl ⟨by rfl, ?_⟩) (by assumption) ?_
  rotate_left
  · (intro w hSw; (try dsimp only at hSw); go_simp); (first | done | with_reducible rfl)
  try simp only [Act.put, List.setIfInBounds_toArray, List.set_cons_zero, List.set_cons_succ]
  refine wpAnyH_take (i := 17) (oi := { dst := some 44, op := Op.move (Operand.tmp 0), type := 24, pos := "disk.go:74", after := #[{ on := 10, ground := Ground.guard }], guard := some (10, false) }) (v := ?_) rfl (by kernel_rfl) (by kernel_rfl) (by kernel_rfl) (fun _ _ _ h => h) (Or.inl ⟨by rfl, ?_⟩) (by assumption) ?_
  rotate_left
  · (intro w hSw; (try dsimp only at hSw); go_simp); (first | done | with_reducible rfl)
  try simp only [Act.put, List.setIfInBounds_toArray, List.set_cons_zero, List.set_cons_succ]
  refine wpAnyH_take (i := 18) (oi := { dst := some 45, op := Op.nilCheck (Operand.tmp 44), type := 0, pos := "disk.go:74", after := #[{ on := 17, ground := Ground.data }, { on := 10, ground := Ground.guard }], guard := some (10, false) }) (v := ?_) rfl (by kernel_rfl) (by kernel_rfl) (by kernel_rfl) (fun _ _ _ h => h) (Or.inl ⟨by rfl, ?_⟩) (by assumption) ?_
  rotate_left
  · (intro w hSw; (try dsimp only at hSw); go_simp); (first | done | with_reducible rfl)
  try simp only [Act.put, List.setIfInBounds_toArray, List.set_cons_zero, List.set_cons_succ]
  refine wpAnyH_take (i := 19) (oi := { dst := some 46, op := Op.fieldAddr 43 (Operand.tmp 45) 1, type := 0, pos := "disk.go:74", after := #[{ on := 18, ground := Ground.data }, { on := 10, ground := Ground.guard }], guard := some (10, false) }) (v := ?_) rfl (by kernel_rfl) (by kernel_rfl) (by kernel_rfl) (fun _ _ _ h => h) (Or.inl ⟨by rfl, ?_⟩) (by assumption) ?_
  rotate_left
  · (intro w hSw; (try dsimp only at hSw); go_simp); (first | done | with_reducible rfl)
  try simp only [Act.put, List.setIfInBounds_toArray, List.set_cons_zero, List.set_cons_succ]
  refine wpAnyH_take (i := 20) (oi := { dst := some 47, op := Op.load 3 (Operand.tmp 46), type := 3, pos := "disk.go:74", after := #[{ on := 19, ground := Ground.data }, { on := 10, ground := Ground.guard }], guard := some (10, false) }) (v := ?_) rfl (by kernel_rfl) (by kernel_rfl) (by kernel_rfl) (fun _ _ _ h => h) (Or.inl ⟨by rfl, ?_⟩) (by assumption) ?_
  rotate_left
  · (intro w hSw; (try dsimp only at hSw); go_simp); (first | done | with_reducible rfl)
  try simp only [Act.put, List.setIfInBounds_toArray, List.set_cons_zero, List.set_cons_succ]
  refine wpAnyH_take (i := 21) (oi := { dst := some 48, op := Op.binOp BinOp.sub 3 (Operand.tmp 43) (Operand.tmp 47) 3, type := 3, pos := "disk.go:74", after := #[{ on := 16, ground := Ground.data }, { on := 20, ground := Ground.data }, { on := 10, ground := Ground.guard }], guard := some (10, false) }) (v := ?_) rfl (by kernel_rfl) (by kernel_rfl) (by kernel_rfl) (fun _ _ _ h => h) (Or.inl ⟨by rfl, ?_⟩) (by assumption) ?_
  rotate_left
  · (intro w hSw; (try dsimp only at hSw); go_simp); (first | done | with_reducible rfl)
  try simp only [Act.put, List.setIfInBounds_toArray, List.set_cons_zero, List.set_cons_succ]
  refine wpAnyH_take (i := 22) (oi := { dst := some 49, op := Op.binOp BinOp.gtr 3 (Operand.tmp 39) (Operand.tmp 48) 3, type := 4, pos := "disk.go:74", after := #[{ on := 12, ground := Ground.data }, { on := 21, ground := Ground.data }, { on := 10, ground := Ground.guard }], guard := some (10, false) }) (v := ?_) rfl (by kernel_rfl) (by kernel_rfl) (by kernel_rfl) (fun _ _ _ h => h) (Or.inl ⟨by rfl, ?_⟩) (by assumption) ?_
  rotate_left
  · (intro w hSw; (try dsimp only at hSw); go_simp); (first | done | with_reducible rfl)
  try simp only [Act.put, List.setIfInBounds_toArray, List.set_cons_zero, List.set_cons_succ]
  refine wpAnyH_take (i := 23) (oi := { dst := some 50, op := Op.pick (Operand.tmp 37) (Operand.const (Value.bool true)) (Operand.tmp 49), type := 4, pos := "disk.go:74", after := #[{ on := 10, ground := Ground.data }, { on := 22, ground := Ground.data }], guard := none }) (v := ?_) rfl (by kernel_rfl) (by kernel_rfl) (by kernel_rfl) (fun _ _ _ h => h) (Or.inl ⟨by rfl, ?_⟩) (by assumption) ?_
  rotate_left
  · (intro w hSw; (try dsimp only at hSw); go_simp); (first | done | with_reducible rfl)
  refine wpAnyH_done (by kernel_rfl) ?_ _
  clear hHeld
  have x0 : W3.cell? ⟨X, 0, none⟩ = some (.slice vo (Dk.get nm D.L).dat.length vc) := HX.out.cell 0
  have xf : ∀ j, W3.frozen? ⟨X, j, none⟩ = false := fun j => HX.out.free j
  go_wp2_with (at_builtin; refine wpList_app_str5 _ rfl _ _ 68 9 rfl B 5 i0 Try.underlying68 Try.underlying9 hi hz0 hz1 hz2 (.slice vo (Dk.get nm D.L).dat.length vc) (Dk.get nm D.L).dat.length _ rfl HVR2.out s rfl (by omega) (Nat.le_trans HBw.out HB2.out.size) ?_; intro v4 w4 ho4 hg4 ha4; obtain ⟨a4, c4, rfl⟩ := row_shape5 ho4; have HO4 := Lib.hid ho4; have HG4 := Lib.hid hg4; have HA4 := Lib.hid ha4; have HX4 := Lib.hid (HX.out.grown hg4 (fun e => bk_row HX.out HVR2.out (by decide) X e.symm rfl)); have y0 : w4.cell? ⟨X, 0, none⟩ = some (.slice vo (Dk.get nm D.L).dat.length vc) := HX4.out.cell 0; have yf : ∀ j, w4.frozen? ⟨X, j, none⟩ = false := fun j => HX4.out.free j; clear ho4 hg4 ha4 x0 xf)
  have HX5 := Lib.hid (HX4.out.set 0 (.slice a4 ((Dk.get nm D.L).dat.length + s.length) c4))
  have HW5 := Lib.hid (show Wr (fun q => q = X) w4 (w4.setCell ⟨X, 0, none⟩ (.slice a4 ((Dk.get nm D.L).dat.length + s.length) c4)) from wr_set _ _ _ rfl)
  generalize (w4.setCell ⟨X, 0, none⟩ (.slice a4 ((Dk.get nm D.L).dat.length + s.length) c4)) = W5 at *
  clear y0 yf
  have HGW := Lib.hid (show Wr (fun q => (Value.slice vo (Dk.get nm D.L).dat.length vc).ownBlock = some q) W3 w4 from wr_grown HG4.out (fun q hq => .inl hq))
  have HMX := Lib.hid (map_bk5 HI3.out.map HX.out)
  have HXD := Lib.hid (show d ≠ X from fun e => by have h1 := HX.out; have h2 := HI3.out.box; unfold Bk at h1 h2; rw [e, h1] at h2; simp at h2)
  have HM5 := Lib.hid (map_wr (map_wr HI3.out.map HGW.out (fun hq => map_row5 HI3.out.map HVR2.out mb hq rfl)) HW5.out HMX.out)
  have HB5 := Lib.hid ((HI3.out.box.wr HGW.out (fun hq => bk_row HI3.out.box HVR2.out (by decide) d hq rfl)).wr HW5.out HXD.out)
  have HS2 := Lib.hid (show W5.cell? ⟨d, 2, none⟩ = some (.map (some mb)) from HB5.out.cell 2)
  have HS0 := Lib.hid (show W5.cell? ⟨X, 0, none⟩ = some (.slice a4 ((Dk.get nm D.L).dat.length + s.length) c4) from HX5.out.cell 0)
  have HS1 := Lib.hid (show W5.cell? ⟨X, 1, none⟩ = some (.int .i64 (Dk.get nm D.L).safe) from HX5.out.cell 1)
  refine wp_region_Z (S := fun V => V.cell? ⟨d, 2, none⟩ = some (.map (some mb)) ∧ V.cell? ⟨X, 0, none⟩ = some (.slice a4 ((Dk.get nm D.L).dat.length + s.length) c4) ∧ V.cell? ⟨X, 1, none⟩ = some (.int .i64 (Dk.get nm D.L).safe)) 6 (by kernel_rfl) ?_ (fun hHeld => ?_)
  · exact ⟨HS2.out, HS0.out, HS1.out⟩
  replace HM5 := Lib.hid HM5.out.drew
  replace HB5 := Lib.hid HB5.out.drew
  replace HW5 := Lib.hid HW5.out.drew
  obtain ⟨W7, hW7⟩ : ∃ x, x = World.drew W5 := ⟨_, rfl⟩
  rw [← hW7] at HM5 HB5 HW5 hHeld ⊢
  clear hW7
  refine wpAnyZ_takeY (i := 0) (oi := { dst := some 56, op := Op.move (Operand.tmp 0), type := 24, pos := "disk.go:78", after := #[], guard := none }) (v := ?_) rfl (by kernel_rfl) (by kernel_rfl) (by kernel_rfl) (by rfl) (fun _ _ _ h => h) (Or.inl ⟨by rfl, ?_⟩) (by assumption) ?_
  rotate_left
  · (intro w; go_simp); (first | done | with_reducible rfl)
  try simp only [Act.put, List.setIfInBounds_toArray, List.set_cons_zero, List.set_cons_succ]
  refine wpAnyZ_takeY (i := 1) (oi := { dst := some 57, op := Op.nilCheck (Operand.tmp 56), type := 0, pos := "disk.go:78", after := #[{ on := 0, ground := Ground.data }], guard := none }) (v := ?_) rfl (by kernel_rfl) (by kernel_rfl) (by kernel_rfl) (by rfl) (fun _ _ _ h => h) (Or.inl ⟨by rfl, ?_⟩) (by assumption) ?_
  rotate_left
  · (intro w; go_simp); (first | done | with_reducible rfl)
  try simp only [Act.put, List.setIfInBounds_toArray, List.set_cons_zero, List.set_cons_succ]
  refine wpAnyZ_takeY (i := 2) (oi := { dst := some 58, op := Op.fieldAddr 43 (Operand.tmp 57) 2, type := 0, pos := "disk.go:78", after := #[{ on := 1, ground := Ground.data }], guard := none }) (v := ?_) rfl (by kernel_rfl) (by kernel_rfl) (by kernel_rfl) (by rfl) (fun _ _ _ h => h) (Or.inl ⟨by rfl, ?_⟩) (by assumption) ?_
  rotate_left
  · (intro w; go_simp); (first | done | with_reducible rfl)
  try simp only [Act.put, List.setIfInBounds_toArray, List.set_cons_zero, List.set_cons_succ]
  refine wpAnyZ_take (i := 3) (oi := { dst := some 59, op := Op.load 41 (Operand.tmp 58), type := 41, pos := "disk.go:78", after := #[{ on := 2, ground := Ground.data }], guard := none }) (v := ?_) [6] rfl (by kernel_rfl) (by kernel_rfl) (by kernel_rfl) (by kernel_rfl) (fun _ _ _ h => h) (Or.inl ⟨by rfl, ?_⟩) (by assumption) ?_
  rotate_left
  · (intro w hSw; (try dsimp only at hSw); go_simp); (first | done | with_reducible rfl)
  try simp only [Act.put, List.setIfInBounds_toArray, List.set_cons_zero, List.set_cons_succ]
  refine wpAnyZ_takeY (i := 4) (oi := { dst := some 60, op := Op.move (Operand.tmp 1), type := 9, pos := "disk.go:78", after := #[], guard := none }) (v := ?_) rfl (by kernel_rfl) (by kernel_rfl) (by kernel_rfl) (by rfl) (fun _ _ _ h => h) (Or.inl ⟨by rfl, ?_⟩) (by assumption) ?_
  rotate_left
  · (intro w; go_simp); (first | done | with_reducible rfl)
  try simp only [Act.put, List.setIfInBounds_toArray, List.set_cons_zero, List.set_cons_succ]
  refine wpAnyZ_take (i := 5) (oi := { dst := some 61, op := Op.load 93 (Operand.tmp 8), type := 93, pos := "disk.go:78", after := #[], guard := none }) (v := ?_) [6] rfl (by kernel_rfl) (by kernel_rfl) (by kernel_rfl) (by kernel_rfl) (fun _ _ _ h => h) (Or.inl ⟨by rfl, ?_⟩) (by assumption) ?_
  rotate_left
  · (intro w hSw; (try dsimp only at hSw); go_simp); (first | done | with_reducible rfl)
  try simp only [Act.put, List.setIfInBounds_toArray, List.set_cons_zero, List.set_cons_succ]
  refine wpAnyZ_ready (rs := [6]) (by kernel_rfl) (by simp) ?_
  refine AllReadyZ.last (o := { dst := none, op := Op.mapUpdate 41 (Operand.tmp 59) (Operand.tmp 60) (Operand.tmp 61), type := 0, pos := "disk.go:78", after := #[{ on := 3, ground := Ground.data }, { on := 4, ground := Ground.data }, { on := 5, ground := Ground.data }, { on := 0, ground := Ground.phase }, { on := 1, ground := Ground.phase }, { on := 2, ground := Ground.phase }, { on := 3, ground := Ground.phase }, { on := 4, ground := Ground.phase }, { on := 5, ground := Ground.phase }], guard := none }) rfl (fun K hK => ?_) AllReadyZ.nil
  refine step_put5 (f := (⟨nm, (Dk.get nm D.L).dat ++ s, (Dk.get nm D.L).safe⟩ : Dk.Fl)) (u := .slice a4 ((Dk.get nm D.L).dat.length + s.length) c4) (by rfl) _ _ _ (by rfl) (by rfl) (by rfl) (by rfl) HM5.out HLEN.out HL.out ?_
  intro w8 hm8 ht8
  refine hK.out _ _ ?_
  clear hK K
  refine wpAny_done (by kernel_rfl) ?_ _
  have HAS := Lib.hid (app_asm5 HI.out HO.out HFT.out HV.out HB2w.out HX.out (by rw [HXX.out]; exact Nat.le_refl _) HO4.out HG4.out HA4.out HW5.out hm8 ht8 (by omega))
  have HB8 := Lib.hid (HB5.out.wr (wr_turned (A := fun q => q = mb) ht8 rfl) (fun e => HI3.out.co.ne e.symm))
  have HSZ8 := Lib.hid (Nat.le_trans (Nat.le_trans (show w.heap.size ≤ W3.heap.size from HB2.out.size) (Nat.le_trans HG4.out.size HW5.out.size)) (show W7.heap.size ≤ w8.heap.size from (wr_turned (A := fun q => q = mb) ht8 rfl).size))
  clear hm8 ht8 hHeld
  have b1 : w8.cell? ⟨d, 1, none⟩ = some (.int .i64 (Dk.size D.L)) := HB8.out.cell 1
  have bf : ∀ j, w8.frozen? ⟨d, j, none⟩ = false := fun j => HB8.out.free j
  go_wp2_with fail
  have HSZ9 := Lib.hid (show w.heap.size ≤ (w8.setCell ⟨d, 1, none⟩ (.int .i64 ((Dk.size D.L : Int) + (s.length : Int)))).heap.size from by simp only [World.setCell, Array.size_modify]; exact HSZ8.out)
  generalize (w8.setCell ⟨d, 1, none⟩ (.int .i64 ((Dk.size D.L : Int) + (s.length : Int)))) = W9 at *
  clear b1 bf e1
  have CK := Lib.hid (struck5 HAS.out.1 HBD.out HBM.out HOK.out)
  with_reducible refine CK.out.mono ?_
  rintro e W10 ⟨rfl, hR, hW10⟩
  have HRA := Lib.hid (strR_at ⟨rfl, hR, hW10⟩ HOK.out HSZ9.out HBw.out HFBw.out HAS.out.2.1)
  have HRW := Lib.hid (strR_wr ⟨rfl, hR, hW10⟩ HAS.out.2.2 HAS.out.2.1)
  clear hR hW10
  generalize hst : (Dk.struck { D with L := Dk.put ⟨nm, (Dk.get nm D.L).dat ++ s, (Dk.get nm D.L).safe⟩ D.L }).1 = bb at *
  clear hst
  cases bb with
  | true =>
    go_wp2_with fail
    go_ret
    exact ⟨by rw [HE.out]; rfl, by rw [HE.out]; exact HRA.out, HRW.out⟩
  | false =>
    go_wp2_with fail
    go_ret
    exact ⟨by rw [HE.out]; rfl, by rw [HE.out]; exact HRA.out, HRW.out⟩
set_option maxRecDepth 100000 in
set_option maxHeartbeats 4000000 in
theorem append_new5 (h : DkAt B F d D w) (hB : B ≤ w.heap.size) (nm s : List UInt8) (hl : nm.length ≤ 140737488351232) (hs : s.length ≤ 140737488351232) (hu : D.up = true) (hn : Dk.named nm = true) (hh : Dk.has nm D.L = false) (hfe : D.L.length ≠ 1024) (hfi : Dk.size D.L + s.length ≤ D.room) : Calls Try.prog 32 #[.pointer (some ⟨d, 0, none⟩), .string (S nm), .string (S s)] w (OpR B F d (Dk.append nm s D) w) := by
  have CS := Lib.hid (state5 h)
  have CN := Lib.hid (named5 nm hl w)
  have hst : stE D = 0 := by unfold stE; rw [hu]; rfl
  rw [hst] at CS
  rw [hn] at CN
  have HE := Lib.hid (show Dk.append nm s D = (if (Dk.struck { D with L := Dk.put ⟨nm, (Dk.get nm D.L).dat ++ s, (Dk.get nm D.L).safe⟩ D.L }).1 then 51 else 0, (Dk.struck { D with L := Dk.put ⟨nm, (Dk.get nm D.L).dat ++ s, (Dk.get nm D.L).safe⟩ D.L }).2) from by
    unfold Dk.append; rw [if_neg (by rw [hu]; simp), if_neg (by rw [hn]; simp), if_neg (by rw [hh]; simp; omega)])
  have HOK := Lib.hid (Dk.put_ok5 h.ok (f := ⟨nm, (Dk.get nm D.L).dat ++ s, (Dk.get nm D.L).safe⟩) hn (by have := Dk.get_safe h.ok.l nm; simp; omega) (.inr hfe) (by simp; omega))
  obtain ⟨hO, mb, V, sv, c, hI, hFt, hFB⟩ := h
  have HO := Lib.hid hO
  have HI := Lib.hid hI
  have HFT := Lib.hid hFt
  have HFB := Lib.hid hFB
  have HBs := Lib.hid hB
  obtain ⟨vo, vc, hv⟩ := row_shape5 (hI.vrow nm)
  have hvr := hI.vrow nm
  rw [hv] at hvr
  have HVR := Lib.hid hvr
  have HV := Lib.hid hv
  have HL := Lib.hid hl
  have HM := Lib.hid hI.map
  have c2 : w.cell? ⟨d, 2, none⟩ = some (.map (some mb)) := hI.box.cell 2
  have hrm := hO.room
  have hms := hO.most
  have hfw := hO.few
  have hgz := Dk.get_size hO.l nm
  have hgs := Dk.get_safe hO.l nm
  have e1 : IntKind.i64.wrap ((D.room : Int) - (Dk.size D.L : Int)) = (D.room : Int) - (Dk.size D.L : Int) := IntWalk.i64_in _ (by omega)
  obtain ⟨i0, hi, hz0, hz1, hz2⟩ := info_parts infoB5
  have d2 : ((D.L.length : Int) == 1024) = false := by simp; omega
  have d1 : decide ((D.room : Int) - (Dk.size D.L : Int) < (s.length : Int)) = false := by simp; omega
  have HH := Lib.hid hh
  have HLEN := Lib.hid (show D.L.length ≤ 100000 from by omega)
  have HBD := Lib.hid (show B ≤ d from (hFB d (hFt d (.inl rfl))).1)
  have HBM := Lib.hid (show B ≤ mb from (hFB mb (hFt mb (.inr (.inl rfl)))).1)
  clear hO hI hFt hFB hB hv hvr hl hs hu hst hn hh
  go_enter Try.func32, Try.ntmps32
  go_wp2_with fail
  with_reducible refine CS.out.mono ?_
  rintro e w1 ⟨rfl, rfl⟩
  go_wp2_with fail
  with_reducible refine CN.out.mono ?_
  rintro e w1 ⟨rfl, rfl⟩
  go_wp2_with (at_lookup; refine wpList_look_ok5 _ rfl _ _ rfl rfl rfl HM.out HL.out _ HV.out ?_; rw [HH.out])
  have HX := Lib.hid (bk_new #[.slice vo (Dk.get nm D.L).dat.length vc, .int .i64 (Dk.get nm D.L).safe] 93 w)
  have HI2 := Lib.hid (HI.out.below ((Below.refl _ _).alloc (Nat.le_refl _) (.cells #[.slice vo (Dk.get nm D.L).dat.length vc, .int .i64 (Dk.get nm D.L).safe] 93)))
  have HB2 := Lib.hid ((Below.refl w.heap.size w).alloc (Nat.le_refl _) (.cells #[.slice vo (Dk.get nm D.L).dat.length vc, .int .i64 (Dk.get nm D.L).safe] 93))
  have HVR2 := Lib.hid (row_below5 HVR.out ((Below.refl w.heap.size w).alloc (Nat.le_refl _) (.cells #[.slice vo (Dk.get nm D.L).dat.length vc, .int .i64 (Dk.get nm D.L).safe] 93)))
  generalize (w.alloc (.cells #[.slice vo (Dk.get nm D.L).dat.length vc, .int .i64 (Dk.get nm D.L).safe] 93)) = W2 at *
  clear c2
  generalize hXX : w.heap.size = X at *
  have HXX := Lib.hid hXX
  clear hXX
  have HBw := Lib.hid (show B ≤ w.heap.size from by rw [HXX.out]; exact HBs.out)
  have HFBw := Lib.hid (show ∀ b, F b → B ≤ b ∧ b < w.heap.size from by rw [HXX.out]; exact HFB.out)
  have hln := HI2.out.map.len Try.underlying41 3
  rw [datM_size] at hln
  have HLN := Lib.hid hln
  clear hln
  refine wp_region_held_drew (S := fun W => W.cell? ⟨d, 2, none⟩ = some (.map (some mb)) ∧ W.cell? ⟨d, 0, none⟩ = some (.int .i64 D.room) ∧ W.cell? ⟨d, 1, none⟩ = some (.int .i64 (Dk.size D.L)) ∧ (Builtin.len_ #[41] 3 #[.map (some mb)]).run Try.prog W = .ok (.int .i64 D.L.length) W) (by kernel_rfl) ?_ (fun hHeld => ?_)
  · exact ⟨HI2.out.box.cell 2, HI2.out.box.cell 0, HI2.out.box.cell 1, by have h9 := (HI2.out.co.drew).map.len Try.underlying41 3; rw [datM_size] at h9; exact h9⟩
  replace HX := Lib.hid HX.out.drew
  have HI3 := Lib.hid (HI2.out.below ((Below.refl _ W2).drew))
  replace HB2 := Lib.hid (show Below X w W2.drew from HB2.out.drew)
  replace HVR2 := Lib.hid (row_below5 HVR2.out ((Below.refl _ W2).drew))
  obtain ⟨W3, hW3⟩ : ∃ x, x = World.drew W2 := ⟨_, rfl⟩
  rw [← hW3] at HX HI3 HB2 HVR2 hHeld ⊢
  clear hW3 HI2 HLN
  have HB2w := Lib.hid (show Below w.heap.size w W3 from by rw [HXX.out]; exact HB2.out)
  refine wpAnyH_take (i := 0) (oi := { dst := some 27, op := Op.move (Operand.tmp 9), type := 4, pos := "disk.go:74", after := #[], guard := none }) (v := ?_) rfl (by kernel_rfl) (by kernel_rfl) (by kernel_rfl) (fun _ _ _ h => h) (Or.inl ⟨by rfl, ?_⟩) (by assumption) ?_
  rotate_left
  · (intro w hSw; (try dsimp only at hSw); go_simp); (first | done | with_reducible rfl)
  try simp only [Act.put, List.setIfInBounds_toArray, List.set_cons_zero, List.set_cons_succ]
  refine wpAnyH_take (i := 1) (oi := { dst := some 28, op := Op.unOp UnOp.not 4 (Operand.tmp 27), type := 4, pos := "disk.go:74", after := #[{ on := 0, ground := Ground.data }], guard := none }) (v := ?_) rfl (by kernel_rfl) (by kernel_rfl) (by kernel_rfl) (fun _ _ _ h => h) (Or.inl ⟨by rfl, ?_⟩) (by assumption) ?_
  rotate_left
  · (intro w hSw; (try dsimp only at hSw); go_simp); (first | done | with_reducible rfl)
  try simp only [Act.put, List.setIfInBounds_toArray, List.set_cons_zero, List.set_cons_succ]
  refine wpAnyH_take (i := 2) (oi := { dst := some 29, op := Op.move (Operand.tmp 28), type := 4, pos := "disk.go:74", after := #[{ on := 1, ground := Ground.data }], guard := none }) (v := ?_) rfl (by kernel_rfl) (by kernel_rfl) (by kernel_rfl) (fun _ _ _ h => h) (Or.inl ⟨by rfl, ?_⟩) (by assumption) ?_
  rotate_left
  · (intro w hSw; (try dsimp only at hSw); go_simp); (first | done | with_reducible rfl)
  try simp only [Act.put, List.setIfInBounds_toArray, List.set_cons_zero, List.set_cons_succ]
  refine wpAnyH_take (i := 3) (oi := { dst := some 30, op := Op.move (Operand.tmp 0), type := 24, pos := "disk.go:74", after := #[{ on := 2, ground := Ground.guard }], guard := some (2, true) }) (v := ?_) rfl (by kernel_rfl) (by kernel_rfl) (by kernel_rfl) (fun _ _ _ h => h) (Or.inl ⟨by rfl, ?_⟩) (by assumption) ?_
  rotate_left
  · (intro w hSw; (try dsimp only at hSw); go_simp); (first | done | with_reducible rfl)
  try simp only [Act.put, List.setIfInBounds_toArray, List.set_cons_zero, List.set_cons_succ]
  refine wpAnyH_take (i := 4) (oi := { dst := some 31, op := Op.nilCheck (Operand.tmp 30), type := 0, pos := "disk.go:74", after := #[{ on := 3, ground := Ground.data }, { on := 2, ground := Ground.guard }], guard := some (2, true) }) (v := ?_) rfl (by kernel_rfl) (by kernel_rfl) (by kernel_rfl) (fun _ _ _ h => h) (Or.inl ⟨by rfl, ?_⟩) (by assumption) ?_
  rotate_left
  · (intro w hSw; (try dsimp only at hSw); go_simp); (first | done | with_reducible rfl)
  try simp only [Act.put, List.setIfInBounds_toArray, List.set_cons_zero, List.set_cons_succ]
  refine wpAnyH_take (i := 5) (oi := { dst := some 32, op := Op.fieldAddr 43 (Operand.tmp 31) 2, type := 0, pos := "disk.go:74", after := #[{ on := 4, ground := Ground.data }, { on := 2, ground := Ground.guard }], guard := some (2, true) }) (v := ?_) rfl (by kernel_rfl) (by kernel_rfl) (by kernel_rfl) (fun _ _ _ h => h) (Or.inl ⟨by rfl, ?_⟩) (by assumption) ?_
  rotate_left
  · (intro w hSw; (try dsimp only at hSw); go_simp); (first | done | with_reducible rfl)
  try simp only [Act.put, List.setIfInBounds_toArray, List.set_cons_zero, List.set_cons_succ]
  refine wpAnyH_take (i := 6) (oi := { dst := some 33, op := Op.load 41 (Operand.tmp 32), type := 41, pos := "disk.go:74", after := #[{ on := 5, ground := Ground.data }, { on := 2, ground := Ground.guard }], guard := some (2, true) }) (v := ?_) rfl (by kernel_rfl) (by kernel_rfl) (by kernel_rfl) (fun _ _ _ h => h) (Or.inl ⟨by rfl, ?_⟩) (by assumption) ?_
  rotate_left
  · (intro w hSw; (try dsimp only at hSw); go_simp); (first | done | with_reducible rfl)
  try simp only [Act.put, List.setIfInBounds_toArray, List.set_cons_zero, List.set_cons_succ]
  refine wpAnyH_take (i := 7) (oi := { dst := some 34, op := Op.call { callee := Callee.builtin Builtin.len, args := #[Operand.tmp 33], argTypes := #[41] }, type := 3, pos := "disk.go:74", after := #[{ on := 6, ground := Ground.data }, { on := 2, ground := Ground.chain }, { on := 2, ground := Ground.guard }], guard := some (2, true) }) (v := ?_) rfl (by kernel_rfl) (by kernel_rfl) (by kernel_rfl) (fun _ _ _ h => h) (Or.inl ⟨by rfl, ?_⟩) (by assumption) ?_
  rotate_left
  · (intro w hSw; (try dsimp only at hSw); go_simp); (first | done | with_reducible rfl)
  try simp only [Act.put, List.setIfInBounds_toArray, List.set_cons_zero, List.set_cons_succ]
  refine wpAnyH_take (i := 8) (oi := { dst := some 35, op := Op.binOp BinOp.eql 3 (Operand.tmp 34) (Operand.const (Value.int IntKind.i64 1024)) 3, type := 4, pos := "disk.go:74", after := #[{ on := 7, ground := Ground.data }, { on := 2, ground := Ground.guard }], guard := some (2, true) }) (v := ?_) rfl (by kernel_rfl) (by kernel_rfl) (by kernel_rfl) (fun _ _ _ h => h) (Or.inl ⟨by rfl, ?_⟩) (by assumption) ?_
  rotate_left
  · (intro w hSw; (try dsimp only at hSw); go_simp); (first | done | with_reducible rfl)
  try simp only [Act.put, List.setIfInBounds_toArray, List.set_cons_zero, List.set_cons_succ]
  refine wpAnyH_take (i := 9) (oi := { dst := some 36, op := Op.pick (Operand.tmp 29) (Operand.tmp 35) (Operand.const (Value.bool false)), type := 4, pos := "disk.go:74", after := #[{ on := 2, ground := Ground.data }, { on := 8, ground := Ground.data }], guard := none }) (v := ?_) rfl (by kernel_rfl) (by kernel_rfl) (by kernel_rfl) (fun _ _ _ h => h) (Or.inl ⟨by rfl, ?_⟩) (by assumption) ?_
  rotate_left
  · (intro w hSw; (try dsimp only at hSw); go_simp); (first | done | with_reducible rfl)
  try simp only [Act.put, List.setIfInBounds_toArray, List.set_cons_zero, List.set_cons_succ]
  refine wpAnyH_take (i := 10) (oi := { dst := some 37, op := Op.move (Operand.tmp 36), type := 4, pos := "disk.go:74", after := #[{ on := 9, ground := Ground.data }, { on := 7, ground := Ground.chain }], guard := none }) (v := ?_) rfl (by kernel_rfl) (by kernel_rfl) (by kernel_rfl) (fun _ _ _ h => h) (Or.inl ⟨by rfl, ?_⟩) (by assumption) ?_
  rotate_left
  · (intro w hSw; (try dsimp only at hSw); go_simp); (first | done | with_reducible rfl)
  try simp only [Act.put, List.setIfInBounds_toArray, List.set_cons_zero, List.set_cons_succ]
  refine wpAnyH_take (i := 11) (oi := { dst := some 38, op := Op.move (Operand.tmp 2), type := 9, pos := "disk.go:74", after := #[{ on := 10, ground := Ground.guard }], guard := some (10, false) }) (v := ?_) rfl (by kernel_rfl) (by kernel_rfl) (by kernel_rfl) (fun _ _ _ h => h) (Or.inl ⟨by rfl, ?_⟩) (by assumption) ?_
  rotate_left
  · (intro w hSw; (try dsimp only at hSw); go_simp); (first | done | with_reducible rfl)
  try simp only [Act.put, List.setIfInBounds_toArray, List.set_cons_zero, List.set_cons_succ]
  refine wpAnyH_take (i := 12) (oi := { dst := some 39, op := Op.call { callee := Callee.builtin Builtin.len, args := #[Operand.tmp 38], argTypes := #[9] }, type := 3, pos := "disk.go:74", after := #[{ on := 11, ground := Ground.data }, { on := 10, ground := Ground.guard }], guard := some (10, false) }) (v := ?_) rfl (by kernel_rfl) (by kernel_rfl) (by kernel_rfl) (fun _ _ _ h => h) (Or.inl ⟨by rfl, ?_⟩) (by assumption) ?_
  rotate_left
  · (intro w hSw; (try dsimp only at hSw); go_simp); (first | done | with_reducible rfl)
  try simp only [Act.put, List.setIfInBounds_toArray, List.set_cons_zero, List.set_cons_succ]
  refine wpAnyH_take (i := 13) (oi := { dst := some 40, op := Op.move (Operand.tmp 0), type := 24, pos := "disk.go:74", after := #[{ on := 10, ground := Ground.guard }], guard := some (10, false) }) (v := ?_) rfl (by kernel_rfl) (by kernel_rfl) (by kernel_rfl) (fun _ _ _ h => h) (Or.inl ⟨by rfl, ?_⟩) (by assumption) ?_
  rotate_left
  · (intro w hSw; (try dsimp only at hSw); go_simp); (first | done | with_reducible rfl)
  try simp only [Act.put, List.setIfInBounds_toArray, List.set_cons_zero, List.set_cons_succ]
  refine wpAnyH_take (i := 14) (oi := { dst := some 41, op := Op.nilCheck (Operand.tmp 40), type := 0, pos := "disk.go:74", after := #[{ on := 13, ground := Ground.data }, { on := 10, ground := Ground.guard }], guard := some (10, false) }) (v := ?_) rfl (by kernel_rfl) (by kernel_rfl) (by kernel_rfl) (fun _ _ _ h => h) (Or.inl ⟨by rfl, ?_⟩) (by assumption) ?_
  rotate_left
  · (intro w hSw; (try dsimp only at hSw); go_simp); (first | done | with_reducible rfl)
  try simp only [Act.put, List.setIfInBounds_toArray, List.set_cons_zero, List.set_cons_succ]
  refine wpAnyH_take (i := 15) (oi := { dst := some 42, op := Op.fieldAddr 43 (Operand.tmp 41) 0, type := 0, pos := "disk.go:74", after := #[{ on := 14, ground := Ground.data }, { on := 10, ground := Ground.guard }], guard := some (10, false) }) (v := ?_) rfl (by kernel_rfl) (by kernel_rfl) (by kernel_rfl) (fun _ _ _ h => h) (Or.inl ⟨by rfl, ?_⟩) (by assumption) ?_
  rotate_left
  · (intro w hSw; (try dsimp only at hSw); go_simp); (first | done | with_reducible rfl)
  try simp only [Act.put, List.setIfInBounds_toArray, List.set_cons_zero, List.set_cons_succ]
  refine wpAnyH_take (i := 16) (oi := { dst := some 43, op := Op.load 3 (Operand.tmp 42), type := 3, pos := "disk.go:74", after := #[{ on := 15, ground := Ground.data }, { on := 10, ground := Ground.guard }], guard := some (10, false) }) (v := ?_) rfl (by kernel_rfl) (by kernel_rfl) (by kernel_rfl) (fun _ _ _ h => h) (Or.inl ⟨by rfl, ?_⟩) (by assumption) ?_
  rotate_left
  · (intro w hSw; (try dsimp only at hSw); go_simp); (first | done | with_reducible rfl)
  try simp only [Act.put, List.setIfInBounds_toArray, List.set_cons_zero, List.set_cons_succ]
  refine wpAnyH_take (i := 17) (oi := { dst := some 44, op := Op.move (Operand.tmp 0), type := 24, pos := "disk.go:74", after := #[{ on := 10, ground := Ground.guard }], guard := some (10, false) }) (v := ?_) rfl (by kernel_rfl) (by kernel_rfl) (by kernel_rfl) (fun _ _ _ h => h) (Or.inl ⟨by rfl, ?_⟩) (by assumption) ?_
  rotate_left
  · (intro w hSw; (try dsimp only at hSw); go_simp); (first | done | with_reducible rfl)
  try simp only [Act.put, List.setIfInBounds_toArray, List.set_cons_zero, List.set_cons_succ]
  refine wpAnyH_take (i := 18) (oi := { dst := some 45, op := Op.nilCheck (Operand.tmp 44), type := 0, pos := "disk.go:74", after := #[{ on := 17, ground := Ground.data }, { on := 10, ground := Ground.guard }], guard := some (10, false) }) (v := ?_) rfl (by kernel_rfl) (by kernel_rfl) (by kernel_rfl) (fun _ _ _ h => h) (Or.inl ⟨by rfl, ?_⟩) (by assumption) ?_
  rotate_left
  · (intro w hSw; (try dsimp only at hSw); go_simp); (first | done | with_reducible rfl)
  try simp only [Act.put, List.setIfInBounds_toArray, List.set_cons_zero, List.set_cons_succ]
  refine wpAnyH_take (i := 19) (oi := { dst := some 46, op := Op.fieldAddr 43 (Operand.tmp 45) 1, type := 0, pos := "disk.go:74", after := #[{ on := 18, ground := Ground.data }, { on := 10, ground := Ground.guard }], guard := some (10, false) }) (v := ?_) rfl (by kernel_rfl) (by kernel_rfl) (by kernel_rfl) (fun _ _ _ h => h) (Or.inl ⟨by rfl, ?_⟩) (by assumption) ?_
  rotate_left
  · (intro w hSw; (try dsimp only at hSw); go_simp); (first | done | with_reducible rfl)
  try simp only [Act.put, List.setIfInBounds_toArray, List.set_cons_zero, List.set_cons_succ]
  refine wpAnyH_take (i := 20) (oi := { dst := some 47, op := Op.load 3 (Operand.tmp 46), type := 3, pos := "disk.go:74", after := #[{ on := 19, ground := Ground.data }, { on := 10, ground := Ground.guard }], guard := some (10, false) }) (v := ?_) rfl (by kernel_rfl) (by kernel_rfl) (by kernel_rfl) (fun _ _ _ h => h) (Or.inl ⟨by rfl, ?_⟩) (by assumption) ?_
  rotate_left
  · (intro w hSw; (try dsimp only at hSw); go_simp); (first | done | with_reducible rfl)
  try simp only [Act.put, List.setIfInBounds_toArray, List.set_cons_zero, List.set_cons_succ]
  refine wpAnyH_take (i := 21) (oi := { dst := some 48, op := Op.binOp BinOp.sub 3 (Operand.tmp 43) (Operand.tmp 47) 3, type := 3, pos := "disk.go:74", after := #[{ on := 16, ground := Ground.data }, { on := 20, ground := Ground.data }, { on := 10, ground := Ground.guard }], guard := some (10, false) }) (v := ?_) rfl (by kernel_rfl) (by kernel_rfl) (by kernel_rfl) (fun _ _ _ h => h) (Or.inl ⟨by rfl, ?_⟩) (by assumption) ?_
  rotate_left
  · (intro w hSw; (try dsimp only at hSw); go_simp); (first | done | with_reducible rfl)
  try simp only [Act.put, List.setIfInBounds_toArray, List.set_cons_zero, List.set_cons_succ]
  refine wpAnyH_take (i := 22) (oi := { dst := some 49, op := Op.binOp BinOp.gtr 3 (Operand.tmp 39) (Operand.tmp 48) 3, type := 4, pos := "disk.go:74", after := #[{ on := 12, ground := Ground.data }, { on := 21, ground := Ground.data }, { on := 10, ground := Ground.guard }], guard := some (10, false) }) (v := ?_) rfl (by kernel_rfl) (by kernel_rfl) (by kernel_rfl) (fun _ _ _ h => h) (Or.inl ⟨by rfl, ?_⟩) (by assumption) ?_
  rotate_left
  · (intro w hSw; (try dsimp only at hSw); go_simp); (first | done | with_reducible rfl)
  try simp only [Act.put, List.setIfInBounds_toArray, List.set_cons_zero, List.set_cons_succ]
  refine wpAnyH_take (i := 23) (oi := { dst := some 50, op := Op.pick (Operand.tmp 37) (Operand.const (Value.bool true)) (Operand.tmp 49), type := 4, pos := "disk.go:74", after := #[{ on := 10, ground := Ground.data }, { on := 22, ground := Ground.data }], guard := none }) (v := ?_) rfl (by kernel_rfl) (by kernel_rfl) (by kernel_rfl) (fun _ _ _ h => h) (Or.inl ⟨by rfl, ?_⟩) (by assumption) ?_
  rotate_left
  · (intro w hSw; (try dsimp only at hSw); go_simp); (first | done | with_reducible rfl)
  refine wpAnyH_done (by kernel_rfl) ?_ _
  clear hHeld
  have x0 : W3.cell? ⟨X, 0, none⟩ = some (.slice vo (Dk.get nm D.L).dat.length vc) := HX.out.cell 0
  have xf : ∀ j, W3.frozen? ⟨X, j, none⟩ = false := fun j => HX.out.free j
  go_wp2_with (at_builtin; refine wpList_app_str5 _ rfl _ _ 68 9 rfl B 5 i0 Try.underlying68 Try.underlying9 hi hz0 hz1 hz2 (.slice vo (Dk.get nm D.L).dat.length vc) (Dk.get nm D.L).dat.length _ rfl HVR2.out s rfl (by omega) (Nat.le_trans HBw.out HB2.out.size) ?_; intro v4 w4 ho4 hg4 ha4; obtain ⟨a4, c4, rfl⟩ := row_shape5 ho4; have HO4 := Lib.hid ho4; have HG4 := Lib.hid hg4; have HA4 := Lib.hid ha4; have HX4 := Lib.hid (HX.out.grown hg4 (fun e => bk_row HX.out HVR2.out (by decide) X e.symm rfl)); have y0 : w4.cell? ⟨X, 0, none⟩ = some (.slice vo (Dk.get nm D.L).dat.length vc) := HX4.out.cell 0; have yf : ∀ j, w4.frozen? ⟨X, j, none⟩ = false := fun j => HX4.out.free j; clear ho4 hg4 ha4 x0 xf)
  have HX5 := Lib.hid (HX4.out.set 0 (.slice a4 ((Dk.get nm D.L).dat.length + s.length) c4))
  have HW5 := Lib.hid (show Wr (fun q => q = X) w4 (w4.setCell ⟨X, 0, none⟩ (.slice a4 ((Dk.get nm D.L).dat.length + s.length) c4)) from wr_set _ _ _ rfl)
  generalize (w4.setCell ⟨X, 0, none⟩ (.slice a4 ((Dk.get nm D.L).dat.length + s.length) c4)) = W5 at *
  clear y0 yf
  have HGW := Lib.hid (show Wr (fun q => (Value.slice vo (Dk.get nm D.L).dat.length vc).ownBlock = some q) W3 w4 from wr_grown HG4.out (fun q hq => .inl hq))
  have HMX := Lib.hid (map_bk5 HI3.out.map HX.out)
  have HXD := Lib.hid (show d ≠ X from fun e => by have h1 := HX.out; have h2 := HI3.out.box; unfold Bk at h1 h2; rw [e, h1] at h2; simp at h2)
  have HM5 := Lib.hid (map_wr (map_wr HI3.out.map HGW.out (fun hq => map_row5 HI3.out.map HVR2.out mb hq rfl)) HW5.out HMX.out)
  have HB5 := Lib.hid ((HI3.out.box.wr HGW.out (fun hq => bk_row HI3.out.box HVR2.out (by decide) d hq rfl)).wr HW5.out HXD.out)
  have HS2 := Lib.hid (show W5.cell? ⟨d, 2, none⟩ = some (.map (some mb)) from HB5.out.cell 2)
  have HS0 := Lib.hid (show W5.cell? ⟨X, 0, none⟩ = some (.slice a4 ((Dk.get nm D.L).dat.length + s.length) c4) from HX5.out.cell 0)
  have HS1 := Lib.hid (show W5.cell? ⟨X, 1, none⟩ = some (.int .i64 (Dk.get nm D.L).safe) from HX5.out.cell 1)
  refine wp_region_Z (S := fun V => V.cell? ⟨d, 2, none⟩ = some (.map (some mb)) ∧ V.cell? ⟨X, 0, none⟩ = some (.slice a4 ((Dk.get nm D.L).dat.length + s.length) c4) ∧ V.cell? ⟨X, 1, none⟩ = some (.int .i64 (Dk.get nm D.L).safe)) 6 (by kernel_rfl) ?_ (fun hHeld => ?_)
  · exact ⟨HS2.out, HS0.out, HS1.out⟩
  replace HM5 := Lib.hid HM5.out.drew
  replace HB5 := Lib.hid HB5.out.drew
  replace HW5 := Lib.hid HW5.out.drew
  obtain ⟨W7, hW7⟩ : ∃ x, x = World.drew W5 := ⟨_, rfl⟩
  rw [← hW7] at HM5 HB5 HW5 hHeld ⊢
  clear hW7
  refine wpAnyZ_takeY (i := 0) (oi := { dst := some 56, op := Op.move (Operand.tmp 0), type := 24, pos := "disk.go:78", after := #[], guard := none }) (v := ?_) rfl (by kernel_rfl) (by kernel_rfl) (by kernel_rfl) (by rfl) (fun _ _ _ h => h) (Or.inl ⟨by rfl, ?_⟩) (by assumption) ?_
  rotate_left
  · (intro w; go_simp); (first | done | with_reducible rfl)
  try simp only [Act.put, List.setIfInBounds_toArray, List.set_cons_zero, List.set_cons_succ]
  refine wpAnyZ_takeY (i := 1) (oi := { dst := some 57, op := Op.nilCheck (Operand.tmp 56), type := 0, pos := "disk.go:78", after := #[{ on := 0, ground := Ground.data }], guard := none }) (v := ?_) rfl (by kernel_rfl) (by kernel_rfl) (by kernel_rfl) (by rfl) (fun _ _ _ h => h) (Or.inl ⟨by rfl, ?_⟩) (by assumption) ?_
  rotate_left
  · (intro w; go_simp); (first | done | with_reducible rfl)
  try simp only [Act.put, List.setIfInBounds_toArray, List.set_cons_zero, List.set_cons_succ]
  refine wpAnyZ_takeY (i := 2) (oi := { dst := some 58, op := Op.fieldAddr 43 (Operand.tmp 57) 2, type := 0, pos := "disk.go:78", after := #[{ on := 1, ground := Ground.data }], guard := none }) (v := ?_) rfl (by kernel_rfl) (by kernel_rfl) (by kernel_rfl) (by rfl) (fun _ _ _ h => h) (Or.inl ⟨by rfl, ?_⟩) (by assumption) ?_
  rotate_left
  · (intro w; go_simp); (first | done | with_reducible rfl)
  try simp only [Act.put, List.setIfInBounds_toArray, List.set_cons_zero, List.set_cons_succ]
  refine wpAnyZ_take (i := 3) (oi := { dst := some 59, op := Op.load 41 (Operand.tmp 58), type := 41, pos := "disk.go:78", after := #[{ on := 2, ground := Ground.data }], guard := none }) (v := ?_) [6] rfl (by kernel_rfl) (by kernel_rfl) (by kernel_rfl) (by kernel_rfl) (fun _ _ _ h => h) (Or.inl ⟨by rfl, ?_⟩) (by assumption) ?_
  rotate_left
  · (intro w hSw; (try dsimp only at hSw); go_simp); (first | done | with_reducible rfl)
  try simp only [Act.put, List.setIfInBounds_toArray, List.set_cons_zero, List.set_cons_succ]
  refine wpAnyZ_takeY (i := 4) (oi := { dst := some 60, op := Op.move (Operand.tmp 1), type := 9, pos := "disk.go:78", after := #[], guard := none }) (v := ?_) rfl (by kernel_rfl) (by kernel_rfl) (by kernel_rfl) (by rfl) (fun _ _ _ h => h) (Or.inl ⟨by rfl, ?_⟩) (by assumption) ?_
  rotate_left
  · (intro w; go_simp); (first | done | with_reducible rfl)
  try simp only [Act.put, List.setIfInBounds_toArray, List.set_cons_zero, List.set_cons_succ]
  refine wpAnyZ_take (i := 5) (oi := { dst := some 61, op := Op.load 93 (Operand.tmp 8), type := 93, pos := "disk.go:78", after := #[], guard := none }) (v := ?_) [6] rfl (by kernel_rfl) (by kernel_rfl) (by kernel_rfl) (by kernel_rfl) (fun _ _ _ h => h) (Or.inl ⟨by rfl, ?_⟩) (by assumption) ?_
  rotate_left
  · (intro w hSw; (try dsimp only at hSw); go_simp); (first | done | with_reducible rfl)
  try simp only [Act.put, List.setIfInBounds_toArray, List.set_cons_zero, List.set_cons_succ]
  refine wpAnyZ_ready (rs := [6]) (by kernel_rfl) (by simp) ?_
  refine AllReadyZ.last (o := { dst := none, op := Op.mapUpdate 41 (Operand.tmp 59) (Operand.tmp 60) (Operand.tmp 61), type := 0, pos := "disk.go:78", after := #[{ on := 3, ground := Ground.data }, { on := 4, ground := Ground.data }, { on := 5, ground := Ground.data }, { on := 0, ground := Ground.phase }, { on := 1, ground := Ground.phase }, { on := 2, ground := Ground.phase }, { on := 3, ground := Ground.phase }, { on := 4, ground := Ground.phase }, { on := 5, ground := Ground.phase }], guard := none }) rfl (fun K hK => ?_) AllReadyZ.nil
  refine step_put5 (f := (⟨nm, (Dk.get nm D.L).dat ++ s, (Dk.get nm D.L).safe⟩ : Dk.Fl)) (u := .slice a4 ((Dk.get nm D.L).dat.length + s.length) c4) (by rfl) _ _ _ (by rfl) (by rfl) (by rfl) (by rfl) HM5.out HLEN.out HL.out ?_
  intro w8 hm8 ht8
  refine hK.out _ _ ?_
  clear hK K
  refine wpAny_done (by kernel_rfl) ?_ _
  have HAS := Lib.hid (app_asm5 HI.out HO.out HFT.out HV.out HB2w.out HX.out (by rw [HXX.out]; exact Nat.le_refl _) HO4.out HG4.out HA4.out HW5.out hm8 ht8 (by omega))
  have HB8 := Lib.hid (HB5.out.wr (wr_turned (A := fun q => q = mb) ht8 rfl) (fun e => HI3.out.co.ne e.symm))
  have HSZ8 := Lib.hid (Nat.le_trans (Nat.le_trans (show w.heap.size ≤ W3.heap.size from HB2.out.size) (Nat.le_trans HG4.out.size HW5.out.size)) (show W7.heap.size ≤ w8.heap.size from (wr_turned (A := fun q => q = mb) ht8 rfl).size))
  clear hm8 ht8 hHeld
  have b1 : w8.cell? ⟨d, 1, none⟩ = some (.int .i64 (Dk.size D.L)) := HB8.out.cell 1
  have bf : ∀ j, w8.frozen? ⟨d, j, none⟩ = false := fun j => HB8.out.free j
  go_wp2_with fail
  have HSZ9 := Lib.hid (show w.heap.size ≤ (w8.setCell ⟨d, 1, none⟩ (.int .i64 ((Dk.size D.L : Int) + (s.length : Int)))).heap.size from by simp only [World.setCell, Array.size_modify]; exact HSZ8.out)
  generalize (w8.setCell ⟨d, 1, none⟩ (.int .i64 ((Dk.size D.L : Int) + (s.length : Int)))) = W9 at *
  clear b1 bf e1
  have CK := Lib.hid (struck5 HAS.out.1 HBD.out HBM.out HOK.out)
  with_reducible refine CK.out.mono ?_
  rintro e W10 ⟨rfl, hR, hW10⟩
  have HRA := Lib.hid (strR_at ⟨rfl, hR, hW10⟩ HOK.out HSZ9.out HBw.out HFBw.out HAS.out.2.1)
  have HRW := Lib.hid (strR_wr ⟨rfl, hR, hW10⟩ HAS.out.2.2 HAS.out.2.1)
  clear hR hW10
  generalize hst : (Dk.struck { D with L := Dk.put ⟨nm, (Dk.get nm D.L).dat ++ s, (Dk.get nm D.L).safe⟩ D.L }).1 = bb at *
  clear hst
  cases bb with
  | true =>
    go_wp2_with fail
    go_ret
    exact ⟨by rw [HE.out]; rfl, by rw [HE.out]; exact HRA.out, HRW.out⟩
  | false =>
    go_wp2_with fail
    go_ret
    exact ⟨by rw [HE.out]; rfl, by rw [HE.out]; exact HRA.out, HRW.out⟩
theorem append5 (h : DkAt B F d D w) (hB : B ≤ w.heap.size) (nm s : List UInt8) (hl : nm.length ≤ 140737488351232) (hs : s.length ≤ 140737488351232) : Calls Try.prog 32 #[.pointer (some ⟨d, 0, none⟩), .string (S nm), .string (S s)] w (OpR B F d (Dk.append nm s D) w) := by
  cases hu : D.up with
  | false => exact append_down5 h hB nm s hl hs hu
  | true =>
    cases hn : Dk.named nm with
    | false => exact append_bad5 h hB nm s hl hs hu hn
    | true =>
      by_cases hf : D.room < Dk.size D.L + s.length
      · cases hh : Dk.has nm D.L with
        | true => exact append_full5 h hB nm s hl hs hu hn hh hf
        | false =>
          by_cases h4 : D.L.length = 1024
          · exact append_many5 h hB nm s hl hs hu hn hh h4
          · exact append_fulln5 h hB nm s hl hs hu hn hh h4 hf
      · cases hh : Dk.has nm D.L with
        | true => exact append_more5 h hB nm s hl hs hu hn hh (by omega)
        | false =>
          by_cases h4 : D.L.length = 1024
          · exact append_many5 h hB nm s hl hs hu hn hh h4
          · exact append_new5 h hB nm s hl hs hu hn hh h4 (by omega)
end

end Go.Proofs.Ytekmnpmeienhhaa
