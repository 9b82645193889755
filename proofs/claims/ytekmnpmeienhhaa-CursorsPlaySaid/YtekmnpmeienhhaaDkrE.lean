/- Layer 5: the document's disk: Names, Unsynced. -/
import Derived.Test.YtekmnpmeienhhaaDkrB
namespace Go.Proofs.Ytekmnpmeienhhaa
set_option linter.unusedVariables false
open Go Go.RowKit Go.Maps

theorem infoStr5 : (Try.prog.info? 9).map (fun i => (i.zero, i.size, i.bytes)) = some (some (.string ⟨#[]⟩), 1, 16) := by kernel_rfl
theorem txs5_app (a b : List (List UInt8)) : txs5 (a ++ b) = txs5 a ++ txs5 b := by simp [txs5]
section
variable {B r : Nat} {c : Rc} {D : Dk.St} {w : World}
set_option maxRecDepth 100000 in
set_option maxHeartbeats 1000000 in
theorem rNames5 (h : RfIn B r c D w) : Calls Try.prog 63 #[.pointer (some ⟨r, 0, none⟩)] w (RowT (Dk.names D.L) w) := by
  obtain ⟨j0, hj, hy0, hy1, hy2⟩ := info_parts infoStr5
  have HI := Lib.hid h
  have hfew := h.few
  have HN := Lib.hid (show (Dk.names D.L).length = D.L.length from by simp [Dk.names])
  clear h
  go_enter Try.func63, Try.ntmps63
  go_wp2_with fail
  go_loopw [3, 4] (fun v i wr => ∃ (k : Nat) (bo : Option Addr) (bc : Nat), k ≤ D.L.length ∧ i = .int .i64 k ∧ v = .slice bo k bc ∧ Hid (wr.ownsRow w.heap.size 9 1 (.slice bo k bc) k (txs5 ((Dk.names D.L).take k)) ∧ Below w.heap.size w wr)) (fun _ i _ => D.L.length - (intOf i).toNat)
  case atStart => exact ⟨0, none, 0, Nat.zero_le _, rfl, rfl, Lib.hid ⟨World.ownsRow_nil _ _ _ _, Below.refl _ _⟩⟩
  case round =>
    rename_i wr
    obtain ⟨k, bo, bc, hk, rfl, rfl, HH⟩ := hrel
    have HI2 := Lib.hid (HI.out.below HH.out.2)
    obtain ⟨-, -, -, -, x4, -, -⟩ := HI2.out.s
    by_cases hlt : k < D.L.length
    · have d1 : decide ((k : Int) < (D.L.length : Int)) = true := by simp; omega
      have d1' : decide (k < D.L.length) = true := by simp; omega
      obtain ⟨g, hg, y0, -, -⟩ := row_file5 HI2.out.row rfl hlt
      rw [hg] at x4
      have hi1 : (0 : Int) ≤ (k : Int) := by omega
      have hi2 : (k : Int) < (D.L.length : Int) := by omega
      have HTK := Lib.hid (show txs5 ((Dk.names D.L).take (k + 1)) = txs5 ((Dk.names D.L).take k) ++ [.string (S (D.L[k]).name)] from by
        rw [take_snoc5 _ k (by rw [HN.out]; exact hlt), txs5_app]
        simp [txs5, Dk.names])
      clear HI2
      generalize (D.L[k]).name = u at *
      go_wp2_with (at_builtin; refine wpList_append_own _ rfl _ _ 46 rfl w.heap.size 9 j0 (.string ⟨#[]⟩) 1 16 Try.underlying46 hj hy0 hy1 hy2 rfl (by decide) (.slice bo k bc) k _ rfl (HH.out.1.alloc _) ⟨wr.heap.size, 0, none⟩ 1 1 [.string (S u)] rfl rfl (cell_one_new wr (.string (S u)) 9) (by simp [Value.oneCell']) (by unfold maxLen; omega) (by omega) (by have := HH.out.2.size; simp; omega) ?_; intro v8 w8 ho8 hg8 hn8; obtain ⟨a8, c8, rfl⟩ := row_shape5 ho8; have HO8 := Lib.hid (show w8.ownsRow w.heap.size 9 1 (.slice a8 (k + 1) c8) (k + 1) (txs5 ((Dk.names D.L).take (k + 1))) ∧ Below w.heap.size w w8 from ⟨by rw [HTK.out]; exact ho8, (HH.out.2.alloc HH.out.2.size _).grown hg8 (by have := HH.out.2.size; simp; omega) (fun q hq => (HH.out.1.lt q hq).1)⟩); clear ho8 hg8 hn8)
      go_roundw
      case rel => exact ⟨k + 1, a8, c8, by omega, by go_num, rfl, HO8⟩
      case measure => simp [intOf]; omega
    · have d1 : decide ((k : Int) < (D.L.length : Int)) = false := by simp; omega
      have d1' : decide (k < D.L.length) = false := by simp; omega
      obtain rfl : k = D.L.length := by omega
      have HFIN := Lib.hid (show (Dk.names D.L).take D.L.length = Dk.names D.L from by rw [← HN.out, List.take_length])
      go_wp2_with fail
      go_ret
      refine ⟨bo, bc, by rw [HN.out]; rfl, ?_, HH.out.2⟩
      have := HH.out.1
      rw [HFIN.out] at this
      rw [HN.out]
      exact this
set_option maxRecDepth 100000 in
set_option maxHeartbeats 1000000 in
theorem rUnsynced5 (h : RfIn B r c D w) : Calls Try.prog 64 #[.pointer (some ⟨r, 0, none⟩)] w (RowN (Dk.unsynced D.L) w) := by
  obtain ⟨j0, hj, hy0, hy1, hy2⟩ := info_parts infoInt5
  have HI := Lib.hid h
  have hfew := h.few
  have HN := Lib.hid (show (Dk.unsynced D.L).length = D.L.length from by simp [Dk.unsynced])
  have HS := Lib.hid (fun f hf => h.ok.safe f hf)
  have HZ := Lib.hid (fun f (hf : f ∈ D.L) => Nat.le_trans (Dk.mem_size h.ok hf) h.small)
  clear h
  go_enter Try.func64, Try.ntmps64
  go_wp2_with fail
  go_loopw [3, 4] (fun v i wr => ∃ (k : Nat) (bo : Option Addr) (bc : Nat), k ≤ D.L.length ∧ i = .int .i64 k ∧ v = .slice bo k bc ∧ Hid (wr.ownsRow w.heap.size 3 1 (.slice bo k bc) k (ints5 ((Dk.unsynced D.L).take k)) ∧ Below w.heap.size w wr)) (fun _ i _ => D.L.length - (intOf i).toNat)
  case atStart => exact ⟨0, none, 0, Nat.zero_le _, rfl, rfl, Lib.hid ⟨World.ownsRow_nil _ _ _ _, Below.refl _ _⟩⟩
  case round =>
    rename_i wr
    obtain ⟨k, bo, bc, hk, rfl, rfl, HH⟩ := hrel
    have HI2 := Lib.hid (HI.out.below HH.out.2)
    obtain ⟨-, -, -, -, x4, -, -⟩ := HI2.out.s
    by_cases hlt : k < D.L.length
    · have d1 : decide ((k : Int) < (D.L.length : Int)) = true := by simp; omega
      have d1' : decide (k < D.L.length) = true := by simp; omega
      obtain ⟨g, hg, -, y1, y2⟩ := row_file5 HI2.out.row rfl hlt
      rw [hg] at x4
      have hi1 : (0 : Int) ≤ (k : Int) := by omega
      have hi2 : (k : Int) < (D.L.length : Int) := by omega
      have hs := HS.out _ (List.getElem_mem hlt)
      have hz := HZ.out _ (List.getElem_mem hlt)
      have HTK := Lib.hid (show ints5 ((Dk.unsynced D.L).take (k + 1)) = ints5 ((Dk.unsynced D.L).take k) ++ [.int .i64 (((D.L[k]).dat.length : Int) - ((D.L[k]).safe : Int))] from by
        rw [take_snoc5 _ k (by rw [HN.out]; exact hlt), ints5_app]
        simp [ints5, Dk.unsynced])
      clear HI2
      generalize D.L[k] = fl at *
      have HCE := Lib.hid (show wr.cell? ⟨r, 4, none⟩ = some (.slice (some ⟨g, 0, none⟩) D.L.length c.c) ∧ wr.cell? ⟨g, k * 3 + 1, none⟩ = some (.string (S fl.dat)) ∧ wr.cell? ⟨g, k * 3 + 2, none⟩ = some (.int .i64 fl.safe) from ⟨x4, y1, y2⟩)
      have HSH := Lib.hid (show ∀ wx, Below wr.heap.size wr wx → wx.cell? ⟨r, 4, none⟩ = some (.slice (some ⟨g, 0, none⟩) D.L.length c.c) ∧ wx.cell? ⟨g, k * 3 + 1, none⟩ = some (.string (S fl.dat)) ∧ wx.cell? ⟨g, k * 3 + 2, none⟩ = some (.int .i64 fl.safe) from fun wx hx => ⟨(hx.cell (p := ⟨r, 4, none⟩) (cell_lt5 HCE.out.1)).trans HCE.out.1, (hx.cell (p := ⟨g, k * 3 + 1, none⟩) (cell_lt5 HCE.out.2.1)).trans HCE.out.2.1, (hx.cell (p := ⟨g, k * 3 + 2, none⟩) (cell_lt5 HCE.out.2.2)).trans HCE.out.2.2⟩)
      have e0 : IntKind.i64.wrap ((fl.dat.length : Int) - (fl.safe : Int)) = (fl.dat.length : Int) - (fl.safe : Int) := IntWalk.i64_in _ (by omega)
      go_upto_region 5 with fail
      have HB := Lib.hid (Below.refl wr.heap.size wr).drew
      have HO := Lib.hid (row_below5 HH.out.1 HB.out)
      refine wp_region_Z (S := fun V => V.cell? ⟨r, 4, none⟩ = some (.slice (some ⟨g, 0, none⟩) D.L.length c.c) ∧ V.cell? ⟨g, k * 3 + 1, none⟩ = some (.string (S fl.dat)) ∧ V.cell? ⟨g, k * 3 + 2, none⟩ = some (.int .i64 fl.safe)) 20 (by kernel_rfl) ?_ (fun hHeld => ?_)
      · exact HSH.out _ HB.out
      obtain ⟨wd, hwd⟩ : ∃ x, x = World.drew wr := ⟨_, rfl⟩
      rw [← hwd] at HB HO hHeld ⊢
      clear hwd x4 y1 y2
      refine wpAnyZ_takeY (i := 0) (oi := { dst := some 14, op := Op.move (Operand.tmp 3), type := 32, pos := "ref.go:197", after := #[], guard := none }) (v := ?_) rfl (by kernel_rfl) (by kernel_rfl) (by kernel_rfl) (by rfl) (fun _ _ _ h => h) (Or.inl ⟨by rfl, ?_⟩) (by assumption) ?_
      rotate_left
      · (intro w; go_simp); (first | done | with_reducible rfl)
      try simp only [Act.put, List.setIfInBounds_toArray, List.set_cons_zero, List.set_cons_succ]
      refine wpAnyZ_takeY (i := 1) (oi := { dst := some 15, op := Op.move (Operand.tmp 0), type := 28, pos := "ref.go:197", after := #[], guard := none }) (v := ?_) rfl (by kernel_rfl) (by kernel_rfl) (by kernel_rfl) (by rfl) (fun _ _ _ h => h) (Or.inl ⟨by rfl, ?_⟩) (by assumption) ?_
      rotate_left
      · (intro w; go_simp); (first | done | with_reducible rfl)
      try simp only [Act.put, List.setIfInBounds_toArray, List.set_cons_zero, List.set_cons_succ]
      refine wpAnyZ_takeY (i := 2) (oi := { dst := some 16, op := Op.nilCheck (Operand.tmp 15), type := 0, pos := "ref.go:197", after := #[{ on := 1, ground := Ground.data }], guard := none }) (v := ?_) rfl (by kernel_rfl) (by kernel_rfl) (by kernel_rfl) (by rfl) (fun _ _ _ h => h) (Or.inl ⟨by rfl, ?_⟩) (by assumption) ?_
      rotate_left
      · (intro w; go_simp); (first | done | with_reducible rfl)
      try simp only [Act.put, List.setIfInBounds_toArray, List.set_cons_zero, List.set_cons_succ]
      refine wpAnyZ_takeY (i := 3) (oi := { dst := some 17, op := Op.fieldAddr 91 (Operand.tmp 16) 4, type := 0, pos := "ref.go:197", after := #[{ on := 2, ground := Ground.data }], guard := none }) (v := ?_) rfl (by kernel_rfl) (by kernel_rfl) (by kernel_rfl) (by rfl) (fun _ _ _ h => h) (Or.inl ⟨by rfl, ?_⟩) (by assumption) ?_
      rotate_left
      · (intro w; go_simp); (first | done | with_reducible rfl)
      try simp only [Act.put, List.setIfInBounds_toArray, List.set_cons_zero, List.set_cons_succ]
      refine wpAnyZ_take (i := 4) (oi := { dst := some 18, op := Op.load 89 (Operand.tmp 17), type := 89, pos := "ref.go:197", after := #[{ on := 3, ground := Ground.data }], guard := none }) (v := ?_) [6, 7, 8, 9, 18, 19, 20, 21] rfl (by kernel_rfl) (by kernel_rfl) (by kernel_rfl) (by kernel_rfl) (fun _ _ _ h => h) (Or.inl ⟨by rfl, ?_⟩) (by assumption) ?_
      rotate_left
      · (intro w hSw; (try dsimp only at hSw); go_simp); (first | done | with_reducible rfl)
      try simp only [Act.put, List.setIfInBounds_toArray, List.set_cons_zero, List.set_cons_succ]
      refine wpAnyZ_takeY (i := 5) (oi := { dst := some 19, op := Op.move (Operand.tmp 4), type := 3, pos := "ref.go:197", after := #[], guard := none }) (v := ?_) rfl (by kernel_rfl) (by kernel_rfl) (by kernel_rfl) (by rfl) (fun _ _ _ h => h) (Or.inl ⟨by rfl, ?_⟩) (by assumption) ?_
      rotate_left
      · (intro w; go_simp); (first | done | with_reducible rfl)
      try simp only [Act.put, List.setIfInBounds_toArray, List.set_cons_zero, List.set_cons_succ]
      refine wpAnyZ_takeY (i := 6) (oi := { dst := some 20, op := Op.indexAddr 89 (Operand.tmp 18) (Operand.tmp 19), type := 0, pos := "ref.go:197", after := #[{ on := 4, ground := Ground.data }, { on := 5, ground := Ground.data }], guard := none }) (v := ?_) rfl (by kernel_rfl) (by kernel_rfl) (by kernel_rfl) (by rfl) (fun _ _ _ h => h) (Or.inl ⟨by rfl, ?_⟩) (by assumption) ?_
      rotate_left
      · (intro w; go_simp); (first | done | with_reducible rfl)
      try simp only [Act.put, List.setIfInBounds_toArray, List.set_cons_zero, List.set_cons_succ]
      refine wpAnyZ_takeY (i := 7) (oi := { dst := some 21, op := Op.fieldAddr 95 (Operand.tmp 20) 1, type := 0, pos := "ref.go:197", after := #[{ on := 6, ground := Ground.data }], guard := none }) (v := ?_) rfl (by kernel_rfl) (by kernel_rfl) (by kernel_rfl) (by rfl) (fun _ _ _ h => h) (Or.inl ⟨by rfl, ?_⟩) (by assumption) ?_
      rotate_left
      · (intro w; go_simp); (first | done | with_reducible rfl)
      try simp only [Act.put, List.setIfInBounds_toArray, List.set_cons_zero, List.set_cons_succ]
      refine wpAnyZ_take (i := 8) (oi := { dst := some 22, op := Op.load 9 (Operand.tmp 21), type := 9, pos := "ref.go:197", after := #[{ on := 7, ground := Ground.data }], guard := none }) (v := ?_) [9, 18, 19, 20, 21] rfl (by kernel_rfl) (by kernel_rfl) (by kernel_rfl) (by kernel_rfl) (fun _ _ _ h => h) (Or.inl ⟨by rfl, ?_⟩) (by assumption) ?_
      rotate_left
      · (intro w hSw; (try dsimp only at hSw); go_simp); (first | done | with_reducible rfl)
      try simp only [Act.put, List.setIfInBounds_toArray, List.set_cons_zero, List.set_cons_succ]
      refine wpAnyZ_takeY (i := 9) (oi := { dst := some 23, op := Op.call { callee := Callee.builtin Builtin.len, args := #[Operand.tmp 22], argTypes := #[9] }, type := 3, pos := "ref.go:197", after := #[{ on := 8, ground := Ground.data }], guard := none }) (v := ?_) rfl (by kernel_rfl) (by kernel_rfl) (by kernel_rfl) (by rfl) (fun _ _ _ h => h) (Or.inl ⟨by rfl, ?_⟩) (by assumption) ?_
      rotate_left
      · (intro w; go_simp); (first | done | with_reducible rfl)
      try simp only [Act.put, List.setIfInBounds_toArray, List.set_cons_zero, List.set_cons_succ]
      refine wpAnyZ_takeY (i := 10) (oi := { dst := some 24, op := Op.move (Operand.tmp 0), type := 28, pos := "ref.go:197", after := #[], guard := none }) (v := ?_) rfl (by kernel_rfl) (by kernel_rfl) (by kernel_rfl) (by rfl) (fun _ _ _ h => h) (Or.inl ⟨by rfl, ?_⟩) (by assumption) ?_
      rotate_left
      · (intro w; go_simp); (first | done | with_reducible rfl)
      try simp only [Act.put, List.setIfInBounds_toArray, List.set_cons_zero, List.set_cons_succ]
      refine wpAnyZ_takeY (i := 11) (oi := { dst := some 25, op := Op.nilCheck (Operand.tmp 24), type := 0, pos := "ref.go:197", after := #[{ on := 10, ground := Ground.data }], guard := none }) (v := ?_) rfl (by kernel_rfl) (by kernel_rfl) (by kernel_rfl) (by rfl) (fun _ _ _ h => h) (Or.inl ⟨by rfl, ?_⟩) (by assumption) ?_
      rotate_left
      · (intro w; go_simp); (first | done | with_reducible rfl)
      try simp only [Act.put, List.setIfInBounds_toArray, List.set_cons_zero, List.set_cons_succ]
      refine wpAnyZ_takeY (i := 12) (oi := { dst := some 26, op := Op.fieldAddr 91 (Operand.tmp 25) 4, type := 0, pos := "ref.go:197", after := #[{ on := 11, ground := Ground.data }], guard := none }) (v := ?_) rfl (by kernel_rfl) (by kernel_rfl) (by kernel_rfl) (by rfl) (fun _ _ _ h => h) (Or.inl ⟨by rfl, ?_⟩) (by assumption) ?_
      rotate_left
      · (intro w; go_simp); (first | done | with_reducible rfl)
      try simp only [Act.put, List.setIfInBounds_toArray, List.set_cons_zero, List.set_cons_succ]
      refine wpAnyZ_take (i := 13) (oi := { dst := some 27, op := Op.load 89 (Operand.tmp 26), type := 89, pos := "ref.go:197", after := #[{ on := 12, ground := Ground.data }], guard := none }) (v := ?_) [15, 16, 17, 18, 19, 20, 21] rfl (by kernel_rfl) (by kernel_rfl) (by kernel_rfl) (by kernel_rfl) (fun _ _ _ h => h) (Or.inl ⟨by rfl, ?_⟩) (by assumption) ?_
      rotate_left
      · (intro w hSw; (try dsimp only at hSw); go_simp); (first | done | with_reducible rfl)
      try simp only [Act.put, List.setIfInBounds_toArray, List.set_cons_zero, List.set_cons_succ]
      refine wpAnyZ_takeY (i := 14) (oi := { dst := some 28, op := Op.move (Operand.tmp 4), type := 3, pos := "ref.go:197", after := #[], guard := none }) (v := ?_) rfl (by kernel_rfl) (by kernel_rfl) (by kernel_rfl) (by rfl) (fun _ _ _ h => h) (Or.inl ⟨by rfl, ?_⟩) (by assumption) ?_
      rotate_left
      · (intro w; go_simp); (first | done | with_reducible rfl)
      try simp only [Act.put, List.setIfInBounds_toArray, List.set_cons_zero, List.set_cons_succ]
      refine wpAnyZ_takeY (i := 15) (oi := { dst := some 29, op := Op.indexAddr 89 (Operand.tmp 27) (Operand.tmp 28), type := 0, pos := "ref.go:197", after := #[{ on := 13, ground := Ground.data }, { on := 14, ground := Ground.data }], guard := none }) (v := ?_) rfl (by kernel_rfl) (by kernel_rfl) (by kernel_rfl) (by rfl) (fun _ _ _ h => h) (Or.inl ⟨by rfl, ?_⟩) (by assumption) ?_
      rotate_left
      · (intro w; go_simp); (first | done | with_reducible rfl)
      try simp only [Act.put, List.setIfInBounds_toArray, List.set_cons_zero, List.set_cons_succ]
      refine wpAnyZ_takeY (i := 16) (oi := { dst := some 30, op := Op.fieldAddr 95 (Operand.tmp 29) 2, type := 0, pos := "ref.go:197", after := #[{ on := 15, ground := Ground.data }], guard := none }) (v := ?_) rfl (by kernel_rfl) (by kernel_rfl) (by kernel_rfl) (by rfl) (fun _ _ _ h => h) (Or.inl ⟨by rfl, ?_⟩) (by assumption) ?_
      rotate_left
      · (intro w; go_simp); (first | done | with_reducible rfl)
      try simp only [Act.put, List.setIfInBounds_toArray, List.set_cons_zero, List.set_cons_succ]
      refine wpAnyZ_take (i := 17) (oi := { dst := some 31, op := Op.load 3 (Operand.tmp 30), type := 3, pos := "ref.go:197", after := #[{ on := 16, ground := Ground.data }], guard := none }) (v := ?_) [18, 19, 20, 21] rfl (by kernel_rfl) (by kernel_rfl) (by kernel_rfl) (by kernel_rfl) (fun _ _ _ h => h) (Or.inl ⟨by rfl, ?_⟩) (by assumption) ?_
      rotate_left
      · (intro w hSw; (try dsimp only at hSw); go_simp); (first | done | with_reducible rfl)
      try simp only [Act.put, List.setIfInBounds_toArray, List.set_cons_zero, List.set_cons_succ]
      refine wpAnyZ_takeY (i := 18) (oi := { dst := some 32, op := Op.binOp BinOp.sub 3 (Operand.tmp 23) (Operand.tmp 31) 3, type := 3, pos := "ref.go:197", after := #[{ on := 9, ground := Ground.data }, { on := 17, ground := Ground.data }], guard := none }) (v := ?_) rfl (by kernel_rfl) (by kernel_rfl) (by kernel_rfl) (by rfl) (fun _ _ _ h => h) (Or.inl ⟨by rfl, ?_⟩) (by assumption) ?_
      rotate_left
      · (intro w; go_simp); (first | done | with_reducible rfl)
      try simp only [Act.put, List.setIfInBounds_toArray, List.set_cons_zero, List.set_cons_succ]
      refine wpAnyZ_ready (rs := [19]) (by kernel_rfl) (by simp) ?_
      refine AllReadyZ.cons (o := { dst := some 33, op := Op.buildSlice 32 1 #[(0, Operand.tmp 32)], type := 32, pos := "ref.go:197", after := #[{ on := 18, ground := Ground.data }], guard := none }) rfl (by rfl) (fun K hK => ?_) (AllReadyZ.nil)
      go_simp
      have HX := Lib.hid (cell_one_new wd (.int .i64 ((fl.dat.length : Int) - (fl.safe : Int))) 3)
      replace HO := Lib.hid (HO.out.alloc (.cells #[(.int .i64 ((fl.dat.length : Int) - (fl.safe : Int)))] 3))
      replace HB := Lib.hid (HB.out.alloc HB.out.size (.cells #[(.int .i64 ((fl.dat.length : Int) - (fl.safe : Int)))] 3))
      generalize hq9 : wd.heap.size = q9 at *
      generalize hw9 : wd.alloc (.cells #[(.int .i64 ((fl.dat.length : Int) - (fl.safe : Int)))] 3) = w9 at *
      clear hq9 hw9
      refine hK.out _ _ ?_ (fun hHeld => ?_)
      · exact HSH.out _ HB.out
      clear hK K
      try simp only [Act.put, List.setIfInBounds_toArray, List.set_cons_zero, List.set_cons_succ]
      refine wpAnyZ_ready (rs := [20]) (by kernel_rfl) (by simp) ?_
      refine AllReadyZ.last (o := { dst := some 34, op := Op.call { callee := Callee.builtin Builtin.append, args := #[Operand.tmp 14, Operand.tmp 33], argTypes := #[32, 32] }, type := 32, pos := "ref.go:197", after := #[{ on := 0, ground := Ground.data }, { on := 19, ground := Ground.data }], guard := none }) rfl (fun K hK => ?_) AllReadyZ.nil
      refine step_append_at5 (by rfl) _ _ 32 (by rfl) w.heap.size 3 j0 (.int .i64 0) 1 8 Try.underlying32 hj hy0 hy1 hy2 rfl (by decide) (.slice bo k bc) k _ (by rfl) HO.out ⟨q9, 0, none⟩ 1 1 [(.int .i64 ((fl.dat.length : Int) - (fl.safe : Int)))] (by rfl) rfl HX.out (by simp [Value.oneCell']) (by unfold maxLen; omega) (by omega) (Nat.le_trans HH.out.2.size HB.out.size) ?_
      intro v8 w8 ho8 hg8 _
      obtain ⟨a8, c8, rfl⟩ := row_shape5 ho8
      have HO8 := Lib.hid (show w8.ownsRow w.heap.size 3 1 (.slice a8 (k + 1) c8) (k + 1) (ints5 ((Dk.unsynced D.L).take (k + 1))) ∧ Below w.heap.size w w8 from ⟨by rw [HTK.out]; exact ho8, (below_step HH.out.2 HB.out).grown hg8 (Nat.le_trans HH.out.2.size HB.out.size) (fun q hq => (HO.out.lt q hq).1)⟩)
      clear ho8 hg8 HO HX
      refine hK.out _ _ ?_
      clear hK K
      try simp only [Act.put, List.setIfInBounds_toArray, List.set_cons_zero, List.set_cons_succ]
      refine wpAny_take (i := 21) (oi := { dst := some 3, op := Op.assign (Operand.tmp 34), type := 32, pos := "ref.go:197", after := #[{ on := 20, ground := Ground.data }, { on := 20, ground := Ground.chain }, { on := 0, ground := Ground.phase }, { on := 1, ground := Ground.phase }, { on := 2, ground := Ground.phase }, { on := 3, ground := Ground.phase }, { on := 4, ground := Ground.phase }, { on := 5, ground := Ground.phase }, { on := 6, ground := Ground.phase }, { on := 7, ground := Ground.phase }, { on := 8, ground := Ground.phase }, { on := 9, ground := Ground.phase }, { on := 10, ground := Ground.phase }, { on := 11, ground := Ground.phase }, { on := 12, ground := Ground.phase }, { on := 13, ground := Ground.phase }, { on := 14, ground := Ground.phase }, { on := 15, ground := Ground.phase }, { on := 16, ground := Ground.phase }, { on := 17, ground := Ground.phase }, { on := 18, ground := Ground.phase }, { on := 19, ground := Ground.phase }, { on := 20, ground := Ground.phase }], guard := none }) (v := ?_) rfl (by kernel_rfl) (by kernel_rfl) (by kernel_rfl) (fun _ _ _ h => h) (Or.inl ⟨by rfl, ?_⟩) ?_
      rotate_left
      · (intro w; go_simp); (first | done | with_reducible rfl)
      refine wpAny_done (by kernel_rfl) ?_ _
      go_wp2_with fail
      go_roundw
      case rel => exact ⟨k + 1, a8, c8, by omega, by go_num, rfl, HO8⟩
      case measure => simp [intOf]; omega
    · have d1 : decide ((k : Int) < (D.L.length : Int)) = false := by simp; omega
      have d1' : decide (k < D.L.length) = false := by simp; omega
      obtain rfl : k = D.L.length := by omega
      have HFIN := Lib.hid (show (Dk.unsynced D.L).take D.L.length = Dk.unsynced D.L from by rw [← HN.out, List.take_length])
      go_wp2_with fail
      go_ret
      refine ⟨bo, bc, by rw [HN.out]; rfl, ?_, HH.out.2⟩
      have := HH.out.1
      rw [HFIN.out] at this
      rw [HN.out]
      exact this
end

end Go.Proofs.Ytekmnpmeienhhaa
