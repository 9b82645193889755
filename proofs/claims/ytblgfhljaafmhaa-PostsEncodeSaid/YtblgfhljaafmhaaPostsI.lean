/- Layer 12: the ack of bytes, the document's, by a contract. -/
import Derived.Test.YtblgfhljaafmhaaPostsH
namespace Go.Proofs.Ytblgfhljaafmhaa
set_option linter.unusedVariables false
open Go Go.RowKit
attribute [local go_sem ↓] run_index_S
attribute [local go_sem] S_append S_extract

theorem B_hd (l : List UInt8) : B l 0 = (M.hd l : Int) := rfl
theorem M.hd_pos {l : List UInt8} {n : Nat} (hn : 0 < n) (h : M.hd l = n) : 0 < l.length := by
  obtain ⟨c, r, rfl, _⟩ := M.hd_cons hn h
  simp
theorem M.takeN_g1 {l : List UInt8} (h : M.gets l 1 = none) : M.takeN 3 l 1 = none := M.takeN_none (k := 1) (by have h' : M.gets l ((1 : Nat) : Int) = none := h; simp only [M.takeN, h']) (by omega)
theorem M.takeN_g2 {l : List UInt8} {n0 b0 : Nat} (h : M.gets l 1 = some (n0, b0)) (k : M.gets l b0 = none) : M.takeN 3 l 1 = none := M.takeN_none (k := 2) (by have h' : M.gets l ((1 : Nat) : Int) = some (n0, b0) := h; simp only [M.takeN, h', k]) (by omega)
theorem M.takeN_g3 {l : List UInt8} {n0 b0 n1 b1 : Nat} (h : M.gets l 1 = some (n0, b0)) (k : M.gets l b0 = some (n1, b1)) (j : M.gets l b1 = none) : M.takeN 3 l 1 = none := by have h' : M.gets l ((1 : Nat) : Int) = some (n0, b0) := h; simp only [M.takeN, h', k, j]
theorem M.takeN_g {l : List UInt8} {n0 b0 n1 b1 n2 b2 : Nat} (h : M.gets l 1 = some (n0, b0)) (k : M.gets l b0 = some (n1, b1)) (j : M.gets l b1 = some (n2, b2)) : M.takeN 3 l 1 = some ([n0, n1, n2], b2) := by have h' : M.gets l ((1 : Nat) : Int) = some (n0, b0) := h; simp only [M.takeN, h', k, j]; rfl
theorem M.decA_take {l : List UInt8} (h : M.takeN 3 l 1 = none) : M.decA l = none := M.decA_no (fun x => x.2 h)

set_option maxHeartbeats 1000000 in
set_option maxRecDepth 100000 in
theorem refDecAck_hd (l : List UInt8) (hl : l.length ≤ 140737488351232) (hh : M.hd l ≠ 65) (w : World) :
    Calls Try.prog 19 #[.string (S l)] w fun e w' => e = decAV (M.decA l) ∧ Below w.heap.size w w' := by
  have HR0 := Lib.hid ((rowIn_new (akC ak0) 26 w).more (.cells (akC ak0) 26))
  have HA0 := Lib.hid (rowIn_at (akC ak0) 26 (w.alloc (.cells (akC ak0) 26)) (w.heap.size + 1) (by rw [szA]))
  have HB0 := Lib.hid (((Below.refl w.heap.size w).alloc (Nat.le_refl _) (.cells (akC ak0) 26)).alloc (by rw [szA]; omega) (.cells (akC ak0) 26))
  have HX := Lib.hid (M.decA_hd hh)
  by_cases h0 : 0 < l.length
  · have d0 : decide (0 < (l.length : Int)) = true := by simp; omega
    have d1 : (B l 0 == 65) = false := by
      have h9 : ((M.hd l : Nat) : Int) ≠ 65 := fun h => hh (by exact_mod_cast h)
      rw [B_hd, beq_eq_false_iff_ne]; exact h9
    clear hh
    go_enter Try.func19, Try.ntmps19
    go_wp2_with (refine wpList_store_row rfl 26 _ _ rfl w.heap.size _ rfl rfl 26 (akC ak0) HR0.out ?_ rfl (akC_one ak0) ?_; kernel_rfl)
    try simp only [Exit.inBlock, Exit.then]
    exact bodyPost_ret (ret_rowP2 rfl _ _ w.heap.size rfl (load_struct Try.underlying26 (by kernel_rfl) (RowIn.rowP HR0.out))) rfl ⟨(by exact decAV_none HX.out), below_setRow HB0.out (Nat.le_refl _) _⟩
  · have d0 : decide (0 < (l.length : Int)) = false := decide_eq_false (by omega)
    clear hh
    go_enter Try.func19, Try.ntmps19
    go_wp2_with (refine wpList_store_row rfl 26 _ _ rfl w.heap.size _ rfl rfl 26 (akC ak0) HR0.out ?_ rfl (akC_one ak0) ?_; kernel_rfl)
    try simp only [Exit.inBlock, Exit.then]
    exact bodyPost_ret (ret_rowP2 rfl _ _ w.heap.size rfl (load_struct Try.underlying26 (by kernel_rfl) (RowIn.rowP HR0.out))) rfl ⟨(by exact decAV_none HX.out), below_setRow HB0.out (Nat.le_refl _) _⟩

set_option maxHeartbeats 2000000 in
set_option maxRecDepth 100000 in
theorem refDecAck_g1 (l : List UInt8) (hl : l.length ≤ 140737488351232) (hh : M.hd l = 65) (g0 : M.gets l 1 = none) (w : World) :
    Calls Try.prog 19 #[.string (S l)] w fun e w' => e = decAV (M.decA l) ∧ Below w.heap.size w w' := by
  have HR0 := Lib.hid ((rowIn_new (akC ak0) 26 w).more (.cells (akC ak0) 26))
  have HA0 := Lib.hid (rowIn_at (akC ak0) 26 (w.alloc (.cells (akC ak0) 26)) (w.heap.size + 1) (by rw [szA]))
  have HB0 := Lib.hid (((Below.refl w.heap.size w).alloc (Nat.le_refl _) (.cells (akC ak0) 26)).alloc (by rw [szA]; omega) (.cells (akC ak0) 26))
  have hp := M.hd_pos (by omega) hh
  have d0 : decide (0 < (l.length : Int)) = true := by simp; omega
  have d1 : (B l 0 == 65) = true := by rw [B_hd, hh]; rfl
  have HX := Lib.hid (M.decA_take (M.takeN_g1 g0))
  have C1 := Lib.hid (fun W => by have := refGet_any l 1 W (by omega); rw [g0] at this; simp only [tri] at this; exact this)
  clear hh g0
  go_enter Try.func19, Try.ntmps19
  go_wp2_with fail
  with_reducible refine (C1.out _).mono ?_
  rintro e w1 ⟨rfl, hb1⟩
  have HR1 := Lib.hid (HR0.out.below hb1)
  have HA1 := Lib.hid (HA0.out.below hb1)
  have HB1 := Lib.hid (below_step HB0.out hb1)
  clear hb1
  have k1 := HA1.out.cell 0
  have f1 := HA1.out.free 0
  have HA1s := Lib.hid (show RowIn #[.int .i64 0, .int .i64 0, .int .i64 0] 26 (w1.setCell ⟨w.heap.size + 1, 0, none⟩ (.int .i64 0)) (w.heap.size + 1) from HA1.out.set 0 (.int .i64 0))
  have HR1s := Lib.hid (HR1.out.other (c := w.heap.size + 1) (by omega) 0 (.int .i64 0))
  have HB1s := Lib.hid (HB1.out.setCell (p := ⟨w.heap.size + 1, 0, none⟩) (by simp) (.int .i64 0))
  go_wp2_with (refine wpList_store_row rfl 26 _ _ rfl w.heap.size _ rfl rfl 26 (akC ak0) HR1s.out ?_ rfl (akC_one ak0) ?_; kernel_rfl)
  try simp only [Exit.inBlock, Exit.then]
  exact bodyPost_ret (ret_rowP2 rfl _ _ w.heap.size rfl (load_struct Try.underlying26 (by kernel_rfl) (RowIn.rowP HR1s.out))) rfl ⟨(by exact decAV_none HX.out), below_setRow HB1s.out (Nat.le_refl _) _⟩

set_option maxHeartbeats 2000000 in
set_option maxRecDepth 100000 in
theorem refDecAck_g2 (l : List UInt8) (hl : l.length ≤ 140737488351232) (hh : M.hd l = 65) {n0 b0 : Nat} (g0 : M.gets l 1 = some (n0, b0)) (g1 : M.gets l b0 = none) (w : World) :
    Calls Try.prog 19 #[.string (S l)] w fun e w' => e = decAV (M.decA l) ∧ Below w.heap.size w w' := by
  have HR0 := Lib.hid ((rowIn_new (akC ak0) 26 w).more (.cells (akC ak0) 26))
  have HA0 := Lib.hid (rowIn_at (akC ak0) 26 (w.alloc (.cells (akC ak0) 26)) (w.heap.size + 1) (by rw [szA]))
  have HB0 := Lib.hid (((Below.refl w.heap.size w).alloc (Nat.le_refl _) (.cells (akC ak0) 26)).alloc (by rw [szA]; omega) (.cells (akC ak0) 26))
  have hp := M.hd_pos (by omega) hh
  have d0 : decide (0 < (l.length : Int)) = true := by simp; omega
  have d1 : (B l 0 == 65) = true := by rw [B_hd, hh]; rfl
  have HX := Lib.hid (M.decA_take (M.takeN_g2 g0 g1))
  have C1 := Lib.hid (fun W => by have := refGet_any l 1 W (by omega); rw [g0] at this; simp only [tri] at this; exact this)
  have C2 := Lib.hid (fun W => by have := refGet_any l b0 W (by omega); rw [g1] at this; simp only [tri] at this; exact this)
  clear hh g0 g1
  go_enter Try.func19, Try.ntmps19
  go_wp2_with fail
  with_reducible refine (C1.out _).mono ?_
  rintro e w1 ⟨rfl, hb1⟩
  have HR1 := Lib.hid (HR0.out.below hb1)
  have HA1 := Lib.hid (HA0.out.below hb1)
  have HB1 := Lib.hid (below_step HB0.out hb1)
  clear hb1
  have k1 := HA1.out.cell 0
  have f1 := HA1.out.free 0
  have HA1s := Lib.hid (show RowIn #[.int .i64 n0, .int .i64 0, .int .i64 0] 26 (w1.setCell ⟨w.heap.size + 1, 0, none⟩ (.int .i64 n0)) (w.heap.size + 1) from HA1.out.set 0 (.int .i64 n0))
  have HR1s := Lib.hid (HR1.out.other (c := w.heap.size + 1) (by omega) 0 (.int .i64 n0))
  have HB1s := Lib.hid (HB1.out.setCell (p := ⟨w.heap.size + 1, 0, none⟩) (by simp) (.int .i64 n0))
  go_wp2_with fail
  with_reducible refine (C2.out _).mono ?_
  rintro e w2 ⟨rfl, hb2⟩
  have HR2 := Lib.hid (HR1s.out.below hb2)
  have HA2 := Lib.hid (HA1s.out.below hb2)
  have HB2 := Lib.hid (below_step HB1s.out hb2)
  clear hb2
  have k2 := HA2.out.cell 1
  have f2 := HA2.out.free 1
  have HA2s := Lib.hid (show RowIn #[.int .i64 n0, .int .i64 0, .int .i64 0] 26 (w2.setCell ⟨w.heap.size + 1, 1, none⟩ (.int .i64 0)) (w.heap.size + 1) from HA2.out.set 1 (.int .i64 0))
  have HR2s := Lib.hid (HR2.out.other (c := w.heap.size + 1) (by omega) 1 (.int .i64 0))
  have HB2s := Lib.hid (HB2.out.setCell (p := ⟨w.heap.size + 1, 1, none⟩) (by simp) (.int .i64 0))
  go_wp2_with (refine wpList_store_row rfl 26 _ _ rfl w.heap.size _ rfl rfl 26 (akC ak0) HR2s.out ?_ rfl (akC_one ak0) ?_; kernel_rfl)
  try simp only [Exit.inBlock, Exit.then]
  exact bodyPost_ret (ret_rowP2 rfl _ _ w.heap.size rfl (load_struct Try.underlying26 (by kernel_rfl) (RowIn.rowP HR2s.out))) rfl ⟨(by exact decAV_none HX.out), below_setRow HB2s.out (Nat.le_refl _) _⟩

set_option maxHeartbeats 2000000 in
set_option maxRecDepth 100000 in
theorem refDecAck_g3 (l : List UInt8) (hl : l.length ≤ 140737488351232) (hh : M.hd l = 65) {n0 b0 : Nat} (g0 : M.gets l 1 = some (n0, b0)) {n1 b1 : Nat} (g1 : M.gets l b0 = some (n1, b1)) (g2 : M.gets l b1 = none) (w : World) :
    Calls Try.prog 19 #[.string (S l)] w fun e w' => e = decAV (M.decA l) ∧ Below w.heap.size w w' := by
  have HR0 := Lib.hid ((rowIn_new (akC ak0) 26 w).more (.cells (akC ak0) 26))
  have HA0 := Lib.hid (rowIn_at (akC ak0) 26 (w.alloc (.cells (akC ak0) 26)) (w.heap.size + 1) (by rw [szA]))
  have HB0 := Lib.hid (((Below.refl w.heap.size w).alloc (Nat.le_refl _) (.cells (akC ak0) 26)).alloc (by rw [szA]; omega) (.cells (akC ak0) 26))
  have hp := M.hd_pos (by omega) hh
  have d0 : decide (0 < (l.length : Int)) = true := by simp; omega
  have d1 : (B l 0 == 65) = true := by rw [B_hd, hh]; rfl
  have HX := Lib.hid (M.decA_take (M.takeN_g3 g0 g1 g2))
  have C1 := Lib.hid (fun W => by have := refGet_any l 1 W (by omega); rw [g0] at this; simp only [tri] at this; exact this)
  have C2 := Lib.hid (fun W => by have := refGet_any l b0 W (by omega); rw [g1] at this; simp only [tri] at this; exact this)
  have C3 := Lib.hid (fun W => by have := refGet_any l b1 W (by omega); rw [g2] at this; simp only [tri] at this; exact this)
  clear hh g0 g1 g2
  go_enter Try.func19, Try.ntmps19
  go_wp2_with fail
  with_reducible refine (C1.out _).mono ?_
  rintro e w1 ⟨rfl, hb1⟩
  have HR1 := Lib.hid (HR0.out.below hb1)
  have HA1 := Lib.hid (HA0.out.below hb1)
  have HB1 := Lib.hid (below_step HB0.out hb1)
  clear hb1
  have k1 := HA1.out.cell 0
  have f1 := HA1.out.free 0
  have HA1s := Lib.hid (show RowIn #[.int .i64 n0, .int .i64 0, .int .i64 0] 26 (w1.setCell ⟨w.heap.size + 1, 0, none⟩ (.int .i64 n0)) (w.heap.size + 1) from HA1.out.set 0 (.int .i64 n0))
  have HR1s := Lib.hid (HR1.out.other (c := w.heap.size + 1) (by omega) 0 (.int .i64 n0))
  have HB1s := Lib.hid (HB1.out.setCell (p := ⟨w.heap.size + 1, 0, none⟩) (by simp) (.int .i64 n0))
  go_wp2_with fail
  with_reducible refine (C2.out _).mono ?_
  rintro e w2 ⟨rfl, hb2⟩
  have HR2 := Lib.hid (HR1s.out.below hb2)
  have HA2 := Lib.hid (HA1s.out.below hb2)
  have HB2 := Lib.hid (below_step HB1s.out hb2)
  clear hb2
  have k2 := HA2.out.cell 1
  have f2 := HA2.out.free 1
  have HA2s := Lib.hid (show RowIn #[.int .i64 n0, .int .i64 n1, .int .i64 0] 26 (w2.setCell ⟨w.heap.size + 1, 1, none⟩ (.int .i64 n1)) (w.heap.size + 1) from HA2.out.set 1 (.int .i64 n1))
  have HR2s := Lib.hid (HR2.out.other (c := w.heap.size + 1) (by omega) 1 (.int .i64 n1))
  have HB2s := Lib.hid (HB2.out.setCell (p := ⟨w.heap.size + 1, 1, none⟩) (by simp) (.int .i64 n1))
  go_wp2_with fail
  with_reducible refine (C3.out _).mono ?_
  rintro e w3 ⟨rfl, hb3⟩
  have HR3 := Lib.hid (HR2s.out.below hb3)
  have HA3 := Lib.hid (HA2s.out.below hb3)
  have HB3 := Lib.hid (below_step HB2s.out hb3)
  clear hb3
  go_wp2_with (refine wpList_store_row rfl 26 _ _ rfl w.heap.size _ rfl rfl 26 (akC ak0) HR3.out ?_ rfl (akC_one ak0) ?_; kernel_rfl)
  try simp only [Exit.inBlock, Exit.then]
  exact bodyPost_ret (ret_rowP2 rfl _ _ w.heap.size rfl (load_struct Try.underlying26 (by kernel_rfl) (RowIn.rowP HR3.out))) rfl ⟨(by exact decAV_none HX.out), below_setRow HB3.out (Nat.le_refl _) _⟩

set_option maxHeartbeats 2000000 in
set_option maxRecDepth 100000 in
theorem refDecAck_m1 (l : List UInt8) (hl : l.length ≤ 140737488351232) (hh : M.hd l = 65) {n0 b0 n1 b1 n2 b2 : Nat} (g0 : M.gets l 1 = some (n0, b0)) (g1 : M.gets l b0 = some (n1, b1)) (g2 : M.gets l b1 = some (n2, b2)) (hm : ¬ n1 ≤ 2147483647) (w : World) :
    Calls Try.prog 19 #[.string (S l)] w fun e w' => e = decAV (M.decA l) ∧ Below w.heap.size w w' := by
  have HR0 := Lib.hid ((rowIn_new (akC ak0) 26 w).more (.cells (akC ak0) 26))
  have HA0 := Lib.hid (rowIn_at (akC ak0) 26 (w.alloc (.cells (akC ak0) 26)) (w.heap.size + 1) (by rw [szA]))
  have HB0 := Lib.hid (((Below.refl w.heap.size w).alloc (Nat.le_refl _) (.cells (akC ak0) 26)).alloc (by rw [szA]; omega) (.cells (akC ak0) 26))
  have hp := M.hd_pos (by omega) hh
  have d0 : decide (0 < (l.length : Int)) = true := by simp; omega
  have d1 : (B l 0 == 65) = true := by rw [B_hd, hh]; rfl
  have C1 := Lib.hid (fun W => by have := refGet_any l 1 W (by omega); rw [g0] at this; simp only [tri] at this; exact this)
  have C2 := Lib.hid (fun W => by have := refGet_any l b0 W (by omega); rw [g1] at this; simp only [tri] at this; exact this)
  have C3 := Lib.hid (fun W => by have := refGet_any l b1 W (by omega); rw [g2] at this; simp only [tri] at this; exact this)
  have ht := M.takeN_g g0 g1 g2
  have hd := M.decA_eq hh ht
  simp only [List.getD_cons_zero, List.getD_cons_succ] at hd
  have HX := Lib.hid (show M.decA l = none from by rw [hd, if_neg (fun h => by have := M.aMay_true.1 h.2.2; dsimp only at this; omega)])
  have e1 : decide (2147483647 < (n1 : Int)) = true := by simp; omega
  clear hd ht g0 g1 g2 hh
  go_enter Try.func19, Try.ntmps19
  go_wp2_with fail
  with_reducible refine (C1.out _).mono ?_
  rintro e w1 ⟨rfl, hb1⟩
  have HR1 := Lib.hid (HR0.out.below hb1)
  have HA1 := Lib.hid (HA0.out.below hb1)
  have HB1 := Lib.hid (below_step HB0.out hb1)
  clear hb1
  have k1 := HA1.out.cell 0
  have f1 := HA1.out.free 0
  have HA1s := Lib.hid (show RowIn #[.int .i64 n0, .int .i64 0, .int .i64 0] 26 (w1.setCell ⟨w.heap.size + 1, 0, none⟩ (.int .i64 n0)) (w.heap.size + 1) from HA1.out.set 0 (.int .i64 n0))
  have HR1s := Lib.hid (HR1.out.other (c := w.heap.size + 1) (by omega) 0 (.int .i64 n0))
  have HB1s := Lib.hid (HB1.out.setCell (p := ⟨w.heap.size + 1, 0, none⟩) (by simp) (.int .i64 n0))
  go_wp2_with fail
  with_reducible refine (C2.out _).mono ?_
  rintro e w2 ⟨rfl, hb2⟩
  have HR2 := Lib.hid (HR1s.out.below hb2)
  have HA2 := Lib.hid (HA1s.out.below hb2)
  have HB2 := Lib.hid (below_step HB1s.out hb2)
  clear hb2
  have k2 := HA2.out.cell 1
  have f2 := HA2.out.free 1
  have HA2s := Lib.hid (show RowIn #[.int .i64 n0, .int .i64 n1, .int .i64 0] 26 (w2.setCell ⟨w.heap.size + 1, 1, none⟩ (.int .i64 n1)) (w.heap.size + 1) from HA2.out.set 1 (.int .i64 n1))
  have HR2s := Lib.hid (HR2.out.other (c := w.heap.size + 1) (by omega) 1 (.int .i64 n1))
  have HB2s := Lib.hid (HB2.out.setCell (p := ⟨w.heap.size + 1, 1, none⟩) (by simp) (.int .i64 n1))
  go_wp2_with fail
  with_reducible refine (C3.out _).mono ?_
  rintro e w3 ⟨rfl, hb3⟩
  have HR3 := Lib.hid (HR2s.out.below hb3)
  have HA3 := Lib.hid (HA2s.out.below hb3)
  have HB3 := Lib.hid (below_step HB2s.out hb3)
  clear hb3
  have k9 := HA3.out.cell 1
  go_wp2_with (refine wpList_store_row rfl 26 _ _ rfl w.heap.size _ rfl rfl 26 (akC ak0) HR3.out ?_ rfl (akC_one ak0) ?_; kernel_rfl)
  try simp only [Exit.inBlock, Exit.then]
  exact bodyPost_ret (ret_rowP2 rfl _ _ w.heap.size rfl (load_struct Try.underlying26 (by kernel_rfl) (RowIn.rowP HR3.out))) rfl ⟨(by exact decAV_none HX.out), below_setRow HB3.out (Nat.le_refl _) _⟩

set_option maxHeartbeats 2000000 in
set_option maxRecDepth 100000 in
theorem refDecAck_m2 (l : List UInt8) (hl : l.length ≤ 140737488351232) (hh : M.hd l = 65) {n0 b0 n1 b1 n2 b2 : Nat} (g0 : M.gets l 1 = some (n0, b0)) (g1 : M.gets l b0 = some (n1, b1)) (g2 : M.gets l b1 = some (n2, b2)) (h1 : n1 ≤ 2147483647) (hm : ¬ n2 ≤ 2147483647) (w : World) :
    Calls Try.prog 19 #[.string (S l)] w fun e w' => e = decAV (M.decA l) ∧ Below w.heap.size w w' := by
  have HR0 := Lib.hid ((rowIn_new (akC ak0) 26 w).more (.cells (akC ak0) 26))
  have HA0 := Lib.hid (rowIn_at (akC ak0) 26 (w.alloc (.cells (akC ak0) 26)) (w.heap.size + 1) (by rw [szA]))
  have HB0 := Lib.hid (((Below.refl w.heap.size w).alloc (Nat.le_refl _) (.cells (akC ak0) 26)).alloc (by rw [szA]; omega) (.cells (akC ak0) 26))
  have hp := M.hd_pos (by omega) hh
  have d0 : decide (0 < (l.length : Int)) = true := by simp; omega
  have d1 : (B l 0 == 65) = true := by rw [B_hd, hh]; rfl
  have C1 := Lib.hid (fun W => by have := refGet_any l 1 W (by omega); rw [g0] at this; simp only [tri] at this; exact this)
  have C2 := Lib.hid (fun W => by have := refGet_any l b0 W (by omega); rw [g1] at this; simp only [tri] at this; exact this)
  have C3 := Lib.hid (fun W => by have := refGet_any l b1 W (by omega); rw [g2] at this; simp only [tri] at this; exact this)
  have ht := M.takeN_g g0 g1 g2
  have hd := M.decA_eq hh ht
  simp only [List.getD_cons_zero, List.getD_cons_succ] at hd
  have HX := Lib.hid (show M.decA l = none from by rw [hd, if_neg (fun h => hm h.2.1)])
  have e1 : decide (2147483647 < (n1 : Int)) = false := by simp; omega
  have e2 : decide (2147483647 < (n2 : Int)) = true := by simp; omega
  clear hd ht g0 g1 g2 hh
  go_enter Try.func19, Try.ntmps19
  go_wp2_with fail
  with_reducible refine (C1.out _).mono ?_
  rintro e w1 ⟨rfl, hb1⟩
  have HR1 := Lib.hid (HR0.out.below hb1)
  have HA1 := Lib.hid (HA0.out.below hb1)
  have HB1 := Lib.hid (below_step HB0.out hb1)
  clear hb1
  have k1 := HA1.out.cell 0
  have f1 := HA1.out.free 0
  have HA1s := Lib.hid (show RowIn #[.int .i64 n0, .int .i64 0, .int .i64 0] 26 (w1.setCell ⟨w.heap.size + 1, 0, none⟩ (.int .i64 n0)) (w.heap.size + 1) from HA1.out.set 0 (.int .i64 n0))
  have HR1s := Lib.hid (HR1.out.other (c := w.heap.size + 1) (by omega) 0 (.int .i64 n0))
  have HB1s := Lib.hid (HB1.out.setCell (p := ⟨w.heap.size + 1, 0, none⟩) (by simp) (.int .i64 n0))
  go_wp2_with fail
  with_reducible refine (C2.out _).mono ?_
  rintro e w2 ⟨rfl, hb2⟩
  have HR2 := Lib.hid (HR1s.out.below hb2)
  have HA2 := Lib.hid (HA1s.out.below hb2)
  have HB2 := Lib.hid (below_step HB1s.out hb2)
  clear hb2
  have k2 := HA2.out.cell 1
  have f2 := HA2.out.free 1
  have HA2s := Lib.hid (show RowIn #[.int .i64 n0, .int .i64 n1, .int .i64 0] 26 (w2.setCell ⟨w.heap.size + 1, 1, none⟩ (.int .i64 n1)) (w.heap.size + 1) from HA2.out.set 1 (.int .i64 n1))
  have HR2s := Lib.hid (HR2.out.other (c := w.heap.size + 1) (by omega) 1 (.int .i64 n1))
  have HB2s := Lib.hid (HB2.out.setCell (p := ⟨w.heap.size + 1, 1, none⟩) (by simp) (.int .i64 n1))
  go_wp2_with fail
  with_reducible refine (C3.out _).mono ?_
  rintro e w3 ⟨rfl, hb3⟩
  have HR3 := Lib.hid (HR2s.out.below hb3)
  have HA3 := Lib.hid (HA2s.out.below hb3)
  have HB3 := Lib.hid (below_step HB2s.out hb3)
  clear hb3
  have k9 := HA3.out.cell 1
  go_wp2_with (refine wpList_store_row rfl 26 _ _ rfl w.heap.size _ rfl rfl 26 (akC ak0) HR3.out ?_ rfl (akC_one ak0) ?_; kernel_rfl)
  try simp only [Exit.inBlock, Exit.then]
  exact bodyPost_ret (ret_rowP2 rfl _ _ w.heap.size rfl (load_struct Try.underlying26 (by kernel_rfl) (RowIn.rowP HR3.out))) rfl ⟨(by exact decAV_none HX.out), below_setRow HB3.out (Nat.le_refl _) _⟩

set_option maxHeartbeats 2000000 in
set_option maxRecDepth 100000 in
theorem refDecAck_no (l : List UInt8) (hl : l.length ≤ 140737488351232) (hh : M.hd l = 65) {n0 b0 n1 b1 n2 b2 : Nat} (g0 : M.gets l 1 = some (n0, b0)) (g1 : M.gets l b0 = some (n1, b1)) (g2 : M.gets l b1 = some (n2, b2)) (h1 : n1 ≤ 2147483647) (h2 : n2 ≤ 2147483647) (hm : M.aMay ⟨n0, n1, (n1 : Int) + (n2 : Int)⟩ = false) (w : World) :
    Calls Try.prog 19 #[.string (S l)] w fun e w' => e = decAV (M.decA l) ∧ Below w.heap.size w w' := by
  have HR0 := Lib.hid ((rowIn_new (akC ak0) 26 w).more (.cells (akC ak0) 26))
  have HA0 := Lib.hid (rowIn_at (akC ak0) 26 (w.alloc (.cells (akC ak0) 26)) (w.heap.size + 1) (by rw [szA]))
  have HB0 := Lib.hid (((Below.refl w.heap.size w).alloc (Nat.le_refl _) (.cells (akC ak0) 26)).alloc (by rw [szA]; omega) (.cells (akC ak0) 26))
  have hp := M.hd_pos (by omega) hh
  have d0 : decide (0 < (l.length : Int)) = true := by simp; omega
  have d1 : (B l 0 == 65) = true := by rw [B_hd, hh]; rfl
  have C1 := Lib.hid (fun W => by have := refGet_any l 1 W (by omega); rw [g0] at this; simp only [tri] at this; exact this)
  have C2 := Lib.hid (fun W => by have := refGet_any l b0 W (by omega); rw [g1] at this; simp only [tri] at this; exact this)
  have C3 := Lib.hid (fun W => by have := refGet_any l b1 W (by omega); rw [g2] at this; simp only [tri] at this; exact this)
  have ht := M.takeN_g g0 g1 g2
  have hd := M.decA_eq hh ht
  simp only [List.getD_cons_zero, List.getD_cons_succ] at hd
  have HX := Lib.hid (show M.decA l = none from by rw [hd, if_neg (fun h => by rw [Int.natCast_add, hm] at h; cases h.2.2)])
  have C4 := Lib.hid (fun W => refEncAck_no n0 n1 ((n1 : Int) + (n2 : Int)) hm W)
  have e1 : decide (2147483647 < (n1 : Int)) = false := by simp; omega
  have e2 : decide (2147483647 < (n2 : Int)) = false := by simp; omega
  have ew : IntKind.i64.wrap ((n1 : Int) + (n2 : Int)) = (n1 : Int) + (n2 : Int) := IntWalk.i64_in _ (by omega)
  clear hd ht g0 g1 g2 hh hm
  go_enter Try.func19, Try.ntmps19
  go_wp2_with fail
  with_reducible refine (C1.out _).mono ?_
  rintro e w1 ⟨rfl, hb1⟩
  have HR1 := Lib.hid (HR0.out.below hb1)
  have HA1 := Lib.hid (HA0.out.below hb1)
  have HB1 := Lib.hid (below_step HB0.out hb1)
  clear hb1
  have k1 := HA1.out.cell 0
  have f1 := HA1.out.free 0
  have HA1s := Lib.hid (show RowIn #[.int .i64 n0, .int .i64 0, .int .i64 0] 26 (w1.setCell ⟨w.heap.size + 1, 0, none⟩ (.int .i64 n0)) (w.heap.size + 1) from HA1.out.set 0 (.int .i64 n0))
  have HR1s := Lib.hid (HR1.out.other (c := w.heap.size + 1) (by omega) 0 (.int .i64 n0))
  have HB1s := Lib.hid (HB1.out.setCell (p := ⟨w.heap.size + 1, 0, none⟩) (by simp) (.int .i64 n0))
  go_wp2_with fail
  with_reducible refine (C2.out _).mono ?_
  rintro e w2 ⟨rfl, hb2⟩
  have HR2 := Lib.hid (HR1s.out.below hb2)
  have HA2 := Lib.hid (HA1s.out.below hb2)
  have HB2 := Lib.hid (below_step HB1s.out hb2)
  clear hb2
  have k2 := HA2.out.cell 1
  have f2 := HA2.out.free 1
  have HA2s := Lib.hid (show RowIn #[.int .i64 n0, .int .i64 n1, .int .i64 0] 26 (w2.setCell ⟨w.heap.size + 1, 1, none⟩ (.int .i64 n1)) (w.heap.size + 1) from HA2.out.set 1 (.int .i64 n1))
  have HR2s := Lib.hid (HR2.out.other (c := w.heap.size + 1) (by omega) 1 (.int .i64 n1))
  have HB2s := Lib.hid (HB2.out.setCell (p := ⟨w.heap.size + 1, 1, none⟩) (by simp) (.int .i64 n1))
  go_wp2_with fail
  with_reducible refine (C3.out _).mono ?_
  rintro e w3 ⟨rfl, hb3⟩
  have HR3 := Lib.hid (HR2s.out.below hb3)
  have HA3 := Lib.hid (HA2s.out.below hb3)
  have HB3 := Lib.hid (below_step HB2s.out hb3)
  clear hb3
  have k9 := HA3.out.cell 1
  have k8 := HA3.out.cell 2
  have f8 := HA3.out.free 2
  have HA4 := Lib.hid (show RowIn #[.int .i64 n0, .int .i64 n1, .int .i64 ((n1 : Int) + (n2 : Int))] 26 (w3.setCell ⟨w.heap.size + 1, 2, none⟩ (.int .i64 ((n1 : Int) + (n2 : Int)))) (w.heap.size + 1) from HA3.out.set 2 (.int .i64 ((n1 : Int) + (n2 : Int))))
  have HR4 := Lib.hid (HR3.out.other (c := w.heap.size + 1) (by omega) 2 (.int .i64 ((n1 : Int) + (n2 : Int))))
  have HB4 := Lib.hid (HB3.out.setCell (p := ⟨w.heap.size + 1, 2, none⟩) (by simp) (.int .i64 ((n1 : Int) + (n2 : Int))))
  go_wp2_with (refine wpList_load_row rfl 26 _ rfl (w.heap.size + 1) rfl 26 _ (0, 0) _ HA4.out Try.underlying26 rfl ?_ ?_; kernel_rfl)
  with_reducible refine (C4.out _).mono ?_
  rintro e w5 ⟨rfl, hb5⟩
  have HR5 := Lib.hid (HR4.out.below hb5)
  have HA5 := Lib.hid (HA4.out.below hb5)
  have HB5 := Lib.hid (below_step HB4.out hb5)
  clear hb5
  go_wp2_with (refine wpList_store_row rfl 26 _ _ rfl w.heap.size _ rfl rfl 26 (akC ak0) HR5.out ?_ rfl (akC_one ak0) ?_; kernel_rfl)
  try simp only [Exit.inBlock, Exit.then]
  exact bodyPost_ret (ret_rowP2 rfl _ _ w.heap.size rfl (load_struct Try.underlying26 (by kernel_rfl) (RowIn.rowP HR5.out))) rfl ⟨(by exact decAV_none HX.out), below_setRow HB5.out (Nat.le_refl _) _⟩

set_option maxHeartbeats 2000000 in
set_option maxRecDepth 100000 in
theorem refDecAck_len (l : List UInt8) (hl : l.length ≤ 140737488351232) (hh : M.hd l = 65) {n0 b0 n1 b1 n2 b2 : Nat} (g0 : M.gets l 1 = some (n0, b0)) (g1 : M.gets l b0 = some (n1, b1)) (g2 : M.gets l b1 = some (n2, b2)) (h1 : n1 ≤ 2147483647) (h2 : n2 ≤ 2147483647) (hm : M.aMay ⟨n0, n1, (n1 : Int) + (n2 : Int)⟩ = true) (hc : b2 ≠ l.length) (w : World) :
    Calls Try.prog 19 #[.string (S l)] w fun e w' => e = decAV (M.decA l) ∧ Below w.heap.size w w' := by
  have HR0 := Lib.hid ((rowIn_new (akC ak0) 26 w).more (.cells (akC ak0) 26))
  have HA0 := Lib.hid (rowIn_at (akC ak0) 26 (w.alloc (.cells (akC ak0) 26)) (w.heap.size + 1) (by rw [szA]))
  have HB0 := Lib.hid (((Below.refl w.heap.size w).alloc (Nat.le_refl _) (.cells (akC ak0) 26)).alloc (by rw [szA]; omega) (.cells (akC ak0) 26))
  have hp := M.hd_pos (by omega) hh
  have d0 : decide (0 < (l.length : Int)) = true := by simp; omega
  have d1 : (B l 0 == 65) = true := by rw [B_hd, hh]; rfl
  have C1 := Lib.hid (fun W => by have := refGet_any l 1 W (by omega); rw [g0] at this; simp only [tri] at this; exact this)
  have C2 := Lib.hid (fun W => by have := refGet_any l b0 W (by omega); rw [g1] at this; simp only [tri] at this; exact this)
  have C3 := Lib.hid (fun W => by have := refGet_any l b1 W (by omega); rw [g2] at this; simp only [tri] at this; exact this)
  have ht := M.takeN_g g0 g1 g2
  have hd := M.decA_eq hh ht
  simp only [List.getD_cons_zero, List.getD_cons_succ] at hd
  have HX := Lib.hid (show M.decA l = none from by rw [hd, if_neg (fun h => hc h.1)])
  have C4 := Lib.hid (fun W => by have := refEncAck_yes n0 n1 (n1 + n2) (by rw [Int.natCast_add]; exact hm) W; rw [Int.natCast_add] at this; exact this)
  have he := M.encA_take hh ht
  simp only [List.getD_cons_zero, List.getD_cons_succ, Int.natCast_add] at he
  have hq : (M.encA ⟨n0, n1, (n1 : Int) + (n2 : Int)⟩ == l) = false := by rw [beq_eq_false_iff_ne]; exact fun h => hc ((M.take_eq_self he.2).1 (he.1.symm.trans h))
  clear he
  generalize M.encA ⟨n0, n1, (n1 : Int) + (n2 : Int)⟩ = q at *
  have e1 : decide (2147483647 < (n1 : Int)) = false := by simp; omega
  have e2 : decide (2147483647 < (n2 : Int)) = false := by simp; omega
  have ew : IntKind.i64.wrap ((n1 : Int) + (n2 : Int)) = (n1 : Int) + (n2 : Int) := IntWalk.i64_in _ (by omega)
  clear hd ht g0 g1 g2 hh hm hc
  go_enter Try.func19, Try.ntmps19
  go_wp2_with fail
  with_reducible refine (C1.out _).mono ?_
  rintro e w1 ⟨rfl, hb1⟩
  have HR1 := Lib.hid (HR0.out.below hb1)
  have HA1 := Lib.hid (HA0.out.below hb1)
  have HB1 := Lib.hid (below_step HB0.out hb1)
  clear hb1
  have k1 := HA1.out.cell 0
  have f1 := HA1.out.free 0
  have HA1s := Lib.hid (show RowIn #[.int .i64 n0, .int .i64 0, .int .i64 0] 26 (w1.setCell ⟨w.heap.size + 1, 0, none⟩ (.int .i64 n0)) (w.heap.size + 1) from HA1.out.set 0 (.int .i64 n0))
  have HR1s := Lib.hid (HR1.out.other (c := w.heap.size + 1) (by omega) 0 (.int .i64 n0))
  have HB1s := Lib.hid (HB1.out.setCell (p := ⟨w.heap.size + 1, 0, none⟩) (by simp) (.int .i64 n0))
  go_wp2_with fail
  with_reducible refine (C2.out _).mono ?_
  rintro e w2 ⟨rfl, hb2⟩
  have HR2 := Lib.hid (HR1s.out.below hb2)
  have HA2 := Lib.hid (HA1s.out.below hb2)
  have HB2 := Lib.hid (below_step HB1s.out hb2)
  clear hb2
  have k2 := HA2.out.cell 1
  have f2 := HA2.out.free 1
  have HA2s := Lib.hid (show RowIn #[.int .i64 n0, .int .i64 n1, .int .i64 0] 26 (w2.setCell ⟨w.heap.size + 1, 1, none⟩ (.int .i64 n1)) (w.heap.size + 1) from HA2.out.set 1 (.int .i64 n1))
  have HR2s := Lib.hid (HR2.out.other (c := w.heap.size + 1) (by omega) 1 (.int .i64 n1))
  have HB2s := Lib.hid (HB2.out.setCell (p := ⟨w.heap.size + 1, 1, none⟩) (by simp) (.int .i64 n1))
  go_wp2_with fail
  with_reducible refine (C3.out _).mono ?_
  rintro e w3 ⟨rfl, hb3⟩
  have HR3 := Lib.hid (HR2s.out.below hb3)
  have HA3 := Lib.hid (HA2s.out.below hb3)
  have HB3 := Lib.hid (below_step HB2s.out hb3)
  clear hb3
  have k9 := HA3.out.cell 1
  have k8 := HA3.out.cell 2
  have f8 := HA3.out.free 2
  have HA4 := Lib.hid (show RowIn #[.int .i64 n0, .int .i64 n1, .int .i64 ((n1 : Int) + (n2 : Int))] 26 (w3.setCell ⟨w.heap.size + 1, 2, none⟩ (.int .i64 ((n1 : Int) + (n2 : Int)))) (w.heap.size + 1) from HA3.out.set 2 (.int .i64 ((n1 : Int) + (n2 : Int))))
  have HR4 := Lib.hid (HR3.out.other (c := w.heap.size + 1) (by omega) 2 (.int .i64 ((n1 : Int) + (n2 : Int))))
  have HB4 := Lib.hid (HB3.out.setCell (p := ⟨w.heap.size + 1, 2, none⟩) (by simp) (.int .i64 ((n1 : Int) + (n2 : Int))))
  go_wp2_with (refine wpList_load_row rfl 26 _ rfl (w.heap.size + 1) rfl 26 _ (0, 0) _ HA4.out Try.underlying26 rfl ?_ ?_; kernel_rfl)
  with_reducible refine (C4.out _).mono ?_
  rintro e w5 ⟨rfl, hb5⟩
  have HR5 := Lib.hid (HR4.out.below hb5)
  have HA5 := Lib.hid (HA4.out.below hb5)
  have HB5 := Lib.hid (below_step HB4.out hb5)
  clear hb5
  go_wp2_with (refine wpList_store_row rfl 26 _ _ rfl w.heap.size _ rfl rfl 26 (akC ak0) HR5.out ?_ rfl (akC_one ak0) ?_; kernel_rfl)
  try simp only [Exit.inBlock, Exit.then]
  exact bodyPost_ret (ret_rowP2 rfl _ _ w.heap.size rfl (load_struct Try.underlying26 (by kernel_rfl) (RowIn.rowP HR5.out))) rfl ⟨(by exact decAV_none HX.out), below_setRow HB5.out (Nat.le_refl _) _⟩

set_option maxHeartbeats 2000000 in
set_option maxRecDepth 100000 in
theorem refDecAck_yes (l : List UInt8) (hl : l.length ≤ 140737488351232) (hh : M.hd l = 65) {n0 b0 n1 b1 n2 b2 : Nat} (g0 : M.gets l 1 = some (n0, b0)) (g1 : M.gets l b0 = some (n1, b1)) (g2 : M.gets l b1 = some (n2, b2)) (h1 : n1 ≤ 2147483647) (h2 : n2 ≤ 2147483647) (hm : M.aMay ⟨n0, n1, (n1 : Int) + (n2 : Int)⟩ = true) (hc : b2 = l.length) (w : World) :
    Calls Try.prog 19 #[.string (S l)] w fun e w' => e = decAV (M.decA l) ∧ Below w.heap.size w w' := by
  have HR0 := Lib.hid ((rowIn_new (akC ak0) 26 w).more (.cells (akC ak0) 26))
  have HA0 := Lib.hid (rowIn_at (akC ak0) 26 (w.alloc (.cells (akC ak0) 26)) (w.heap.size + 1) (by rw [szA]))
  have HB0 := Lib.hid (((Below.refl w.heap.size w).alloc (Nat.le_refl _) (.cells (akC ak0) 26)).alloc (by rw [szA]; omega) (.cells (akC ak0) 26))
  have hp := M.hd_pos (by omega) hh
  have d0 : decide (0 < (l.length : Int)) = true := by simp; omega
  have d1 : (B l 0 == 65) = true := by rw [B_hd, hh]; rfl
  have C1 := Lib.hid (fun W => by have := refGet_any l 1 W (by omega); rw [g0] at this; simp only [tri] at this; exact this)
  have C2 := Lib.hid (fun W => by have := refGet_any l b0 W (by omega); rw [g1] at this; simp only [tri] at this; exact this)
  have C3 := Lib.hid (fun W => by have := refGet_any l b1 W (by omega); rw [g2] at this; simp only [tri] at this; exact this)
  have ht := M.takeN_g g0 g1 g2
  have hd := M.decA_eq hh ht
  simp only [List.getD_cons_zero, List.getD_cons_succ] at hd
  have HX := Lib.hid (show M.decA l = some ⟨n0, n1, (n1 : Int) + (n2 : Int)⟩ from by rw [hd, if_pos ⟨hc, h2, by rw [Int.natCast_add]; exact hm⟩, Int.natCast_add])
  have C4 := Lib.hid (fun W => by have := refEncAck_yes n0 n1 (n1 + n2) (by rw [Int.natCast_add]; exact hm) W; rw [Int.natCast_add] at this; exact this)
  have he := M.encA_take hh ht
  simp only [List.getD_cons_zero, List.getD_cons_succ, Int.natCast_add] at he
  have hq : (M.encA ⟨n0, n1, (n1 : Int) + (n2 : Int)⟩ == l) = true := by rw [beq_iff_eq]; exact he.1.trans ((M.take_eq_self he.2).2 hc)
  clear he
  generalize M.encA ⟨n0, n1, (n1 : Int) + (n2 : Int)⟩ = q at *
  have e1 : decide (2147483647 < (n1 : Int)) = false := by simp; omega
  have e2 : decide (2147483647 < (n2 : Int)) = false := by simp; omega
  have ew : IntKind.i64.wrap ((n1 : Int) + (n2 : Int)) = (n1 : Int) + (n2 : Int) := IntWalk.i64_in _ (by omega)
  clear hd ht g0 g1 g2 hh hm hc
  go_enter Try.func19, Try.ntmps19
  go_wp2_with fail
  with_reducible refine (C1.out _).mono ?_
  rintro e w1 ⟨rfl, hb1⟩
  have HR1 := Lib.hid (HR0.out.below hb1)
  have HA1 := Lib.hid (HA0.out.below hb1)
  have HB1 := Lib.hid (below_step HB0.out hb1)
  clear hb1
  have k1 := HA1.out.cell 0
  have f1 := HA1.out.free 0
  have HA1s := Lib.hid (show RowIn #[.int .i64 n0, .int .i64 0, .int .i64 0] 26 (w1.setCell ⟨w.heap.size + 1, 0, none⟩ (.int .i64 n0)) (w.heap.size + 1) from HA1.out.set 0 (.int .i64 n0))
  have HR1s := Lib.hid (HR1.out.other (c := w.heap.size + 1) (by omega) 0 (.int .i64 n0))
  have HB1s := Lib.hid (HB1.out.setCell (p := ⟨w.heap.size + 1, 0, none⟩) (by simp) (.int .i64 n0))
  go_wp2_with fail
  with_reducible refine (C2.out _).mono ?_
  rintro e w2 ⟨rfl, hb2⟩
  have HR2 := Lib.hid (HR1s.out.below hb2)
  have HA2 := Lib.hid (HA1s.out.below hb2)
  have HB2 := Lib.hid (below_step HB1s.out hb2)
  clear hb2
  have k2 := HA2.out.cell 1
  have f2 := HA2.out.free 1
  have HA2s := Lib.hid (show RowIn #[.int .i64 n0, .int .i64 n1, .int .i64 0] 26 (w2.setCell ⟨w.heap.size + 1, 1, none⟩ (.int .i64 n1)) (w.heap.size + 1) from HA2.out.set 1 (.int .i64 n1))
  have HR2s := Lib.hid (HR2.out.other (c := w.heap.size + 1) (by omega) 1 (.int .i64 n1))
  have HB2s := Lib.hid (HB2.out.setCell (p := ⟨w.heap.size + 1, 1, none⟩) (by simp) (.int .i64 n1))
  go_wp2_with fail
  with_reducible refine (C3.out _).mono ?_
  rintro e w3 ⟨rfl, hb3⟩
  have HR3 := Lib.hid (HR2s.out.below hb3)
  have HA3 := Lib.hid (HA2s.out.below hb3)
  have HB3 := Lib.hid (below_step HB2s.out hb3)
  clear hb3
  have k9 := HA3.out.cell 1
  have k8 := HA3.out.cell 2
  have f8 := HA3.out.free 2
  have HA4 := Lib.hid (show RowIn #[.int .i64 n0, .int .i64 n1, .int .i64 ((n1 : Int) + (n2 : Int))] 26 (w3.setCell ⟨w.heap.size + 1, 2, none⟩ (.int .i64 ((n1 : Int) + (n2 : Int)))) (w.heap.size + 1) from HA3.out.set 2 (.int .i64 ((n1 : Int) + (n2 : Int))))
  have HR4 := Lib.hid (HR3.out.other (c := w.heap.size + 1) (by omega) 2 (.int .i64 ((n1 : Int) + (n2 : Int))))
  have HB4 := Lib.hid (HB3.out.setCell (p := ⟨w.heap.size + 1, 2, none⟩) (by simp) (.int .i64 ((n1 : Int) + (n2 : Int))))
  go_wp2_with (refine wpList_load_row rfl 26 _ rfl (w.heap.size + 1) rfl 26 _ (0, 0) _ HA4.out Try.underlying26 rfl ?_ ?_; kernel_rfl)
  with_reducible refine (C4.out _).mono ?_
  rintro e w5 ⟨rfl, hb5⟩
  have HR5 := Lib.hid (HR4.out.below hb5)
  have HA5 := Lib.hid (HA4.out.below hb5)
  have HB5 := Lib.hid (below_step HB4.out hb5)
  clear hb5
  go_wp2_with (first | (refine wpList_load_row rfl 26 _ rfl (w.heap.size + 1) rfl 26 _ (0, 0) _ HA5.out Try.underlying26 rfl ?_ ?_; kernel_rfl) | (refine wpList_store_row rfl 26 _ _ rfl w.heap.size _ rfl rfl 26 (akC ak0) HR5.out ?_ rfl (akC_one ⟨n0, n1, (n1 : Int) + (n2 : Int)⟩) ?_; kernel_rfl))
  try simp only [Exit.inBlock, Exit.then]
  exact bodyPost_ret (ret_rowP2 rfl _ _ w.heap.size rfl (load_struct Try.underlying26 (by kernel_rfl) (RowIn.rowP HR5.out))) rfl ⟨(by exact decAV_some HX.out), below_setRow HB5.out (Nat.le_refl _) _⟩

theorem refDecAck_any (l : List UInt8) (hl : l.length ≤ 140737488351232) (w : World) :
    Calls Try.prog 19 #[.string (S l)] w fun e w' => e = decAV (M.decA l) ∧ Below w.heap.size w w' := by
  by_cases hh : M.hd l = 65
  · cases g0 : M.gets l 1 with
    | none => exact refDecAck_g1 l hl hh g0 w
    | some r =>
      obtain ⟨n0, b0⟩ := r
      cases g1 : M.gets l b0 with
      | none => exact refDecAck_g2 l hl hh g0 g1 w
      | some r =>
        obtain ⟨n1, b1⟩ := r
        cases g2 : M.gets l b1 with
        | none => exact refDecAck_g3 l hl hh g0 g1 g2 w
        | some r =>
          obtain ⟨n2, b2⟩ := r
          by_cases h1 : n1 ≤ 2147483647
          · by_cases h2 : n2 ≤ 2147483647
            · cases hm : M.aMay ⟨n0, n1, (n1 : Int) + (n2 : Int)⟩ with
              | false => exact refDecAck_no l hl hh g0 g1 g2 h1 h2 hm w
              | true =>
                by_cases hc : b2 = l.length
                · exact refDecAck_yes l hl hh g0 g1 g2 h1 h2 hm hc w
                · exact refDecAck_len l hl hh g0 g1 g2 h1 h2 hm hc w
            · exact refDecAck_m2 l hl hh g0 g1 g2 h1 h2 w
          · exact refDecAck_m1 l hl hh g0 g1 g2 h1 w
  · exact refDecAck_hd l hl hh w

end Go.Proofs.Ytblgfhljaafmhaa
