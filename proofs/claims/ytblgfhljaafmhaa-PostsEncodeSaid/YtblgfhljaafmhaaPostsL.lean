/- Layer 12: the batch of bytes, the document's, by a contract. -/
import Derived.Test.YtblgfhljaafmhaaPostsG
import Derived.Test.YtblgfhljaafmhaaPostsK
namespace Go.Proofs.Ytblgfhljaafmhaa
set_option linter.unusedVariables false
open Go Go.RowKit
attribute [local go_sem ↓] run_index_S
attribute [local go_sem] S_append S_extract

theorem M.may_fits {x : M.Sp} (h : M.mayB x = true) : x.fits := by
  obtain ⟨h1, h2, h3, h4, h5, h6, h7, h8⟩ := M.mayB_parts h
  have h9 := M.nameB_len h4
  have h10 := M.nameB_len h5
  constructor <;> omega
theorem M.takeS_may {k : Nat} {l : List UInt8} {a : Nat} {xs : List M.Sp} {b : Nat} (h : M.takeS k l a = some (xs, b)) : xs.all M.mayB = true ∧ ∀ x ∈ xs, x.fits := by
  have h1 := (M.takeS_takeT h).2.2
  exact ⟨h1, fun x hx => M.may_fits (List.all_eq_true.1 h1 x hx)⟩
theorem M.decB_take {l : List UInt8} (h : M.takeN 3 l 1 = none) : M.decB l = none := M.decB_none (fun x => x.2 h)
theorem encBV_bad {b : M.Bt} (h : M.bOk b = false) : encBV b = Ending.returned (.tuple #[.string ⟨#[]⟩, .int .i64 2]) := (encBV_no h).symm
theorem encBV_good {b : M.Bt} (h : M.bOk b = true) : encBV b = Ending.returned (.tuple #[.string (S (M.encB b)), .int .i64 0]) := (encBV_yes h rfl).symm

set_option maxHeartbeats 1000000 in
set_option maxRecDepth 100000 in
theorem refDecB_hd (l : List UInt8) (hl : l.length ≤ 140737488351232) (hh : M.hd l ≠ 66) (w : World) :
    Calls Try.prog 17 #[.string (S l)] w fun e w' => DecB (M.decB l) w e w' := by
  have HR0 := Lib.hid ((rowIn_new bz 24 w).more (.cells bz 24))
  have HA0 := Lib.hid (rowIn_at bz 24 (w.alloc (.cells bz 24)) (w.heap.size + 1) (by rw [szA]))
  have HB0 := Lib.hid (((Below.refl w.heap.size w).alloc (Nat.le_refl _) (.cells bz 24)).alloc (by rw [szA]; omega) (.cells bz 24))
  have HX := Lib.hid (M.decB_hd hh)
  by_cases h0 : 0 < l.length
  · have d0 : decide (0 < (l.length : Int)) = true := by simp; omega
    have d1 : (B l 0 == 66) = false := by
      have h9 : ((M.hd l : Nat) : Int) ≠ 66 := fun h => hh (by exact_mod_cast h)
      rw [B_hd, beq_eq_false_iff_ne]; exact h9
    clear hh
    go_enter Try.func17, Try.ntmps17
    go_wp2_with (refine wpList_store_row rfl 24 _ _ rfl w.heap.size _ rfl rfl 24 bz HR0.out ?_ rfl bz_one ?_; kernel_rfl)
    try simp only [Exit.inBlock, Exit.then]
    exact bodyPost_ret (ret_rowP2 rfl _ _ w.heap.size rfl (load_struct Try.underlying24 (by kernel_rfl) (RowIn.rowP HR0.out))) rfl (by exact DecB.no HX.out (below_setRow HB0.out (Nat.le_refl _) _))
  · have d0 : decide (0 < (l.length : Int)) = false := decide_eq_false (by omega)
    clear hh
    go_enter Try.func17, Try.ntmps17
    go_wp2_with (refine wpList_store_row rfl 24 _ _ rfl w.heap.size _ rfl rfl 24 bz HR0.out ?_ rfl bz_one ?_; kernel_rfl)
    try simp only [Exit.inBlock, Exit.then]
    exact bodyPost_ret (ret_rowP2 rfl _ _ w.heap.size rfl (load_struct Try.underlying24 (by kernel_rfl) (RowIn.rowP HR0.out))) rfl (by exact DecB.no HX.out (below_setRow HB0.out (Nat.le_refl _) _))

set_option maxHeartbeats 4000000 in
set_option maxRecDepth 100000 in
theorem refDecB_g1 (l : List UInt8) (hl : l.length ≤ 140737488351232) (hh : M.hd l = 66) (g0 : M.gets l 1 = none) (w : World) :
    Calls Try.prog 17 #[.string (S l)] w fun e w' => DecB (M.decB l) w e w' := by
  have HR0 := Lib.hid ((rowIn_new bz 24 w).more (.cells bz 24))
  have HA0 := Lib.hid (rowIn_at bz 24 (w.alloc (.cells bz 24)) (w.heap.size + 1) (by rw [szA]))
  have HB0 := Lib.hid (((Below.refl w.heap.size w).alloc (Nat.le_refl _) (.cells bz 24)).alloc (by rw [szA]; omega) (.cells bz 24))
  have hp := M.hd_pos (by omega) hh
  have d0 : decide (0 < (l.length : Int)) = true := by simp; omega
  have d1 : (B l 0 == 66) = true := by rw [B_hd, hh]; rfl
  have HX := Lib.hid (M.decB_take (M.takeN_g1 g0))
  have C1 := Lib.hid (fun W => by have := refGet_any l 1 W (by omega); rw [g0] at this; simp only [tri] at this; exact this)
  clear hh g0
  go_enter Try.func17, Try.ntmps17
  go_wp2_with fail
  with_reducible refine (C1.out _).mono ?_
  rintro e w1 ⟨rfl, hb1⟩
  have HR1 := Lib.hid (HR0.out.below hb1)
  have HA1 := Lib.hid (HA0.out.below hb1)
  have HB1 := Lib.hid (below_step HB0.out hb1)
  clear hb1
  have k1 := HA1.out.cell 0
  have f1 := HA1.out.free 0
  have HA1s := Lib.hid (show RowIn (btC 0 0 (.slice none 0 0)) 24 (w1.setCell ⟨w.heap.size + 1, 0, none⟩ (.int .i64 0)) (w.heap.size + 1) from HA1.out.set 0 (.int .i64 0))
  have HR1s := Lib.hid (HR1.out.other (c := w.heap.size + 1) (by omega) 0 (.int .i64 0))
  have HB1s := Lib.hid (HB1.out.setCell (p := ⟨w.heap.size + 1, 0, none⟩) (by simp) (.int .i64 0))
  go_wp2_with (refine wpList_store_row rfl 24 _ _ rfl w.heap.size _ rfl rfl 24 bz HR1s.out ?_ rfl bz_one ?_; kernel_rfl)
  try simp only [Exit.inBlock, Exit.then]
  exact bodyPost_ret (ret_rowP2 rfl _ _ w.heap.size rfl (load_struct Try.underlying24 (by kernel_rfl) (RowIn.rowP HR1s.out))) rfl (by exact DecB.no HX.out (below_setRow HB1s.out (Nat.le_refl _) _))

set_option maxHeartbeats 4000000 in
set_option maxRecDepth 100000 in
theorem refDecB_g2 (l : List UInt8) (hl : l.length ≤ 140737488351232) (hh : M.hd l = 66) {n0 b0 : Nat} (g0 : M.gets l 1 = some (n0, b0)) (g1 : M.gets l b0 = none) (w : World) :
    Calls Try.prog 17 #[.string (S l)] w fun e w' => DecB (M.decB l) w e w' := by
  have HR0 := Lib.hid ((rowIn_new bz 24 w).more (.cells bz 24))
  have HA0 := Lib.hid (rowIn_at bz 24 (w.alloc (.cells bz 24)) (w.heap.size + 1) (by rw [szA]))
  have HB0 := Lib.hid (((Below.refl w.heap.size w).alloc (Nat.le_refl _) (.cells bz 24)).alloc (by rw [szA]; omega) (.cells bz 24))
  have hp := M.hd_pos (by omega) hh
  have d0 : decide (0 < (l.length : Int)) = true := by simp; omega
  have d1 : (B l 0 == 66) = true := by rw [B_hd, hh]; rfl
  have HX := Lib.hid (M.decB_take (M.takeN_g2 g0 g1))
  have C1 := Lib.hid (fun W => by have := refGet_any l 1 W (by omega); rw [g0] at this; simp only [tri] at this; exact this)
  have C2 := Lib.hid (fun W => by have := refGet_any l b0 W (by omega); rw [g1] at this; simp only [tri] at this; exact this)
  clear hh g0 g1
  go_enter Try.func17, Try.ntmps17
  go_wp2_with fail
  with_reducible refine (C1.out _).mono ?_
  rintro e w1 ⟨rfl, hb1⟩
  have HR1 := Lib.hid (HR0.out.below hb1)
  have HA1 := Lib.hid (HA0.out.below hb1)
  have HB1 := Lib.hid (below_step HB0.out hb1)
  clear hb1
  have k1 := HA1.out.cell 0
  have f1 := HA1.out.free 0
  have HA1s := Lib.hid (show RowIn (btC n0 0 (.slice none 0 0)) 24 (w1.setCell ⟨w.heap.size + 1, 0, none⟩ (.int .i64 n0)) (w.heap.size + 1) from HA1.out.set 0 (.int .i64 n0))
  have HR1s := Lib.hid (HR1.out.other (c := w.heap.size + 1) (by omega) 0 (.int .i64 n0))
  have HB1s := Lib.hid (HB1.out.setCell (p := ⟨w.heap.size + 1, 0, none⟩) (by simp) (.int .i64 n0))
  go_wp2_with fail
  with_reducible refine (C2.out _).mono ?_
  rintro e w2 ⟨rfl, hb2⟩
  have HR2 := Lib.hid (HR1s.out.below hb2)
  have HA2 := Lib.hid (HA1s.out.below hb2)
  have HB2 := Lib.hid (below_step HB1s.out hb2)
  clear hb2
  have k2 := HA2.out.cell 1
  have f2 := HA2.out.free 1
  have HA2s := Lib.hid (show RowIn (btC n0 0 (.slice none 0 0)) 24 (w2.setCell ⟨w.heap.size + 1, 1, none⟩ (.int .i64 0)) (w.heap.size + 1) from HA2.out.set 1 (.int .i64 0))
  have HR2s := Lib.hid (HR2.out.other (c := w.heap.size + 1) (by omega) 1 (.int .i64 0))
  have HB2s := Lib.hid (HB2.out.setCell (p := ⟨w.heap.size + 1, 1, none⟩) (by simp) (.int .i64 0))
  go_wp2_with (refine wpList_store_row rfl 24 _ _ rfl w.heap.size _ rfl rfl 24 bz HR2s.out ?_ rfl bz_one ?_; kernel_rfl)
  try simp only [Exit.inBlock, Exit.then]
  exact bodyPost_ret (ret_rowP2 rfl _ _ w.heap.size rfl (load_struct Try.underlying24 (by kernel_rfl) (RowIn.rowP HR2s.out))) rfl (by exact DecB.no HX.out (below_setRow HB2s.out (Nat.le_refl _) _))

set_option maxHeartbeats 4000000 in
set_option maxRecDepth 100000 in
theorem refDecB_g3 (l : List UInt8) (hl : l.length ≤ 140737488351232) (hh : M.hd l = 66) {n0 b0 : Nat} (g0 : M.gets l 1 = some (n0, b0)) {n1 b1 : Nat} (g1 : M.gets l b0 = some (n1, b1)) (g2 : M.gets l b1 = none) (w : World) :
    Calls Try.prog 17 #[.string (S l)] w fun e w' => DecB (M.decB l) w e w' := by
  have HR0 := Lib.hid ((rowIn_new bz 24 w).more (.cells bz 24))
  have HA0 := Lib.hid (rowIn_at bz 24 (w.alloc (.cells bz 24)) (w.heap.size + 1) (by rw [szA]))
  have HB0 := Lib.hid (((Below.refl w.heap.size w).alloc (Nat.le_refl _) (.cells bz 24)).alloc (by rw [szA]; omega) (.cells bz 24))
  have hp := M.hd_pos (by omega) hh
  have d0 : decide (0 < (l.length : Int)) = true := by simp; omega
  have d1 : (B l 0 == 66) = true := by rw [B_hd, hh]; rfl
  have HX := Lib.hid (M.decB_take (M.takeN_g3 g0 g1 g2))
  have C1 := Lib.hid (fun W => by have := refGet_any l 1 W (by omega); rw [g0] at this; simp only [tri] at this; exact this)
  have C2 := Lib.hid (fun W => by have := refGet_any l b0 W (by omega); rw [g1] at this; simp only [tri] at this; exact this)
  have C3 := Lib.hid (fun W => by have := refGet_any l b1 W (by omega); rw [g2] at this; simp only [tri] at this; exact this)
  clear hh g0 g1 g2
  go_enter Try.func17, Try.ntmps17
  go_wp2_with fail
  with_reducible refine (C1.out _).mono ?_
  rintro e w1 ⟨rfl, hb1⟩
  have HR1 := Lib.hid (HR0.out.below hb1)
  have HA1 := Lib.hid (HA0.out.below hb1)
  have HB1 := Lib.hid (below_step HB0.out hb1)
  clear hb1
  have k1 := HA1.out.cell 0
  have f1 := HA1.out.free 0
  have HA1s := Lib.hid (show RowIn (btC n0 0 (.slice none 0 0)) 24 (w1.setCell ⟨w.heap.size + 1, 0, none⟩ (.int .i64 n0)) (w.heap.size + 1) from HA1.out.set 0 (.int .i64 n0))
  have HR1s := Lib.hid (HR1.out.other (c := w.heap.size + 1) (by omega) 0 (.int .i64 n0))
  have HB1s := Lib.hid (HB1.out.setCell (p := ⟨w.heap.size + 1, 0, none⟩) (by simp) (.int .i64 n0))
  go_wp2_with fail
  with_reducible refine (C2.out _).mono ?_
  rintro e w2 ⟨rfl, hb2⟩
  have HR2 := Lib.hid (HR1s.out.below hb2)
  have HA2 := Lib.hid (HA1s.out.below hb2)
  have HB2 := Lib.hid (below_step HB1s.out hb2)
  clear hb2
  have k2 := HA2.out.cell 1
  have f2 := HA2.out.free 1
  have HA2s := Lib.hid (show RowIn (btC n0 n1 (.slice none 0 0)) 24 (w2.setCell ⟨w.heap.size + 1, 1, none⟩ (.int .i64 n1)) (w.heap.size + 1) from HA2.out.set 1 (.int .i64 n1))
  have HR2s := Lib.hid (HR2.out.other (c := w.heap.size + 1) (by omega) 1 (.int .i64 n1))
  have HB2s := Lib.hid (HB2.out.setCell (p := ⟨w.heap.size + 1, 1, none⟩) (by simp) (.int .i64 n1))
  go_wp2_with fail
  with_reducible refine (C3.out _).mono ?_
  rintro e w3 ⟨rfl, hb3⟩
  have HR3 := Lib.hid (HR2s.out.below hb3)
  have HA3 := Lib.hid (HA2s.out.below hb3)
  have HB3 := Lib.hid (below_step HB2s.out hb3)
  clear hb3
  go_wp2_with (refine wpList_store_row rfl 24 _ _ rfl w.heap.size _ rfl rfl 24 bz HR3.out ?_ rfl bz_one ?_; kernel_rfl)
  try simp only [Exit.inBlock, Exit.then]
  exact bodyPost_ret (ret_rowP2 rfl _ _ w.heap.size rfl (load_struct Try.underlying24 (by kernel_rfl) (RowIn.rowP HR3.out))) rfl (by exact DecB.no HX.out (below_setRow HB3.out (Nat.le_refl _) _))

set_option maxHeartbeats 4000000 in
set_option maxRecDepth 100000 in
theorem refDecB_m8 (l : List UInt8) (hl : l.length ≤ 140737488351232) (hh : M.hd l = 66) {n0 b0 n1 b1 n2 b2 : Nat} (g0 : M.gets l 1 = some (n0, b0)) (g1 : M.gets l b0 = some (n1, b1)) (g2 : M.gets l b1 = some (n2, b2)) (h8 : 8 < n2) (w : World) :
    Calls Try.prog 17 #[.string (S l)] w fun e w' => DecB (M.decB l) w e w' := by
  have HR0 := Lib.hid ((rowIn_new bz 24 w).more (.cells bz 24))
  have HA0 := Lib.hid (rowIn_at bz 24 (w.alloc (.cells bz 24)) (w.heap.size + 1) (by rw [szA]))
  have HB0 := Lib.hid (((Below.refl w.heap.size w).alloc (Nat.le_refl _) (.cells bz 24)).alloc (by rw [szA]; omega) (.cells bz 24))
  have hp := M.hd_pos (by omega) hh
  have d0 : decide (0 < (l.length : Int)) = true := by simp; omega
  have d1 : (B l 0 == 66) = true := by rw [B_hd, hh]; rfl
  have C1 := Lib.hid (fun W => by have := refGet_any l 1 W (by omega); rw [g0] at this; simp only [tri] at this; exact this)
  have C2 := Lib.hid (fun W => by have := refGet_any l b0 W (by omega); rw [g1] at this; simp only [tri] at this; exact this)
  have C3 := Lib.hid (fun W => by have := refGet_any l b1 W (by omega); rw [g2] at this; simp only [tri] at this; exact this)
  have ht := M.takeN_g g0 g1 g2
  have h8n := M.decB_eight hh ht
  have heq := M.decB_eq hh ht
  simp only [List.getD_cons_zero, List.getD_cons_succ] at h8n heq
  have HX := Lib.hid (h8n h8)
  have d8 : decide (8 < (n2 : Int)) = true := by simp; omega
  clear h8n heq ht g0 g1 g2 hh
  go_enter Try.func17, Try.ntmps17
  go_wp2_with fail
  with_reducible refine (C1.out _).mono ?_
  rintro e w1 ⟨rfl, hb1⟩
  have HR1 := Lib.hid (HR0.out.below hb1)
  have HA1 := Lib.hid (HA0.out.below hb1)
  have HB1 := Lib.hid (below_step HB0.out hb1)
  clear hb1
  have k1 := HA1.out.cell 0
  have f1 := HA1.out.free 0
  have HA1s := Lib.hid (show RowIn (btC n0 0 (.slice none 0 0)) 24 (w1.setCell ⟨w.heap.size + 1, 0, none⟩ (.int .i64 n0)) (w.heap.size + 1) from HA1.out.set 0 (.int .i64 n0))
  have HR1s := Lib.hid (HR1.out.other (c := w.heap.size + 1) (by omega) 0 (.int .i64 n0))
  have HB1s := Lib.hid (HB1.out.setCell (p := ⟨w.heap.size + 1, 0, none⟩) (by simp) (.int .i64 n0))
  go_wp2_with fail
  with_reducible refine (C2.out _).mono ?_
  rintro e w2 ⟨rfl, hb2⟩
  have HR2 := Lib.hid (HR1s.out.below hb2)
  have HA2 := Lib.hid (HA1s.out.below hb2)
  have HB2 := Lib.hid (below_step HB1s.out hb2)
  clear hb2
  have k2 := HA2.out.cell 1
  have f2 := HA2.out.free 1
  have HA2s := Lib.hid (show RowIn (btC n0 n1 (.slice none 0 0)) 24 (w2.setCell ⟨w.heap.size + 1, 1, none⟩ (.int .i64 n1)) (w.heap.size + 1) from HA2.out.set 1 (.int .i64 n1))
  have HR2s := Lib.hid (HR2.out.other (c := w.heap.size + 1) (by omega) 1 (.int .i64 n1))
  have HB2s := Lib.hid (HB2.out.setCell (p := ⟨w.heap.size + 1, 1, none⟩) (by simp) (.int .i64 n1))
  go_wp2_with fail
  with_reducible refine (C3.out _).mono ?_
  rintro e w3 ⟨rfl, hb3⟩
  have HR3 := Lib.hid (HR2s.out.below hb3)
  have HA3 := Lib.hid (HA2s.out.below hb3)
  have HB3 := Lib.hid (below_step HB2s.out hb3)
  clear hb3
  go_wp2_with (refine wpList_store_row rfl 24 _ _ rfl w.heap.size _ rfl rfl 24 bz HR3.out ?_ rfl bz_one ?_; kernel_rfl)
  try simp only [Exit.inBlock, Exit.then]
  exact bodyPost_ret (ret_rowP2 rfl _ _ w.heap.size rfl (load_struct Try.underlying24 (by kernel_rfl) (RowIn.rowP HR3.out))) rfl (by exact DecB.no HX.out (below_setRow HB3.out (Nat.le_refl _) _))

set_option maxHeartbeats 4000000 in
set_option maxRecDepth 100000 in
theorem refDecB_loop (l : List UInt8) (hl : l.length ≤ 140737488351232) (hh : M.hd l = 66) {n0 b0 n1 b1 n2 b2 : Nat} (g0 : M.gets l 1 = some (n0, b0)) (g1 : M.gets l b0 = some (n1, b1)) (g2 : M.gets l b1 = some (n2, b2)) (h8 : ¬ 8 < n2) (w : World) :
    Calls Try.prog 17 #[.string (S l)] w fun e w' => DecB (M.decB l) w e w' := by
  have HR0 := Lib.hid ((rowIn_new bz 24 w).more (.cells bz 24))
  have HA0 := Lib.hid (rowIn_at bz 24 (w.alloc (.cells bz 24)) (w.heap.size + 1) (by rw [szA]))
  have HB0 := Lib.hid (((Below.refl w.heap.size w).alloc (Nat.le_refl _) (.cells bz 24)).alloc (by rw [szA]; omega) (.cells bz 24))
  have hp := M.hd_pos (by omega) hh
  have d0 : decide (0 < (l.length : Int)) = true := by simp; omega
  have d1 : (B l 0 == 66) = true := by rw [B_hd, hh]; rfl
  have C1 := Lib.hid (fun W => by have := refGet_any l 1 W (by omega); rw [g0] at this; simp only [tri] at this; exact this)
  have C2 := Lib.hid (fun W => by have := refGet_any l b0 W (by omega); rw [g1] at this; simp only [tri] at this; exact this)
  have C3 := Lib.hid (fun W => by have := refGet_any l b1 W (by omega); rw [g2] at this; simp only [tri] at this; exact this)
  have ht := M.takeN_g g0 g1 g2
  have h8n := M.decB_eight hh ht
  have heq := M.decB_eq hh ht
  simp only [List.getD_cons_zero, List.getD_cons_succ] at h8n heq
  have HD := Lib.hid (heq h8)
  have HNO : Hid (∀ k, k ≤ n2 → M.takeS k l b2 = none → M.decB l = none) := Lib.hid (fun k hk h => by rw [HD.out, M.takeS_none h hk])
  have HE := Lib.hid (fun (xs : List M.Sp) (c : Nat) (h2 : M.takeS n2 l b2 = some (xs, c)) => by have := M.encB_take hh ht (show M.takeS ([n0, n1, n2].getD 2 0) l b2 = some (xs, c) from h2); simp only [List.getD_cons_zero, List.getD_cons_succ] at this; exact this)
  have d8 : decide (8 < (n2 : Int)) = false := by simp; omega
  obtain ⟨i0, z0, hi, hz0, hz1, hz2, hz3⟩ := infoSp_parts
  clear h8n heq ht g0 g1 g2 hh
  go_enter Try.func17, Try.ntmps17
  go_wp2_with fail
  with_reducible refine (C1.out _).mono ?_
  rintro e w1 ⟨rfl, hb1⟩
  have HR1 := Lib.hid (HR0.out.below hb1)
  have HA1 := Lib.hid (HA0.out.below hb1)
  have HB1 := Lib.hid (below_step HB0.out hb1)
  clear hb1
  have k1 := HA1.out.cell 0
  have f1 := HA1.out.free 0
  have HA1s := Lib.hid (show RowIn (btC n0 0 (.slice none 0 0)) 24 (w1.setCell ⟨w.heap.size + 1, 0, none⟩ (.int .i64 n0)) (w.heap.size + 1) from HA1.out.set 0 (.int .i64 n0))
  have HR1s := Lib.hid (HR1.out.other (c := w.heap.size + 1) (by omega) 0 (.int .i64 n0))
  have HB1s := Lib.hid (HB1.out.setCell (p := ⟨w.heap.size + 1, 0, none⟩) (by simp) (.int .i64 n0))
  go_wp2_with fail
  with_reducible refine (C2.out _).mono ?_
  rintro e w2 ⟨rfl, hb2⟩
  have HR2 := Lib.hid (HR1s.out.below hb2)
  have HA2 := Lib.hid (HA1s.out.below hb2)
  have HB2 := Lib.hid (below_step HB1s.out hb2)
  clear hb2
  have k2 := HA2.out.cell 1
  have f2 := HA2.out.free 1
  have HA2s := Lib.hid (show RowIn (btC n0 n1 (.slice none 0 0)) 24 (w2.setCell ⟨w.heap.size + 1, 1, none⟩ (.int .i64 n1)) (w.heap.size + 1) from HA2.out.set 1 (.int .i64 n1))
  have HR2s := Lib.hid (HR2.out.other (c := w.heap.size + 1) (by omega) 1 (.int .i64 n1))
  have HB2s := Lib.hid (HB2.out.setCell (p := ⟨w.heap.size + 1, 1, none⟩) (by simp) (.int .i64 n1))
  go_wp2_with fail
  with_reducible refine (C3.out _).mono ?_
  rintro e w3 ⟨rfl, hb3⟩
  have HR3 := Lib.hid (HR2s.out.below hb3)
  have HA3 := Lib.hid (HA2s.out.below hb3)
  have HB3 := Lib.hid (below_step HB2s.out hb3)
  clear hb3
  go_wp2_with fail
  have HGW := Lib.hid (show w.heap.size < (w.heap.size + 1) from Nat.lt_succ_self _)
  go_loopw [6, 8] (fun p i wr => ∃ (k : Nat) (xs : List M.Sp) (a : Nat) (ao : Option Addr) (cap : Nat), k ≤ n2 ∧ p = .int .i64 a ∧ i = .int .i64 k ∧ M.takeS k l b2 = some (xs, a) ∧ RowIn (btC n0 n1 (.slice ao k cap)) 24 wr (w.heap.size + 1) ∧ RowIn bz 24 wr w.heap.size ∧ wr.ownsRow (w.heap.size + 1 + 1) 29 8 (.slice ao k cap) k (sps xs) ∧ Below w.heap.size w wr) (fun _ i _ => n2 - (intOf i).toNat)
  case atStart => exact ⟨0, [], b2, none, 0, by omega, rfl, rfl, rfl, HA3.out, HR3.out, World.ownsRow_nil _ _ _ _, HB3.out⟩
  case round =>
    rename_i wr
    obtain ⟨k, xs, a, ao, cap, hk, rfl, rfl, ht, hR, hO, hW, hb⟩ := hrel
    have HT := Lib.hid ht
    have HRr := Lib.hid hR
    have HOr := Lib.hid hO
    have HWr := Lib.hid hW
    have HBr := Lib.hid hb
    have hgl := hR.lt
    have hwl := hO.lt
    clear ht hR hO hW hb
    by_cases hlt : k < n2
    · have hdk : decide ((k : Int) < (n2 : Int)) = true := by simp; omega
      cases hg : M.getTs l a with
      | none =>
        have CG := Lib.hid (fun W => by have := refGetText_any l a W (by omega); rw [hg] at this; simp only [triT] at this; exact this)
        have HX := Lib.hid (HNO.out (k + 1) (by omega) (by simp only [M.takeS, HT.out, hg]))
        obtain ⟨x, hx⟩ : ∃ x, x = decX (M.dec []) := ⟨_, rfl⟩
        have CD := Lib.hid (fun W => by have := refDecode_any [] (by first | omega | decide) W; rw [← hx] at this; exact this)
        clear hg hx
        go_wp2_with fail
        with_reducible refine (CG.out _).mono ?_
        rintro e w3 ⟨rfl, hb3⟩
        have HR3 := Lib.hid (HRr.out.below hb3)
        have HO3 := Lib.hid (HOr.out.below hb3)
        have HW3 := Lib.hid (ownP_below HWr.out hb3)
        have HB3 := Lib.hid (below_step HBr.out hb3)
        clear hb3
        go_wp2_with fail
        with_reducible refine (CD.out _).mono ?_
        rintro e w4 ⟨rfl, hb4⟩
        have HR4 := Lib.hid (HR3.out.below hb4)
        have HO4 := Lib.hid (HO3.out.below hb4)
        have HW4 := Lib.hid (ownP_below HW3.out hb4)
        have HB4 := Lib.hid (below_step HB3.out hb4)
        clear hb4
        go_wp2_with (first | (refine wpList_store_hid rfl 29 _ _ rfl w4.heap.size _ rfl rfl 29 (spC M.sp0) (spIn_new w4) ?_ rfl (spC_one x) ?_; kernel_rfl; intro w5 hr5 hbel5 hoth5 hsz5; have hb5 := hbel5 w4.heap.size w4 (Nat.le_refl _) ((Below.refl _ _).alloc (Nat.le_refl _) _); have HX5 := Lib.hid (show RowIn #[.int .i64 x.trace, .int .i64 x.id, .int .i64 x.parent, .string (S x.svc), .string (S x.host), .int .i64 x.start, .int .i64 x.dur, .string (S x.note)] 29 w5 w4.heap.size from hr5); have HR5 := Lib.hid (HR4.out.below hb5); have HO5 := Lib.hid (HO4.out.below hb5); have HW5 := Lib.hid (ownP_below HW4.out hb5); have HB5 := Lib.hid (below_step HB4.out hb5); clear hr5 hbel5 hoth5 hsz5 hb5) | (refine wpList_store_row rfl 24 _ _ rfl w.heap.size _ rfl rfl 24 bz HO5.out ?_ rfl bz_one ?_; kernel_rfl))
        try simp only [Exit.inBlock, Exit.then]
        exact bodyPost_ret (ret_rowP2 rfl _ _ w.heap.size rfl (load_struct Try.underlying24 (by kernel_rfl) (RowIn.rowP HO5.out))) rfl (by exact DecB.no HX.out (below_setRow HB5.out (Nat.le_refl _) _))
      | some r =>
        obtain ⟨t, c⟩ := r
        have CG := Lib.hid (fun W => by have := refGetText_any l a W (by omega); rw [hg] at this; simp only [triT] at this; exact this)
        have hlen := M.getTs_len hg
        cases hd : M.dec t with
        | none =>
          have HX := Lib.hid (HNO.out (k + 1) (by omega) (by simp only [M.takeS, HT.out, hg, hd]))
          obtain ⟨x, hx⟩ : ∃ x, x = M.sp0 := ⟨_, rfl⟩
          have CD := Lib.hid (fun W => by have := refDecode_any t (by first | omega | decide) W; rw [hd] at this; simp only [decX, decE] at this; rw [← hx] at this; exact this)
          clear hg hd hx
          go_wp2_with fail
          with_reducible refine (CG.out _).mono ?_
          rintro e w3 ⟨rfl, hb3⟩
          have HR3 := Lib.hid (HRr.out.below hb3)
          have HO3 := Lib.hid (HOr.out.below hb3)
          have HW3 := Lib.hid (ownP_below HWr.out hb3)
          have HB3 := Lib.hid (below_step HBr.out hb3)
          clear hb3
          go_wp2_with fail
          with_reducible refine (CD.out _).mono ?_
          rintro e w4 ⟨rfl, hb4⟩
          have HR4 := Lib.hid (HR3.out.below hb4)
          have HO4 := Lib.hid (HO3.out.below hb4)
          have HW4 := Lib.hid (ownP_below HW3.out hb4)
          have HB4 := Lib.hid (below_step HB3.out hb4)
          clear hb4
          go_wp2_with (first | (refine wpList_store_hid rfl 29 _ _ rfl w4.heap.size _ rfl rfl 29 (spC M.sp0) (spIn_new w4) ?_ rfl (spC_one x) ?_; kernel_rfl; intro w5 hr5 hbel5 hoth5 hsz5; have hb5 := hbel5 w4.heap.size w4 (Nat.le_refl _) ((Below.refl _ _).alloc (Nat.le_refl _) _); have HX5 := Lib.hid (show RowIn #[.int .i64 x.trace, .int .i64 x.id, .int .i64 x.parent, .string (S x.svc), .string (S x.host), .int .i64 x.start, .int .i64 x.dur, .string (S x.note)] 29 w5 w4.heap.size from hr5); have HR5 := Lib.hid (HR4.out.below hb5); have HO5 := Lib.hid (HO4.out.below hb5); have HW5 := Lib.hid (ownP_below HW4.out hb5); have HB5 := Lib.hid (below_step HB4.out hb5); clear hr5 hbel5 hoth5 hsz5 hb5) | (refine wpList_store_row rfl 24 _ _ rfl w.heap.size _ rfl rfl 24 bz HO5.out ?_ rfl bz_one ?_; kernel_rfl))
          try simp only [Exit.inBlock, Exit.then]
          exact bodyPost_ret (ret_rowP2 rfl _ _ w.heap.size rfl (load_struct Try.underlying24 (by kernel_rfl) (RowIn.rowP HO5.out))) rfl (by exact DecB.no HX.out (below_setRow HB5.out (Nat.le_refl _) _))
        | some x =>
          have HTS := Lib.hid (show M.takeS (k + 1) l b2 = some (xs ++ [x], c) from by simp only [M.takeS, HT.out, hg, hd])
          have CD := Lib.hid (fun W => by have := refDecode_any t (by first | omega | decide) W; rw [hd] at this; simp only [decX, decE] at this; exact this)
          clear hg hd
          go_wp2_with fail
          with_reducible refine (CG.out _).mono ?_
          rintro e w3 ⟨rfl, hb3⟩
          have HR3 := Lib.hid (HRr.out.below hb3)
          have HO3 := Lib.hid (HOr.out.below hb3)
          have HW3 := Lib.hid (ownP_below HWr.out hb3)
          have HB3 := Lib.hid (below_step HBr.out hb3)
          clear hb3
          go_wp2_with fail
          with_reducible refine (CD.out _).mono ?_
          rintro e w4 ⟨rfl, hb4⟩
          have HR4 := Lib.hid (HR3.out.below hb4)
          have HO4 := Lib.hid (HO3.out.below hb4)
          have HW4 := Lib.hid (ownP_below HW3.out hb4)
          have HB4 := Lib.hid (below_step HB3.out hb4)
          clear hb4
          go_wp2_with (first | (refine wpList_store_hid rfl 29 _ _ rfl w4.heap.size _ rfl rfl 29 (spC M.sp0) (spIn_new w4) ?_ rfl (spC_one x) ?_; kernel_rfl; intro w5 hr5 hbel5 hoth5 hsz5; have hb5 := hbel5 w4.heap.size w4 (Nat.le_refl _) ((Below.refl _ _).alloc (Nat.le_refl _) _); have HX5 := Lib.hid (show RowIn #[.int .i64 x.trace, .int .i64 x.id, .int .i64 x.parent, .string (S x.svc), .string (S x.host), .int .i64 x.start, .int .i64 x.dur, .string (S x.note)] 29 w5 w4.heap.size from hr5); have HR5 := Lib.hid (HR4.out.below hb5); have HO5 := Lib.hid (HO4.out.below hb5); have HW5 := Lib.hid (ownP_below HW4.out hb5); have HB5 := Lib.hid (below_step HB4.out hb5); have k9 : w5.cell? ⟨(w.heap.size + 1), 2, none⟩ = some (.slice ao k cap) := HR5.out.cell 2; clear hr5 hbel5 hoth5 hsz5 hb5) | (refine wpList_load_row rfl 29 _ rfl w4.heap.size rfl 29 _ (0, 0) _ HX5.out Try.underlying29 rfl ?_ ?_; kernel_rfl) | (at_builtin; refine wpList_append_own _ rfl _ _ 22 rfl ((w.heap.size + 1) + 1) 29 i0 z0 8 88 Try.underlying22 hi hz0 hz1 hz2 hz3 (by decide) (.slice ao k cap) k (sps xs) rfl (HW5.out.alloc _) ⟨w5.heap.size, 0, none⟩ 1 1 (spL x) rfl rfl (sp_new _ _ _) (spL_one x) (by unfold maxLen; omega) (by omega) (by have h9 := HR5.out.lt; rw [szA]; omega) ?_; intro v6 w6 hown6 hgrow6 hnil6; obtain ⟨ao6, cap6, rfl⟩ := ownP_shape hown6; have HR6 := Lib.hid (((HR5.out.more (.cells #[.int .i64 x.trace, .int .i64 x.id, .int .i64 x.parent, .string (S x.svc), .string (S x.host), .int .i64 x.start, .int .i64 x.dur, .string (S x.note)] 29)).grownP hgrow6 (fun q hq h => by have h9 := (HW5.out.lt q hq).1; omega))); have HO6 := Lib.hid (((HO5.out.more (.cells #[.int .i64 x.trace, .int .i64 x.id, .int .i64 x.parent, .string (S x.svc), .string (S x.host), .int .i64 x.start, .int .i64 x.dur, .string (S x.note)] 29)).grownP hgrow6 (fun q hq h => by have h9 := (HW5.out.lt q hq).1; have h8 := HGW.out; omega))); have HW6 := Lib.hid (show w6.ownsRow ((w.heap.size + 1) + 1) 29 8 (.slice ao6 (k + 1) cap6) (k + 1) (sps (xs ++ [x])) from by rw [sps_append, sps_one]; exact hown6); have HB6 := Lib.hid ((HB5.out.alloc HB5.out.size _).grown hgrow6 (by have h9 := HB5.out.size; rw [szA]; omega) (fun q hq => by have h9 := (HW5.out.lt q hq).1; have h8 := HGW.out; omega)); have k8 : w6.cell? ⟨(w.heap.size + 1), 2, none⟩ = some (.slice ao k cap) := HR6.out.cell 2; have f8 := HR6.out.free 2; clear hown6 hgrow6 hnil6))
          go_roundw
          case rel =>
            refine ⟨k + 1, xs ++ [x], c, ao6, cap6, by omega, rfl, by go_num, HTS.out, HR6.out.set 2 (.slice ao6 (k + 1 : Nat) cap6), HO6.out.other (c := (w.heap.size + 1)) (by have h8 := HGW.out; omega) _ _, ownP_set HW6.out (by omega) _ _, HB6.out.setCell (by have h8 := HGW.out; simp <;> omega) _⟩
          case measure => simp [intOf]; omega
    · obtain rfl : k = n2 := by omega
      have hdk : decide ((k : Int) < (k : Int)) = false := by simp
      have hL := M.takeS_len HT.out
      obtain ⟨hall, hfit⟩ := M.takeS_may HT.out
      obtain ⟨he1, he2, -, -⟩ := HE.out xs a HT.out
      have hDX : M.decB l = if a = l.length ∧ M.bMay ⟨n0, n1, xs⟩ = true then some ⟨n0, n1, xs⟩ else none := by rw [HD.out, HT.out]
      subst hL
      have k2 : wr.cell? ⟨(w.heap.size + 1), 2, none⟩ = some (.slice ao xs.length cap) := HRr.out.cell 2
      have hs := spsAt_own HWr.out rfl
      have c5 := fun (W : World) (hs' : SpsAt W ao xs) => refEncBatch_any ⟨n0, n1, xs⟩ ao cap W (by dsimp only; omega) hfit hs'
      dsimp only at c5
      cases hm : M.bMay ⟨n0, n1, xs⟩ with
      | false =>
        have HX := Lib.hid (show M.decB l = none from by rw [hDX, hm]; simp)
        rw [encBV_bad (M.bOk_no1 hm)] at c5
        have C5 := Lib.hid (c5 wr hs)
        clear hDX hm c5 he1 hs hfit hall
        go_wp2_with (refine wpList_load_row rfl 24 _ rfl (w.heap.size + 1) rfl 24 _ (0, 0) _ (show RowIn #[.int .i64 n0, .int .i64 n1, .slice ao xs.length cap] 24 _ (w.heap.size + 1) from HRr.out) Try.underlying24 rfl ?_ ?_; kernel_rfl)
        with_reducible refine (C5.out).mono ?_
        rintro e w5 ⟨rfl, hb5⟩
        have HO5 := Lib.hid (HOr.out.below hb5)
        have HB5 := Lib.hid (below_step HBr.out hb5)
        clear hb5 k2
        go_wp2_with (refine wpList_store_row rfl 24 _ _ rfl w.heap.size _ rfl rfl 24 bz HO5.out ?_ rfl bz_one ?_; kernel_rfl)
        try simp only [Exit.inBlock, Exit.then]
        exact bodyPost_ret (ret_rowP2 rfl _ _ w.heap.size rfl (load_struct Try.underlying24 (by kernel_rfl) (RowIn.rowP HO5.out))) rfl (by exact DecB.no HX.out (below_setRow HB5.out (Nat.le_refl _) _))
      | true =>
        rw [encBV_good (M.bOk_of hm hall)] at c5
        have C5 := Lib.hid (c5 wr hs)
        by_cases ha : a = l.length
        · have HX := Lib.hid (show M.decB l = some ⟨n0, n1, xs⟩ from by rw [hDX, hm]; simp [ha])
          have hq : (M.encB ⟨n0, n1, xs⟩ == l) = true := by rw [beq_iff_eq, he1]; exact (M.take_eq_self he2).2 ha
          clear hDX hm c5 he1 hs hfit hall
          generalize M.encB ⟨n0, n1, xs⟩ = q at *
          go_wp2_with (refine wpList_load_row rfl 24 _ rfl (w.heap.size + 1) rfl 24 _ (0, 0) _ (show RowIn #[.int .i64 n0, .int .i64 n1, .slice ao xs.length cap] 24 _ (w.heap.size + 1) from HRr.out) Try.underlying24 rfl ?_ ?_; kernel_rfl)
          with_reducible refine (C5.out).mono ?_
          rintro e w5 ⟨rfl, hb5⟩
          have HR5 := Lib.hid (HRr.out.below hb5)
          have HO5 := Lib.hid (HOr.out.below hb5)
          have HB5 := Lib.hid (below_step HBr.out hb5)
          have HW5 := Lib.hid (ownP_below HWr.out hb5)
          clear hb5 k2
          go_wp2_with (first | (refine wpList_load_row rfl 24 _ rfl (w.heap.size + 1) rfl 24 _ (0, 0) _ (show RowIn #[.int .i64 n0, .int .i64 n1, .slice ao xs.length cap] 24 _ (w.heap.size + 1) from HR5.out) Try.underlying24 rfl ?_ ?_; kernel_rfl) | (refine wpList_store_row rfl 24 _ _ rfl w.heap.size _ rfl rfl 24 bz HO5.out ?_ rfl (btC_one n0 n1 ao xs.length cap) ?_; kernel_rfl))
          try simp only [Exit.inBlock, Exit.then]
          exact bodyPost_ret (ret_rowP2 rfl _ _ w.heap.size rfl (load_struct Try.underlying24 (by kernel_rfl) (RowIn.rowP HO5.out))) rfl (by exact DecB.yes HX.out rfl (ownP_mono (ownP_row HW5.out (by omega) _) (by omega)) (below_setRow HB5.out (Nat.le_refl _) _))
        · have HX := Lib.hid (show M.decB l = none from by rw [hDX, if_neg (fun h => ha h.1)])
          have hq : (M.encB ⟨n0, n1, xs⟩ == l) = false := by rw [beq_eq_false_iff_ne, he1]; exact fun h => ha ((M.take_eq_self he2).1 h)
          clear hDX hm c5 he1 hs hfit hall
          generalize M.encB ⟨n0, n1, xs⟩ = q at *
          go_wp2_with (refine wpList_load_row rfl 24 _ rfl (w.heap.size + 1) rfl 24 _ (0, 0) _ (show RowIn #[.int .i64 n0, .int .i64 n1, .slice ao xs.length cap] 24 _ (w.heap.size + 1) from HRr.out) Try.underlying24 rfl ?_ ?_; kernel_rfl)
          with_reducible refine (C5.out).mono ?_
          rintro e w5 ⟨rfl, hb5⟩
          have HO5 := Lib.hid (HOr.out.below hb5)
          have HB5 := Lib.hid (below_step HBr.out hb5)
          clear hb5 k2
          go_wp2_with (refine wpList_store_row rfl 24 _ _ rfl w.heap.size _ rfl rfl 24 bz HO5.out ?_ rfl bz_one ?_; kernel_rfl)
          try simp only [Exit.inBlock, Exit.then]
          exact bodyPost_ret (ret_rowP2 rfl _ _ w.heap.size rfl (load_struct Try.underlying24 (by kernel_rfl) (RowIn.rowP HO5.out))) rfl (by exact DecB.no HX.out (below_setRow HB5.out (Nat.le_refl _) _))

theorem refDecBatch_any (l : List UInt8) (hl : l.length ≤ 140737488351232) (w : World) :
    Calls Try.prog 17 #[.string (S l)] w fun e w' => DecB (M.decB l) w e w' := by
  by_cases hh : M.hd l = 66
  · cases g0 : M.gets l 1 with
    | none => exact refDecB_g1 l hl hh g0 w
    | some r =>
      obtain ⟨n0, b0⟩ := r
      cases g1 : M.gets l b0 with
      | none => exact refDecB_g2 l hl hh g0 g1 w
      | some r =>
        obtain ⟨n1, b1⟩ := r
        cases g2 : M.gets l b1 with
        | none => exact refDecB_g3 l hl hh g0 g1 g2 w
        | some r =>
          obtain ⟨n2, b2⟩ := r
          by_cases h8 : 8 < n2
          · exact refDecB_m8 l hl hh g0 g1 g2 h8 w
          · exact refDecB_loop l hl hh g0 g1 g2 h8 w
  · exact refDecB_hd l hl hh w

end Go.Proofs.Ytblgfhljaafmhaa
