/- Layer 8: keys.Parse, by a contract: an index cell's key; whatever else. -/
import Derived.Test.YtjlddackpckmfaaKeysP2
namespace Go.Proofs.Ytjlddackpckmfaa
set_option linter.unusedVariables false
open Go Go.RowKit Go.Sort
attribute [local go_sem ↓] run_index_S
attribute [local go_sem] S_append S_extract

set_option maxHeartbeats 2000000 in
set_option maxRecDepth 100000 in
theorem parse_c (l : List UInt8) (h1 : l.head? ≠ some 115) (h2 : l.head? ≠ some 120) (w : World) :
    Calls Try.prog 36 #[.string (S l)] w fun e w' => e = .returned (ptR (M.parse l)) ∧ Below w.heap.size w w' := by
  have hpar : M.parse l = none := by
    cases l with
    | nil => rfl
    | cons k rest => rw [M.parse, if_neg (fun e => h1 (by rw [e]; rfl)), if_neg (fun e => h2 (by rw [e]; rfl))]
  rw [hpar, ptR_none]
  clear hpar
  have CP := Lib.hid (fun W => cutPrefix_no 115 l h1 W)
  have CN := Lib.hid (fun W => names_no l h2 W)
  have b115 : B [115] 0 = 115 := rfl
  have b120 : B [120] 0 = 120 := rfl
  have HP0 := Lib.hid (rowIn_at pt0 65 (w.alloc (.cells pt0 65)) (w.heap.size + 1) (by simp))
  have HR1 := Lib.hid (((rowIn_new pt0 65 w).more (.cells pt0 65)).rowAbove (c := w.heap.size + 1) (D := #[.int .u8 115, .int .i64 0, .int .i64 0, .int .i64 0, .string ⟨#[]⟩, .string ⟨#[]⟩]) (by omega))
  have HP1 := Lib.hid (HP0.out.row (D := #[.int .u8 115, .int .i64 0, .int .i64 0, .int .i64 0, .string ⟨#[]⟩, .string ⟨#[]⟩]))
  have HB1 := Lib.hid (below_setRow (g := w.heap.size + 1) (((Below.refl w.heap.size w).alloc (Nat.le_refl _) (.cells pt0 65)).alloc (by simp) (.cells pt0 65)) (by omega) #[.int .u8 115, .int .i64 0, .int .i64 0, .int .i64 0, .string ⟨#[]⟩, .string ⟨#[]⟩])
  go_enter Try.func36, Try.ntmps36
  go_wp2_with ((with_reducible show wpList _ _ _ _ _ _); refine wpList_store_row rfl 65 _ _ rfl (w.heap.size + 1) _ rfl rfl 65 pt0 HP0.out ?_ rfl ?_ ?_; kernel_rfl; simp [Value.oneCell'])
  generalize ((w.alloc (.cells pt0 65)).alloc (.cells pt0 65)).setRow (w.heap.size + 1) #[.int .u8 115, .int .i64 0, .int .i64 0, .int .i64 0, .string ⟨#[]⟩, .string ⟨#[]⟩] = W1 at *
  with_reducible refine (CP.out _).mono ?_
  rintro e w1 ⟨rfl, rfl⟩
  have k0 := HP1.out.cell 0
  have f0 := HP1.out.free 0
  simp at k0
  have HPx := Lib.hid (show RowIn #[.int .u8 120, .int .i64 0, .int .i64 0, .int .i64 0, .string ⟨#[]⟩, .string ⟨#[]⟩] 65 _ (w.heap.size + 1) from HP1.out.set 0 (.int .u8 120))
  have HRx := Lib.hid (HR1.out.other (show w.heap.size ≠ w.heap.size + 1 by omega) 0 (.int .u8 120))
  have HBx := Lib.hid (HB1.out.setCell (p := ⟨w.heap.size + 1, 0, none⟩) (by simp) (.int .u8 120))
  go_wp2_with fail
  with_reducible refine (CN.out _).mono ?_
  rintro e w2 ⟨rfl, hb2⟩
  clear k0 f0
  have HP2 := Lib.hid (HPx.out.below hb2)
  have HR2 := Lib.hid (HRx.out.below hb2)
  have HB2 := Lib.hid (below_step HBx.out hb2)
  clear hb2
  have k4 := HP2.out.cell 4
  have f4 := HP2.out.free 4
  have hp3 := HP2.out.set 4 (.string ⟨#[]⟩)
  have k5 := hp3.cell 5
  have f5 := hp3.free 5
  simp at k4 k5
  have HP3 := Lib.hid (show RowIn #[.int .u8 120, .int .i64 0, .int .i64 0, .int .i64 0, .string ⟨#[]⟩, .string ⟨#[]⟩] 65 ((w2.setCell ⟨w.heap.size + 1, 4, none⟩ (.string ⟨#[]⟩)).setCell ⟨w.heap.size + 1, 5, none⟩ (.string ⟨#[]⟩)) (w.heap.size + 1) from hp3.set 5 (.string ⟨#[]⟩))
  have HR3 := Lib.hid ((HR2.out.other (show w.heap.size ≠ w.heap.size + 1 by omega) 4 (.string ⟨#[]⟩)).other (show w.heap.size ≠ w.heap.size + 1 by omega) 5 (.string ⟨#[]⟩))
  have HB3 := Lib.hid ((HB2.out.setCell (p := ⟨w.heap.size + 1, 4, none⟩) (by simp) (.string ⟨#[]⟩)).setCell (p := ⟨w.heap.size + 1, 5, none⟩) (by simp) (.string ⟨#[]⟩))
  clear hp3
  go_wp2_with ((with_reducible show wpList _ _ _ _ _ _); refine wpList_store_row rfl 65 _ _ rfl w.heap.size _ rfl rfl 65 pt0 HR3.out ?_ rfl ?_ ?_; kernel_rfl; simp [Value.oneCell'])
  try simp only [Exit.inBlock, Exit.then]
  exact bodyPost_ret (ret_row2 Try.underlying65 (by kernel_rfl) rfl _ _ w.heap.size rfl HR3.out.row) rfl ⟨rfl, below_setRow HB3.out (Nat.le_refl _) _⟩

set_option maxHeartbeats 4000000 in
set_option maxRecDepth 100000 in
theorem b_f1 (rest0 a b r2 rest : List UInt8) (hl : r2.length ≤ 140737488351232) (st : Nat) (hst : st ≤ 1073741824) (hr : rest = r2.drop 8) (h8 : 8 ≤ r2.length) (co0 : M.ofBigs r2 0 = some st) (h1 : M.ofBigs rest 0 = none)
    (cn : ∀ W, Calls Try.prog 57 #[.string (S (120 :: rest0))] W fun e w' => e = .returned (.tuple #[.string (S a), .string (S b), .string (S r2), .bool true]) ∧ Below W.heap.size W w') (w : World) :
    Calls Try.prog 36 #[.string (S (120 :: rest0))] w fun e w' => e = .returned (.tuple #[.agg pt0, .bool false]) ∧ Below w.heap.size w w' := by
  have CP := Lib.hid (fun W => cutPrefix_no 115 (120 :: rest0) (by simp) W)
  have CN := Lib.hid cn
  clear cn
  have c0 := fun W => ofBig_any r2 0 W (by omega)
  rw [co0] at c0
  simp only [duo] at c0
  have CO0 := Lib.hid c0
  clear c0 co0
  have d3 : decide (1073741824 < (st : Int)) = false := by simp; omega
  have sl := fun W k => run_piece_from (P := Try.prog) 9 Try.underlying9 r2 8 8 rfl h8 W k
  rw [← hr] at sl
  have hl3 : rest.length ≤ 140737488351232 := by rw [hr, List.length_drop]; omega
  clear hr
  have b115 : B [115] 0 = 115 := rfl
  have b120 : B [120] 0 = 120 := rfl
  have HP0 := Lib.hid (rowIn_at pt0 65 (w.alloc (.cells pt0 65)) (w.heap.size + 1) (by simp))
  have HR1 := Lib.hid (((rowIn_new pt0 65 w).more (.cells pt0 65)).rowAbove (c := w.heap.size + 1) (D := #[.int .u8 115, .int .i64 0, .int .i64 0, .int .i64 0, .string ⟨#[]⟩, .string ⟨#[]⟩]) (by omega))
  have HP1 := Lib.hid (HP0.out.row (D := #[.int .u8 115, .int .i64 0, .int .i64 0, .int .i64 0, .string ⟨#[]⟩, .string ⟨#[]⟩]))
  have HB1 := Lib.hid (below_setRow (g := w.heap.size + 1) (((Below.refl w.heap.size w).alloc (Nat.le_refl _) (.cells pt0 65)).alloc (by simp) (.cells pt0 65)) (by omega) #[.int .u8 115, .int .i64 0, .int .i64 0, .int .i64 0, .string ⟨#[]⟩, .string ⟨#[]⟩])
  have co1 := fun W => ofBig_any rest 0 W (by omega)
  have co2 := fun W => ofBig_any rest 8 W (by omega)
  rw [h1] at co1
  obtain ⟨n2, b2, e2⟩ : ∃ n b, duo (M.ofBigs rest 8) = .tuple #[.int .i64 n, .bool b] := by cases M.ofBigs rest 8 <;> exact ⟨_, _, rfl⟩
  rw [e2] at co2
  simp only [duo] at co1
  clear h1 e2
  have CO1 := Lib.hid co1
  have CO2 := Lib.hid co2
  clear co1 co2
  go_enter Try.func36, Try.ntmps36
  go_wp2_with ((with_reducible show wpList _ _ _ _ _ _); refine wpList_store_row rfl 65 _ _ rfl (w.heap.size + 1) _ rfl rfl 65 pt0 HP0.out ?_ rfl ?_ ?_; kernel_rfl; simp [Value.oneCell'])
  generalize ((w.alloc (.cells pt0 65)).alloc (.cells pt0 65)).setRow (w.heap.size + 1) #[.int .u8 115, .int .i64 0, .int .i64 0, .int .i64 0, .string ⟨#[]⟩, .string ⟨#[]⟩] = W1 at *
  with_reducible refine (CP.out _).mono ?_
  rintro e w1 ⟨rfl, rfl⟩
  have k0 := HP1.out.cell 0
  have f0 := HP1.out.free 0
  simp at k0
  have HPx := Lib.hid (show RowIn #[.int .u8 120, .int .i64 0, .int .i64 0, .int .i64 0, .string ⟨#[]⟩, .string ⟨#[]⟩] 65 _ (w.heap.size + 1) from HP1.out.set 0 (.int .u8 120))
  have HRx := Lib.hid (HR1.out.other (show w.heap.size ≠ w.heap.size + 1 by omega) 0 (.int .u8 120))
  have HBx := Lib.hid (HB1.out.setCell (p := ⟨w.heap.size + 1, 0, none⟩) (by simp) (.int .u8 120))
  go_wp2_with fail
  with_reducible refine (CN.out _).mono ?_
  rintro e w2 ⟨rfl, hb2⟩
  clear k0 f0
  have HP2 := Lib.hid (HPx.out.below hb2)
  have HR2 := Lib.hid (HRx.out.below hb2)
  have HB2 := Lib.hid (below_step HBx.out hb2)
  clear hb2
  have k4 := HP2.out.cell 4
  have f4 := HP2.out.free 4
  have hp3 := HP2.out.set 4 (.string (S a))
  have k5 := hp3.cell 5
  have f5 := hp3.free 5
  simp at k4 k5
  have HP3 := Lib.hid (show RowIn #[.int .u8 120, .int .i64 0, .int .i64 0, .int .i64 0, .string (S a), .string (S b)] 65 ((w2.setCell ⟨w.heap.size + 1, 4, none⟩ (.string (S a))).setCell ⟨w.heap.size + 1, 5, none⟩ (.string (S b))) (w.heap.size + 1) from hp3.set 5 (.string (S b)))
  have HR3 := Lib.hid ((HR2.out.other (show w.heap.size ≠ w.heap.size + 1 by omega) 4 (.string (S a))).other (show w.heap.size ≠ w.heap.size + 1 by omega) 5 (.string (S b)))
  have HB3 := Lib.hid ((HB2.out.setCell (p := ⟨w.heap.size + 1, 4, none⟩) (by simp) (.string (S a))).setCell (p := ⟨w.heap.size + 1, 5, none⟩) (by simp) (.string (S b)))
  clear hp3
  go_wp2_with fail
  with_reducible refine (CO0.out _).mono ?_
  rintro e w3 ⟨rfl, rfl⟩
  clear k4 f4 k5 f5 CP CN HP2 HR2 HB2 HPx HRx HBx HP1 HR1 HB1 HP0
  generalize ((w2.setCell ⟨w.heap.size + 1, 4, none⟩ (.string (S a))).setCell ⟨w.heap.size + 1, 5, none⟩ (.string (S b))) = W3 at *
  have k3 := HP3.out.cell 3
  have f3 := HP3.out.free 3
  simp at k3
  have HP4 := Lib.hid (show RowIn #[.int .u8 120, .int .i64 0, .int .i64 0, .int .i64 (st : Int), .string (S a), .string (S b)] 65 (W3.setCell ⟨w.heap.size + 1, 3, none⟩ (.int .i64 (st : Int))) (w.heap.size + 1) from HP3.out.set 3 (.int .i64 (st : Int)))
  have HR4 := Lib.hid (HR3.out.other (show w.heap.size ≠ w.heap.size + 1 by omega) 3 (.int .i64 (st : Int)))
  have HB4 := Lib.hid (HB3.out.setCell (p := ⟨w.heap.size + 1, 3, none⟩) (by simp) (.int .i64 (st : Int)))
  have k3b := HP4.out.cell 3
  simp at k3b
  go_wp2_with fail
  with_reducible refine (CO1.out _).mono ?_
  rintro e w4 ⟨rfl, rfl⟩
  clear k3 f3 k3b HP3 HR3 HB3 CO0 CO1
  generalize (W3.setCell ⟨w.heap.size + 1, 3, none⟩ (.int .i64 (st : Int))) = W4 at *
  go_wp2_with ((with_reducible show wpList _ _ _ _ _ _); refine wpList_store_row rfl 65 _ _ rfl w.heap.size _ rfl rfl 65 pt0 HR4.out ?_ rfl ?_ ?_; kernel_rfl; simp [Value.oneCell'])
  repeat (first | ((with_reducible refine (CO2.out _).mono ?_); rintro e w1 ⟨rfl, rfl⟩; go_wp2_with ((with_reducible show wpList _ _ _ _ _ _); refine wpList_store_row rfl 65 _ _ rfl w.heap.size _ rfl rfl 65 pt0 HR4.out ?_ rfl ?_ ?_; kernel_rfl; simp [Value.oneCell'])))
  try simp only [Exit.inBlock, Exit.then]
  exact bodyPost_ret (ret_row2 Try.underlying65 (by kernel_rfl) rfl _ _ w.heap.size rfl HR4.out.row) rfl ⟨rfl, below_setRow HB4.out (Nat.le_refl _) _⟩

set_option maxHeartbeats 4000000 in
set_option maxRecDepth 100000 in
theorem b_f2 (rest0 a b r2 rest : List UInt8) (hl : r2.length ≤ 140737488351232) (st : Nat) (hst : st ≤ 1073741824) (hr : rest = r2.drop 8) (h8 : 8 ≤ r2.length) (co0 : M.ofBigs r2 0 = some st) (t : Nat) (h1 : M.ofBigs rest 0 = some t) (h2 : M.ofBigs rest 8 = none)
    (cn : ∀ W, Calls Try.prog 57 #[.string (S (120 :: rest0))] W fun e w' => e = .returned (.tuple #[.string (S a), .string (S b), .string (S r2), .bool true]) ∧ Below W.heap.size W w') (w : World) :
    Calls Try.prog 36 #[.string (S (120 :: rest0))] w fun e w' => e = .returned (.tuple #[.agg pt0, .bool false]) ∧ Below w.heap.size w w' := by
  have CP := Lib.hid (fun W => cutPrefix_no 115 (120 :: rest0) (by simp) W)
  have CN := Lib.hid cn
  clear cn
  have c0 := fun W => ofBig_any r2 0 W (by omega)
  rw [co0] at c0
  simp only [duo] at c0
  have CO0 := Lib.hid c0
  clear c0 co0
  have d3 : decide (1073741824 < (st : Int)) = false := by simp; omega
  have sl := fun W k => run_piece_from (P := Try.prog) 9 Try.underlying9 r2 8 8 rfl h8 W k
  rw [← hr] at sl
  have hl3 : rest.length ≤ 140737488351232 := by rw [hr, List.length_drop]; omega
  clear hr
  have b115 : B [115] 0 = 115 := rfl
  have b120 : B [120] 0 = 120 := rfl
  have HP0 := Lib.hid (rowIn_at pt0 65 (w.alloc (.cells pt0 65)) (w.heap.size + 1) (by simp))
  have HR1 := Lib.hid (((rowIn_new pt0 65 w).more (.cells pt0 65)).rowAbove (c := w.heap.size + 1) (D := #[.int .u8 115, .int .i64 0, .int .i64 0, .int .i64 0, .string ⟨#[]⟩, .string ⟨#[]⟩]) (by omega))
  have HP1 := Lib.hid (HP0.out.row (D := #[.int .u8 115, .int .i64 0, .int .i64 0, .int .i64 0, .string ⟨#[]⟩, .string ⟨#[]⟩]))
  have HB1 := Lib.hid (below_setRow (g := w.heap.size + 1) (((Below.refl w.heap.size w).alloc (Nat.le_refl _) (.cells pt0 65)).alloc (by simp) (.cells pt0 65)) (by omega) #[.int .u8 115, .int .i64 0, .int .i64 0, .int .i64 0, .string ⟨#[]⟩, .string ⟨#[]⟩])
  have co1 := fun W => ofBig_any rest 0 W (by omega)
  have co2 := fun W => ofBig_any rest 8 W (by omega)
  rw [h1] at co1
  rw [h2] at co2
  simp only [duo] at co1 co2
  clear h1 h2
  have CO1 := Lib.hid co1
  have CO2 := Lib.hid co2
  clear co1 co2
  go_enter Try.func36, Try.ntmps36
  go_wp2_with ((with_reducible show wpList _ _ _ _ _ _); refine wpList_store_row rfl 65 _ _ rfl (w.heap.size + 1) _ rfl rfl 65 pt0 HP0.out ?_ rfl ?_ ?_; kernel_rfl; simp [Value.oneCell'])
  generalize ((w.alloc (.cells pt0 65)).alloc (.cells pt0 65)).setRow (w.heap.size + 1) #[.int .u8 115, .int .i64 0, .int .i64 0, .int .i64 0, .string ⟨#[]⟩, .string ⟨#[]⟩] = W1 at *
  with_reducible refine (CP.out _).mono ?_
  rintro e w1 ⟨rfl, rfl⟩
  have k0 := HP1.out.cell 0
  have f0 := HP1.out.free 0
  simp at k0
  have HPx := Lib.hid (show RowIn #[.int .u8 120, .int .i64 0, .int .i64 0, .int .i64 0, .string ⟨#[]⟩, .string ⟨#[]⟩] 65 _ (w.heap.size + 1) from HP1.out.set 0 (.int .u8 120))
  have HRx := Lib.hid (HR1.out.other (show w.heap.size ≠ w.heap.size + 1 by omega) 0 (.int .u8 120))
  have HBx := Lib.hid (HB1.out.setCell (p := ⟨w.heap.size + 1, 0, none⟩) (by simp) (.int .u8 120))
  go_wp2_with fail
  with_reducible refine (CN.out _).mono ?_
  rintro e w2 ⟨rfl, hb2⟩
  clear k0 f0
  have HP2 := Lib.hid (HPx.out.below hb2)
  have HR2 := Lib.hid (HRx.out.below hb2)
  have HB2 := Lib.hid (below_step HBx.out hb2)
  clear hb2
  have k4 := HP2.out.cell 4
  have f4 := HP2.out.free 4
  have hp3 := HP2.out.set 4 (.string (S a))
  have k5 := hp3.cell 5
  have f5 := hp3.free 5
  simp at k4 k5
  have HP3 := Lib.hid (show RowIn #[.int .u8 120, .int .i64 0, .int .i64 0, .int .i64 0, .string (S a), .string (S b)] 65 ((w2.setCell ⟨w.heap.size + 1, 4, none⟩ (.string (S a))).setCell ⟨w.heap.size + 1, 5, none⟩ (.string (S b))) (w.heap.size + 1) from hp3.set 5 (.string (S b)))
  have HR3 := Lib.hid ((HR2.out.other (show w.heap.size ≠ w.heap.size + 1 by omega) 4 (.string (S a))).other (show w.heap.size ≠ w.heap.size + 1 by omega) 5 (.string (S b)))
  have HB3 := Lib.hid ((HB2.out.setCell (p := ⟨w.heap.size + 1, 4, none⟩) (by simp) (.string (S a))).setCell (p := ⟨w.heap.size + 1, 5, none⟩) (by simp) (.string (S b)))
  clear hp3
  go_wp2_with fail
  with_reducible refine (CO0.out _).mono ?_
  rintro e w3 ⟨rfl, rfl⟩
  clear k4 f4 k5 f5 CP CN HP2 HR2 HB2 HPx HRx HBx HP1 HR1 HB1 HP0
  generalize ((w2.setCell ⟨w.heap.size + 1, 4, none⟩ (.string (S a))).setCell ⟨w.heap.size + 1, 5, none⟩ (.string (S b))) = W3 at *
  have k3 := HP3.out.cell 3
  have f3 := HP3.out.free 3
  simp at k3
  have HP4 := Lib.hid (show RowIn #[.int .u8 120, .int .i64 0, .int .i64 0, .int .i64 (st : Int), .string (S a), .string (S b)] 65 (W3.setCell ⟨w.heap.size + 1, 3, none⟩ (.int .i64 (st : Int))) (w.heap.size + 1) from HP3.out.set 3 (.int .i64 (st : Int)))
  have HR4 := Lib.hid (HR3.out.other (show w.heap.size ≠ w.heap.size + 1 by omega) 3 (.int .i64 (st : Int)))
  have HB4 := Lib.hid (HB3.out.setCell (p := ⟨w.heap.size + 1, 3, none⟩) (by simp) (.int .i64 (st : Int)))
  have k3b := HP4.out.cell 3
  simp at k3b
  go_wp2_with fail
  with_reducible refine (CO1.out _).mono ?_
  rintro e w4 ⟨rfl, rfl⟩
  clear k3 f3 k3b HP3 HR3 HB3 CO0 CO1
  generalize (W3.setCell ⟨w.heap.size + 1, 3, none⟩ (.int .i64 (st : Int))) = W4 at *
  go_wp2_with ((with_reducible show wpList _ _ _ _ _ _); refine wpList_store_row rfl 65 _ _ rfl w.heap.size _ rfl rfl 65 pt0 HR4.out ?_ rfl ?_ ?_; kernel_rfl; simp [Value.oneCell'])
  repeat (first | ((with_reducible refine (CO2.out _).mono ?_); rintro e w1 ⟨rfl, rfl⟩; go_wp2_with ((with_reducible show wpList _ _ _ _ _ _); refine wpList_store_row rfl 65 _ _ rfl w.heap.size _ rfl rfl 65 pt0 HR4.out ?_ rfl ?_ ?_; kernel_rfl; simp [Value.oneCell'])))
  try simp only [Exit.inBlock, Exit.then]
  exact bodyPost_ret (ret_row2 Try.underlying65 (by kernel_rfl) rfl _ _ w.heap.size rfl HR4.out.row) rfl ⟨rfl, below_setRow HB4.out (Nat.le_refl _) _⟩

set_option maxHeartbeats 4000000 in
set_option maxRecDepth 100000 in
theorem b_f3 (rest0 a b r2 rest : List UInt8) (hl : r2.length ≤ 140737488351232) (st : Nat) (hst : st ≤ 1073741824) (hr : rest = r2.drop 8) (h8 : 8 ≤ r2.length) (co0 : M.ofBigs r2 0 = some st) (t i : Nat) (h1 : M.ofBigs rest 0 = some t) (h2 : M.ofBigs rest 8 = some i) (hlen : ¬ rest.length = 16)
    (cn : ∀ W, Calls Try.prog 57 #[.string (S (120 :: rest0))] W fun e w' => e = .returned (.tuple #[.string (S a), .string (S b), .string (S r2), .bool true]) ∧ Below W.heap.size W w') (w : World) :
    Calls Try.prog 36 #[.string (S (120 :: rest0))] w fun e w' => e = .returned (.tuple #[.agg pt0, .bool false]) ∧ Below w.heap.size w w' := by
  have CP := Lib.hid (fun W => cutPrefix_no 115 (120 :: rest0) (by simp) W)
  have CN := Lib.hid cn
  clear cn
  have c0 := fun W => ofBig_any r2 0 W (by omega)
  rw [co0] at c0
  simp only [duo] at c0
  have CO0 := Lib.hid c0
  clear c0 co0
  have d3 : decide (1073741824 < (st : Int)) = false := by simp; omega
  have sl := fun W k => run_piece_from (P := Try.prog) 9 Try.underlying9 r2 8 8 rfl h8 W k
  rw [← hr] at sl
  have hl3 : rest.length ≤ 140737488351232 := by rw [hr, List.length_drop]; omega
  clear hr
  have b115 : B [115] 0 = 115 := rfl
  have b120 : B [120] 0 = 120 := rfl
  have HP0 := Lib.hid (rowIn_at pt0 65 (w.alloc (.cells pt0 65)) (w.heap.size + 1) (by simp))
  have HR1 := Lib.hid (((rowIn_new pt0 65 w).more (.cells pt0 65)).rowAbove (c := w.heap.size + 1) (D := #[.int .u8 115, .int .i64 0, .int .i64 0, .int .i64 0, .string ⟨#[]⟩, .string ⟨#[]⟩]) (by omega))
  have HP1 := Lib.hid (HP0.out.row (D := #[.int .u8 115, .int .i64 0, .int .i64 0, .int .i64 0, .string ⟨#[]⟩, .string ⟨#[]⟩]))
  have HB1 := Lib.hid (below_setRow (g := w.heap.size + 1) (((Below.refl w.heap.size w).alloc (Nat.le_refl _) (.cells pt0 65)).alloc (by simp) (.cells pt0 65)) (by omega) #[.int .u8 115, .int .i64 0, .int .i64 0, .int .i64 0, .string ⟨#[]⟩, .string ⟨#[]⟩])
  have co1 := fun W => ofBig_any rest 0 W (by omega)
  have co2 := fun W => ofBig_any rest 8 W (by omega)
  rw [h1] at co1
  rw [h2] at co2
  simp only [duo] at co1 co2
  have q1 : ((rest.length : Int) != 16) = true := by rw [bne, show ((rest.length : Int) == 16) = false by rw [beq_eq_false_iff_ne]; omega]; rfl
  clear h1 h2 hlen
  have CO1 := Lib.hid co1
  have CO2 := Lib.hid co2
  clear co1 co2
  go_enter Try.func36, Try.ntmps36
  go_wp2_with ((with_reducible show wpList _ _ _ _ _ _); refine wpList_store_row rfl 65 _ _ rfl (w.heap.size + 1) _ rfl rfl 65 pt0 HP0.out ?_ rfl ?_ ?_; kernel_rfl; simp [Value.oneCell'])
  generalize ((w.alloc (.cells pt0 65)).alloc (.cells pt0 65)).setRow (w.heap.size + 1) #[.int .u8 115, .int .i64 0, .int .i64 0, .int .i64 0, .string ⟨#[]⟩, .string ⟨#[]⟩] = W1 at *
  with_reducible refine (CP.out _).mono ?_
  rintro e w1 ⟨rfl, rfl⟩
  have k0 := HP1.out.cell 0
  have f0 := HP1.out.free 0
  simp at k0
  have HPx := Lib.hid (show RowIn #[.int .u8 120, .int .i64 0, .int .i64 0, .int .i64 0, .string ⟨#[]⟩, .string ⟨#[]⟩] 65 _ (w.heap.size + 1) from HP1.out.set 0 (.int .u8 120))
  have HRx := Lib.hid (HR1.out.other (show w.heap.size ≠ w.heap.size + 1 by omega) 0 (.int .u8 120))
  have HBx := Lib.hid (HB1.out.setCell (p := ⟨w.heap.size + 1, 0, none⟩) (by simp) (.int .u8 120))
  go_wp2_with fail
  with_reducible refine (CN.out _).mono ?_
  rintro e w2 ⟨rfl, hb2⟩
  clear k0 f0
  have HP2 := Lib.hid (HPx.out.below hb2)
  have HR2 := Lib.hid (HRx.out.below hb2)
  have HB2 := Lib.hid (below_step HBx.out hb2)
  clear hb2
  have k4 := HP2.out.cell 4
  have f4 := HP2.out.free 4
  have hp3 := HP2.out.set 4 (.string (S a))
  have k5 := hp3.cell 5
  have f5 := hp3.free 5
  simp at k4 k5
  have HP3 := Lib.hid (show RowIn #[.int .u8 120, .int .i64 0, .int .i64 0, .int .i64 0, .string (S a), .string (S b)] 65 ((w2.setCell ⟨w.heap.size + 1, 4, none⟩ (.string (S a))).setCell ⟨w.heap.size + 1, 5, none⟩ (.string (S b))) (w.heap.size + 1) from hp3.set 5 (.string (S b)))
  have HR3 := Lib.hid ((HR2.out.other (show w.heap.size ≠ w.heap.size + 1 by omega) 4 (.string (S a))).other (show w.heap.size ≠ w.heap.size + 1 by omega) 5 (.string (S b)))
  have HB3 := Lib.hid ((HB2.out.setCell (p := ⟨w.heap.size + 1, 4, none⟩) (by simp) (.string (S a))).setCell (p := ⟨w.heap.size + 1, 5, none⟩) (by simp) (.string (S b)))
  clear hp3
  go_wp2_with fail
  with_reducible refine (CO0.out _).mono ?_
  rintro e w3 ⟨rfl, rfl⟩
  clear k4 f4 k5 f5 CP CN HP2 HR2 HB2 HPx HRx HBx HP1 HR1 HB1 HP0
  generalize ((w2.setCell ⟨w.heap.size + 1, 4, none⟩ (.string (S a))).setCell ⟨w.heap.size + 1, 5, none⟩ (.string (S b))) = W3 at *
  have k3 := HP3.out.cell 3
  have f3 := HP3.out.free 3
  simp at k3
  have HP4 := Lib.hid (show RowIn #[.int .u8 120, .int .i64 0, .int .i64 0, .int .i64 (st : Int), .string (S a), .string (S b)] 65 (W3.setCell ⟨w.heap.size + 1, 3, none⟩ (.int .i64 (st : Int))) (w.heap.size + 1) from HP3.out.set 3 (.int .i64 (st : Int)))
  have HR4 := Lib.hid (HR3.out.other (show w.heap.size ≠ w.heap.size + 1 by omega) 3 (.int .i64 (st : Int)))
  have HB4 := Lib.hid (HB3.out.setCell (p := ⟨w.heap.size + 1, 3, none⟩) (by simp) (.int .i64 (st : Int)))
  have k3b := HP4.out.cell 3
  simp at k3b
  go_wp2_with fail
  with_reducible refine (CO1.out _).mono ?_
  rintro e w4 ⟨rfl, rfl⟩
  clear k3 f3 k3b HP3 HR3 HB3 CO0 CO1
  generalize (W3.setCell ⟨w.heap.size + 1, 3, none⟩ (.int .i64 (st : Int))) = W4 at *
  go_wp2_with ((with_reducible show wpList _ _ _ _ _ _); refine wpList_store_row rfl 65 _ _ rfl w.heap.size _ rfl rfl 65 pt0 HR4.out ?_ rfl ?_ ?_; kernel_rfl; simp [Value.oneCell'])
  repeat (first | ((with_reducible refine (CO2.out _).mono ?_); rintro e w1 ⟨rfl, rfl⟩; go_wp2_with ((with_reducible show wpList _ _ _ _ _ _); refine wpList_store_row rfl 65 _ _ rfl w.heap.size _ rfl rfl 65 pt0 HR4.out ?_ rfl ?_ ?_; kernel_rfl; simp [Value.oneCell'])))
  try simp only [Exit.inBlock, Exit.then]
  exact bodyPost_ret (ret_row2 Try.underlying65 (by kernel_rfl) rfl _ _ w.heap.size rfl HR4.out.row) rfl ⟨rfl, below_setRow HB4.out (Nat.le_refl _) _⟩

set_option maxHeartbeats 4000000 in
set_option maxRecDepth 100000 in
theorem b_f4 (rest0 a b r2 rest : List UInt8) (hl : r2.length ≤ 140737488351232) (st : Nat) (hst : st ≤ 1073741824) (hr : rest = r2.drop 8) (h8 : 8 ≤ r2.length) (co0 : M.ofBigs r2 0 = some st) (t i : Nat) (h1 : M.ofBigs rest 0 = some t) (h2 : M.ofBigs rest 8 = some i) (hlen : rest.length = 16) (hi1 : M.idB t = false)
    (cn : ∀ W, Calls Try.prog 57 #[.string (S (120 :: rest0))] W fun e w' => e = .returned (.tuple #[.string (S a), .string (S b), .string (S r2), .bool true]) ∧ Below W.heap.size W w') (w : World) :
    Calls Try.prog 36 #[.string (S (120 :: rest0))] w fun e w' => e = .returned (.tuple #[.agg pt0, .bool false]) ∧ Below w.heap.size w w' := by
  have CP := Lib.hid (fun W => cutPrefix_no 115 (120 :: rest0) (by simp) W)
  have CN := Lib.hid cn
  clear cn
  have c0 := fun W => ofBig_any r2 0 W (by omega)
  rw [co0] at c0
  simp only [duo] at c0
  have CO0 := Lib.hid c0
  clear c0 co0
  have d3 : decide (1073741824 < (st : Int)) = false := by simp; omega
  have sl := fun W k => run_piece_from (P := Try.prog) 9 Try.underlying9 r2 8 8 rfl h8 W k
  rw [← hr] at sl
  have hl3 : rest.length ≤ 140737488351232 := by rw [hr, List.length_drop]; omega
  clear hr
  have b115 : B [115] 0 = 115 := rfl
  have b120 : B [120] 0 = 120 := rfl
  have HP0 := Lib.hid (rowIn_at pt0 65 (w.alloc (.cells pt0 65)) (w.heap.size + 1) (by simp))
  have HR1 := Lib.hid (((rowIn_new pt0 65 w).more (.cells pt0 65)).rowAbove (c := w.heap.size + 1) (D := #[.int .u8 115, .int .i64 0, .int .i64 0, .int .i64 0, .string ⟨#[]⟩, .string ⟨#[]⟩]) (by omega))
  have HP1 := Lib.hid (HP0.out.row (D := #[.int .u8 115, .int .i64 0, .int .i64 0, .int .i64 0, .string ⟨#[]⟩, .string ⟨#[]⟩]))
  have HB1 := Lib.hid (below_setRow (g := w.heap.size + 1) (((Below.refl w.heap.size w).alloc (Nat.le_refl _) (.cells pt0 65)).alloc (by simp) (.cells pt0 65)) (by omega) #[.int .u8 115, .int .i64 0, .int .i64 0, .int .i64 0, .string ⟨#[]⟩, .string ⟨#[]⟩])
  have co1 := fun W => ofBig_any rest 0 W (by omega)
  have co2 := fun W => ofBig_any rest 8 W (by omega)
  rw [h1] at co1
  rw [h2] at co2
  simp only [duo] at co1 co2
  have q1 : ((rest.length : Int) != 16) = false := by rw [hlen]; rfl
  have ci1 := fun W => isID_any (t : Int) W
  have ci2 := fun W => isID_any (i : Int) W
  rw [hi1] at ci1
  have CI1 := Lib.hid ci1
  clear h1 h2 hi1 ci1 ci2
  have CO1 := Lib.hid co1
  have CO2 := Lib.hid co2
  clear co1 co2
  go_enter Try.func36, Try.ntmps36
  go_wp2_with ((with_reducible show wpList _ _ _ _ _ _); refine wpList_store_row rfl 65 _ _ rfl (w.heap.size + 1) _ rfl rfl 65 pt0 HP0.out ?_ rfl ?_ ?_; kernel_rfl; simp [Value.oneCell'])
  generalize ((w.alloc (.cells pt0 65)).alloc (.cells pt0 65)).setRow (w.heap.size + 1) #[.int .u8 115, .int .i64 0, .int .i64 0, .int .i64 0, .string ⟨#[]⟩, .string ⟨#[]⟩] = W1 at *
  with_reducible refine (CP.out _).mono ?_
  rintro e w1 ⟨rfl, rfl⟩
  have k0 := HP1.out.cell 0
  have f0 := HP1.out.free 0
  simp at k0
  have HPx := Lib.hid (show RowIn #[.int .u8 120, .int .i64 0, .int .i64 0, .int .i64 0, .string ⟨#[]⟩, .string ⟨#[]⟩] 65 _ (w.heap.size + 1) from HP1.out.set 0 (.int .u8 120))
  have HRx := Lib.hid (HR1.out.other (show w.heap.size ≠ w.heap.size + 1 by omega) 0 (.int .u8 120))
  have HBx := Lib.hid (HB1.out.setCell (p := ⟨w.heap.size + 1, 0, none⟩) (by simp) (.int .u8 120))
  go_wp2_with fail
  with_reducible refine (CN.out _).mono ?_
  rintro e w2 ⟨rfl, hb2⟩
  clear k0 f0
  have HP2 := Lib.hid (HPx.out.below hb2)
  have HR2 := Lib.hid (HRx.out.below hb2)
  have HB2 := Lib.hid (below_step HBx.out hb2)
  clear hb2
  have k4 := HP2.out.cell 4
  have f4 := HP2.out.free 4
  have hp3 := HP2.out.set 4 (.string (S a))
  have k5 := hp3.cell 5
  have f5 := hp3.free 5
  simp at k4 k5
  have HP3 := Lib.hid (show RowIn #[.int .u8 120, .int .i64 0, .int .i64 0, .int .i64 0, .string (S a), .string (S b)] 65 ((w2.setCell ⟨w.heap.size + 1, 4, none⟩ (.string (S a))).setCell ⟨w.heap.size + 1, 5, none⟩ (.string (S b))) (w.heap.size + 1) from hp3.set 5 (.string (S b)))
  have HR3 := Lib.hid ((HR2.out.other (show w.heap.size ≠ w.heap.size + 1 by omega) 4 (.string (S a))).other (show w.heap.size ≠ w.heap.size + 1 by omega) 5 (.string (S b)))
  have HB3 := Lib.hid ((HB2.out.setCell (p := ⟨w.heap.size + 1, 4, none⟩) (by simp) (.string (S a))).setCell (p := ⟨w.heap.size + 1, 5, none⟩) (by simp) (.string (S b)))
  clear hp3
  go_wp2_with fail
  with_reducible refine (CO0.out _).mono ?_
  rintro e w3 ⟨rfl, rfl⟩
  clear k4 f4 k5 f5 CP CN HP2 HR2 HB2 HPx HRx HBx HP1 HR1 HB1 HP0
  generalize ((w2.setCell ⟨w.heap.size + 1, 4, none⟩ (.string (S a))).setCell ⟨w.heap.size + 1, 5, none⟩ (.string (S b))) = W3 at *
  have k3 := HP3.out.cell 3
  have f3 := HP3.out.free 3
  simp at k3
  have HP4 := Lib.hid (show RowIn #[.int .u8 120, .int .i64 0, .int .i64 0, .int .i64 (st : Int), .string (S a), .string (S b)] 65 (W3.setCell ⟨w.heap.size + 1, 3, none⟩ (.int .i64 (st : Int))) (w.heap.size + 1) from HP3.out.set 3 (.int .i64 (st : Int)))
  have HR4 := Lib.hid (HR3.out.other (show w.heap.size ≠ w.heap.size + 1 by omega) 3 (.int .i64 (st : Int)))
  have HB4 := Lib.hid (HB3.out.setCell (p := ⟨w.heap.size + 1, 3, none⟩) (by simp) (.int .i64 (st : Int)))
  have k3b := HP4.out.cell 3
  simp at k3b
  go_wp2_with fail
  with_reducible refine (CO1.out _).mono ?_
  rintro e w4 ⟨rfl, rfl⟩
  clear k3 f3 k3b HP3 HR3 HB3 CO0 CO1
  generalize (W3.setCell ⟨w.heap.size + 1, 3, none⟩ (.int .i64 (st : Int))) = W4 at *
  go_wp2_with ((with_reducible show wpList _ _ _ _ _ _); refine wpList_store_row rfl 65 _ _ rfl w.heap.size _ rfl rfl 65 pt0 HR4.out ?_ rfl ?_ ?_; kernel_rfl; simp [Value.oneCell'])
  repeat (first | ((with_reducible refine (CO2.out _).mono ?_); rintro e w1 ⟨rfl, rfl⟩; go_wp2_with ((with_reducible show wpList _ _ _ _ _ _); refine wpList_store_row rfl 65 _ _ rfl w.heap.size _ rfl rfl 65 pt0 HR4.out ?_ rfl ?_ ?_; kernel_rfl; simp [Value.oneCell'])) | ((with_reducible refine (CI1.out _).mono ?_); rintro e w1 ⟨rfl, rfl⟩; go_wp2_with ((with_reducible show wpList _ _ _ _ _ _); refine wpList_store_row rfl 65 _ _ rfl w.heap.size _ rfl rfl 65 pt0 HR4.out ?_ rfl ?_ ?_; kernel_rfl; simp [Value.oneCell'])))
  try simp only [Exit.inBlock, Exit.then]
  exact bodyPost_ret (ret_row2 Try.underlying65 (by kernel_rfl) rfl _ _ w.heap.size rfl HR4.out.row) rfl ⟨rfl, below_setRow HB4.out (Nat.le_refl _) _⟩

set_option maxHeartbeats 4000000 in
set_option maxRecDepth 100000 in
theorem b_f5 (rest0 a b r2 rest : List UInt8) (hl : r2.length ≤ 140737488351232) (st : Nat) (hst : st ≤ 1073741824) (hr : rest = r2.drop 8) (h8 : 8 ≤ r2.length) (co0 : M.ofBigs r2 0 = some st) (t i : Nat) (h1 : M.ofBigs rest 0 = some t) (h2 : M.ofBigs rest 8 = some i) (hlen : rest.length = 16) (hi1 : M.idB t = true) (hi2 : M.idB i = false)
    (cn : ∀ W, Calls Try.prog 57 #[.string (S (120 :: rest0))] W fun e w' => e = .returned (.tuple #[.string (S a), .string (S b), .string (S r2), .bool true]) ∧ Below W.heap.size W w') (w : World) :
    Calls Try.prog 36 #[.string (S (120 :: rest0))] w fun e w' => e = .returned (.tuple #[.agg pt0, .bool false]) ∧ Below w.heap.size w w' := by
  have CP := Lib.hid (fun W => cutPrefix_no 115 (120 :: rest0) (by simp) W)
  have CN := Lib.hid cn
  clear cn
  have c0 := fun W => ofBig_any r2 0 W (by omega)
  rw [co0] at c0
  simp only [duo] at c0
  have CO0 := Lib.hid c0
  clear c0 co0
  have d3 : decide (1073741824 < (st : Int)) = false := by simp; omega
  have sl := fun W k => run_piece_from (P := Try.prog) 9 Try.underlying9 r2 8 8 rfl h8 W k
  rw [← hr] at sl
  have hl3 : rest.length ≤ 140737488351232 := by rw [hr, List.length_drop]; omega
  clear hr
  have b115 : B [115] 0 = 115 := rfl
  have b120 : B [120] 0 = 120 := rfl
  have HP0 := Lib.hid (rowIn_at pt0 65 (w.alloc (.cells pt0 65)) (w.heap.size + 1) (by simp))
  have HR1 := Lib.hid (((rowIn_new pt0 65 w).more (.cells pt0 65)).rowAbove (c := w.heap.size + 1) (D := #[.int .u8 115, .int .i64 0, .int .i64 0, .int .i64 0, .string ⟨#[]⟩, .string ⟨#[]⟩]) (by omega))
  have HP1 := Lib.hid (HP0.out.row (D := #[.int .u8 115, .int .i64 0, .int .i64 0, .int .i64 0, .string ⟨#[]⟩, .string ⟨#[]⟩]))
  have HB1 := Lib.hid (below_setRow (g := w.heap.size + 1) (((Below.refl w.heap.size w).alloc (Nat.le_refl _) (.cells pt0 65)).alloc (by simp) (.cells pt0 65)) (by omega) #[.int .u8 115, .int .i64 0, .int .i64 0, .int .i64 0, .string ⟨#[]⟩, .string ⟨#[]⟩])
  have co1 := fun W => ofBig_any rest 0 W (by omega)
  have co2 := fun W => ofBig_any rest 8 W (by omega)
  rw [h1] at co1
  rw [h2] at co2
  simp only [duo] at co1 co2
  have q1 : ((rest.length : Int) != 16) = false := by rw [hlen]; rfl
  have ci1 := fun W => isID_any (t : Int) W
  have ci2 := fun W => isID_any (i : Int) W
  rw [hi1] at ci1
  rw [hi2] at ci2
  have CI1 := Lib.hid ci1
  have CI2 := Lib.hid ci2
  clear h1 h2 hi1 hi2 ci1 ci2
  have CO1 := Lib.hid co1
  have CO2 := Lib.hid co2
  clear co1 co2
  go_enter Try.func36, Try.ntmps36
  go_wp2_with ((with_reducible show wpList _ _ _ _ _ _); refine wpList_store_row rfl 65 _ _ rfl (w.heap.size + 1) _ rfl rfl 65 pt0 HP0.out ?_ rfl ?_ ?_; kernel_rfl; simp [Value.oneCell'])
  generalize ((w.alloc (.cells pt0 65)).alloc (.cells pt0 65)).setRow (w.heap.size + 1) #[.int .u8 115, .int .i64 0, .int .i64 0, .int .i64 0, .string ⟨#[]⟩, .string ⟨#[]⟩] = W1 at *
  with_reducible refine (CP.out _).mono ?_
  rintro e w1 ⟨rfl, rfl⟩
  have k0 := HP1.out.cell 0
  have f0 := HP1.out.free 0
  simp at k0
  have HPx := Lib.hid (show RowIn #[.int .u8 120, .int .i64 0, .int .i64 0, .int .i64 0, .string ⟨#[]⟩, .string ⟨#[]⟩] 65 _ (w.heap.size + 1) from HP1.out.set 0 (.int .u8 120))
  have HRx := Lib.hid (HR1.out.other (show w.heap.size ≠ w.heap.size + 1 by omega) 0 (.int .u8 120))
  have HBx := Lib.hid (HB1.out.setCell (p := ⟨w.heap.size + 1, 0, none⟩) (by simp) (.int .u8 120))
  go_wp2_with fail
  with_reducible refine (CN.out _).mono ?_
  rintro e w2 ⟨rfl, hb2⟩
  clear k0 f0
  have HP2 := Lib.hid (HPx.out.below hb2)
  have HR2 := Lib.hid (HRx.out.below hb2)
  have HB2 := Lib.hid (below_step HBx.out hb2)
  clear hb2
  have k4 := HP2.out.cell 4
  have f4 := HP2.out.free 4
  have hp3 := HP2.out.set 4 (.string (S a))
  have k5 := hp3.cell 5
  have f5 := hp3.free 5
  simp at k4 k5
  have HP3 := Lib.hid (show RowIn #[.int .u8 120, .int .i64 0, .int .i64 0, .int .i64 0, .string (S a), .string (S b)] 65 ((w2.setCell ⟨w.heap.size + 1, 4, none⟩ (.string (S a))).setCell ⟨w.heap.size + 1, 5, none⟩ (.string (S b))) (w.heap.size + 1) from hp3.set 5 (.string (S b)))
  have HR3 := Lib.hid ((HR2.out.other (show w.heap.size ≠ w.heap.size + 1 by omega) 4 (.string (S a))).other (show w.heap.size ≠ w.heap.size + 1 by omega) 5 (.string (S b)))
  have HB3 := Lib.hid ((HB2.out.setCell (p := ⟨w.heap.size + 1, 4, none⟩) (by simp) (.string (S a))).setCell (p := ⟨w.heap.size + 1, 5, none⟩) (by simp) (.string (S b)))
  clear hp3
  go_wp2_with fail
  with_reducible refine (CO0.out _).mono ?_
  rintro e w3 ⟨rfl, rfl⟩
  clear k4 f4 k5 f5 CP CN HP2 HR2 HB2 HPx HRx HBx HP1 HR1 HB1 HP0
  generalize ((w2.setCell ⟨w.heap.size + 1, 4, none⟩ (.string (S a))).setCell ⟨w.heap.size + 1, 5, none⟩ (.string (S b))) = W3 at *
  have k3 := HP3.out.cell 3
  have f3 := HP3.out.free 3
  simp at k3
  have HP4 := Lib.hid (show RowIn #[.int .u8 120, .int .i64 0, .int .i64 0, .int .i64 (st : Int), .string (S a), .string (S b)] 65 (W3.setCell ⟨w.heap.size + 1, 3, none⟩ (.int .i64 (st : Int))) (w.heap.size + 1) from HP3.out.set 3 (.int .i64 (st : Int)))
  have HR4 := Lib.hid (HR3.out.other (show w.heap.size ≠ w.heap.size + 1 by omega) 3 (.int .i64 (st : Int)))
  have HB4 := Lib.hid (HB3.out.setCell (p := ⟨w.heap.size + 1, 3, none⟩) (by simp) (.int .i64 (st : Int)))
  have k3b := HP4.out.cell 3
  simp at k3b
  go_wp2_with fail
  with_reducible refine (CO1.out _).mono ?_
  rintro e w4 ⟨rfl, rfl⟩
  clear k3 f3 k3b HP3 HR3 HB3 CO0 CO1
  generalize (W3.setCell ⟨w.heap.size + 1, 3, none⟩ (.int .i64 (st : Int))) = W4 at *
  go_wp2_with ((with_reducible show wpList _ _ _ _ _ _); refine wpList_store_row rfl 65 _ _ rfl w.heap.size _ rfl rfl 65 pt0 HR4.out ?_ rfl ?_ ?_; kernel_rfl; simp [Value.oneCell'])
  repeat (first | ((with_reducible refine (CO2.out _).mono ?_); rintro e w1 ⟨rfl, rfl⟩; go_wp2_with ((with_reducible show wpList _ _ _ _ _ _); refine wpList_store_row rfl 65 _ _ rfl w.heap.size _ rfl rfl 65 pt0 HR4.out ?_ rfl ?_ ?_; kernel_rfl; simp [Value.oneCell'])) | ((with_reducible refine (CI1.out _).mono ?_); rintro e w1 ⟨rfl, rfl⟩; go_wp2_with ((with_reducible show wpList _ _ _ _ _ _); refine wpList_store_row rfl 65 _ _ rfl w.heap.size _ rfl rfl 65 pt0 HR4.out ?_ rfl ?_ ?_; kernel_rfl; simp [Value.oneCell'])) | ((with_reducible refine (CI2.out _).mono ?_); rintro e w1 ⟨rfl, rfl⟩; go_wp2_with ((with_reducible show wpList _ _ _ _ _ _); refine wpList_store_row rfl 65 _ _ rfl w.heap.size _ rfl rfl 65 pt0 HR4.out ?_ rfl ?_ ?_; kernel_rfl; simp [Value.oneCell'])))
  try simp only [Exit.inBlock, Exit.then]
  exact bodyPost_ret (ret_row2 Try.underlying65 (by kernel_rfl) rfl _ _ w.heap.size rfl HR4.out.row) rfl ⟨rfl, below_setRow HB4.out (Nat.le_refl _) _⟩

set_option maxHeartbeats 4000000 in
set_option maxRecDepth 100000 in
theorem b_ok (rest0 a b r2 rest : List UInt8) (hl : r2.length ≤ 140737488351232) (st : Nat) (hst : st ≤ 1073741824) (hr : rest = r2.drop 8) (h8 : 8 ≤ r2.length) (co0 : M.ofBigs r2 0 = some st) (t i : Nat) (h1 : M.ofBigs rest 0 = some t) (h2 : M.ofBigs rest 8 = some i) (hlen : rest.length = 16) (hi1 : M.idB t = true) (hi2 : M.idB i = true)
    (cn : ∀ W, Calls Try.prog 57 #[.string (S (120 :: rest0))] W fun e w' => e = .returned (.tuple #[.string (S a), .string (S b), .string (S r2), .bool true]) ∧ Below W.heap.size W w') (w : World) :
    Calls Try.prog 36 #[.string (S (120 :: rest0))] w fun e w' => e = .returned (ptR (some ⟨120, t, i, st, a, b⟩)) ∧ Below w.heap.size w w' := by
  have CP := Lib.hid (fun W => cutPrefix_no 115 (120 :: rest0) (by simp) W)
  have CN := Lib.hid cn
  clear cn
  have c0 := fun W => ofBig_any r2 0 W (by omega)
  rw [co0] at c0
  simp only [duo] at c0
  have CO0 := Lib.hid c0
  clear c0 co0
  have d3 : decide (1073741824 < (st : Int)) = false := by simp; omega
  have sl := fun W k => run_piece_from (P := Try.prog) 9 Try.underlying9 r2 8 8 rfl h8 W k
  rw [← hr] at sl
  have hl3 : rest.length ≤ 140737488351232 := by rw [hr, List.length_drop]; omega
  clear hr
  have b115 : B [115] 0 = 115 := rfl
  have b120 : B [120] 0 = 120 := rfl
  have HP0 := Lib.hid (rowIn_at pt0 65 (w.alloc (.cells pt0 65)) (w.heap.size + 1) (by simp))
  have HR1 := Lib.hid (((rowIn_new pt0 65 w).more (.cells pt0 65)).rowAbove (c := w.heap.size + 1) (D := #[.int .u8 115, .int .i64 0, .int .i64 0, .int .i64 0, .string ⟨#[]⟩, .string ⟨#[]⟩]) (by omega))
  have HP1 := Lib.hid (HP0.out.row (D := #[.int .u8 115, .int .i64 0, .int .i64 0, .int .i64 0, .string ⟨#[]⟩, .string ⟨#[]⟩]))
  have HB1 := Lib.hid (below_setRow (g := w.heap.size + 1) (((Below.refl w.heap.size w).alloc (Nat.le_refl _) (.cells pt0 65)).alloc (by simp) (.cells pt0 65)) (by omega) #[.int .u8 115, .int .i64 0, .int .i64 0, .int .i64 0, .string ⟨#[]⟩, .string ⟨#[]⟩])
  have co1 := fun W => ofBig_any rest 0 W (by omega)
  have co2 := fun W => ofBig_any rest 8 W (by omega)
  rw [h1] at co1
  rw [h2] at co2
  simp only [duo] at co1 co2
  have q1 : ((rest.length : Int) != 16) = false := by rw [hlen]; rfl
  have ci1 := fun W => isID_any (t : Int) W
  have ci2 := fun W => isID_any (i : Int) W
  rw [hi1] at ci1
  rw [hi2] at ci2
  have CI1 := Lib.hid ci1
  have CI2 := Lib.hid ci2
  clear h1 h2 hi1 hi2 ci1 ci2
  have CO1 := Lib.hid co1
  have CO2 := Lib.hid co2
  clear co1 co2
  go_enter Try.func36, Try.ntmps36
  go_wp2_with ((with_reducible show wpList _ _ _ _ _ _); refine wpList_store_row rfl 65 _ _ rfl (w.heap.size + 1) _ rfl rfl 65 pt0 HP0.out ?_ rfl ?_ ?_; kernel_rfl; simp [Value.oneCell'])
  generalize ((w.alloc (.cells pt0 65)).alloc (.cells pt0 65)).setRow (w.heap.size + 1) #[.int .u8 115, .int .i64 0, .int .i64 0, .int .i64 0, .string ⟨#[]⟩, .string ⟨#[]⟩] = W1 at *
  with_reducible refine (CP.out _).mono ?_
  rintro e w1 ⟨rfl, rfl⟩
  have k0 := HP1.out.cell 0
  have f0 := HP1.out.free 0
  simp at k0
  have HPx := Lib.hid (show RowIn #[.int .u8 120, .int .i64 0, .int .i64 0, .int .i64 0, .string ⟨#[]⟩, .string ⟨#[]⟩] 65 _ (w.heap.size + 1) from HP1.out.set 0 (.int .u8 120))
  have HRx := Lib.hid (HR1.out.other (show w.heap.size ≠ w.heap.size + 1 by omega) 0 (.int .u8 120))
  have HBx := Lib.hid (HB1.out.setCell (p := ⟨w.heap.size + 1, 0, none⟩) (by simp) (.int .u8 120))
  go_wp2_with fail
  with_reducible refine (CN.out _).mono ?_
  rintro e w2 ⟨rfl, hb2⟩
  clear k0 f0
  have HP2 := Lib.hid (HPx.out.below hb2)
  have HR2 := Lib.hid (HRx.out.below hb2)
  have HB2 := Lib.hid (below_step HBx.out hb2)
  clear hb2
  have k4 := HP2.out.cell 4
  have f4 := HP2.out.free 4
  have hp3 := HP2.out.set 4 (.string (S a))
  have k5 := hp3.cell 5
  have f5 := hp3.free 5
  simp at k4 k5
  have HP3 := Lib.hid (show RowIn #[.int .u8 120, .int .i64 0, .int .i64 0, .int .i64 0, .string (S a), .string (S b)] 65 ((w2.setCell ⟨w.heap.size + 1, 4, none⟩ (.string (S a))).setCell ⟨w.heap.size + 1, 5, none⟩ (.string (S b))) (w.heap.size + 1) from hp3.set 5 (.string (S b)))
  have HR3 := Lib.hid ((HR2.out.other (show w.heap.size ≠ w.heap.size + 1 by omega) 4 (.string (S a))).other (show w.heap.size ≠ w.heap.size + 1 by omega) 5 (.string (S b)))
  have HB3 := Lib.hid ((HB2.out.setCell (p := ⟨w.heap.size + 1, 4, none⟩) (by simp) (.string (S a))).setCell (p := ⟨w.heap.size + 1, 5, none⟩) (by simp) (.string (S b)))
  clear hp3
  go_wp2_with fail
  with_reducible refine (CO0.out _).mono ?_
  rintro e w3 ⟨rfl, rfl⟩
  clear k4 f4 k5 f5 CP CN HP2 HR2 HB2 HPx HRx HBx HP1 HR1 HB1 HP0
  generalize ((w2.setCell ⟨w.heap.size + 1, 4, none⟩ (.string (S a))).setCell ⟨w.heap.size + 1, 5, none⟩ (.string (S b))) = W3 at *
  have k3 := HP3.out.cell 3
  have f3 := HP3.out.free 3
  simp at k3
  have HP4 := Lib.hid (show RowIn #[.int .u8 120, .int .i64 0, .int .i64 0, .int .i64 (st : Int), .string (S a), .string (S b)] 65 (W3.setCell ⟨w.heap.size + 1, 3, none⟩ (.int .i64 (st : Int))) (w.heap.size + 1) from HP3.out.set 3 (.int .i64 (st : Int)))
  have HR4 := Lib.hid (HR3.out.other (show w.heap.size ≠ w.heap.size + 1 by omega) 3 (.int .i64 (st : Int)))
  have HB4 := Lib.hid (HB3.out.setCell (p := ⟨w.heap.size + 1, 3, none⟩) (by simp) (.int .i64 (st : Int)))
  have k3b := HP4.out.cell 3
  simp at k3b
  go_wp2_with fail
  with_reducible refine (CO1.out _).mono ?_
  rintro e w4 ⟨rfl, rfl⟩
  clear k3 f3 k3b HP3 HR3 HB3 CO0 CO1
  generalize (W3.setCell ⟨w.heap.size + 1, 3, none⟩ (.int .i64 (st : Int))) = W4 at *
  have hp5 := HP4.out.set 1 (.int .i64 (t : Int))
  have HP5 := Lib.hid (show RowIn #[.int .u8 120, .int .i64 (t : Int), .int .i64 (i : Int), .int .i64 (st : Int), .string (S a), .string (S b)] 65 _ (w.heap.size + 1) from hp5.set 2 (.int .i64 (i : Int)))
  have HR5 := Lib.hid ((HR4.out.other (show w.heap.size ≠ w.heap.size + 1 by omega) 1 (.int .i64 (t : Int))).other (show w.heap.size ≠ w.heap.size + 1 by omega) 2 (.int .i64 (i : Int)))
  have HB5 := Lib.hid ((HB4.out.setCell (p := ⟨w.heap.size + 1, 1, none⟩) (by simp) (.int .i64 (t : Int))).setCell (p := ⟨w.heap.size + 1, 2, none⟩) (by simp) (.int .i64 (i : Int)))
  have k1 := HP4.out.cell 1
  have k2 := hp5.cell 2
  have f1 := HP4.out.free 1
  have f2 := hp5.free 2
  simp at k1 k2
  clear hp5
  go_wp2_with (first | ((with_reducible show wpList _ _ _ _ _ _); refine wpList_load_row rfl 65 _ rfl (w.heap.size + 1) rfl 65 _ (0, 0) _ HP5.out Try.underlying65 rfl ?_ ?_; kernel_rfl) | ((with_reducible show wpList _ _ _ _ _ _); refine wpList_store_row rfl 65 _ _ rfl w.heap.size _ rfl rfl 65 pt0 HR5.out ?_ rfl ?_ ?_; kernel_rfl; simp [Value.oneCell']))
  repeat (first | ((with_reducible refine (CO2.out _).mono ?_); rintro e w1 ⟨rfl, rfl⟩; go_wp2_with (first | ((with_reducible show wpList _ _ _ _ _ _); refine wpList_load_row rfl 65 _ rfl (w.heap.size + 1) rfl 65 _ (0, 0) _ HP5.out Try.underlying65 rfl ?_ ?_; kernel_rfl) | ((with_reducible show wpList _ _ _ _ _ _); refine wpList_store_row rfl 65 _ _ rfl w.heap.size _ rfl rfl 65 pt0 HR5.out ?_ rfl ?_ ?_; kernel_rfl; simp [Value.oneCell']))) | ((with_reducible refine (CI1.out _).mono ?_); rintro e w1 ⟨rfl, rfl⟩; go_wp2_with (first | ((with_reducible show wpList _ _ _ _ _ _); refine wpList_load_row rfl 65 _ rfl (w.heap.size + 1) rfl 65 _ (0, 0) _ HP5.out Try.underlying65 rfl ?_ ?_; kernel_rfl) | ((with_reducible show wpList _ _ _ _ _ _); refine wpList_store_row rfl 65 _ _ rfl w.heap.size _ rfl rfl 65 pt0 HR5.out ?_ rfl ?_ ?_; kernel_rfl; simp [Value.oneCell']))) | ((with_reducible refine (CI2.out _).mono ?_); rintro e w1 ⟨rfl, rfl⟩; go_wp2_with (first | ((with_reducible show wpList _ _ _ _ _ _); refine wpList_load_row rfl 65 _ rfl (w.heap.size + 1) rfl 65 _ (0, 0) _ HP5.out Try.underlying65 rfl ?_ ?_; kernel_rfl) | ((with_reducible show wpList _ _ _ _ _ _); refine wpList_store_row rfl 65 _ _ rfl w.heap.size _ rfl rfl 65 pt0 HR5.out ?_ rfl ?_ ?_; kernel_rfl; simp [Value.oneCell']))))
  try simp only [Exit.inBlock, Exit.then]
  exact bodyPost_ret (ret_row2 Try.underlying65 (by kernel_rfl) rfl _ _ w.heap.size rfl (HR5.out.row (D := #[.int .u8 120, .int .i64 (t : Int), .int .i64 (i : Int), .int .i64 (st : Int), .string (S a), .string (S b)]))) rfl ⟨rfl, below_setRow HB5.out (Nat.le_refl _) _⟩

theorem parse_b2 (rest0 a b r2 rest : List UInt8) (hl : r2.length ≤ 140737488351232) (st : Nat) (hst : st ≤ 1073741824) (hr : rest = r2.drop 8) (h8 : 8 ≤ r2.length) (co0 : M.ofBigs r2 0 = some st)
    (cn : ∀ W, Calls Try.prog 57 #[.string (S (120 :: rest0))] W fun e w' => e = .returned (.tuple #[.string (S a), .string (S b), .string (S r2), .bool true]) ∧ Below W.heap.size W w') (w : World) :
    Calls Try.prog 36 #[.string (S (120 :: rest0))] w fun e w' => e = .returned (ptR (M.numsP 120 rest a b st)) ∧ Below w.heap.size w w' := by
  cases ho1 : M.ofBigs rest 0 with
  | none => rw [numsP_none (.inl ho1), ptR_none]; exact b_f1 rest0 a b r2 rest hl st hst hr h8 co0 ho1 cn w
  | some t =>
    cases ho2 : M.ofBigs rest 8 with
    | none => rw [numsP_none (.inr ho2), ptR_none]; exact b_f2 rest0 a b r2 rest hl st hst hr h8 co0 t ho1 ho2 cn w
    | some i =>
      rw [numsP_if ho1 ho2]
      by_cases hlen : rest.length = 16
      · cases hi1 : M.idB t with
        | false => rw [if_neg (by simp), ptR_none]; exact b_f4 rest0 a b r2 rest hl st hst hr h8 co0 t i ho1 ho2 hlen hi1 cn w
        | true =>
          cases hi2 : M.idB i with
          | false => rw [if_neg (by simp), ptR_none]; exact b_f5 rest0 a b r2 rest hl st hst hr h8 co0 t i ho1 ho2 hlen hi1 hi2 cn w
          | true => rw [if_pos ⟨hlen, rfl, rfl⟩]; exact b_ok rest0 a b r2 rest hl st hst hr h8 co0 t i ho1 ho2 hlen hi1 hi2 cn w
      · rw [if_neg (fun h => hlen h.1), ptR_none]; exact b_f3 rest0 a b r2 rest hl st hst hr h8 co0 t i ho1 ho2 hlen cn w

set_option maxHeartbeats 4000000 in
set_option maxRecDepth 100000 in
theorem parse_b (rest : List UInt8) (hl : rest.length ≤ 140737488351231) (w : World) :
    Calls Try.prog 36 #[.string (S (120 :: rest))] w fun e w' => e = .returned (ptR (M.parse (120 :: rest))) ∧ Below w.heap.size w w' := by
  have hpar : M.parse (120 :: rest) = M.idxP rest := by rw [M.parse, if_neg (by decide), if_pos rfl]
  rw [hpar]
  clear hpar
  have cn := fun W => names_yes rest (by omega) W
  have l1 := M.cut0_length rest
  have l2 := M.cut0_length (M.cut0 rest).2
  have hidx : M.idxP rest = if M.nameB (M.cut0 rest).1 && M.nameB (M.cut0 (M.cut0 rest).2).1 then
    match M.ofBigs (M.cut0 (M.cut0 rest).2).2 0 with
    | some st => if st ≤ 1073741824 then M.numsP 120 ((M.cut0 (M.cut0 rest).2).2.drop 8) (M.cut0 rest).1 (M.cut0 (M.cut0 rest).2).1 st else none
    | none => none
  else none := rfl
  rw [hidx]
  clear hidx
  generalize (M.cut0 (M.cut0 rest).2).2 = r2 at *
  generalize (M.cut0 (M.cut0 rest).2).1 = b at *
  generalize (M.cut0 rest).2 = r1 at *
  generalize (M.cut0 rest).1 = a at *
  have c0 := fun W => ofBig_any r2 0 W (by omega)
  have CP := Lib.hid (fun W => cutPrefix_no 115 (120 :: rest) (by simp) W)
  cases hn : (M.nameB a && M.nameB b) with
  | false =>
    rw [hn] at cn
    have CN := Lib.hid cn
    clear cn c0
    rw [if_neg (by simp), ptR_none]
    have b115 : B [115] 0 = 115 := rfl
    have b120 : B [120] 0 = 120 := rfl
    have HP0 := Lib.hid (rowIn_at pt0 65 (w.alloc (.cells pt0 65)) (w.heap.size + 1) (by simp))
    have HR1 := Lib.hid (((rowIn_new pt0 65 w).more (.cells pt0 65)).rowAbove (c := w.heap.size + 1) (D := #[.int .u8 115, .int .i64 0, .int .i64 0, .int .i64 0, .string ⟨#[]⟩, .string ⟨#[]⟩]) (by omega))
    have HP1 := Lib.hid (HP0.out.row (D := #[.int .u8 115, .int .i64 0, .int .i64 0, .int .i64 0, .string ⟨#[]⟩, .string ⟨#[]⟩]))
    have HB1 := Lib.hid (below_setRow (g := w.heap.size + 1) (((Below.refl w.heap.size w).alloc (Nat.le_refl _) (.cells pt0 65)).alloc (by simp) (.cells pt0 65)) (by omega) #[.int .u8 115, .int .i64 0, .int .i64 0, .int .i64 0, .string ⟨#[]⟩, .string ⟨#[]⟩])
    go_enter Try.func36, Try.ntmps36
    go_wp2_with ((with_reducible show wpList _ _ _ _ _ _); refine wpList_store_row rfl 65 _ _ rfl (w.heap.size + 1) _ rfl rfl 65 pt0 HP0.out ?_ rfl ?_ ?_; kernel_rfl; simp [Value.oneCell'])
    generalize ((w.alloc (.cells pt0 65)).alloc (.cells pt0 65)).setRow (w.heap.size + 1) #[.int .u8 115, .int .i64 0, .int .i64 0, .int .i64 0, .string ⟨#[]⟩, .string ⟨#[]⟩] = W1 at *
    with_reducible refine (CP.out _).mono ?_
    rintro e w1 ⟨rfl, rfl⟩
    have k0 := HP1.out.cell 0
    have f0 := HP1.out.free 0
    simp at k0
    have HPx := Lib.hid (show RowIn #[.int .u8 120, .int .i64 0, .int .i64 0, .int .i64 0, .string ⟨#[]⟩, .string ⟨#[]⟩] 65 _ (w.heap.size + 1) from HP1.out.set 0 (.int .u8 120))
    have HRx := Lib.hid (HR1.out.other (show w.heap.size ≠ w.heap.size + 1 by omega) 0 (.int .u8 120))
    have HBx := Lib.hid (HB1.out.setCell (p := ⟨w.heap.size + 1, 0, none⟩) (by simp) (.int .u8 120))
    go_wp2_with fail
    with_reducible refine (CN.out _).mono ?_
    rintro e w2 ⟨rfl, hb2⟩
    clear k0 f0
    have HP2 := Lib.hid (HPx.out.below hb2)
    have HR2 := Lib.hid (HRx.out.below hb2)
    have HB2 := Lib.hid (below_step HBx.out hb2)
    clear hb2
    have k4 := HP2.out.cell 4
    have f4 := HP2.out.free 4
    have hp3 := HP2.out.set 4 (.string (S a))
    have k5 := hp3.cell 5
    have f5 := hp3.free 5
    simp at k4 k5
    have HP3 := Lib.hid (show RowIn #[.int .u8 120, .int .i64 0, .int .i64 0, .int .i64 0, .string (S a), .string (S b)] 65 ((w2.setCell ⟨w.heap.size + 1, 4, none⟩ (.string (S a))).setCell ⟨w.heap.size + 1, 5, none⟩ (.string (S b))) (w.heap.size + 1) from hp3.set 5 (.string (S b)))
    have HR3 := Lib.hid ((HR2.out.other (show w.heap.size ≠ w.heap.size + 1 by omega) 4 (.string (S a))).other (show w.heap.size ≠ w.heap.size + 1 by omega) 5 (.string (S b)))
    have HB3 := Lib.hid ((HB2.out.setCell (p := ⟨w.heap.size + 1, 4, none⟩) (by simp) (.string (S a))).setCell (p := ⟨w.heap.size + 1, 5, none⟩) (by simp) (.string (S b)))
    clear hp3
    go_wp2_with ((with_reducible show wpList _ _ _ _ _ _); refine wpList_store_row rfl 65 _ _ rfl w.heap.size _ rfl rfl 65 pt0 HR3.out ?_ rfl ?_ ?_; kernel_rfl; simp [Value.oneCell'])
    try simp only [Exit.inBlock, Exit.then]
    exact bodyPost_ret (ret_row2 Try.underlying65 (by kernel_rfl) rfl _ _ w.heap.size rfl HR3.out.row) rfl ⟨rfl, below_setRow HB3.out (Nat.le_refl _) _⟩
  | true =>
    rw [hn] at cn
    rw [if_pos rfl]
    cases ho : M.ofBigs r2 0 with
    | none =>
      rw [ho] at c0
      simp only [duo] at c0
      have CO0 := Lib.hid c0
      have CN := Lib.hid cn
      clear cn c0
      simp only [ptR_none]
      have b115 : B [115] 0 = 115 := rfl
      have b120 : B [120] 0 = 120 := rfl
      have HP0 := Lib.hid (rowIn_at pt0 65 (w.alloc (.cells pt0 65)) (w.heap.size + 1) (by simp))
      have HR1 := Lib.hid (((rowIn_new pt0 65 w).more (.cells pt0 65)).rowAbove (c := w.heap.size + 1) (D := #[.int .u8 115, .int .i64 0, .int .i64 0, .int .i64 0, .string ⟨#[]⟩, .string ⟨#[]⟩]) (by omega))
      have HP1 := Lib.hid (HP0.out.row (D := #[.int .u8 115, .int .i64 0, .int .i64 0, .int .i64 0, .string ⟨#[]⟩, .string ⟨#[]⟩]))
      have HB1 := Lib.hid (below_setRow (g := w.heap.size + 1) (((Below.refl w.heap.size w).alloc (Nat.le_refl _) (.cells pt0 65)).alloc (by simp) (.cells pt0 65)) (by omega) #[.int .u8 115, .int .i64 0, .int .i64 0, .int .i64 0, .string ⟨#[]⟩, .string ⟨#[]⟩])
      go_enter Try.func36, Try.ntmps36
      go_wp2_with ((with_reducible show wpList _ _ _ _ _ _); refine wpList_store_row rfl 65 _ _ rfl (w.heap.size + 1) _ rfl rfl 65 pt0 HP0.out ?_ rfl ?_ ?_; kernel_rfl; simp [Value.oneCell'])
      generalize ((w.alloc (.cells pt0 65)).alloc (.cells pt0 65)).setRow (w.heap.size + 1) #[.int .u8 115, .int .i64 0, .int .i64 0, .int .i64 0, .string ⟨#[]⟩, .string ⟨#[]⟩] = W1 at *
      with_reducible refine (CP.out _).mono ?_
      rintro e w1 ⟨rfl, rfl⟩
      have k0 := HP1.out.cell 0
      have f0 := HP1.out.free 0
      simp at k0
      have HPx := Lib.hid (show RowIn #[.int .u8 120, .int .i64 0, .int .i64 0, .int .i64 0, .string ⟨#[]⟩, .string ⟨#[]⟩] 65 _ (w.heap.size + 1) from HP1.out.set 0 (.int .u8 120))
      have HRx := Lib.hid (HR1.out.other (show w.heap.size ≠ w.heap.size + 1 by omega) 0 (.int .u8 120))
      have HBx := Lib.hid (HB1.out.setCell (p := ⟨w.heap.size + 1, 0, none⟩) (by simp) (.int .u8 120))
      go_wp2_with fail
      with_reducible refine (CN.out _).mono ?_
      rintro e w2 ⟨rfl, hb2⟩
      clear k0 f0
      have HP2 := Lib.hid (HPx.out.below hb2)
      have HR2 := Lib.hid (HRx.out.below hb2)
      have HB2 := Lib.hid (below_step HBx.out hb2)
      clear hb2
      have k4 := HP2.out.cell 4
      have f4 := HP2.out.free 4
      have hp3 := HP2.out.set 4 (.string (S a))
      have k5 := hp3.cell 5
      have f5 := hp3.free 5
      simp at k4 k5
      have HP3 := Lib.hid (show RowIn #[.int .u8 120, .int .i64 0, .int .i64 0, .int .i64 0, .string (S a), .string (S b)] 65 ((w2.setCell ⟨w.heap.size + 1, 4, none⟩ (.string (S a))).setCell ⟨w.heap.size + 1, 5, none⟩ (.string (S b))) (w.heap.size + 1) from hp3.set 5 (.string (S b)))
      have HR3 := Lib.hid ((HR2.out.other (show w.heap.size ≠ w.heap.size + 1 by omega) 4 (.string (S a))).other (show w.heap.size ≠ w.heap.size + 1 by omega) 5 (.string (S b)))
      have HB3 := Lib.hid ((HB2.out.setCell (p := ⟨w.heap.size + 1, 4, none⟩) (by simp) (.string (S a))).setCell (p := ⟨w.heap.size + 1, 5, none⟩) (by simp) (.string (S b)))
      clear hp3
      go_wp2_with fail
      with_reducible refine (CO0.out _).mono ?_
      rintro e w3 ⟨rfl, rfl⟩
      clear k4 f4 k5 f5 CP CN HP2 HR2 HB2 HPx HRx HBx HP1 HR1 HB1 HP0
      generalize ((w2.setCell ⟨w.heap.size + 1, 4, none⟩ (.string (S a))).setCell ⟨w.heap.size + 1, 5, none⟩ (.string (S b))) = W3 at *
      have k3 := HP3.out.cell 3
      have f3 := HP3.out.free 3
      simp at k3
      have HP4 := Lib.hid (show RowIn #[.int .u8 120, .int .i64 0, .int .i64 0, .int .i64 0, .string (S a), .string (S b)] 65 (W3.setCell ⟨w.heap.size + 1, 3, none⟩ (.int .i64 0)) (w.heap.size + 1) from HP3.out.set 3 (.int .i64 0))
      have HR4 := Lib.hid (HR3.out.other (show w.heap.size ≠ w.heap.size + 1 by omega) 3 (.int .i64 0))
      have HB4 := Lib.hid (HB3.out.setCell (p := ⟨w.heap.size + 1, 3, none⟩) (by simp) (.int .i64 0))
      have k3b := HP4.out.cell 3
      simp at k3b
      go_wp2_with ((with_reducible show wpList _ _ _ _ _ _); refine wpList_store_row rfl 65 _ _ rfl w.heap.size _ rfl rfl 65 pt0 HR4.out ?_ rfl ?_ ?_; kernel_rfl; simp [Value.oneCell'])
      try simp only [Exit.inBlock, Exit.then]
      exact bodyPost_ret (ret_row2 Try.underlying65 (by kernel_rfl) rfl _ _ w.heap.size rfl HR4.out.row) rfl ⟨rfl, below_setRow HB4.out (Nat.le_refl _) _⟩
    | some st =>
      have hb := M.ofBigs_bounds ho
      by_cases hst : st ≤ 1073741824
      · simp only [if_pos hst]
        exact parse_b2 rest a b r2 _ (by omega) st hst rfl (by have := hb.2.1; omega) ho cn w
      · rw [ho] at c0
        simp only [duo] at c0
        have CO0 := Lib.hid c0
        have CN := Lib.hid cn
        clear cn c0
        simp only [if_neg hst, ptR_none]
        have d3 : decide (1073741824 < (st : Int)) = true := by simp; omega
        have b115 : B [115] 0 = 115 := rfl
        have b120 : B [120] 0 = 120 := rfl
        have HP0 := Lib.hid (rowIn_at pt0 65 (w.alloc (.cells pt0 65)) (w.heap.size + 1) (by simp))
        have HR1 := Lib.hid (((rowIn_new pt0 65 w).more (.cells pt0 65)).rowAbove (c := w.heap.size + 1) (D := #[.int .u8 115, .int .i64 0, .int .i64 0, .int .i64 0, .string ⟨#[]⟩, .string ⟨#[]⟩]) (by omega))
        have HP1 := Lib.hid (HP0.out.row (D := #[.int .u8 115, .int .i64 0, .int .i64 0, .int .i64 0, .string ⟨#[]⟩, .string ⟨#[]⟩]))
        have HB1 := Lib.hid (below_setRow (g := w.heap.size + 1) (((Below.refl w.heap.size w).alloc (Nat.le_refl _) (.cells pt0 65)).alloc (by simp) (.cells pt0 65)) (by omega) #[.int .u8 115, .int .i64 0, .int .i64 0, .int .i64 0, .string ⟨#[]⟩, .string ⟨#[]⟩])
        go_enter Try.func36, Try.ntmps36
        go_wp2_with ((with_reducible show wpList _ _ _ _ _ _); refine wpList_store_row rfl 65 _ _ rfl (w.heap.size + 1) _ rfl rfl 65 pt0 HP0.out ?_ rfl ?_ ?_; kernel_rfl; simp [Value.oneCell'])
        generalize ((w.alloc (.cells pt0 65)).alloc (.cells pt0 65)).setRow (w.heap.size + 1) #[.int .u8 115, .int .i64 0, .int .i64 0, .int .i64 0, .string ⟨#[]⟩, .string ⟨#[]⟩] = W1 at *
        with_reducible refine (CP.out _).mono ?_
        rintro e w1 ⟨rfl, rfl⟩
        have k0 := HP1.out.cell 0
        have f0 := HP1.out.free 0
        simp at k0
        have HPx := Lib.hid (show RowIn #[.int .u8 120, .int .i64 0, .int .i64 0, .int .i64 0, .string ⟨#[]⟩, .string ⟨#[]⟩] 65 _ (w.heap.size + 1) from HP1.out.set 0 (.int .u8 120))
        have HRx := Lib.hid (HR1.out.other (show w.heap.size ≠ w.heap.size + 1 by omega) 0 (.int .u8 120))
        have HBx := Lib.hid (HB1.out.setCell (p := ⟨w.heap.size + 1, 0, none⟩) (by simp) (.int .u8 120))
        go_wp2_with fail
        with_reducible refine (CN.out _).mono ?_
        rintro e w2 ⟨rfl, hb2⟩
        clear k0 f0
        have HP2 := Lib.hid (HPx.out.below hb2)
        have HR2 := Lib.hid (HRx.out.below hb2)
        have HB2 := Lib.hid (below_step HBx.out hb2)
        clear hb2
        have k4 := HP2.out.cell 4
        have f4 := HP2.out.free 4
        have hp3 := HP2.out.set 4 (.string (S a))
        have k5 := hp3.cell 5
        have f5 := hp3.free 5
        simp at k4 k5
        have HP3 := Lib.hid (show RowIn #[.int .u8 120, .int .i64 0, .int .i64 0, .int .i64 0, .string (S a), .string (S b)] 65 ((w2.setCell ⟨w.heap.size + 1, 4, none⟩ (.string (S a))).setCell ⟨w.heap.size + 1, 5, none⟩ (.string (S b))) (w.heap.size + 1) from hp3.set 5 (.string (S b)))
        have HR3 := Lib.hid ((HR2.out.other (show w.heap.size ≠ w.heap.size + 1 by omega) 4 (.string (S a))).other (show w.heap.size ≠ w.heap.size + 1 by omega) 5 (.string (S b)))
        have HB3 := Lib.hid ((HB2.out.setCell (p := ⟨w.heap.size + 1, 4, none⟩) (by simp) (.string (S a))).setCell (p := ⟨w.heap.size + 1, 5, none⟩) (by simp) (.string (S b)))
        clear hp3
        go_wp2_with fail
        with_reducible refine (CO0.out _).mono ?_
        rintro e w3 ⟨rfl, rfl⟩
        clear k4 f4 k5 f5 CP CN HP2 HR2 HB2 HPx HRx HBx HP1 HR1 HB1 HP0
        generalize ((w2.setCell ⟨w.heap.size + 1, 4, none⟩ (.string (S a))).setCell ⟨w.heap.size + 1, 5, none⟩ (.string (S b))) = W3 at *
        have k3 := HP3.out.cell 3
        have f3 := HP3.out.free 3
        simp at k3
        have HP4 := Lib.hid (show RowIn #[.int .u8 120, .int .i64 0, .int .i64 0, .int .i64 (st : Int), .string (S a), .string (S b)] 65 (W3.setCell ⟨w.heap.size + 1, 3, none⟩ (.int .i64 (st : Int))) (w.heap.size + 1) from HP3.out.set 3 (.int .i64 (st : Int)))
        have HR4 := Lib.hid (HR3.out.other (show w.heap.size ≠ w.heap.size + 1 by omega) 3 (.int .i64 (st : Int)))
        have HB4 := Lib.hid (HB3.out.setCell (p := ⟨w.heap.size + 1, 3, none⟩) (by simp) (.int .i64 (st : Int)))
        have k3b := HP4.out.cell 3
        simp at k3b
        go_wp2_with ((with_reducible show wpList _ _ _ _ _ _); refine wpList_store_row rfl 65 _ _ rfl w.heap.size _ rfl rfl 65 pt0 HR4.out ?_ rfl ?_ ?_; kernel_rfl; simp [Value.oneCell'])
        try simp only [Exit.inBlock, Exit.then]
        exact bodyPost_ret (ret_row2 Try.underlying65 (by kernel_rfl) rfl _ _ w.heap.size rfl HR4.out.row) rfl ⟨rfl, below_setRow HB4.out (Nat.le_refl _) _⟩

theorem parse_any (l : List UInt8) (hl : l.length ≤ 140737488351232) (w : World) :
    Calls Try.prog 36 #[.string (S l)] w fun e w' => e = .returned (ptR (M.parse l)) ∧ Below w.heap.size w w' := by
  cases l with
  | nil => exact parse_c [] (by simp) (by simp) w
  | cons k rest =>
    by_cases h1 : k = 115
    · subst h1; exact parse_a rest (by simp at hl; omega) w
    · by_cases h2 : k = 120
      · subst h2; exact parse_b rest (by simp at hl; omega) w
      · exact parse_c (k :: rest) (by simpa using h1) (by simpa using h2) w

end Go.Proofs.Ytjlddackpckmfaa
