/- Layer 9: the cell that stands at a place, by a contract. -/
import Derived.Test.YtppkecilbkgbdaaBlocksF
namespace Go.Proofs.Ytppkecilbkgbdaa
set_option linter.unusedVariables false
open Go Go.RowKit
attribute [local go_sem ↓] run_index_S
attribute [local go_sem] S_append S_extract

def ReadR (r : Option (M.Cl × Nat)) (w : World) (e : Ending) (w' : World) : Prop := (match r with
  | some (c, nx) => e = .returned (.tuple #[.agg (clA c), .int .i64 nx, .bool true])
  | none => ∃ c : M.Cl, e = .returned (.tuple #[.agg (clA c), .int .i64 0, .bool false])) ∧ Below w.heap.size w w'
theorem ReadR.no {c : M.Cl} {w : World} {e : Ending} {w' : World} (h : e = .returned (.tuple #[.agg (clA c), .int .i64 0, .bool false])) (hb : Below w.heap.size w w') : ReadR none w e w' := ⟨⟨c, h⟩, hb⟩
abbrev clZ9 : Array Value := #[.string ⟨#[]⟩, .int .i64 0, .string ⟨#[]⟩]

set_option maxHeartbeats 4000000 in
set_option maxRecDepth 100000 in
theorem read_a (s last : List UInt8) (at_ : Nat) (hs : s.length ≤ 1000000) (hla : last.length ≤ 1000000) (w : World) (h1 : M.gets s at_ = none) :
    Calls Try.prog 56 #[.string (S s), .int .i64 at_, .string (S last)] w fun e w' => ReadR none w e w' := by
  have C1 := Lib.hid (fun W => get_any s at_ W (by omega))
  rw [h1] at C1
  simp only [tri] at C1
  clear h1
  have HX := Lib.hid (rowIn_new clZ9 32 w)
  have HB := Lib.hid ((Below.refl w.heap.size w).alloc (Nat.le_refl _) (.cells clZ9 32))
  go_enter Try.func56, Try.ntmps56
  go_wp2_with fail
  with_reducible refine (C1.out _).mono ?_
  rintro e w1 ⟨rfl, rfl⟩
  go_wp2_with (first
    | (refine wpList_load_row rfl 32 _ rfl w.heap.size rfl 32 _ (0, 0) _ HX.out Try.underlying32 rfl ?_ ?_; kernel_rfl)
    | (refine wpList_store_hid rfl 32 _ _ rfl w.heap.size _ rfl rfl 32 _ HX.out ?_ rfl (by simp [Value.oneCell']) ?_; kernel_rfl; intro wE hrQ hbelQ hothQ hszQ; have HXE := Lib.hid hrQ; have HBE := Lib.hid (hbelQ w.heap.size w (Nat.le_refl _) HB.out); clear hrQ hbelQ hothQ hszQ))
  try simp only [Exit.inBlock, Exit.then]
  exact bodyPost_ret (ret_rowP3 rfl _ _ w.heap.size rfl (load_struct Try.underlying32 (by kernel_rfl) HXE.out)) rfl (ReadR.no (c := ⟨[], 0, []⟩) rfl HBE.out)

set_option maxHeartbeats 4000000 in
set_option maxRecDepth 100000 in
theorem read_b (s last : List UInt8) (at_ : Nat) (hs : s.length ≤ 1000000) (hla : last.length ≤ 1000000) (w : World) (n a1 : Nat) (h1 : M.gets s at_ = some (n, a1)) (h2 : last.length < n) :
    Calls Try.prog 56 #[.string (S s), .int .i64 at_, .string (S last)] w fun e w' => ReadR none w e w' := by
  have C1 := Lib.hid (fun W => get_any s at_ W (by omega))
  rw [h1] at C1
  simp only [tri] at C1
  clear h1
  have HX := Lib.hid (rowIn_new clZ9 32 w)
  have HB := Lib.hid ((Below.refl w.heap.size w).alloc (Nat.le_refl _) (.cells clZ9 32))
  have d2 : decide ((last.length : Int) < (n : Int)) = true := by simp; omega
  go_enter Try.func56, Try.ntmps56
  go_wp2_with fail
  with_reducible refine (C1.out _).mono ?_
  rintro e w1 ⟨rfl, rfl⟩
  go_wp2_with (first
    | (refine wpList_load_row rfl 32 _ rfl w.heap.size rfl 32 _ (0, 0) _ HX.out Try.underlying32 rfl ?_ ?_; kernel_rfl)
    | (refine wpList_store_hid rfl 32 _ _ rfl w.heap.size _ rfl rfl 32 _ HX.out ?_ rfl (by simp [Value.oneCell']) ?_; kernel_rfl; intro wE hrQ hbelQ hothQ hszQ; have HXE := Lib.hid hrQ; have HBE := Lib.hid (hbelQ w.heap.size w (Nat.le_refl _) HB.out); clear hrQ hbelQ hothQ hszQ))
  try simp only [Exit.inBlock, Exit.then]
  exact bodyPost_ret (ret_rowP3 rfl _ _ w.heap.size rfl (load_struct Try.underlying32 (by kernel_rfl) HXE.out)) rfl (ReadR.no (c := ⟨[], 0, []⟩) rfl HBE.out)

set_option maxHeartbeats 4000000 in
set_option maxRecDepth 100000 in
theorem read_c (s last : List UInt8) (at_ : Nat) (hs : s.length ≤ 1000000) (hla : last.length ≤ 1000000) (w : World) (n a1 : Nat) (h1 : M.gets s at_ = some (n, a1)) (h2 : n ≤ last.length) (h3 : M.getTs s a1 = none) :
    Calls Try.prog 56 #[.string (S s), .int .i64 at_, .string (S last)] w fun e w' => ReadR none w e w' := by
  have C1 := Lib.hid (fun W => get_any s at_ W (by omega))
  rw [h1] at C1
  simp only [tri] at C1
  clear h1
  have HX := Lib.hid (rowIn_new clZ9 32 w)
  have HB := Lib.hid ((Below.refl w.heap.size w).alloc (Nat.le_refl _) (.cells clZ9 32))
  have C2 := Lib.hid (fun W => getText_any s a1 W (by omega))
  rw [h3] at C2
  simp only [triT] at C2
  clear h3
  have d2 : decide ((last.length : Int) < (n : Int)) = false := by simp; omega
  go_enter Try.func56, Try.ntmps56
  go_wp2_with fail
  with_reducible refine (C1.out _).mono ?_
  rintro e w1 ⟨rfl, rfl⟩
  go_wp2_with fail
  with_reducible refine (C2.out _).mono ?_
  rintro e w1 ⟨rfl, rfl⟩
  go_wp2_with (first
    | (refine wpList_load_row rfl 32 _ rfl w.heap.size rfl 32 _ (0, 0) _ HX.out Try.underlying32 rfl ?_ ?_; kernel_rfl)
    | (refine wpList_store_hid rfl 32 _ _ rfl w.heap.size _ rfl rfl 32 _ HX.out ?_ rfl (by simp [Value.oneCell']) ?_; kernel_rfl; intro wE hrQ hbelQ hothQ hszQ; have HXE := Lib.hid hrQ; have HBE := Lib.hid (hbelQ w.heap.size w (Nat.le_refl _) HB.out); clear hrQ hbelQ hothQ hszQ))
  try simp only [Exit.inBlock, Exit.then]
  exact bodyPost_ret (ret_rowP3 rfl _ _ w.heap.size rfl (load_struct Try.underlying32 (by kernel_rfl) HXE.out)) rfl (ReadR.no (c := ⟨[], 0, []⟩) rfl HBE.out)

set_option maxHeartbeats 4000000 in
set_option maxRecDepth 100000 in
theorem read_d (s last : List UInt8) (at_ : Nat) (hs : s.length ≤ 1000000) (hla : last.length ≤ 1000000) (w : World) (n a1 : Nat) (h1 : M.gets s at_ = some (n, a1)) (h2 : n ≤ last.length) (rest : List UInt8) (a2 : Nat) (h3 : M.getTs s a1 = some (rest, a2)) (hr9 : rest.length ≤ 1000000) (h4 : ¬ M.com last (last.take n ++ rest) = n) :
    Calls Try.prog 56 #[.string (S s), .int .i64 at_, .string (S last)] w fun e w' => ReadR none w e w' := by
  have C1 := Lib.hid (fun W => get_any s at_ W (by omega))
  rw [h1] at C1
  simp only [tri] at C1
  clear h1
  have HX := Lib.hid (rowIn_new clZ9 32 w)
  have HB := Lib.hid ((Below.refl w.heap.size w).alloc (Nat.le_refl _) (.cells clZ9 32))
  have C2 := Lib.hid (fun W => getText_any s a1 W (by omega))
  rw [h3] at C2
  simp only [triT] at C2
  clear h3
  have d2 : decide ((last.length : Int) < (n : Int)) = false := by simp; omega
  have hs0 := run_piece_to (P := Try.prog) 9 Try.underlying9 last (n : Int) n rfl h2
  have hkl : (last.take n).length ≤ 1000000 := by simp; omega
  generalize last.take n = hd0 at *
  have hkk : (hd0 ++ rest).length ≤ 3000000 := by simp only [List.length_append]; omega
  have CC := Lib.hid (fun W => common9_any last (hd0 ++ rest) (by omega) (by omega) W)
  have HX1 := Lib.hid (rowIn_new #[.string (S (hd0 ++ rest)), .int .i64 0, .string ⟨#[]⟩] 32 w)
  have HB1 := Lib.hid ((Below.refl w.heap.size w).alloc (Nat.le_refl _) (.cells #[.string (S (hd0 ++ rest)), .int .i64 0, .string ⟨#[]⟩] 32))
  have d4 : ((M.com last (hd0 ++ rest) : Int) == (n : Int)) = false := by simp; omega
  clear h4
  generalize M.com last (hd0 ++ rest) = cm at *
  go_enter Try.func56, Try.ntmps56
  go_wp2_with fail
  with_reducible refine (C1.out _).mono ?_
  rintro e w1 ⟨rfl, rfl⟩
  go_wp2_with fail
  with_reducible refine (C2.out _).mono ?_
  rintro e w1 ⟨rfl, rfl⟩
  go_wp2_with fail
  with_reducible refine (CC.out _).mono ?_
  rintro e w2 ⟨rfl, hb2⟩
  have HX2 := Lib.hid (HX1.out.below hb2)
  have HB2 := Lib.hid (below_step HB1.out hb2)
  clear hb2 CC HX1 HB1 HX HB
  go_wp2_with (first
    | (refine wpList_load_row rfl 32 _ rfl w.heap.size rfl 32 _ (0, 0) _ HX2.out Try.underlying32 rfl ?_ ?_; kernel_rfl)
    | (refine wpList_store_hid rfl 32 _ _ rfl w.heap.size _ rfl rfl 32 _ HX2.out ?_ rfl (by simp [Value.oneCell']) ?_; kernel_rfl; intro wE hrQ hbelQ hothQ hszQ; have HXE := Lib.hid hrQ; have HBE := Lib.hid (hbelQ w.heap.size w (Nat.le_refl _) HB2.out); clear hrQ hbelQ hothQ hszQ))
  try simp only [Exit.inBlock, Exit.then]
  exact bodyPost_ret (ret_rowP3 rfl _ _ w.heap.size rfl (load_struct Try.underlying32 (by kernel_rfl) HXE.out)) rfl (ReadR.no (c := ⟨hd0 ++ rest, 0, []⟩) rfl HBE.out)

set_option maxHeartbeats 4000000 in
set_option maxRecDepth 100000 in
theorem read_e (s last : List UInt8) (at_ : Nat) (hs : s.length ≤ 1000000) (hla : last.length ≤ 1000000) (w : World) (n a1 : Nat) (h1 : M.gets s at_ = some (n, a1)) (h2 : n ≤ last.length) (rest : List UInt8) (a2 : Nat) (h3 : M.getTs s a1 = some (rest, a2)) (hr9 : rest.length ≤ 1000000) (h4 : M.com last (last.take n ++ rest) = n) (h5 : M.gets s a2 = none) :
    Calls Try.prog 56 #[.string (S s), .int .i64 at_, .string (S last)] w fun e w' => ReadR none w e w' := by
  have C1 := Lib.hid (fun W => get_any s at_ W (by omega))
  rw [h1] at C1
  simp only [tri] at C1
  clear h1
  have HX := Lib.hid (rowIn_new clZ9 32 w)
  have HB := Lib.hid ((Below.refl w.heap.size w).alloc (Nat.le_refl _) (.cells clZ9 32))
  have C2 := Lib.hid (fun W => getText_any s a1 W (by omega))
  rw [h3] at C2
  simp only [triT] at C2
  clear h3
  have d2 : decide ((last.length : Int) < (n : Int)) = false := by simp; omega
  have hs0 := run_piece_to (P := Try.prog) 9 Try.underlying9 last (n : Int) n rfl h2
  have hkl : (last.take n).length ≤ 1000000 := by simp; omega
  generalize last.take n = hd0 at *
  have hkk : (hd0 ++ rest).length ≤ 3000000 := by simp only [List.length_append]; omega
  have CC := Lib.hid (fun W => common9_any last (hd0 ++ rest) (by omega) (by omega) W)
  have HX1 := Lib.hid (rowIn_new #[.string (S (hd0 ++ rest)), .int .i64 0, .string ⟨#[]⟩] 32 w)
  have HB1 := Lib.hid ((Below.refl w.heap.size w).alloc (Nat.le_refl _) (.cells #[.string (S (hd0 ++ rest)), .int .i64 0, .string ⟨#[]⟩] 32))
  rw [h4] at CC
  clear h4
  have C5 := Lib.hid (fun W => get_any s a2 W (by omega))
  rw [h5] at C5
  simp only [tri] at C5
  clear h5
  go_enter Try.func56, Try.ntmps56
  go_wp2_with fail
  with_reducible refine (C1.out _).mono ?_
  rintro e w1 ⟨rfl, rfl⟩
  go_wp2_with fail
  with_reducible refine (C2.out _).mono ?_
  rintro e w1 ⟨rfl, rfl⟩
  go_wp2_with fail
  with_reducible refine (CC.out _).mono ?_
  rintro e w2 ⟨rfl, hb2⟩
  have HX2 := Lib.hid (HX1.out.below hb2)
  have HB2 := Lib.hid (below_step HB1.out hb2)
  clear hb2 CC HX1 HB1 HX HB
  go_wp2_with fail
  with_reducible refine (C5.out _).mono ?_
  rintro e w3 ⟨rfl, rfl⟩
  have k1 : w2.cell? ⟨w.heap.size, 1, none⟩ = some (.int .i64 0) := HX2.out.cell 1
  have f1 := HX2.out.free 1
  have HX3 := Lib.hid (show RowIn #[.string (S (hd0 ++ rest)), .int .i64 0, .string ⟨#[]⟩] 32 (w2.setCell ⟨w.heap.size, 1, none⟩ (.int .i64 0)) w.heap.size from HX2.out.set 1 _)
  have HB3 := Lib.hid (show Below w.heap.size w (w2.setCell ⟨w.heap.size, 1, none⟩ (.int .i64 0)) from HB2.out.setCell (Nat.le_refl _) _)
  go_wp2_with (first
    | (refine wpList_load_row rfl 32 _ rfl w.heap.size rfl 32 _ (0, 0) _ HX3.out Try.underlying32 rfl ?_ ?_; kernel_rfl)
    | (refine wpList_store_hid rfl 32 _ _ rfl w.heap.size _ rfl rfl 32 _ HX3.out ?_ rfl (by simp [Value.oneCell']) ?_; kernel_rfl; intro wE hrQ hbelQ hothQ hszQ; have HXE := Lib.hid hrQ; have HBE := Lib.hid (hbelQ w.heap.size w (Nat.le_refl _) HB3.out); clear hrQ hbelQ hothQ hszQ))
  try simp only [Exit.inBlock, Exit.then]
  exact bodyPost_ret (ret_rowP3 rfl _ _ w.heap.size rfl (load_struct Try.underlying32 (by kernel_rfl) HXE.out)) rfl (ReadR.no (c := ⟨hd0 ++ rest, 0, []⟩) rfl HBE.out)

set_option maxHeartbeats 4000000 in
set_option maxRecDepth 100000 in
theorem read_f (s last : List UInt8) (at_ : Nat) (hs : s.length ≤ 1000000) (hla : last.length ≤ 1000000) (w : World) (n a1 : Nat) (h1 : M.gets s at_ = some (n, a1)) (h2 : n ≤ last.length) (rest : List UInt8) (a2 : Nat) (h3 : M.getTs s a1 = some (rest, a2)) (hr9 : rest.length ≤ 1000000) (h4 : M.com last (last.take n ++ rest) = n) (q a3 : Nat) (h5 : M.gets s a2 = some (q, a3)) (h6 : M.getTs s a3 = none) :
    Calls Try.prog 56 #[.string (S s), .int .i64 at_, .string (S last)] w fun e w' => ReadR none w e w' := by
  have C1 := Lib.hid (fun W => get_any s at_ W (by omega))
  rw [h1] at C1
  simp only [tri] at C1
  clear h1
  have HX := Lib.hid (rowIn_new clZ9 32 w)
  have HB := Lib.hid ((Below.refl w.heap.size w).alloc (Nat.le_refl _) (.cells clZ9 32))
  have C2 := Lib.hid (fun W => getText_any s a1 W (by omega))
  rw [h3] at C2
  simp only [triT] at C2
  clear h3
  have d2 : decide ((last.length : Int) < (n : Int)) = false := by simp; omega
  have hs0 := run_piece_to (P := Try.prog) 9 Try.underlying9 last (n : Int) n rfl h2
  have hkl : (last.take n).length ≤ 1000000 := by simp; omega
  generalize last.take n = hd0 at *
  have hkk : (hd0 ++ rest).length ≤ 3000000 := by simp only [List.length_append]; omega
  have CC := Lib.hid (fun W => common9_any last (hd0 ++ rest) (by omega) (by omega) W)
  have HX1 := Lib.hid (rowIn_new #[.string (S (hd0 ++ rest)), .int .i64 0, .string ⟨#[]⟩] 32 w)
  have HB1 := Lib.hid ((Below.refl w.heap.size w).alloc (Nat.le_refl _) (.cells #[.string (S (hd0 ++ rest)), .int .i64 0, .string ⟨#[]⟩] 32))
  rw [h4] at CC
  clear h4
  have C5 := Lib.hid (fun W => get_any s a2 W (by omega))
  rw [h5] at C5
  simp only [tri] at C5
  clear h5
  have C6 := Lib.hid (fun W => getText_any s a3 W (by omega))
  rw [h6] at C6
  simp only [triT] at C6
  clear h6
  go_enter Try.func56, Try.ntmps56
  go_wp2_with fail
  with_reducible refine (C1.out _).mono ?_
  rintro e w1 ⟨rfl, rfl⟩
  go_wp2_with fail
  with_reducible refine (C2.out _).mono ?_
  rintro e w1 ⟨rfl, rfl⟩
  go_wp2_with fail
  with_reducible refine (CC.out _).mono ?_
  rintro e w2 ⟨rfl, hb2⟩
  have HX2 := Lib.hid (HX1.out.below hb2)
  have HB2 := Lib.hid (below_step HB1.out hb2)
  clear hb2 CC HX1 HB1 HX HB
  go_wp2_with fail
  with_reducible refine (C5.out _).mono ?_
  rintro e w3 ⟨rfl, rfl⟩
  have k1 : w2.cell? ⟨w.heap.size, 1, none⟩ = some (.int .i64 0) := HX2.out.cell 1
  have f1 := HX2.out.free 1
  have HX3 := Lib.hid (show RowIn #[.string (S (hd0 ++ rest)), .int .i64 (q : Int), .string ⟨#[]⟩] 32 (w2.setCell ⟨w.heap.size, 1, none⟩ (.int .i64 (q : Int))) w.heap.size from HX2.out.set 1 _)
  have HB3 := Lib.hid (show Below w.heap.size w (w2.setCell ⟨w.heap.size, 1, none⟩ (.int .i64 (q : Int))) from HB2.out.setCell (Nat.le_refl _) _)
  go_wp2_with fail
  with_reducible refine (C6.out _).mono ?_
  rintro e w4 ⟨rfl, rfl⟩
  have HX4 := Lib.hid (show RowIn #[.string (S (hd0 ++ rest)), .int .i64 (q : Int), .string ⟨#[]⟩] 32 ((w2.setCell ⟨w.heap.size, 1, none⟩ (.int .i64 (q : Int))).setCell ⟨w.heap.size, 2, none⟩ (.string ⟨#[]⟩)) w.heap.size from HX3.out.set 2 _)
  have HB4 := Lib.hid (show Below w.heap.size w ((w2.setCell ⟨w.heap.size, 1, none⟩ (.int .i64 (q : Int))).setCell ⟨w.heap.size, 2, none⟩ (.string ⟨#[]⟩)) from HB3.out.setCell (Nat.le_refl _) _)
  have k2 : (w2.setCell ⟨w.heap.size, 1, none⟩ (.int .i64 (q : Int))).cell? ⟨w.heap.size, 2, none⟩ = some (.string ⟨#[]⟩) := HX3.out.cell 2
  have f2 := HX3.out.free 2
  go_wp2_with (first
  | (refine wpList_load_row rfl 32 _ rfl w.heap.size rfl 32 _ (0, 0) _ HX4.out Try.underlying32 rfl ?_ ?_; kernel_rfl)
  | (refine wpList_store_hid rfl 32 _ _ rfl w.heap.size _ rfl rfl 32 _ HX4.out ?_ rfl (by simp [Value.oneCell']) ?_; kernel_rfl; intro wE hrQ hbelQ hothQ hszQ; have HXE := Lib.hid hrQ; have HBE := Lib.hid (hbelQ w.heap.size w (Nat.le_refl _) HB4.out); clear hrQ hbelQ hothQ hszQ))
  try simp only [Exit.inBlock, Exit.then]
  exact bodyPost_ret (ret_rowP3 rfl _ _ w.heap.size rfl (load_struct Try.underlying32 (by kernel_rfl) HXE.out)) rfl (ReadR.no (c := ⟨hd0 ++ rest, q, []⟩) rfl HBE.out)

set_option maxHeartbeats 4000000 in
set_option maxRecDepth 100000 in
theorem read_g (s last : List UInt8) (at_ : Nat) (hs : s.length ≤ 1000000) (hla : last.length ≤ 1000000) (w : World) (n a1 : Nat) (h1 : M.gets s at_ = some (n, a1)) (h2 : n ≤ last.length) (rest : List UInt8) (a2 : Nat) (h3 : M.getTs s a1 = some (rest, a2)) (hr9 : rest.length ≤ 1000000) (h4 : M.com last (last.take n ++ rest) = n) (q a3 : Nat) (h5 : M.gets s a2 = some (q, a3)) (v : List UInt8) (a4 : Nat) (h6 : M.getTs s a3 = some (v, a4)) :
    Calls Try.prog 56 #[.string (S s), .int .i64 at_, .string (S last)] w fun e w' => ReadR (some (⟨last.take n ++ rest, (q : Int), v⟩, a4)) w e w' := by
  have C1 := Lib.hid (fun W => get_any s at_ W (by omega))
  rw [h1] at C1
  simp only [tri] at C1
  clear h1
  have HX := Lib.hid (rowIn_new clZ9 32 w)
  have HB := Lib.hid ((Below.refl w.heap.size w).alloc (Nat.le_refl _) (.cells clZ9 32))
  have C2 := Lib.hid (fun W => getText_any s a1 W (by omega))
  rw [h3] at C2
  simp only [triT] at C2
  clear h3
  have d2 : decide ((last.length : Int) < (n : Int)) = false := by simp; omega
  have hs0 := run_piece_to (P := Try.prog) 9 Try.underlying9 last (n : Int) n rfl h2
  have hkl : (last.take n).length ≤ 1000000 := by simp; omega
  generalize last.take n = hd0 at *
  have hkk : (hd0 ++ rest).length ≤ 3000000 := by simp only [List.length_append]; omega
  have CC := Lib.hid (fun W => common9_any last (hd0 ++ rest) (by omega) (by omega) W)
  have HX1 := Lib.hid (rowIn_new #[.string (S (hd0 ++ rest)), .int .i64 0, .string ⟨#[]⟩] 32 w)
  have HB1 := Lib.hid ((Below.refl w.heap.size w).alloc (Nat.le_refl _) (.cells #[.string (S (hd0 ++ rest)), .int .i64 0, .string ⟨#[]⟩] 32))
  rw [h4] at CC
  clear h4
  have C5 := Lib.hid (fun W => get_any s a2 W (by omega))
  rw [h5] at C5
  simp only [tri] at C5
  clear h5
  have C6 := Lib.hid (fun W => getText_any s a3 W (by omega))
  rw [h6] at C6
  simp only [triT] at C6
  clear h6
  go_enter Try.func56, Try.ntmps56
  go_wp2_with fail
  with_reducible refine (C1.out _).mono ?_
  rintro e w1 ⟨rfl, rfl⟩
  go_wp2_with fail
  with_reducible refine (C2.out _).mono ?_
  rintro e w1 ⟨rfl, rfl⟩
  go_wp2_with fail
  with_reducible refine (CC.out _).mono ?_
  rintro e w2 ⟨rfl, hb2⟩
  have HX2 := Lib.hid (HX1.out.below hb2)
  have HB2 := Lib.hid (below_step HB1.out hb2)
  clear hb2 CC HX1 HB1 HX HB
  go_wp2_with fail
  with_reducible refine (C5.out _).mono ?_
  rintro e w3 ⟨rfl, rfl⟩
  have k1 : w2.cell? ⟨w.heap.size, 1, none⟩ = some (.int .i64 0) := HX2.out.cell 1
  have f1 := HX2.out.free 1
  have HX3 := Lib.hid (show RowIn #[.string (S (hd0 ++ rest)), .int .i64 (q : Int), .string ⟨#[]⟩] 32 (w2.setCell ⟨w.heap.size, 1, none⟩ (.int .i64 (q : Int))) w.heap.size from HX2.out.set 1 _)
  have HB3 := Lib.hid (show Below w.heap.size w (w2.setCell ⟨w.heap.size, 1, none⟩ (.int .i64 (q : Int))) from HB2.out.setCell (Nat.le_refl _) _)
  go_wp2_with fail
  with_reducible refine (C6.out _).mono ?_
  rintro e w4 ⟨rfl, rfl⟩
  have HX4 := Lib.hid (show RowIn #[.string (S (hd0 ++ rest)), .int .i64 (q : Int), .string (S v)] 32 ((w2.setCell ⟨w.heap.size, 1, none⟩ (.int .i64 (q : Int))).setCell ⟨w.heap.size, 2, none⟩ (.string (S v))) w.heap.size from HX3.out.set 2 _)
  have HB4 := Lib.hid (show Below w.heap.size w ((w2.setCell ⟨w.heap.size, 1, none⟩ (.int .i64 (q : Int))).setCell ⟨w.heap.size, 2, none⟩ (.string (S v))) from HB3.out.setCell (Nat.le_refl _) _)
  have k2 : (w2.setCell ⟨w.heap.size, 1, none⟩ (.int .i64 (q : Int))).cell? ⟨w.heap.size, 2, none⟩ = some (.string ⟨#[]⟩) := HX3.out.cell 2
  have f2 := HX3.out.free 2
  go_wp2_with (first
  | (refine wpList_load_row rfl 32 _ rfl w.heap.size rfl 32 _ (0, 0) _ HX4.out Try.underlying32 rfl ?_ ?_; kernel_rfl)
  | (refine wpList_store_hid rfl 32 _ _ rfl w.heap.size _ rfl rfl 32 _ HX4.out ?_ rfl (by simp [Value.oneCell']) ?_; kernel_rfl; intro wE hrQ hbelQ hothQ hszQ; have HXE := Lib.hid hrQ; have HBE := Lib.hid (hbelQ w.heap.size w (Nat.le_refl _) HB4.out); clear hrQ hbelQ hothQ hszQ))
  try simp only [Exit.inBlock, Exit.then]
  exact bodyPost_ret (ret_rowP3 rfl _ _ w.heap.size rfl (load_struct Try.underlying32 (by kernel_rfl) HXE.out)) rfl ⟨rfl, HBE.out⟩

theorem read9_any (s last : List UInt8) (at_ : Nat) (hs : s.length ≤ 1000000) (hla : last.length ≤ 1000000) (w : World) :
    Calls Try.prog 56 #[.string (S s), .int .i64 at_, .string (S last)] w fun e w' => ReadR (M.readC true s at_ last) w e w' := by
  cases h1 : M.gets s at_ with
  | none =>
    have e : M.readC true s at_ last = none := by simp [M.readC, h1]
    rw [e]; exact read_a s last at_ hs hla w h1
  | some x =>
    obtain ⟨n, a1⟩ := x
    by_cases h2 : n ≤ last.length
    case neg =>
      have e : M.readC true s at_ last = none := by simp [M.readC, h1, h2]
      rw [e]; exact read_b s last at_ hs hla w n a1 h1 (by omega)
    cases h3 : M.getTs s a1 with
    | none =>
      have e : M.readC true s at_ last = none := by simp [M.readC, h1, h2, h3]
      rw [e]; exact read_c s last at_ hs hla w n a1 h1 h2 h3
    | some x =>
      obtain ⟨rest, a2⟩ := x
      have hr9 : rest.length ≤ 1000000 := by
        obtain ⟨g1, g2, g3, g4⟩ := M.getTs_drop h3
        have := congrArg List.length g1
        simp only [List.length_drop, List.length_append, M.putT] at this
        omega
      by_cases h4 : M.com last (last.take n ++ rest) = n
      case neg =>
        have e : M.readC true s at_ last = none := by simp [M.readC, h1, h2, h3, h4]
        rw [e]; exact read_d s last at_ hs hla w n a1 h1 h2 rest a2 h3 hr9 h4
      cases h5 : M.gets s a2 with
      | none =>
        have e : M.readC true s at_ last = none := by simp [M.readC, h1, h2, h3, h4, h5]
        rw [e]; exact read_e s last at_ hs hla w n a1 h1 h2 rest a2 h3 hr9 h4 h5
      | some x =>
        obtain ⟨q, a3⟩ := x
        cases h6 : M.getTs s a3 with
        | none =>
          have e : M.readC true s at_ last = none := by simp [M.readC, h1, h2, h3, h4, h5, h6]
          rw [e]; exact read_f s last at_ hs hla w n a1 h1 h2 rest a2 h3 hr9 h4 q a3 h5 h6
        | some x =>
          obtain ⟨v, a4⟩ := x
          have e : M.readC true s at_ last = some (⟨last.take n ++ rest, (q : Int), v⟩, a4) := by simp [M.readC, h1, h2, h3, h4, h5, h6]
          rw [e]; exact read_g s last at_ hs hla w n a1 h1 h2 rest a2 h3 hr9 h4 q a3 h5 v a4 h6

end Go.Proofs.Ytppkecilbkgbdaa
