/- Layer 21: the span that a cell has, the program's and the document's, by contracts. -/
import Derived.Test.YtjlddackpckmfaaRowsD
namespace Go.Proofs.Ytjlddackpckmfaa
set_option linter.unusedVariables false
open Go Go.RowKit
attribute [local go_sem ↓] run_index_S
attribute [local go_sem] S_append S_extract

/-- What 'Span' comes to. -/
def SpanR (r : Option M.Sp) (w : World) (e : Ending) (w' : World) : Prop := e = .returned (.tuple #[.agg (spA (decX r)), .bool r.isSome]) ∧ Below w.heap.size w w'

set_option maxHeartbeats 2000000 in
set_option maxRecDepth 100000 in
theorem span_none (c : M.Cl) (hl : c.val.length ≤ 140737488351232) (hd : M.dec c.val = none) (w : World) :
    Calls Try.prog 13 #[.agg (clA c)] w fun e w' => SpanR none w e w' := by
  have HA := Lib.hid ((rowIn_new (clA c) 25 w).more (.cells (spC M.sp0) 23))
  have HR := Lib.hid (rowIn_at (spC M.sp0) 23 (w.alloc (.cells (clA c) 25)) (w.heap.size + 1) (by rw [szA]))
  have HB := Lib.hid (((Below.refl w.heap.size w).alloc (Nat.le_refl _) (.cells (clA c) 25)).alloc (by rw [szA]; omega) (.cells (spC M.sp0) 23))
  have d0 : ((w.alloc (.cells (clA c) 25)).alloc (.cells (spC M.sp0) 23)).cell? ⟨w.heap.size, 2, none⟩ = some (.string (S c.val)) := HA.out.cell 2
  have C1 := Lib.hid (fun W => by have := decode_any c.val hl W; rw [hd] at this; simp only [decX, decE, spV] at this; exact this)
  clear hd
  go_enter Try.func13, Try.ntmps13
  go_wp2_with fail
  with_reducible refine (C1.out _).mono ?_
  rintro e w1 ⟨rfl, hb1⟩
  have HA1 := Lib.hid (HA.out.below hb1)
  have HR1 := Lib.hid (HR.out.below hb1)
  have HB1 := Lib.hid (below_step HB.out hb1)
  clear hb1 d0
  go_wp2_with (first | (refine wpList_store_hid rfl 23 _ _ rfl w1.heap.size _ rfl rfl 23 (spC M.sp0) (spIn_new w1) ?_ rfl (spC_one M.sp0) ?_; kernel_rfl; intro w2 hr2 hbel2 hoth2 hsz2; have hb2 := hbel2 w1.heap.size w1 (Nat.le_refl _) ((Below.refl _ _).alloc (Nat.le_refl _) _); have HA2 := Lib.hid (HA1.out.below hb2); have HR2 := Lib.hid (HR1.out.below hb2); have HB2 := Lib.hid (below_step HB1.out hb2); have HX2 := Lib.hid (show RowIn (spA M.sp0) 23 w2 w1.heap.size from hr2); clear hr2 hbel2 hoth2 hsz2 hb2) | (refine wpList_store_row rfl 23 _ _ rfl (w.heap.size + 1) _ rfl rfl 23 (spC M.sp0) HR2.out ?_ rfl (spC_one M.sp0) ?_; kernel_rfl))
  try simp only [Exit.inBlock, Exit.then]
  exact bodyPost_ret (ret_rowP2 rfl _ _ (w.heap.size + 1) rfl (load_struct Try.underlying23 (by kernel_rfl) (RowIn.rowP HR2.out))) rfl ⟨rfl, below_setRow HB2.out (by omega) _⟩

set_option maxHeartbeats 2000000 in
set_option maxRecDepth 100000 in
theorem span_no (c : M.Cl) (hl : c.val.length ≤ 140737488351232) (x : M.Sp) (hd : M.dec c.val = some x) (hk : ¬ M.keyB x = c.key) (w : World) :
    Calls Try.prog 13 #[.agg (clA c)] w fun e w' => SpanR none w e w' := by
  have HA := Lib.hid ((rowIn_new (clA c) 25 w).more (.cells (spC M.sp0) 23))
  have HR := Lib.hid (rowIn_at (spC M.sp0) 23 (w.alloc (.cells (clA c) 25)) (w.heap.size + 1) (by rw [szA]))
  have HB := Lib.hid (((Below.refl w.heap.size w).alloc (Nat.le_refl _) (.cells (clA c) 25)).alloc (by rw [szA]; omega) (.cells (spC M.sp0) 23))
  have d0 : ((w.alloc (.cells (clA c) 25)).alloc (.cells (spC M.sp0) 23)).cell? ⟨w.heap.size, 2, none⟩ = some (.string (S c.val)) := HA.out.cell 2
  have C1 := Lib.hid (fun W => by have := decode_any c.val hl W; rw [hd] at this; simp only [decX, decE, spV] at this; exact this)
  have C2 := Lib.hid (fun W => by have := of_any x.trace x.id W; rw [M.okOf_may (M.enc_dec hd).2, show M.ofK x.trace x.id = M.keyB x from rfl, show M.errOf true = 0 from rfl] at this; exact this)
  have HN := Lib.hid hk
  clear hd hk
  generalize M.keyB x = key at *
  go_enter Try.func13, Try.ntmps13
  go_wp2_with fail
  with_reducible refine (C1.out _).mono ?_
  rintro e w1 ⟨rfl, hb1⟩
  have HA1 := Lib.hid (HA.out.below hb1)
  have HR1 := Lib.hid (HR.out.below hb1)
  have HB1 := Lib.hid (below_step HB.out hb1)
  clear hb1 d0
  go_wp2_with (refine wpList_store_hid rfl 23 _ _ rfl w1.heap.size _ rfl rfl 23 (spC M.sp0) (spIn_new w1) ?_ rfl (spC_one x) ?_; kernel_rfl; intro w2 hr2 hbel2 hoth2 hsz2; have hb2 := hbel2 w1.heap.size w1 (Nat.le_refl _) ((Below.refl _ _).alloc (Nat.le_refl _) _); have HA2 := Lib.hid (HA1.out.below hb2); have HR2 := Lib.hid (HR1.out.below hb2); have HB2 := Lib.hid (below_step HB1.out hb2); have HX2 := Lib.hid (show RowIn (spA x) 23 w2 w1.heap.size from hr2); have x0 := HX2.out.cell 0; have x1 := HX2.out.cell 1; clear hr2 hbel2 hoth2 hsz2 hb2)
  with_reducible refine (C2.out _).mono ?_
  rintro e w3 ⟨rfl, hb3⟩
  have HR3 := Lib.hid (HR2.out.below hb3)
  have HX3 := Lib.hid (HX2.out.below hb3)
  have HB3 := Lib.hid (below_step HB2.out hb3)
  have c0 : w3.cell? ⟨w.heap.size, 0, none⟩ = some (.string (S c.key)) := (HA2.out.below hb3).cell 0
  have hne : (key == c.key) = false := by simpa using HN.out
  clear hb3 x0 x1
  go_wp2_with (first | (refine wpList_load_row rfl 23 _ rfl w1.heap.size rfl 23 _ (0, 0) _ HX3.out Try.underlying23 rfl ?_ ?_; kernel_rfl) | (refine wpList_store_row rfl 23 _ _ rfl (w.heap.size + 1) _ rfl rfl 23 (spC M.sp0) HR3.out ?_ rfl (spC_one M.sp0) ?_; kernel_rfl))
  try simp only [Exit.inBlock, Exit.then]
  exact bodyPost_ret (ret_rowP2 rfl _ _ (w.heap.size + 1) rfl (load_struct Try.underlying23 (by kernel_rfl) (RowIn.rowP HR3.out))) rfl ⟨rfl, below_setRow HB3.out (by omega) _⟩

set_option maxHeartbeats 2000000 in
set_option maxRecDepth 100000 in
theorem span_yes (c : M.Cl) (hl : c.val.length ≤ 140737488351232) (x : M.Sp) (hd : M.dec c.val = some x) (hk : M.keyB x = c.key) (w : World) :
    Calls Try.prog 13 #[.agg (clA c)] w fun e w' => SpanR (some x) w e w' := by
  have HA := Lib.hid ((rowIn_new (clA c) 25 w).more (.cells (spC M.sp0) 23))
  have HR := Lib.hid (rowIn_at (spC M.sp0) 23 (w.alloc (.cells (clA c) 25)) (w.heap.size + 1) (by rw [szA]))
  have HB := Lib.hid (((Below.refl w.heap.size w).alloc (Nat.le_refl _) (.cells (clA c) 25)).alloc (by rw [szA]; omega) (.cells (spC M.sp0) 23))
  have d0 : ((w.alloc (.cells (clA c) 25)).alloc (.cells (spC M.sp0) 23)).cell? ⟨w.heap.size, 2, none⟩ = some (.string (S c.val)) := HA.out.cell 2
  have C1 := Lib.hid (fun W => by have := decode_any c.val hl W; rw [hd] at this; simp only [decX, decE, spV] at this; exact this)
  have C2 := Lib.hid (fun W => by have := of_any x.trace x.id W; rw [M.okOf_may (M.enc_dec hd).2, show M.ofK x.trace x.id = M.keyB x from rfl, show M.errOf true = 0 from rfl] at this; exact this)
  have HK := Lib.hid hk
  clear hd hk
  generalize M.keyB x = key at *
  go_enter Try.func13, Try.ntmps13
  go_wp2_with fail
  with_reducible refine (C1.out _).mono ?_
  rintro e w1 ⟨rfl, hb1⟩
  have HA1 := Lib.hid (HA.out.below hb1)
  have HR1 := Lib.hid (HR.out.below hb1)
  have HB1 := Lib.hid (below_step HB.out hb1)
  clear hb1 d0
  go_wp2_with (refine wpList_store_hid rfl 23 _ _ rfl w1.heap.size _ rfl rfl 23 (spC M.sp0) (spIn_new w1) ?_ rfl (spC_one x) ?_; kernel_rfl; intro w2 hr2 hbel2 hoth2 hsz2; have hb2 := hbel2 w1.heap.size w1 (Nat.le_refl _) ((Below.refl _ _).alloc (Nat.le_refl _) _); have HA2 := Lib.hid (HA1.out.below hb2); have HR2 := Lib.hid (HR1.out.below hb2); have HB2 := Lib.hid (below_step HB1.out hb2); have HX2 := Lib.hid (show RowIn (spA x) 23 w2 w1.heap.size from hr2); have x0 := HX2.out.cell 0; have x1 := HX2.out.cell 1; clear hr2 hbel2 hoth2 hsz2 hb2)
  with_reducible refine (C2.out _).mono ?_
  rintro e w3 ⟨rfl, hb3⟩
  have HR3 := Lib.hid (HR2.out.below hb3)
  have HX3 := Lib.hid (HX2.out.below hb3)
  have HB3 := Lib.hid (below_step HB2.out hb3)
  have c0 : w3.cell? ⟨w.heap.size, 0, none⟩ = some (.string (S c.key)) := (HA2.out.below hb3).cell 0
  have hne : (key == c.key) = true := by rw [HK.out]; simp
  clear hb3 x0 x1
  go_wp2_with (first | (refine wpList_load_row rfl 23 _ rfl w1.heap.size rfl 23 _ (0, 0) _ HX3.out Try.underlying23 rfl ?_ ?_; kernel_rfl) | (refine wpList_store_row rfl 23 _ _ rfl (w.heap.size + 1) _ rfl rfl 23 (spC M.sp0) HR3.out ?_ rfl (spC_one x) ?_; kernel_rfl))
  try simp only [Exit.inBlock, Exit.then]
  exact bodyPost_ret (ret_rowP2 rfl _ _ (w.heap.size + 1) rfl (load_struct Try.underlying23 (by kernel_rfl) (RowIn.rowP HR3.out))) rfl ⟨rfl, below_setRow HB3.out (by omega) _⟩

theorem span_any (c : M.Cl) (hl : c.val.length ≤ 140737488351232) (w : World) : Calls Try.prog 13 #[.agg (clA c)] w fun e w' => SpanR (M.spanC c) w e w' := by
  cases hd : M.dec c.val with
  | none =>
    have e : M.spanC c = none := by simp [M.spanC, hd]
    rw [e]; exact span_none c hl hd w
  | some x =>
    by_cases hk : M.keyB x = c.key
    · have e : M.spanC c = some x := by simp [M.spanC, hd, hk]
      rw [e]; exact span_yes c hl x hd hk w
    · have e : M.spanC c = none := by simp [M.spanC, hd, hk]
      rw [e]; exact span_no c hl x hd hk w

set_option maxHeartbeats 2000000 in
set_option maxRecDepth 100000 in
theorem refSpan_none (c : M.Cl) (hl : c.val.length ≤ 140737488351232) (hd : M.dec c.val = none) (w : World) :
    Calls Try.prog 14 #[.agg (clA c)] w fun e w' => SpanR none w e w' := by
  have HA := Lib.hid ((rowIn_new (clA c) 25 w).more (.cells (spC M.sp0) 23))
  have HR := Lib.hid (rowIn_at (spC M.sp0) 23 (w.alloc (.cells (clA c) 25)) (w.heap.size + 1) (by rw [szA]))
  have HB := Lib.hid (((Below.refl w.heap.size w).alloc (Nat.le_refl _) (.cells (clA c) 25)).alloc (by rw [szA]; omega) (.cells (spC M.sp0) 23))
  have d0 : ((w.alloc (.cells (clA c) 25)).alloc (.cells (spC M.sp0) 23)).cell? ⟨w.heap.size, 2, none⟩ = some (.string (S c.val)) := HA.out.cell 2
  have C1 := Lib.hid (fun W => by have := refDecode_any c.val hl W; rw [hd] at this; simp only [decX, decE, spV] at this; exact this)
  clear hd
  go_enter Try.func14, Try.ntmps14
  go_wp2_with fail
  with_reducible refine (C1.out _).mono ?_
  rintro e w1 ⟨rfl, hb1⟩
  have HA1 := Lib.hid (HA.out.below hb1)
  have HR1 := Lib.hid (HR.out.below hb1)
  have HB1 := Lib.hid (below_step HB.out hb1)
  clear hb1 d0
  go_wp2_with (first | (refine wpList_store_hid rfl 23 _ _ rfl w1.heap.size _ rfl rfl 23 (spC M.sp0) (spIn_new w1) ?_ rfl (spC_one M.sp0) ?_; kernel_rfl; intro w2 hr2 hbel2 hoth2 hsz2; have hb2 := hbel2 w1.heap.size w1 (Nat.le_refl _) ((Below.refl _ _).alloc (Nat.le_refl _) _); have HA2 := Lib.hid (HA1.out.below hb2); have HR2 := Lib.hid (HR1.out.below hb2); have HB2 := Lib.hid (below_step HB1.out hb2); have HX2 := Lib.hid (show RowIn (spA M.sp0) 23 w2 w1.heap.size from hr2); clear hr2 hbel2 hoth2 hsz2 hb2) | (refine wpList_store_row rfl 23 _ _ rfl (w.heap.size + 1) _ rfl rfl 23 (spC M.sp0) HR2.out ?_ rfl (spC_one M.sp0) ?_; kernel_rfl))
  try simp only [Exit.inBlock, Exit.then]
  exact bodyPost_ret (ret_rowP2 rfl _ _ (w.heap.size + 1) rfl (load_struct Try.underlying23 (by kernel_rfl) (RowIn.rowP HR2.out))) rfl ⟨rfl, below_setRow HB2.out (by omega) _⟩

set_option maxHeartbeats 2000000 in
set_option maxRecDepth 100000 in
theorem refSpan_no (c : M.Cl) (hl : c.val.length ≤ 140737488351232) (x : M.Sp) (hd : M.dec c.val = some x) (hk : ¬ M.keyB x = c.key) (w : World) :
    Calls Try.prog 14 #[.agg (clA c)] w fun e w' => SpanR none w e w' := by
  have HA := Lib.hid ((rowIn_new (clA c) 25 w).more (.cells (spC M.sp0) 23))
  have HR := Lib.hid (rowIn_at (spC M.sp0) 23 (w.alloc (.cells (clA c) 25)) (w.heap.size + 1) (by rw [szA]))
  have HB := Lib.hid (((Below.refl w.heap.size w).alloc (Nat.le_refl _) (.cells (clA c) 25)).alloc (by rw [szA]; omega) (.cells (spC M.sp0) 23))
  have d0 : ((w.alloc (.cells (clA c) 25)).alloc (.cells (spC M.sp0) 23)).cell? ⟨w.heap.size, 2, none⟩ = some (.string (S c.val)) := HA.out.cell 2
  have C1 := Lib.hid (fun W => by have := refDecode_any c.val hl W; rw [hd] at this; simp only [decX, decE, spV] at this; exact this)
  have C2 := Lib.hid (fun W => by have := refOf_any x.trace x.id W; rw [M.okOf_may (M.enc_dec hd).2, show M.ofK x.trace x.id = M.keyB x from rfl, show M.errOf true = 0 from rfl] at this; exact this)
  have HN := Lib.hid hk
  clear hd hk
  generalize M.keyB x = key at *
  go_enter Try.func14, Try.ntmps14
  go_wp2_with fail
  with_reducible refine (C1.out _).mono ?_
  rintro e w1 ⟨rfl, hb1⟩
  have HA1 := Lib.hid (HA.out.below hb1)
  have HR1 := Lib.hid (HR.out.below hb1)
  have HB1 := Lib.hid (below_step HB.out hb1)
  clear hb1 d0
  go_wp2_with (refine wpList_store_hid rfl 23 _ _ rfl w1.heap.size _ rfl rfl 23 (spC M.sp0) (spIn_new w1) ?_ rfl (spC_one x) ?_; kernel_rfl; intro w2 hr2 hbel2 hoth2 hsz2; have hb2 := hbel2 w1.heap.size w1 (Nat.le_refl _) ((Below.refl _ _).alloc (Nat.le_refl _) _); have HA2 := Lib.hid (HA1.out.below hb2); have HR2 := Lib.hid (HR1.out.below hb2); have HB2 := Lib.hid (below_step HB1.out hb2); have HX2 := Lib.hid (show RowIn (spA x) 23 w2 w1.heap.size from hr2); have x0 := HX2.out.cell 0; have x1 := HX2.out.cell 1; clear hr2 hbel2 hoth2 hsz2 hb2)
  with_reducible refine (C2.out _).mono ?_
  rintro e w3 ⟨rfl, hb3⟩
  have HR3 := Lib.hid (HR2.out.below hb3)
  have HX3 := Lib.hid (HX2.out.below hb3)
  have HB3 := Lib.hid (below_step HB2.out hb3)
  have c0 : w3.cell? ⟨w.heap.size, 0, none⟩ = some (.string (S c.key)) := (HA2.out.below hb3).cell 0
  have hne : (key == c.key) = false := by simpa using HN.out
  clear hb3 x0 x1
  go_wp2_with (first | (refine wpList_load_row rfl 23 _ rfl w1.heap.size rfl 23 _ (0, 0) _ HX3.out Try.underlying23 rfl ?_ ?_; kernel_rfl) | (refine wpList_store_row rfl 23 _ _ rfl (w.heap.size + 1) _ rfl rfl 23 (spC M.sp0) HR3.out ?_ rfl (spC_one M.sp0) ?_; kernel_rfl))
  try simp only [Exit.inBlock, Exit.then]
  exact bodyPost_ret (ret_rowP2 rfl _ _ (w.heap.size + 1) rfl (load_struct Try.underlying23 (by kernel_rfl) (RowIn.rowP HR3.out))) rfl ⟨rfl, below_setRow HB3.out (by omega) _⟩

set_option maxHeartbeats 2000000 in
set_option maxRecDepth 100000 in
theorem refSpan_yes (c : M.Cl) (hl : c.val.length ≤ 140737488351232) (x : M.Sp) (hd : M.dec c.val = some x) (hk : M.keyB x = c.key) (w : World) :
    Calls Try.prog 14 #[.agg (clA c)] w fun e w' => SpanR (some x) w e w' := by
  have HA := Lib.hid ((rowIn_new (clA c) 25 w).more (.cells (spC M.sp0) 23))
  have HR := Lib.hid (rowIn_at (spC M.sp0) 23 (w.alloc (.cells (clA c) 25)) (w.heap.size + 1) (by rw [szA]))
  have HB := Lib.hid (((Below.refl w.heap.size w).alloc (Nat.le_refl _) (.cells (clA c) 25)).alloc (by rw [szA]; omega) (.cells (spC M.sp0) 23))
  have d0 : ((w.alloc (.cells (clA c) 25)).alloc (.cells (spC M.sp0) 23)).cell? ⟨w.heap.size, 2, none⟩ = some (.string (S c.val)) := HA.out.cell 2
  have C1 := Lib.hid (fun W => by have := refDecode_any c.val hl W; rw [hd] at this; simp only [decX, decE, spV] at this; exact this)
  have C2 := Lib.hid (fun W => by have := refOf_any x.trace x.id W; rw [M.okOf_may (M.enc_dec hd).2, show M.ofK x.trace x.id = M.keyB x from rfl, show M.errOf true = 0 from rfl] at this; exact this)
  have HK := Lib.hid hk
  clear hd hk
  generalize M.keyB x = key at *
  go_enter Try.func14, Try.ntmps14
  go_wp2_with fail
  with_reducible refine (C1.out _).mono ?_
  rintro e w1 ⟨rfl, hb1⟩
  have HA1 := Lib.hid (HA.out.below hb1)
  have HR1 := Lib.hid (HR.out.below hb1)
  have HB1 := Lib.hid (below_step HB.out hb1)
  clear hb1 d0
  go_wp2_with (refine wpList_store_hid rfl 23 _ _ rfl w1.heap.size _ rfl rfl 23 (spC M.sp0) (spIn_new w1) ?_ rfl (spC_one x) ?_; kernel_rfl; intro w2 hr2 hbel2 hoth2 hsz2; have hb2 := hbel2 w1.heap.size w1 (Nat.le_refl _) ((Below.refl _ _).alloc (Nat.le_refl _) _); have HA2 := Lib.hid (HA1.out.below hb2); have HR2 := Lib.hid (HR1.out.below hb2); have HB2 := Lib.hid (below_step HB1.out hb2); have HX2 := Lib.hid (show RowIn (spA x) 23 w2 w1.heap.size from hr2); have x0 := HX2.out.cell 0; have x1 := HX2.out.cell 1; clear hr2 hbel2 hoth2 hsz2 hb2)
  with_reducible refine (C2.out _).mono ?_
  rintro e w3 ⟨rfl, hb3⟩
  have HR3 := Lib.hid (HR2.out.below hb3)
  have HX3 := Lib.hid (HX2.out.below hb3)
  have HB3 := Lib.hid (below_step HB2.out hb3)
  have c0 : w3.cell? ⟨w.heap.size, 0, none⟩ = some (.string (S c.key)) := (HA2.out.below hb3).cell 0
  have hne : (key == c.key) = true := by rw [HK.out]; simp
  clear hb3 x0 x1
  go_wp2_with (first | (refine wpList_load_row rfl 23 _ rfl w1.heap.size rfl 23 _ (0, 0) _ HX3.out Try.underlying23 rfl ?_ ?_; kernel_rfl) | (refine wpList_store_row rfl 23 _ _ rfl (w.heap.size + 1) _ rfl rfl 23 (spC M.sp0) HR3.out ?_ rfl (spC_one x) ?_; kernel_rfl))
  try simp only [Exit.inBlock, Exit.then]
  exact bodyPost_ret (ret_rowP2 rfl _ _ (w.heap.size + 1) rfl (load_struct Try.underlying23 (by kernel_rfl) (RowIn.rowP HR3.out))) rfl ⟨rfl, below_setRow HB3.out (by omega) _⟩

theorem refSpan_any (c : M.Cl) (hl : c.val.length ≤ 140737488351232) (w : World) : Calls Try.prog 14 #[.agg (clA c)] w fun e w' => SpanR (M.spanC c) w e w' := by
  cases hd : M.dec c.val with
  | none =>
    have e : M.spanC c = none := by simp [M.spanC, hd]
    rw [e]; exact refSpan_none c hl hd w
  | some x =>
    by_cases hk : M.keyB x = c.key
    · have e : M.spanC c = some x := by simp [M.spanC, hd, hk]
      rw [e]; exact refSpan_yes c hl x hd hk w
    · have e : M.spanC c = none := by simp [M.spanC, hd, hk]
      rw [e]; exact refSpan_no c hl x hd hk w


end Go.Proofs.Ytjlddackpckmfaa
