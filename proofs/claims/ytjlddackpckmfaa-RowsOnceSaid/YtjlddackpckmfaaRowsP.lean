/- Layer 21: RowsTell, walked. -/
import Derived.Test.YtjlddackpckmfaaRowsO
import Derived.Test.YtjlddackpckmfaaZF
import Derived.Test.YtjlddackpckmfaaZA
namespace Go.Proofs.Ytjlddackpckmfaa
set_option linter.unusedVariables false
open Go Go.RowKit
attribute [local go_sem ↓] run_index_S
attribute [local go_sem] S_append S_extract

theorem SmallT.fits {x : M.Sp} (h : SmallT x) (hi : x.ints) : x.fits := hi.fits (by have := h.1; omega) (by have := h.2.1; omega) (by have := h.2.2; omega)
/-- What the two 'Cells' come to, as one: the same rows, and the same error. -/
def rowC (x : M.Sp) : List M.Cl := if M.mayB x then M.cls2 x else []
theorem CellsR.row {x : M.Sp} {w : World} {e : Ending} {w' : World} (h : CellsR x w e w') : (∃ ao, e = .returned (.tuple #[.slice ao (rowC x).length (rowC x).length, .int .i64 (M.errOf (M.mayB x))]) ∧ ClsAt w' ao (rowC x)) ∧ Below w.heap.size w w' := by
  rcases h with ⟨hm, g, rfl, hg, hr, hb⟩ | ⟨hm, rfl, hb⟩
  · exact ⟨⟨some ⟨g, 0, none⟩, by simp [rowC, hm, M.cls2, M.errOf], by rw [rowC, hm, if_pos rfl]; exact clsAt_row hr rfl⟩, hb⟩
  · exact ⟨⟨none, by simp [rowC, hm, M.errOf], by rw [rowC, hm]; exact clsAt_nil _ _⟩, hb⟩
theorem rowC_len (x : M.Sp) : (rowC x).length ≤ 2 := by unfold rowC; split <;> simp [M.cls2]
theorem sameCells_yes (L : List M.Cl) (a b : Option Addr) (c1 c2 : Nat) (hl : L.length ≤ 1000) {w : World} (ha : ClsAt w a L) (hb : ClsAt w b L) :
    Calls Try.prog 16 #[.slice a L.length c1, .slice b L.length c2] w fun e w' => e = .returned (.bool true) ∧ Below w.heap.size w w' :=
  (sameCells18_any (L := L) (K := L) c1 c2 ha hb (by omega) (by omega)).mono fun _ _ h => h.is rfl
theorem beyS (x : M.Sp) (W' : World) (g : Nat) (hs : SpsAt W' (some ⟨g, 0, none⟩) [x]) : Calls Try.prog 8 #[.slice (some ⟨g, 0, none⟩) 1 1, .int .i64 1] W' fun e w' => (e = .returned (.bool true) ∨ (e = .returned (.bool false) ∧ SmallT x)) ∧ W' = w' :=
  (beyond21_any [x] 1 1 (by omega) hs (by simp)).mono fun e w' h => ⟨h.1.imp id (fun k => ⟨k.1, k.2.2 x (by simp)⟩), h.2⟩
theorem beyC (c : M.Cl) (W' : World) (g : Nat) (hs : ClsAt W' (some ⟨g, 0, none⟩) [c]) : Calls Try.prog 9 #[.slice (some ⟨g, 0, none⟩) 1 1, .int .i64 1] W' fun e w' => (e = .returned (.bool true) ∨ (e = .returned (.bool false) ∧ SmallC c)) ∧ W' = w' :=
  (beyond18_any [c] 1 1 (by omega) hs (by simp)).mono fun e w' h => ⟨h.1.imp id (fun k => ⟨k.1, k.2.2 c (by simp)⟩), h.2⟩

set_option maxHeartbeats 8000000 in
set_option maxRecDepth 100000 in
theorem rowsTell_calls (W : World) (v : Value) (hv : USp v) (u : Value) (hu : UCl u) (n : Int) (wn : (Lit.int .i64 n).wf = true) :
    Calls Try.prog 3 #[v, u, .int .i64 n] W fun e w' => e = .returned (.bool true) ∧ Below W.heap.size W w' := by
  obtain ⟨x, rfl, hxi⟩ := hv
  obtain ⟨c, rfl, hci⟩ := hu
  obtain ⟨hn1, hn2⟩ := i64_wfP wn
  have CL := Lib.hid lives21
  have HX := Lib.hid ((rowIn_new (spA x) 23 W).more (.cells (clA c) 25))
  have HC := Lib.hid (rowIn_at (clA c) 25 (W.alloc (.cells (spA x) 23)) (W.heap.size + 1) (by rw [szA]))
  have HB := Lib.hid (((Below.refl W.heap.size W).alloc (Nat.le_refl _) (.cells (spA x) 23)).alloc (by rw [szA]; omega) (.cells (clA c) 25))
  have hs1 : SpsAt (((W.alloc (.cells (spA x) 23)).alloc (.cells (clA c) 25)).alloc (.cells (spA x) 23)) (some ⟨W.heap.size + 1 + 1, 0, none⟩) [x] := spsAt_row (rowIn_at _ _ _ _ (by rw [szA, szA])) rfl
  have HS1 := Lib.hid hs1
  have HXI := Lib.hid hxi
  clear hxi hci wn hs1
  go_enter Try.func3, Try.ntmps3
  go_wp2_with (refine wpList_load_row rfl 23 _ rfl W.heap.size rfl 23 _ (0, 0) _ HX.out Try.underlying23 rfl ?_ ?_; kernel_rfl)
  with_reducible refine (beyS x _ _ HS1.out).mono ?_
  replace HX := carryA (w := (W.alloc (.cells (spA x) 23)).alloc (.cells (clA c) 25)) (.cells (spA x) 23) HX
  replace HC := carryA (w := (W.alloc (.cells (spA x) 23)).alloc (.cells (clA c) 25)) (.cells (spA x) 23) HC
  replace HB := carryA (w := (W.alloc (.cells (spA x) 23)).alloc (.cells (clA c) 25)) (.cells (spA x) 23) HB
  clear HS1
  rintro e w1 ⟨hr, rfl⟩
  generalize ((W.alloc (.cells (spA x) 23)).alloc (.cells (clA c) 25)).alloc (.cells (spA x) 23) = w1 at *
  rcases hr with rfl | ⟨rfl, hsm⟩
  · go_wp2_with fail
    with_reducible refine (CL.out _).mono ?_
    rintro e w2 ⟨rfl, hbq⟩
    replace HB := carry hbq HB
    clear hbq
    go_wp2_with fail
    go_ret
    exact ⟨rfl, HB.out⟩
  have HFX := Lib.hid (hsm.fits HXI.out)
  clear hsm HXI
  have HS2 := Lib.hid (show ClsAt (w1.alloc (.cells (clA c) 25)) (some ⟨w1.heap.size, 0, none⟩) [c] from clsAt_row (rowIn_new _ _ _) rfl)
  have q0 : w1.cell? ⟨W.heap.size + 1, 0, none⟩ = some (.string (S c.key)) := HC.out.cell 0
  have q1 : w1.cell? ⟨W.heap.size + 1, 1, none⟩ = some (.int .i64 c.seq) := HC.out.cell 1
  have q2 : w1.cell? ⟨W.heap.size + 1, 2, none⟩ = some (.string (S c.val)) := HC.out.cell 2
  go_wp2_with fail
  with_reducible refine (beyC c _ _ HS2.out).mono ?_
  replace HX := carryA (w := w1) (.cells (clA c) 25) HX
  replace HC := carryA (w := w1) (.cells (clA c) 25) HC
  replace HB := carryA (w := w1) (.cells (clA c) 25) HB
  clear HS2 q0 q1 q2
  rintro e w2 ⟨hr, rfl⟩
  generalize w1.alloc (.cells (clA c) 25) = w2 at *
  rcases hr with rfl | ⟨rfl, hsm⟩
  · go_wp2_with fail
    with_reducible refine (CL.out _).mono ?_
    rintro e w3 ⟨rfl, hbq⟩
    replace HB := carry hbq HB
    clear hbq
    go_wp2_with fail
    go_ret
    exact ⟨rfl, HB.out⟩
  obtain ⟨hk3, hv3⟩ := hsm
  have CA := Lib.hid (fun W => (cells_any x HFX.out W).mono fun e w' h => h.row)
  have CB := Lib.hid (fun W => (refCells_any x HFX.out W).mono fun e w' h => h.row)
  have CS := Lib.hid (fun W => span_any c (by omega) W)
  have CR := Lib.hid (fun W => refSpan_any c (by omega) W)
  have CE := Lib.hid (fun W => expired_any x HFX.out n hn1 hn2 W)
  have CD := Lib.hid (fun W => dropped_any c (by omega) (by omega) n hn1 hn2 W)
  have CF := Lib.hid (fun W => refDropped_any c (by omega) (by omega) n hn1 hn2 W)
  have CQ := Lib.hid (fun w a b ha hb => sameCells_yes (w := w) (rowC x) a b (rowC x).length (rowC x).length (by have := rowC_len x; omega) ha hb)
  unfold SpanR at CS CR
  have hrl : Hid (0 = 0) := Lib.hid rfl
  clear hk3 hv3 hrl
  generalize hrc : rowC x = L at *
  generalize M.mayB x = mb at *
  generalize M.dropB c n = db at *
  generalize hsp : M.spanC c = sp at *
  clear hrc hsp
  obtain ⟨y, hy⟩ : ∃ y, y = decX sp := ⟨_, rfl⟩
  rw [← hy] at CS CR
  clear hy
  generalize sp.isSome = sb at *
  generalize M.errOf mb = er at *
  go_wp2_with (refine wpList_load_row rfl 23 _ rfl W.heap.size rfl 23 _ (0, 0) _ HX.out Try.underlying23 rfl ?_ ?_; kernel_rfl)
  with_reducible refine (CA.out _).mono ?_
  rintro e w3 ⟨⟨ao, rfl, ha⟩, hb3⟩
  have HA := Lib.hid ha
  replace HX := carry hb3 HX
  replace HC := carry hb3 HC
  replace HB := carry hb3 HB
  clear ha hb3
  go_wp2_with (refine wpList_load_row rfl 23 _ rfl W.heap.size rfl 23 _ (0, 0) _ HX.out Try.underlying23 rfl ?_ ?_; kernel_rfl)
  with_reducible refine (CB.out _).mono ?_
  rintro e w4 ⟨⟨bo, rfl, hb⟩, hb4⟩
  have HBo := Lib.hid hb
  replace HX := carry hb4 HX
  replace HC := carry hb4 HC
  replace HB := carry hb4 HB
  replace HA := carry hb4 HA
  clear hb hb4
  go_wp2_with (refine wpList_load_row rfl 25 _ rfl (W.heap.size + 1) rfl 25 _ (0, 0) _ HC.out Try.underlying25 rfl ?_ ?_; kernel_rfl)
  with_reducible refine (CS.out _).mono ?_
  rintro e w5 ⟨rfl, hbq⟩
  replace HX := carry hbq HX
  replace HC := carry hbq HC
  replace HB := carry hbq HB
  replace HA := carry hbq HA
  replace HBo := carry hbq HBo
  clear hbq
  go_wp2_with (first | (refine wpList_store_hid rfl 23 _ _ rfl w5.heap.size _ rfl rfl 23 (spC M.sp0) (spIn_new w5) ?_ rfl (spC_one y) ?_; kernel_rfl; intro w6 hrQ hbelQ hothQ hszQ; have hbQ := hbelQ w5.heap.size w5 (Nat.le_refl _) ((Below.refl _ _).alloc (Nat.le_refl _) _); replace HX := carry hbQ HX; replace HC := carry hbQ HC; replace HB := carry hbQ HB; replace HA := carry hbQ HA; replace HBo := carry hbQ HBo; have HY := Lib.hid (show RowIn (spA y) 23 w6 w5.heap.size from hrQ); clear hrQ hbelQ hothQ hszQ hbQ) | (refine wpList_load_row rfl 25 _ rfl (W.heap.size + 1) rfl 25 _ (0, 0) _ HC.out Try.underlying25 rfl ?_ ?_; kernel_rfl))
  with_reducible refine (CR.out _).mono ?_
  rintro e w7 ⟨rfl, hbq⟩
  replace HX := carry hbq HX
  replace HC := carry hbq HC
  replace HB := carry hbq HB
  replace HA := carry hbq HA
  replace HBo := carry hbq HBo
  replace HY := carry hbq HY
  clear hbq
  go_wp2_with (refine wpList_store_hid rfl 23 _ _ rfl w7.heap.size _ rfl rfl 23 (spC M.sp0) (spIn_new w7) ?_ rfl (spC_one y) ?_; kernel_rfl; intro w8 hrQ hbelQ hothQ hszQ; have hbQ := hbelQ w7.heap.size w7 (Nat.le_refl _) ((Below.refl _ _).alloc (Nat.le_refl _) _); replace HX := carry hbQ HX; replace HC := carry hbQ HC; replace HB := carry hbQ HB; replace HA := carry hbQ HA; replace HBo := carry hbQ HBo; replace HY := carry hbQ HY; have HZ := Lib.hid (show RowIn (spA y) 23 w8 w7.heap.size from hrQ); clear hrQ hbelQ hothQ hszQ hbQ)
  have hx1 := HFX.out.s1
  have hx2 := HFX.out.s2
  have x0 := HX.out.gcell 0 rfl
  have x1 := HX.out.gcell 1 rfl
  have x2 := HX.out.gcell 2 rfl
  have x3 := HX.out.gcell 3 rfl
  have x4 := HX.out.gcell 4 rfl
  have x5 := HX.out.gcell 5 rfl
  have x6 := HX.out.gcell 6 rfl
  have x7 := HX.out.gcell 7 rfl
  have three : (x.start ≤ n ∧ 60 ≤ n - x.start) ∨ (x.start ≤ n ∧ ¬ 60 ≤ n - x.start) ∨ ¬ x.start ≤ n := by omega
  have REST : ∀ (a : Act) (w9 : World), True := fun _ _ => trivial
  clear REST
  rcases three with ⟨h1, h2⟩ | ⟨h1, h2⟩ | h1
  · have hu := u64_sub x.start n hx1 hx2 hn1 hn2 h1
    have hp : M.pastB x.start n = true := by rw [M.pastB_true]; omega
    rw [hp] at CE
    clear hx1 hx2 hn1 hn2 hp
    have f1 : decide (x.start ≤ n) = true := by simp; omega
    have f2 : decide (60 ≤ n - x.start) = true := by simp; omega
    refine wp_region_quiet_below (by kernel_rfl) (by kernel_rfl) ?_
    repeat (any_goals (first | go_big_quiet_step ((first | (go_at_call 15; with_reducible exact Calls.regrown_of (CE.out _)))) | quiet_step ((first | (go_at_call 15; with_reducible exact Calls.regrown_of (CE.out _))))))
    refine wpQuiet_nil ?_
    intro _ hw1
    obtain ⟨⟨d1, d1o⟩, hw1⟩ := hw1
    subst hw1
    clear x0 x1 x2 x3 x4 x5 x6 x7 f1 f2 hu
    replace HX := carry (below_regrown w8 d1 d1o) HX
    replace HC := carry (below_regrown w8 d1 d1o) HC
    replace HB := carry (below_regrown w8 d1 d1o) HB
    replace HA := carry (below_regrown w8 d1 d1o) HA
    replace HBo := carry (below_regrown w8 d1 d1o) HBo
    replace HY := carry (below_regrown w8 d1 d1o) HY
    replace HZ := carry (below_regrown w8 d1 d1o) HZ
    generalize Sort.grow (redrawn w8 d1) d1o = w9 at *
    clear h1 h2
    go_wp2_with fail
    have c0 := HC.out.gcell 0 rfl
    have c1 := HC.out.gcell 1 rfl
    have c2 := HC.out.gcell 2 rfl
    have y0 := HY.out.gcell 0 rfl
    have y1 := HY.out.gcell 1 rfl
    have y2 := HY.out.gcell 2 rfl
    have y3 := HY.out.gcell 3 rfl
    have y4 := HY.out.gcell 4 rfl
    have y5 := HY.out.gcell 5 rfl
    have y6 := HY.out.gcell 6 rfl
    have y7 := HY.out.gcell 7 rfl
    have z0 := HZ.out.gcell 0 rfl
    have z1 := HZ.out.gcell 1 rfl
    have z2 := HZ.out.gcell 2 rfl
    have z3 := HZ.out.gcell 3 rfl
    have z4 := HZ.out.gcell 4 rfl
    have z5 := HZ.out.gcell 5 rfl
    have z6 := HZ.out.gcell 6 rfl
    have z7 := HZ.out.gcell 7 rfl
    have ag := fun d os => HA.out.below (below_regrown w9 d os)
    have bg := fun d os => HBo.out.below (below_regrown w9 d os)
    have AG := Lib.hid ag
    have BG := Lib.hid bg
    clear ag bg
    refine wp_region_quiet_below (by kernel_rfl) (by kernel_rfl) ?_
    repeat (any_goals (first | go_big_quiet_step ((first | (go_at_call 16; with_reducible exact Calls.regrown_of (CQ.out _ _ _ (AG.out _ _) (BG.out _ _))) | (go_at_call 17; with_reducible exact Calls.regrown_of (CD.out _)) | (go_at_call 18; with_reducible exact Calls.regrown_of (CF.out _)) | (go_at_call 10; with_reducible exact Calls.regrown_of (CL.out _)))) | quiet_step ((first | (go_at_call 16; with_reducible exact Calls.regrown_of (CQ.out _ _ _ (AG.out _ _) (BG.out _ _))) | (go_at_call 17; with_reducible exact Calls.regrown_of (CD.out _)) | (go_at_call 18; with_reducible exact Calls.regrown_of (CF.out _)) | (go_at_call 10; with_reducible exact Calls.regrown_of (CL.out _))))))
    refine wpQuiet_nil ?_
    intro _ hw1
    obtain ⟨⟨d1, d1o⟩, hw1⟩ := hw1
    subst hw1
    clear c0 c1 c2 y0 y1 y2 y3 y4 y5 y6 y7 z0 z1 z2 z3 z4 z5 z6 z7
    replace HB := carry (below_regrown w9 d1 d1o) HB
    go_wp2_with fail
    go_ret
    exact ⟨rfl, HB.out⟩
  · have hu := u64_sub x.start n hx1 hx2 hn1 hn2 h1
    have hp : M.pastB x.start n = false := by rw [← Bool.not_eq_true, M.pastB_true]; omega
    rw [hp] at CE
    clear hx1 hx2 hn1 hn2 hp
    have f1 : decide (x.start ≤ n) = true := by simp; omega
    have f2 : decide (60 ≤ n - x.start) = false := by simp; omega
    refine wp_region_quiet_below (by kernel_rfl) (by kernel_rfl) ?_
    repeat (any_goals (first | go_big_quiet_step ((first | (go_at_call 15; with_reducible exact Calls.regrown_of (CE.out _)))) | quiet_step ((first | (go_at_call 15; with_reducible exact Calls.regrown_of (CE.out _))))))
    refine wpQuiet_nil ?_
    intro _ hw1
    obtain ⟨⟨d1, d1o⟩, hw1⟩ := hw1
    subst hw1
    clear x0 x1 x2 x3 x4 x5 x6 x7 f1 f2 hu
    replace HX := carry (below_regrown w8 d1 d1o) HX
    replace HC := carry (below_regrown w8 d1 d1o) HC
    replace HB := carry (below_regrown w8 d1 d1o) HB
    replace HA := carry (below_regrown w8 d1 d1o) HA
    replace HBo := carry (below_regrown w8 d1 d1o) HBo
    replace HY := carry (below_regrown w8 d1 d1o) HY
    replace HZ := carry (below_regrown w8 d1 d1o) HZ
    generalize Sort.grow (redrawn w8 d1) d1o = w9 at *
    clear h1 h2
    go_wp2_with fail
    have c0 := HC.out.gcell 0 rfl
    have c1 := HC.out.gcell 1 rfl
    have c2 := HC.out.gcell 2 rfl
    have y0 := HY.out.gcell 0 rfl
    have y1 := HY.out.gcell 1 rfl
    have y2 := HY.out.gcell 2 rfl
    have y3 := HY.out.gcell 3 rfl
    have y4 := HY.out.gcell 4 rfl
    have y5 := HY.out.gcell 5 rfl
    have y6 := HY.out.gcell 6 rfl
    have y7 := HY.out.gcell 7 rfl
    have z0 := HZ.out.gcell 0 rfl
    have z1 := HZ.out.gcell 1 rfl
    have z2 := HZ.out.gcell 2 rfl
    have z3 := HZ.out.gcell 3 rfl
    have z4 := HZ.out.gcell 4 rfl
    have z5 := HZ.out.gcell 5 rfl
    have z6 := HZ.out.gcell 6 rfl
    have z7 := HZ.out.gcell 7 rfl
    have ag := fun d os => HA.out.below (below_regrown w9 d os)
    have bg := fun d os => HBo.out.below (below_regrown w9 d os)
    have AG := Lib.hid ag
    have BG := Lib.hid bg
    clear ag bg
    refine wp_region_quiet_below (by kernel_rfl) (by kernel_rfl) ?_
    repeat (any_goals (first | go_big_quiet_step ((first | (go_at_call 16; with_reducible exact Calls.regrown_of (CQ.out _ _ _ (AG.out _ _) (BG.out _ _))) | (go_at_call 17; with_reducible exact Calls.regrown_of (CD.out _)) | (go_at_call 18; with_reducible exact Calls.regrown_of (CF.out _)) | (go_at_call 10; with_reducible exact Calls.regrown_of (CL.out _)))) | quiet_step ((first | (go_at_call 16; with_reducible exact Calls.regrown_of (CQ.out _ _ _ (AG.out _ _) (BG.out _ _))) | (go_at_call 17; with_reducible exact Calls.regrown_of (CD.out _)) | (go_at_call 18; with_reducible exact Calls.regrown_of (CF.out _)) | (go_at_call 10; with_reducible exact Calls.regrown_of (CL.out _))))))
    refine wpQuiet_nil ?_
    intro _ hw1
    obtain ⟨⟨d1, d1o⟩, hw1⟩ := hw1
    subst hw1
    clear c0 c1 c2 y0 y1 y2 y3 y4 y5 y6 y7 z0 z1 z2 z3 z4 z5 z6 z7
    replace HB := carry (below_regrown w9 d1 d1o) HB
    go_wp2_with fail
    go_ret
    exact ⟨rfl, HB.out⟩
  · have hp : M.pastB x.start n = false := by rw [← Bool.not_eq_true, M.pastB_true]; omega
    rw [hp] at CE
    clear hx1 hx2 hn1 hn2 hp
    have f1 : decide (x.start ≤ n) = false := by simp; omega
    refine wp_region_quiet_below (by kernel_rfl) (by kernel_rfl) ?_
    repeat (any_goals (first | go_big_quiet_step ((first | (go_at_call 15; with_reducible exact Calls.regrown_of (CE.out _)))) | quiet_step ((first | (go_at_call 15; with_reducible exact Calls.regrown_of (CE.out _))))))
    refine wpQuiet_nil ?_
    intro _ hw1
    obtain ⟨⟨d1, d1o⟩, hw1⟩ := hw1
    subst hw1
    clear x0 x1 x2 x3 x4 x5 x6 x7 f1
    replace HX := carry (below_regrown w8 d1 d1o) HX
    replace HC := carry (below_regrown w8 d1 d1o) HC
    replace HB := carry (below_regrown w8 d1 d1o) HB
    replace HA := carry (below_regrown w8 d1 d1o) HA
    replace HBo := carry (below_regrown w8 d1 d1o) HBo
    replace HY := carry (below_regrown w8 d1 d1o) HY
    replace HZ := carry (below_regrown w8 d1 d1o) HZ
    generalize Sort.grow (redrawn w8 d1) d1o = w9 at *
    clear h1
    go_wp2_with fail
    have c0 := HC.out.gcell 0 rfl
    have c1 := HC.out.gcell 1 rfl
    have c2 := HC.out.gcell 2 rfl
    have y0 := HY.out.gcell 0 rfl
    have y1 := HY.out.gcell 1 rfl
    have y2 := HY.out.gcell 2 rfl
    have y3 := HY.out.gcell 3 rfl
    have y4 := HY.out.gcell 4 rfl
    have y5 := HY.out.gcell 5 rfl
    have y6 := HY.out.gcell 6 rfl
    have y7 := HY.out.gcell 7 rfl
    have z0 := HZ.out.gcell 0 rfl
    have z1 := HZ.out.gcell 1 rfl
    have z2 := HZ.out.gcell 2 rfl
    have z3 := HZ.out.gcell 3 rfl
    have z4 := HZ.out.gcell 4 rfl
    have z5 := HZ.out.gcell 5 rfl
    have z6 := HZ.out.gcell 6 rfl
    have z7 := HZ.out.gcell 7 rfl
    have ag := fun d os => HA.out.below (below_regrown w9 d os)
    have bg := fun d os => HBo.out.below (below_regrown w9 d os)
    have AG := Lib.hid ag
    have BG := Lib.hid bg
    clear ag bg
    refine wp_region_quiet_below (by kernel_rfl) (by kernel_rfl) ?_
    repeat (any_goals (first | go_big_quiet_step ((first | (go_at_call 16; with_reducible exact Calls.regrown_of (CQ.out _ _ _ (AG.out _ _) (BG.out _ _))) | (go_at_call 17; with_reducible exact Calls.regrown_of (CD.out _)) | (go_at_call 18; with_reducible exact Calls.regrown_of (CF.out _)) | (go_at_call 10; with_reducible exact Calls.regrown_of (CL.out _)))) | quiet_step ((first | (go_at_call 16; with_reducible exact Calls.regrown_of (CQ.out _ _ _ (AG.out _ _) (BG.out _ _))) | (go_at_call 17; with_reducible exact Calls.regrown_of (CD.out _)) | (go_at_call 18; with_reducible exact Calls.regrown_of (CF.out _)) | (go_at_call 10; with_reducible exact Calls.regrown_of (CL.out _))))))
    refine wpQuiet_nil ?_
    intro _ hw1
    obtain ⟨⟨d1, d1o⟩, hw1⟩ := hw1
    subst hw1
    clear c0 c1 c2 y0 y1 y2 y3 y4 y5 y6 y7 z0 z1 z2 z3 z4 z5 z6 z7
    replace HB := carry (below_regrown w9 d1 d1o) HB
    go_wp2_with fail
    go_ret
    exact ⟨rfl, HB.out⟩

end Go.Proofs.Ytjlddackpckmfaa

