/- Layer 8: the laws' walks: KeysOrder. -/
import Derived.Test.YtadkkandfgfboaaKeysL3
import Derived.Deep.RegionHeld3
namespace Go.Proofs.Ytadkkandfgfboaa
set_option linter.unusedVariables false
open Go Go.RowKit Go.Sort
attribute [local go_sem ↓] run_index_S
attribute [local go_sem] S_append S_extract

theorem order8_any (a b : List UInt8) (w : World) :
    Calls Try.prog 26 #[.string (S a), .string (S b)] w fun e w' => e = .returned (.int .i64 (M.ordB a b)) ∧ w = w' := by
  cases h : Op.bytesLess a b with
  | true =>
    have hm : M.ordB a b = -1 := by simp [M.ordB, h]
    rw [hm]
    go_enter Try.func26, Try.ntmps26
    go_wp2_with fail
    go_ret
    exact ⟨rfl, rfl⟩
  | false =>
    by_cases e : a = b
    · subst e
      rw [M.ordB_self]
      go_enter Try.func26, Try.ntmps26
      go_wp2_with fail
      go_ret
      exact ⟨rfl, rfl⟩
    · have he : (a == b) = false := by simpa using e
      have hm : M.ordB a b = 1 := by
        have := M.less_flip a b e
        simp [M.ordB, h, this]
      rw [hm]
      clear e
      go_enter Try.func26, Try.ntmps26
      go_wp2_with fail
      go_ret
      exact ⟨rfl, rfl⟩
theorem number8_any (a b : Int) (w : World) :
    Calls Try.prog 28 #[.int .i64 a, .int .i64 b] w fun e w' => e = .returned (.int .i64 (M.numI a b)) ∧ w = w' := by
  by_cases h : a < b
  · have hm : M.numI a b = -1 := by simp [M.numI, h]
    rw [hm]
    go_enter Try.func28, Try.ntmps28
    go_wp2_with fail
    go_ret
    exact ⟨rfl, rfl⟩
  · by_cases h2 : b < a
    · have hm : M.numI a b = 1 := by simp [M.numI, h, h2]
      rw [hm]
      go_enter Try.func28, Try.ntmps28
      go_wp2_with fail
      go_ret
      exact ⟨rfl, rfl⟩
    · have hm : M.numI a b = 0 := by simp [M.numI, h, h2]
      rw [hm]
      go_enter Try.func28, Try.ntmps28
      go_wp2_with fail
      go_ret
      exact ⟨rfl, rfl⟩
theorem firstI_drop (xs : List Int) (k : Nat) (h : k < xs.length) : M.firstI (xs.drop k) = if xs.getD k 0 ≠ 0 then xs.getD k 0 else M.firstI (xs.drop (k + 1)) := by
  rw [List.drop_eq_getElem_cons h, M.firstI]
  simp [List.getD, List.getElem?_eq_getElem h]
theorem first8_any (xs : List Int) (hn : xs.length ≤ 100) (g n cap : Nat) (hl : xs.length = n) (w : World) (hc : ∀ j, j < xs.length → w.cell? ⟨g, j, none⟩ = some (.int .i64 (xs.getD j 0))) :
    Calls Try.prog 27 #[.slice (some ⟨g, 0, none⟩) n cap] w fun e w' => e = .returned (.int .i64 (M.firstI xs)) ∧ w = w' := by
  subst hl
  have HC := Lib.hid hc
  clear hc
  go_enter Try.func27, Try.ntmps27
  go_wp2_with fail
  go_loopw [3] (fun i wr => ∃ k : Nat, k ≤ xs.length ∧ i = .int .i64 k ∧ M.firstI xs = M.firstI (xs.drop k) ∧ wr = w) (fun i _ => xs.length - (intOf i).toNat)
  case atStart => exact ⟨0, by omega, rfl, rfl, rfl⟩
  case round =>
    obtain ⟨k, hk, rfl, hf, rfl⟩ := hrel
    by_cases hkl : k < xs.length
    · have d1 : decide ((k : Int) < (xs.length : Int)) = true := by simp; omega
      have x := HC.out k hkl
      have hs := firstI_drop xs k hkl
      by_cases h0 : xs.getD k 0 = 0
      · have HF := Lib.hid (show M.firstI xs = M.firstI (xs.drop (k + 1)) from by rw [hf, hs, if_neg (fun h => h h0)])
        have q : (xs.getD k 0 == 0) = true := by rw [h0]; rfl
        clear hf hs h0
        generalize xs.getD k 0 = v at *
        go_wp2_with fail
        go_roundw
        case rel => exact ⟨k + 1, by omega, by go_num, HF.out, trivial⟩
        case measure => simp [intOf]; omega
      · have HF := Lib.hid (show M.firstI xs = xs.getD k 0 from by rw [hf, hs, if_pos h0])
        have q : (xs.getD k 0 == 0) = false := by rw [beq_eq_false_iff_ne]; exact h0
        clear hf hs h0
        generalize xs.getD k 0 = v at *
        go_wp2_with fail
        go_ret
        exact ⟨ret_int HF.out.symm, rfl⟩
    · obtain rfl : k = xs.length := by omega
      have d1 : decide ((xs.length : Int) < (xs.length : Int)) = false := by simp
      have HF := Lib.hid (show M.firstI xs = 0 from by rw [hf, List.drop_length]; rfl)
      clear hf
      go_wp2_with fail
      go_ret
      exact ⟨ret_int HF.out.symm, rfl⟩

theorem first8_2 (a b : Int) (g : Nat) (w : World) (h0 : w.cell? ⟨g, 0, none⟩ = some (.int .i64 a)) (h1 : w.cell? ⟨g, 1, none⟩ = some (.int .i64 b)) :
    Calls Try.prog 27 #[.slice (some ⟨g, 0, none⟩) 2 2] w fun e w' => e = .returned (.int .i64 (M.firstI [a, b])) ∧ w = w' :=
  first8_any [a, b] (by simp) g 2 2 rfl w fun j hj => by
    match j, hj with
    | 0, _ => exact h0
    | 1, _ => exact h1
    | j + 2, hj => simp at hj; omega
theorem first8_5 (a b c d f : Int) (g : Nat) (w : World) (h0 : w.cell? ⟨g, 0, none⟩ = some (.int .i64 a)) (h1 : w.cell? ⟨g, 1, none⟩ = some (.int .i64 b)) (h2 : w.cell? ⟨g, 2, none⟩ = some (.int .i64 c)) (h3 : w.cell? ⟨g, 3, none⟩ = some (.int .i64 d)) (h4 : w.cell? ⟨g, 4, none⟩ = some (.int .i64 f)) :
    Calls Try.prog 27 #[.slice (some ⟨g, 0, none⟩) 5 5] w fun e w' => e = .returned (.int .i64 (M.firstI [a, b, c, d, f])) ∧ w = w' :=
  first8_any [a, b, c, d, f] (by simp) g 5 5 rfl w fun j hj => by
    match j, hj with
    | 0, _ => exact h0
    | 1, _ => exact h1
    | 2, _ => exact h2
    | 3, _ => exact h3
    | 4, _ => exact h4
    | j + 5, hj => simp at hj; omega

set_option maxHeartbeats 2000000 in
set_option maxRecDepth 100000 in
theorem korder_gx (x y : M.Sp) (h1 : M.great8 x = true) (w : World) :
    Calls Try.prog 7 #[.agg (spA x), .agg (spA y)] w fun e w' => e = .returned (.bool true) ∧ Below w.heap.size w w' := by
  have c1 := fun W => great8_any x W
  rw [h1] at c1
  have C1 := Lib.hid c1
  clear c1
  have RX := Lib.hid ((rowIn_new (spA x) 23 w).more (.cells (spA y) 23))
  have RY := Lib.hid (rowIn_at (spA y) 23 (w.alloc (.cells (spA x) 23)) (w.heap.size + 1) (by simp))
  have BW := Lib.hid (((Below.refl w.heap.size w).alloc (Nat.le_refl _) (.cells (spA x) 23)).alloc (by simp) (.cells (spA y) 23))
  obtain ⟨x0, x1, x2, x3, x4, x5, x6, x7⟩ := span_cells RX.out
  go_enter Try.func7, Try.ntmps7
  go_wp2_with fail
  with_reducible refine (C1.out _).mono ?_
  rintro e w1 ⟨rfl, hb1⟩
  clear x0 x1 x2 x3 x4 x5 x6 x7
  have RX1 := Lib.hid (RX.out.below hb1)
  have RY1 := Lib.hid (RY.out.below hb1)
  have BW1 := Lib.hid (below_step BW.out hb1)
  clear hb1
  go_wp2_with fail
  with_reducible refine (does8 _).mono ?_
  rintro e w9 ⟨rfl, hb9⟩
  go_wp2_with fail
  go_ret
  exact ⟨rfl, below_step BW1.out hb9⟩

set_option maxHeartbeats 2000000 in
set_option maxRecDepth 100000 in
theorem korder_gy (x y : M.Sp) (h1 : M.great8 x = false) (h2 : M.great8 y = true) (w : World) :
    Calls Try.prog 7 #[.agg (spA x), .agg (spA y)] w fun e w' => e = .returned (.bool true) ∧ Below w.heap.size w w' := by
  have c1 := fun W => great8_any x W
  rw [h1] at c1
  have C1 := Lib.hid c1
  clear c1
  have c2 := fun W => great8_any y W
  rw [h2] at c2
  have C2 := Lib.hid c2
  clear c2
  have RX := Lib.hid ((rowIn_new (spA x) 23 w).more (.cells (spA y) 23))
  have RY := Lib.hid (rowIn_at (spA y) 23 (w.alloc (.cells (spA x) 23)) (w.heap.size + 1) (by simp))
  have BW := Lib.hid (((Below.refl w.heap.size w).alloc (Nat.le_refl _) (.cells (spA x) 23)).alloc (by simp) (.cells (spA y) 23))
  obtain ⟨x0, x1, x2, x3, x4, x5, x6, x7⟩ := span_cells RX.out
  go_enter Try.func7, Try.ntmps7
  go_wp2_with fail
  with_reducible refine (C1.out _).mono ?_
  rintro e w1 ⟨rfl, hb1⟩
  clear x0 x1 x2 x3 x4 x5 x6 x7
  have RX1 := Lib.hid (RX.out.below hb1)
  have RY1 := Lib.hid (RY.out.below hb1)
  have BW1 := Lib.hid (below_step BW.out hb1)
  clear hb1
  obtain ⟨y0, y1, y2, y3, y4, y5, y6, y7⟩ := span_cells RY1.out
  go_wp2_with fail
  with_reducible refine (C2.out _).mono ?_
  rintro e w2 ⟨rfl, hb2⟩
  clear y0 y1 y2 y3 y4 y5 y6 y7
  have RX2 := Lib.hid (RX1.out.below hb2)
  have RY2 := Lib.hid (RY1.out.below hb2)
  have BW2 := Lib.hid (below_step BW1.out hb2)
  clear hb2
  go_wp2_with fail
  with_reducible refine (does8 _).mono ?_
  rintro e w9 ⟨rfl, hb9⟩
  go_wp2_with fail
  go_ret
  exact ⟨rfl, below_step BW2.out hb9⟩

set_option maxHeartbeats 2000000 in
set_option maxRecDepth 100000 in
theorem korder_mx (x y : M.Sp) (hx : x.fits) (h1 : M.great8 x = false) (h2 : M.great8 y = false) (h3 : M.mayB x = false) (w : World) :
    Calls Try.prog 7 #[.agg (spA x), .agg (spA y)] w fun e w' => e = .returned (.bool true) ∧ Below w.heap.size w w' := by
  have c1 := fun W => great8_any x W
  rw [h1] at c1
  have C1 := Lib.hid c1
  clear c1
  have c2 := fun W => great8_any y W
  rw [h2] at c2
  have C2 := Lib.hid c2
  clear c2
  have c3 := fun W => check_any x hx W
  rw [h3] at c3
  simp only [M.errOf] at c3
  have C3 := Lib.hid c3
  clear c3
  have RX := Lib.hid ((rowIn_new (spA x) 23 w).more (.cells (spA y) 23))
  have RY := Lib.hid (rowIn_at (spA y) 23 (w.alloc (.cells (spA x) 23)) (w.heap.size + 1) (by simp))
  have BW := Lib.hid (((Below.refl w.heap.size w).alloc (Nat.le_refl _) (.cells (spA x) 23)).alloc (by simp) (.cells (spA y) 23))
  obtain ⟨x0, x1, x2, x3, x4, x5, x6, x7⟩ := span_cells RX.out
  go_enter Try.func7, Try.ntmps7
  go_wp2_with fail
  with_reducible refine (C1.out _).mono ?_
  rintro e w1 ⟨rfl, hb1⟩
  clear x0 x1 x2 x3 x4 x5 x6 x7
  have RX1 := Lib.hid (RX.out.below hb1)
  have RY1 := Lib.hid (RY.out.below hb1)
  have BW1 := Lib.hid (below_step BW.out hb1)
  clear hb1
  obtain ⟨y0, y1, y2, y3, y4, y5, y6, y7⟩ := span_cells RY1.out
  go_wp2_with fail
  with_reducible refine (C2.out _).mono ?_
  rintro e w2 ⟨rfl, hb2⟩
  clear y0 y1 y2 y3 y4 y5 y6 y7
  have RX2 := Lib.hid (RX1.out.below hb2)
  have RY2 := Lib.hid (RY1.out.below hb2)
  have BW2 := Lib.hid (below_step BW1.out hb2)
  clear hb2
  obtain ⟨x0, x1, x2, x3, x4, x5, x6, x7⟩ := span_cells RX2.out
  go_wp2_with fail
  with_reducible refine (C3.out _).mono ?_
  rintro e w3 ⟨rfl, hb3⟩
  clear x0 x1 x2 x3 x4 x5 x6 x7
  have RX3 := Lib.hid (RX2.out.below hb3)
  have RY3 := Lib.hid (RY2.out.below hb3)
  have BW3 := Lib.hid (below_step BW2.out hb3)
  clear hb3
  go_wp2_with fail
  with_reducible refine (does8 _).mono ?_
  rintro e w9 ⟨rfl, hb9⟩
  go_wp2_with fail
  go_ret
  exact ⟨rfl, below_step BW3.out hb9⟩

set_option maxHeartbeats 2000000 in
set_option maxRecDepth 100000 in
theorem korder_my (x y : M.Sp) (hx : x.fits) (hy : y.fits) (h1 : M.great8 x = false) (h2 : M.great8 y = false) (h3 : M.mayB x = true) (h4 : M.mayB y = false) (w : World) :
    Calls Try.prog 7 #[.agg (spA x), .agg (spA y)] w fun e w' => e = .returned (.bool true) ∧ Below w.heap.size w w' := by
  have c1 := fun W => great8_any x W
  rw [h1] at c1
  have C1 := Lib.hid c1
  clear c1
  have c2 := fun W => great8_any y W
  rw [h2] at c2
  have C2 := Lib.hid c2
  clear c2
  have c3 := fun W => check_any x hx W
  rw [h3] at c3
  simp only [M.errOf] at c3
  have C3 := Lib.hid c3
  clear c3
  have c4 := fun W => check_any y hy W
  rw [h4] at c4
  simp only [M.errOf] at c4
  have C4 := Lib.hid c4
  clear c4
  have RX := Lib.hid ((rowIn_new (spA x) 23 w).more (.cells (spA y) 23))
  have RY := Lib.hid (rowIn_at (spA y) 23 (w.alloc (.cells (spA x) 23)) (w.heap.size + 1) (by simp))
  have BW := Lib.hid (((Below.refl w.heap.size w).alloc (Nat.le_refl _) (.cells (spA x) 23)).alloc (by simp) (.cells (spA y) 23))
  obtain ⟨x0, x1, x2, x3, x4, x5, x6, x7⟩ := span_cells RX.out
  go_enter Try.func7, Try.ntmps7
  go_wp2_with fail
  with_reducible refine (C1.out _).mono ?_
  rintro e w1 ⟨rfl, hb1⟩
  clear x0 x1 x2 x3 x4 x5 x6 x7
  have RX1 := Lib.hid (RX.out.below hb1)
  have RY1 := Lib.hid (RY.out.below hb1)
  have BW1 := Lib.hid (below_step BW.out hb1)
  clear hb1
  obtain ⟨y0, y1, y2, y3, y4, y5, y6, y7⟩ := span_cells RY1.out
  go_wp2_with fail
  with_reducible refine (C2.out _).mono ?_
  rintro e w2 ⟨rfl, hb2⟩
  clear y0 y1 y2 y3 y4 y5 y6 y7
  have RX2 := Lib.hid (RX1.out.below hb2)
  have RY2 := Lib.hid (RY1.out.below hb2)
  have BW2 := Lib.hid (below_step BW1.out hb2)
  clear hb2
  obtain ⟨x0, x1, x2, x3, x4, x5, x6, x7⟩ := span_cells RX2.out
  go_wp2_with fail
  with_reducible refine (C3.out _).mono ?_
  rintro e w3 ⟨rfl, hb3⟩
  clear x0 x1 x2 x3 x4 x5 x6 x7
  have RX3 := Lib.hid (RX2.out.below hb3)
  have RY3 := Lib.hid (RY2.out.below hb3)
  have BW3 := Lib.hid (below_step BW2.out hb3)
  clear hb3
  obtain ⟨y0, y1, y2, y3, y4, y5, y6, y7⟩ := span_cells RY3.out
  go_wp2_with fail
  with_reducible refine (C4.out _).mono ?_
  rintro e w4 ⟨rfl, hb4⟩
  clear y0 y1 y2 y3 y4 y5 y6 y7
  have RX4 := Lib.hid (RX3.out.below hb4)
  have RY4 := Lib.hid (RY3.out.below hb4)
  have BW4 := Lib.hid (below_step BW3.out hb4)
  clear hb4
  go_wp2_with fail
  with_reducible refine (does8 _).mono ?_
  rintro e w9 ⟨rfl, hb9⟩
  go_wp2_with fail
  go_ret
  exact ⟨rfl, below_step BW4.out hb9⟩

theorem does8_keep (x y : M.Sp) (X Y : Nat) (W : World) (h : W.cell? ⟨X, 0, none⟩ = some (.int .i64 x.trace) ∧ W.cell? ⟨X, 1, none⟩ = some (.int .i64 x.id) ∧ W.cell? ⟨X, 3, none⟩ = some (.string (S x.svc)) ∧ W.cell? ⟨X, 4, none⟩ = some (.string (S x.host)) ∧ W.cell? ⟨X, 5, none⟩ = some (.int .i64 x.start) ∧ W.cell? ⟨Y, 0, none⟩ = some (.int .i64 y.trace) ∧ W.cell? ⟨Y, 1, none⟩ = some (.int .i64 y.id) ∧ W.cell? ⟨Y, 3, none⟩ = some (.string (S y.svc)) ∧ W.cell? ⟨Y, 4, none⟩ = some (.string (S y.host)) ∧ W.cell? ⟨Y, 5, none⟩ = some (.int .i64 y.start)) :
    Calls Try.prog 16 #[] W fun e w' => e = .returned (.bool true) ∧ Below W.heap.size W w' ∧ w'.cell? ⟨X, 0, none⟩ = some (.int .i64 x.trace) ∧ w'.cell? ⟨X, 1, none⟩ = some (.int .i64 x.id) ∧ w'.cell? ⟨X, 3, none⟩ = some (.string (S x.svc)) ∧ w'.cell? ⟨X, 4, none⟩ = some (.string (S x.host)) ∧ w'.cell? ⟨X, 5, none⟩ = some (.int .i64 x.start) ∧ w'.cell? ⟨Y, 0, none⟩ = some (.int .i64 y.trace) ∧ w'.cell? ⟨Y, 1, none⟩ = some (.int .i64 y.id) ∧ w'.cell? ⟨Y, 3, none⟩ = some (.string (S y.svc)) ∧ w'.cell? ⟨Y, 4, none⟩ = some (.string (S y.host)) ∧ w'.cell? ⟨Y, 5, none⟩ = some (.int .i64 y.start) := by
  obtain ⟨h0, h1, h2, h3, h4, h5, h6, h7, h8, h9⟩ := h
  refine (does8 W).mono fun e w' ⟨he, hb⟩ => ?_
  have k := fun a v (h : W.cell? a = some v) => (hb.cell (p := a) (block_lt_of_cell h)).trans h
  exact ⟨he, hb, k _ _ h0, k _ _ h1, k _ _ h2, k _ _ h3, k _ _ h4, k _ _ h5, k _ _ h6, k _ _ h7, k _ _ h8, k _ _ h9⟩

set_option maxHeartbeats 8000000 in
set_option maxRecDepth 100000 in
theorem korder_ok (x y : M.Sp) (hx : x.fits) (hy : y.fits) (h1 : M.great8 x = false) (h2 : M.great8 y = false) (h3 : M.mayB x = true) (h4 : M.mayB y = true) (w : World) :
    Calls Try.prog 7 #[.agg (spA x), .agg (spA y)] w fun e w' => e = .returned (.bool true) ∧ Below w.heap.size w w' := by
  have c1 := fun W => great8_any x W
  rw [h1] at c1
  have C1 := Lib.hid c1
  clear c1
  have c2 := fun W => great8_any y W
  rw [h2] at c2
  have C2 := Lib.hid c2
  clear c2
  obtain ⟨t, i, KX⟩ := keysOfSp h3
  obtain ⟨t', i', KY⟩ := keysOfSp h4
  have c3 := fun W => check_any x hx W
  rw [h3] at c3
  simp only [M.errOf] at c3
  have C3 := Lib.hid c3
  clear c3
  have c4 := fun W => check_any y hy W
  rw [h4] at c4
  simp only [M.errOf] at c4
  have C4 := Lib.hid c4
  clear c4
  have c5 := fun W => of_any x.trace x.id W
  rw [KX.of_, KX.ok] at c5
  have c6 := fun W => of_any y.trace y.id W
  rw [KY.of_, KY.ok] at c6
  have c7 := fun W => index_any x hx W
  have c8 := fun W => index_any y hy W
  have ex : M.idxK x = M.indexK x.svc x.host x.start.toNat t i := by rw [M.idxK, if_pos h3, KX.ht, KX.hi]; rfl
  have ey : M.idxK y = M.indexK y.svc y.host y.start.toNat t' i' := by rw [M.idxK, if_pos h4, KY.ht, KY.hi]; rfl
  rw [ex, h3] at c7
  rw [ey, h4] at c8
  obtain ⟨qx1, qx2, _, qx4, qx5, qx6, _⟩ := M.mayB_parts h3
  obtain ⟨qy1, qy2, _, qy4, qy5, qy6, _⟩ := M.mayB_parts h4
  have ktx := KX.t1; have kix := KX.i1; have kty := KY.t1; have kiy := KY.i1
  have o1 := M.order_span t i t' i' (by omega) (by omega) (by omega) (by omega)
  have o2 := M.order_index x.svc x.host y.svc y.host x.start.toNat t i y.start.toNat t' i' (M.name_no0 qx4) (M.name_no0 qx5) (M.name_no0 qy4) (M.name_no0 qy5) (by omega) (by omega) (by omega) (by omega) (by omega) (by omega)
  rw [← KX.ht, ← KX.hi, ← KY.ht, ← KY.hi] at o1 o2
  rw [Int.toNat_of_nonneg qx6.1, Int.toNat_of_nonneg qy6.1] at o2
  have l1 := M.span_index t i x.svc x.host x.start.toNat t i
  have l2 := M.span_index t i y.svc y.host y.start.toNat t' i'
  have d1 := fun W => order8_any (M.spanK t i) (M.spanK t' i') W
  have d2 := fun W => order8_any (M.indexK x.svc x.host x.start.toNat t i) (M.indexK y.svc y.host y.start.toNat t' i') W
  have d3 := fun W => order8_any x.svc y.svc W
  have d4 := fun W => order8_any x.host y.host W
  have d5 := fun W => number8_any x.trace y.trace W
  have d6 := fun W => number8_any x.id y.id W
  have d7 := fun W => number8_any x.start y.start W
  rw [o1] at d1
  rw [o2] at d2
  simp only [M.errOf, if_true] at c5 c6 c7 c8
  generalize M.spanK t i = s1 at *
  generalize M.spanK t' i' = s2 at *
  generalize M.indexK x.svc x.host x.start.toNat t i = s3 at *
  generalize M.indexK y.svc y.host y.start.toNat t' i' = s4 at *
  generalize M.ordB x.svc y.svc = n3 at *
  generalize M.ordB x.host y.host = n4 at *
  generalize M.numI x.trace y.trace = n5 at *
  generalize M.numI x.id y.id = n6 at *
  generalize M.numI x.start y.start = n7 at *
  have C5 := Lib.hid c5
  have C6 := Lib.hid c6
  have C7 := Lib.hid c7
  have C8 := Lib.hid c8
  have D1 := Lib.hid d1
  have D2 := Lib.hid d2
  have D3 := Lib.hid d3
  have D4 := Lib.hid d4
  have D5 := Lib.hid d5
  have D6 := Lib.hid d6
  have D7 := Lib.hid d7
  clear c5 c6 c7 c8 d1 d2 d3 d4 d5 d6 d7 ex ey o1 o2 qx1 qx2 qx4 qx5 qx6 qy1 qy2 qy4 qy5 qy6 KX KY h3 h4
  have RX := Lib.hid ((rowIn_new (spA x) 23 w).more (.cells (spA y) 23))
  have RY := Lib.hid (rowIn_at (spA y) 23 (w.alloc (.cells (spA x) 23)) (w.heap.size + 1) (by simp))
  have BW := Lib.hid (((Below.refl w.heap.size w).alloc (Nat.le_refl _) (.cells (spA x) 23)).alloc (by simp) (.cells (spA y) 23))
  obtain ⟨x0, x1, x2, x3, x4, x5, x6, x7⟩ := span_cells RX.out
  go_enter Try.func7, Try.ntmps7
  go_wp2_with fail
  with_reducible refine (C1.out _).mono ?_
  rintro e w1 ⟨rfl, hb1⟩
  clear x0 x1 x2 x3 x4 x5 x6 x7
  have RX1 := Lib.hid (RX.out.below hb1)
  have RY1 := Lib.hid (RY.out.below hb1)
  have BW1 := Lib.hid (below_step BW.out hb1)
  clear hb1
  obtain ⟨y0, y1, y2, y3, y4, y5, y6, y7⟩ := span_cells RY1.out
  go_wp2_with fail
  with_reducible refine (C2.out _).mono ?_
  rintro e w2 ⟨rfl, hb2⟩
  clear y0 y1 y2 y3 y4 y5 y6 y7
  have RX2 := Lib.hid (RX1.out.below hb2)
  have RY2 := Lib.hid (RY1.out.below hb2)
  have BW2 := Lib.hid (below_step BW1.out hb2)
  clear hb2
  obtain ⟨x0, x1, x2, x3, x4, x5, x6, x7⟩ := span_cells RX2.out
  go_wp2_with fail
  with_reducible refine (C3.out _).mono ?_
  rintro e w3 ⟨rfl, hb3⟩
  clear x0 x1 x2 x3 x4 x5 x6 x7
  have RX3 := Lib.hid (RX2.out.below hb3)
  have RY3 := Lib.hid (RY2.out.below hb3)
  have BW3 := Lib.hid (below_step BW2.out hb3)
  clear hb3
  obtain ⟨y0, y1, y2, y3, y4, y5, y6, y7⟩ := span_cells RY3.out
  go_wp2_with fail
  with_reducible refine (C4.out _).mono ?_
  rintro e w4 ⟨rfl, hb4⟩
  clear y0 y1 y2 y3 y4 y5 y6 y7
  have RX4 := Lib.hid (RX3.out.below hb4)
  have RY4 := Lib.hid (RY3.out.below hb4)
  have BW4 := Lib.hid (below_step BW3.out hb4)
  clear hb4
  obtain ⟨x0, x1, x2, x3, x4, x5, x6, x7⟩ := span_cells RX4.out
  go_wp2_with fail
  with_reducible refine (C5.out _).mono ?_
  rintro e w5 ⟨rfl, hb5⟩
  clear x0 x1 x2 x3 x4 x5 x6 x7
  have RX5 := Lib.hid (RX4.out.below hb5)
  have RY5 := Lib.hid (RY4.out.below hb5)
  have BW5 := Lib.hid (below_step BW4.out hb5)
  clear hb5
  obtain ⟨y0, y1, y2, y3, y4, y5, y6, y7⟩ := span_cells RY5.out
  go_wp2_with fail
  with_reducible refine (C6.out _).mono ?_
  rintro e w6 ⟨rfl, hb6⟩
  clear y0 y1 y2 y3 y4 y5 y6 y7
  have RX6 := Lib.hid (RX5.out.below hb6)
  have RY6 := Lib.hid (RY5.out.below hb6)
  have BW6 := Lib.hid (below_step BW5.out hb6)
  clear hb6
  obtain ⟨x0, x1, x2, x3, x4, x5, x6, x7⟩ := span_cells RX6.out
  go_wp2_with fail
  with_reducible refine (C7.out _).mono ?_
  rintro e w7 ⟨rfl, hb7⟩
  clear x0 x1 x2 x3 x4 x5 x6 x7
  have RX7 := Lib.hid (RX6.out.below hb7)
  have RY7 := Lib.hid (RY6.out.below hb7)
  have BW7 := Lib.hid (below_step BW6.out hb7)
  clear hb7
  obtain ⟨y0, y1, y2, y3, y4, y5, y6, y7⟩ := span_cells RY7.out
  go_wp2_with fail
  with_reducible refine (C8.out _).mono ?_
  rintro e w8 ⟨rfl, hb8⟩
  clear y0 y1 y2 y3 y4 y5 y6 y7
  have RX8 := Lib.hid (RX7.out.below hb8)
  have RY8 := Lib.hid (RY7.out.below hb8)
  have BW8 := Lib.hid (below_step BW7.out hb8)
  clear hb8
  go_wp2_with fail
  obtain ⟨x0, x1, x2, x3, x4, x5, x6, x7⟩ := span_cells RX8.out
  obtain ⟨y0, y1, y2, y3, y4, y5, y6, y7⟩ := span_cells RY8.out
  clear RX RX1 RX2 RX3 RX4 RX5 RX6 RX7 RX8 RY RY1 RY2 RY3 RY4 RY5 RY6 RY7 RY8 BW BW1 BW2 BW3 BW4 BW5 BW6 BW7 C1 C2 C3 C4 C5 C6 C7 C8
  go_region_held3 (fun W => W.cell? ⟨w.heap.size, 0, none⟩ = some (.int .i64 x.trace) ∧ W.cell? ⟨w.heap.size, 1, none⟩ = some (.int .i64 x.id) ∧ W.cell? ⟨w.heap.size, 3, none⟩ = some (.string (S x.svc)) ∧ W.cell? ⟨w.heap.size, 4, none⟩ = some (.string (S x.host)) ∧ W.cell? ⟨w.heap.size, 5, none⟩ = some (.int .i64 x.start) ∧ W.cell? ⟨(w.heap.size + 1), 0, none⟩ = some (.int .i64 y.trace) ∧ W.cell? ⟨(w.heap.size + 1), 1, none⟩ = some (.int .i64 y.id) ∧ W.cell? ⟨(w.heap.size + 1), 3, none⟩ = some (.string (S y.svc)) ∧ W.cell? ⟨(w.heap.size + 1), 4, none⟩ = some (.string (S y.host)) ∧ W.cell? ⟨(w.heap.size + 1), 5, none⟩ = some (.int .i64 y.start)) (go_keep) (first | (go_at_call 26; with_reducible refine (D1.out _).mono ?_; rintro e w' ⟨rfl, rfl⟩) | (go_at_call 26; with_reducible refine (D2.out _).mono ?_; rintro e w' ⟨rfl, rfl⟩) | (go_at_call 26; with_reducible refine (D3.out _).mono ?_; rintro e w' ⟨rfl, rfl⟩) | (go_at_call 26; with_reducible refine (D4.out _).mono ?_; rintro e w' ⟨rfl, rfl⟩) | (go_at_call 28; with_reducible refine (D5.out _).mono ?_; rintro e w' ⟨rfl, rfl⟩) | (go_at_call 28; with_reducible refine (D6.out _).mono ?_; rintro e w' ⟨rfl, rfl⟩) | (go_at_call 28; with_reducible refine (D7.out _).mono ?_; rintro e w' ⟨rfl, rfl⟩) | (go_at_call 27; with_reducible refine (first8_2 n5 n6 _ _ ?_ ?_).mono ?_; simp [go_sem]; simp [go_sem]; rintro e w' ⟨rfl, rfl⟩) | (go_at_call 27; with_reducible refine (first8_5 n3 n4 n7 n5 n6 _ _ ?_ ?_ ?_ ?_ ?_).mono ?_; simp [go_sem]; simp [go_sem]; simp [go_sem]; simp [go_sem]; simp [go_sem]; rintro e w' ⟨rfl, rfl⟩) | (go_at_call 16; refine (does8_keep x y w.heap.size (w.heap.size + 1) _ (by first | assumption | (simp [*]))).mono ?_; rintro e w' ⟨rfl, hbD, hs0, hs1, hs2, hs3, hs4, hs5, hs6, hs7, hs8, hs9⟩))
  clear x0 x1 x2 x3 x4 x5 x6 x7 y0 y1 y2 y3 y4 y5 y6 y7
  go_wp2_with fail
  go_ret
  exact ⟨rfl, below_step ((BW8.out.alloc BW8.out.size _).alloc (by have := BW8.out.size; simp; omega) _).drew hbD⟩

theorem keysOrder_calls (u : Value) (hu : USp u) (v : Value) (hv : USp v) (w : World) :
    Calls Try.prog 7 #[u, v] w fun e w' => e = .returned (.bool true) ∧ Below w.heap.size w w' := by
  obtain ⟨x, rfl, hi⟩ := hu
  obtain ⟨y, rfl, hj⟩ := hv
  cases h1 : M.great8 x with
  | true => exact korder_gx x y h1 w
  | false =>
    cases h2 : M.great8 y with
    | true => exact korder_gy x y h1 h2 w
    | false =>
      have a := M.great8_no h1
      have b := M.great8_no h2
      have hx := hi.fits (by omega) (by omega) (by omega)
      have hy := hj.fits (by omega) (by omega) (by omega)
      cases h3 : M.mayB x with
      | false => exact korder_mx x y hx h1 h2 h3 w
      | true =>
        cases h4 : M.mayB y with
        | false => exact korder_my x y hx hy h1 h2 h3 h4 w
        | true => exact korder_ok x y hx hy h1 h2 h3 h4 w

end Go.Proofs.Ytadkkandfgfboaa
