/- Layer 8: the laws' walks: KeysWithin, a part. -/
import Derived.Test.YtadkkandfgfboaaKeysL4m
namespace Go.Proofs.Ytadkkandfgfboaa
set_option linter.unusedVariables false
open Go Go.RowKit Go.Sort
attribute [local go_sem ↓] run_index_S
attribute [local go_sem] S_append S_extract

set_option maxHeartbeats 4000000 in
set_option maxRecDepth 100000 in
theorem within_00 (x : M.Sp) (tr f g : Int) (hx : x.fits) (h1 : M.great8 x = false) (h2 : M.mayB x = true) (hj1 : Op.bytesLess (M.fromK tr) (M.ofK x.trace x.id) = true ∧ Op.bytesLess (M.ofK x.trace x.id) (M.toK tr) = true ∧ (tr == x.trace) = true) (hin : decide (f ≤ x.start) = true ∧ decide (x.start ≤ g) = true) (w : World) :
    Calls Try.prog 8 #[.agg (spA x), .int .i64 tr, .agg #[.int .i64 f, .int .i64 g]] w fun e w' => e = .returned (.bool true) ∧ Below w.heap.size w w' := by
  obtain ⟨t, i, KX⟩ := keysOfSp h2
  obtain ⟨qx1, qx2, _, qx4, qx5, qx6, _⟩ := M.mayB_parts h2
  have hl1 := (M.nameB_len qx4).2
  have hl2 := (M.nameB_len qx5).2
  have c1 := fun W => great8_any x W
  rw [h1] at c1
  have C1 := Lib.hid c1
  clear c1
  have c2 := fun W => check_any x hx W
  rw [h2] at c2
  simp only [M.errOf] at c2
  have C2 := Lib.hid c2
  clear c2
  have c3 := fun W => of_any x.trace x.id W
  rw [KX.of_, KX.ok] at c3
  have c4 := fun W => index_any x hx W
  have ex : M.idxK x = M.indexK x.svc x.host x.start.toNat t i := by rw [M.idxK, if_pos h2, KX.ht, KX.hi]; rfl
  rw [ex, h2] at c4
  have c5 := fun W => trace_any tr W
  have c6 := fun W => stretch_any x.svc x.host (by omega) (by omega) f g W
  have c7 := fun W => stretch_any x.host x.svc (by omega) (by omega) f g W
  have c8 := fun W => trace_any x.trace W
  rw [KX.from_] at c8
  have r1 := fun W => keyRow_any (M.spanK t i) (by simp [M.spanK, M.bigN_length]) W
  rw [row_span t i KX.okt KX.oki] at r1
  have r2 := fun W => keyRow_any (M.indexK x.svc x.host x.start.toNat t i) (by simp [M.indexK, M.aheadK, M.bigN_length]; omega) W
  rw [row_index qx4 qx5 (by omega) KX.okt KX.oki] at r2
  obtain ⟨z1, z2⟩ := M.within1 t i tr KX.okt KX.oki
  obtain ⟨z3, z4⟩ := M.within2 x.svc x.host x.svc x.host qx4 qx5 qx4 qx5 rfl x.start.toNat t i (by omega) f g
  obtain ⟨z5, z6⟩ := M.within2 x.svc x.host x.host x.svc qx4 qx5 qx5 qx4 (by omega) x.start.toNat t i (by omega) f g
  rw [← KX.ht] at z2
  rw [Int.toNat_of_nonneg qx6.1] at z4 z6
  have z7 : (x.svc == x.host) = (x.host == x.svc) := by rw [Bool.eq_iff_iff, beq_iff_eq, beq_iff_eq]; exact ⟨fun h => h.symm, fun h => h.symm⟩
  rw [z7] at z6
  simp only [M.errOf, if_true] at c3 c4
  rw [KX.of_] at hj1
  generalize M.spanK t i = s1 at *
  generalize M.indexK x.svc x.host x.start.toNat t i = s2 at *
  generalize M.fromK tr = s3 at *
  generalize M.toK tr = s4 at *
  generalize M.fromS x.svc x.host f g = s5 at *
  generalize M.toS x.svc x.host f g = s6 at *
  generalize M.fromS x.host x.svc f g = s7 at *
  generalize M.toS x.host x.svc f g = s8 at *
  generalize M.traceK t = s9 at *
  generalize M.toK x.trace = s10 at *
  have C3 := Lib.hid c3
  have C4 := Lib.hid c4
  have C5 := Lib.hid c5
  have C6 := Lib.hid c6
  have C7 := Lib.hid c7
  have C8 := Lib.hid c8
  have R1 := Lib.hid r1
  have R2 := Lib.hid r2
  obtain ⟨a1, a2, a3⟩ := hj1
  obtain ⟨i1, i2⟩ := hin
  have hin2 : Op.bytesLess s5 s2 = true ∧ Op.bytesLess s2 s6 = true := by
    rw [i1, i2] at z4; simpa using z4
  have hin3 : (Op.bytesLess s7 s2 = true ∧ Op.bytesLess s2 s8 = true ∧ (x.host == x.svc) = true) ∨ (Op.bytesLess s7 s2 = true ∧ Op.bytesLess s2 s8 = false ∧ (x.host == x.svc) = false) ∨ (Op.bytesLess s7 s2 = false ∧ (x.host == x.svc) = false) := by
    rw [i1, i2] at z6
    revert z6
    cases Op.bytesLess s7 s2 <;> cases Op.bytesLess s2 s8 <;> cases (x.host == x.svc) <;> simp
  obtain ⟨d3, d4⟩ := hin2
  clear c3 c4 c5 c6 c7 c8 r1 r2 ex z2 z4 z6 z7 qx1 qx2 qx4 qx5 qx6 KX h1 h2 hl1 hl2
  have RX := Lib.hid ((rowIn_new (spA x) 23 w).more (.cells #[.int .i64 f, .int .i64 g] 52))
  have RY := Lib.hid (rowIn_at #[.int .i64 f, .int .i64 g] 52 (w.alloc (.cells (spA x) 23)) (w.heap.size + 1) (by simp))
  have BW := Lib.hid (((Below.refl w.heap.size w).alloc (Nat.le_refl _) (.cells (spA x) 23)).alloc (by simp) (.cells #[.int .i64 f, .int .i64 g] 52))
  obtain ⟨x0, x1, x2, x3, x4, x5, x6, x7⟩ := span_cells RX.out
  go_enter Try.func8, Try.ntmps8
  go_wp2_with fail
  with_reducible refine (C1.out _).mono ?_
  rintro e w1 ⟨rfl, hb1⟩
  clear x0 x1 x2 x3 x4 x5 x6 x7
  have RX1 := Lib.hid (RX.out.below hb1)
  have RY1 := Lib.hid (RY.out.below hb1)
  have BW1 := Lib.hid (below_step BW.out hb1)
  clear hb1
  obtain ⟨x0, x1, x2, x3, x4, x5, x6, x7⟩ := span_cells RX1.out
  go_wp2_with fail
  with_reducible refine (C2.out _).mono ?_
  rintro e w2 ⟨rfl, hb2⟩
  clear x0 x1 x2 x3 x4 x5 x6 x7
  have RX2 := Lib.hid (RX1.out.below hb2)
  have RY2 := Lib.hid (RY1.out.below hb2)
  have BW2 := Lib.hid (below_step BW1.out hb2)
  clear hb2
  obtain ⟨x0, x1, x2, x3, x4, x5, x6, x7⟩ := span_cells RX2.out
  go_wp2_with fail
  with_reducible refine (C3.out _).mono ?_
  rintro e w3 ⟨rfl, hb3⟩
  clear x0 x1 x2 x3 x4 x5 x6 x7
  have RX3 := Lib.hid (RX2.out.below hb3)
  have RY3 := Lib.hid (RY2.out.below hb3)
  have BW3 := Lib.hid (below_step BW2.out hb3)
  clear hb3
  obtain ⟨x0, x1, x2, x3, x4, x5, x6, x7⟩ := span_cells RX3.out
  go_wp2_with fail
  with_reducible refine (C4.out _).mono ?_
  rintro e w4 ⟨rfl, hb4⟩
  clear x0 x1 x2 x3 x4 x5 x6 x7
  have RX4 := Lib.hid (RX3.out.below hb4)
  have RY4 := Lib.hid (RY3.out.below hb4)
  have BW4 := Lib.hid (below_step BW3.out hb4)
  clear hb4
  go_wp2_with fail
  with_reducible refine (C5.out _).mono ?_
  rintro e w5 ⟨rfl, hb5⟩
  have RX5 := Lib.hid (RX4.out.below hb5)
  have RY5 := Lib.hid (RY4.out.below hb5)
  have BW5 := Lib.hid (below_step BW4.out hb5)
  clear hb5
  obtain ⟨x0, x1, x2, x3, x4, x5, x6, x7⟩ := span_cells RX5.out
  have y0 := RY5.out.cell 0
  have y1 := RY5.out.cell 1
  simp at y0 y1
  go_wp2_with fail
  with_reducible refine (C6.out _).mono ?_
  rintro e w6 ⟨rfl, hb6⟩
  clear x0 x1 x2 x3 x4 x5 x6 x7
  clear y0 y1
  have RX6 := Lib.hid (RX5.out.below hb6)
  have RY6 := Lib.hid (RY5.out.below hb6)
  have BW6 := Lib.hid (below_step BW5.out hb6)
  clear hb6
  obtain ⟨x0, x1, x2, x3, x4, x5, x6, x7⟩ := span_cells RX6.out
  have y0 := RY6.out.cell 0
  have y1 := RY6.out.cell 1
  simp at y0 y1
  go_wp2_with fail
  with_reducible refine (C7.out _).mono ?_
  rintro e w7 ⟨rfl, hb7⟩
  clear x0 x1 x2 x3 x4 x5 x6 x7
  clear y0 y1
  have RX7 := Lib.hid (RX6.out.below hb7)
  have RY7 := Lib.hid (RY6.out.below hb7)
  have BW7 := Lib.hid (below_step BW6.out hb7)
  clear hb7
  obtain ⟨x0, x1, x2, x3, x4, x5, x6, x7⟩ := span_cells RX7.out
  go_wp2_with fail
  with_reducible refine (C8.out _).mono ?_
  rintro e w8 ⟨rfl, hb8⟩
  clear x0 x1 x2 x3 x4 x5 x6 x7
  have RX8 := Lib.hid (RX7.out.below hb8)
  have RY8 := Lib.hid (RY7.out.below hb8)
  have BW8 := Lib.hid (below_step BW7.out hb8)
  clear hb8
  obtain ⟨x0, x1, x2, x3, x4, x5, x6, x7⟩ := span_cells RX8.out
  have y0 := RY8.out.cell 0
  have y1 := RY8.out.cell 1
  simp at y0 y1
  go_wp2_with fail
  with_reducible refine (R1.out _).mono ?_
  rintro e w11 ⟨rfl, hb11⟩
  have BW11 := Lib.hid (below_step BW8.out hb11)
  have RX11 := Lib.hid (RX8.out.below hb11)
  clear hb11 x0 x1 x2 x3 x4 x5 x6 x7 y0 y1
  obtain ⟨x0, x1, x2, x3, x4, x5, x6, x7⟩ := span_cells RX11.out
  go_wp2_with fail
  with_reducible refine (R2.out _).mono ?_
  rintro e w12 ⟨rfl, hb12⟩
  have BW12 := Lib.hid (below_step BW11.out hb12)
  have RX12 := Lib.hid (RX11.out.below hb12)
  clear hb12 x0 x1 x2 x3 x4 x5 x6 x7
  obtain ⟨x0, x1, x2, x3, x4, x5, x6, x7⟩ := span_cells RX12.out
  clear RX RY RX1 RY1 RX2 RY2 RX3 RY3 RX4 RY4 RX5 RY5 RX6 RY6 RX7 RY7 RX8 RY8 RX11 BW BW1 BW2 BW3 BW4 BW5 BW6 BW7 BW8 BW11 C1 C2 C3 C4 C5 C6 C7 C8 R1 R2
  rcases hin3 with ⟨b3, b4, b5⟩ | ⟨b3, b4, b5⟩ | ⟨b3, b5⟩
  · go_wp2_with fail
    with_reducible refine (does8 _).mono ?_
    rintro e w13 ⟨rfl, hb13⟩
    go_wp2_with fail
    go_ret
    exact ⟨rfl, below_step BW12.out hb13⟩
  · go_wp2_with fail
    with_reducible refine (does8 _).mono ?_
    rintro e w13 ⟨rfl, hb13⟩
    go_wp2_with fail
    go_ret
    exact ⟨rfl, below_step BW12.out hb13⟩
  · go_wp2_with fail
    with_reducible refine (does8 _).mono ?_
    rintro e w13 ⟨rfl, hb13⟩
    go_wp2_with fail
    go_ret
    exact ⟨rfl, below_step BW12.out hb13⟩


set_option maxHeartbeats 4000000 in
set_option maxRecDepth 100000 in
theorem within_01 (x : M.Sp) (tr f g : Int) (hx : x.fits) (h1 : M.great8 x = false) (h2 : M.mayB x = true) (hj1 : Op.bytesLess (M.fromK tr) (M.ofK x.trace x.id) = true ∧ Op.bytesLess (M.ofK x.trace x.id) (M.toK tr) = true ∧ (tr == x.trace) = true) (hin : decide (f ≤ x.start) = true ∧ decide (x.start ≤ g) = false) (w : World) :
    Calls Try.prog 8 #[.agg (spA x), .int .i64 tr, .agg #[.int .i64 f, .int .i64 g]] w fun e w' => e = .returned (.bool true) ∧ Below w.heap.size w w' := by
  obtain ⟨t, i, KX⟩ := keysOfSp h2
  obtain ⟨qx1, qx2, _, qx4, qx5, qx6, _⟩ := M.mayB_parts h2
  have hl1 := (M.nameB_len qx4).2
  have hl2 := (M.nameB_len qx5).2
  have c1 := fun W => great8_any x W
  rw [h1] at c1
  have C1 := Lib.hid c1
  clear c1
  have c2 := fun W => check_any x hx W
  rw [h2] at c2
  simp only [M.errOf] at c2
  have C2 := Lib.hid c2
  clear c2
  have c3 := fun W => of_any x.trace x.id W
  rw [KX.of_, KX.ok] at c3
  have c4 := fun W => index_any x hx W
  have ex : M.idxK x = M.indexK x.svc x.host x.start.toNat t i := by rw [M.idxK, if_pos h2, KX.ht, KX.hi]; rfl
  rw [ex, h2] at c4
  have c5 := fun W => trace_any tr W
  have c6 := fun W => stretch_any x.svc x.host (by omega) (by omega) f g W
  have c7 := fun W => stretch_any x.host x.svc (by omega) (by omega) f g W
  have c8 := fun W => trace_any x.trace W
  rw [KX.from_] at c8
  have r1 := fun W => keyRow_any (M.spanK t i) (by simp [M.spanK, M.bigN_length]) W
  rw [row_span t i KX.okt KX.oki] at r1
  have r2 := fun W => keyRow_any (M.indexK x.svc x.host x.start.toNat t i) (by simp [M.indexK, M.aheadK, M.bigN_length]; omega) W
  rw [row_index qx4 qx5 (by omega) KX.okt KX.oki] at r2
  obtain ⟨z1, z2⟩ := M.within1 t i tr KX.okt KX.oki
  obtain ⟨z3, z4⟩ := M.within2 x.svc x.host x.svc x.host qx4 qx5 qx4 qx5 rfl x.start.toNat t i (by omega) f g
  obtain ⟨z5, z6⟩ := M.within2 x.svc x.host x.host x.svc qx4 qx5 qx5 qx4 (by omega) x.start.toNat t i (by omega) f g
  rw [← KX.ht] at z2
  rw [Int.toNat_of_nonneg qx6.1] at z4 z6
  have z7 : (x.svc == x.host) = (x.host == x.svc) := by rw [Bool.eq_iff_iff, beq_iff_eq, beq_iff_eq]; exact ⟨fun h => h.symm, fun h => h.symm⟩
  rw [z7] at z6
  simp only [M.errOf, if_true] at c3 c4
  rw [KX.of_] at hj1
  generalize M.spanK t i = s1 at *
  generalize M.indexK x.svc x.host x.start.toNat t i = s2 at *
  generalize M.fromK tr = s3 at *
  generalize M.toK tr = s4 at *
  generalize M.fromS x.svc x.host f g = s5 at *
  generalize M.toS x.svc x.host f g = s6 at *
  generalize M.fromS x.host x.svc f g = s7 at *
  generalize M.toS x.host x.svc f g = s8 at *
  generalize M.traceK t = s9 at *
  generalize M.toK x.trace = s10 at *
  have C3 := Lib.hid c3
  have C4 := Lib.hid c4
  have C5 := Lib.hid c5
  have C6 := Lib.hid c6
  have C7 := Lib.hid c7
  have C8 := Lib.hid c8
  have R1 := Lib.hid r1
  have R2 := Lib.hid r2
  obtain ⟨a1, a2, a3⟩ := hj1
  obtain ⟨i1, i2⟩ := hin
  have hin2 : (Op.bytesLess s5 s2 = true ∧ Op.bytesLess s2 s6 = false) ∨ Op.bytesLess s5 s2 = false := by
    rw [i1, i2] at z4
    revert z4
    cases Op.bytesLess s5 s2 <;> cases Op.bytesLess s2 s6 <;> simp
  have hin3 : (Op.bytesLess s7 s2 = true ∧ Op.bytesLess s2 s8 = false) ∨ Op.bytesLess s7 s2 = false := by
    rw [i1, i2] at z6
    revert z6
    cases Op.bytesLess s7 s2 <;> cases Op.bytesLess s2 s8 <;> simp
  clear c3 c4 c5 c6 c7 c8 r1 r2 ex z2 z4 z6 z7 qx1 qx2 qx4 qx5 qx6 KX h1 h2 hl1 hl2
  have RX := Lib.hid ((rowIn_new (spA x) 23 w).more (.cells #[.int .i64 f, .int .i64 g] 52))
  have RY := Lib.hid (rowIn_at #[.int .i64 f, .int .i64 g] 52 (w.alloc (.cells (spA x) 23)) (w.heap.size + 1) (by simp))
  have BW := Lib.hid (((Below.refl w.heap.size w).alloc (Nat.le_refl _) (.cells (spA x) 23)).alloc (by simp) (.cells #[.int .i64 f, .int .i64 g] 52))
  obtain ⟨x0, x1, x2, x3, x4, x5, x6, x7⟩ := span_cells RX.out
  go_enter Try.func8, Try.ntmps8
  go_wp2_with fail
  with_reducible refine (C1.out _).mono ?_
  rintro e w1 ⟨rfl, hb1⟩
  clear x0 x1 x2 x3 x4 x5 x6 x7
  have RX1 := Lib.hid (RX.out.below hb1)
  have RY1 := Lib.hid (RY.out.below hb1)
  have BW1 := Lib.hid (below_step BW.out hb1)
  clear hb1
  obtain ⟨x0, x1, x2, x3, x4, x5, x6, x7⟩ := span_cells RX1.out
  go_wp2_with fail
  with_reducible refine (C2.out _).mono ?_
  rintro e w2 ⟨rfl, hb2⟩
  clear x0 x1 x2 x3 x4 x5 x6 x7
  have RX2 := Lib.hid (RX1.out.below hb2)
  have RY2 := Lib.hid (RY1.out.below hb2)
  have BW2 := Lib.hid (below_step BW1.out hb2)
  clear hb2
  obtain ⟨x0, x1, x2, x3, x4, x5, x6, x7⟩ := span_cells RX2.out
  go_wp2_with fail
  with_reducible refine (C3.out _).mono ?_
  rintro e w3 ⟨rfl, hb3⟩
  clear x0 x1 x2 x3 x4 x5 x6 x7
  have RX3 := Lib.hid (RX2.out.below hb3)
  have RY3 := Lib.hid (RY2.out.below hb3)
  have BW3 := Lib.hid (below_step BW2.out hb3)
  clear hb3
  obtain ⟨x0, x1, x2, x3, x4, x5, x6, x7⟩ := span_cells RX3.out
  go_wp2_with fail
  with_reducible refine (C4.out _).mono ?_
  rintro e w4 ⟨rfl, hb4⟩
  clear x0 x1 x2 x3 x4 x5 x6 x7
  have RX4 := Lib.hid (RX3.out.below hb4)
  have RY4 := Lib.hid (RY3.out.below hb4)
  have BW4 := Lib.hid (below_step BW3.out hb4)
  clear hb4
  go_wp2_with fail
  with_reducible refine (C5.out _).mono ?_
  rintro e w5 ⟨rfl, hb5⟩
  have RX5 := Lib.hid (RX4.out.below hb5)
  have RY5 := Lib.hid (RY4.out.below hb5)
  have BW5 := Lib.hid (below_step BW4.out hb5)
  clear hb5
  obtain ⟨x0, x1, x2, x3, x4, x5, x6, x7⟩ := span_cells RX5.out
  have y0 := RY5.out.cell 0
  have y1 := RY5.out.cell 1
  simp at y0 y1
  go_wp2_with fail
  with_reducible refine (C6.out _).mono ?_
  rintro e w6 ⟨rfl, hb6⟩
  clear x0 x1 x2 x3 x4 x5 x6 x7
  clear y0 y1
  have RX6 := Lib.hid (RX5.out.below hb6)
  have RY6 := Lib.hid (RY5.out.below hb6)
  have BW6 := Lib.hid (below_step BW5.out hb6)
  clear hb6
  obtain ⟨x0, x1, x2, x3, x4, x5, x6, x7⟩ := span_cells RX6.out
  have y0 := RY6.out.cell 0
  have y1 := RY6.out.cell 1
  simp at y0 y1
  go_wp2_with fail
  with_reducible refine (C7.out _).mono ?_
  rintro e w7 ⟨rfl, hb7⟩
  clear x0 x1 x2 x3 x4 x5 x6 x7
  clear y0 y1
  have RX7 := Lib.hid (RX6.out.below hb7)
  have RY7 := Lib.hid (RY6.out.below hb7)
  have BW7 := Lib.hid (below_step BW6.out hb7)
  clear hb7
  obtain ⟨x0, x1, x2, x3, x4, x5, x6, x7⟩ := span_cells RX7.out
  go_wp2_with fail
  with_reducible refine (C8.out _).mono ?_
  rintro e w8 ⟨rfl, hb8⟩
  clear x0 x1 x2 x3 x4 x5 x6 x7
  have RX8 := Lib.hid (RX7.out.below hb8)
  have RY8 := Lib.hid (RY7.out.below hb8)
  have BW8 := Lib.hid (below_step BW7.out hb8)
  clear hb8
  obtain ⟨x0, x1, x2, x3, x4, x5, x6, x7⟩ := span_cells RX8.out
  have y0 := RY8.out.cell 0
  have y1 := RY8.out.cell 1
  simp at y0 y1
  go_wp2_with fail
  with_reducible refine (R1.out _).mono ?_
  rintro e w11 ⟨rfl, hb11⟩
  have BW11 := Lib.hid (below_step BW8.out hb11)
  have RX11 := Lib.hid (RX8.out.below hb11)
  clear hb11 x0 x1 x2 x3 x4 x5 x6 x7 y0 y1
  obtain ⟨x0, x1, x2, x3, x4, x5, x6, x7⟩ := span_cells RX11.out
  go_wp2_with fail
  with_reducible refine (R2.out _).mono ?_
  rintro e w12 ⟨rfl, hb12⟩
  have BW12 := Lib.hid (below_step BW11.out hb12)
  have RX12 := Lib.hid (RX11.out.below hb12)
  clear hb12 x0 x1 x2 x3 x4 x5 x6 x7
  obtain ⟨x0, x1, x2, x3, x4, x5, x6, x7⟩ := span_cells RX12.out
  clear RX RY RX1 RY1 RX2 RY2 RX3 RY3 RX4 RY4 RX5 RY5 RX6 RY6 RX7 RY7 RX8 RY8 RX11 BW BW1 BW2 BW3 BW4 BW5 BW6 BW7 BW8 BW11 C1 C2 C3 C4 C5 C6 C7 C8 R1 R2
  rcases hin2 with ⟨d3, d4⟩ | d3
  · rcases hin3 with ⟨b3, b4⟩ | b3
    · go_wp2_with fail
      with_reducible refine (does8 _).mono ?_
      rintro e w13 ⟨rfl, hb13⟩
      go_wp2_with fail
      go_ret
      exact ⟨rfl, below_step BW12.out hb13⟩
    · go_wp2_with fail
      with_reducible refine (does8 _).mono ?_
      rintro e w13 ⟨rfl, hb13⟩
      go_wp2_with fail
      go_ret
      exact ⟨rfl, below_step BW12.out hb13⟩
  · rcases hin3 with ⟨b3, b4⟩ | b3
    · go_wp2_with fail
      with_reducible refine (does8 _).mono ?_
      rintro e w13 ⟨rfl, hb13⟩
      go_wp2_with fail
      go_ret
      exact ⟨rfl, below_step BW12.out hb13⟩
    · go_wp2_with fail
      with_reducible refine (does8 _).mono ?_
      rintro e w13 ⟨rfl, hb13⟩
      go_wp2_with fail
      go_ret
      exact ⟨rfl, below_step BW12.out hb13⟩


set_option maxHeartbeats 4000000 in
set_option maxRecDepth 100000 in
theorem within_02 (x : M.Sp) (tr f g : Int) (hx : x.fits) (h1 : M.great8 x = false) (h2 : M.mayB x = true) (hj1 : Op.bytesLess (M.fromK tr) (M.ofK x.trace x.id) = true ∧ Op.bytesLess (M.ofK x.trace x.id) (M.toK tr) = true ∧ (tr == x.trace) = true) (hin : decide (f ≤ x.start) = false) (w : World) :
    Calls Try.prog 8 #[.agg (spA x), .int .i64 tr, .agg #[.int .i64 f, .int .i64 g]] w fun e w' => e = .returned (.bool true) ∧ Below w.heap.size w w' := by
  obtain ⟨t, i, KX⟩ := keysOfSp h2
  obtain ⟨qx1, qx2, _, qx4, qx5, qx6, _⟩ := M.mayB_parts h2
  have hl1 := (M.nameB_len qx4).2
  have hl2 := (M.nameB_len qx5).2
  have c1 := fun W => great8_any x W
  rw [h1] at c1
  have C1 := Lib.hid c1
  clear c1
  have c2 := fun W => check_any x hx W
  rw [h2] at c2
  simp only [M.errOf] at c2
  have C2 := Lib.hid c2
  clear c2
  have c3 := fun W => of_any x.trace x.id W
  rw [KX.of_, KX.ok] at c3
  have c4 := fun W => index_any x hx W
  have ex : M.idxK x = M.indexK x.svc x.host x.start.toNat t i := by rw [M.idxK, if_pos h2, KX.ht, KX.hi]; rfl
  rw [ex, h2] at c4
  have c5 := fun W => trace_any tr W
  have c6 := fun W => stretch_any x.svc x.host (by omega) (by omega) f g W
  have c7 := fun W => stretch_any x.host x.svc (by omega) (by omega) f g W
  have c8 := fun W => trace_any x.trace W
  rw [KX.from_] at c8
  have r1 := fun W => keyRow_any (M.spanK t i) (by simp [M.spanK, M.bigN_length]) W
  rw [row_span t i KX.okt KX.oki] at r1
  have r2 := fun W => keyRow_any (M.indexK x.svc x.host x.start.toNat t i) (by simp [M.indexK, M.aheadK, M.bigN_length]; omega) W
  rw [row_index qx4 qx5 (by omega) KX.okt KX.oki] at r2
  obtain ⟨z1, z2⟩ := M.within1 t i tr KX.okt KX.oki
  obtain ⟨z3, z4⟩ := M.within2 x.svc x.host x.svc x.host qx4 qx5 qx4 qx5 rfl x.start.toNat t i (by omega) f g
  obtain ⟨z5, z6⟩ := M.within2 x.svc x.host x.host x.svc qx4 qx5 qx5 qx4 (by omega) x.start.toNat t i (by omega) f g
  rw [← KX.ht] at z2
  rw [Int.toNat_of_nonneg qx6.1] at z4 z6
  have z7 : (x.svc == x.host) = (x.host == x.svc) := by rw [Bool.eq_iff_iff, beq_iff_eq, beq_iff_eq]; exact ⟨fun h => h.symm, fun h => h.symm⟩
  rw [z7] at z6
  simp only [M.errOf, if_true] at c3 c4
  rw [KX.of_] at hj1
  generalize M.spanK t i = s1 at *
  generalize M.indexK x.svc x.host x.start.toNat t i = s2 at *
  generalize M.fromK tr = s3 at *
  generalize M.toK tr = s4 at *
  generalize M.fromS x.svc x.host f g = s5 at *
  generalize M.toS x.svc x.host f g = s6 at *
  generalize M.fromS x.host x.svc f g = s7 at *
  generalize M.toS x.host x.svc f g = s8 at *
  generalize M.traceK t = s9 at *
  generalize M.toK x.trace = s10 at *
  have C3 := Lib.hid c3
  have C4 := Lib.hid c4
  have C5 := Lib.hid c5
  have C6 := Lib.hid c6
  have C7 := Lib.hid c7
  have C8 := Lib.hid c8
  have R1 := Lib.hid r1
  have R2 := Lib.hid r2
  obtain ⟨a1, a2, a3⟩ := hj1
  have i1 := hin
  have hin2 : (Op.bytesLess s5 s2 = true ∧ Op.bytesLess s2 s6 = false) ∨ Op.bytesLess s5 s2 = false := by
    rw [i1] at z4
    revert z4
    cases Op.bytesLess s5 s2 <;> cases Op.bytesLess s2 s6 <;> simp
  have hin3 : (Op.bytesLess s7 s2 = true ∧ Op.bytesLess s2 s8 = false) ∨ Op.bytesLess s7 s2 = false := by
    rw [i1] at z6
    revert z6
    cases Op.bytesLess s7 s2 <;> cases Op.bytesLess s2 s8 <;> simp
  clear c3 c4 c5 c6 c7 c8 r1 r2 ex z2 z4 z6 z7 qx1 qx2 qx4 qx5 qx6 KX h1 h2 hl1 hl2
  have RX := Lib.hid ((rowIn_new (spA x) 23 w).more (.cells #[.int .i64 f, .int .i64 g] 52))
  have RY := Lib.hid (rowIn_at #[.int .i64 f, .int .i64 g] 52 (w.alloc (.cells (spA x) 23)) (w.heap.size + 1) (by simp))
  have BW := Lib.hid (((Below.refl w.heap.size w).alloc (Nat.le_refl _) (.cells (spA x) 23)).alloc (by simp) (.cells #[.int .i64 f, .int .i64 g] 52))
  obtain ⟨x0, x1, x2, x3, x4, x5, x6, x7⟩ := span_cells RX.out
  go_enter Try.func8, Try.ntmps8
  go_wp2_with fail
  with_reducible refine (C1.out _).mono ?_
  rintro e w1 ⟨rfl, hb1⟩
  clear x0 x1 x2 x3 x4 x5 x6 x7
  have RX1 := Lib.hid (RX.out.below hb1)
  have RY1 := Lib.hid (RY.out.below hb1)
  have BW1 := Lib.hid (below_step BW.out hb1)
  clear hb1
  obtain ⟨x0, x1, x2, x3, x4, x5, x6, x7⟩ := span_cells RX1.out
  go_wp2_with fail
  with_reducible refine (C2.out _).mono ?_
  rintro e w2 ⟨rfl, hb2⟩
  clear x0 x1 x2 x3 x4 x5 x6 x7
  have RX2 := Lib.hid (RX1.out.below hb2)
  have RY2 := Lib.hid (RY1.out.below hb2)
  have BW2 := Lib.hid (below_step BW1.out hb2)
  clear hb2
  obtain ⟨x0, x1, x2, x3, x4, x5, x6, x7⟩ := span_cells RX2.out
  go_wp2_with fail
  with_reducible refine (C3.out _).mono ?_
  rintro e w3 ⟨rfl, hb3⟩
  clear x0 x1 x2 x3 x4 x5 x6 x7
  have RX3 := Lib.hid (RX2.out.below hb3)
  have RY3 := Lib.hid (RY2.out.below hb3)
  have BW3 := Lib.hid (below_step BW2.out hb3)
  clear hb3
  obtain ⟨x0, x1, x2, x3, x4, x5, x6, x7⟩ := span_cells RX3.out
  go_wp2_with fail
  with_reducible refine (C4.out _).mono ?_
  rintro e w4 ⟨rfl, hb4⟩
  clear x0 x1 x2 x3 x4 x5 x6 x7
  have RX4 := Lib.hid (RX3.out.below hb4)
  have RY4 := Lib.hid (RY3.out.below hb4)
  have BW4 := Lib.hid (below_step BW3.out hb4)
  clear hb4
  go_wp2_with fail
  with_reducible refine (C5.out _).mono ?_
  rintro e w5 ⟨rfl, hb5⟩
  have RX5 := Lib.hid (RX4.out.below hb5)
  have RY5 := Lib.hid (RY4.out.below hb5)
  have BW5 := Lib.hid (below_step BW4.out hb5)
  clear hb5
  obtain ⟨x0, x1, x2, x3, x4, x5, x6, x7⟩ := span_cells RX5.out
  have y0 := RY5.out.cell 0
  have y1 := RY5.out.cell 1
  simp at y0 y1
  go_wp2_with fail
  with_reducible refine (C6.out _).mono ?_
  rintro e w6 ⟨rfl, hb6⟩
  clear x0 x1 x2 x3 x4 x5 x6 x7
  clear y0 y1
  have RX6 := Lib.hid (RX5.out.below hb6)
  have RY6 := Lib.hid (RY5.out.below hb6)
  have BW6 := Lib.hid (below_step BW5.out hb6)
  clear hb6
  obtain ⟨x0, x1, x2, x3, x4, x5, x6, x7⟩ := span_cells RX6.out
  have y0 := RY6.out.cell 0
  have y1 := RY6.out.cell 1
  simp at y0 y1
  go_wp2_with fail
  with_reducible refine (C7.out _).mono ?_
  rintro e w7 ⟨rfl, hb7⟩
  clear x0 x1 x2 x3 x4 x5 x6 x7
  clear y0 y1
  have RX7 := Lib.hid (RX6.out.below hb7)
  have RY7 := Lib.hid (RY6.out.below hb7)
  have BW7 := Lib.hid (below_step BW6.out hb7)
  clear hb7
  obtain ⟨x0, x1, x2, x3, x4, x5, x6, x7⟩ := span_cells RX7.out
  go_wp2_with fail
  with_reducible refine (C8.out _).mono ?_
  rintro e w8 ⟨rfl, hb8⟩
  clear x0 x1 x2 x3 x4 x5 x6 x7
  have RX8 := Lib.hid (RX7.out.below hb8)
  have RY8 := Lib.hid (RY7.out.below hb8)
  have BW8 := Lib.hid (below_step BW7.out hb8)
  clear hb8
  obtain ⟨x0, x1, x2, x3, x4, x5, x6, x7⟩ := span_cells RX8.out
  have y0 := RY8.out.cell 0
  have y1 := RY8.out.cell 1
  simp at y0 y1
  go_wp2_with fail
  with_reducible refine (R1.out _).mono ?_
  rintro e w11 ⟨rfl, hb11⟩
  have BW11 := Lib.hid (below_step BW8.out hb11)
  have RX11 := Lib.hid (RX8.out.below hb11)
  clear hb11 x0 x1 x2 x3 x4 x5 x6 x7 y0 y1
  obtain ⟨x0, x1, x2, x3, x4, x5, x6, x7⟩ := span_cells RX11.out
  go_wp2_with fail
  with_reducible refine (R2.out _).mono ?_
  rintro e w12 ⟨rfl, hb12⟩
  have BW12 := Lib.hid (below_step BW11.out hb12)
  have RX12 := Lib.hid (RX11.out.below hb12)
  clear hb12 x0 x1 x2 x3 x4 x5 x6 x7
  obtain ⟨x0, x1, x2, x3, x4, x5, x6, x7⟩ := span_cells RX12.out
  clear RX RY RX1 RY1 RX2 RY2 RX3 RY3 RX4 RY4 RX5 RY5 RX6 RY6 RX7 RY7 RX8 RY8 RX11 BW BW1 BW2 BW3 BW4 BW5 BW6 BW7 BW8 BW11 C1 C2 C3 C4 C5 C6 C7 C8 R1 R2
  rcases hin2 with ⟨d3, d4⟩ | d3
  · rcases hin3 with ⟨b3, b4⟩ | b3
    · go_wp2_with fail
      with_reducible refine (does8 _).mono ?_
      rintro e w13 ⟨rfl, hb13⟩
      go_wp2_with fail
      go_ret
      exact ⟨rfl, below_step BW12.out hb13⟩
    · go_wp2_with fail
      with_reducible refine (does8 _).mono ?_
      rintro e w13 ⟨rfl, hb13⟩
      go_wp2_with fail
      go_ret
      exact ⟨rfl, below_step BW12.out hb13⟩
  · rcases hin3 with ⟨b3, b4⟩ | b3
    · go_wp2_with fail
      with_reducible refine (does8 _).mono ?_
      rintro e w13 ⟨rfl, hb13⟩
      go_wp2_with fail
      go_ret
      exact ⟨rfl, below_step BW12.out hb13⟩
    · go_wp2_with fail
      with_reducible refine (does8 _).mono ?_
      rintro e w13 ⟨rfl, hb13⟩
      go_wp2_with fail
      go_ret
      exact ⟨rfl, below_step BW12.out hb13⟩


end Go.Proofs.Ytadkkandfgfboaa
