/- Layer 8: the laws' walks: KeysApart. -/
import Derived.Test.YtadkkandfgfboaaKeysL2
namespace Go.Proofs.Ytadkkandfgfboaa
set_option linter.unusedVariables false
open Go Go.RowKit Go.Sort
attribute [local go_sem ↓] run_index_S
attribute [local go_sem] S_append S_extract

def M.great8 (x : M.Sp) : Bool := decide (500 < x.svc.length) || decide (500 < x.host.length) || decide (500 < x.note.length)
theorem M.great8_no {x : M.Sp} (h : M.great8 x = false) : x.svc.length ≤ 500 ∧ x.host.length ≤ 500 ∧ x.note.length ≤ 500 := by
  simp only [M.great8, Bool.or_eq_false_iff, decide_eq_false_iff_not] at h
  omega
set_option maxHeartbeats 1000000 in
theorem great8_any (x : M.Sp) (w : World) :
    Calls Try.prog 24 #[.agg (spA x)] w fun e w' => e = .returned (.bool (M.great8 x)) ∧ Below w.heap.size w w' := by
  have RX := Lib.hid (rowIn_new (spA x) 23 w)
  have BW := (Below.refl w.heap.size w).alloc (Nat.le_refl _) (.cells (spA x) 23)
  obtain ⟨x0, x1, x2, x3, x4, x5, x6, x7⟩ := span_cells RX.out
  by_cases h1 : 500 < x.svc.length
  · have d1 : decide (500 < (x.svc.length : Int)) = true := by simp; omega
    have hm : M.great8 x = true := by simp [M.great8, h1]
    rw [hm]
    go_enter Try.func24, Try.ntmps24
    go_wp2_with fail
    go_ret
    exact ⟨rfl, BW⟩
  have d1 : decide (500 < (x.svc.length : Int)) = false := by simp; omega
  by_cases h2 : 500 < x.host.length
  · have d2 : decide (500 < (x.host.length : Int)) = true := by simp; omega
    have hm : M.great8 x = true := by simp [M.great8, h2]
    rw [hm]
    go_enter Try.func24, Try.ntmps24
    go_wp2_with fail
    go_ret
    exact ⟨rfl, BW⟩
  have d2 : decide (500 < (x.host.length : Int)) = false := by simp; omega
  by_cases h3 : 500 < x.note.length
  · have d3 : decide (500 < (x.note.length : Int)) = true := by simp; omega
    have hm : M.great8 x = true := by simp [M.great8, h3]
    rw [hm]
    go_enter Try.func24, Try.ntmps24
    go_wp2_with fail
    go_ret
    exact ⟨rfl, BW⟩
  have d3 : decide (500 < (x.note.length : Int)) = false := by simp; omega
  have hm : M.great8 x = false := by simp [M.great8, h1, h2, h3]
  rw [hm]
  go_enter Try.func24, Try.ntmps24
  go_wp2_with fail
  go_ret
  exact ⟨rfl, BW⟩

theorem trace_eq {t t' i i' : Nat} (h1 : t ≤ 9223372036854775806) (h2 : i ≤ 9223372036854775807) (h3 : t' ≤ 9223372036854775806) (h4 : i' ≤ 9223372036854775807) : M.spanK t i = M.spanK t' i' ↔ t = t' ∧ i = i' := by
  constructor
  · intro h
    have e := List.cons.inj h
    obtain ⟨e1, e2⟩ := List.append_inj e.2 (by rw [M.bigN_length, M.bigN_length])
    exact ⟨(M.bigN_inj _ _ (by omega) (by omega)).1 e1, (M.bigN_inj _ _ (by omega) (by omega)).1 e2⟩
  · rintro ⟨rfl, rfl⟩; rfl
/-- The keys of a span that may be. -/
structure KeysOfSp (x : M.Sp) (t i : Nat) : Prop where
  ht : x.trace = t
  hi : x.id = i
  t1 : t ≤ 2147483647
  i1 : i ≤ 2147483647
  okt : M.idB (t : Int) = true
  oki : M.idB (i : Int) = true
  of_ : M.ofK x.trace x.id = M.spanK t i
  ok : M.okOf x.trace x.id = true
  from_ : M.fromK x.trace = M.traceK t
theorem keysOfSp {x : M.Sp} (h : M.mayB x = true) : ∃ t i, KeysOfSp x t i := by
  obtain ⟨ht, hi, _⟩ := M.mayB_parts h
  obtain ⟨t, et⟩ := Int.eq_ofNat_of_zero_le (show 0 ≤ x.trace by omega)
  obtain ⟨i, ei⟩ := Int.eq_ofNat_of_zero_le (show 0 ≤ x.id by omega)
  have kt : M.idB (t : Int) = true := M.idB_true.2 (by omega)
  have ki : M.idB (i : Int) = true := M.idB_true.2 (by omega)
  have ok : M.okOf x.trace x.id = true := by rw [et, ei]; simp [M.okOf, kt, ki]
  exact ⟨t, i, et, ei, by omega, by omega, kt, ki, by rw [M.ofK, if_pos ok, et, ei]; rfl, ok, by rw [et, M.fromK, if_pos kt]; rfl⟩
theorem row_span (t i : Nat) (ht : M.idB t = true) (hi : M.idB i = true) : M.rowK (M.spanK t i) = M.traceK t := by
  rw [M.rowK, M.parse_span t i ht hi]
  simp only [if_true]
  have := List.take_left (l₁ := M.bigN t) (l₂ := M.bigN i)
  rw [M.bigN_length] at this
  simp [M.spanK, M.traceK, this]
theorem traceK_inj {t t' : Nat} (h1 : t ≤ 2147483647) (h2 : t' ≤ 2147483647) : M.traceK t = M.traceK t' ↔ t = t' := by
  constructor
  · intro h; exact (M.bigN_inj _ _ (by omega) (by omega)).1 (List.cons.inj h).2
  · rintro rfl; rfl

set_option maxHeartbeats 2000000 in
set_option maxRecDepth 100000 in
theorem kapart_gx (x y : M.Sp) (h1 : M.great8 x = true) (w : World) :
    Calls Try.prog 9 #[.agg (spA x), .agg (spA y)] w fun e w' => e = .returned (.bool true) ∧ Below w.heap.size w w' := by
  have c1 := fun W => great8_any x W
  rw [h1] at c1
  have C1 := Lib.hid c1
  clear c1
  have RX := Lib.hid ((rowIn_new (spA x) 23 w).more (.cells (spA y) 23))
  have RY := Lib.hid (rowIn_at (spA y) 23 (w.alloc (.cells (spA x) 23)) (w.heap.size + 1) (by simp))
  have BW := Lib.hid (((Below.refl w.heap.size w).alloc (Nat.le_refl _) (.cells (spA x) 23)).alloc (by simp) (.cells (spA y) 23))
  obtain ⟨x0, x1, x2, x3, x4, x5, x6, x7⟩ := span_cells RX.out
  go_enter Try.func9, Try.ntmps9
  go_wp2_with fail
  with_reducible refine (C1.out _).mono ?_
  rintro e w1 ⟨rfl, hb1⟩
  clear x0 x1 x2 x3 x4 x5 x6 x7
  have RX1 := Lib.hid (RX.out.below hb1)
  have RY1 := Lib.hid (RY.out.below hb1)
  have BW1 := Lib.hid (below_step BW.out hb1)
  clear hb1
  go_wp2_with fail
  with_reducible refine (does8 _).mono ?_
  rintro e w9 ⟨rfl, hb9⟩
  go_wp2_with fail
  go_ret
  exact ⟨rfl, below_step BW1.out hb9⟩

set_option maxHeartbeats 2000000 in
set_option maxRecDepth 100000 in
theorem kapart_gy (x y : M.Sp) (h1 : M.great8 x = false) (h2 : M.great8 y = true) (w : World) :
    Calls Try.prog 9 #[.agg (spA x), .agg (spA y)] w fun e w' => e = .returned (.bool true) ∧ Below w.heap.size w w' := by
  have c1 := fun W => great8_any x W
  rw [h1] at c1
  have C1 := Lib.hid c1
  clear c1
  have c2 := fun W => great8_any y W
  rw [h2] at c2
  have C2 := Lib.hid c2
  clear c2
  have RX := Lib.hid ((rowIn_new (spA x) 23 w).more (.cells (spA y) 23))
  have RY := Lib.hid (rowIn_at (spA y) 23 (w.alloc (.cells (spA x) 23)) (w.heap.size + 1) (by simp))
  have BW := Lib.hid (((Below.refl w.heap.size w).alloc (Nat.le_refl _) (.cells (spA x) 23)).alloc (by simp) (.cells (spA y) 23))
  obtain ⟨x0, x1, x2, x3, x4, x5, x6, x7⟩ := span_cells RX.out
  go_enter Try.func9, Try.ntmps9
  go_wp2_with fail
  with_reducible refine (C1.out _).mono ?_
  rintro e w1 ⟨rfl, hb1⟩
  clear x0 x1 x2 x3 x4 x5 x6 x7
  have RX1 := Lib.hid (RX.out.below hb1)
  have RY1 := Lib.hid (RY.out.below hb1)
  have BW1 := Lib.hid (below_step BW.out hb1)
  clear hb1
  obtain ⟨y0, y1, y2, y3, y4, y5, y6, y7⟩ := span_cells RY1.out
  go_wp2_with fail
  with_reducible refine (C2.out _).mono ?_
  rintro e w2 ⟨rfl, hb2⟩
  clear y0 y1 y2 y3 y4 y5 y6 y7
  have RX2 := Lib.hid (RX1.out.below hb2)
  have RY2 := Lib.hid (RY1.out.below hb2)
  have BW2 := Lib.hid (below_step BW1.out hb2)
  clear hb2
  go_wp2_with fail
  with_reducible refine (does8 _).mono ?_
  rintro e w9 ⟨rfl, hb9⟩
  go_wp2_with fail
  go_ret
  exact ⟨rfl, below_step BW2.out hb9⟩

set_option maxHeartbeats 2000000 in
set_option maxRecDepth 100000 in
theorem kapart_mx (x y : M.Sp) (hx : x.fits) (h1 : M.great8 x = false) (h2 : M.great8 y = false) (h3 : M.mayB x = false) (w : World) :
    Calls Try.prog 9 #[.agg (spA x), .agg (spA y)] w fun e w' => e = .returned (.bool true) ∧ Below w.heap.size w w' := by
  have c1 := fun W => great8_any x W
  rw [h1] at c1
  have C1 := Lib.hid c1
  clear c1
  have c2 := fun W => great8_any y W
  rw [h2] at c2
  have C2 := Lib.hid c2
  clear c2
  have c3 := fun W => check_any x hx W
  rw [h3] at c3
  simp only [M.errOf] at c3
  have C3 := Lib.hid c3
  clear c3
  have RX := Lib.hid ((rowIn_new (spA x) 23 w).more (.cells (spA y) 23))
  have RY := Lib.hid (rowIn_at (spA y) 23 (w.alloc (.cells (spA x) 23)) (w.heap.size + 1) (by simp))
  have BW := Lib.hid (((Below.refl w.heap.size w).alloc (Nat.le_refl _) (.cells (spA x) 23)).alloc (by simp) (.cells (spA y) 23))
  obtain ⟨x0, x1, x2, x3, x4, x5, x6, x7⟩ := span_cells RX.out
  go_enter Try.func9, Try.ntmps9
  go_wp2_with fail
  with_reducible refine (C1.out _).mono ?_
  rintro e w1 ⟨rfl, hb1⟩
  clear x0 x1 x2 x3 x4 x5 x6 x7
  have RX1 := Lib.hid (RX.out.below hb1)
  have RY1 := Lib.hid (RY.out.below hb1)
  have BW1 := Lib.hid (below_step BW.out hb1)
  clear hb1
  obtain ⟨y0, y1, y2, y3, y4, y5, y6, y7⟩ := span_cells RY1.out
  go_wp2_with fail
  with_reducible refine (C2.out _).mono ?_
  rintro e w2 ⟨rfl, hb2⟩
  clear y0 y1 y2 y3 y4 y5 y6 y7
  have RX2 := Lib.hid (RX1.out.below hb2)
  have RY2 := Lib.hid (RY1.out.below hb2)
  have BW2 := Lib.hid (below_step BW1.out hb2)
  clear hb2
  obtain ⟨x0, x1, x2, x3, x4, x5, x6, x7⟩ := span_cells RX2.out
  go_wp2_with fail
  with_reducible refine (C3.out _).mono ?_
  rintro e w3 ⟨rfl, hb3⟩
  clear x0 x1 x2 x3 x4 x5 x6 x7
  have RX3 := Lib.hid (RX2.out.below hb3)
  have RY3 := Lib.hid (RY2.out.below hb3)
  have BW3 := Lib.hid (below_step BW2.out hb3)
  clear hb3
  go_wp2_with fail
  with_reducible refine (does8 _).mono ?_
  rintro e w9 ⟨rfl, hb9⟩
  go_wp2_with fail
  go_ret
  exact ⟨rfl, below_step BW3.out hb9⟩

set_option maxHeartbeats 2000000 in
set_option maxRecDepth 100000 in
theorem kapart_my (x y : M.Sp) (hx : x.fits) (hy : y.fits) (h1 : M.great8 x = false) (h2 : M.great8 y = false) (h3 : M.mayB x = true) (h4 : M.mayB y = false) (w : World) :
    Calls Try.prog 9 #[.agg (spA x), .agg (spA y)] w fun e w' => e = .returned (.bool true) ∧ Below w.heap.size w w' := by
  have c1 := fun W => great8_any x W
  rw [h1] at c1
  have C1 := Lib.hid c1
  clear c1
  have c2 := fun W => great8_any y W
  rw [h2] at c2
  have C2 := Lib.hid c2
  clear c2
  have c3 := fun W => check_any x hx W
  rw [h3] at c3
  simp only [M.errOf] at c3
  have C3 := Lib.hid c3
  clear c3
  have c4 := fun W => check_any y hy W
  rw [h4] at c4
  simp only [M.errOf] at c4
  have C4 := Lib.hid c4
  clear c4
  have RX := Lib.hid ((rowIn_new (spA x) 23 w).more (.cells (spA y) 23))
  have RY := Lib.hid (rowIn_at (spA y) 23 (w.alloc (.cells (spA x) 23)) (w.heap.size + 1) (by simp))
  have BW := Lib.hid (((Below.refl w.heap.size w).alloc (Nat.le_refl _) (.cells (spA x) 23)).alloc (by simp) (.cells (spA y) 23))
  obtain ⟨x0, x1, x2, x3, x4, x5, x6, x7⟩ := span_cells RX.out
  go_enter Try.func9, Try.ntmps9
  go_wp2_with fail
  with_reducible refine (C1.out _).mono ?_
  rintro e w1 ⟨rfl, hb1⟩
  clear x0 x1 x2 x3 x4 x5 x6 x7
  have RX1 := Lib.hid (RX.out.below hb1)
  have RY1 := Lib.hid (RY.out.below hb1)
  have BW1 := Lib.hid (below_step BW.out hb1)
  clear hb1
  obtain ⟨y0, y1, y2, y3, y4, y5, y6, y7⟩ := span_cells RY1.out
  go_wp2_with fail
  with_reducible refine (C2.out _).mono ?_
  rintro e w2 ⟨rfl, hb2⟩
  clear y0 y1 y2 y3 y4 y5 y6 y7
  have RX2 := Lib.hid (RX1.out.below hb2)
  have RY2 := Lib.hid (RY1.out.below hb2)
  have BW2 := Lib.hid (below_step BW1.out hb2)
  clear hb2
  obtain ⟨x0, x1, x2, x3, x4, x5, x6, x7⟩ := span_cells RX2.out
  go_wp2_with fail
  with_reducible refine (C3.out _).mono ?_
  rintro e w3 ⟨rfl, hb3⟩
  clear x0 x1 x2 x3 x4 x5 x6 x7
  have RX3 := Lib.hid (RX2.out.below hb3)
  have RY3 := Lib.hid (RY2.out.below hb3)
  have BW3 := Lib.hid (below_step BW2.out hb3)
  clear hb3
  obtain ⟨y0, y1, y2, y3, y4, y5, y6, y7⟩ := span_cells RY3.out
  go_wp2_with fail
  with_reducible refine (C4.out _).mono ?_
  rintro e w4 ⟨rfl, hb4⟩
  clear y0 y1 y2 y3 y4 y5 y6 y7
  have RX4 := Lib.hid (RX3.out.below hb4)
  have RY4 := Lib.hid (RY3.out.below hb4)
  have BW4 := Lib.hid (below_step BW3.out hb4)
  clear hb4
  go_wp2_with fail
  with_reducible refine (does8 _).mono ?_
  rintro e w9 ⟨rfl, hb9⟩
  go_wp2_with fail
  go_ret
  exact ⟨rfl, below_step BW4.out hb9⟩

set_option maxHeartbeats 2000000 in
set_option maxRecDepth 100000 in
theorem kapart_ok (x y : M.Sp) (hx : x.fits) (hy : y.fits) (h1 : M.great8 x = false) (h2 : M.great8 y = false) (h3 : M.mayB x = true) (h4 : M.mayB y = true) (w : World) :
    Calls Try.prog 9 #[.agg (spA x), .agg (spA y)] w fun e w' => e = .returned (.bool true) ∧ Below w.heap.size w w' := by
  have c1 := fun W => great8_any x W
  rw [h1] at c1
  have C1 := Lib.hid c1
  clear c1
  have c2 := fun W => great8_any y W
  rw [h2] at c2
  have C2 := Lib.hid c2
  clear c2
  obtain ⟨t, i, KX⟩ := keysOfSp h3
  obtain ⟨t', i', KY⟩ := keysOfSp h4
  have c3 := fun W => check_any x hx W
  rw [h3] at c3
  simp only [M.errOf] at c3
  have C3 := Lib.hid c3
  clear c3
  have c4 := fun W => check_any y hy W
  rw [h4] at c4
  simp only [M.errOf] at c4
  have C4 := Lib.hid c4
  clear c4
  have c5 := fun W => of_any x.trace x.id W
  rw [KX.of_] at c5
  have c6 := fun W => of_any y.trace y.id W
  rw [KY.of_] at c6
  have c7 := fun W => index_any x hx W
  have c8 := fun W => index_any y hy W
  have r1 := fun W => keyRow_any (M.spanK t i) (by simp [M.spanK, M.bigN_length]) W
  have r2 := fun W => keyRow_any (M.spanK t' i') (by simp [M.spanK, M.bigN_length]) W
  rw [row_span t i KX.okt KX.oki] at r1
  rw [row_span t' i' KY.okt KY.oki] at r2
  have ex : M.idxK x = M.indexK x.svc x.host x.start.toNat x.trace.toNat x.id.toNat := by rw [M.idxK, if_pos h3]
  have ey : M.idxK y = M.indexK y.svc y.host y.start.toNat y.trace.toNat y.id.toNat := by rw [M.idxK, if_pos h4]
  obtain ⟨qx1, qx2, _, qx4, qx5, qx6, _⟩ := M.mayB_parts h3
  obtain ⟨qy1, qy2, _, qy4, qy5, qy6, _⟩ := M.mayB_parts h4
  have px := M.parse_index x.svc x.host qx4 qx5 x.start.toNat x.trace.toNat x.id.toNat (by omega) (M.idB_true.2 (by omega)) (M.idB_true.2 (by omega))
  have py := M.parse_index y.svc y.host qy4 qy5 y.start.toNat y.trace.toNat y.id.toNat (by omega) (M.idB_true.2 (by omega)) (M.idB_true.2 (by omega))
  rw [← ex] at px
  rw [← ey] at py
  have f1 : (x.trace == y.trace) = decide (t = t') := by rw [KX.ht, KY.ht, Bool.eq_iff_iff]; simp; omega
  have f2 : (x.id == y.id) = decide (i = i') := by rw [KX.hi, KY.hi, Bool.eq_iff_iff]; simp; omega
  have f3 : (M.spanK t i == M.spanK t' i') = (decide (t = t') && decide (i = i')) := by
    rw [Bool.eq_iff_iff, beq_iff_eq, trace_eq (by have := KX.t1; omega) (by have := KX.i1; omega) (by have := KY.t1; omega) (by have := KY.i1; omega)]
    simp
  have f4 : (M.spanK t i == M.idxK y) = false := by rw [ey]; simp [M.spanK, M.indexK, M.aheadK]
  have f5 : (M.traceK t == []) = false := by simp [M.traceK]
  have f6 : (M.traceK t == M.traceK t') = decide (t = t') := by
    rw [Bool.eq_iff_iff, beq_iff_eq, traceK_inj KX.t1 KY.t1]; simp
  have f7 : (t = t' ∧ i = i') ∨ (M.idxK x == M.idxK y) = false := by
    by_cases e : M.idxK x = M.idxK y
    · left
      rw [e, py] at px
      have := Option.some.inj px
      simp only [M.Pt.mk.injEq] at this
      have a1 := KX.ht; have a2 := KX.hi; have a3 := KY.ht; have a4 := KY.hi
      omega
    · right; simpa using e
  generalize M.idxK x = s3 at *
  generalize M.idxK y = s4 at *
  generalize M.spanK t i = s1 at *
  generalize M.spanK t' i' = s2 at *
  generalize M.traceK t = q1 at *
  generalize M.traceK t' = q2 at *
  generalize M.errOf (M.okOf x.trace x.id) = n5 at *
  generalize M.errOf (M.okOf y.trace y.id) = n6 at *
  generalize M.errOf (M.mayB x) = n7 at *
  generalize M.errOf (M.mayB y) = n8 at *
  have C5 := Lib.hid c5
  have C6 := Lib.hid c6
  have C7 := Lib.hid c7
  have C8 := Lib.hid c8
  have R1 := Lib.hid r1
  have R2 := Lib.hid r2
  clear c5 c6 c7 c8 r1 r2 ex ey px py qx1 qx2 qx4 qx5 qx6 qy1 qy2 qy4 qy5 qy6
  have ft : decide (t = t') = true ∨ decide (t = t') = false := by cases decide (t = t') <;> simp
  have fi : decide (i = i') = true ∨ decide (i = i') = false := by cases decide (i = i') <;> simp
  clear KX KY h3 h4
  have f8 : ((x.trace == y.trace) = true ∧ (x.id == y.id) = true ∧ (s1 == s2) = true ∧ (q1 == q2) = true) ∨ ((x.trace == y.trace) = true ∧ (x.id == y.id) = false ∧ (s1 == s2) = false ∧ (q1 == q2) = true ∧ (s3 == s4) = false) ∨ ((x.trace == y.trace) = false ∧ (s1 == s2) = false ∧ (q1 == q2) = false ∧ (s3 == s4) = false) := by
    rw [f1, f2, f3, f6]
    by_cases a : t = t'
    · by_cases b : i = i'
      · left; simp [a, b]
      · right; left; simp [a, b]; rcases f7 with f7 | f7
        · exact absurd f7.2 b
        · simpa using f7
    · right; right; simp [a]; rcases f7 with f7 | f7
      · exact absurd f7.1 a
      · simpa using f7
  clear f1 f2 f3 f6 f7 ft fi
  have RX := Lib.hid ((rowIn_new (spA x) 23 w).more (.cells (spA y) 23))
  have RY := Lib.hid (rowIn_at (spA y) 23 (w.alloc (.cells (spA x) 23)) (w.heap.size + 1) (by simp))
  have BW := Lib.hid (((Below.refl w.heap.size w).alloc (Nat.le_refl _) (.cells (spA x) 23)).alloc (by simp) (.cells (spA y) 23))
  obtain ⟨x0, x1, x2, x3, x4, x5, x6, x7⟩ := span_cells RX.out
  go_enter Try.func9, Try.ntmps9
  go_wp2_with fail
  with_reducible refine (C1.out _).mono ?_
  rintro e w1 ⟨rfl, hb1⟩
  clear x0 x1 x2 x3 x4 x5 x6 x7
  have RX1 := Lib.hid (RX.out.below hb1)
  have RY1 := Lib.hid (RY.out.below hb1)
  have BW1 := Lib.hid (below_step BW.out hb1)
  clear hb1
  obtain ⟨y0, y1, y2, y3, y4, y5, y6, y7⟩ := span_cells RY1.out
  go_wp2_with fail
  with_reducible refine (C2.out _).mono ?_
  rintro e w2 ⟨rfl, hb2⟩
  clear y0 y1 y2 y3 y4 y5 y6 y7
  have RX2 := Lib.hid (RX1.out.below hb2)
  have RY2 := Lib.hid (RY1.out.below hb2)
  have BW2 := Lib.hid (below_step BW1.out hb2)
  clear hb2
  obtain ⟨x0, x1, x2, x3, x4, x5, x6, x7⟩ := span_cells RX2.out
  go_wp2_with fail
  with_reducible refine (C3.out _).mono ?_
  rintro e w3 ⟨rfl, hb3⟩
  clear x0 x1 x2 x3 x4 x5 x6 x7
  have RX3 := Lib.hid (RX2.out.below hb3)
  have RY3 := Lib.hid (RY2.out.below hb3)
  have BW3 := Lib.hid (below_step BW2.out hb3)
  clear hb3
  obtain ⟨y0, y1, y2, y3, y4, y5, y6, y7⟩ := span_cells RY3.out
  go_wp2_with fail
  with_reducible refine (C4.out _).mono ?_
  rintro e w4 ⟨rfl, hb4⟩
  clear y0 y1 y2 y3 y4 y5 y6 y7
  have RX4 := Lib.hid (RX3.out.below hb4)
  have RY4 := Lib.hid (RY3.out.below hb4)
  have BW4 := Lib.hid (below_step BW3.out hb4)
  clear hb4
  obtain ⟨x0, x1, x2, x3, x4, x5, x6, x7⟩ := span_cells RX4.out
  go_wp2_with fail
  with_reducible refine (C5.out _).mono ?_
  rintro e w5 ⟨rfl, hb5⟩
  clear x0 x1 x2 x3 x4 x5 x6 x7
  have RX5 := Lib.hid (RX4.out.below hb5)
  have RY5 := Lib.hid (RY4.out.below hb5)
  have BW5 := Lib.hid (below_step BW4.out hb5)
  clear hb5
  obtain ⟨y0, y1, y2, y3, y4, y5, y6, y7⟩ := span_cells RY5.out
  go_wp2_with fail
  with_reducible refine (C6.out _).mono ?_
  rintro e w6 ⟨rfl, hb6⟩
  clear y0 y1 y2 y3 y4 y5 y6 y7
  have RX6 := Lib.hid (RX5.out.below hb6)
  have RY6 := Lib.hid (RY5.out.below hb6)
  have BW6 := Lib.hid (below_step BW5.out hb6)
  clear hb6
  obtain ⟨x0, x1, x2, x3, x4, x5, x6, x7⟩ := span_cells RX6.out
  go_wp2_with fail
  with_reducible refine (C7.out _).mono ?_
  rintro e w7 ⟨rfl, hb7⟩
  clear x0 x1 x2 x3 x4 x5 x6 x7
  have RX7 := Lib.hid (RX6.out.below hb7)
  have RY7 := Lib.hid (RY6.out.below hb7)
  have BW7 := Lib.hid (below_step BW6.out hb7)
  clear hb7
  obtain ⟨y0, y1, y2, y3, y4, y5, y6, y7⟩ := span_cells RY7.out
  go_wp2_with fail
  with_reducible refine (C8.out _).mono ?_
  rintro e w8 ⟨rfl, hb8⟩
  clear y0 y1 y2 y3 y4 y5 y6 y7
  have RX8 := Lib.hid (RX7.out.below hb8)
  have RY8 := Lib.hid (RY7.out.below hb8)
  have BW8 := Lib.hid (below_step BW7.out hb8)
  clear hb8
  obtain ⟨x0, x1, x2, x3, x4, x5, x6, x7⟩ := span_cells RX8.out
  obtain ⟨y0, y1, y2, y3, y4, y5, y6, y7⟩ := span_cells RY8.out
  have xg := fun d os => cell_regrown x0 d os
  have yg := fun d os => cell_regrown y0 d os
  have HF8 := Lib.hid f8
  clear f8
  rcases HF8.out with ⟨g1, g2, g3, g4⟩ | ⟨g1, g2, g3, g4, g5⟩ | ⟨g1, g3, g4, g5⟩
  · go_wp2_with fail
    refine wp_region_quiet_below (by kernel_rfl) (by kernel_rfl) ?_
    repeat (any_goals (first | go_big_quiet_step ((first | (go_at_call 22; with_reducible exact Calls.regrown_of (R1.out _)) | (go_at_call 22; with_reducible exact Calls.regrown_of (R2.out _)) | (go_at_call 16; with_reducible exact Calls.regrown_of (does8 _)))) | quiet_step ((first | (go_at_call 22; with_reducible exact Calls.regrown_of (R1.out _)) | (go_at_call 22; with_reducible exact Calls.regrown_of (R2.out _)) | (go_at_call 16; with_reducible exact Calls.regrown_of (does8 _))))))
    refine wpQuiet_nil ?_
    intro _ hw1
    obtain ⟨⟨d1, d1o⟩, hw1⟩ := hw1
    subst hw1
    clear xg yg
    go_wp2_with fail
    go_ret
    exact ⟨rfl, BW8.out.trans ((below_regrown w8 d1 d1o).mono BW8.out.size)⟩
  · go_wp2_with fail
    refine wp_region_quiet_below (by kernel_rfl) (by kernel_rfl) ?_
    repeat (any_goals (first | go_big_quiet_step ((first | (go_at_call 22; with_reducible exact Calls.regrown_of (R1.out _)) | (go_at_call 22; with_reducible exact Calls.regrown_of (R2.out _)) | (go_at_call 16; with_reducible exact Calls.regrown_of (does8 _)))) | quiet_step ((first | (go_at_call 22; with_reducible exact Calls.regrown_of (R1.out _)) | (go_at_call 22; with_reducible exact Calls.regrown_of (R2.out _)) | (go_at_call 16; with_reducible exact Calls.regrown_of (does8 _))))))
    refine wpQuiet_nil ?_
    intro _ hw1
    obtain ⟨⟨d1, d1o⟩, hw1⟩ := hw1
    subst hw1
    clear xg yg
    go_wp2_with fail
    go_ret
    exact ⟨rfl, BW8.out.trans ((below_regrown w8 d1 d1o).mono BW8.out.size)⟩
  · go_wp2_with fail
    refine wp_region_quiet_below (by kernel_rfl) (by kernel_rfl) ?_
    repeat (any_goals (first | go_big_quiet_step ((first | (go_at_call 22; with_reducible exact Calls.regrown_of (R1.out _)) | (go_at_call 22; with_reducible exact Calls.regrown_of (R2.out _)) | (go_at_call 16; with_reducible exact Calls.regrown_of (does8 _)))) | quiet_step ((first | (go_at_call 22; with_reducible exact Calls.regrown_of (R1.out _)) | (go_at_call 22; with_reducible exact Calls.regrown_of (R2.out _)) | (go_at_call 16; with_reducible exact Calls.regrown_of (does8 _))))))
    refine wpQuiet_nil ?_
    intro _ hw1
    obtain ⟨⟨d1, d1o⟩, hw1⟩ := hw1
    subst hw1
    clear xg yg
    go_wp2_with fail
    go_ret
    exact ⟨rfl, BW8.out.trans ((below_regrown w8 d1 d1o).mono BW8.out.size)⟩

theorem keysApart_calls (u : Value) (hu : USp u) (v : Value) (hv : USp v) (w : World) :
    Calls Try.prog 9 #[u, v] w fun e w' => e = .returned (.bool true) ∧ Below w.heap.size w w' := by
  obtain ⟨x, rfl, hi⟩ := hu
  obtain ⟨y, rfl, hj⟩ := hv
  cases h1 : M.great8 x with
  | true => exact kapart_gx x y h1 w
  | false =>
    cases h2 : M.great8 y with
    | true => exact kapart_gy x y h1 h2 w
    | false =>
      have a := M.great8_no h1
      have b := M.great8_no h2
      have hx := hi.fits (by omega) (by omega) (by omega)
      have hy := hj.fits (by omega) (by omega) (by omega)
      cases h3 : M.mayB x with
      | false => exact kapart_mx x y hx h1 h2 h3 w
      | true =>
        cases h4 : M.mayB y with
        | false => exact kapart_my x y hx hy h1 h2 h3 h4 w
        | true => exact kapart_ok x y hx hy h1 h2 h3 h4 w

end Go.Proofs.Ytadkkandfgfboaa
