/- Layer 8: the laws' walks: KeysBack. -/
import Derived.Test.YtadkkandfgfboaaKeysL3
namespace Go.Proofs.Ytadkkandfgfboaa
set_option linter.unusedVariables false
open Go Go.RowKit Go.Sort
attribute [local go_sem ↓] run_index_S
attribute [local go_sem] S_append S_extract

theorem keysBack_g (x : M.Sp) (l : List UInt8) (h1 : M.great8 x = true) (w : World) :
    Calls Try.prog 6 #[.agg (spA x), .string (S l)] w fun e w' => e = .returned (.bool true) ∧ Below w.heap.size w w' := by
  have c1 := fun W => great8_any x W
  rw [h1] at c1
  have C1 := Lib.hid c1
  clear c1
  have RX := Lib.hid (rowIn_new (spA x) 23 w)
  have BW := Lib.hid ((Below.refl w.heap.size w).alloc (Nat.le_refl _) (.cells (spA x) 23))
  obtain ⟨x0, x1, x2, x3, x4, x5, x6, x7⟩ := span_cells RX.out
  go_enter Try.func6, Try.ntmps6
  go_wp2_with fail
  with_reducible refine (C1.out _).mono ?_
  rintro e w1 ⟨rfl, hb1⟩
  go_wp2_with fail
  go_ret
  exact ⟨rfl, below_step BW.out hb1⟩
theorem keysBack_l (x : M.Sp) (l : List UInt8) (h1 : M.great8 x = false) (hl : 500 < l.length) (w : World) :
    Calls Try.prog 6 #[.agg (spA x), .string (S l)] w fun e w' => e = .returned (.bool true) ∧ Below w.heap.size w w' := by
  have d1 : decide (500 < (l.length : Int)) = true := by simp; omega
  have c1 := fun W => great8_any x W
  rw [h1] at c1
  have C1 := Lib.hid c1
  clear c1
  have RX := Lib.hid (rowIn_new (spA x) 23 w)
  have BW := Lib.hid ((Below.refl w.heap.size w).alloc (Nat.le_refl _) (.cells (spA x) 23))
  obtain ⟨x0, x1, x2, x3, x4, x5, x6, x7⟩ := span_cells RX.out
  go_enter Try.func6, Try.ntmps6
  go_wp2_with fail
  with_reducible refine (C1.out _).mono ?_
  rintro e w1 ⟨rfl, hb1⟩
  go_wp2_with fail
  go_ret
  exact ⟨rfl, below_step BW.out hb1⟩

/-- The rest. -/
def backMark : Unit := ()

set_option maxHeartbeats 4000000 in
set_option maxRecDepth 100000 in
theorem keysBack_nf (x : M.Sp) (l : List UInt8) (hl : l.length ≤ 500) (hx : x.fits) (h1 : M.great8 x = false) (h2 : M.mayB x = false) (hp : M.parse l = none) (w : World) :
    Calls Try.prog 6 #[.agg (spA x), .string (S l)] w fun e w' => e = .returned (.bool true) ∧ Below w.heap.size w w' := by
  have d1 : decide (500 < (l.length : Int)) = false := by simp; omega
  have c1 := fun W => great8_any x W
  rw [h1] at c1
  have C1 := Lib.hid c1
  clear c1
  have c2 := fun W => parse_any l (by omega) W
  have c3 := fun W => check_any x hx W
  rw [h2] at c3
  simp only [M.errOf] at c3
  have C3 := Lib.hid c3
  clear c3
  rw [hp, ptR_none] at c2
  have C2 := Lib.hid c2
  clear c2 hp
  have RX := Lib.hid (rowIn_new (spA x) 23 w)
  have BW := Lib.hid ((Below.refl w.heap.size w).alloc (Nat.le_refl _) (.cells (spA x) 23))
  obtain ⟨x0, x1, x2, x3, x4, x5, x6, x7⟩ := span_cells RX.out
  go_enter Try.func6, Try.ntmps6
  go_wp2_with fail
  with_reducible refine (C1.out _).mono ?_
  rintro e w1 ⟨rfl, hb1⟩
  clear x0 x1 x2 x3 x4 x5 x6 x7
  have RX1 := Lib.hid (RX.out.below hb1)
  have BW1 := Lib.hid (below_step BW.out hb1)
  clear hb1
  go_wp2_with fail
  with_reducible refine (C2.out _).mono ?_
  rintro e w2 ⟨rfl, hb2⟩
  have RX2 := Lib.hid (RX1.out.below hb2)
  have BW2 := Lib.hid (below_step BW1.out hb2)
  clear hb2 RX RX1 BW BW1
  have HX2 := Lib.hid (rowIn_new pt0 36 w2)
  have RP := Lib.hid (HX2.out.row (D := pt0))
  have RX3 := Lib.hid ((RX2.out.more (.cells pt0 36)).rowAbove (c := w2.heap.size) (D := pt0) (RX2.out.lt))
  have BW3 := Lib.hid (below_setRow (g := w2.heap.size) (BW2.out.alloc BW2.out.size (.cells pt0 36)) BW2.out.size pt0)
  obtain ⟨x0, x1, x2, x3, x4, x5, x6, x7⟩ := span_cells RX3.out
  go_wp2_with ((with_reducible show wpList _ _ _ _ _ _); refine wpList_store_row rfl 36 _ _ rfl w2.heap.size _ rfl rfl 36 pt0 HX2.out ?_ rfl ?_ ?_; kernel_rfl; simp [Value.oneCell'])
  with_reducible refine (C3.out _).mono ?_
  rintro e w5 ⟨rfl, hb5⟩
  clear x0 x1 x2 x3 x4 x5 x6 x7
  have RX5 := Lib.hid (RX3.out.below hb5)
  have BW5 := Lib.hid (below_step BW3.out hb5)
  clear hb5
  go_wp2_with fail
  with_reducible refine (does8 _).mono ?_
  rintro e w6 ⟨rfl, hb6⟩
  go_wp2_with fail
  go_ret
  exact ⟨rfl, below_step BW5.out hb6⟩

set_option maxHeartbeats 4000000 in
set_option maxRecDepth 100000 in
theorem keysBack_sf (x : M.Sp) (l : List UInt8) (hl : l.length ≤ 500) (hx : x.fits) (h1 : M.great8 x = false) (h2 : M.mayB x = false) (p : M.Pt) (hp : M.parse l = some p) (hk : p.kind = 115) (h3 : M.idB p.trace = true) (h4 : M.idB p.id = true) (h5 : l = M.spanK p.trace p.id) (w : World) :
    Calls Try.prog 6 #[.agg (spA x), .string (S l)] w fun e w' => e = .returned (.bool true) ∧ Below w.heap.size w w' := by
  have d1 : decide (500 < (l.length : Int)) = false := by simp; omega
  have c1 := fun W => great8_any x W
  rw [h1] at c1
  have C1 := Lib.hid c1
  clear c1
  have c2 := fun W => parse_any l (by omega) W
  have c3 := fun W => check_any x hx W
  rw [h2] at c3
  simp only [M.errOf] at c3
  have C3 := Lib.hid c3
  clear c3
  have cf := fun W => of_any (p.trace : Int) (p.id : Int) W
  have eo : M.okOf (p.trace : Int) (p.id : Int) = true := by simp [M.okOf, h3, h4]
  rw [M.ofK, if_pos eo, eo] at cf
  simp only [Int.toNat_natCast, ← h5, M.errOf, if_true] at cf
  have CF := Lib.hid cf
  clear cf eo
  rw [hp] at c2
  have c2' : ∀ W, Calls Try.prog 19 #[.string (S l)] W fun e w' => e = .returned (.tuple #[.agg #[.int .u8 (p.kind : Nat), .int .i64 (p.trace : Nat), .int .i64 (p.id : Nat), .int .i64 (p.start : Nat), .string (S p.svc), .string (S p.host)], .bool true]) ∧ Below W.heap.size W w' := c2
  have C2 := Lib.hid c2'
  clear c2 c2'
  have q0 : (((p.kind : Nat) : Int) == 120) = false := by rw [hk]; rfl
  clear hp hk h3 h4 h5
  generalize p.kind = pk at *
  generalize p.trace = p1 at *
  generalize p.id = p2 at *
  generalize p.start = p3 at *
  generalize p.svc = p4 at *
  generalize p.host = p5 at *
  have RX := Lib.hid (rowIn_new (spA x) 23 w)
  have BW := Lib.hid ((Below.refl w.heap.size w).alloc (Nat.le_refl _) (.cells (spA x) 23))
  obtain ⟨x0, x1, x2, x3, x4, x5, x6, x7⟩ := span_cells RX.out
  go_enter Try.func6, Try.ntmps6
  go_wp2_with fail
  with_reducible refine (C1.out _).mono ?_
  rintro e w1 ⟨rfl, hb1⟩
  clear x0 x1 x2 x3 x4 x5 x6 x7
  have RX1 := Lib.hid (RX.out.below hb1)
  have BW1 := Lib.hid (below_step BW.out hb1)
  clear hb1
  go_wp2_with fail
  with_reducible refine (C2.out _).mono ?_
  rintro e w2 ⟨rfl, hb2⟩
  have RX2 := Lib.hid (RX1.out.below hb2)
  have BW2 := Lib.hid (below_step BW1.out hb2)
  clear hb2 RX RX1 BW BW1
  have HX2 := Lib.hid (rowIn_new pt0 36 w2)
  have RP := Lib.hid (HX2.out.row (D := #[.int .u8 (pk : Nat), .int .i64 (p1 : Nat), .int .i64 (p2 : Nat), .int .i64 (p3 : Nat), .string (S p4), .string (S p5)]))
  have RX3 := Lib.hid ((RX2.out.more (.cells pt0 36)).rowAbove (c := w2.heap.size) (D := #[.int .u8 (pk : Nat), .int .i64 (p1 : Nat), .int .i64 (p2 : Nat), .int .i64 (p3 : Nat), .string (S p4), .string (S p5)]) (RX2.out.lt))
  have BW3 := Lib.hid (below_setRow (g := w2.heap.size) (BW2.out.alloc BW2.out.size (.cells pt0 36)) BW2.out.size #[.int .u8 (pk : Nat), .int .i64 (p1 : Nat), .int .i64 (p2 : Nat), .int .i64 (p3 : Nat), .string (S p4), .string (S p5)])
  have m0 := RP.out.cell 0
  have m1 := RP.out.cell 1
  have m2 := RP.out.cell 2
  have m3 := RP.out.cell 3
  have m4 := RP.out.cell 4
  have m5 := RP.out.cell 5
  simp only [List.getElem?_toArray, List.getElem?_cons_zero, List.getElem?_cons_succ] at m0 m1 m2 m3 m4 m5
  go_wp2_with ((with_reducible show wpList _ _ _ _ _ _); refine wpList_store_row rfl 36 _ _ rfl w2.heap.size _ rfl rfl 36 pt0 HX2.out ?_ rfl ?_ ?_; kernel_rfl; simp [Value.oneCell'])
  generalize (w2.alloc (.cells pt0 36)).setRow w2.heap.size #[.int .u8 (pk : Nat), .int .i64 (p1 : Nat), .int .i64 (p2 : Nat), .int .i64 (p3 : Nat), .string (S p4), .string (S p5)] = W2 at *
  with_reducible refine (CF.out _).mono ?_
  rintro e w3 ⟨rfl, hb3⟩
  clear m0 m1 m2 m3 m4 m5
  have RP4 := Lib.hid (RP.out.below hb3)
  have RX4 := Lib.hid (RX3.out.below hb3)
  have BW4 := Lib.hid (below_step BW3.out hb3)
  clear hb3 HX2 RP RX3 BW3
  have m0 := RP4.out.cell 0
  have m1 := RP4.out.cell 1
  have m2 := RP4.out.cell 2
  have m3 := RP4.out.cell 3
  have m4 := RP4.out.cell 4
  have m5 := RP4.out.cell 5
  simp only [List.getElem?_toArray, List.getElem?_cons_zero, List.getElem?_cons_succ] at m0 m1 m2 m3 m4 m5
  obtain ⟨x0, x1, x2, x3, x4, x5, x6, x7⟩ := span_cells RX4.out
  go_wp2_with fail
  clear m0 m1 m2 m3 m4 m5
  with_reducible refine (C3.out _).mono ?_
  rintro e w5 ⟨rfl, hb5⟩
  clear x0 x1 x2 x3 x4 x5 x6 x7
  have RX5 := Lib.hid (RX4.out.below hb5)
  have BW5 := Lib.hid (below_step BW4.out hb5)
  clear hb5
  go_wp2_with fail
  with_reducible refine (does8 _).mono ?_
  rintro e w6 ⟨rfl, hb6⟩
  go_wp2_with fail
  go_ret
  exact ⟨rfl, below_step BW5.out hb6⟩

set_option maxHeartbeats 4000000 in
set_option maxRecDepth 100000 in
theorem keysBack_xf (x : M.Sp) (l : List UInt8) (hl : l.length ≤ 500) (hx : x.fits) (h1 : M.great8 x = false) (h2 : M.mayB x = false) (p : M.Pt) (hp : M.parse l = some p) (hk : p.kind = 120) (h3 : M.idB p.trace = true) (h4 : M.idB p.id = true) (h6 : p.start ≤ 1073741824) (h7 : M.nameB p.svc = true) (h8 : M.nameB p.host = true) (h5 : l = M.indexK p.svc p.host p.start p.trace p.id) (w : World) :
    Calls Try.prog 6 #[.agg (spA x), .string (S l)] w fun e w' => e = .returned (.bool true) ∧ Below w.heap.size w w' := by
  have d1 : decide (500 < (l.length : Int)) = false := by simp; omega
  have c1 := fun W => great8_any x W
  rw [h1] at c1
  have C1 := Lib.hid c1
  clear c1
  have c2 := fun W => parse_any l (by omega) W
  have c3 := fun W => check_any x hx W
  rw [h2] at c3
  simp only [M.errOf] at c3
  have C3 := Lib.hid c3
  clear c3
  have cf := fun W => of_any (p.trace : Int) (p.id : Int) W
  have v3 := M.idB_true.1 h3
  have v4 := M.idB_true.1 h4
  have s7 := (M.nameB_len h7).2
  have s8 := (M.nameB_len h8).2
  have hm : M.mayB ⟨(p.trace : Int), (p.id : Int), 0, p.svc, p.host, (p.start : Int), 0, []⟩ = true := M.mayB_all (M.win_true.2 v3) (M.win_true.2 v4) (M.win_true.2 (by simp)) h7 h8 (M.win_true.2 (by simp; omega)) (M.win_true.2 (by simp)) (by simp)
  have ci : ∀ W, Calls Try.prog 12 #[.agg #[.int .i64 (p.trace : Int), .int .i64 (p.id : Int), .int .i64 0, .string (S p.svc), .string (S p.host), .int .i64 (p.start : Int), .int .i64 0, .string ⟨#[]⟩]] W fun e w' => e = .returned (.tuple #[.string (S l), .int .i64 0]) ∧ Below W.heap.size W w' := fun W => by
    have := index_any ⟨(p.trace : Int), (p.id : Int), 0, p.svc, p.host, (p.start : Int), 0, []⟩ (by constructor <;> simp <;> omega) W
    rw [M.idxK, if_pos hm, hm] at this
    simp only [Int.toNat_natCast, ← h5, M.errOf, if_true] at this
    exact this
  have CI := Lib.hid ci
  generalize M.ofK (p.trace : Int) (p.id : Int) = s0 at *
  generalize M.errOf (M.okOf (p.trace : Int) (p.id : Int)) = n0 at *
  have CF := Lib.hid cf
  clear cf ci hm v3 v4 s7 s8
  rw [hp] at c2
  have c2' : ∀ W, Calls Try.prog 19 #[.string (S l)] W fun e w' => e = .returned (.tuple #[.agg #[.int .u8 (p.kind : Nat), .int .i64 (p.trace : Nat), .int .i64 (p.id : Nat), .int .i64 (p.start : Nat), .string (S p.svc), .string (S p.host)], .bool true]) ∧ Below W.heap.size W w' := c2
  have C2 := Lib.hid c2'
  clear c2 c2'
  have q0 : (((p.kind : Nat) : Int) == 120) = true := by rw [hk]; rfl
  clear hp hk h3 h4 h5 h6 h7 h8
  generalize p.kind = pk at *
  generalize p.trace = p1 at *
  generalize p.id = p2 at *
  generalize p.start = p3 at *
  generalize p.svc = p4 at *
  generalize p.host = p5 at *
  have RX := Lib.hid (rowIn_new (spA x) 23 w)
  have BW := Lib.hid ((Below.refl w.heap.size w).alloc (Nat.le_refl _) (.cells (spA x) 23))
  obtain ⟨x0, x1, x2, x3, x4, x5, x6, x7⟩ := span_cells RX.out
  go_enter Try.func6, Try.ntmps6
  go_wp2_with fail
  with_reducible refine (C1.out _).mono ?_
  rintro e w1 ⟨rfl, hb1⟩
  clear x0 x1 x2 x3 x4 x5 x6 x7
  have RX1 := Lib.hid (RX.out.below hb1)
  have BW1 := Lib.hid (below_step BW.out hb1)
  clear hb1
  go_wp2_with fail
  with_reducible refine (C2.out _).mono ?_
  rintro e w2 ⟨rfl, hb2⟩
  have RX2 := Lib.hid (RX1.out.below hb2)
  have BW2 := Lib.hid (below_step BW1.out hb2)
  clear hb2 RX RX1 BW BW1
  have HX2 := Lib.hid (rowIn_new pt0 36 w2)
  have RP := Lib.hid (HX2.out.row (D := #[.int .u8 (pk : Nat), .int .i64 (p1 : Nat), .int .i64 (p2 : Nat), .int .i64 (p3 : Nat), .string (S p4), .string (S p5)]))
  have RX3 := Lib.hid ((RX2.out.more (.cells pt0 36)).rowAbove (c := w2.heap.size) (D := #[.int .u8 (pk : Nat), .int .i64 (p1 : Nat), .int .i64 (p2 : Nat), .int .i64 (p3 : Nat), .string (S p4), .string (S p5)]) (RX2.out.lt))
  have BW3 := Lib.hid (below_setRow (g := w2.heap.size) (BW2.out.alloc BW2.out.size (.cells pt0 36)) BW2.out.size #[.int .u8 (pk : Nat), .int .i64 (p1 : Nat), .int .i64 (p2 : Nat), .int .i64 (p3 : Nat), .string (S p4), .string (S p5)])
  have m0 := RP.out.cell 0
  have m1 := RP.out.cell 1
  have m2 := RP.out.cell 2
  have m3 := RP.out.cell 3
  have m4 := RP.out.cell 4
  have m5 := RP.out.cell 5
  simp only [List.getElem?_toArray, List.getElem?_cons_zero, List.getElem?_cons_succ] at m0 m1 m2 m3 m4 m5
  go_wp2_with ((with_reducible show wpList _ _ _ _ _ _); refine wpList_store_row rfl 36 _ _ rfl w2.heap.size _ rfl rfl 36 pt0 HX2.out ?_ rfl ?_ ?_; kernel_rfl; simp [Value.oneCell'])
  generalize (w2.alloc (.cells pt0 36)).setRow w2.heap.size #[.int .u8 (pk : Nat), .int .i64 (p1 : Nat), .int .i64 (p2 : Nat), .int .i64 (p3 : Nat), .string (S p4), .string (S p5)] = W2 at *
  with_reducible refine (CF.out _).mono ?_
  rintro e w3 ⟨rfl, hb3⟩
  clear m0 m1 m2 m3 m4 m5
  have RP4 := Lib.hid (RP.out.below hb3)
  have RX4 := Lib.hid (RX3.out.below hb3)
  have BW4 := Lib.hid (below_step BW3.out hb3)
  clear hb3 HX2 RP RX3 BW3
  have m0 := RP4.out.cell 0
  have m1 := RP4.out.cell 1
  have m2 := RP4.out.cell 2
  have m3 := RP4.out.cell 3
  have m4 := RP4.out.cell 4
  have m5 := RP4.out.cell 5
  simp only [List.getElem?_toArray, List.getElem?_cons_zero, List.getElem?_cons_succ] at m0 m1 m2 m3 m4 m5
  go_wp2_with fail
  with_reducible refine (CI.out _).mono ?_
  rintro e w4 ⟨rfl, hb4⟩
  clear m0 m1 m2 m3 m4 m5
  have RX44 := Lib.hid (RX4.out.below hb4)
  have BW44 := Lib.hid (below_step BW4.out hb4)
  clear hb4
  obtain ⟨x0, x1, x2, x3, x4, x5, x6, x7⟩ := span_cells RX44.out
  go_wp2_with fail
  with_reducible refine (C3.out _).mono ?_
  rintro e w5 ⟨rfl, hb5⟩
  clear x0 x1 x2 x3 x4 x5 x6 x7
  have RX5 := Lib.hid (RX44.out.below hb5)
  have BW5 := Lib.hid (below_step BW44.out hb5)
  clear hb5
  go_wp2_with fail
  with_reducible refine (does8 _).mono ?_
  rintro e w6 ⟨rfl, hb6⟩
  go_wp2_with fail
  go_ret
  exact ⟨rfl, below_step BW5.out hb6⟩

set_option maxHeartbeats 4000000 in
set_option maxRecDepth 100000 in
theorem keysBack_nt (x : M.Sp) (l : List UInt8) (hl : l.length ≤ 500) (hx : x.fits) (h1 : M.great8 x = false) (h2 : M.mayB x = true) (hp : M.parse l = none) (w : World) :
    Calls Try.prog 6 #[.agg (spA x), .string (S l)] w fun e w' => e = .returned (.bool true) ∧ Below w.heap.size w w' := by
  have d1 : decide (500 < (l.length : Int)) = false := by simp; omega
  have c1 := fun W => great8_any x W
  rw [h1] at c1
  have C1 := Lib.hid c1
  clear c1
  have c2 := fun W => parse_any l (by omega) W
  have c3 := fun W => check_any x hx W
  rw [h2] at c3
  simp only [M.errOf] at c3
  have C3 := Lib.hid c3
  clear c3
  obtain ⟨t, i, KX⟩ := keysOfSp h2
  obtain ⟨qx1, qx2, _, qx4, qx5, qx6, _⟩ := M.mayB_parts h2
  have hl1 := (M.nameB_len qx4).2
  have hl2 := (M.nameB_len qx5).2
  have c4 := fun W => of_any x.trace x.id W
  rw [KX.of_, KX.ok] at c4
  have c5 := fun W => index_any x hx W
  have ex : M.idxK x = M.indexK x.svc x.host x.start.toNat t i := by rw [M.idxK, if_pos h2, KX.ht, KX.hi]; rfl
  rw [ex, h2] at c5
  have c6 : ∀ W, Calls Try.prog 19 #[.string (S (M.spanK t i))] W fun e w' => e = .returned (.tuple #[.agg #[.int .u8 115, .int .i64 x.trace, .int .i64 x.id, .int .i64 0, .string (S []), .string (S [])], .bool true]) ∧ Below W.heap.size W w' := fun W => by
    have := parse_any (M.spanK t i) (by simp [M.spanK, M.bigN_length]) W
    rw [M.parse_span t i KX.okt KX.oki] at this
    rw [KX.ht, KX.hi]
    exact this
  have c7 : ∀ W, Calls Try.prog 19 #[.string (S (M.indexK x.svc x.host x.start.toNat t i))] W fun e w' => e = .returned (.tuple #[.agg #[.int .u8 120, .int .i64 x.trace, .int .i64 x.id, .int .i64 x.start, .string (S x.svc), .string (S x.host)], .bool true]) ∧ Below W.heap.size W w' := fun W => by
    have := parse_any (M.indexK x.svc x.host x.start.toNat t i) (by simp [M.indexK, M.aheadK, M.bigN_length]; omega) W
    rw [M.parse_index x.svc x.host qx4 qx5 x.start.toNat t i (by omega) KX.okt KX.oki] at this
    have e3 : ((x.start.toNat : Nat) : Int) = x.start := Int.toNat_of_nonneg qx6.1
    simp only [ptR, ptC, Option.getD_some, Option.isSome_some, e3] at this
    rw [KX.ht, KX.hi]
    exact this
  have l1 : decide (((M.spanK t i).length : Int) ≤ 51) = true := by simp [M.spanK, M.bigN_length]
  have l2 : decide (((M.indexK x.svc x.host x.start.toNat t i).length : Int) ≤ 51) = true := by simp [M.indexK, M.aheadK, M.bigN_length]; omega
  simp only [M.errOf, if_true] at c4 c5
  generalize M.spanK t i = s1 at *
  generalize M.indexK x.svc x.host x.start.toNat t i = s2 at *
  have C4 := Lib.hid c4
  have C5 := Lib.hid c5
  have C6 := Lib.hid c6
  have C7 := Lib.hid c7
  clear c4 c5 c6 c7 KX qx1 qx2 qx4 qx5 qx6 ex h2
  rw [hp, ptR_none] at c2
  have C2 := Lib.hid c2
  clear c2 hp
  have RX := Lib.hid (rowIn_new (spA x) 23 w)
  have BW := Lib.hid ((Below.refl w.heap.size w).alloc (Nat.le_refl _) (.cells (spA x) 23))
  obtain ⟨x0, x1, x2, x3, x4, x5, x6, x7⟩ := span_cells RX.out
  go_enter Try.func6, Try.ntmps6
  go_wp2_with fail
  with_reducible refine (C1.out _).mono ?_
  rintro e w1 ⟨rfl, hb1⟩
  clear x0 x1 x2 x3 x4 x5 x6 x7
  have RX1 := Lib.hid (RX.out.below hb1)
  have BW1 := Lib.hid (below_step BW.out hb1)
  clear hb1
  go_wp2_with fail
  with_reducible refine (C2.out _).mono ?_
  rintro e w2 ⟨rfl, hb2⟩
  have RX2 := Lib.hid (RX1.out.below hb2)
  have BW2 := Lib.hid (below_step BW1.out hb2)
  clear hb2 RX RX1 BW BW1
  have HX2 := Lib.hid (rowIn_new pt0 36 w2)
  have RP := Lib.hid (HX2.out.row (D := pt0))
  have RX3 := Lib.hid ((RX2.out.more (.cells pt0 36)).rowAbove (c := w2.heap.size) (D := pt0) (RX2.out.lt))
  have BW3 := Lib.hid (below_setRow (g := w2.heap.size) (BW2.out.alloc BW2.out.size (.cells pt0 36)) BW2.out.size pt0)
  obtain ⟨x0, x1, x2, x3, x4, x5, x6, x7⟩ := span_cells RX3.out
  go_wp2_with ((with_reducible show wpList _ _ _ _ _ _); refine wpList_store_row rfl 36 _ _ rfl w2.heap.size _ rfl rfl 36 pt0 HX2.out ?_ rfl ?_ ?_; kernel_rfl; simp [Value.oneCell'])
  with_reducible refine (C3.out _).mono ?_
  rintro e w5 ⟨rfl, hb5⟩
  clear x0 x1 x2 x3 x4 x5 x6 x7
  have RX5 := Lib.hid (RX3.out.below hb5)
  have BW5 := Lib.hid (below_step BW3.out hb5)
  clear hb5
  obtain ⟨x0, x1, x2, x3, x4, x5, x6, x7⟩ := span_cells RX5.out
  go_wp2_with fail
  with_reducible refine (C4.out _).mono ?_
  rintro e w6 ⟨rfl, hb6⟩
  clear x0 x1 x2 x3 x4 x5 x6 x7
  have RX6 := Lib.hid (RX5.out.below hb6)
  have BW6 := Lib.hid (below_step BW5.out hb6)
  clear hb6
  obtain ⟨x0, x1, x2, x3, x4, x5, x6, x7⟩ := span_cells RX6.out
  go_wp2_with fail
  with_reducible refine (C5.out _).mono ?_
  rintro e w7 ⟨rfl, hb7⟩
  clear x0 x1 x2 x3 x4 x5 x6 x7
  have RX7 := Lib.hid (RX6.out.below hb7)
  have BW7 := Lib.hid (below_step BW6.out hb7)
  clear hb7
  go_wp2_with fail
  with_reducible refine (C6.out _).mono ?_
  rintro e w8 ⟨rfl, hb8⟩
  have RX8 := Lib.hid (RX7.out.below hb8)
  have BW8 := Lib.hid (below_step BW7.out hb8)
  clear hb8
  have HX8 := Lib.hid (rowIn_new pt0 36 w8)
  have RP8 := Lib.hid (HX8.out.row (D := #[.int .u8 115, .int .i64 x.trace, .int .i64 x.id, .int .i64 0, .string (S []), .string (S [])]))
  have RX8' := Lib.hid ((RX8.out.more (.cells pt0 36)).rowAbove (c := w8.heap.size) (D := #[.int .u8 115, .int .i64 x.trace, .int .i64 x.id, .int .i64 0, .string (S []), .string (S [])]) (RX8.out.lt))
  have BW8' := Lib.hid (below_setRow (g := w8.heap.size) (BW8.out.alloc BW8.out.size (.cells pt0 36)) BW8.out.size #[.int .u8 115, .int .i64 x.trace, .int .i64 x.id, .int .i64 0, .string (S []), .string (S [])])
  obtain ⟨A8, hA8⟩ : ∃ A, A = w8.heap.size := ⟨_, rfl⟩
  go_wp2_with ((with_reducible show wpList _ _ _ _ _ _); refine wpList_store_row rfl 36 _ _ rfl w8.heap.size _ rfl rfl 36 pt0 HX8.out ?_ rfl ?_ ?_; kernel_rfl; simp [Value.oneCell'])
  generalize (w8.alloc (.cells pt0 36)).setRow w8.heap.size #[.int .u8 115, .int .i64 x.trace, .int .i64 x.id, .int .i64 0, .string (S []), .string (S [])] = W8 at *
  with_reducible refine (C7.out _).mono ?_
  rintro e w9 ⟨rfl, hb9⟩
  have RX9 := Lib.hid (RX8'.out.below hb9)
  have RP9 := Lib.hid (RP8.out.below hb9)
  have BW9 := Lib.hid (below_step BW8'.out hb9)
  clear hb9 HX8 RP8 RX8' BW8' RX8
  have HX9 := Lib.hid (rowIn_new pt0 36 w9)
  have RQ := Lib.hid (HX9.out.row (D := #[.int .u8 120, .int .i64 x.trace, .int .i64 x.id, .int .i64 x.start, .string (S x.svc), .string (S x.host)]))
  have RX10 := Lib.hid ((RX9.out.more (.cells pt0 36)).rowAbove (c := w9.heap.size) (D := #[.int .u8 120, .int .i64 x.trace, .int .i64 x.id, .int .i64 x.start, .string (S x.svc), .string (S x.host)]) (RX9.out.lt))
  have RP10 := Lib.hid ((RP9.out.more (.cells pt0 36)).rowAbove (c := w9.heap.size) (D := #[.int .u8 120, .int .i64 x.trace, .int .i64 x.id, .int .i64 x.start, .string (S x.svc), .string (S x.host)]) (RP9.out.lt))
  have BW10 := Lib.hid (below_setRow (g := w9.heap.size) (BW9.out.alloc BW9.out.size (.cells pt0 36)) BW9.out.size #[.int .u8 120, .int .i64 x.trace, .int .i64 x.id, .int .i64 x.start, .string (S x.svc), .string (S x.host)])
  obtain ⟨x0, x1, x2, x3, x4, x5, x6, x7⟩ := span_cells RX10.out
  have a0 := RP10.out.cell 0
  have a1 := RP10.out.cell 1
  have a2 := RP10.out.cell 2
  have a3 := RP10.out.cell 3
  have a4 := RP10.out.cell 4
  have a5 := RP10.out.cell 5
  have b0 := RQ.out.cell 0
  have b1 := RQ.out.cell 1
  have b2 := RQ.out.cell 2
  have b3 := RQ.out.cell 3
  have b4 := RQ.out.cell 4
  have b5 := RQ.out.cell 5
  simp only [List.getElem?_toArray, List.getElem?_cons_zero, List.getElem?_cons_succ] at a0 a1 a2 a3 a4 a5 b0 b1 b2 b3 b4 b5
  go_wp2_with ((with_reducible show wpList _ _ _ _ _ _); refine wpList_store_row rfl 36 _ _ rfl w9.heap.size _ rfl rfl 36 pt0 HX9.out ?_ rfl ?_ ?_; kernel_rfl; simp [Value.oneCell'])
  with_reducible refine (does8 _).mono ?_
  rintro e w11 ⟨rfl, hb11⟩
  go_wp2_with fail
  go_ret
  exact ⟨rfl, below_step BW10.out hb11⟩

set_option maxHeartbeats 4000000 in
set_option maxRecDepth 100000 in
theorem keysBack_st (x : M.Sp) (l : List UInt8) (hl : l.length ≤ 500) (hx : x.fits) (h1 : M.great8 x = false) (h2 : M.mayB x = true) (p : M.Pt) (hp : M.parse l = some p) (hk : p.kind = 115) (h3 : M.idB p.trace = true) (h4 : M.idB p.id = true) (h5 : l = M.spanK p.trace p.id) (w : World) :
    Calls Try.prog 6 #[.agg (spA x), .string (S l)] w fun e w' => e = .returned (.bool true) ∧ Below w.heap.size w w' := by
  have d1 : decide (500 < (l.length : Int)) = false := by simp; omega
  have c1 := fun W => great8_any x W
  rw [h1] at c1
  have C1 := Lib.hid c1
  clear c1
  have c2 := fun W => parse_any l (by omega) W
  have c3 := fun W => check_any x hx W
  rw [h2] at c3
  simp only [M.errOf] at c3
  have C3 := Lib.hid c3
  clear c3
  obtain ⟨t, i, KX⟩ := keysOfSp h2
  obtain ⟨qx1, qx2, _, qx4, qx5, qx6, _⟩ := M.mayB_parts h2
  have hl1 := (M.nameB_len qx4).2
  have hl2 := (M.nameB_len qx5).2
  have c4 := fun W => of_any x.trace x.id W
  rw [KX.of_, KX.ok] at c4
  have c5 := fun W => index_any x hx W
  have ex : M.idxK x = M.indexK x.svc x.host x.start.toNat t i := by rw [M.idxK, if_pos h2, KX.ht, KX.hi]; rfl
  rw [ex, h2] at c5
  have c6 : ∀ W, Calls Try.prog 19 #[.string (S (M.spanK t i))] W fun e w' => e = .returned (.tuple #[.agg #[.int .u8 115, .int .i64 x.trace, .int .i64 x.id, .int .i64 0, .string (S []), .string (S [])], .bool true]) ∧ Below W.heap.size W w' := fun W => by
    have := parse_any (M.spanK t i) (by simp [M.spanK, M.bigN_length]) W
    rw [M.parse_span t i KX.okt KX.oki] at this
    rw [KX.ht, KX.hi]
    exact this
  have c7 : ∀ W, Calls Try.prog 19 #[.string (S (M.indexK x.svc x.host x.start.toNat t i))] W fun e w' => e = .returned (.tuple #[.agg #[.int .u8 120, .int .i64 x.trace, .int .i64 x.id, .int .i64 x.start, .string (S x.svc), .string (S x.host)], .bool true]) ∧ Below W.heap.size W w' := fun W => by
    have := parse_any (M.indexK x.svc x.host x.start.toNat t i) (by simp [M.indexK, M.aheadK, M.bigN_length]; omega) W
    rw [M.parse_index x.svc x.host qx4 qx5 x.start.toNat t i (by omega) KX.okt KX.oki] at this
    have e3 : ((x.start.toNat : Nat) : Int) = x.start := Int.toNat_of_nonneg qx6.1
    simp only [ptR, ptC, Option.getD_some, Option.isSome_some, e3] at this
    rw [KX.ht, KX.hi]
    exact this
  have l1 : decide (((M.spanK t i).length : Int) ≤ 51) = true := by simp [M.spanK, M.bigN_length]
  have l2 : decide (((M.indexK x.svc x.host x.start.toNat t i).length : Int) ≤ 51) = true := by simp [M.indexK, M.aheadK, M.bigN_length]; omega
  simp only [M.errOf, if_true] at c4 c5
  generalize M.spanK t i = s1 at *
  generalize M.indexK x.svc x.host x.start.toNat t i = s2 at *
  have C4 := Lib.hid c4
  have C5 := Lib.hid c5
  have C6 := Lib.hid c6
  have C7 := Lib.hid c7
  clear c4 c5 c6 c7 KX qx1 qx2 qx4 qx5 qx6 ex h2
  have cf := fun W => of_any (p.trace : Int) (p.id : Int) W
  have eo : M.okOf (p.trace : Int) (p.id : Int) = true := by simp [M.okOf, h3, h4]
  rw [M.ofK, if_pos eo, eo] at cf
  simp only [Int.toNat_natCast, ← h5, M.errOf, if_true] at cf
  have CF := Lib.hid cf
  clear cf eo
  rw [hp] at c2
  have c2' : ∀ W, Calls Try.prog 19 #[.string (S l)] W fun e w' => e = .returned (.tuple #[.agg #[.int .u8 (p.kind : Nat), .int .i64 (p.trace : Nat), .int .i64 (p.id : Nat), .int .i64 (p.start : Nat), .string (S p.svc), .string (S p.host)], .bool true]) ∧ Below W.heap.size W w' := c2
  have C2 := Lib.hid c2'
  clear c2 c2'
  have q0 : (((p.kind : Nat) : Int) == 120) = false := by rw [hk]; rfl
  clear hp hk h3 h4 h5
  generalize p.kind = pk at *
  generalize p.trace = p1 at *
  generalize p.id = p2 at *
  generalize p.start = p3 at *
  generalize p.svc = p4 at *
  generalize p.host = p5 at *
  have RX := Lib.hid (rowIn_new (spA x) 23 w)
  have BW := Lib.hid ((Below.refl w.heap.size w).alloc (Nat.le_refl _) (.cells (spA x) 23))
  obtain ⟨x0, x1, x2, x3, x4, x5, x6, x7⟩ := span_cells RX.out
  go_enter Try.func6, Try.ntmps6
  go_wp2_with fail
  with_reducible refine (C1.out _).mono ?_
  rintro e w1 ⟨rfl, hb1⟩
  clear x0 x1 x2 x3 x4 x5 x6 x7
  have RX1 := Lib.hid (RX.out.below hb1)
  have BW1 := Lib.hid (below_step BW.out hb1)
  clear hb1
  go_wp2_with fail
  with_reducible refine (C2.out _).mono ?_
  rintro e w2 ⟨rfl, hb2⟩
  have RX2 := Lib.hid (RX1.out.below hb2)
  have BW2 := Lib.hid (below_step BW1.out hb2)
  clear hb2 RX RX1 BW BW1
  have HX2 := Lib.hid (rowIn_new pt0 36 w2)
  have RP := Lib.hid (HX2.out.row (D := #[.int .u8 (pk : Nat), .int .i64 (p1 : Nat), .int .i64 (p2 : Nat), .int .i64 (p3 : Nat), .string (S p4), .string (S p5)]))
  have RX3 := Lib.hid ((RX2.out.more (.cells pt0 36)).rowAbove (c := w2.heap.size) (D := #[.int .u8 (pk : Nat), .int .i64 (p1 : Nat), .int .i64 (p2 : Nat), .int .i64 (p3 : Nat), .string (S p4), .string (S p5)]) (RX2.out.lt))
  have BW3 := Lib.hid (below_setRow (g := w2.heap.size) (BW2.out.alloc BW2.out.size (.cells pt0 36)) BW2.out.size #[.int .u8 (pk : Nat), .int .i64 (p1 : Nat), .int .i64 (p2 : Nat), .int .i64 (p3 : Nat), .string (S p4), .string (S p5)])
  have m0 := RP.out.cell 0
  have m1 := RP.out.cell 1
  have m2 := RP.out.cell 2
  have m3 := RP.out.cell 3
  have m4 := RP.out.cell 4
  have m5 := RP.out.cell 5
  simp only [List.getElem?_toArray, List.getElem?_cons_zero, List.getElem?_cons_succ] at m0 m1 m2 m3 m4 m5
  go_wp2_with ((with_reducible show wpList _ _ _ _ _ _); refine wpList_store_row rfl 36 _ _ rfl w2.heap.size _ rfl rfl 36 pt0 HX2.out ?_ rfl ?_ ?_; kernel_rfl; simp [Value.oneCell'])
  generalize (w2.alloc (.cells pt0 36)).setRow w2.heap.size #[.int .u8 (pk : Nat), .int .i64 (p1 : Nat), .int .i64 (p2 : Nat), .int .i64 (p3 : Nat), .string (S p4), .string (S p5)] = W2 at *
  with_reducible refine (CF.out _).mono ?_
  rintro e w3 ⟨rfl, hb3⟩
  clear m0 m1 m2 m3 m4 m5
  have RP4 := Lib.hid (RP.out.below hb3)
  have RX4 := Lib.hid (RX3.out.below hb3)
  have BW4 := Lib.hid (below_step BW3.out hb3)
  clear hb3 HX2 RP RX3 BW3
  have m0 := RP4.out.cell 0
  have m1 := RP4.out.cell 1
  have m2 := RP4.out.cell 2
  have m3 := RP4.out.cell 3
  have m4 := RP4.out.cell 4
  have m5 := RP4.out.cell 5
  simp only [List.getElem?_toArray, List.getElem?_cons_zero, List.getElem?_cons_succ] at m0 m1 m2 m3 m4 m5
  obtain ⟨x0, x1, x2, x3, x4, x5, x6, x7⟩ := span_cells RX4.out
  go_wp2_with fail
  clear m0 m1 m2 m3 m4 m5
  with_reducible refine (C3.out _).mono ?_
  rintro e w5 ⟨rfl, hb5⟩
  clear x0 x1 x2 x3 x4 x5 x6 x7
  have RX5 := Lib.hid (RX4.out.below hb5)
  have BW5 := Lib.hid (below_step BW4.out hb5)
  clear hb5
  obtain ⟨x0, x1, x2, x3, x4, x5, x6, x7⟩ := span_cells RX5.out
  go_wp2_with fail
  with_reducible refine (C4.out _).mono ?_
  rintro e w6 ⟨rfl, hb6⟩
  clear x0 x1 x2 x3 x4 x5 x6 x7
  have RX6 := Lib.hid (RX5.out.below hb6)
  have BW6 := Lib.hid (below_step BW5.out hb6)
  clear hb6
  obtain ⟨x0, x1, x2, x3, x4, x5, x6, x7⟩ := span_cells RX6.out
  go_wp2_with fail
  with_reducible refine (C5.out _).mono ?_
  rintro e w7 ⟨rfl, hb7⟩
  clear x0 x1 x2 x3 x4 x5 x6 x7
  have RX7 := Lib.hid (RX6.out.below hb7)
  have BW7 := Lib.hid (below_step BW6.out hb7)
  clear hb7
  go_wp2_with fail
  with_reducible refine (C6.out _).mono ?_
  rintro e w8 ⟨rfl, hb8⟩
  have RX8 := Lib.hid (RX7.out.below hb8)
  have BW8 := Lib.hid (below_step BW7.out hb8)
  clear hb8
  have HX8 := Lib.hid (rowIn_new pt0 36 w8)
  have RP8 := Lib.hid (HX8.out.row (D := #[.int .u8 115, .int .i64 x.trace, .int .i64 x.id, .int .i64 0, .string (S []), .string (S [])]))
  have RX8' := Lib.hid ((RX8.out.more (.cells pt0 36)).rowAbove (c := w8.heap.size) (D := #[.int .u8 115, .int .i64 x.trace, .int .i64 x.id, .int .i64 0, .string (S []), .string (S [])]) (RX8.out.lt))
  have BW8' := Lib.hid (below_setRow (g := w8.heap.size) (BW8.out.alloc BW8.out.size (.cells pt0 36)) BW8.out.size #[.int .u8 115, .int .i64 x.trace, .int .i64 x.id, .int .i64 0, .string (S []), .string (S [])])
  obtain ⟨A8, hA8⟩ : ∃ A, A = w8.heap.size := ⟨_, rfl⟩
  go_wp2_with ((with_reducible show wpList _ _ _ _ _ _); refine wpList_store_row rfl 36 _ _ rfl w8.heap.size _ rfl rfl 36 pt0 HX8.out ?_ rfl ?_ ?_; kernel_rfl; simp [Value.oneCell'])
  generalize (w8.alloc (.cells pt0 36)).setRow w8.heap.size #[.int .u8 115, .int .i64 x.trace, .int .i64 x.id, .int .i64 0, .string (S []), .string (S [])] = W8 at *
  with_reducible refine (C7.out _).mono ?_
  rintro e w9 ⟨rfl, hb9⟩
  have RX9 := Lib.hid (RX8'.out.below hb9)
  have RP9 := Lib.hid (RP8.out.below hb9)
  have BW9 := Lib.hid (below_step BW8'.out hb9)
  clear hb9 HX8 RP8 RX8' BW8' RX8
  have HX9 := Lib.hid (rowIn_new pt0 36 w9)
  have RQ := Lib.hid (HX9.out.row (D := #[.int .u8 120, .int .i64 x.trace, .int .i64 x.id, .int .i64 x.start, .string (S x.svc), .string (S x.host)]))
  have RX10 := Lib.hid ((RX9.out.more (.cells pt0 36)).rowAbove (c := w9.heap.size) (D := #[.int .u8 120, .int .i64 x.trace, .int .i64 x.id, .int .i64 x.start, .string (S x.svc), .string (S x.host)]) (RX9.out.lt))
  have RP10 := Lib.hid ((RP9.out.more (.cells pt0 36)).rowAbove (c := w9.heap.size) (D := #[.int .u8 120, .int .i64 x.trace, .int .i64 x.id, .int .i64 x.start, .string (S x.svc), .string (S x.host)]) (RP9.out.lt))
  have BW10 := Lib.hid (below_setRow (g := w9.heap.size) (BW9.out.alloc BW9.out.size (.cells pt0 36)) BW9.out.size #[.int .u8 120, .int .i64 x.trace, .int .i64 x.id, .int .i64 x.start, .string (S x.svc), .string (S x.host)])
  obtain ⟨x0, x1, x2, x3, x4, x5, x6, x7⟩ := span_cells RX10.out
  have a0 := RP10.out.cell 0
  have a1 := RP10.out.cell 1
  have a2 := RP10.out.cell 2
  have a3 := RP10.out.cell 3
  have a4 := RP10.out.cell 4
  have a5 := RP10.out.cell 5
  have b0 := RQ.out.cell 0
  have b1 := RQ.out.cell 1
  have b2 := RQ.out.cell 2
  have b3 := RQ.out.cell 3
  have b4 := RQ.out.cell 4
  have b5 := RQ.out.cell 5
  simp only [List.getElem?_toArray, List.getElem?_cons_zero, List.getElem?_cons_succ] at a0 a1 a2 a3 a4 a5 b0 b1 b2 b3 b4 b5
  go_wp2_with ((with_reducible show wpList _ _ _ _ _ _); refine wpList_store_row rfl 36 _ _ rfl w9.heap.size _ rfl rfl 36 pt0 HX9.out ?_ rfl ?_ ?_; kernel_rfl; simp [Value.oneCell'])
  with_reducible refine (does8 _).mono ?_
  rintro e w11 ⟨rfl, hb11⟩
  go_wp2_with fail
  go_ret
  exact ⟨rfl, below_step BW10.out hb11⟩

set_option maxHeartbeats 4000000 in
set_option maxRecDepth 100000 in
theorem keysBack_xt (x : M.Sp) (l : List UInt8) (hl : l.length ≤ 500) (hx : x.fits) (h1 : M.great8 x = false) (h2 : M.mayB x = true) (p : M.Pt) (hp : M.parse l = some p) (hk : p.kind = 120) (h3 : M.idB p.trace = true) (h4 : M.idB p.id = true) (h6 : p.start ≤ 1073741824) (h7 : M.nameB p.svc = true) (h8 : M.nameB p.host = true) (h5 : l = M.indexK p.svc p.host p.start p.trace p.id) (w : World) :
    Calls Try.prog 6 #[.agg (spA x), .string (S l)] w fun e w' => e = .returned (.bool true) ∧ Below w.heap.size w w' := by
  have d1 : decide (500 < (l.length : Int)) = false := by simp; omega
  have c1 := fun W => great8_any x W
  rw [h1] at c1
  have C1 := Lib.hid c1
  clear c1
  have c2 := fun W => parse_any l (by omega) W
  have c3 := fun W => check_any x hx W
  rw [h2] at c3
  simp only [M.errOf] at c3
  have C3 := Lib.hid c3
  clear c3
  obtain ⟨t, i, KX⟩ := keysOfSp h2
  obtain ⟨qx1, qx2, _, qx4, qx5, qx6, _⟩ := M.mayB_parts h2
  have hl1 := (M.nameB_len qx4).2
  have hl2 := (M.nameB_len qx5).2
  have c4 := fun W => of_any x.trace x.id W
  rw [KX.of_, KX.ok] at c4
  have c5 := fun W => index_any x hx W
  have ex : M.idxK x = M.indexK x.svc x.host x.start.toNat t i := by rw [M.idxK, if_pos h2, KX.ht, KX.hi]; rfl
  rw [ex, h2] at c5
  have c6 : ∀ W, Calls Try.prog 19 #[.string (S (M.spanK t i))] W fun e w' => e = .returned (.tuple #[.agg #[.int .u8 115, .int .i64 x.trace, .int .i64 x.id, .int .i64 0, .string (S []), .string (S [])], .bool true]) ∧ Below W.heap.size W w' := fun W => by
    have := parse_any (M.spanK t i) (by simp [M.spanK, M.bigN_length]) W
    rw [M.parse_span t i KX.okt KX.oki] at this
    rw [KX.ht, KX.hi]
    exact this
  have c7 : ∀ W, Calls Try.prog 19 #[.string (S (M.indexK x.svc x.host x.start.toNat t i))] W fun e w' => e = .returned (.tuple #[.agg #[.int .u8 120, .int .i64 x.trace, .int .i64 x.id, .int .i64 x.start, .string (S x.svc), .string (S x.host)], .bool true]) ∧ Below W.heap.size W w' := fun W => by
    have := parse_any (M.indexK x.svc x.host x.start.toNat t i) (by simp [M.indexK, M.aheadK, M.bigN_length]; omega) W
    rw [M.parse_index x.svc x.host qx4 qx5 x.start.toNat t i (by omega) KX.okt KX.oki] at this
    have e3 : ((x.start.toNat : Nat) : Int) = x.start := Int.toNat_of_nonneg qx6.1
    simp only [ptR, ptC, Option.getD_some, Option.isSome_some, e3] at this
    rw [KX.ht, KX.hi]
    exact this
  have l1 : decide (((M.spanK t i).length : Int) ≤ 51) = true := by simp [M.spanK, M.bigN_length]
  have l2 : decide (((M.indexK x.svc x.host x.start.toNat t i).length : Int) ≤ 51) = true := by simp [M.indexK, M.aheadK, M.bigN_length]; omega
  simp only [M.errOf, if_true] at c4 c5
  generalize M.spanK t i = s1 at *
  generalize M.indexK x.svc x.host x.start.toNat t i = s2 at *
  have C4 := Lib.hid c4
  have C5 := Lib.hid c5
  have C6 := Lib.hid c6
  have C7 := Lib.hid c7
  clear c4 c5 c6 c7 KX qx1 qx2 qx4 qx5 qx6 ex h2
  have cf := fun W => of_any (p.trace : Int) (p.id : Int) W
  have v3 := M.idB_true.1 h3
  have v4 := M.idB_true.1 h4
  have s7 := (M.nameB_len h7).2
  have s8 := (M.nameB_len h8).2
  have hm : M.mayB ⟨(p.trace : Int), (p.id : Int), 0, p.svc, p.host, (p.start : Int), 0, []⟩ = true := M.mayB_all (M.win_true.2 v3) (M.win_true.2 v4) (M.win_true.2 (by simp)) h7 h8 (M.win_true.2 (by simp; omega)) (M.win_true.2 (by simp)) (by simp)
  have ci : ∀ W, Calls Try.prog 12 #[.agg #[.int .i64 (p.trace : Int), .int .i64 (p.id : Int), .int .i64 0, .string (S p.svc), .string (S p.host), .int .i64 (p.start : Int), .int .i64 0, .string ⟨#[]⟩]] W fun e w' => e = .returned (.tuple #[.string (S l), .int .i64 0]) ∧ Below W.heap.size W w' := fun W => by
    have := index_any ⟨(p.trace : Int), (p.id : Int), 0, p.svc, p.host, (p.start : Int), 0, []⟩ (by constructor <;> simp <;> omega) W
    rw [M.idxK, if_pos hm, hm] at this
    simp only [Int.toNat_natCast, ← h5, M.errOf, if_true] at this
    exact this
  have CI := Lib.hid ci
  generalize M.ofK (p.trace : Int) (p.id : Int) = s0 at *
  generalize M.errOf (M.okOf (p.trace : Int) (p.id : Int)) = n0 at *
  have CF := Lib.hid cf
  clear cf ci hm v3 v4 s7 s8
  rw [hp] at c2
  have c2' : ∀ W, Calls Try.prog 19 #[.string (S l)] W fun e w' => e = .returned (.tuple #[.agg #[.int .u8 (p.kind : Nat), .int .i64 (p.trace : Nat), .int .i64 (p.id : Nat), .int .i64 (p.start : Nat), .string (S p.svc), .string (S p.host)], .bool true]) ∧ Below W.heap.size W w' := c2
  have C2 := Lib.hid c2'
  clear c2 c2'
  have q0 : (((p.kind : Nat) : Int) == 120) = true := by rw [hk]; rfl
  clear hp hk h3 h4 h5 h6 h7 h8
  generalize p.kind = pk at *
  generalize p.trace = p1 at *
  generalize p.id = p2 at *
  generalize p.start = p3 at *
  generalize p.svc = p4 at *
  generalize p.host = p5 at *
  have RX := Lib.hid (rowIn_new (spA x) 23 w)
  have BW := Lib.hid ((Below.refl w.heap.size w).alloc (Nat.le_refl _) (.cells (spA x) 23))
  obtain ⟨x0, x1, x2, x3, x4, x5, x6, x7⟩ := span_cells RX.out
  go_enter Try.func6, Try.ntmps6
  go_wp2_with fail
  with_reducible refine (C1.out _).mono ?_
  rintro e w1 ⟨rfl, hb1⟩
  clear x0 x1 x2 x3 x4 x5 x6 x7
  have RX1 := Lib.hid (RX.out.below hb1)
  have BW1 := Lib.hid (below_step BW.out hb1)
  clear hb1
  go_wp2_with fail
  with_reducible refine (C2.out _).mono ?_
  rintro e w2 ⟨rfl, hb2⟩
  have RX2 := Lib.hid (RX1.out.below hb2)
  have BW2 := Lib.hid (below_step BW1.out hb2)
  clear hb2 RX RX1 BW BW1
  have HX2 := Lib.hid (rowIn_new pt0 36 w2)
  have RP := Lib.hid (HX2.out.row (D := #[.int .u8 (pk : Nat), .int .i64 (p1 : Nat), .int .i64 (p2 : Nat), .int .i64 (p3 : Nat), .string (S p4), .string (S p5)]))
  have RX3 := Lib.hid ((RX2.out.more (.cells pt0 36)).rowAbove (c := w2.heap.size) (D := #[.int .u8 (pk : Nat), .int .i64 (p1 : Nat), .int .i64 (p2 : Nat), .int .i64 (p3 : Nat), .string (S p4), .string (S p5)]) (RX2.out.lt))
  have BW3 := Lib.hid (below_setRow (g := w2.heap.size) (BW2.out.alloc BW2.out.size (.cells pt0 36)) BW2.out.size #[.int .u8 (pk : Nat), .int .i64 (p1 : Nat), .int .i64 (p2 : Nat), .int .i64 (p3 : Nat), .string (S p4), .string (S p5)])
  have m0 := RP.out.cell 0
  have m1 := RP.out.cell 1
  have m2 := RP.out.cell 2
  have m3 := RP.out.cell 3
  have m4 := RP.out.cell 4
  have m5 := RP.out.cell 5
  simp only [List.getElem?_toArray, List.getElem?_cons_zero, List.getElem?_cons_succ] at m0 m1 m2 m3 m4 m5
  go_wp2_with ((with_reducible show wpList _ _ _ _ _ _); refine wpList_store_row rfl 36 _ _ rfl w2.heap.size _ rfl rfl 36 pt0 HX2.out ?_ rfl ?_ ?_; kernel_rfl; simp [Value.oneCell'])
  generalize (w2.alloc (.cells pt0 36)).setRow w2.heap.size #[.int .u8 (pk : Nat), .int .i64 (p1 : Nat), .int .i64 (p2 : Nat), .int .i64 (p3 : Nat), .string (S p4), .string (S p5)] = W2 at *
  with_reducible refine (CF.out _).mono ?_
  rintro e w3 ⟨rfl, hb3⟩
  clear m0 m1 m2 m3 m4 m5
  have RP4 := Lib.hid (RP.out.below hb3)
  have RX4 := Lib.hid (RX3.out.below hb3)
  have BW4 := Lib.hid (below_step BW3.out hb3)
  clear hb3 HX2 RP RX3 BW3
  have m0 := RP4.out.cell 0
  have m1 := RP4.out.cell 1
  have m2 := RP4.out.cell 2
  have m3 := RP4.out.cell 3
  have m4 := RP4.out.cell 4
  have m5 := RP4.out.cell 5
  simp only [List.getElem?_toArray, List.getElem?_cons_zero, List.getElem?_cons_succ] at m0 m1 m2 m3 m4 m5
  go_wp2_with fail
  with_reducible refine (CI.out _).mono ?_
  rintro e w4 ⟨rfl, hb4⟩
  clear m0 m1 m2 m3 m4 m5
  have RX44 := Lib.hid (RX4.out.below hb4)
  have BW44 := Lib.hid (below_step BW4.out hb4)
  clear hb4
  obtain ⟨x0, x1, x2, x3, x4, x5, x6, x7⟩ := span_cells RX44.out
  go_wp2_with fail
  with_reducible refine (C3.out _).mono ?_
  rintro e w5 ⟨rfl, hb5⟩
  clear x0 x1 x2 x3 x4 x5 x6 x7
  have RX5 := Lib.hid (RX44.out.below hb5)
  have BW5 := Lib.hid (below_step BW44.out hb5)
  clear hb5
  obtain ⟨x0, x1, x2, x3, x4, x5, x6, x7⟩ := span_cells RX5.out
  go_wp2_with fail
  with_reducible refine (C4.out _).mono ?_
  rintro e w6 ⟨rfl, hb6⟩
  clear x0 x1 x2 x3 x4 x5 x6 x7
  have RX6 := Lib.hid (RX5.out.below hb6)
  have BW6 := Lib.hid (below_step BW5.out hb6)
  clear hb6
  obtain ⟨x0, x1, x2, x3, x4, x5, x6, x7⟩ := span_cells RX6.out
  go_wp2_with fail
  with_reducible refine (C5.out _).mono ?_
  rintro e w7 ⟨rfl, hb7⟩
  clear x0 x1 x2 x3 x4 x5 x6 x7
  have RX7 := Lib.hid (RX6.out.below hb7)
  have BW7 := Lib.hid (below_step BW6.out hb7)
  clear hb7
  go_wp2_with fail
  with_reducible refine (C6.out _).mono ?_
  rintro e w8 ⟨rfl, hb8⟩
  have RX8 := Lib.hid (RX7.out.below hb8)
  have BW8 := Lib.hid (below_step BW7.out hb8)
  clear hb8
  have HX8 := Lib.hid (rowIn_new pt0 36 w8)
  have RP8 := Lib.hid (HX8.out.row (D := #[.int .u8 115, .int .i64 x.trace, .int .i64 x.id, .int .i64 0, .string (S []), .string (S [])]))
  have RX8' := Lib.hid ((RX8.out.more (.cells pt0 36)).rowAbove (c := w8.heap.size) (D := #[.int .u8 115, .int .i64 x.trace, .int .i64 x.id, .int .i64 0, .string (S []), .string (S [])]) (RX8.out.lt))
  have BW8' := Lib.hid (below_setRow (g := w8.heap.size) (BW8.out.alloc BW8.out.size (.cells pt0 36)) BW8.out.size #[.int .u8 115, .int .i64 x.trace, .int .i64 x.id, .int .i64 0, .string (S []), .string (S [])])
  obtain ⟨A8, hA8⟩ : ∃ A, A = w8.heap.size := ⟨_, rfl⟩
  go_wp2_with ((with_reducible show wpList _ _ _ _ _ _); refine wpList_store_row rfl 36 _ _ rfl w8.heap.size _ rfl rfl 36 pt0 HX8.out ?_ rfl ?_ ?_; kernel_rfl; simp [Value.oneCell'])
  generalize (w8.alloc (.cells pt0 36)).setRow w8.heap.size #[.int .u8 115, .int .i64 x.trace, .int .i64 x.id, .int .i64 0, .string (S []), .string (S [])] = W8 at *
  with_reducible refine (C7.out _).mono ?_
  rintro e w9 ⟨rfl, hb9⟩
  have RX9 := Lib.hid (RX8'.out.below hb9)
  have RP9 := Lib.hid (RP8.out.below hb9)
  have BW9 := Lib.hid (below_step BW8'.out hb9)
  clear hb9 HX8 RP8 RX8' BW8' RX8
  have HX9 := Lib.hid (rowIn_new pt0 36 w9)
  have RQ := Lib.hid (HX9.out.row (D := #[.int .u8 120, .int .i64 x.trace, .int .i64 x.id, .int .i64 x.start, .string (S x.svc), .string (S x.host)]))
  have RX10 := Lib.hid ((RX9.out.more (.cells pt0 36)).rowAbove (c := w9.heap.size) (D := #[.int .u8 120, .int .i64 x.trace, .int .i64 x.id, .int .i64 x.start, .string (S x.svc), .string (S x.host)]) (RX9.out.lt))
  have RP10 := Lib.hid ((RP9.out.more (.cells pt0 36)).rowAbove (c := w9.heap.size) (D := #[.int .u8 120, .int .i64 x.trace, .int .i64 x.id, .int .i64 x.start, .string (S x.svc), .string (S x.host)]) (RP9.out.lt))
  have BW10 := Lib.hid (below_setRow (g := w9.heap.size) (BW9.out.alloc BW9.out.size (.cells pt0 36)) BW9.out.size #[.int .u8 120, .int .i64 x.trace, .int .i64 x.id, .int .i64 x.start, .string (S x.svc), .string (S x.host)])
  obtain ⟨x0, x1, x2, x3, x4, x5, x6, x7⟩ := span_cells RX10.out
  have a0 := RP10.out.cell 0
  have a1 := RP10.out.cell 1
  have a2 := RP10.out.cell 2
  have a3 := RP10.out.cell 3
  have a4 := RP10.out.cell 4
  have a5 := RP10.out.cell 5
  have b0 := RQ.out.cell 0
  have b1 := RQ.out.cell 1
  have b2 := RQ.out.cell 2
  have b3 := RQ.out.cell 3
  have b4 := RQ.out.cell 4
  have b5 := RQ.out.cell 5
  simp only [List.getElem?_toArray, List.getElem?_cons_zero, List.getElem?_cons_succ] at a0 a1 a2 a3 a4 a5 b0 b1 b2 b3 b4 b5
  go_wp2_with ((with_reducible show wpList _ _ _ _ _ _); refine wpList_store_row rfl 36 _ _ rfl w9.heap.size _ rfl rfl 36 pt0 HX9.out ?_ rfl ?_ ?_; kernel_rfl; simp [Value.oneCell'])
  with_reducible refine (does8 _).mono ?_
  rintro e w11 ⟨rfl, hb11⟩
  go_wp2_with fail
  go_ret
  exact ⟨rfl, below_step BW10.out hb11⟩

theorem keysBack_calls (u : Value) (hu : USp u) (l : List UInt8) (hl : l.length ≤ 140737488351232) (w : World) :
    Calls Try.prog 6 #[u, .string (S l)] w fun e w' => e = .returned (.bool true) ∧ Below w.heap.size w w' := by
  obtain ⟨x, rfl, hi⟩ := hu
  cases h1 : M.great8 x with
  | true => exact keysBack_g x l h1 w
  | false =>
    have a := M.great8_no h1
    have hx := hi.fits (by omega) (by omega) (by omega)
    by_cases hl5 : 500 < l.length
    · exact keysBack_l x l h1 hl5 w
    · have hl6 : l.length ≤ 500 := by omega
      cases hp : M.parse l with
      | none =>
        cases h2 : M.mayB x with
        | false => exact keysBack_nf x l hl6 hx h1 h2 hp w
        | true => exact keysBack_nt x l hl6 hx h1 h2 hp w
      | some p =>
        obtain ⟨h3, h4, ⟨hk, h5, _⟩ | ⟨hk, h6, h7, h8, h5⟩⟩ := M.parse_some hp
        · cases h2 : M.mayB x with
          | false => exact keysBack_sf x l hl6 hx h1 h2 p hp hk h3 h4 h5 w
          | true => exact keysBack_st x l hl6 hx h1 h2 p hp hk h3 h4 h5 w
        · cases h2 : M.mayB x with
          | false => exact keysBack_xf x l hl6 hx h1 h2 p hp hk h3 h4 h6 h7 h8 h5 w
          | true => exact keysBack_xt x l hl6 hx h1 h2 p hp hk h3 h4 h6 h7 h8 h5 w

end Go.Proofs.Ytadkkandfgfboaa
