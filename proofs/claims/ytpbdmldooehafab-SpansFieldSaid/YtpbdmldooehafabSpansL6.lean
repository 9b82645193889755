/- Layer 3: the laws' walks: SpansField. -/
import Derived.Test.YtpbdmldooehafabSpansL2
namespace Go.Proofs.Ytpbdmldooehafab
set_option linter.unusedVariables false
open Go Go.RowKit
attribute [local go_sem ↓] run_index_S
attribute [local go_sem] S_append S_extract

theorem may_trace {x : M.Sp} (h : M.mayB x = true) (n : Int) : M.mayB { x with trace := n } = M.win n 1 2147483647 := by
  simp only [M.mayB, Bool.and_eq_true] at h
  obtain ⟨⟨⟨⟨⟨⟨⟨h1, h2⟩, h3⟩, h4⟩, h5⟩, h6⟩, h7⟩, h8⟩ := h
  simp only [M.mayB, h2, h3, h4, h5, h6, h7, h8, Bool.and_true]
theorem fit_trace {x : M.Sp} (h : x.fits) {n : Int} (hn : -9223372036854775808 ≤ n ∧ n ≤ 9223372036854775807) : M.Sp.fits { x with trace := n } := { h with t1 := hn.1, t2 := hn.2 }
theorem may_id {x : M.Sp} (h : M.mayB x = true) (n : Int) : M.mayB { x with id := n } = M.win n 1 2147483647 := by
  simp only [M.mayB, Bool.and_eq_true] at h
  obtain ⟨⟨⟨⟨⟨⟨⟨h1, h2⟩, h3⟩, h4⟩, h5⟩, h6⟩, h7⟩, h8⟩ := h
  simp only [M.mayB, h1, h3, h4, h5, h6, h7, h8, Bool.true_and, Bool.and_true]
theorem fit_id {x : M.Sp} (h : x.fits) {n : Int} (hn : -9223372036854775808 ≤ n ∧ n ≤ 9223372036854775807) : M.Sp.fits { x with id := n } := { h with i1 := hn.1, i2 := hn.2 }
theorem may_parent {x : M.Sp} (h : M.mayB x = true) (n : Int) : M.mayB { x with parent := n } = M.win n 0 2147483647 := by
  simp only [M.mayB, Bool.and_eq_true] at h
  obtain ⟨⟨⟨⟨⟨⟨⟨h1, h2⟩, h3⟩, h4⟩, h5⟩, h6⟩, h7⟩, h8⟩ := h
  simp only [M.mayB, h1, h2, h4, h5, h6, h7, h8, Bool.true_and, Bool.and_true]
theorem fit_parent {x : M.Sp} (h : x.fits) {n : Int} (hn : -9223372036854775808 ≤ n ∧ n ≤ 9223372036854775807) : M.Sp.fits { x with parent := n } := { h with p1 := hn.1, p2 := hn.2 }
theorem may_start {x : M.Sp} (h : M.mayB x = true) (n : Int) : M.mayB { x with start := n } = M.win n 0 1073741824 := by
  simp only [M.mayB, Bool.and_eq_true] at h
  obtain ⟨⟨⟨⟨⟨⟨⟨h1, h2⟩, h3⟩, h4⟩, h5⟩, h6⟩, h7⟩, h8⟩ := h
  simp only [M.mayB, h1, h2, h3, h4, h5, h7, h8, Bool.true_and, Bool.and_true]
theorem fit_start {x : M.Sp} (h : x.fits) {n : Int} (hn : -9223372036854775808 ≤ n ∧ n ≤ 9223372036854775807) : M.Sp.fits { x with start := n } := { h with s1 := hn.1, s2 := hn.2 }
theorem may_dur {x : M.Sp} (h : M.mayB x = true) (n : Int) : M.mayB { x with dur := n } = M.win n 0 1073741824 := by
  simp only [M.mayB, Bool.and_eq_true] at h
  obtain ⟨⟨⟨⟨⟨⟨⟨h1, h2⟩, h3⟩, h4⟩, h5⟩, h6⟩, h7⟩, h8⟩ := h
  simp only [M.mayB, h1, h2, h3, h4, h5, h6, h8, Bool.true_and, Bool.and_true]
theorem fit_dur {x : M.Sp} (h : x.fits) {n : Int} (hn : -9223372036854775808 ≤ n ∧ n ≤ 9223372036854775807) : M.Sp.fits { x with dur := n } := { h with d1 := hn.1, d2 := hn.2 }
theorem nameB_two (z : Nat) (hz : z < 256) : M.nameB [104, UInt8.ofNat z] = (decide (33 ≤ z) && decide (z ≤ 126)) := by
  have e : (UInt8.ofNat z).toNat = z := by rw [UInt8.toNat_ofNat']; exact Nat.mod_eq_of_lt (by omega)
  simp [M.nameB, M.byteOk, e]
theorem may_host {x : M.Sp} (h : M.mayB x = true) (l : List UInt8) : M.mayB { x with host := l } = M.nameB l := by
  simp only [M.mayB, Bool.and_eq_true] at h
  obtain ⟨⟨⟨⟨⟨⟨⟨h1, h2⟩, h3⟩, h4⟩, h5⟩, h6⟩, h7⟩, h8⟩ := h
  simp only [M.mayB, h1, h2, h3, h4, h6, h7, h8, Bool.true_and, Bool.and_true]
theorem fit_host {x : M.Sp} (h : x.fits) (l : List UInt8) (hl : l.length ≤ 1000) : M.Sp.fits { x with host := l } := { h with l2 := by show l.length ≤ _; omega }

set_option maxHeartbeats 2000000 in
set_option maxRecDepth 100000 in
theorem field_trace (x : M.Sp) (m : Nat) (n : Int) (w : World) (hx : x.fits) (hn : -9223372036854775808 ≤ n ∧ n ≤ 9223372036854775807) (hg : M.greatB x = false) (hm : M.mayB x = true) (hm2 : m < 256) (hr : m % 6 = 0) :
    Calls Try.prog 11 #[.agg #[.int .i64 x.trace, .int .i64 x.id, .int .i64 x.parent, .string (S x.svc), .string (S x.host), .int .i64 x.start, .int .i64 x.dur, .string (S x.note)], .int .u8 m, .int .i64 n] w fun e w' => e = .returned (.bool true) ∧ Below w.heap.size w w' := by
  have c2 : ∀ W, Calls Try.prog 19 #[.agg #[.int .i64 n, .int .i64 x.id, .int .i64 x.parent, .string (S x.svc), .string (S x.host), .int .i64 x.start, .int .i64 x.dur, .string (S x.note)]] W fun e w' => e = .returned (.int .i64 (M.errOf (M.win n 1 2147483647))) ∧ Below W.heap.size W w' := fun W => by
    have := check_any { x with trace := n } (fit_trace hx hn) W
    rw [may_trace hm n] at this
    exact this
  have cg := fun W => great_any x W
  rw [hg] at cg
  have CG := Lib.hid cg
  have c1 := fun W => check_any x hx W
  rw [hm] at c1
  have C1 := Lib.hid c1
  clear cg hg c1
  have RX := Lib.hid (rowIn_new #[.int .i64 x.trace, .int .i64 x.id, .int .i64 x.parent, .string (S x.svc), .string (S x.host), .int .i64 x.start, .int .i64 x.dur, .string (S x.note)] 30 w)
  have BW := Lib.hid ((Below.refl w.heap.size w).alloc (Nat.le_refl _) (.cells #[.int .i64 x.trace, .int .i64 x.id, .int .i64 x.parent, .string (S x.svc), .string (S x.host), .int .i64 x.start, .int .i64 x.dur, .string (S x.note)] 30))
  go_enter Try.func11, Try.ntmps11
  go_wp2_with fail
  with_reducible refine (CG.out _).mono ?_
  rintro e w1 ⟨rfl, hb1⟩
  have RX1 := Lib.hid (RX.out.below hb1)
  have BW1 := Lib.hid (below_step BW.out hb1)
  clear hb1
  obtain ⟨x0, x1, x2, x3, x4, x5, x6, x7⟩ := span_cells RX1.out
  go_wp2_with fail
  with_reducible refine (C1.out _).mono ?_
  rintro e w2 ⟨rfl, hb2⟩
  clear x0 x1 x2 x3 x4 x5 x6 x7
  have RX2 := Lib.hid (RX1.out.below hb2)
  have BW2 := Lib.hid (below_step BW1.out hb2)
  clear hb2
  simp only [M.errOf]
  obtain ⟨x0, x1, x2, x3, x4, x5, x6, x7⟩ := span_cells RX2.out
  have hfr := RX2.out.free 0
  go_wp2_with fail
  clear x0 x1 x2 x3 x4 x5 x6 x7
  clear hfr
  by_cases h1 : n < 1
  · have hw : M.win n 1 2147483647 = false := M.win_false.2 (by omega)
    have d1 : decide (1 ≤ n) = false := by simp; omega
    rw [hw] at c2
    have C2 := Lib.hid c2
    clear c2 hw
    simp only [M.errOf] at C2
    with_reducible refine (C2.out _).mono ?_
    rintro e w3 ⟨rfl, hb3⟩
    have BW3 := Lib.hid (below_step (BW2.out.setCell (p := ⟨w.heap.size, 0, none⟩) (Nat.le_refl w.heap.size) (.int .i64 n)) hb3)
    clear hb3
    go_wp2_with fail
    with_reducible refine (does3 _).mono ?_
    rintro e w4 ⟨rfl, hb4⟩
    go_wp2_with fail
    go_ret
    exact ⟨rfl, below_step BW3.out hb4⟩
  · have d1 : decide (1 ≤ n) = true := by simp; omega
    by_cases h2 : 2147483647 < n
    · have hw : M.win n 1 2147483647 = false := M.win_false.2 (by omega)
      have d2 : decide (n ≤ 2147483647) = false := by simp; omega
      rw [hw] at c2
      have C2 := Lib.hid c2
      clear c2 hw
      simp only [M.errOf] at C2
      with_reducible refine (C2.out _).mono ?_
      rintro e w3 ⟨rfl, hb3⟩
      have BW3 := Lib.hid (below_step (BW2.out.setCell (p := ⟨w.heap.size, 0, none⟩) (Nat.le_refl w.heap.size) (.int .i64 n)) hb3)
      clear hb3
      go_wp2_with fail
      with_reducible refine (does3 _).mono ?_
      rintro e w4 ⟨rfl, hb4⟩
      go_wp2_with fail
      go_ret
      exact ⟨rfl, below_step BW3.out hb4⟩
    · have hw : M.win n 1 2147483647 = true := M.win_true.2 (by omega)
      have d2 : decide (n ≤ 2147483647) = true := by simp; omega
      rw [hw] at c2
      have C2 := Lib.hid c2
      clear c2 hw
      simp only [M.errOf] at C2
      with_reducible refine (C2.out _).mono ?_
      rintro e w3 ⟨rfl, hb3⟩
      have BW3 := Lib.hid (below_step (BW2.out.setCell (p := ⟨w.heap.size, 0, none⟩) (Nat.le_refl w.heap.size) (.int .i64 n)) hb3)
      clear hb3
      go_wp2_with fail
      with_reducible refine (does3 _).mono ?_
      rintro e w4 ⟨rfl, hb4⟩
      go_wp2_with fail
      go_ret
      exact ⟨rfl, below_step BW3.out hb4⟩

set_option maxHeartbeats 2000000 in
set_option maxRecDepth 100000 in
theorem field_id (x : M.Sp) (m : Nat) (n : Int) (w : World) (hx : x.fits) (hn : -9223372036854775808 ≤ n ∧ n ≤ 9223372036854775807) (hg : M.greatB x = false) (hm : M.mayB x = true) (hm2 : m < 256) (hr : m % 6 = 1) :
    Calls Try.prog 11 #[.agg #[.int .i64 x.trace, .int .i64 x.id, .int .i64 x.parent, .string (S x.svc), .string (S x.host), .int .i64 x.start, .int .i64 x.dur, .string (S x.note)], .int .u8 m, .int .i64 n] w fun e w' => e = .returned (.bool true) ∧ Below w.heap.size w w' := by
  have c2 : ∀ W, Calls Try.prog 19 #[.agg #[.int .i64 x.trace, .int .i64 n, .int .i64 x.parent, .string (S x.svc), .string (S x.host), .int .i64 x.start, .int .i64 x.dur, .string (S x.note)]] W fun e w' => e = .returned (.int .i64 (M.errOf (M.win n 1 2147483647))) ∧ Below W.heap.size W w' := fun W => by
    have := check_any { x with id := n } (fit_id hx hn) W
    rw [may_id hm n] at this
    exact this
  have cg := fun W => great_any x W
  rw [hg] at cg
  have CG := Lib.hid cg
  have c1 := fun W => check_any x hx W
  rw [hm] at c1
  have C1 := Lib.hid c1
  clear cg hg c1
  have RX := Lib.hid (rowIn_new #[.int .i64 x.trace, .int .i64 x.id, .int .i64 x.parent, .string (S x.svc), .string (S x.host), .int .i64 x.start, .int .i64 x.dur, .string (S x.note)] 30 w)
  have BW := Lib.hid ((Below.refl w.heap.size w).alloc (Nat.le_refl _) (.cells #[.int .i64 x.trace, .int .i64 x.id, .int .i64 x.parent, .string (S x.svc), .string (S x.host), .int .i64 x.start, .int .i64 x.dur, .string (S x.note)] 30))
  go_enter Try.func11, Try.ntmps11
  go_wp2_with fail
  with_reducible refine (CG.out _).mono ?_
  rintro e w1 ⟨rfl, hb1⟩
  have RX1 := Lib.hid (RX.out.below hb1)
  have BW1 := Lib.hid (below_step BW.out hb1)
  clear hb1
  obtain ⟨x0, x1, x2, x3, x4, x5, x6, x7⟩ := span_cells RX1.out
  go_wp2_with fail
  with_reducible refine (C1.out _).mono ?_
  rintro e w2 ⟨rfl, hb2⟩
  clear x0 x1 x2 x3 x4 x5 x6 x7
  have RX2 := Lib.hid (RX1.out.below hb2)
  have BW2 := Lib.hid (below_step BW1.out hb2)
  clear hb2
  simp only [M.errOf]
  obtain ⟨x0, x1, x2, x3, x4, x5, x6, x7⟩ := span_cells RX2.out
  have hfr := RX2.out.free 1
  go_wp2_with fail
  clear x0 x1 x2 x3 x4 x5 x6 x7
  clear hfr
  by_cases h1 : n < 1
  · have hw : M.win n 1 2147483647 = false := M.win_false.2 (by omega)
    have d1 : decide (1 ≤ n) = false := by simp; omega
    rw [hw] at c2
    have C2 := Lib.hid c2
    clear c2 hw
    simp only [M.errOf] at C2
    with_reducible refine (C2.out _).mono ?_
    rintro e w3 ⟨rfl, hb3⟩
    have BW3 := Lib.hid (below_step (BW2.out.setCell (p := ⟨w.heap.size, 1, none⟩) (Nat.le_refl w.heap.size) (.int .i64 n)) hb3)
    clear hb3
    go_wp2_with fail
    with_reducible refine (does3 _).mono ?_
    rintro e w4 ⟨rfl, hb4⟩
    go_wp2_with fail
    go_ret
    exact ⟨rfl, below_step BW3.out hb4⟩
  · have d1 : decide (1 ≤ n) = true := by simp; omega
    by_cases h2 : 2147483647 < n
    · have hw : M.win n 1 2147483647 = false := M.win_false.2 (by omega)
      have d2 : decide (n ≤ 2147483647) = false := by simp; omega
      rw [hw] at c2
      have C2 := Lib.hid c2
      clear c2 hw
      simp only [M.errOf] at C2
      with_reducible refine (C2.out _).mono ?_
      rintro e w3 ⟨rfl, hb3⟩
      have BW3 := Lib.hid (below_step (BW2.out.setCell (p := ⟨w.heap.size, 1, none⟩) (Nat.le_refl w.heap.size) (.int .i64 n)) hb3)
      clear hb3
      go_wp2_with fail
      with_reducible refine (does3 _).mono ?_
      rintro e w4 ⟨rfl, hb4⟩
      go_wp2_with fail
      go_ret
      exact ⟨rfl, below_step BW3.out hb4⟩
    · have hw : M.win n 1 2147483647 = true := M.win_true.2 (by omega)
      have d2 : decide (n ≤ 2147483647) = true := by simp; omega
      rw [hw] at c2
      have C2 := Lib.hid c2
      clear c2 hw
      simp only [M.errOf] at C2
      with_reducible refine (C2.out _).mono ?_
      rintro e w3 ⟨rfl, hb3⟩
      have BW3 := Lib.hid (below_step (BW2.out.setCell (p := ⟨w.heap.size, 1, none⟩) (Nat.le_refl w.heap.size) (.int .i64 n)) hb3)
      clear hb3
      go_wp2_with fail
      with_reducible refine (does3 _).mono ?_
      rintro e w4 ⟨rfl, hb4⟩
      go_wp2_with fail
      go_ret
      exact ⟨rfl, below_step BW3.out hb4⟩

set_option maxHeartbeats 2000000 in
set_option maxRecDepth 100000 in
theorem field_parent (x : M.Sp) (m : Nat) (n : Int) (w : World) (hx : x.fits) (hn : -9223372036854775808 ≤ n ∧ n ≤ 9223372036854775807) (hg : M.greatB x = false) (hm : M.mayB x = true) (hm2 : m < 256) (hr : m % 6 = 2) :
    Calls Try.prog 11 #[.agg #[.int .i64 x.trace, .int .i64 x.id, .int .i64 x.parent, .string (S x.svc), .string (S x.host), .int .i64 x.start, .int .i64 x.dur, .string (S x.note)], .int .u8 m, .int .i64 n] w fun e w' => e = .returned (.bool true) ∧ Below w.heap.size w w' := by
  have c2 : ∀ W, Calls Try.prog 19 #[.agg #[.int .i64 x.trace, .int .i64 x.id, .int .i64 n, .string (S x.svc), .string (S x.host), .int .i64 x.start, .int .i64 x.dur, .string (S x.note)]] W fun e w' => e = .returned (.int .i64 (M.errOf (M.win n 0 2147483647))) ∧ Below W.heap.size W w' := fun W => by
    have := check_any { x with parent := n } (fit_parent hx hn) W
    rw [may_parent hm n] at this
    exact this
  have cg := fun W => great_any x W
  rw [hg] at cg
  have CG := Lib.hid cg
  have c1 := fun W => check_any x hx W
  rw [hm] at c1
  have C1 := Lib.hid c1
  clear cg hg c1
  have RX := Lib.hid (rowIn_new #[.int .i64 x.trace, .int .i64 x.id, .int .i64 x.parent, .string (S x.svc), .string (S x.host), .int .i64 x.start, .int .i64 x.dur, .string (S x.note)] 30 w)
  have BW := Lib.hid ((Below.refl w.heap.size w).alloc (Nat.le_refl _) (.cells #[.int .i64 x.trace, .int .i64 x.id, .int .i64 x.parent, .string (S x.svc), .string (S x.host), .int .i64 x.start, .int .i64 x.dur, .string (S x.note)] 30))
  go_enter Try.func11, Try.ntmps11
  go_wp2_with fail
  with_reducible refine (CG.out _).mono ?_
  rintro e w1 ⟨rfl, hb1⟩
  have RX1 := Lib.hid (RX.out.below hb1)
  have BW1 := Lib.hid (below_step BW.out hb1)
  clear hb1
  obtain ⟨x0, x1, x2, x3, x4, x5, x6, x7⟩ := span_cells RX1.out
  go_wp2_with fail
  with_reducible refine (C1.out _).mono ?_
  rintro e w2 ⟨rfl, hb2⟩
  clear x0 x1 x2 x3 x4 x5 x6 x7
  have RX2 := Lib.hid (RX1.out.below hb2)
  have BW2 := Lib.hid (below_step BW1.out hb2)
  clear hb2
  simp only [M.errOf]
  obtain ⟨x0, x1, x2, x3, x4, x5, x6, x7⟩ := span_cells RX2.out
  have hfr := RX2.out.free 2
  go_wp2_with fail
  clear x0 x1 x2 x3 x4 x5 x6 x7
  clear hfr
  by_cases h1 : n < 0
  · have hw : M.win n 0 2147483647 = false := M.win_false.2 (by omega)
    have d1 : decide (0 ≤ n) = false := by simp; omega
    rw [hw] at c2
    have C2 := Lib.hid c2
    clear c2 hw
    simp only [M.errOf] at C2
    with_reducible refine (C2.out _).mono ?_
    rintro e w3 ⟨rfl, hb3⟩
    have BW3 := Lib.hid (below_step (BW2.out.setCell (p := ⟨w.heap.size, 2, none⟩) (Nat.le_refl w.heap.size) (.int .i64 n)) hb3)
    clear hb3
    go_wp2_with fail
    with_reducible refine (does3 _).mono ?_
    rintro e w4 ⟨rfl, hb4⟩
    go_wp2_with fail
    go_ret
    exact ⟨rfl, below_step BW3.out hb4⟩
  · have d1 : decide (0 ≤ n) = true := by simp; omega
    by_cases h2 : 2147483647 < n
    · have hw : M.win n 0 2147483647 = false := M.win_false.2 (by omega)
      have d2 : decide (n ≤ 2147483647) = false := by simp; omega
      rw [hw] at c2
      have C2 := Lib.hid c2
      clear c2 hw
      simp only [M.errOf] at C2
      with_reducible refine (C2.out _).mono ?_
      rintro e w3 ⟨rfl, hb3⟩
      have BW3 := Lib.hid (below_step (BW2.out.setCell (p := ⟨w.heap.size, 2, none⟩) (Nat.le_refl w.heap.size) (.int .i64 n)) hb3)
      clear hb3
      go_wp2_with fail
      with_reducible refine (does3 _).mono ?_
      rintro e w4 ⟨rfl, hb4⟩
      go_wp2_with fail
      go_ret
      exact ⟨rfl, below_step BW3.out hb4⟩
    · have hw : M.win n 0 2147483647 = true := M.win_true.2 (by omega)
      have d2 : decide (n ≤ 2147483647) = true := by simp; omega
      rw [hw] at c2
      have C2 := Lib.hid c2
      clear c2 hw
      simp only [M.errOf] at C2
      with_reducible refine (C2.out _).mono ?_
      rintro e w3 ⟨rfl, hb3⟩
      have BW3 := Lib.hid (below_step (BW2.out.setCell (p := ⟨w.heap.size, 2, none⟩) (Nat.le_refl w.heap.size) (.int .i64 n)) hb3)
      clear hb3
      go_wp2_with fail
      with_reducible refine (does3 _).mono ?_
      rintro e w4 ⟨rfl, hb4⟩
      go_wp2_with fail
      go_ret
      exact ⟨rfl, below_step BW3.out hb4⟩

set_option maxHeartbeats 2000000 in
set_option maxRecDepth 100000 in
theorem field_start (x : M.Sp) (m : Nat) (n : Int) (w : World) (hx : x.fits) (hn : -9223372036854775808 ≤ n ∧ n ≤ 9223372036854775807) (hg : M.greatB x = false) (hm : M.mayB x = true) (hm2 : m < 256) (hr : m % 6 = 3) :
    Calls Try.prog 11 #[.agg #[.int .i64 x.trace, .int .i64 x.id, .int .i64 x.parent, .string (S x.svc), .string (S x.host), .int .i64 x.start, .int .i64 x.dur, .string (S x.note)], .int .u8 m, .int .i64 n] w fun e w' => e = .returned (.bool true) ∧ Below w.heap.size w w' := by
  have c2 : ∀ W, Calls Try.prog 19 #[.agg #[.int .i64 x.trace, .int .i64 x.id, .int .i64 x.parent, .string (S x.svc), .string (S x.host), .int .i64 n, .int .i64 x.dur, .string (S x.note)]] W fun e w' => e = .returned (.int .i64 (M.errOf (M.win n 0 1073741824))) ∧ Below W.heap.size W w' := fun W => by
    have := check_any { x with start := n } (fit_start hx hn) W
    rw [may_start hm n] at this
    exact this
  have cg := fun W => great_any x W
  rw [hg] at cg
  have CG := Lib.hid cg
  have c1 := fun W => check_any x hx W
  rw [hm] at c1
  have C1 := Lib.hid c1
  clear cg hg c1
  have RX := Lib.hid (rowIn_new #[.int .i64 x.trace, .int .i64 x.id, .int .i64 x.parent, .string (S x.svc), .string (S x.host), .int .i64 x.start, .int .i64 x.dur, .string (S x.note)] 30 w)
  have BW := Lib.hid ((Below.refl w.heap.size w).alloc (Nat.le_refl _) (.cells #[.int .i64 x.trace, .int .i64 x.id, .int .i64 x.parent, .string (S x.svc), .string (S x.host), .int .i64 x.start, .int .i64 x.dur, .string (S x.note)] 30))
  go_enter Try.func11, Try.ntmps11
  go_wp2_with fail
  with_reducible refine (CG.out _).mono ?_
  rintro e w1 ⟨rfl, hb1⟩
  have RX1 := Lib.hid (RX.out.below hb1)
  have BW1 := Lib.hid (below_step BW.out hb1)
  clear hb1
  obtain ⟨x0, x1, x2, x3, x4, x5, x6, x7⟩ := span_cells RX1.out
  go_wp2_with fail
  with_reducible refine (C1.out _).mono ?_
  rintro e w2 ⟨rfl, hb2⟩
  clear x0 x1 x2 x3 x4 x5 x6 x7
  have RX2 := Lib.hid (RX1.out.below hb2)
  have BW2 := Lib.hid (below_step BW1.out hb2)
  clear hb2
  simp only [M.errOf]
  obtain ⟨x0, x1, x2, x3, x4, x5, x6, x7⟩ := span_cells RX2.out
  have hfr := RX2.out.free 5
  go_wp2_with fail
  clear x0 x1 x2 x3 x4 x5 x6 x7
  clear hfr
  by_cases h1 : n < 0
  · have hw : M.win n 0 1073741824 = false := M.win_false.2 (by omega)
    have d1 : decide (0 ≤ n) = false := by simp; omega
    rw [hw] at c2
    have C2 := Lib.hid c2
    clear c2 hw
    simp only [M.errOf] at C2
    with_reducible refine (C2.out _).mono ?_
    rintro e w3 ⟨rfl, hb3⟩
    have BW3 := Lib.hid (below_step (BW2.out.setCell (p := ⟨w.heap.size, 5, none⟩) (Nat.le_refl w.heap.size) (.int .i64 n)) hb3)
    clear hb3
    go_wp2_with fail
    with_reducible refine (does3 _).mono ?_
    rintro e w4 ⟨rfl, hb4⟩
    go_wp2_with fail
    go_ret
    exact ⟨rfl, below_step BW3.out hb4⟩
  · have d1 : decide (0 ≤ n) = true := by simp; omega
    by_cases h2 : 1073741824 < n
    · have hw : M.win n 0 1073741824 = false := M.win_false.2 (by omega)
      have d2 : decide (n ≤ 1073741824) = false := by simp; omega
      rw [hw] at c2
      have C2 := Lib.hid c2
      clear c2 hw
      simp only [M.errOf] at C2
      with_reducible refine (C2.out _).mono ?_
      rintro e w3 ⟨rfl, hb3⟩
      have BW3 := Lib.hid (below_step (BW2.out.setCell (p := ⟨w.heap.size, 5, none⟩) (Nat.le_refl w.heap.size) (.int .i64 n)) hb3)
      clear hb3
      go_wp2_with fail
      with_reducible refine (does3 _).mono ?_
      rintro e w4 ⟨rfl, hb4⟩
      go_wp2_with fail
      go_ret
      exact ⟨rfl, below_step BW3.out hb4⟩
    · have hw : M.win n 0 1073741824 = true := M.win_true.2 (by omega)
      have d2 : decide (n ≤ 1073741824) = true := by simp; omega
      rw [hw] at c2
      have C2 := Lib.hid c2
      clear c2 hw
      simp only [M.errOf] at C2
      with_reducible refine (C2.out _).mono ?_
      rintro e w3 ⟨rfl, hb3⟩
      have BW3 := Lib.hid (below_step (BW2.out.setCell (p := ⟨w.heap.size, 5, none⟩) (Nat.le_refl w.heap.size) (.int .i64 n)) hb3)
      clear hb3
      go_wp2_with fail
      with_reducible refine (does3 _).mono ?_
      rintro e w4 ⟨rfl, hb4⟩
      go_wp2_with fail
      go_ret
      exact ⟨rfl, below_step BW3.out hb4⟩

set_option maxHeartbeats 2000000 in
set_option maxRecDepth 100000 in
theorem field_dur (x : M.Sp) (m : Nat) (n : Int) (w : World) (hx : x.fits) (hn : -9223372036854775808 ≤ n ∧ n ≤ 9223372036854775807) (hg : M.greatB x = false) (hm : M.mayB x = true) (hm2 : m < 256) (hr : m % 6 = 4) :
    Calls Try.prog 11 #[.agg #[.int .i64 x.trace, .int .i64 x.id, .int .i64 x.parent, .string (S x.svc), .string (S x.host), .int .i64 x.start, .int .i64 x.dur, .string (S x.note)], .int .u8 m, .int .i64 n] w fun e w' => e = .returned (.bool true) ∧ Below w.heap.size w w' := by
  have c2 : ∀ W, Calls Try.prog 19 #[.agg #[.int .i64 x.trace, .int .i64 x.id, .int .i64 x.parent, .string (S x.svc), .string (S x.host), .int .i64 x.start, .int .i64 n, .string (S x.note)]] W fun e w' => e = .returned (.int .i64 (M.errOf (M.win n 0 1073741824))) ∧ Below W.heap.size W w' := fun W => by
    have := check_any { x with dur := n } (fit_dur hx hn) W
    rw [may_dur hm n] at this
    exact this
  have cg := fun W => great_any x W
  rw [hg] at cg
  have CG := Lib.hid cg
  have c1 := fun W => check_any x hx W
  rw [hm] at c1
  have C1 := Lib.hid c1
  clear cg hg c1
  have RX := Lib.hid (rowIn_new #[.int .i64 x.trace, .int .i64 x.id, .int .i64 x.parent, .string (S x.svc), .string (S x.host), .int .i64 x.start, .int .i64 x.dur, .string (S x.note)] 30 w)
  have BW := Lib.hid ((Below.refl w.heap.size w).alloc (Nat.le_refl _) (.cells #[.int .i64 x.trace, .int .i64 x.id, .int .i64 x.parent, .string (S x.svc), .string (S x.host), .int .i64 x.start, .int .i64 x.dur, .string (S x.note)] 30))
  go_enter Try.func11, Try.ntmps11
  go_wp2_with fail
  with_reducible refine (CG.out _).mono ?_
  rintro e w1 ⟨rfl, hb1⟩
  have RX1 := Lib.hid (RX.out.below hb1)
  have BW1 := Lib.hid (below_step BW.out hb1)
  clear hb1
  obtain ⟨x0, x1, x2, x3, x4, x5, x6, x7⟩ := span_cells RX1.out
  go_wp2_with fail
  with_reducible refine (C1.out _).mono ?_
  rintro e w2 ⟨rfl, hb2⟩
  clear x0 x1 x2 x3 x4 x5 x6 x7
  have RX2 := Lib.hid (RX1.out.below hb2)
  have BW2 := Lib.hid (below_step BW1.out hb2)
  clear hb2
  simp only [M.errOf]
  obtain ⟨x0, x1, x2, x3, x4, x5, x6, x7⟩ := span_cells RX2.out
  have hfr := RX2.out.free 6
  go_wp2_with fail
  clear x0 x1 x2 x3 x4 x5 x6 x7
  clear hfr
  by_cases h1 : n < 0
  · have hw : M.win n 0 1073741824 = false := M.win_false.2 (by omega)
    have d1 : decide (0 ≤ n) = false := by simp; omega
    rw [hw] at c2
    have C2 := Lib.hid c2
    clear c2 hw
    simp only [M.errOf] at C2
    with_reducible refine (C2.out _).mono ?_
    rintro e w3 ⟨rfl, hb3⟩
    have BW3 := Lib.hid (below_step (BW2.out.setCell (p := ⟨w.heap.size, 6, none⟩) (Nat.le_refl w.heap.size) (.int .i64 n)) hb3)
    clear hb3
    go_wp2_with fail
    with_reducible refine (does3 _).mono ?_
    rintro e w4 ⟨rfl, hb4⟩
    go_wp2_with fail
    go_ret
    exact ⟨rfl, below_step BW3.out hb4⟩
  · have d1 : decide (0 ≤ n) = true := by simp; omega
    by_cases h2 : 1073741824 < n
    · have hw : M.win n 0 1073741824 = false := M.win_false.2 (by omega)
      have d2 : decide (n ≤ 1073741824) = false := by simp; omega
      rw [hw] at c2
      have C2 := Lib.hid c2
      clear c2 hw
      simp only [M.errOf] at C2
      with_reducible refine (C2.out _).mono ?_
      rintro e w3 ⟨rfl, hb3⟩
      have BW3 := Lib.hid (below_step (BW2.out.setCell (p := ⟨w.heap.size, 6, none⟩) (Nat.le_refl w.heap.size) (.int .i64 n)) hb3)
      clear hb3
      go_wp2_with fail
      with_reducible refine (does3 _).mono ?_
      rintro e w4 ⟨rfl, hb4⟩
      go_wp2_with fail
      go_ret
      exact ⟨rfl, below_step BW3.out hb4⟩
    · have hw : M.win n 0 1073741824 = true := M.win_true.2 (by omega)
      have d2 : decide (n ≤ 1073741824) = true := by simp; omega
      rw [hw] at c2
      have C2 := Lib.hid c2
      clear c2 hw
      simp only [M.errOf] at C2
      with_reducible refine (C2.out _).mono ?_
      rintro e w3 ⟨rfl, hb3⟩
      have BW3 := Lib.hid (below_step (BW2.out.setCell (p := ⟨w.heap.size, 6, none⟩) (Nat.le_refl w.heap.size) (.int .i64 n)) hb3)
      clear hb3
      go_wp2_with fail
      with_reducible refine (does3 _).mono ?_
      rintro e w4 ⟨rfl, hb4⟩
      go_wp2_with fail
      go_ret
      exact ⟨rfl, below_step BW3.out hb4⟩

set_option maxHeartbeats 2000000 in
set_option maxRecDepth 100000 in
theorem field_host (x : M.Sp) (m : Nat) (n : Int) (z : Nat) (w : World) (hx : x.fits) (hz : IntKind.u8.wrap n = (z : Int)) (hz2 : z < 256) (hg : M.greatB x = false) (hm : M.mayB x = true) (hm2 : m < 256) (hr : m % 6 = 5) :
    Calls Try.prog 11 #[.agg #[.int .i64 x.trace, .int .i64 x.id, .int .i64 x.parent, .string (S x.svc), .string (S x.host), .int .i64 x.start, .int .i64 x.dur, .string (S x.note)], .int .u8 m, .int .i64 n] w fun e w' => e = .returned (.bool true) ∧ Below w.heap.size w w' := by
  have c2 : ∀ W, Calls Try.prog 19 #[.agg #[.int .i64 x.trace, .int .i64 x.id, .int .i64 x.parent, .string (S x.svc), .string (S [104, UInt8.ofNat z]), .int .i64 x.start, .int .i64 x.dur, .string (S x.note)]] W fun e w' => e = .returned (.int .i64 (M.errOf (M.nameB [104, UInt8.ofNat z]))) ∧ Below W.heap.size W w' := fun W => by
    have := check_any { x with host := [104, UInt8.ofNat z] } (fit_host hx _ (by simp)) W
    rw [may_host hm _] at this
    exact this
  have ktwo := @run_string_two Try.prog 23 9 5 Try.underlying23 Try.underlying5 Try.underlying9
  have cg := fun W => great_any x W
  rw [hg] at cg
  have CG := Lib.hid cg
  have c1 := fun W => check_any x hx W
  rw [hm] at c1
  have C1 := Lib.hid c1
  clear cg hg c1
  have RX := Lib.hid (rowIn_new #[.int .i64 x.trace, .int .i64 x.id, .int .i64 x.parent, .string (S x.svc), .string (S x.host), .int .i64 x.start, .int .i64 x.dur, .string (S x.note)] 30 w)
  have BW := Lib.hid ((Below.refl w.heap.size w).alloc (Nat.le_refl _) (.cells #[.int .i64 x.trace, .int .i64 x.id, .int .i64 x.parent, .string (S x.svc), .string (S x.host), .int .i64 x.start, .int .i64 x.dur, .string (S x.note)] 30))
  go_enter Try.func11, Try.ntmps11
  go_wp2_with fail
  with_reducible refine (CG.out _).mono ?_
  rintro e w1 ⟨rfl, hb1⟩
  have RX1 := Lib.hid (RX.out.below hb1)
  have BW1 := Lib.hid (below_step BW.out hb1)
  clear hb1
  obtain ⟨x0, x1, x2, x3, x4, x5, x6, x7⟩ := span_cells RX1.out
  go_wp2_with fail
  with_reducible refine (C1.out _).mono ?_
  rintro e w2 ⟨rfl, hb2⟩
  clear x0 x1 x2 x3 x4 x5 x6 x7
  have RX2 := Lib.hid (RX1.out.below hb2)
  have BW2 := Lib.hid (below_step BW1.out hb2)
  clear hb2
  simp only [M.errOf]
  have RX2a := Lib.hid (RX2.out.more (.cells #[.int .u8 104, .int .u8 (z : Int)] 5))
  have BW2a := Lib.hid (BW2.out.alloc BW2.out.size (.cells #[.int .u8 104, .int .u8 (z : Int)] 5))
  obtain ⟨x0, x1, x2, x3, x4, x5, x6, x7⟩ := span_cells RX2a.out
  have hfr := RX2a.out.free 4
  go_wp2_with fail
  clear x0 x1 x2 x3 x4 x5 x6 x7 hfr
  have hw := nameB_two z hz2
  by_cases h1 : z < 33
  · rw [show M.nameB [104, UInt8.ofNat z] = false from by rw [hw]; simp; omega] at c2
    have d1 : decide (33 ≤ (z : Int)) = false := by simp; omega
    have C2 := Lib.hid c2
    clear c2 hw
    simp only [M.errOf] at C2
    with_reducible refine (C2.out _).mono ?_
    rintro e w3 ⟨rfl, hb3⟩
    have BW3 := Lib.hid (below_step (BW2a.out.setCell (p := ⟨w.heap.size, 4, none⟩) (Nat.le_refl w.heap.size) (.string (S [104, UInt8.ofNat z]))) hb3)
    clear hb3
    go_wp2_with fail
    with_reducible refine (does3 _).mono ?_
    rintro e w4 ⟨rfl, hb4⟩
    go_wp2_with fail
    go_ret
    exact ⟨rfl, below_step BW3.out hb4⟩
  · have d1 : decide (33 ≤ (z : Int)) = true := by simp; omega
    by_cases h2 : 126 < z
    · rw [show M.nameB [104, UInt8.ofNat z] = false from by rw [hw]; simp; omega] at c2
      have d2 : decide ((z : Int) ≤ 126) = false := by simp; omega
      have C2 := Lib.hid c2
      clear c2 hw
      simp only [M.errOf] at C2
      with_reducible refine (C2.out _).mono ?_
      rintro e w3 ⟨rfl, hb3⟩
      have BW3 := Lib.hid (below_step (BW2a.out.setCell (p := ⟨w.heap.size, 4, none⟩) (Nat.le_refl w.heap.size) (.string (S [104, UInt8.ofNat z]))) hb3)
      clear hb3
      go_wp2_with fail
      with_reducible refine (does3 _).mono ?_
      rintro e w4 ⟨rfl, hb4⟩
      go_wp2_with fail
      go_ret
      exact ⟨rfl, below_step BW3.out hb4⟩
    · rw [show M.nameB [104, UInt8.ofNat z] = true from by rw [hw]; simp; omega] at c2
      have d2 : decide ((z : Int) ≤ 126) = true := by simp; omega
      have C2 := Lib.hid c2
      clear c2 hw
      simp only [M.errOf] at C2
      with_reducible refine (C2.out _).mono ?_
      rintro e w3 ⟨rfl, hb3⟩
      have BW3 := Lib.hid (below_step (BW2a.out.setCell (p := ⟨w.heap.size, 4, none⟩) (Nat.le_refl w.heap.size) (.string (S [104, UInt8.ofNat z]))) hb3)
      clear hb3
      go_wp2_with fail
      with_reducible refine (does3 _).mono ?_
      rintro e w4 ⟨rfl, hb4⟩
      go_wp2_with fail
      go_ret
      exact ⟨rfl, below_step BW3.out hb4⟩

set_option maxHeartbeats 2000000 in
set_option maxRecDepth 100000 in
theorem field_great (x : M.Sp) (a : Int) (n : Int) (w : World) (hg : M.greatB x = true) :
    Calls Try.prog 11 #[.agg #[.int .i64 x.trace, .int .i64 x.id, .int .i64 x.parent, .string (S x.svc), .string (S x.host), .int .i64 x.start, .int .i64 x.dur, .string (S x.note)], .int .u8 a, .int .i64 n] w fun e w' => e = .returned (.bool true) ∧ Below w.heap.size w w' := by
  have cg := fun W => great_any x W
  rw [hg] at cg
  have CG := Lib.hid cg
  clear cg hg
  have BW := Lib.hid ((Below.refl w.heap.size w).alloc (Nat.le_refl _) (.cells #[.int .i64 x.trace, .int .i64 x.id, .int .i64 x.parent, .string (S x.svc), .string (S x.host), .int .i64 x.start, .int .i64 x.dur, .string (S x.note)] 30))
  go_enter Try.func11, Try.ntmps11
  go_wp2_with fail
  with_reducible refine (CG.out _).mono ?_
  rintro e w1 ⟨rfl, hb1⟩
  have BW1 := Lib.hid (below_step BW.out hb1)
  clear hb1
  go_wp2_with fail
  with_reducible refine (does3 _).mono ?_
  rintro e w4 ⟨rfl, hb4⟩
  go_wp2_with fail
  go_ret
  exact ⟨rfl, below_step BW1.out hb4⟩

set_option maxHeartbeats 2000000 in
set_option maxRecDepth 100000 in
theorem field_no (x : M.Sp) (a : Int) (n : Int) (w : World) (hx : x.fits) (hg : M.greatB x = false) (hm : M.mayB x = false) :
    Calls Try.prog 11 #[.agg #[.int .i64 x.trace, .int .i64 x.id, .int .i64 x.parent, .string (S x.svc), .string (S x.host), .int .i64 x.start, .int .i64 x.dur, .string (S x.note)], .int .u8 a, .int .i64 n] w fun e w' => e = .returned (.bool true) ∧ Below w.heap.size w w' := by
  have cg := fun W => great_any x W
  rw [hg] at cg
  have CG := Lib.hid cg
  have c1 := fun W => check_any x hx W
  rw [hm] at c1
  have C1 := Lib.hid c1
  clear cg hg c1
  have RX := Lib.hid (rowIn_new #[.int .i64 x.trace, .int .i64 x.id, .int .i64 x.parent, .string (S x.svc), .string (S x.host), .int .i64 x.start, .int .i64 x.dur, .string (S x.note)] 30 w)
  have BW := Lib.hid ((Below.refl w.heap.size w).alloc (Nat.le_refl _) (.cells #[.int .i64 x.trace, .int .i64 x.id, .int .i64 x.parent, .string (S x.svc), .string (S x.host), .int .i64 x.start, .int .i64 x.dur, .string (S x.note)] 30))
  go_enter Try.func11, Try.ntmps11
  go_wp2_with fail
  with_reducible refine (CG.out _).mono ?_
  rintro e w1 ⟨rfl, hb1⟩
  have RX1 := Lib.hid (RX.out.below hb1)
  have BW1 := Lib.hid (below_step BW.out hb1)
  clear hb1
  obtain ⟨x0, x1, x2, x3, x4, x5, x6, x7⟩ := span_cells RX1.out
  go_wp2_with fail
  with_reducible refine (C1.out _).mono ?_
  rintro e w2 ⟨rfl, hb2⟩
  clear x0 x1 x2 x3 x4 x5 x6 x7
  have BW2 := Lib.hid (below_step BW1.out hb2)
  clear hb2
  simp only [M.errOf]
  go_wp2_with fail
  with_reducible refine (does3 _).mono ?_
  rintro e w4 ⟨rfl, hb4⟩
  go_wp2_with fail
  go_ret
  exact ⟨rfl, below_step BW2.out hb4⟩

theorem wrap_u8 (n : Int) : ∃ z : Nat, IntKind.u8.wrap n = (z : Int) ∧ z < 256 := by
  refine ⟨(n % 256).toNat, ?_, by omega⟩
  simp only [IntKind.wrap, IntKind.signed, IntKind.bits]
  simp
  omega

theorem spansField_calls (u : Value) (hu : USp u) (a : Int) (wa : (Lit.int .u8 a).wf = true) (n : Int) (wn : (Lit.int .i64 n).wf = true) (w : World) :
    Calls Try.prog 11 #[u, .int .u8 a, .int .i64 n] w fun e w' => e = .returned (.bool true) ∧ Below w.heap.size w w' := by
  obtain ⟨x, rfl, hi⟩ := hu
  have ha := u8_range wa
  have hn := i64_range wn
  cases hg : M.greatB x with
  | true => exact field_great x a n w hg
  | false =>
    obtain ⟨g1, g2, g3⟩ := M.greatB_false hg
    have hx := hi.fits g1 g2 g3
    cases hm : M.mayB x with
    | false => exact field_no x a n w hx hg hm
    | true =>
      obtain ⟨m, rfl⟩ := Int.eq_ofNat_of_zero_le ha.1
      have hm2 : m < 256 := by omega
      obtain ⟨z, hz, hz2⟩ := wrap_u8 n
      have h6 : m % 6 = 0 ∨ m % 6 = 1 ∨ m % 6 = 2 ∨ m % 6 = 3 ∨ m % 6 = 4 ∨ m % 6 = 5 := by omega
      rcases h6 with h | h | h | h | h | h
      · exact field_trace x m n w hx hn hg hm hm2 h
      · exact field_id x m n w hx hn hg hm hm2 h
      · exact field_parent x m n w hx hn hg hm hm2 h
      · exact field_start x m n w hx hn hg hm hm2 h
      · exact field_dur x m n w hx hn hg hm hm2 h
      · exact field_host x m n z w hx hz hz2 hg hm hm2 h

end Go.Proofs.Ytpbdmldooehafab
