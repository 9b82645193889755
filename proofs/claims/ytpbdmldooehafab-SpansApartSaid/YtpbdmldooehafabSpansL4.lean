/- Layer 3: the laws' walks: SpansBack. -/
import Derived.Test.YtpbdmldooehafabSpansL2
import Derived.Test.YtpbdmldooehafabSpansM2
namespace Go.Proofs.Ytpbdmldooehafab
set_option linter.unusedVariables false
open Go Go.RowKit
attribute [local go_sem ↓] run_index_S
attribute [local go_sem] S_append S_extract

theorem dec_fits {l : List UInt8} (hl : l.length ≤ 140737488351232) {x : M.Sp} (h : M.dec l = some x) : x.fits := by
  rw [M.dec_take] at h
  cases ht : M.take l 0 with
  | none => rw [ht] at h; simp at h
  | some r =>
    obtain ⟨y, e⟩ := r
    rw [ht] at h
    simp only at h
    split at h
    · simp only [Option.some.injEq] at h
      rw [← h]; exact take_fits hl ht
    · simp at h

set_option maxHeartbeats 2000000 in
set_option maxRecDepth 100000 in
theorem back_great (x : M.Sp) (s : List UInt8) (w : World) (hg : M.greatB x = true) :
    Calls Try.prog 8 #[.agg #[.int .i64 x.trace, .int .i64 x.id, .int .i64 x.parent, .string (S x.svc), .string (S x.host), .int .i64 x.start, .int .i64 x.dur, .string (S x.note)], .string (S s)] w fun e w' => e = .returned (.bool true) ∧ Below w.heap.size w w' := by
  have cg := fun W => great_any x W
  rw [hg] at cg
  have CG := Lib.hid cg
  clear cg hg
  have RX := Lib.hid (rowIn_new #[.int .i64 x.trace, .int .i64 x.id, .int .i64 x.parent, .string (S x.svc), .string (S x.host), .int .i64 x.start, .int .i64 x.dur, .string (S x.note)] 30 w)
  have BW := Lib.hid ((Below.refl w.heap.size w).alloc (Nat.le_refl _) (.cells #[.int .i64 x.trace, .int .i64 x.id, .int .i64 x.parent, .string (S x.svc), .string (S x.host), .int .i64 x.start, .int .i64 x.dur, .string (S x.note)] 30))
  go_enter Try.func8, Try.ntmps8
  go_wp2_with fail
  with_reducible refine (CG.out _).mono ?_
  rintro e w1 ⟨rfl, hb1⟩
  go_wp2_with fail
  go_ret
  exact ⟨rfl, below_step BW.out hb1⟩

set_option maxHeartbeats 2000000 in
set_option maxRecDepth 100000 in
theorem back_long (x : M.Sp) (s : List UInt8) (w : World) (hg : M.greatB x = false) (hs : decide (2000 < (s.length : Int)) = true) :
    Calls Try.prog 8 #[.agg #[.int .i64 x.trace, .int .i64 x.id, .int .i64 x.parent, .string (S x.svc), .string (S x.host), .int .i64 x.start, .int .i64 x.dur, .string (S x.note)], .string (S s)] w fun e w' => e = .returned (.bool true) ∧ Below w.heap.size w w' := by
  have cg := fun W => great_any x W
  rw [hg] at cg
  have CG := Lib.hid cg
  clear cg hg
  have RX := Lib.hid (rowIn_new #[.int .i64 x.trace, .int .i64 x.id, .int .i64 x.parent, .string (S x.svc), .string (S x.host), .int .i64 x.start, .int .i64 x.dur, .string (S x.note)] 30 w)
  have BW := Lib.hid ((Below.refl w.heap.size w).alloc (Nat.le_refl _) (.cells #[.int .i64 x.trace, .int .i64 x.id, .int .i64 x.parent, .string (S x.svc), .string (S x.host), .int .i64 x.start, .int .i64 x.dur, .string (S x.note)] 30))
  go_enter Try.func8, Try.ntmps8
  go_wp2_with fail
  with_reducible refine (CG.out _).mono ?_
  rintro e w1 ⟨rfl, hb1⟩
  go_wp2_with fail
  go_ret
  exact ⟨rfl, below_step BW.out hb1⟩

set_option maxHeartbeats 2000000 in
set_option maxRecDepth 100000 in
theorem back_tt (x : M.Sp) (s : List UInt8) (w : World) (hx : x.fits) (hg : M.greatB x = false) (hs : decide (2000 < (s.length : Int)) = false) (hl : s.length ≤ 140737488351232) (hm : M.mayB x = true) (y : M.Sp) (hy : y.fits) (hd : M.dec s = some y) :
    Calls Try.prog 8 #[.agg #[.int .i64 x.trace, .int .i64 x.id, .int .i64 x.parent, .string (S x.svc), .string (S x.host), .int .i64 x.start, .int .i64 x.dur, .string (S x.note)], .string (S s)] w fun e w' => e = .returned (.bool true) ∧ Below w.heap.size w w' := by
  have cg := fun W => great_any x W
  rw [hg] at cg
  have CG := Lib.hid cg
  clear cg hg
  have c2 := fun W => check_any x hx W
  rw [hm] at c2
  have c5 := fun W => decode_any s hl W
  rw [hd] at c5
  simp only [spV, spC, decX, decE] at c5
  have c1 := fun W => encode_yes x hx hm W
  have hq := M.enc_len hm
  have c3 := fun W => decode_any (M.enc x) (by omega) W
  rw [M.dec_enc hx hm] at c3
  simp only [spV, spC, decX, decE] at c3
  generalize M.enc x = q at *
  have dq : decide (90 < (q.length : Int)) = false := by simp; omega
  have C3 := Lib.hid c3
  clear c3
  obtain ⟨he, hmy⟩ := M.enc_dec hd
  have c6 := fun W => encode_yes y hy hmy W
  rw [he] at c6
  have c7 := fun W => check_any y hy W
  rw [hmy] at c7
  have C6 := Lib.hid c6
  have C7 := Lib.hid c7
  clear c6 c7 he hmy
  have C1 := Lib.hid c1
  have C2 := Lib.hid c2
  have C5 := Lib.hid c5
  clear c1 c2 c5 hd hm
  have RX := Lib.hid (rowIn_new #[.int .i64 x.trace, .int .i64 x.id, .int .i64 x.parent, .string (S x.svc), .string (S x.host), .int .i64 x.start, .int .i64 x.dur, .string (S x.note)] 30 w)
  have BW := Lib.hid ((Below.refl w.heap.size w).alloc (Nat.le_refl _) (.cells #[.int .i64 x.trace, .int .i64 x.id, .int .i64 x.parent, .string (S x.svc), .string (S x.host), .int .i64 x.start, .int .i64 x.dur, .string (S x.note)] 30))
  go_enter Try.func8, Try.ntmps8
  go_wp2_with fail
  with_reducible refine (CG.out _).mono ?_
  rintro e w1 ⟨rfl, hb1⟩
  have RX_1 := Lib.hid (RX.out.below hb1)
  have BW_1 := Lib.hid (below_step BW.out hb1)
  clear hb1
  obtain ⟨x0, x1, x2, x3, x4, x5, x6, x7⟩ := span_cells RX_1.out
  go_wp2_with fail
  with_reducible refine (C1.out _).mono ?_
  rintro e w2 ⟨rfl, hb2⟩
  clear x0 x1 x2 x3 x4 x5 x6 x7
  have RX_2 := Lib.hid (RX_1.out.below hb2)
  have BW_2 := Lib.hid (below_step BW_1.out hb2)
  clear hb2
  obtain ⟨x0, x1, x2, x3, x4, x5, x6, x7⟩ := span_cells RX_2.out
  go_wp2_with fail
  with_reducible refine (C2.out _).mono ?_
  rintro e w3 ⟨rfl, hb3⟩
  clear x0 x1 x2 x3 x4 x5 x6 x7
  have RX_3 := Lib.hid (RX_2.out.below hb3)
  have BW_3 := Lib.hid (below_step BW_2.out hb3)
  clear hb3
  simp only [M.errOf]
  go_wp2_with fail
  with_reducible refine (C3.out _).mono ?_
  rintro e w4 ⟨rfl, hb4⟩
  have RXm := Lib.hid ((RX_3.out.below hb4).more (.cells #[.int .i64 x.trace, .int .i64 x.id, .int .i64 x.parent, .string (S x.svc), .string (S x.host), .int .i64 x.start, .int .i64 x.dur, .string (S x.note)] 30))
  have BWm := Lib.hid ((below_step BW_3.out hb4).alloc (below_step BW_3.out hb4).size (.cells #[.int .i64 x.trace, .int .i64 x.id, .int .i64 x.parent, .string (S x.svc), .string (S x.host), .int .i64 x.start, .int .i64 x.dur, .string (S x.note)] 30))
  clear hb4
  obtain ⟨x0, x1, x2, x3, x4, x5, x6, x7⟩ := span_cells RXm.out
  go_wp2_with fail
  with_reducible refine (C5.out _).mono ?_
  rintro e w5 ⟨rfl, hb5⟩
  clear x0 x1 x2 x3 x4 x5 x6 x7
  have BWd := Lib.hid ((below_step BWm.out hb5).alloc (below_step BWm.out hb5).size (.cells #[.int .i64 y.trace, .int .i64 y.id, .int .i64 y.parent, .string (S y.svc), .string (S y.host), .int .i64 y.start, .int .i64 y.dur, .string (S y.note)] 30))
  have RYd := Lib.hid (rowIn_new #[.int .i64 y.trace, .int .i64 y.id, .int .i64 y.parent, .string (S y.svc), .string (S y.host), .int .i64 y.start, .int .i64 y.dur, .string (S y.note)] 30 w5)
  clear hb5
  obtain ⟨y0, y1, y2, y3, y4, y5, y6, y7⟩ := span_cells RYd.out
  go_wp2_with fail
  with_reducible refine (C6.out _).mono ?_
  rintro e w6 ⟨rfl, hb6⟩
  clear y0 y1 y2 y3 y4 y5 y6 y7
  have RYd_4 := Lib.hid (RYd.out.below hb6)
  have BW_4 := Lib.hid (below_step BWd.out hb6)
  clear hb6
  obtain ⟨y0, y1, y2, y3, y4, y5, y6, y7⟩ := span_cells RYd_4.out
  go_wp2_with fail
  with_reducible refine (C7.out _).mono ?_
  rintro e w7 ⟨rfl, hb7⟩
  clear y0 y1 y2 y3 y4 y5 y6 y7
  simp only [M.errOf]
  go_wp2_with fail
  with_reducible refine (does3 _).mono ?_
  rintro e w8 ⟨rfl, hb8⟩
  go_wp2_with fail
  go_ret
  exact ⟨rfl, below_step (below_step BW_4.out hb7) hb8⟩

set_option maxHeartbeats 2000000 in
set_option maxRecDepth 100000 in
theorem back_tf (x : M.Sp) (s : List UInt8) (w : World) (hx : x.fits) (hg : M.greatB x = false) (hs : decide (2000 < (s.length : Int)) = false) (hl : s.length ≤ 140737488351232) (hm : M.mayB x = true) (hd : M.dec s = none) :
    Calls Try.prog 8 #[.agg #[.int .i64 x.trace, .int .i64 x.id, .int .i64 x.parent, .string (S x.svc), .string (S x.host), .int .i64 x.start, .int .i64 x.dur, .string (S x.note)], .string (S s)] w fun e w' => e = .returned (.bool true) ∧ Below w.heap.size w w' := by
  have cg := fun W => great_any x W
  rw [hg] at cg
  have CG := Lib.hid cg
  clear cg hg
  have c2 := fun W => check_any x hx W
  rw [hm] at c2
  have c5 := fun W => decode_any s hl W
  rw [hd] at c5
  simp only [spV, spC, decX, decE] at c5
  have c1 := fun W => encode_yes x hx hm W
  have hq := M.enc_len hm
  have c3 := fun W => decode_any (M.enc x) (by omega) W
  rw [M.dec_enc hx hm] at c3
  simp only [spV, spC, decX, decE] at c3
  generalize M.enc x = q at *
  have dq : decide (90 < (q.length : Int)) = false := by simp; omega
  have C3 := Lib.hid c3
  clear c3
  have C1 := Lib.hid c1
  have C2 := Lib.hid c2
  have C5 := Lib.hid c5
  clear c1 c2 c5 hd hm
  have RX := Lib.hid (rowIn_new #[.int .i64 x.trace, .int .i64 x.id, .int .i64 x.parent, .string (S x.svc), .string (S x.host), .int .i64 x.start, .int .i64 x.dur, .string (S x.note)] 30 w)
  have BW := Lib.hid ((Below.refl w.heap.size w).alloc (Nat.le_refl _) (.cells #[.int .i64 x.trace, .int .i64 x.id, .int .i64 x.parent, .string (S x.svc), .string (S x.host), .int .i64 x.start, .int .i64 x.dur, .string (S x.note)] 30))
  go_enter Try.func8, Try.ntmps8
  go_wp2_with fail
  with_reducible refine (CG.out _).mono ?_
  rintro e w1 ⟨rfl, hb1⟩
  have RX_1 := Lib.hid (RX.out.below hb1)
  have BW_1 := Lib.hid (below_step BW.out hb1)
  clear hb1
  obtain ⟨x0, x1, x2, x3, x4, x5, x6, x7⟩ := span_cells RX_1.out
  go_wp2_with fail
  with_reducible refine (C1.out _).mono ?_
  rintro e w2 ⟨rfl, hb2⟩
  clear x0 x1 x2 x3 x4 x5 x6 x7
  have RX_2 := Lib.hid (RX_1.out.below hb2)
  have BW_2 := Lib.hid (below_step BW_1.out hb2)
  clear hb2
  obtain ⟨x0, x1, x2, x3, x4, x5, x6, x7⟩ := span_cells RX_2.out
  go_wp2_with fail
  with_reducible refine (C2.out _).mono ?_
  rintro e w3 ⟨rfl, hb3⟩
  clear x0 x1 x2 x3 x4 x5 x6 x7
  have RX_3 := Lib.hid (RX_2.out.below hb3)
  have BW_3 := Lib.hid (below_step BW_2.out hb3)
  clear hb3
  simp only [M.errOf]
  go_wp2_with fail
  with_reducible refine (C3.out _).mono ?_
  rintro e w4 ⟨rfl, hb4⟩
  have RXm := Lib.hid ((RX_3.out.below hb4).more (.cells #[.int .i64 x.trace, .int .i64 x.id, .int .i64 x.parent, .string (S x.svc), .string (S x.host), .int .i64 x.start, .int .i64 x.dur, .string (S x.note)] 30))
  have BWm := Lib.hid ((below_step BW_3.out hb4).alloc (below_step BW_3.out hb4).size (.cells #[.int .i64 x.trace, .int .i64 x.id, .int .i64 x.parent, .string (S x.svc), .string (S x.host), .int .i64 x.start, .int .i64 x.dur, .string (S x.note)] 30))
  clear hb4
  obtain ⟨x0, x1, x2, x3, x4, x5, x6, x7⟩ := span_cells RXm.out
  go_wp2_with fail
  with_reducible refine (C5.out _).mono ?_
  rintro e w5 ⟨rfl, hb5⟩
  clear x0 x1 x2 x3 x4 x5 x6 x7
  have BWd := Lib.hid ((below_step BWm.out hb5).alloc (below_step BWm.out hb5).size (.cells #[.int .i64 M.sp0.trace, .int .i64 M.sp0.id, .int .i64 M.sp0.parent, .string (S M.sp0.svc), .string (S M.sp0.host), .int .i64 M.sp0.start, .int .i64 M.sp0.dur, .string (S M.sp0.note)] 30))
  clear hb5
  go_wp2_with fail
  with_reducible refine (does3 _).mono ?_
  rintro e w8 ⟨rfl, hb8⟩
  go_wp2_with fail
  go_ret
  exact ⟨rfl, below_step BWd.out hb8⟩

set_option maxHeartbeats 2000000 in
set_option maxRecDepth 100000 in
theorem back_ft (x : M.Sp) (s : List UInt8) (w : World) (hx : x.fits) (hg : M.greatB x = false) (hs : decide (2000 < (s.length : Int)) = false) (hl : s.length ≤ 140737488351232) (hm : M.mayB x = false) (y : M.Sp) (hy : y.fits) (hd : M.dec s = some y) :
    Calls Try.prog 8 #[.agg #[.int .i64 x.trace, .int .i64 x.id, .int .i64 x.parent, .string (S x.svc), .string (S x.host), .int .i64 x.start, .int .i64 x.dur, .string (S x.note)], .string (S s)] w fun e w' => e = .returned (.bool true) ∧ Below w.heap.size w w' := by
  have cg := fun W => great_any x W
  rw [hg] at cg
  have CG := Lib.hid cg
  clear cg hg
  have c2 := fun W => check_any x hx W
  rw [hm] at c2
  have c5 := fun W => decode_any s hl W
  rw [hd] at c5
  simp only [spV, spC, decX, decE] at c5
  have c1 := fun W => encode_no x hx hm W
  obtain ⟨he, hmy⟩ := M.enc_dec hd
  have c6 := fun W => encode_yes y hy hmy W
  rw [he] at c6
  have c7 := fun W => check_any y hy W
  rw [hmy] at c7
  have C6 := Lib.hid c6
  have C7 := Lib.hid c7
  clear c6 c7 he hmy
  have C1 := Lib.hid c1
  have C2 := Lib.hid c2
  have C5 := Lib.hid c5
  clear c1 c2 c5 hd hm
  have RX := Lib.hid (rowIn_new #[.int .i64 x.trace, .int .i64 x.id, .int .i64 x.parent, .string (S x.svc), .string (S x.host), .int .i64 x.start, .int .i64 x.dur, .string (S x.note)] 30 w)
  have BW := Lib.hid ((Below.refl w.heap.size w).alloc (Nat.le_refl _) (.cells #[.int .i64 x.trace, .int .i64 x.id, .int .i64 x.parent, .string (S x.svc), .string (S x.host), .int .i64 x.start, .int .i64 x.dur, .string (S x.note)] 30))
  go_enter Try.func8, Try.ntmps8
  go_wp2_with fail
  with_reducible refine (CG.out _).mono ?_
  rintro e w1 ⟨rfl, hb1⟩
  have RX_1 := Lib.hid (RX.out.below hb1)
  have BW_1 := Lib.hid (below_step BW.out hb1)
  clear hb1
  obtain ⟨x0, x1, x2, x3, x4, x5, x6, x7⟩ := span_cells RX_1.out
  go_wp2_with fail
  with_reducible refine (C1.out _).mono ?_
  rintro e w2 ⟨rfl, hb2⟩
  clear x0 x1 x2 x3 x4 x5 x6 x7
  have RX_2 := Lib.hid (RX_1.out.below hb2)
  have BW_2 := Lib.hid (below_step BW_1.out hb2)
  clear hb2
  obtain ⟨x0, x1, x2, x3, x4, x5, x6, x7⟩ := span_cells RX_2.out
  go_wp2_with fail
  with_reducible refine (C2.out _).mono ?_
  rintro e w3 ⟨rfl, hb3⟩
  clear x0 x1 x2 x3 x4 x5 x6 x7
  have RX_3 := Lib.hid (RX_2.out.below hb3)
  have BW_3 := Lib.hid (below_step BW_2.out hb3)
  clear hb3
  simp only [M.errOf]
  go_wp2_with fail
  with_reducible refine (C5.out _).mono ?_
  rintro e w5 ⟨rfl, hb5⟩
  have BWd := Lib.hid ((below_step BW_3.out hb5).alloc (below_step BW_3.out hb5).size (.cells #[.int .i64 y.trace, .int .i64 y.id, .int .i64 y.parent, .string (S y.svc), .string (S y.host), .int .i64 y.start, .int .i64 y.dur, .string (S y.note)] 30))
  have RYd := Lib.hid (rowIn_new #[.int .i64 y.trace, .int .i64 y.id, .int .i64 y.parent, .string (S y.svc), .string (S y.host), .int .i64 y.start, .int .i64 y.dur, .string (S y.note)] 30 w5)
  clear hb5
  obtain ⟨y0, y1, y2, y3, y4, y5, y6, y7⟩ := span_cells RYd.out
  go_wp2_with fail
  with_reducible refine (C6.out _).mono ?_
  rintro e w6 ⟨rfl, hb6⟩
  clear y0 y1 y2 y3 y4 y5 y6 y7
  have RYd_4 := Lib.hid (RYd.out.below hb6)
  have BW_4 := Lib.hid (below_step BWd.out hb6)
  clear hb6
  obtain ⟨y0, y1, y2, y3, y4, y5, y6, y7⟩ := span_cells RYd_4.out
  go_wp2_with fail
  with_reducible refine (C7.out _).mono ?_
  rintro e w7 ⟨rfl, hb7⟩
  clear y0 y1 y2 y3 y4 y5 y6 y7
  simp only [M.errOf]
  go_wp2_with fail
  with_reducible refine (does3 _).mono ?_
  rintro e w8 ⟨rfl, hb8⟩
  go_wp2_with fail
  go_ret
  exact ⟨rfl, below_step (below_step BW_4.out hb7) hb8⟩

set_option maxHeartbeats 2000000 in
set_option maxRecDepth 100000 in
theorem back_ff (x : M.Sp) (s : List UInt8) (w : World) (hx : x.fits) (hg : M.greatB x = false) (hs : decide (2000 < (s.length : Int)) = false) (hl : s.length ≤ 140737488351232) (hm : M.mayB x = false) (hd : M.dec s = none) :
    Calls Try.prog 8 #[.agg #[.int .i64 x.trace, .int .i64 x.id, .int .i64 x.parent, .string (S x.svc), .string (S x.host), .int .i64 x.start, .int .i64 x.dur, .string (S x.note)], .string (S s)] w fun e w' => e = .returned (.bool true) ∧ Below w.heap.size w w' := by
  have cg := fun W => great_any x W
  rw [hg] at cg
  have CG := Lib.hid cg
  clear cg hg
  have c2 := fun W => check_any x hx W
  rw [hm] at c2
  have c5 := fun W => decode_any s hl W
  rw [hd] at c5
  simp only [spV, spC, decX, decE] at c5
  have c1 := fun W => encode_no x hx hm W
  have C1 := Lib.hid c1
  have C2 := Lib.hid c2
  have C5 := Lib.hid c5
  clear c1 c2 c5 hd hm
  have RX := Lib.hid (rowIn_new #[.int .i64 x.trace, .int .i64 x.id, .int .i64 x.parent, .string (S x.svc), .string (S x.host), .int .i64 x.start, .int .i64 x.dur, .string (S x.note)] 30 w)
  have BW := Lib.hid ((Below.refl w.heap.size w).alloc (Nat.le_refl _) (.cells #[.int .i64 x.trace, .int .i64 x.id, .int .i64 x.parent, .string (S x.svc), .string (S x.host), .int .i64 x.start, .int .i64 x.dur, .string (S x.note)] 30))
  go_enter Try.func8, Try.ntmps8
  go_wp2_with fail
  with_reducible refine (CG.out _).mono ?_
  rintro e w1 ⟨rfl, hb1⟩
  have RX_1 := Lib.hid (RX.out.below hb1)
  have BW_1 := Lib.hid (below_step BW.out hb1)
  clear hb1
  obtain ⟨x0, x1, x2, x3, x4, x5, x6, x7⟩ := span_cells RX_1.out
  go_wp2_with fail
  with_reducible refine (C1.out _).mono ?_
  rintro e w2 ⟨rfl, hb2⟩
  clear x0 x1 x2 x3 x4 x5 x6 x7
  have RX_2 := Lib.hid (RX_1.out.below hb2)
  have BW_2 := Lib.hid (below_step BW_1.out hb2)
  clear hb2
  obtain ⟨x0, x1, x2, x3, x4, x5, x6, x7⟩ := span_cells RX_2.out
  go_wp2_with fail
  with_reducible refine (C2.out _).mono ?_
  rintro e w3 ⟨rfl, hb3⟩
  clear x0 x1 x2 x3 x4 x5 x6 x7
  have RX_3 := Lib.hid (RX_2.out.below hb3)
  have BW_3 := Lib.hid (below_step BW_2.out hb3)
  clear hb3
  simp only [M.errOf]
  go_wp2_with fail
  with_reducible refine (C5.out _).mono ?_
  rintro e w5 ⟨rfl, hb5⟩
  have BWd := Lib.hid ((below_step BW_3.out hb5).alloc (below_step BW_3.out hb5).size (.cells #[.int .i64 M.sp0.trace, .int .i64 M.sp0.id, .int .i64 M.sp0.parent, .string (S M.sp0.svc), .string (S M.sp0.host), .int .i64 M.sp0.start, .int .i64 M.sp0.dur, .string (S M.sp0.note)] 30))
  clear hb5
  go_wp2_with fail
  with_reducible refine (does3 _).mono ?_
  rintro e w8 ⟨rfl, hb8⟩
  go_wp2_with fail
  go_ret
  exact ⟨rfl, below_step BWd.out hb8⟩

theorem spansBack_calls (u : Value) (hu : USp u) (s : List UInt8) (hl : s.length ≤ 140737488351232) (w : World) :
    Calls Try.prog 8 #[u, .string (S s)] w fun e w' => e = .returned (.bool true) ∧ Below w.heap.size w w' := by
  obtain ⟨x, rfl, hi⟩ := hu
  cases hg : M.greatB x with
  | true => exact back_great x s w hg
  | false =>
    obtain ⟨g1, g2, g3⟩ := M.greatB_false hg
    have hx := hi.fits g1 g2 g3
    by_cases hs : 2000 < s.length
    · exact back_long x s w hg (by simp; omega)
    · have hs' : decide (2000 < (s.length : Int)) = false := by simp; omega
      cases hm : M.mayB x with
      | true =>
        cases hd : M.dec s with
        | some y => exact back_tt x s w hx hg hs' hl hm y (dec_fits hl hd) hd
        | none => exact back_tf x s w hx hg hs' hl hm hd
      | false =>
        cases hd : M.dec s with
        | some y => exact back_ft x s w hx hg hs' hl hm y (dec_fits hl hd) hd
        | none => exact back_ff x s w hx hg hs' hl hm hd

end Go.Proofs.Ytpbdmldooehafab
