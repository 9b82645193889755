/- Layer 3: the laws' walks: SpansOrder. -/
import Derived.Test.YtpbdmldooehafabSpansL2
namespace Go.Proofs.Ytpbdmldooehafab
set_option linter.unusedVariables false
open Go Go.RowKit
attribute [local go_sem ↓] run_index_S
attribute [local go_sem] S_append S_extract

set_option maxHeartbeats 2000000 in
set_option maxRecDepth 100000 in
theorem order_same_t (x y z : M.Sp) (w : World) (h1 : (x.trace == y.trace) = true) (h2 : (x.id == y.id) = true) (ha : M.lessB x y = false) (hb : M.lessB y x = false) (hxx : M.lessB x x = false) (hc : M.lessB y z = true) (hd : M.lessB x z = true) :
    Calls Try.prog 10 #[.agg #[.int .i64 x.trace, .int .i64 x.id, .int .i64 x.parent, .string (S x.svc), .string (S x.host), .int .i64 x.start, .int .i64 x.dur, .string (S x.note)], .agg #[.int .i64 y.trace, .int .i64 y.id, .int .i64 y.parent, .string (S y.svc), .string (S y.host), .int .i64 y.start, .int .i64 y.dur, .string (S y.note)], .agg #[.int .i64 z.trace, .int .i64 z.id, .int .i64 z.parent, .string (S z.svc), .string (S z.host), .int .i64 z.start, .int .i64 z.dur, .string (S z.note)]] w fun e w' => e = .returned (.bool true) ∧ Below w.heap.size w w' := by
  have c1 := fun W => less_any x y W
  have c2 := fun W => less_any y x W
  have c3 := fun W => less_any y z W
  have c4 := fun W => less_any x x W
  have c5 := fun W => less_any x z W
  rw [ha] at c1
  rw [hb] at c2
  rw [hxx] at c4
  rw [hc] at c3
  rw [hd] at c5
  clear ha hb hxx hc hd
  have C1 := Lib.hid c1
  have C2 := Lib.hid c2
  have C3 := Lib.hid c3
  have C4 := Lib.hid c4
  have C5 := Lib.hid c5
  clear c1 c2 c3 c4 c5
  have RX := Lib.hid (((rowIn_new #[.int .i64 x.trace, .int .i64 x.id, .int .i64 x.parent, .string (S x.svc), .string (S x.host), .int .i64 x.start, .int .i64 x.dur, .string (S x.note)] 30 w).more (.cells #[.int .i64 y.trace, .int .i64 y.id, .int .i64 y.parent, .string (S y.svc), .string (S y.host), .int .i64 y.start, .int .i64 y.dur, .string (S y.note)] 30)).more (.cells #[.int .i64 z.trace, .int .i64 z.id, .int .i64 z.parent, .string (S z.svc), .string (S z.host), .int .i64 z.start, .int .i64 z.dur, .string (S z.note)] 30))
  have RY := Lib.hid ((rowIn_at #[.int .i64 y.trace, .int .i64 y.id, .int .i64 y.parent, .string (S y.svc), .string (S y.host), .int .i64 y.start, .int .i64 y.dur, .string (S y.note)] 30 (w.alloc (.cells #[.int .i64 x.trace, .int .i64 x.id, .int .i64 x.parent, .string (S x.svc), .string (S x.host), .int .i64 x.start, .int .i64 x.dur, .string (S x.note)] 30)) (w.heap.size + 1) (by simp)).more (.cells #[.int .i64 z.trace, .int .i64 z.id, .int .i64 z.parent, .string (S z.svc), .string (S z.host), .int .i64 z.start, .int .i64 z.dur, .string (S z.note)] 30))
  have RZ := Lib.hid (rowIn_at #[.int .i64 z.trace, .int .i64 z.id, .int .i64 z.parent, .string (S z.svc), .string (S z.host), .int .i64 z.start, .int .i64 z.dur, .string (S z.note)] 30 ((w.alloc (.cells #[.int .i64 x.trace, .int .i64 x.id, .int .i64 x.parent, .string (S x.svc), .string (S x.host), .int .i64 x.start, .int .i64 x.dur, .string (S x.note)] 30)).alloc (.cells #[.int .i64 y.trace, .int .i64 y.id, .int .i64 y.parent, .string (S y.svc), .string (S y.host), .int .i64 y.start, .int .i64 y.dur, .string (S y.note)] 30)) (w.heap.size + 1 + 1) (by simp))
  have BW : Below w.heap.size w (((w.alloc (.cells #[.int .i64 x.trace, .int .i64 x.id, .int .i64 x.parent, .string (S x.svc), .string (S x.host), .int .i64 x.start, .int .i64 x.dur, .string (S x.note)] 30)).alloc (.cells #[.int .i64 y.trace, .int .i64 y.id, .int .i64 y.parent, .string (S y.svc), .string (S y.host), .int .i64 y.start, .int .i64 y.dur, .string (S y.note)] 30)).alloc (.cells #[.int .i64 z.trace, .int .i64 z.id, .int .i64 z.parent, .string (S z.svc), .string (S z.host), .int .i64 z.start, .int .i64 z.dur, .string (S z.note)] 30)) := (((Below.refl _ _).alloc (Nat.le_refl _) _).alloc (by simp) _).alloc (by simp; omega) _
  go_enter Try.func10, Try.ntmps10
  go_wp2_with fail
  generalize ((w.alloc (.cells #[.int .i64 x.trace, .int .i64 x.id, .int .i64 x.parent, .string (S x.svc), .string (S x.host), .int .i64 x.start, .int .i64 x.dur, .string (S x.note)] 30)).alloc (.cells #[.int .i64 y.trace, .int .i64 y.id, .int .i64 y.parent, .string (S y.svc), .string (S y.host), .int .i64 y.start, .int .i64 y.dur, .string (S y.note)] 30)).alloc (.cells #[.int .i64 z.trace, .int .i64 z.id, .int .i64 z.parent, .string (S z.svc), .string (S z.host), .int .i64 z.start, .int .i64 z.dur, .string (S z.note)] 30) = W6 at *
  have x0 := RX.out.gcell 0 rfl
  have x1 := RX.out.gcell 1 rfl
  have x2 := RX.out.gcell 2 rfl
  have x3 := RX.out.gcell 3 rfl
  have x4 := RX.out.gcell 4 rfl
  have x5 := RX.out.gcell 5 rfl
  have x6 := RX.out.gcell 6 rfl
  have x7 := RX.out.gcell 7 rfl
  have y0 := RY.out.gcell 0 rfl
  have y1 := RY.out.gcell 1 rfl
  have y2 := RY.out.gcell 2 rfl
  have y3 := RY.out.gcell 3 rfl
  have y4 := RY.out.gcell 4 rfl
  have y5 := RY.out.gcell 5 rfl
  have y6 := RY.out.gcell 6 rfl
  have y7 := RY.out.gcell 7 rfl
  have z0 := RZ.out.gcell 0 rfl
  have z1 := RZ.out.gcell 1 rfl
  have z2 := RZ.out.gcell 2 rfl
  have z3 := RZ.out.gcell 3 rfl
  have z4 := RZ.out.gcell 4 rfl
  have z5 := RZ.out.gcell 5 rfl
  have z6 := RZ.out.gcell 6 rfl
  have z7 := RZ.out.gcell 7 rfl
  refine wp_region_quiet_below (by kernel_rfl) (by kernel_rfl) ?_
  repeat (go_big_quiet_step ((first | (go_at_call 26; with_reducible exact Calls.regrown_of (C1.out _)) | (go_at_call 26; with_reducible exact Calls.regrown_of (C2.out _)) | (go_at_call 26; with_reducible exact Calls.regrown_of (C3.out _)))))
  refine wpQuiet_nil ?_
  intro _ hw1
  obtain ⟨⟨d1, d1o⟩, hw1⟩ := hw1
  subst hw1
  clear x0 x1 x2 x3 x4 x5 x6 x7 y0 y1 y2 y3 y4 y5 y6 y7 z0 z1 z2 z3 z4 z5 z6 z7
  have RX2 := Lib.hid (RX.out.grown d1 d1o)
  have RY2 := Lib.hid (RY.out.grown d1 d1o)
  have RZ2 := Lib.hid (RZ.out.grown d1 d1o)
  have BW2 := Lib.hid (below_step BW (below_regrown _ d1 d1o))
  generalize Sort.grow (redrawn W6 d1) d1o = W7 at *
  clear BW
  obtain ⟨x0, x1, x2, x3, x4, x5, x6, x7⟩ := span_cells RX2.out
  obtain ⟨y0, y1, y2, y3, y4, y5, y6, y7⟩ := span_cells RY2.out
  go_wp2_with fail
  with_reducible refine (C4.out _).mono ?_
  rintro e w8 ⟨rfl, hb8⟩
  clear x0 x1 x2 x3 x4 x5 x6 x7 y0 y1 y2 y3 y4 y5 y6 y7
  have RX3 := Lib.hid (RX2.out.below hb8)
  have RZ3 := Lib.hid (RZ2.out.below hb8)
  have BW3 := Lib.hid (below_step BW2.out hb8)
  clear hb8
  obtain ⟨x0, x1, x2, x3, x4, x5, x6, x7⟩ := span_cells RX3.out
  obtain ⟨z0, z1, z2, z3, z4, z5, z6, z7⟩ := span_cells RZ3.out
  go_wp2_with fail
  with_reducible refine (C5.out _).mono ?_
  rintro e w9 ⟨rfl, hb9⟩
  have BW4 := Lib.hid (below_step BW3.out hb9)
  clear hb9
  clear x0 x1 x2 x3 x4 x5 x6 x7 z0 z1 z2 z3 z4 z5 z6 z7
  go_wp2_with fail
  with_reducible refine (does3 _).mono ?_
  rintro e w10 ⟨rfl, hb10⟩
  go_wp2_with fail
  go_ret
  exact ⟨rfl, below_step BW4.out hb10⟩

set_option maxHeartbeats 2000000 in
set_option maxRecDepth 100000 in
theorem order_same_f (x y z : M.Sp) (w : World) (h1 : (x.trace == y.trace) = true) (h2 : (x.id == y.id) = true) (ha : M.lessB x y = false) (hb : M.lessB y x = false) (hxx : M.lessB x x = false) (hc : M.lessB y z = false) (hd : M.lessB x z = false) :
    Calls Try.prog 10 #[.agg #[.int .i64 x.trace, .int .i64 x.id, .int .i64 x.parent, .string (S x.svc), .string (S x.host), .int .i64 x.start, .int .i64 x.dur, .string (S x.note)], .agg #[.int .i64 y.trace, .int .i64 y.id, .int .i64 y.parent, .string (S y.svc), .string (S y.host), .int .i64 y.start, .int .i64 y.dur, .string (S y.note)], .agg #[.int .i64 z.trace, .int .i64 z.id, .int .i64 z.parent, .string (S z.svc), .string (S z.host), .int .i64 z.start, .int .i64 z.dur, .string (S z.note)]] w fun e w' => e = .returned (.bool true) ∧ Below w.heap.size w w' := by
  have c1 := fun W => less_any x y W
  have c2 := fun W => less_any y x W
  have c3 := fun W => less_any y z W
  have c4 := fun W => less_any x x W
  have c5 := fun W => less_any x z W
  rw [ha] at c1
  rw [hb] at c2
  rw [hxx] at c4
  rw [hc] at c3
  rw [hd] at c5
  clear ha hb hxx hc hd
  have C1 := Lib.hid c1
  have C2 := Lib.hid c2
  have C3 := Lib.hid c3
  have C4 := Lib.hid c4
  have C5 := Lib.hid c5
  clear c1 c2 c3 c4 c5
  have RX := Lib.hid (((rowIn_new #[.int .i64 x.trace, .int .i64 x.id, .int .i64 x.parent, .string (S x.svc), .string (S x.host), .int .i64 x.start, .int .i64 x.dur, .string (S x.note)] 30 w).more (.cells #[.int .i64 y.trace, .int .i64 y.id, .int .i64 y.parent, .string (S y.svc), .string (S y.host), .int .i64 y.start, .int .i64 y.dur, .string (S y.note)] 30)).more (.cells #[.int .i64 z.trace, .int .i64 z.id, .int .i64 z.parent, .string (S z.svc), .string (S z.host), .int .i64 z.start, .int .i64 z.dur, .string (S z.note)] 30))
  have RY := Lib.hid ((rowIn_at #[.int .i64 y.trace, .int .i64 y.id, .int .i64 y.parent, .string (S y.svc), .string (S y.host), .int .i64 y.start, .int .i64 y.dur, .string (S y.note)] 30 (w.alloc (.cells #[.int .i64 x.trace, .int .i64 x.id, .int .i64 x.parent, .string (S x.svc), .string (S x.host), .int .i64 x.start, .int .i64 x.dur, .string (S x.note)] 30)) (w.heap.size + 1) (by simp)).more (.cells #[.int .i64 z.trace, .int .i64 z.id, .int .i64 z.parent, .string (S z.svc), .string (S z.host), .int .i64 z.start, .int .i64 z.dur, .string (S z.note)] 30))
  have RZ := Lib.hid (rowIn_at #[.int .i64 z.trace, .int .i64 z.id, .int .i64 z.parent, .string (S z.svc), .string (S z.host), .int .i64 z.start, .int .i64 z.dur, .string (S z.note)] 30 ((w.alloc (.cells #[.int .i64 x.trace, .int .i64 x.id, .int .i64 x.parent, .string (S x.svc), .string (S x.host), .int .i64 x.start, .int .i64 x.dur, .string (S x.note)] 30)).alloc (.cells #[.int .i64 y.trace, .int .i64 y.id, .int .i64 y.parent, .string (S y.svc), .string (S y.host), .int .i64 y.start, .int .i64 y.dur, .string (S y.note)] 30)) (w.heap.size + 1 + 1) (by simp))
  have BW : Below w.heap.size w (((w.alloc (.cells #[.int .i64 x.trace, .int .i64 x.id, .int .i64 x.parent, .string (S x.svc), .string (S x.host), .int .i64 x.start, .int .i64 x.dur, .string (S x.note)] 30)).alloc (.cells #[.int .i64 y.trace, .int .i64 y.id, .int .i64 y.parent, .string (S y.svc), .string (S y.host), .int .i64 y.start, .int .i64 y.dur, .string (S y.note)] 30)).alloc (.cells #[.int .i64 z.trace, .int .i64 z.id, .int .i64 z.parent, .string (S z.svc), .string (S z.host), .int .i64 z.start, .int .i64 z.dur, .string (S z.note)] 30)) := (((Below.refl _ _).alloc (Nat.le_refl _) _).alloc (by simp) _).alloc (by simp; omega) _
  go_enter Try.func10, Try.ntmps10
  go_wp2_with fail
  generalize ((w.alloc (.cells #[.int .i64 x.trace, .int .i64 x.id, .int .i64 x.parent, .string (S x.svc), .string (S x.host), .int .i64 x.start, .int .i64 x.dur, .string (S x.note)] 30)).alloc (.cells #[.int .i64 y.trace, .int .i64 y.id, .int .i64 y.parent, .string (S y.svc), .string (S y.host), .int .i64 y.start, .int .i64 y.dur, .string (S y.note)] 30)).alloc (.cells #[.int .i64 z.trace, .int .i64 z.id, .int .i64 z.parent, .string (S z.svc), .string (S z.host), .int .i64 z.start, .int .i64 z.dur, .string (S z.note)] 30) = W6 at *
  have x0 := RX.out.gcell 0 rfl
  have x1 := RX.out.gcell 1 rfl
  have x2 := RX.out.gcell 2 rfl
  have x3 := RX.out.gcell 3 rfl
  have x4 := RX.out.gcell 4 rfl
  have x5 := RX.out.gcell 5 rfl
  have x6 := RX.out.gcell 6 rfl
  have x7 := RX.out.gcell 7 rfl
  have y0 := RY.out.gcell 0 rfl
  have y1 := RY.out.gcell 1 rfl
  have y2 := RY.out.gcell 2 rfl
  have y3 := RY.out.gcell 3 rfl
  have y4 := RY.out.gcell 4 rfl
  have y5 := RY.out.gcell 5 rfl
  have y6 := RY.out.gcell 6 rfl
  have y7 := RY.out.gcell 7 rfl
  have z0 := RZ.out.gcell 0 rfl
  have z1 := RZ.out.gcell 1 rfl
  have z2 := RZ.out.gcell 2 rfl
  have z3 := RZ.out.gcell 3 rfl
  have z4 := RZ.out.gcell 4 rfl
  have z5 := RZ.out.gcell 5 rfl
  have z6 := RZ.out.gcell 6 rfl
  have z7 := RZ.out.gcell 7 rfl
  refine wp_region_quiet_below (by kernel_rfl) (by kernel_rfl) ?_
  repeat (go_big_quiet_step ((first | (go_at_call 26; with_reducible exact Calls.regrown_of (C1.out _)) | (go_at_call 26; with_reducible exact Calls.regrown_of (C2.out _)) | (go_at_call 26; with_reducible exact Calls.regrown_of (C3.out _)))))
  refine wpQuiet_nil ?_
  intro _ hw1
  obtain ⟨⟨d1, d1o⟩, hw1⟩ := hw1
  subst hw1
  clear x0 x1 x2 x3 x4 x5 x6 x7 y0 y1 y2 y3 y4 y5 y6 y7 z0 z1 z2 z3 z4 z5 z6 z7
  have RX2 := Lib.hid (RX.out.grown d1 d1o)
  have RY2 := Lib.hid (RY.out.grown d1 d1o)
  have RZ2 := Lib.hid (RZ.out.grown d1 d1o)
  have BW2 := Lib.hid (below_step BW (below_regrown _ d1 d1o))
  generalize Sort.grow (redrawn W6 d1) d1o = W7 at *
  clear BW
  obtain ⟨x0, x1, x2, x3, x4, x5, x6, x7⟩ := span_cells RX2.out
  obtain ⟨y0, y1, y2, y3, y4, y5, y6, y7⟩ := span_cells RY2.out
  go_wp2_with fail
  with_reducible refine (C4.out _).mono ?_
  rintro e w8 ⟨rfl, hb8⟩
  clear x0 x1 x2 x3 x4 x5 x6 x7 y0 y1 y2 y3 y4 y5 y6 y7
  have RX3 := Lib.hid (RX2.out.below hb8)
  have RZ3 := Lib.hid (RZ2.out.below hb8)
  have BW3 := Lib.hid (below_step BW2.out hb8)
  clear hb8
  obtain ⟨x0, x1, x2, x3, x4, x5, x6, x7⟩ := span_cells RX3.out
  obtain ⟨z0, z1, z2, z3, z4, z5, z6, z7⟩ := span_cells RZ3.out
  go_wp2_with fail
  with_reducible refine (C5.out _).mono ?_
  rintro e w9 ⟨rfl, hb9⟩
  have BW4 := Lib.hid (below_step BW3.out hb9)
  clear hb9
  clear x0 x1 x2 x3 x4 x5 x6 x7 z0 z1 z2 z3 z4 z5 z6 z7
  go_wp2_with fail
  with_reducible refine (does3 _).mono ?_
  rintro e w10 ⟨rfl, hb10⟩
  go_wp2_with fail
  go_ret
  exact ⟨rfl, below_step BW4.out hb10⟩

set_option maxHeartbeats 2000000 in
set_option maxRecDepth 100000 in
theorem order_t_tt (x y z : M.Sp) (w : World) (h1 : (x.trace == y.trace) = false) (ha : M.lessB x y = true) (hb : M.lessB y x = false) (hxx : M.lessB x x = false) (hc : M.lessB y z = true) (hd : M.lessB x z = true) :
    Calls Try.prog 10 #[.agg #[.int .i64 x.trace, .int .i64 x.id, .int .i64 x.parent, .string (S x.svc), .string (S x.host), .int .i64 x.start, .int .i64 x.dur, .string (S x.note)], .agg #[.int .i64 y.trace, .int .i64 y.id, .int .i64 y.parent, .string (S y.svc), .string (S y.host), .int .i64 y.start, .int .i64 y.dur, .string (S y.note)], .agg #[.int .i64 z.trace, .int .i64 z.id, .int .i64 z.parent, .string (S z.svc), .string (S z.host), .int .i64 z.start, .int .i64 z.dur, .string (S z.note)]] w fun e w' => e = .returned (.bool true) ∧ Below w.heap.size w w' := by
  have c1 := fun W => less_any x y W
  have c2 := fun W => less_any y x W
  have c3 := fun W => less_any y z W
  have c4 := fun W => less_any x x W
  have c5 := fun W => less_any x z W
  rw [ha] at c1
  rw [hb] at c2
  rw [hxx] at c4
  rw [hc] at c3
  rw [hd] at c5
  clear ha hb hxx hc hd
  have C1 := Lib.hid c1
  have C2 := Lib.hid c2
  have C3 := Lib.hid c3
  have C4 := Lib.hid c4
  have C5 := Lib.hid c5
  clear c1 c2 c3 c4 c5
  have RX := Lib.hid (((rowIn_new #[.int .i64 x.trace, .int .i64 x.id, .int .i64 x.parent, .string (S x.svc), .string (S x.host), .int .i64 x.start, .int .i64 x.dur, .string (S x.note)] 30 w).more (.cells #[.int .i64 y.trace, .int .i64 y.id, .int .i64 y.parent, .string (S y.svc), .string (S y.host), .int .i64 y.start, .int .i64 y.dur, .string (S y.note)] 30)).more (.cells #[.int .i64 z.trace, .int .i64 z.id, .int .i64 z.parent, .string (S z.svc), .string (S z.host), .int .i64 z.start, .int .i64 z.dur, .string (S z.note)] 30))
  have RY := Lib.hid ((rowIn_at #[.int .i64 y.trace, .int .i64 y.id, .int .i64 y.parent, .string (S y.svc), .string (S y.host), .int .i64 y.start, .int .i64 y.dur, .string (S y.note)] 30 (w.alloc (.cells #[.int .i64 x.trace, .int .i64 x.id, .int .i64 x.parent, .string (S x.svc), .string (S x.host), .int .i64 x.start, .int .i64 x.dur, .string (S x.note)] 30)) (w.heap.size + 1) (by simp)).more (.cells #[.int .i64 z.trace, .int .i64 z.id, .int .i64 z.parent, .string (S z.svc), .string (S z.host), .int .i64 z.start, .int .i64 z.dur, .string (S z.note)] 30))
  have RZ := Lib.hid (rowIn_at #[.int .i64 z.trace, .int .i64 z.id, .int .i64 z.parent, .string (S z.svc), .string (S z.host), .int .i64 z.start, .int .i64 z.dur, .string (S z.note)] 30 ((w.alloc (.cells #[.int .i64 x.trace, .int .i64 x.id, .int .i64 x.parent, .string (S x.svc), .string (S x.host), .int .i64 x.start, .int .i64 x.dur, .string (S x.note)] 30)).alloc (.cells #[.int .i64 y.trace, .int .i64 y.id, .int .i64 y.parent, .string (S y.svc), .string (S y.host), .int .i64 y.start, .int .i64 y.dur, .string (S y.note)] 30)) (w.heap.size + 1 + 1) (by simp))
  have BW : Below w.heap.size w (((w.alloc (.cells #[.int .i64 x.trace, .int .i64 x.id, .int .i64 x.parent, .string (S x.svc), .string (S x.host), .int .i64 x.start, .int .i64 x.dur, .string (S x.note)] 30)).alloc (.cells #[.int .i64 y.trace, .int .i64 y.id, .int .i64 y.parent, .string (S y.svc), .string (S y.host), .int .i64 y.start, .int .i64 y.dur, .string (S y.note)] 30)).alloc (.cells #[.int .i64 z.trace, .int .i64 z.id, .int .i64 z.parent, .string (S z.svc), .string (S z.host), .int .i64 z.start, .int .i64 z.dur, .string (S z.note)] 30)) := (((Below.refl _ _).alloc (Nat.le_refl _) _).alloc (by simp) _).alloc (by simp; omega) _
  go_enter Try.func10, Try.ntmps10
  go_wp2_with fail
  generalize ((w.alloc (.cells #[.int .i64 x.trace, .int .i64 x.id, .int .i64 x.parent, .string (S x.svc), .string (S x.host), .int .i64 x.start, .int .i64 x.dur, .string (S x.note)] 30)).alloc (.cells #[.int .i64 y.trace, .int .i64 y.id, .int .i64 y.parent, .string (S y.svc), .string (S y.host), .int .i64 y.start, .int .i64 y.dur, .string (S y.note)] 30)).alloc (.cells #[.int .i64 z.trace, .int .i64 z.id, .int .i64 z.parent, .string (S z.svc), .string (S z.host), .int .i64 z.start, .int .i64 z.dur, .string (S z.note)] 30) = W6 at *
  have x0 := RX.out.gcell 0 rfl
  have x1 := RX.out.gcell 1 rfl
  have x2 := RX.out.gcell 2 rfl
  have x3 := RX.out.gcell 3 rfl
  have x4 := RX.out.gcell 4 rfl
  have x5 := RX.out.gcell 5 rfl
  have x6 := RX.out.gcell 6 rfl
  have x7 := RX.out.gcell 7 rfl
  have y0 := RY.out.gcell 0 rfl
  have y1 := RY.out.gcell 1 rfl
  have y2 := RY.out.gcell 2 rfl
  have y3 := RY.out.gcell 3 rfl
  have y4 := RY.out.gcell 4 rfl
  have y5 := RY.out.gcell 5 rfl
  have y6 := RY.out.gcell 6 rfl
  have y7 := RY.out.gcell 7 rfl
  have z0 := RZ.out.gcell 0 rfl
  have z1 := RZ.out.gcell 1 rfl
  have z2 := RZ.out.gcell 2 rfl
  have z3 := RZ.out.gcell 3 rfl
  have z4 := RZ.out.gcell 4 rfl
  have z5 := RZ.out.gcell 5 rfl
  have z6 := RZ.out.gcell 6 rfl
  have z7 := RZ.out.gcell 7 rfl
  refine wp_region_quiet_below (by kernel_rfl) (by kernel_rfl) ?_
  repeat (go_big_quiet_step ((first | (go_at_call 26; with_reducible exact Calls.regrown_of (C1.out _)) | (go_at_call 26; with_reducible exact Calls.regrown_of (C2.out _)) | (go_at_call 26; with_reducible exact Calls.regrown_of (C3.out _)))))
  refine wpQuiet_nil ?_
  intro _ hw1
  obtain ⟨⟨d1, d1o⟩, hw1⟩ := hw1
  subst hw1
  clear x0 x1 x2 x3 x4 x5 x6 x7 y0 y1 y2 y3 y4 y5 y6 y7 z0 z1 z2 z3 z4 z5 z6 z7
  have RX2 := Lib.hid (RX.out.grown d1 d1o)
  have RY2 := Lib.hid (RY.out.grown d1 d1o)
  have RZ2 := Lib.hid (RZ.out.grown d1 d1o)
  have BW2 := Lib.hid (below_step BW (below_regrown _ d1 d1o))
  generalize Sort.grow (redrawn W6 d1) d1o = W7 at *
  clear BW
  obtain ⟨x0, x1, x2, x3, x4, x5, x6, x7⟩ := span_cells RX2.out
  obtain ⟨y0, y1, y2, y3, y4, y5, y6, y7⟩ := span_cells RY2.out
  go_wp2_with fail
  with_reducible refine (C4.out _).mono ?_
  rintro e w8 ⟨rfl, hb8⟩
  clear x0 x1 x2 x3 x4 x5 x6 x7 y0 y1 y2 y3 y4 y5 y6 y7
  have RX3 := Lib.hid (RX2.out.below hb8)
  have RZ3 := Lib.hid (RZ2.out.below hb8)
  have BW3 := Lib.hid (below_step BW2.out hb8)
  clear hb8
  obtain ⟨x0, x1, x2, x3, x4, x5, x6, x7⟩ := span_cells RX3.out
  obtain ⟨z0, z1, z2, z3, z4, z5, z6, z7⟩ := span_cells RZ3.out
  go_wp2_with fail
  with_reducible refine (C5.out _).mono ?_
  rintro e w9 ⟨rfl, hb9⟩
  have BW4 := Lib.hid (below_step BW3.out hb9)
  clear hb9
  clear x0 x1 x2 x3 x4 x5 x6 x7 z0 z1 z2 z3 z4 z5 z6 z7
  go_wp2_with fail
  with_reducible refine (does3 _).mono ?_
  rintro e w10 ⟨rfl, hb10⟩
  go_wp2_with fail
  go_ret
  exact ⟨rfl, below_step BW4.out hb10⟩

set_option maxHeartbeats 2000000 in
set_option maxRecDepth 100000 in
theorem order_t_tf (x y z : M.Sp) (w : World) (h1 : (x.trace == y.trace) = false) (ha : M.lessB x y = true) (hb : M.lessB y x = false) (hxx : M.lessB x x = false) (hc : M.lessB y z = false) :
    Calls Try.prog 10 #[.agg #[.int .i64 x.trace, .int .i64 x.id, .int .i64 x.parent, .string (S x.svc), .string (S x.host), .int .i64 x.start, .int .i64 x.dur, .string (S x.note)], .agg #[.int .i64 y.trace, .int .i64 y.id, .int .i64 y.parent, .string (S y.svc), .string (S y.host), .int .i64 y.start, .int .i64 y.dur, .string (S y.note)], .agg #[.int .i64 z.trace, .int .i64 z.id, .int .i64 z.parent, .string (S z.svc), .string (S z.host), .int .i64 z.start, .int .i64 z.dur, .string (S z.note)]] w fun e w' => e = .returned (.bool true) ∧ Below w.heap.size w w' := by
  have c1 := fun W => less_any x y W
  have c2 := fun W => less_any y x W
  have c3 := fun W => less_any y z W
  have c4 := fun W => less_any x x W
  have c5 := fun W => less_any x z W
  rw [ha] at c1
  rw [hb] at c2
  rw [hxx] at c4
  rw [hc] at c3
  clear ha hb hxx hc
  have C1 := Lib.hid c1
  have C2 := Lib.hid c2
  have C3 := Lib.hid c3
  have C4 := Lib.hid c4
  have C5 := Lib.hid c5
  clear c1 c2 c3 c4 c5
  have RX := Lib.hid (((rowIn_new #[.int .i64 x.trace, .int .i64 x.id, .int .i64 x.parent, .string (S x.svc), .string (S x.host), .int .i64 x.start, .int .i64 x.dur, .string (S x.note)] 30 w).more (.cells #[.int .i64 y.trace, .int .i64 y.id, .int .i64 y.parent, .string (S y.svc), .string (S y.host), .int .i64 y.start, .int .i64 y.dur, .string (S y.note)] 30)).more (.cells #[.int .i64 z.trace, .int .i64 z.id, .int .i64 z.parent, .string (S z.svc), .string (S z.host), .int .i64 z.start, .int .i64 z.dur, .string (S z.note)] 30))
  have RY := Lib.hid ((rowIn_at #[.int .i64 y.trace, .int .i64 y.id, .int .i64 y.parent, .string (S y.svc), .string (S y.host), .int .i64 y.start, .int .i64 y.dur, .string (S y.note)] 30 (w.alloc (.cells #[.int .i64 x.trace, .int .i64 x.id, .int .i64 x.parent, .string (S x.svc), .string (S x.host), .int .i64 x.start, .int .i64 x.dur, .string (S x.note)] 30)) (w.heap.size + 1) (by simp)).more (.cells #[.int .i64 z.trace, .int .i64 z.id, .int .i64 z.parent, .string (S z.svc), .string (S z.host), .int .i64 z.start, .int .i64 z.dur, .string (S z.note)] 30))
  have RZ := Lib.hid (rowIn_at #[.int .i64 z.trace, .int .i64 z.id, .int .i64 z.parent, .string (S z.svc), .string (S z.host), .int .i64 z.start, .int .i64 z.dur, .string (S z.note)] 30 ((w.alloc (.cells #[.int .i64 x.trace, .int .i64 x.id, .int .i64 x.parent, .string (S x.svc), .string (S x.host), .int .i64 x.start, .int .i64 x.dur, .string (S x.note)] 30)).alloc (.cells #[.int .i64 y.trace, .int .i64 y.id, .int .i64 y.parent, .string (S y.svc), .string (S y.host), .int .i64 y.start, .int .i64 y.dur, .string (S y.note)] 30)) (w.heap.size + 1 + 1) (by simp))
  have BW : Below w.heap.size w (((w.alloc (.cells #[.int .i64 x.trace, .int .i64 x.id, .int .i64 x.parent, .string (S x.svc), .string (S x.host), .int .i64 x.start, .int .i64 x.dur, .string (S x.note)] 30)).alloc (.cells #[.int .i64 y.trace, .int .i64 y.id, .int .i64 y.parent, .string (S y.svc), .string (S y.host), .int .i64 y.start, .int .i64 y.dur, .string (S y.note)] 30)).alloc (.cells #[.int .i64 z.trace, .int .i64 z.id, .int .i64 z.parent, .string (S z.svc), .string (S z.host), .int .i64 z.start, .int .i64 z.dur, .string (S z.note)] 30)) := (((Below.refl _ _).alloc (Nat.le_refl _) _).alloc (by simp) _).alloc (by simp; omega) _
  go_enter Try.func10, Try.ntmps10
  go_wp2_with fail
  generalize ((w.alloc (.cells #[.int .i64 x.trace, .int .i64 x.id, .int .i64 x.parent, .string (S x.svc), .string (S x.host), .int .i64 x.start, .int .i64 x.dur, .string (S x.note)] 30)).alloc (.cells #[.int .i64 y.trace, .int .i64 y.id, .int .i64 y.parent, .string (S y.svc), .string (S y.host), .int .i64 y.start, .int .i64 y.dur, .string (S y.note)] 30)).alloc (.cells #[.int .i64 z.trace, .int .i64 z.id, .int .i64 z.parent, .string (S z.svc), .string (S z.host), .int .i64 z.start, .int .i64 z.dur, .string (S z.note)] 30) = W6 at *
  have x0 := RX.out.gcell 0 rfl
  have x1 := RX.out.gcell 1 rfl
  have x2 := RX.out.gcell 2 rfl
  have x3 := RX.out.gcell 3 rfl
  have x4 := RX.out.gcell 4 rfl
  have x5 := RX.out.gcell 5 rfl
  have x6 := RX.out.gcell 6 rfl
  have x7 := RX.out.gcell 7 rfl
  have y0 := RY.out.gcell 0 rfl
  have y1 := RY.out.gcell 1 rfl
  have y2 := RY.out.gcell 2 rfl
  have y3 := RY.out.gcell 3 rfl
  have y4 := RY.out.gcell 4 rfl
  have y5 := RY.out.gcell 5 rfl
  have y6 := RY.out.gcell 6 rfl
  have y7 := RY.out.gcell 7 rfl
  have z0 := RZ.out.gcell 0 rfl
  have z1 := RZ.out.gcell 1 rfl
  have z2 := RZ.out.gcell 2 rfl
  have z3 := RZ.out.gcell 3 rfl
  have z4 := RZ.out.gcell 4 rfl
  have z5 := RZ.out.gcell 5 rfl
  have z6 := RZ.out.gcell 6 rfl
  have z7 := RZ.out.gcell 7 rfl
  refine wp_region_quiet_below (by kernel_rfl) (by kernel_rfl) ?_
  repeat (go_big_quiet_step ((first | (go_at_call 26; with_reducible exact Calls.regrown_of (C1.out _)) | (go_at_call 26; with_reducible exact Calls.regrown_of (C2.out _)) | (go_at_call 26; with_reducible exact Calls.regrown_of (C3.out _)))))
  refine wpQuiet_nil ?_
  intro _ hw1
  obtain ⟨⟨d1, d1o⟩, hw1⟩ := hw1
  subst hw1
  clear x0 x1 x2 x3 x4 x5 x6 x7 y0 y1 y2 y3 y4 y5 y6 y7 z0 z1 z2 z3 z4 z5 z6 z7
  have RX2 := Lib.hid (RX.out.grown d1 d1o)
  have RY2 := Lib.hid (RY.out.grown d1 d1o)
  have RZ2 := Lib.hid (RZ.out.grown d1 d1o)
  have BW2 := Lib.hid (below_step BW (below_regrown _ d1 d1o))
  generalize Sort.grow (redrawn W6 d1) d1o = W7 at *
  clear BW
  obtain ⟨x0, x1, x2, x3, x4, x5, x6, x7⟩ := span_cells RX2.out
  obtain ⟨y0, y1, y2, y3, y4, y5, y6, y7⟩ := span_cells RY2.out
  go_wp2_with fail
  with_reducible refine (C4.out _).mono ?_
  rintro e w8 ⟨rfl, hb8⟩
  clear x0 x1 x2 x3 x4 x5 x6 x7 y0 y1 y2 y3 y4 y5 y6 y7
  have RX3 := Lib.hid (RX2.out.below hb8)
  have RZ3 := Lib.hid (RZ2.out.below hb8)
  have BW3 := Lib.hid (below_step BW2.out hb8)
  clear hb8
  go_wp2_with fail
  with_reducible refine (does3 _).mono ?_
  rintro e w10 ⟨rfl, hb10⟩
  go_wp2_with fail
  go_ret
  exact ⟨rfl, below_step BW3.out hb10⟩

set_option maxHeartbeats 2000000 in
set_option maxRecDepth 100000 in
theorem order_t_f (x y z : M.Sp) (w : World) (h1 : (x.trace == y.trace) = false) (ha : M.lessB x y = false) (hb : M.lessB y x = true) (hxx : M.lessB x x = false) :
    Calls Try.prog 10 #[.agg #[.int .i64 x.trace, .int .i64 x.id, .int .i64 x.parent, .string (S x.svc), .string (S x.host), .int .i64 x.start, .int .i64 x.dur, .string (S x.note)], .agg #[.int .i64 y.trace, .int .i64 y.id, .int .i64 y.parent, .string (S y.svc), .string (S y.host), .int .i64 y.start, .int .i64 y.dur, .string (S y.note)], .agg #[.int .i64 z.trace, .int .i64 z.id, .int .i64 z.parent, .string (S z.svc), .string (S z.host), .int .i64 z.start, .int .i64 z.dur, .string (S z.note)]] w fun e w' => e = .returned (.bool true) ∧ Below w.heap.size w w' := by
  have c1 := fun W => less_any x y W
  have c2 := fun W => less_any y x W
  have c3 := fun W => less_any y z W
  have c4 := fun W => less_any x x W
  have c5 := fun W => less_any x z W
  rw [ha] at c1
  rw [hb] at c2
  rw [hxx] at c4
  generalize M.lessB y z = c at c3
  clear ha hb hxx
  have C1 := Lib.hid c1
  have C2 := Lib.hid c2
  have C3 := Lib.hid c3
  have C4 := Lib.hid c4
  have C5 := Lib.hid c5
  clear c1 c2 c3 c4 c5
  have RX := Lib.hid (((rowIn_new #[.int .i64 x.trace, .int .i64 x.id, .int .i64 x.parent, .string (S x.svc), .string (S x.host), .int .i64 x.start, .int .i64 x.dur, .string (S x.note)] 30 w).more (.cells #[.int .i64 y.trace, .int .i64 y.id, .int .i64 y.parent, .string (S y.svc), .string (S y.host), .int .i64 y.start, .int .i64 y.dur, .string (S y.note)] 30)).more (.cells #[.int .i64 z.trace, .int .i64 z.id, .int .i64 z.parent, .string (S z.svc), .string (S z.host), .int .i64 z.start, .int .i64 z.dur, .string (S z.note)] 30))
  have RY := Lib.hid ((rowIn_at #[.int .i64 y.trace, .int .i64 y.id, .int .i64 y.parent, .string (S y.svc), .string (S y.host), .int .i64 y.start, .int .i64 y.dur, .string (S y.note)] 30 (w.alloc (.cells #[.int .i64 x.trace, .int .i64 x.id, .int .i64 x.parent, .string (S x.svc), .string (S x.host), .int .i64 x.start, .int .i64 x.dur, .string (S x.note)] 30)) (w.heap.size + 1) (by simp)).more (.cells #[.int .i64 z.trace, .int .i64 z.id, .int .i64 z.parent, .string (S z.svc), .string (S z.host), .int .i64 z.start, .int .i64 z.dur, .string (S z.note)] 30))
  have RZ := Lib.hid (rowIn_at #[.int .i64 z.trace, .int .i64 z.id, .int .i64 z.parent, .string (S z.svc), .string (S z.host), .int .i64 z.start, .int .i64 z.dur, .string (S z.note)] 30 ((w.alloc (.cells #[.int .i64 x.trace, .int .i64 x.id, .int .i64 x.parent, .string (S x.svc), .string (S x.host), .int .i64 x.start, .int .i64 x.dur, .string (S x.note)] 30)).alloc (.cells #[.int .i64 y.trace, .int .i64 y.id, .int .i64 y.parent, .string (S y.svc), .string (S y.host), .int .i64 y.start, .int .i64 y.dur, .string (S y.note)] 30)) (w.heap.size + 1 + 1) (by simp))
  have BW : Below w.heap.size w (((w.alloc (.cells #[.int .i64 x.trace, .int .i64 x.id, .int .i64 x.parent, .string (S x.svc), .string (S x.host), .int .i64 x.start, .int .i64 x.dur, .string (S x.note)] 30)).alloc (.cells #[.int .i64 y.trace, .int .i64 y.id, .int .i64 y.parent, .string (S y.svc), .string (S y.host), .int .i64 y.start, .int .i64 y.dur, .string (S y.note)] 30)).alloc (.cells #[.int .i64 z.trace, .int .i64 z.id, .int .i64 z.parent, .string (S z.svc), .string (S z.host), .int .i64 z.start, .int .i64 z.dur, .string (S z.note)] 30)) := (((Below.refl _ _).alloc (Nat.le_refl _) _).alloc (by simp) _).alloc (by simp; omega) _
  go_enter Try.func10, Try.ntmps10
  go_wp2_with fail
  generalize ((w.alloc (.cells #[.int .i64 x.trace, .int .i64 x.id, .int .i64 x.parent, .string (S x.svc), .string (S x.host), .int .i64 x.start, .int .i64 x.dur, .string (S x.note)] 30)).alloc (.cells #[.int .i64 y.trace, .int .i64 y.id, .int .i64 y.parent, .string (S y.svc), .string (S y.host), .int .i64 y.start, .int .i64 y.dur, .string (S y.note)] 30)).alloc (.cells #[.int .i64 z.trace, .int .i64 z.id, .int .i64 z.parent, .string (S z.svc), .string (S z.host), .int .i64 z.start, .int .i64 z.dur, .string (S z.note)] 30) = W6 at *
  have x0 := RX.out.gcell 0 rfl
  have x1 := RX.out.gcell 1 rfl
  have x2 := RX.out.gcell 2 rfl
  have x3 := RX.out.gcell 3 rfl
  have x4 := RX.out.gcell 4 rfl
  have x5 := RX.out.gcell 5 rfl
  have x6 := RX.out.gcell 6 rfl
  have x7 := RX.out.gcell 7 rfl
  have y0 := RY.out.gcell 0 rfl
  have y1 := RY.out.gcell 1 rfl
  have y2 := RY.out.gcell 2 rfl
  have y3 := RY.out.gcell 3 rfl
  have y4 := RY.out.gcell 4 rfl
  have y5 := RY.out.gcell 5 rfl
  have y6 := RY.out.gcell 6 rfl
  have y7 := RY.out.gcell 7 rfl
  have z0 := RZ.out.gcell 0 rfl
  have z1 := RZ.out.gcell 1 rfl
  have z2 := RZ.out.gcell 2 rfl
  have z3 := RZ.out.gcell 3 rfl
  have z4 := RZ.out.gcell 4 rfl
  have z5 := RZ.out.gcell 5 rfl
  have z6 := RZ.out.gcell 6 rfl
  have z7 := RZ.out.gcell 7 rfl
  refine wp_region_quiet_below (by kernel_rfl) (by kernel_rfl) ?_
  repeat (go_big_quiet_step ((first | (go_at_call 26; with_reducible exact Calls.regrown_of (C1.out _)) | (go_at_call 26; with_reducible exact Calls.regrown_of (C2.out _)) | (go_at_call 26; with_reducible exact Calls.regrown_of (C3.out _)))))
  refine wpQuiet_nil ?_
  intro _ hw1
  obtain ⟨⟨d1, d1o⟩, hw1⟩ := hw1
  subst hw1
  clear x0 x1 x2 x3 x4 x5 x6 x7 y0 y1 y2 y3 y4 y5 y6 y7 z0 z1 z2 z3 z4 z5 z6 z7
  have RX2 := Lib.hid (RX.out.grown d1 d1o)
  have RY2 := Lib.hid (RY.out.grown d1 d1o)
  have RZ2 := Lib.hid (RZ.out.grown d1 d1o)
  have BW2 := Lib.hid (below_step BW (below_regrown _ d1 d1o))
  generalize Sort.grow (redrawn W6 d1) d1o = W7 at *
  clear BW
  obtain ⟨x0, x1, x2, x3, x4, x5, x6, x7⟩ := span_cells RX2.out
  obtain ⟨y0, y1, y2, y3, y4, y5, y6, y7⟩ := span_cells RY2.out
  go_wp2_with fail
  with_reducible refine (C4.out _).mono ?_
  rintro e w8 ⟨rfl, hb8⟩
  clear x0 x1 x2 x3 x4 x5 x6 x7 y0 y1 y2 y3 y4 y5 y6 y7
  have RX3 := Lib.hid (RX2.out.below hb8)
  have RZ3 := Lib.hid (RZ2.out.below hb8)
  have BW3 := Lib.hid (below_step BW2.out hb8)
  clear hb8
  go_wp2_with fail
  with_reducible refine (does3 _).mono ?_
  rintro e w10 ⟨rfl, hb10⟩
  go_wp2_with fail
  go_ret
  exact ⟨rfl, below_step BW3.out hb10⟩

set_option maxHeartbeats 2000000 in
set_option maxRecDepth 100000 in
theorem order_i_tt (x y z : M.Sp) (w : World) (h1 : (x.trace == y.trace) = true) (h2 : (x.id == y.id) = false) (ha : M.lessB x y = true) (hb : M.lessB y x = false) (hxx : M.lessB x x = false) (hc : M.lessB y z = true) (hd : M.lessB x z = true) :
    Calls Try.prog 10 #[.agg #[.int .i64 x.trace, .int .i64 x.id, .int .i64 x.parent, .string (S x.svc), .string (S x.host), .int .i64 x.start, .int .i64 x.dur, .string (S x.note)], .agg #[.int .i64 y.trace, .int .i64 y.id, .int .i64 y.parent, .string (S y.svc), .string (S y.host), .int .i64 y.start, .int .i64 y.dur, .string (S y.note)], .agg #[.int .i64 z.trace, .int .i64 z.id, .int .i64 z.parent, .string (S z.svc), .string (S z.host), .int .i64 z.start, .int .i64 z.dur, .string (S z.note)]] w fun e w' => e = .returned (.bool true) ∧ Below w.heap.size w w' := by
  have c1 := fun W => less_any x y W
  have c2 := fun W => less_any y x W
  have c3 := fun W => less_any y z W
  have c4 := fun W => less_any x x W
  have c5 := fun W => less_any x z W
  rw [ha] at c1
  rw [hb] at c2
  rw [hxx] at c4
  rw [hc] at c3
  rw [hd] at c5
  clear ha hb hxx hc hd
  have C1 := Lib.hid c1
  have C2 := Lib.hid c2
  have C3 := Lib.hid c3
  have C4 := Lib.hid c4
  have C5 := Lib.hid c5
  clear c1 c2 c3 c4 c5
  have RX := Lib.hid (((rowIn_new #[.int .i64 x.trace, .int .i64 x.id, .int .i64 x.parent, .string (S x.svc), .string (S x.host), .int .i64 x.start, .int .i64 x.dur, .string (S x.note)] 30 w).more (.cells #[.int .i64 y.trace, .int .i64 y.id, .int .i64 y.parent, .string (S y.svc), .string (S y.host), .int .i64 y.start, .int .i64 y.dur, .string (S y.note)] 30)).more (.cells #[.int .i64 z.trace, .int .i64 z.id, .int .i64 z.parent, .string (S z.svc), .string (S z.host), .int .i64 z.start, .int .i64 z.dur, .string (S z.note)] 30))
  have RY := Lib.hid ((rowIn_at #[.int .i64 y.trace, .int .i64 y.id, .int .i64 y.parent, .string (S y.svc), .string (S y.host), .int .i64 y.start, .int .i64 y.dur, .string (S y.note)] 30 (w.alloc (.cells #[.int .i64 x.trace, .int .i64 x.id, .int .i64 x.parent, .string (S x.svc), .string (S x.host), .int .i64 x.start, .int .i64 x.dur, .string (S x.note)] 30)) (w.heap.size + 1) (by simp)).more (.cells #[.int .i64 z.trace, .int .i64 z.id, .int .i64 z.parent, .string (S z.svc), .string (S z.host), .int .i64 z.start, .int .i64 z.dur, .string (S z.note)] 30))
  have RZ := Lib.hid (rowIn_at #[.int .i64 z.trace, .int .i64 z.id, .int .i64 z.parent, .string (S z.svc), .string (S z.host), .int .i64 z.start, .int .i64 z.dur, .string (S z.note)] 30 ((w.alloc (.cells #[.int .i64 x.trace, .int .i64 x.id, .int .i64 x.parent, .string (S x.svc), .string (S x.host), .int .i64 x.start, .int .i64 x.dur, .string (S x.note)] 30)).alloc (.cells #[.int .i64 y.trace, .int .i64 y.id, .int .i64 y.parent, .string (S y.svc), .string (S y.host), .int .i64 y.start, .int .i64 y.dur, .string (S y.note)] 30)) (w.heap.size + 1 + 1) (by simp))
  have BW : Below w.heap.size w (((w.alloc (.cells #[.int .i64 x.trace, .int .i64 x.id, .int .i64 x.parent, .string (S x.svc), .string (S x.host), .int .i64 x.start, .int .i64 x.dur, .string (S x.note)] 30)).alloc (.cells #[.int .i64 y.trace, .int .i64 y.id, .int .i64 y.parent, .string (S y.svc), .string (S y.host), .int .i64 y.start, .int .i64 y.dur, .string (S y.note)] 30)).alloc (.cells #[.int .i64 z.trace, .int .i64 z.id, .int .i64 z.parent, .string (S z.svc), .string (S z.host), .int .i64 z.start, .int .i64 z.dur, .string (S z.note)] 30)) := (((Below.refl _ _).alloc (Nat.le_refl _) _).alloc (by simp) _).alloc (by simp; omega) _
  go_enter Try.func10, Try.ntmps10
  go_wp2_with fail
  generalize ((w.alloc (.cells #[.int .i64 x.trace, .int .i64 x.id, .int .i64 x.parent, .string (S x.svc), .string (S x.host), .int .i64 x.start, .int .i64 x.dur, .string (S x.note)] 30)).alloc (.cells #[.int .i64 y.trace, .int .i64 y.id, .int .i64 y.parent, .string (S y.svc), .string (S y.host), .int .i64 y.start, .int .i64 y.dur, .string (S y.note)] 30)).alloc (.cells #[.int .i64 z.trace, .int .i64 z.id, .int .i64 z.parent, .string (S z.svc), .string (S z.host), .int .i64 z.start, .int .i64 z.dur, .string (S z.note)] 30) = W6 at *
  have x0 := RX.out.gcell 0 rfl
  have x1 := RX.out.gcell 1 rfl
  have x2 := RX.out.gcell 2 rfl
  have x3 := RX.out.gcell 3 rfl
  have x4 := RX.out.gcell 4 rfl
  have x5 := RX.out.gcell 5 rfl
  have x6 := RX.out.gcell 6 rfl
  have x7 := RX.out.gcell 7 rfl
  have y0 := RY.out.gcell 0 rfl
  have y1 := RY.out.gcell 1 rfl
  have y2 := RY.out.gcell 2 rfl
  have y3 := RY.out.gcell 3 rfl
  have y4 := RY.out.gcell 4 rfl
  have y5 := RY.out.gcell 5 rfl
  have y6 := RY.out.gcell 6 rfl
  have y7 := RY.out.gcell 7 rfl
  have z0 := RZ.out.gcell 0 rfl
  have z1 := RZ.out.gcell 1 rfl
  have z2 := RZ.out.gcell 2 rfl
  have z3 := RZ.out.gcell 3 rfl
  have z4 := RZ.out.gcell 4 rfl
  have z5 := RZ.out.gcell 5 rfl
  have z6 := RZ.out.gcell 6 rfl
  have z7 := RZ.out.gcell 7 rfl
  refine wp_region_quiet_below (by kernel_rfl) (by kernel_rfl) ?_
  repeat (go_big_quiet_step ((first | (go_at_call 26; with_reducible exact Calls.regrown_of (C1.out _)) | (go_at_call 26; with_reducible exact Calls.regrown_of (C2.out _)) | (go_at_call 26; with_reducible exact Calls.regrown_of (C3.out _)))))
  refine wpQuiet_nil ?_
  intro _ hw1
  obtain ⟨⟨d1, d1o⟩, hw1⟩ := hw1
  subst hw1
  clear x0 x1 x2 x3 x4 x5 x6 x7 y0 y1 y2 y3 y4 y5 y6 y7 z0 z1 z2 z3 z4 z5 z6 z7
  have RX2 := Lib.hid (RX.out.grown d1 d1o)
  have RY2 := Lib.hid (RY.out.grown d1 d1o)
  have RZ2 := Lib.hid (RZ.out.grown d1 d1o)
  have BW2 := Lib.hid (below_step BW (below_regrown _ d1 d1o))
  generalize Sort.grow (redrawn W6 d1) d1o = W7 at *
  clear BW
  obtain ⟨x0, x1, x2, x3, x4, x5, x6, x7⟩ := span_cells RX2.out
  obtain ⟨y0, y1, y2, y3, y4, y5, y6, y7⟩ := span_cells RY2.out
  go_wp2_with fail
  with_reducible refine (C4.out _).mono ?_
  rintro e w8 ⟨rfl, hb8⟩
  clear x0 x1 x2 x3 x4 x5 x6 x7 y0 y1 y2 y3 y4 y5 y6 y7
  have RX3 := Lib.hid (RX2.out.below hb8)
  have RZ3 := Lib.hid (RZ2.out.below hb8)
  have BW3 := Lib.hid (below_step BW2.out hb8)
  clear hb8
  obtain ⟨x0, x1, x2, x3, x4, x5, x6, x7⟩ := span_cells RX3.out
  obtain ⟨z0, z1, z2, z3, z4, z5, z6, z7⟩ := span_cells RZ3.out
  go_wp2_with fail
  with_reducible refine (C5.out _).mono ?_
  rintro e w9 ⟨rfl, hb9⟩
  have BW4 := Lib.hid (below_step BW3.out hb9)
  clear hb9
  clear x0 x1 x2 x3 x4 x5 x6 x7 z0 z1 z2 z3 z4 z5 z6 z7
  go_wp2_with fail
  with_reducible refine (does3 _).mono ?_
  rintro e w10 ⟨rfl, hb10⟩
  go_wp2_with fail
  go_ret
  exact ⟨rfl, below_step BW4.out hb10⟩

set_option maxHeartbeats 2000000 in
set_option maxRecDepth 100000 in
theorem order_i_tf (x y z : M.Sp) (w : World) (h1 : (x.trace == y.trace) = true) (h2 : (x.id == y.id) = false) (ha : M.lessB x y = true) (hb : M.lessB y x = false) (hxx : M.lessB x x = false) (hc : M.lessB y z = false) :
    Calls Try.prog 10 #[.agg #[.int .i64 x.trace, .int .i64 x.id, .int .i64 x.parent, .string (S x.svc), .string (S x.host), .int .i64 x.start, .int .i64 x.dur, .string (S x.note)], .agg #[.int .i64 y.trace, .int .i64 y.id, .int .i64 y.parent, .string (S y.svc), .string (S y.host), .int .i64 y.start, .int .i64 y.dur, .string (S y.note)], .agg #[.int .i64 z.trace, .int .i64 z.id, .int .i64 z.parent, .string (S z.svc), .string (S z.host), .int .i64 z.start, .int .i64 z.dur, .string (S z.note)]] w fun e w' => e = .returned (.bool true) ∧ Below w.heap.size w w' := by
  have c1 := fun W => less_any x y W
  have c2 := fun W => less_any y x W
  have c3 := fun W => less_any y z W
  have c4 := fun W => less_any x x W
  have c5 := fun W => less_any x z W
  rw [ha] at c1
  rw [hb] at c2
  rw [hxx] at c4
  rw [hc] at c3
  clear ha hb hxx hc
  have C1 := Lib.hid c1
  have C2 := Lib.hid c2
  have C3 := Lib.hid c3
  have C4 := Lib.hid c4
  have C5 := Lib.hid c5
  clear c1 c2 c3 c4 c5
  have RX := Lib.hid (((rowIn_new #[.int .i64 x.trace, .int .i64 x.id, .int .i64 x.parent, .string (S x.svc), .string (S x.host), .int .i64 x.start, .int .i64 x.dur, .string (S x.note)] 30 w).more (.cells #[.int .i64 y.trace, .int .i64 y.id, .int .i64 y.parent, .string (S y.svc), .string (S y.host), .int .i64 y.start, .int .i64 y.dur, .string (S y.note)] 30)).more (.cells #[.int .i64 z.trace, .int .i64 z.id, .int .i64 z.parent, .string (S z.svc), .string (S z.host), .int .i64 z.start, .int .i64 z.dur, .string (S z.note)] 30))
  have RY := Lib.hid ((rowIn_at #[.int .i64 y.trace, .int .i64 y.id, .int .i64 y.parent, .string (S y.svc), .string (S y.host), .int .i64 y.start, .int .i64 y.dur, .string (S y.note)] 30 (w.alloc (.cells #[.int .i64 x.trace, .int .i64 x.id, .int .i64 x.parent, .string (S x.svc), .string (S x.host), .int .i64 x.start, .int .i64 x.dur, .string (S x.note)] 30)) (w.heap.size + 1) (by simp)).more (.cells #[.int .i64 z.trace, .int .i64 z.id, .int .i64 z.parent, .string (S z.svc), .string (S z.host), .int .i64 z.start, .int .i64 z.dur, .string (S z.note)] 30))
  have RZ := Lib.hid (rowIn_at #[.int .i64 z.trace, .int .i64 z.id, .int .i64 z.parent, .string (S z.svc), .string (S z.host), .int .i64 z.start, .int .i64 z.dur, .string (S z.note)] 30 ((w.alloc (.cells #[.int .i64 x.trace, .int .i64 x.id, .int .i64 x.parent, .string (S x.svc), .string (S x.host), .int .i64 x.start, .int .i64 x.dur, .string (S x.note)] 30)).alloc (.cells #[.int .i64 y.trace, .int .i64 y.id, .int .i64 y.parent, .string (S y.svc), .string (S y.host), .int .i64 y.start, .int .i64 y.dur, .string (S y.note)] 30)) (w.heap.size + 1 + 1) (by simp))
  have BW : Below w.heap.size w (((w.alloc (.cells #[.int .i64 x.trace, .int .i64 x.id, .int .i64 x.parent, .string (S x.svc), .string (S x.host), .int .i64 x.start, .int .i64 x.dur, .string (S x.note)] 30)).alloc (.cells #[.int .i64 y.trace, .int .i64 y.id, .int .i64 y.parent, .string (S y.svc), .string (S y.host), .int .i64 y.start, .int .i64 y.dur, .string (S y.note)] 30)).alloc (.cells #[.int .i64 z.trace, .int .i64 z.id, .int .i64 z.parent, .string (S z.svc), .string (S z.host), .int .i64 z.start, .int .i64 z.dur, .string (S z.note)] 30)) := (((Below.refl _ _).alloc (Nat.le_refl _) _).alloc (by simp) _).alloc (by simp; omega) _
  go_enter Try.func10, Try.ntmps10
  go_wp2_with fail
  generalize ((w.alloc (.cells #[.int .i64 x.trace, .int .i64 x.id, .int .i64 x.parent, .string (S x.svc), .string (S x.host), .int .i64 x.start, .int .i64 x.dur, .string (S x.note)] 30)).alloc (.cells #[.int .i64 y.trace, .int .i64 y.id, .int .i64 y.parent, .string (S y.svc), .string (S y.host), .int .i64 y.start, .int .i64 y.dur, .string (S y.note)] 30)).alloc (.cells #[.int .i64 z.trace, .int .i64 z.id, .int .i64 z.parent, .string (S z.svc), .string (S z.host), .int .i64 z.start, .int .i64 z.dur, .string (S z.note)] 30) = W6 at *
  have x0 := RX.out.gcell 0 rfl
  have x1 := RX.out.gcell 1 rfl
  have x2 := RX.out.gcell 2 rfl
  have x3 := RX.out.gcell 3 rfl
  have x4 := RX.out.gcell 4 rfl
  have x5 := RX.out.gcell 5 rfl
  have x6 := RX.out.gcell 6 rfl
  have x7 := RX.out.gcell 7 rfl
  have y0 := RY.out.gcell 0 rfl
  have y1 := RY.out.gcell 1 rfl
  have y2 := RY.out.gcell 2 rfl
  have y3 := RY.out.gcell 3 rfl
  have y4 := RY.out.gcell 4 rfl
  have y5 := RY.out.gcell 5 rfl
  have y6 := RY.out.gcell 6 rfl
  have y7 := RY.out.gcell 7 rfl
  have z0 := RZ.out.gcell 0 rfl
  have z1 := RZ.out.gcell 1 rfl
  have z2 := RZ.out.gcell 2 rfl
  have z3 := RZ.out.gcell 3 rfl
  have z4 := RZ.out.gcell 4 rfl
  have z5 := RZ.out.gcell 5 rfl
  have z6 := RZ.out.gcell 6 rfl
  have z7 := RZ.out.gcell 7 rfl
  refine wp_region_quiet_below (by kernel_rfl) (by kernel_rfl) ?_
  repeat (go_big_quiet_step ((first | (go_at_call 26; with_reducible exact Calls.regrown_of (C1.out _)) | (go_at_call 26; with_reducible exact Calls.regrown_of (C2.out _)) | (go_at_call 26; with_reducible exact Calls.regrown_of (C3.out _)))))
  refine wpQuiet_nil ?_
  intro _ hw1
  obtain ⟨⟨d1, d1o⟩, hw1⟩ := hw1
  subst hw1
  clear x0 x1 x2 x3 x4 x5 x6 x7 y0 y1 y2 y3 y4 y5 y6 y7 z0 z1 z2 z3 z4 z5 z6 z7
  have RX2 := Lib.hid (RX.out.grown d1 d1o)
  have RY2 := Lib.hid (RY.out.grown d1 d1o)
  have RZ2 := Lib.hid (RZ.out.grown d1 d1o)
  have BW2 := Lib.hid (below_step BW (below_regrown _ d1 d1o))
  generalize Sort.grow (redrawn W6 d1) d1o = W7 at *
  clear BW
  obtain ⟨x0, x1, x2, x3, x4, x5, x6, x7⟩ := span_cells RX2.out
  obtain ⟨y0, y1, y2, y3, y4, y5, y6, y7⟩ := span_cells RY2.out
  go_wp2_with fail
  with_reducible refine (C4.out _).mono ?_
  rintro e w8 ⟨rfl, hb8⟩
  clear x0 x1 x2 x3 x4 x5 x6 x7 y0 y1 y2 y3 y4 y5 y6 y7
  have RX3 := Lib.hid (RX2.out.below hb8)
  have RZ3 := Lib.hid (RZ2.out.below hb8)
  have BW3 := Lib.hid (below_step BW2.out hb8)
  clear hb8
  go_wp2_with fail
  with_reducible refine (does3 _).mono ?_
  rintro e w10 ⟨rfl, hb10⟩
  go_wp2_with fail
  go_ret
  exact ⟨rfl, below_step BW3.out hb10⟩

set_option maxHeartbeats 2000000 in
set_option maxRecDepth 100000 in
theorem order_i_f (x y z : M.Sp) (w : World) (h1 : (x.trace == y.trace) = true) (h2 : (x.id == y.id) = false) (ha : M.lessB x y = false) (hb : M.lessB y x = true) (hxx : M.lessB x x = false) :
    Calls Try.prog 10 #[.agg #[.int .i64 x.trace, .int .i64 x.id, .int .i64 x.parent, .string (S x.svc), .string (S x.host), .int .i64 x.start, .int .i64 x.dur, .string (S x.note)], .agg #[.int .i64 y.trace, .int .i64 y.id, .int .i64 y.parent, .string (S y.svc), .string (S y.host), .int .i64 y.start, .int .i64 y.dur, .string (S y.note)], .agg #[.int .i64 z.trace, .int .i64 z.id, .int .i64 z.parent, .string (S z.svc), .string (S z.host), .int .i64 z.start, .int .i64 z.dur, .string (S z.note)]] w fun e w' => e = .returned (.bool true) ∧ Below w.heap.size w w' := by
  have c1 := fun W => less_any x y W
  have c2 := fun W => less_any y x W
  have c3 := fun W => less_any y z W
  have c4 := fun W => less_any x x W
  have c5 := fun W => less_any x z W
  rw [ha] at c1
  rw [hb] at c2
  rw [hxx] at c4
  generalize M.lessB y z = c at c3
  clear ha hb hxx
  have C1 := Lib.hid c1
  have C2 := Lib.hid c2
  have C3 := Lib.hid c3
  have C4 := Lib.hid c4
  have C5 := Lib.hid c5
  clear c1 c2 c3 c4 c5
  have RX := Lib.hid (((rowIn_new #[.int .i64 x.trace, .int .i64 x.id, .int .i64 x.parent, .string (S x.svc), .string (S x.host), .int .i64 x.start, .int .i64 x.dur, .string (S x.note)] 30 w).more (.cells #[.int .i64 y.trace, .int .i64 y.id, .int .i64 y.parent, .string (S y.svc), .string (S y.host), .int .i64 y.start, .int .i64 y.dur, .string (S y.note)] 30)).more (.cells #[.int .i64 z.trace, .int .i64 z.id, .int .i64 z.parent, .string (S z.svc), .string (S z.host), .int .i64 z.start, .int .i64 z.dur, .string (S z.note)] 30))
  have RY := Lib.hid ((rowIn_at #[.int .i64 y.trace, .int .i64 y.id, .int .i64 y.parent, .string (S y.svc), .string (S y.host), .int .i64 y.start, .int .i64 y.dur, .string (S y.note)] 30 (w.alloc (.cells #[.int .i64 x.trace, .int .i64 x.id, .int .i64 x.parent, .string (S x.svc), .string (S x.host), .int .i64 x.start, .int .i64 x.dur, .string (S x.note)] 30)) (w.heap.size + 1) (by simp)).more (.cells #[.int .i64 z.trace, .int .i64 z.id, .int .i64 z.parent, .string (S z.svc), .string (S z.host), .int .i64 z.start, .int .i64 z.dur, .string (S z.note)] 30))
  have RZ := Lib.hid (rowIn_at #[.int .i64 z.trace, .int .i64 z.id, .int .i64 z.parent, .string (S z.svc), .string (S z.host), .int .i64 z.start, .int .i64 z.dur, .string (S z.note)] 30 ((w.alloc (.cells #[.int .i64 x.trace, .int .i64 x.id, .int .i64 x.parent, .string (S x.svc), .string (S x.host), .int .i64 x.start, .int .i64 x.dur, .string (S x.note)] 30)).alloc (.cells #[.int .i64 y.trace, .int .i64 y.id, .int .i64 y.parent, .string (S y.svc), .string (S y.host), .int .i64 y.start, .int .i64 y.dur, .string (S y.note)] 30)) (w.heap.size + 1 + 1) (by simp))
  have BW : Below w.heap.size w (((w.alloc (.cells #[.int .i64 x.trace, .int .i64 x.id, .int .i64 x.parent, .string (S x.svc), .string (S x.host), .int .i64 x.start, .int .i64 x.dur, .string (S x.note)] 30)).alloc (.cells #[.int .i64 y.trace, .int .i64 y.id, .int .i64 y.parent, .string (S y.svc), .string (S y.host), .int .i64 y.start, .int .i64 y.dur, .string (S y.note)] 30)).alloc (.cells #[.int .i64 z.trace, .int .i64 z.id, .int .i64 z.parent, .string (S z.svc), .string (S z.host), .int .i64 z.start, .int .i64 z.dur, .string (S z.note)] 30)) := (((Below.refl _ _).alloc (Nat.le_refl _) _).alloc (by simp) _).alloc (by simp; omega) _
  go_enter Try.func10, Try.ntmps10
  go_wp2_with fail
  generalize ((w.alloc (.cells #[.int .i64 x.trace, .int .i64 x.id, .int .i64 x.parent, .string (S x.svc), .string (S x.host), .int .i64 x.start, .int .i64 x.dur, .string (S x.note)] 30)).alloc (.cells #[.int .i64 y.trace, .int .i64 y.id, .int .i64 y.parent, .string (S y.svc), .string (S y.host), .int .i64 y.start, .int .i64 y.dur, .string (S y.note)] 30)).alloc (.cells #[.int .i64 z.trace, .int .i64 z.id, .int .i64 z.parent, .string (S z.svc), .string (S z.host), .int .i64 z.start, .int .i64 z.dur, .string (S z.note)] 30) = W6 at *
  have x0 := RX.out.gcell 0 rfl
  have x1 := RX.out.gcell 1 rfl
  have x2 := RX.out.gcell 2 rfl
  have x3 := RX.out.gcell 3 rfl
  have x4 := RX.out.gcell 4 rfl
  have x5 := RX.out.gcell 5 rfl
  have x6 := RX.out.gcell 6 rfl
  have x7 := RX.out.gcell 7 rfl
  have y0 := RY.out.gcell 0 rfl
  have y1 := RY.out.gcell 1 rfl
  have y2 := RY.out.gcell 2 rfl
  have y3 := RY.out.gcell 3 rfl
  have y4 := RY.out.gcell 4 rfl
  have y5 := RY.out.gcell 5 rfl
  have y6 := RY.out.gcell 6 rfl
  have y7 := RY.out.gcell 7 rfl
  have z0 := RZ.out.gcell 0 rfl
  have z1 := RZ.out.gcell 1 rfl
  have z2 := RZ.out.gcell 2 rfl
  have z3 := RZ.out.gcell 3 rfl
  have z4 := RZ.out.gcell 4 rfl
  have z5 := RZ.out.gcell 5 rfl
  have z6 := RZ.out.gcell 6 rfl
  have z7 := RZ.out.gcell 7 rfl
  refine wp_region_quiet_below (by kernel_rfl) (by kernel_rfl) ?_
  repeat (go_big_quiet_step ((first | (go_at_call 26; with_reducible exact Calls.regrown_of (C1.out _)) | (go_at_call 26; with_reducible exact Calls.regrown_of (C2.out _)) | (go_at_call 26; with_reducible exact Calls.regrown_of (C3.out _)))))
  refine wpQuiet_nil ?_
  intro _ hw1
  obtain ⟨⟨d1, d1o⟩, hw1⟩ := hw1
  subst hw1
  clear x0 x1 x2 x3 x4 x5 x6 x7 y0 y1 y2 y3 y4 y5 y6 y7 z0 z1 z2 z3 z4 z5 z6 z7
  have RX2 := Lib.hid (RX.out.grown d1 d1o)
  have RY2 := Lib.hid (RY.out.grown d1 d1o)
  have RZ2 := Lib.hid (RZ.out.grown d1 d1o)
  have BW2 := Lib.hid (below_step BW (below_regrown _ d1 d1o))
  generalize Sort.grow (redrawn W6 d1) d1o = W7 at *
  clear BW
  obtain ⟨x0, x1, x2, x3, x4, x5, x6, x7⟩ := span_cells RX2.out
  obtain ⟨y0, y1, y2, y3, y4, y5, y6, y7⟩ := span_cells RY2.out
  go_wp2_with fail
  with_reducible refine (C4.out _).mono ?_
  rintro e w8 ⟨rfl, hb8⟩
  clear x0 x1 x2 x3 x4 x5 x6 x7 y0 y1 y2 y3 y4 y5 y6 y7
  have RX3 := Lib.hid (RX2.out.below hb8)
  have RZ3 := Lib.hid (RZ2.out.below hb8)
  have BW3 := Lib.hid (below_step BW2.out hb8)
  clear hb8
  go_wp2_with fail
  with_reducible refine (does3 _).mono ?_
  rintro e w10 ⟨rfl, hb10⟩
  go_wp2_with fail
  go_ret
  exact ⟨rfl, below_step BW3.out hb10⟩

theorem less_t {x y : M.Sp} : M.lessB x y = true ↔ x.trace < y.trace ∨ (x.trace = y.trace ∧ x.id < y.id) := by simp [M.lessB]
theorem less_f {x y : M.Sp} : M.lessB x y = false ↔ ¬ (x.trace < y.trace ∨ (x.trace = y.trace ∧ x.id < y.id)) := by
  rw [← less_t]; simp

theorem spansOrder_calls (u : Value) (hu : USp u) (v : Value) (hv : USp v) (v2 : Value) (hv2 : USp v2) (w : World) :
    Calls Try.prog 10 #[u, v, v2] w fun e w' => e = .returned (.bool true) ∧ Below w.heap.size w w' := by
  obtain ⟨x, rfl, _⟩ := hu
  obtain ⟨y, rfl, _⟩ := hv
  obtain ⟨z, rfl, _⟩ := hv2
  have hxx : M.lessB x x = false := less_f.2 (by omega)
  by_cases h1 : x.trace = y.trace
  · have e1 : (x.trace == y.trace) = true := by simpa using h1
    by_cases h2 : x.id = y.id
    · have e2 : (x.id == y.id) = true := by simpa using h2
      have ha : M.lessB x y = false := less_f.2 (by omega)
      have hb : M.lessB y x = false := less_f.2 (by omega)
      have hcd : M.lessB y z = M.lessB x z := by simp [M.lessB, h1, h2]
      cases hc : M.lessB y z with
      | true => exact order_same_t x y z w e1 e2 ha hb hxx hc (hcd ▸ hc)
      | false => exact order_same_f x y z w e1 e2 ha hb hxx hc (hcd ▸ hc)
    · have e2 : (x.id == y.id) = false := by simpa using h2
      by_cases h3 : x.id < y.id
      · have ha : M.lessB x y = true := less_t.2 (by omega)
        have hb : M.lessB y x = false := less_f.2 (by omega)
        cases hc : M.lessB y z with
        | true => exact order_i_tt x y z w e1 e2 ha hb hxx hc (less_t.2 (by have := less_t.1 hc; omega))
        | false => exact order_i_tf x y z w e1 e2 ha hb hxx hc
      · exact order_i_f x y z w e1 e2 (less_f.2 (by omega)) (less_t.2 (by omega)) hxx
  · have e1 : (x.trace == y.trace) = false := by simpa using h1
    by_cases h3 : x.trace < y.trace
    · have ha : M.lessB x y = true := less_t.2 (by omega)
      have hb : M.lessB y x = false := less_f.2 (by omega)
      cases hc : M.lessB y z with
      | true => exact order_t_tt x y z w e1 ha hb hxx hc (less_t.2 (by have := less_t.1 hc; omega))
      | false => exact order_t_tf x y z w e1 ha hb hxx hc
    · exact order_t_f x y z w e1 (less_f.2 (by omega)) (less_t.2 (by omega)) hxx

end Go.Proofs.Ytpbdmldooehafab
