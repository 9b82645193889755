/- Layer 3: the laws' walks: SpansDecode, SpansLess. -/
import Derived.Test.YtpbdmldooehafabSpansS
import Derived.Test.YtpbdmldooehafabSpansO
namespace Go.Proofs.Ytpbdmldooehafab
set_option linter.unusedVariables false
open Go Go.RowKit
attribute [local go_sem ↓] run_index_S
attribute [local go_sem] S_append S_extract

set_option maxHeartbeats 1000000 in
theorem spansDecode_calls (l : List UInt8) (hl : l.length ≤ 140737488351232) (w : World) :
    Calls Try.prog 6 #[.string (S l)] w fun e w' => e = .returned (.bool true) ∧ Below w.heap.size w w' := by
  by_cases hbig : 2000 < l.length
  · have dn : decide (2000 < (l.length : Int)) = true := by simp; omega
    go_enter Try.func6, Try.ntmps6
    go_wp2_with fail
    go_ret
    exact ⟨rfl, Below.refl _ _⟩
  · have dn : decide (2000 < (l.length : Int)) = false := by simp; omega
    have c1 := fun W => decode_any l hl W
    have c2 := fun W => refDecode_any l hl W
    simp only [spV, spC] at c1 c2
    generalize decX (M.dec l) = x at *
    generalize decE (M.dec l) = n at *
    have C1 := Lib.hid c1
    have C2 := Lib.hid c2
    clear c1 c2
    go_enter Try.func6, Try.ntmps6
    go_wp2_with fail
    with_reducible refine (C1.out _).mono ?_
    rintro e w1 ⟨rfl, hb1⟩
    have rx := rowIn_new #[.int .i64 x.trace, .int .i64 x.id, .int .i64 x.parent, .string (S x.svc), .string (S x.host), .int .i64 x.start, .int .i64 x.dur, .string (S x.note)] 30 w1
    have RX := Lib.hid rx
    clear rx
    go_wp2_with fail
    with_reducible refine (C2.out _).mono ?_
    rintro e w2 ⟨rfl, hb2⟩
    have rx := (RX.out.below hb2).more (.cells #[.int .i64 x.trace, .int .i64 x.id, .int .i64 x.parent, .string (S x.svc), .string (S x.host), .int .i64 x.start, .int .i64 x.dur, .string (S x.note)] 30)
    have x0 := rx.cell 0
    have x1 := rx.cell 1
    have x2 := rx.cell 2
    have x3 := rx.cell 3
    have x4 := rx.cell 4
    have x5 := rx.cell 5
    have x6 := rx.cell 6
    have x7 := rx.cell 7
    clear rx
    simp at x0 x1 x2 x3 x4 x5 x6 x7
    have bw := (below_step (hb1.alloc hb1.size _) hb2).alloc (below_step (hb1.alloc hb1.size _) hb2).size (.cells #[.int .i64 x.trace, .int .i64 x.id, .int .i64 x.parent, .string (S x.svc), .string (S x.host), .int .i64 x.start, .int .i64 x.dur, .string (S x.note)] 30)
    have BW := Lib.hid bw
    clear bw
    go_wp2_with fail
    with_reducible refine (does3 _).mono ?_
    rintro e w3 ⟨rfl, hb3⟩
    go_wp2_with fail
    go_ret
    exact ⟨rfl, below_step BW.out hb3⟩

set_option maxHeartbeats 1000000 in
theorem spansLess_calls (u : Value) (hu : USp u) (v : Value) (hv : USp v) (w : World) :
    Calls Try.prog 7 #[u, v] w fun e w' => e = .returned (.bool true) ∧ Below w.heap.size w w' := by
  obtain ⟨x, rfl, hx⟩ := hu
  obtain ⟨y, rfl, hy⟩ := hv
  have c1 := fun W => less_any x y W
  have c2 := fun W => refLess_any x y W
  have c3 := fun W => less_any y x W
  have c4 := fun W => refLess_any y x W
  have rx := (rowIn_new #[.int .i64 x.trace, .int .i64 x.id, .int .i64 x.parent, .string (S x.svc), .string (S x.host), .int .i64 x.start, .int .i64 x.dur, .string (S x.note)] 30 w).more (.cells #[.int .i64 y.trace, .int .i64 y.id, .int .i64 y.parent, .string (S y.svc), .string (S y.host), .int .i64 y.start, .int .i64 y.dur, .string (S y.note)] 30)
  have ry := rowIn_at #[.int .i64 y.trace, .int .i64 y.id, .int .i64 y.parent, .string (S y.svc), .string (S y.host), .int .i64 y.start, .int .i64 y.dur, .string (S y.note)] 30 (w.alloc (.cells #[.int .i64 x.trace, .int .i64 x.id, .int .i64 x.parent, .string (S x.svc), .string (S x.host), .int .i64 x.start, .int .i64 x.dur, .string (S x.note)] 30)) (w.heap.size + 1) (by simp)
  have RX := Lib.hid rx
  have RY := Lib.hid ry
  generalize M.lessB x y = p at *
  generalize M.lessB y x = q at *
  have C1 := Lib.hid c1
  have C2 := Lib.hid c2
  have C3 := Lib.hid c3
  have C4 := Lib.hid c4
  clear c1 c2 c3 c4 rx ry
  go_enter Try.func7, Try.ntmps7
  go_wp2_with fail
  have bw : Below w.heap.size w ((w.alloc (.cells #[.int .i64 x.trace, .int .i64 x.id, .int .i64 x.parent, .string (S x.svc), .string (S x.host), .int .i64 x.start, .int .i64 x.dur, .string (S x.note)] 30)).alloc (.cells #[.int .i64 y.trace, .int .i64 y.id, .int .i64 y.parent, .string (S y.svc), .string (S y.host), .int .i64 y.start, .int .i64 y.dur, .string (S y.note)] 30)) := ((Below.refl _ _).alloc (Nat.le_refl _) _).alloc (by simp) _
  have BW := Lib.hid bw
  clear bw
  generalize (w.alloc (.cells #[.int .i64 x.trace, .int .i64 x.id, .int .i64 x.parent, .string (S x.svc), .string (S x.host), .int .i64 x.start, .int .i64 x.dur, .string (S x.note)] 30)).alloc (.cells #[.int .i64 y.trace, .int .i64 y.id, .int .i64 y.parent, .string (S y.svc), .string (S y.host), .int .i64 y.start, .int .i64 y.dur, .string (S y.note)] 30) = W6 at *
  have x0 := RX.out.gcell 0 rfl
  have x1 := RX.out.gcell 1 rfl
  have x2 := RX.out.gcell 2 rfl
  have x3 := RX.out.gcell 3 rfl
  have x4 := RX.out.gcell 4 rfl
  have x5 := RX.out.gcell 5 rfl
  have x6 := RX.out.gcell 6 rfl
  have x7 := RX.out.gcell 7 rfl
  have y0 := RY.out.gcell 0 rfl
  have y1 := RY.out.gcell 1 rfl
  have y2 := RY.out.gcell 2 rfl
  have y3 := RY.out.gcell 3 rfl
  have y4 := RY.out.gcell 4 rfl
  have y5 := RY.out.gcell 5 rfl
  have y6 := RY.out.gcell 6 rfl
  have y7 := RY.out.gcell 7 rfl
  refine wp_region_quiet_below (by kernel_rfl) (by kernel_rfl) ?_
  repeat (go_big_quiet_step ((first | (go_at_call 26; with_reducible exact Calls.regrown_of (C1.out _)) | (go_at_call 26; with_reducible exact Calls.regrown_of (C3.out _)) | (go_at_call 27; with_reducible exact Calls.regrown_of (C2.out _)) | (go_at_call 27; with_reducible exact Calls.regrown_of (C4.out _)) | (go_at_call 23; with_reducible exact Calls.regrown_of (does3 _)))))
  refine wpQuiet_nil ?_
  intro _ hw1
  obtain ⟨⟨d1, o1⟩, hw1⟩ := hw1
  subst hw1
  go_wp2_with fail
  go_ret
  exact ⟨rfl, below_step BW.out (below_regrown _ d1 o1)⟩

end Go.Proofs.Ytpbdmldooehafab
