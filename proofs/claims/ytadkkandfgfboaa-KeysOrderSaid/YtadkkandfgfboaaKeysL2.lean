/- Layer 8: the laws' walks: KeysOf, KeysStretch. -/
import Derived.Test.YtadkkandfgfboaaKeysL
import Derived.Test.YtadkkandfgfboaaSpansL7
namespace Go.Proofs.Ytadkkandfgfboaa
set_option linter.unusedVariables false
open Go Go.RowKit Go.Sort
attribute [local go_sem ↓] run_index_S
attribute [local go_sem] S_append S_extract

abbrev spA (x : M.Sp) : Array Value := #[.int .i64 x.trace, .int .i64 x.id, .int .i64 x.parent, .string (S x.svc), .string (S x.host), .int .i64 x.start, .int .i64 x.dur, .string (S x.note)]

set_option maxHeartbeats 2000000 in
set_option maxRecDepth 100000 in
theorem keysOf_long (t i : Int) (x : M.Sp) (h : 1000 < x.svc.length ∨ 1000 < x.host.length ∨ 1000 < x.note.length) (w : World) :
    Calls Try.prog 3 #[.int .i64 t, .int .i64 i, .agg (spA x)] w fun e w' => e = .returned (.bool true) ∧ Below w.heap.size w w' := by
  have RX := Lib.hid (rowIn_new (spA x) 23 w)
  have BW := (Below.refl w.heap.size w).alloc (Nat.le_refl _) (.cells (spA x) 23)
  obtain ⟨x0, x1, x2, x3, x4, x5, x6, x7⟩ := span_cells RX.out
  by_cases h1 : 1000 < x.svc.length
  · have d1 : decide (1000 < (x.svc.length : Int)) = true := by simp; omega
    go_enter Try.func3, Try.ntmps3
    go_wp2_with fail
    go_ret
    exact ⟨rfl, BW⟩
  have d1 : decide (1000 < (x.svc.length : Int)) = false := by simp; omega
  by_cases h2 : 1000 < x.host.length
  · have d2 : decide (1000 < (x.host.length : Int)) = true := by simp; omega
    go_enter Try.func3, Try.ntmps3
    go_wp2_with fail
    go_ret
    exact ⟨rfl, BW⟩
  have d2 : decide (1000 < (x.host.length : Int)) = false := by simp; omega
  have h3 : 1000 < x.note.length := by omega
  have d3 : decide (1000 < (x.note.length : Int)) = true := by simp; omega
  go_enter Try.func3, Try.ntmps3
  go_wp2_with fail
  go_ret
  exact ⟨rfl, BW⟩

set_option maxHeartbeats 2000000 in
set_option maxRecDepth 100000 in
theorem keysOf_mid (t i : Int) (x : M.Sp) (hx : x.fits) (h1 : x.svc.length ≤ 1000) (h2 : x.host.length ≤ 1000) (h3 : x.note.length ≤ 1000) (w : World) :
    Calls Try.prog 3 #[.int .i64 t, .int .i64 i, .agg (spA x)] w fun e w' => e = .returned (.bool true) ∧ Below w.heap.size w w' := by
  have RX := Lib.hid (rowIn_new (spA x) 23 w)
  have BW := Lib.hid ((Below.refl w.heap.size w).alloc (Nat.le_refl _) (.cells (spA x) 23))
  obtain ⟨x0, x1, x2, x3, x4, x5, x6, x7⟩ := span_cells RX.out
  have d1 : decide (1000 < (x.svc.length : Int)) = false := by simp; omega
  have d2 : decide (1000 < (x.host.length : Int)) = false := by simp; omega
  have d3 : decide (1000 < (x.note.length : Int)) = false := by simp; omega
  have c1 := fun W => of_any t i W
  have c2 := fun W => refOf_any t i W
  have c3 := fun W => index_any x hx W
  have c4 := fun W => refIndex_any x hx W
  have c5 := fun W => trace_any t W
  have c6 := fun W => refTrace_any t W
  generalize M.ofK t i = s1 at *
  generalize M.errOf (M.okOf t i) = e1 at *
  generalize M.idxK x = s2 at *
  generalize M.errOf (M.mayB x) = e2 at *
  generalize M.fromK t = s3 at *
  generalize M.toK t = s4 at *
  have C1 := Lib.hid c1
  have C2 := Lib.hid c2
  have C3 := Lib.hid c3
  have C4 := Lib.hid c4
  have C5 := Lib.hid c5
  have C6 := Lib.hid c6
  clear c1 c2 c3 c4 c5 c6
  go_enter Try.func3, Try.ntmps3
  go_wp2_with fail
  with_reducible refine (C1.out _).mono ?_
  rintro e w1 ⟨rfl, hb1⟩
  clear x0 x1 x2 x3 x4 x5 x6 x7
  have RX1 := Lib.hid (RX.out.below hb1)
  have BW1 := Lib.hid (below_step BW.out hb1)
  clear hb1
  go_wp2_with fail
  with_reducible refine (C2.out _).mono ?_
  rintro e w2 ⟨rfl, hb2⟩
  have RX2 := Lib.hid (RX1.out.below hb2)
  have BW2 := Lib.hid (below_step BW1.out hb2)
  clear hb2
  obtain ⟨x0, x1, x2, x3, x4, x5, x6, x7⟩ := span_cells RX2.out
  go_wp2_with fail
  with_reducible refine (C3.out _).mono ?_
  rintro e w3 ⟨rfl, hb3⟩
  clear x0 x1 x2 x3 x4 x5 x6 x7
  have RX3 := Lib.hid (RX2.out.below hb3)
  have BW3 := Lib.hid (below_step BW2.out hb3)
  clear hb3
  obtain ⟨x0, x1, x2, x3, x4, x5, x6, x7⟩ := span_cells RX3.out
  go_wp2_with fail
  with_reducible refine (C4.out _).mono ?_
  rintro e w4 ⟨rfl, hb4⟩
  clear x0 x1 x2 x3 x4 x5 x6 x7
  have BW4 := Lib.hid (below_step BW3.out hb4)
  clear hb4
  go_wp2_with fail
  with_reducible refine (C5.out _).mono ?_
  rintro e w5 ⟨rfl, hb5⟩
  have BW5 := Lib.hid (below_step BW4.out hb5)
  clear hb5
  go_wp2_with fail
  with_reducible refine (C6.out _).mono ?_
  rintro e w6 ⟨rfl, hb6⟩
  have BW6 := Lib.hid (below_step BW5.out hb6)
  clear hb6
  go_wp2_with fail
  with_reducible refine (does8 _).mono ?_
  rintro e w7 ⟨rfl, hb7⟩
  go_wp2_with fail
  go_ret
  exact ⟨rfl, below_step BW6.out hb7⟩

theorem keysOf_calls (t : Int) (wt : (Lit.int .i64 t).wf = true) (i : Int) (wi : (Lit.int .i64 i).wf = true) (u : Value) (hu : USp u) (w : World) :
    Calls Try.prog 3 #[.int .i64 t, .int .i64 i, u] w fun e w' => e = .returned (.bool true) ∧ Below w.heap.size w w' := by
  obtain ⟨x, rfl, hi⟩ := hu
  by_cases h : 1000 < x.svc.length ∨ 1000 < x.host.length ∨ 1000 < x.note.length
  · exact keysOf_long t i x h w
  · exact keysOf_mid t i x (hi.fits (by omega) (by omega) (by omega)) (by omega) (by omega) (by omega) w

set_option maxHeartbeats 2000000 in
set_option maxRecDepth 100000 in
theorem keysStretch_calls (v : Value) (hv : Str2 v) (f : Int) (wf : (Lit.int .i64 f).wf = true) (t : Int) (wt : (Lit.int .i64 t).wf = true) (w : World) :
    Calls Try.prog 4 #[v, .int .i64 f, .int .i64 t] w fun e w' => e = .returned (.bool true) ∧ Below w.heap.size w w' := by
  obtain ⟨a, b, rfl⟩ := hv
  have RA := Lib.hid (rowIn_new #[.string (S a), .string (S b)] 32 w)
  have BW := Lib.hid ((Below.refl w.heap.size w).alloc (Nat.le_refl _) (.cells #[.string (S a), .string (S b)] 32))
  have a0 := RA.out.cell 0
  have a1 := RA.out.cell 1
  simp at a0 a1
  by_cases h1 : 1000 < a.length
  · have d1 : decide (1000 < (a.length : Int)) = true := by simp; omega
    go_enter Try.func4, Try.ntmps4
    go_wp2_with fail
    go_ret
    exact ⟨rfl, BW.out⟩
  have d1 : decide (1000 < (a.length : Int)) = false := by simp; omega
  by_cases h2 : 1000 < b.length
  · have d2 : decide (1000 < (b.length : Int)) = true := by simp; omega
    go_enter Try.func4, Try.ntmps4
    go_wp2_with fail
    go_ret
    exact ⟨rfl, BW.out⟩
  have d2 : decide (1000 < (b.length : Int)) = false := by simp; omega
  have c1 := fun W => stretch_any a b (by omega) (by omega) f t W
  have c2 := fun W => refStretch_any a b (by omega) (by omega) f t W
  generalize M.fromS a b f t = s1 at *
  generalize M.toS a b f t = s2 at *
  have C1 := Lib.hid c1
  have C2 := Lib.hid c2
  clear c1 c2
  go_enter Try.func4, Try.ntmps4
  go_wp2_with fail
  with_reducible refine (C1.out _).mono ?_
  rintro e w1 ⟨rfl, hb1⟩
  have RA1 := Lib.hid (RA.out.below hb1)
  have BW1 := Lib.hid (below_step BW.out hb1)
  clear hb1 a0 a1
  have a0 := RA1.out.cell 0
  have a1 := RA1.out.cell 1
  simp at a0 a1
  go_wp2_with fail
  with_reducible refine (C2.out _).mono ?_
  rintro e w2 ⟨rfl, hb2⟩
  have BW2 := Lib.hid (below_step BW1.out hb2)
  clear hb2 a0 a1
  go_wp2_with fail
  with_reducible refine (does8 _).mono ?_
  rintro e w3 ⟨rfl, hb3⟩
  go_wp2_with fail
  go_ret
  exact ⟨rfl, below_step BW2.out hb3⟩

end Go.Proofs.Ytadkkandfgfboaa
