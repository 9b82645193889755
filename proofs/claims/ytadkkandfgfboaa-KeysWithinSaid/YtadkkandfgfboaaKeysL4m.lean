/- Layer 8: the laws' walks: KeysWithin. -/
import Derived.Test.YtadkkandfgfboaaKeysL3
namespace Go.Proofs.Ytadkkandfgfboaa
set_option linter.unusedVariables false
open Go Go.RowKit Go.Sort
attribute [local go_sem ↓] run_index_S
attribute [local go_sem] S_append S_extract

theorem M.within1 (t i : Nat) (x : Int) (ht : M.idB t = true) (hi : M.idB i = true) : (M.fromK x == M.spanK t i) = false ∧ (Op.bytesLess (M.fromK x) (M.spanK t i) && Op.bytesLess (M.spanK t i) (M.toK x)) = (x == (t : Int)) := by
  have hne : M.fromK x ≠ M.spanK t i := fun e => by
    have := congrArg List.length e
    unfold M.fromK at this
    split at this <;> simp [M.traceK, M.spanK, M.bigN_length] at this
  refine ⟨by simpa using hne, ?_⟩
  rw [← M.within_span t i x ht hi, M.less_flip _ _ hne.symm]
theorem M.within2 (a b c d : List UInt8) (ha : M.nameB a = true) (hb : M.nameB b = true) (hc : M.nameB c = true) (hd : M.nameB d = true) (hl : a.length + b.length = c.length + d.length) (st t i : Nat) (hs : st ≤ 1073741824) (f g : Int) :
    (M.fromS c d f g == M.indexK a b st t i) = false ∧ (Op.bytesLess (M.fromS c d f g) (M.indexK a b st t i) && Op.bytesLess (M.indexK a b st t i) (M.toS c d f g)) = (decide (f ≤ (st : Int)) && decide ((st : Int) ≤ g) && (a == c) && (b == d)) := by
  have hne : M.fromS c d f g ≠ M.indexK a b st t i := fun e => by
    have := congrArg List.length e
    unfold M.fromS at this
    split at this <;> simp [M.aheadK, M.indexK, M.bigN_length] at this
    omega
  refine ⟨by simpa using hne, ?_⟩
  rw [← M.within_index a b c d ha hb hc hd st t i hs f g, M.less_flip _ _ hne.symm]
theorem row_index {a b : List UInt8} {st t i : Nat} (ha : M.nameB a = true) (hb : M.nameB b = true) (hs : st ≤ 1073741824) (ht : M.idB t = true) (hi : M.idB i = true) : M.rowK (M.indexK a b st t i) = M.indexK a b st t i := by
  rw [M.rowK, M.parse_index a b ha hb st t i hs ht hi]
  simp

set_option maxHeartbeats 4000000 in
set_option maxRecDepth 100000 in
theorem within_g (x : M.Sp) (tr f g : Int) (h1 : M.great8 x = true) (w : World) :
    Calls Try.prog 8 #[.agg (spA x), .int .i64 tr, .agg #[.int .i64 f, .int .i64 g]] w fun e w' => e = .returned (.bool true) ∧ Below w.heap.size w w' := by
  have c1 := fun W => great8_any x W
  rw [h1] at c1
  have C1 := Lib.hid c1
  clear c1
  have RX := Lib.hid ((rowIn_new (spA x) 23 w).more (.cells #[.int .i64 f, .int .i64 g] 52))
  have RY := Lib.hid (rowIn_at #[.int .i64 f, .int .i64 g] 52 (w.alloc (.cells (spA x) 23)) (w.heap.size + 1) (by simp))
  have BW := Lib.hid (((Below.refl w.heap.size w).alloc (Nat.le_refl _) (.cells (spA x) 23)).alloc (by simp) (.cells #[.int .i64 f, .int .i64 g] 52))
  obtain ⟨x0, x1, x2, x3, x4, x5, x6, x7⟩ := span_cells RX.out
  go_enter Try.func8, Try.ntmps8
  go_wp2_with fail
  with_reducible refine (C1.out _).mono ?_
  rintro e w1 ⟨rfl, hb1⟩
  clear x0 x1 x2 x3 x4 x5 x6 x7
  have RX1 := Lib.hid (RX.out.below hb1)
  have RY1 := Lib.hid (RY.out.below hb1)
  have BW1 := Lib.hid (below_step BW.out hb1)
  clear hb1
  go_wp2_with fail
  with_reducible refine (does8 _).mono ?_
  rintro e w9 ⟨rfl, hb9⟩
  go_wp2_with fail
  go_ret
  exact ⟨rfl, below_step BW1.out hb9⟩

set_option maxHeartbeats 4000000 in
set_option maxRecDepth 100000 in
theorem within_m (x : M.Sp) (tr f g : Int) (hx : x.fits) (h1 : M.great8 x = false) (h2 : M.mayB x = false) (w : World) :
    Calls Try.prog 8 #[.agg (spA x), .int .i64 tr, .agg #[.int .i64 f, .int .i64 g]] w fun e w' => e = .returned (.bool true) ∧ Below w.heap.size w w' := by
  have c1 := fun W => great8_any x W
  rw [h1] at c1
  have C1 := Lib.hid c1
  clear c1
  have c2 := fun W => check_any x hx W
  rw [h2] at c2
  simp only [M.errOf] at c2
  have C2 := Lib.hid c2
  clear c2
  have RX := Lib.hid ((rowIn_new (spA x) 23 w).more (.cells #[.int .i64 f, .int .i64 g] 52))
  have RY := Lib.hid (rowIn_at #[.int .i64 f, .int .i64 g] 52 (w.alloc (.cells (spA x) 23)) (w.heap.size + 1) (by simp))
  have BW := Lib.hid (((Below.refl w.heap.size w).alloc (Nat.le_refl _) (.cells (spA x) 23)).alloc (by simp) (.cells #[.int .i64 f, .int .i64 g] 52))
  obtain ⟨x0, x1, x2, x3, x4, x5, x6, x7⟩ := span_cells RX.out
  go_enter Try.func8, Try.ntmps8
  go_wp2_with fail
  with_reducible refine (C1.out _).mono ?_
  rintro e w1 ⟨rfl, hb1⟩
  clear x0 x1 x2 x3 x4 x5 x6 x7
  have RX1 := Lib.hid (RX.out.below hb1)
  have RY1 := Lib.hid (RY.out.below hb1)
  have BW1 := Lib.hid (below_step BW.out hb1)
  clear hb1
  obtain ⟨x0, x1, x2, x3, x4, x5, x6, x7⟩ := span_cells RX1.out
  go_wp2_with fail
  with_reducible refine (C2.out _).mono ?_
  rintro e w2 ⟨rfl, hb2⟩
  clear x0 x1 x2 x3 x4 x5 x6 x7
  have RX2 := Lib.hid (RX1.out.below hb2)
  have RY2 := Lib.hid (RY1.out.below hb2)
  have BW2 := Lib.hid (below_step BW1.out hb2)
  clear hb2
  go_wp2_with fail
  with_reducible refine (does8 _).mono ?_
  rintro e w9 ⟨rfl, hb9⟩
  go_wp2_with fail
  go_ret
  exact ⟨rfl, below_step BW2.out hb9⟩

end Go.Proofs.Ytadkkandfgfboaa
