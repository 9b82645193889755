/- Layer 3: the laws' walks: SpansApart. -/
import Derived.Test.YtpbdmldooehafabSpansL4
namespace Go.Proofs.Ytpbdmldooehafab
set_option linter.unusedVariables false
open Go Go.RowKit
attribute [local go_sem ↓] run_index_S
attribute [local go_sem] S_append S_extract

/-- Two texts by value. -/
def Str2 (v : Value) : Prop := ∃ a b : List UInt8, v = .agg #[.string (S a), .string (S b)]
theorem open_str2 {H : Type} {enc : TypeId × Value → H} {W : World} {r : Reach} {b0 : Nat} {v : Value} {d : DataW H} {p : List MemPlace}
    (hv : Value.okWide Try.prog W r b0 41 v) (h : DataW.Trod enc Try.prog W 0 (fun _ => true) true 41 v d p) : Str2 v := by
  simp only [Value.okWide, Try.underlying41] at hv
  obtain ⟨cs, rfl, hsz, _⟩ := hv
  obtain ⟨fuel, hf⟩ := h
  have c41 : Try.prog.cellsOf 41 = 2 := by kernel_rfl
  have c5 : Try.prog.cellsOf 9 = 1 := by kernel_rfl
  obtain ⟨c0, c1, rfl⟩ := Joins.array2 (hsz.trans c41)
  obtain ⟨xs, m, _, _, _, hn, hel⟩ := DataW.trod_array Try.underlying41 hf
  have h0 := hel 0 (by decide)
  have h1 := hel 1 (by decide)
  rw [c5] at h0 h1
  obtain ⟨x0, hx0⟩ : ∃ x, xs[0]? = some x := ⟨xs[0], by simp [hn]⟩
  obtain ⟨x1, hx1⟩ : ∃ x, xs[1]? = some x := ⟨xs[1], by simp [hn]⟩
  rw [hx0] at h0
  rw [hx1] at h1
  obtain ⟨a, e0, _, w0⟩ := DataW.trod_string Try.underlying9 h0
  obtain ⟨b, e1, _, w1⟩ := DataW.trod_string Try.underlying9 h1
  simp [Value.cells] at e0 e1
  exact ⟨a.data.toList, b.data.toList, by rw [e0, e1]⟩

theorem M.enc_pre {x y : M.Sp} (hx : x.fits) (hy : y.fits) (mx : M.mayB x = true) (my : M.mayB y = true) {a b : List UInt8} (h : M.enc x ++ a = M.enc y ++ b) : x = y ∧ a = b := by
  have nx : ∀ n ∈ M.nums x, n ≤ 9223372036854775807 := fun n hn => by
    obtain ⟨k, hk, rfl⟩ := List.getElem_of_mem hn
    have := M.nums_le hx k
    simpa [List.getD, List.getElem?_eq_getElem hk] using this
  have ny : ∀ n ∈ M.nums y, n ≤ 9223372036854775807 := fun n hn => by
    obtain ⟨k, hk, rfl⟩ := List.getElem_of_mem hn
    have := M.nums_le hy k
    simpa [List.getD, List.getElem?_eq_getElem hk] using this
  have h1 := M.takeN_enc [] 5 (M.nums x) [] (M.encT (M.txts x) ++ a) rfl nx
  have h2 := M.takeN_enc [] 5 (M.nums y) [] (M.encT (M.txts y) ++ b) rfl ny
  have t1 := M.takeT_enc 3 (M.txts x) (M.encN (M.nums x)) a rfl (fun t ht => by have := M.txts_mem mx t ht; omega)
  have t2 := M.takeT_enc 3 (M.txts y) (M.encN (M.nums y)) b rfl (fun t ht => by have := M.txts_mem my t ht; omega)
  have ex : M.enc x ++ a = M.encN (M.nums x) ++ M.encT (M.txts x) ++ a := rfl
  have ey : M.enc y ++ b = M.encN (M.nums y) ++ M.encT (M.txts y) ++ b := rfl
  simp only [List.nil_append, List.length_nil, Nat.zero_add, ← List.append_assoc] at h1 h2
  rw [← ex, h] at h1 t1
  rw [← ey] at h2 t2
  rw [h2] at h1
  simp only [Option.some.injEq, Prod.mk.injEq] at h1
  rw [← h1.2, t2] at t1
  simp only [Option.some.injEq, Prod.mk.injEq] at t1
  have e : x = y := by rw [← M.spOf_nums mx, ← M.spOf_nums my, h1.1, t1.1]
  subst e
  exact ⟨rfl, List.append_cancel_left h⟩
theorem M.enc_inj {x y : M.Sp} (hx : x.fits) (hy : y.fits) (mx : M.mayB x = true) (my : M.mayB y = true) (h : M.enc x = M.enc y) : x = y :=
  (M.enc_pre hx hy mx my (a := []) (b := []) (by rw [h])).1

set_option maxHeartbeats 2000000 in
set_option maxRecDepth 100000 in
theorem apart_gx (x y : M.Sp) (a b : List UInt8) (w : World) (hg : M.greatB x = true) :
    Calls Try.prog 9 #[.agg #[.int .i64 x.trace, .int .i64 x.id, .int .i64 x.parent, .string (S x.svc), .string (S x.host), .int .i64 x.start, .int .i64 x.dur, .string (S x.note)], .agg #[.int .i64 y.trace, .int .i64 y.id, .int .i64 y.parent, .string (S y.svc), .string (S y.host), .int .i64 y.start, .int .i64 y.dur, .string (S y.note)], .agg #[.string (S a), .string (S b)]] w fun e w' => e = .returned (.bool true) ∧ Below w.heap.size w w' := by
  have cg := fun W => great_any x W
  rw [hg] at cg
  have CG := Lib.hid cg
  clear cg hg
  have RX := Lib.hid (((rowIn_new #[.int .i64 x.trace, .int .i64 x.id, .int .i64 x.parent, .string (S x.svc), .string (S x.host), .int .i64 x.start, .int .i64 x.dur, .string (S x.note)] 30 w).more (.cells #[.int .i64 y.trace, .int .i64 y.id, .int .i64 y.parent, .string (S y.svc), .string (S y.host), .int .i64 y.start, .int .i64 y.dur, .string (S y.note)] 30)).more (.cells #[.string (S a), .string (S b)] 41))
  have RY := Lib.hid ((rowIn_at #[.int .i64 y.trace, .int .i64 y.id, .int .i64 y.parent, .string (S y.svc), .string (S y.host), .int .i64 y.start, .int .i64 y.dur, .string (S y.note)] 30 (w.alloc (.cells #[.int .i64 x.trace, .int .i64 x.id, .int .i64 x.parent, .string (S x.svc), .string (S x.host), .int .i64 x.start, .int .i64 x.dur, .string (S x.note)] 30)) (w.heap.size + 1) (by simp)).more (.cells #[.string (S a), .string (S b)] 41))
  have RA := Lib.hid (rowIn_at #[.string (S a), .string (S b)] 41 ((w.alloc (.cells #[.int .i64 x.trace, .int .i64 x.id, .int .i64 x.parent, .string (S x.svc), .string (S x.host), .int .i64 x.start, .int .i64 x.dur, .string (S x.note)] 30)).alloc (.cells #[.int .i64 y.trace, .int .i64 y.id, .int .i64 y.parent, .string (S y.svc), .string (S y.host), .int .i64 y.start, .int .i64 y.dur, .string (S y.note)] 30)) (w.heap.size + 1 + 1) (by simp))
  have BW := Lib.hid ((((Below.refl w.heap.size w).alloc (Nat.le_refl _) (.cells #[.int .i64 x.trace, .int .i64 x.id, .int .i64 x.parent, .string (S x.svc), .string (S x.host), .int .i64 x.start, .int .i64 x.dur, .string (S x.note)] 30)).alloc (by simp) (.cells #[.int .i64 y.trace, .int .i64 y.id, .int .i64 y.parent, .string (S y.svc), .string (S y.host), .int .i64 y.start, .int .i64 y.dur, .string (S y.note)] 30)).alloc (by simp; omega) (.cells #[.string (S a), .string (S b)] 41))
  go_enter Try.func9, Try.ntmps9
  go_wp2_with fail
  with_reducible refine (CG.out _).mono ?_
  rintro e w1 ⟨rfl, hb1⟩
  go_wp2_with fail
  go_ret
  exact ⟨rfl, below_step BW.out hb1⟩

set_option maxHeartbeats 2000000 in
set_option maxRecDepth 100000 in
theorem apart_gy (x y : M.Sp) (a b : List UInt8) (w : World) (hg : M.greatB x = false) (hh : M.greatB y = true) :
    Calls Try.prog 9 #[.agg #[.int .i64 x.trace, .int .i64 x.id, .int .i64 x.parent, .string (S x.svc), .string (S x.host), .int .i64 x.start, .int .i64 x.dur, .string (S x.note)], .agg #[.int .i64 y.trace, .int .i64 y.id, .int .i64 y.parent, .string (S y.svc), .string (S y.host), .int .i64 y.start, .int .i64 y.dur, .string (S y.note)], .agg #[.string (S a), .string (S b)]] w fun e w' => e = .returned (.bool true) ∧ Below w.heap.size w w' := by
  have cg := fun W => great_any x W
  rw [hg] at cg
  have CG := Lib.hid cg
  clear cg hg
  have ch := fun W => great_any y W
  rw [hh] at ch
  have CH := Lib.hid ch
  clear ch hh
  have RX := Lib.hid (((rowIn_new #[.int .i64 x.trace, .int .i64 x.id, .int .i64 x.parent, .string (S x.svc), .string (S x.host), .int .i64 x.start, .int .i64 x.dur, .string (S x.note)] 30 w).more (.cells #[.int .i64 y.trace, .int .i64 y.id, .int .i64 y.parent, .string (S y.svc), .string (S y.host), .int .i64 y.start, .int .i64 y.dur, .string (S y.note)] 30)).more (.cells #[.string (S a), .string (S b)] 41))
  have RY := Lib.hid ((rowIn_at #[.int .i64 y.trace, .int .i64 y.id, .int .i64 y.parent, .string (S y.svc), .string (S y.host), .int .i64 y.start, .int .i64 y.dur, .string (S y.note)] 30 (w.alloc (.cells #[.int .i64 x.trace, .int .i64 x.id, .int .i64 x.parent, .string (S x.svc), .string (S x.host), .int .i64 x.start, .int .i64 x.dur, .string (S x.note)] 30)) (w.heap.size + 1) (by simp)).more (.cells #[.string (S a), .string (S b)] 41))
  have RA := Lib.hid (rowIn_at #[.string (S a), .string (S b)] 41 ((w.alloc (.cells #[.int .i64 x.trace, .int .i64 x.id, .int .i64 x.parent, .string (S x.svc), .string (S x.host), .int .i64 x.start, .int .i64 x.dur, .string (S x.note)] 30)).alloc (.cells #[.int .i64 y.trace, .int .i64 y.id, .int .i64 y.parent, .string (S y.svc), .string (S y.host), .int .i64 y.start, .int .i64 y.dur, .string (S y.note)] 30)) (w.heap.size + 1 + 1) (by simp))
  have BW := Lib.hid ((((Below.refl w.heap.size w).alloc (Nat.le_refl _) (.cells #[.int .i64 x.trace, .int .i64 x.id, .int .i64 x.parent, .string (S x.svc), .string (S x.host), .int .i64 x.start, .int .i64 x.dur, .string (S x.note)] 30)).alloc (by simp) (.cells #[.int .i64 y.trace, .int .i64 y.id, .int .i64 y.parent, .string (S y.svc), .string (S y.host), .int .i64 y.start, .int .i64 y.dur, .string (S y.note)] 30)).alloc (by simp; omega) (.cells #[.string (S a), .string (S b)] 41))
  go_enter Try.func9, Try.ntmps9
  go_wp2_with fail
  with_reducible refine (CG.out _).mono ?_
  rintro e w1 ⟨rfl, hb1⟩
  have RY1 := Lib.hid (RY.out.below hb1)
  have BW1 := Lib.hid (below_step BW.out hb1)
  clear hb1
  obtain ⟨y0, y1, y2, y3, y4, y5, y6, y7⟩ := span_cells RY1.out
  go_wp2_with fail
  with_reducible refine (CH.out _).mono ?_
  rintro e w2 ⟨rfl, hb2⟩
  go_wp2_with fail
  go_ret
  exact ⟨rfl, below_step BW1.out hb2⟩

set_option maxHeartbeats 2000000 in
set_option maxRecDepth 100000 in
theorem apart_la (x y : M.Sp) (a b : List UInt8) (w : World) (hg : M.greatB x = false) (hh : M.greatB y = false) (da : decide (1000 < (a.length : Int)) = true) :
    Calls Try.prog 9 #[.agg #[.int .i64 x.trace, .int .i64 x.id, .int .i64 x.parent, .string (S x.svc), .string (S x.host), .int .i64 x.start, .int .i64 x.dur, .string (S x.note)], .agg #[.int .i64 y.trace, .int .i64 y.id, .int .i64 y.parent, .string (S y.svc), .string (S y.host), .int .i64 y.start, .int .i64 y.dur, .string (S y.note)], .agg #[.string (S a), .string (S b)]] w fun e w' => e = .returned (.bool true) ∧ Below w.heap.size w w' := by
  have cg := fun W => great_any x W
  rw [hg] at cg
  have CG := Lib.hid cg
  clear cg hg
  have ch := fun W => great_any y W
  rw [hh] at ch
  have CH := Lib.hid ch
  clear ch hh
  have RX := Lib.hid (((rowIn_new #[.int .i64 x.trace, .int .i64 x.id, .int .i64 x.parent, .string (S x.svc), .string (S x.host), .int .i64 x.start, .int .i64 x.dur, .string (S x.note)] 30 w).more (.cells #[.int .i64 y.trace, .int .i64 y.id, .int .i64 y.parent, .string (S y.svc), .string (S y.host), .int .i64 y.start, .int .i64 y.dur, .string (S y.note)] 30)).more (.cells #[.string (S a), .string (S b)] 41))
  have RY := Lib.hid ((rowIn_at #[.int .i64 y.trace, .int .i64 y.id, .int .i64 y.parent, .string (S y.svc), .string (S y.host), .int .i64 y.start, .int .i64 y.dur, .string (S y.note)] 30 (w.alloc (.cells #[.int .i64 x.trace, .int .i64 x.id, .int .i64 x.parent, .string (S x.svc), .string (S x.host), .int .i64 x.start, .int .i64 x.dur, .string (S x.note)] 30)) (w.heap.size + 1) (by simp)).more (.cells #[.string (S a), .string (S b)] 41))
  have RA := Lib.hid (rowIn_at #[.string (S a), .string (S b)] 41 ((w.alloc (.cells #[.int .i64 x.trace, .int .i64 x.id, .int .i64 x.parent, .string (S x.svc), .string (S x.host), .int .i64 x.start, .int .i64 x.dur, .string (S x.note)] 30)).alloc (.cells #[.int .i64 y.trace, .int .i64 y.id, .int .i64 y.parent, .string (S y.svc), .string (S y.host), .int .i64 y.start, .int .i64 y.dur, .string (S y.note)] 30)) (w.heap.size + 1 + 1) (by simp))
  have BW := Lib.hid ((((Below.refl w.heap.size w).alloc (Nat.le_refl _) (.cells #[.int .i64 x.trace, .int .i64 x.id, .int .i64 x.parent, .string (S x.svc), .string (S x.host), .int .i64 x.start, .int .i64 x.dur, .string (S x.note)] 30)).alloc (by simp) (.cells #[.int .i64 y.trace, .int .i64 y.id, .int .i64 y.parent, .string (S y.svc), .string (S y.host), .int .i64 y.start, .int .i64 y.dur, .string (S y.note)] 30)).alloc (by simp; omega) (.cells #[.string (S a), .string (S b)] 41))
  go_enter Try.func9, Try.ntmps9
  go_wp2_with fail
  with_reducible refine (CG.out _).mono ?_
  rintro e w1 ⟨rfl, hb1⟩
  have RX1 := Lib.hid (RX.out.below hb1)
  have RY1 := Lib.hid (RY.out.below hb1)
  have RA1 := Lib.hid (RA.out.below hb1)
  have BW1 := Lib.hid (below_step BW.out hb1)
  clear hb1
  obtain ⟨y0, y1, y2, y3, y4, y5, y6, y7⟩ := span_cells RY1.out
  go_wp2_with fail
  with_reducible refine (CH.out _).mono ?_
  rintro e w2 ⟨rfl, hb2⟩
  clear y0 y1 y2 y3 y4 y5 y6 y7
  have RX2 := Lib.hid (RX1.out.below hb2)
  have RY2 := Lib.hid (RY1.out.below hb2)
  have RA2 := Lib.hid (RA1.out.below hb2)
  have BW2 := Lib.hid (below_step BW1.out hb2)
  clear hb2
  obtain ⟨x0, x1, x2, x3, x4, x5, x6, x7⟩ := span_cells RX2.out
  have a0 := RA2.out.cell 0
  have a1 := RA2.out.cell 1
  simp at a0 a1
  go_wp2_with fail
  go_ret
  exact ⟨rfl, BW2.out⟩

set_option maxHeartbeats 2000000 in
set_option maxRecDepth 100000 in
theorem apart_lb (x y : M.Sp) (a b : List UInt8) (w : World) (hg : M.greatB x = false) (hh : M.greatB y = false) (da : decide (1000 < (a.length : Int)) = false) (db : decide (1000 < (b.length : Int)) = true) :
    Calls Try.prog 9 #[.agg #[.int .i64 x.trace, .int .i64 x.id, .int .i64 x.parent, .string (S x.svc), .string (S x.host), .int .i64 x.start, .int .i64 x.dur, .string (S x.note)], .agg #[.int .i64 y.trace, .int .i64 y.id, .int .i64 y.parent, .string (S y.svc), .string (S y.host), .int .i64 y.start, .int .i64 y.dur, .string (S y.note)], .agg #[.string (S a), .string (S b)]] w fun e w' => e = .returned (.bool true) ∧ Below w.heap.size w w' := by
  have cg := fun W => great_any x W
  rw [hg] at cg
  have CG := Lib.hid cg
  clear cg hg
  have ch := fun W => great_any y W
  rw [hh] at ch
  have CH := Lib.hid ch
  clear ch hh
  have RX := Lib.hid (((rowIn_new #[.int .i64 x.trace, .int .i64 x.id, .int .i64 x.parent, .string (S x.svc), .string (S x.host), .int .i64 x.start, .int .i64 x.dur, .string (S x.note)] 30 w).more (.cells #[.int .i64 y.trace, .int .i64 y.id, .int .i64 y.parent, .string (S y.svc), .string (S y.host), .int .i64 y.start, .int .i64 y.dur, .string (S y.note)] 30)).more (.cells #[.string (S a), .string (S b)] 41))
  have RY := Lib.hid ((rowIn_at #[.int .i64 y.trace, .int .i64 y.id, .int .i64 y.parent, .string (S y.svc), .string (S y.host), .int .i64 y.start, .int .i64 y.dur, .string (S y.note)] 30 (w.alloc (.cells #[.int .i64 x.trace, .int .i64 x.id, .int .i64 x.parent, .string (S x.svc), .string (S x.host), .int .i64 x.start, .int .i64 x.dur, .string (S x.note)] 30)) (w.heap.size + 1) (by simp)).more (.cells #[.string (S a), .string (S b)] 41))
  have RA := Lib.hid (rowIn_at #[.string (S a), .string (S b)] 41 ((w.alloc (.cells #[.int .i64 x.trace, .int .i64 x.id, .int .i64 x.parent, .string (S x.svc), .string (S x.host), .int .i64 x.start, .int .i64 x.dur, .string (S x.note)] 30)).alloc (.cells #[.int .i64 y.trace, .int .i64 y.id, .int .i64 y.parent, .string (S y.svc), .string (S y.host), .int .i64 y.start, .int .i64 y.dur, .string (S y.note)] 30)) (w.heap.size + 1 + 1) (by simp))
  have BW := Lib.hid ((((Below.refl w.heap.size w).alloc (Nat.le_refl _) (.cells #[.int .i64 x.trace, .int .i64 x.id, .int .i64 x.parent, .string (S x.svc), .string (S x.host), .int .i64 x.start, .int .i64 x.dur, .string (S x.note)] 30)).alloc (by simp) (.cells #[.int .i64 y.trace, .int .i64 y.id, .int .i64 y.parent, .string (S y.svc), .string (S y.host), .int .i64 y.start, .int .i64 y.dur, .string (S y.note)] 30)).alloc (by simp; omega) (.cells #[.string (S a), .string (S b)] 41))
  go_enter Try.func9, Try.ntmps9
  go_wp2_with fail
  with_reducible refine (CG.out _).mono ?_
  rintro e w1 ⟨rfl, hb1⟩
  have RX1 := Lib.hid (RX.out.below hb1)
  have RY1 := Lib.hid (RY.out.below hb1)
  have RA1 := Lib.hid (RA.out.below hb1)
  have BW1 := Lib.hid (below_step BW.out hb1)
  clear hb1
  obtain ⟨y0, y1, y2, y3, y4, y5, y6, y7⟩ := span_cells RY1.out
  go_wp2_with fail
  with_reducible refine (CH.out _).mono ?_
  rintro e w2 ⟨rfl, hb2⟩
  clear y0 y1 y2 y3 y4 y5 y6 y7
  have RX2 := Lib.hid (RX1.out.below hb2)
  have RY2 := Lib.hid (RY1.out.below hb2)
  have RA2 := Lib.hid (RA1.out.below hb2)
  have BW2 := Lib.hid (below_step BW1.out hb2)
  clear hb2
  obtain ⟨x0, x1, x2, x3, x4, x5, x6, x7⟩ := span_cells RX2.out
  have a0 := RA2.out.cell 0
  have a1 := RA2.out.cell 1
  simp at a0 a1
  go_wp2_with fail
  go_ret
  exact ⟨rfl, BW2.out⟩

set_option maxHeartbeats 2000000 in
set_option maxRecDepth 100000 in
theorem apart_nx (x y : M.Sp) (a b : List UInt8) (w : World) (hx : x.fits) (hy : y.fits) (hg : M.greatB x = false) (hh : M.greatB y = false) (da : decide (1000 < (a.length : Int)) = false) (db : decide (1000 < (b.length : Int)) = false) (mx : M.mayB x = false) :
    Calls Try.prog 9 #[.agg #[.int .i64 x.trace, .int .i64 x.id, .int .i64 x.parent, .string (S x.svc), .string (S x.host), .int .i64 x.start, .int .i64 x.dur, .string (S x.note)], .agg #[.int .i64 y.trace, .int .i64 y.id, .int .i64 y.parent, .string (S y.svc), .string (S y.host), .int .i64 y.start, .int .i64 y.dur, .string (S y.note)], .agg #[.string (S a), .string (S b)]] w fun e w' => e = .returned (.bool true) ∧ Below w.heap.size w w' := by
  have cg := fun W => great_any x W
  rw [hg] at cg
  have CG := Lib.hid cg
  clear cg hg
  have ch := fun W => great_any y W
  rw [hh] at ch
  have CH := Lib.hid ch
  clear ch hh
  have C1 := Lib.hid (fun W => encode_no x hx mx W)
  have c2 := fun W => encode_any y hy W
  generalize (if M.mayB y = true then M.enc y else []) = q at *
  generalize M.errOf (M.mayB y) = n at *
  have C2 := Lib.hid c2
  clear c2
  have RX := Lib.hid (((rowIn_new #[.int .i64 x.trace, .int .i64 x.id, .int .i64 x.parent, .string (S x.svc), .string (S x.host), .int .i64 x.start, .int .i64 x.dur, .string (S x.note)] 30 w).more (.cells #[.int .i64 y.trace, .int .i64 y.id, .int .i64 y.parent, .string (S y.svc), .string (S y.host), .int .i64 y.start, .int .i64 y.dur, .string (S y.note)] 30)).more (.cells #[.string (S a), .string (S b)] 41))
  have RY := Lib.hid ((rowIn_at #[.int .i64 y.trace, .int .i64 y.id, .int .i64 y.parent, .string (S y.svc), .string (S y.host), .int .i64 y.start, .int .i64 y.dur, .string (S y.note)] 30 (w.alloc (.cells #[.int .i64 x.trace, .int .i64 x.id, .int .i64 x.parent, .string (S x.svc), .string (S x.host), .int .i64 x.start, .int .i64 x.dur, .string (S x.note)] 30)) (w.heap.size + 1) (by simp)).more (.cells #[.string (S a), .string (S b)] 41))
  have RA := Lib.hid (rowIn_at #[.string (S a), .string (S b)] 41 ((w.alloc (.cells #[.int .i64 x.trace, .int .i64 x.id, .int .i64 x.parent, .string (S x.svc), .string (S x.host), .int .i64 x.start, .int .i64 x.dur, .string (S x.note)] 30)).alloc (.cells #[.int .i64 y.trace, .int .i64 y.id, .int .i64 y.parent, .string (S y.svc), .string (S y.host), .int .i64 y.start, .int .i64 y.dur, .string (S y.note)] 30)) (w.heap.size + 1 + 1) (by simp))
  have BW := Lib.hid ((((Below.refl w.heap.size w).alloc (Nat.le_refl _) (.cells #[.int .i64 x.trace, .int .i64 x.id, .int .i64 x.parent, .string (S x.svc), .string (S x.host), .int .i64 x.start, .int .i64 x.dur, .string (S x.note)] 30)).alloc (by simp) (.cells #[.int .i64 y.trace, .int .i64 y.id, .int .i64 y.parent, .string (S y.svc), .string (S y.host), .int .i64 y.start, .int .i64 y.dur, .string (S y.note)] 30)).alloc (by simp; omega) (.cells #[.string (S a), .string (S b)] 41))
  go_enter Try.func9, Try.ntmps9
  go_wp2_with fail
  with_reducible refine (CG.out _).mono ?_
  rintro e w1 ⟨rfl, hb1⟩
  have RX1 := Lib.hid (RX.out.below hb1)
  have RY1 := Lib.hid (RY.out.below hb1)
  have RA1 := Lib.hid (RA.out.below hb1)
  have BW1 := Lib.hid (below_step BW.out hb1)
  clear hb1
  obtain ⟨y0, y1, y2, y3, y4, y5, y6, y7⟩ := span_cells RY1.out
  go_wp2_with fail
  with_reducible refine (CH.out _).mono ?_
  rintro e w2 ⟨rfl, hb2⟩
  clear y0 y1 y2 y3 y4 y5 y6 y7
  have RX2 := Lib.hid (RX1.out.below hb2)
  have RY2 := Lib.hid (RY1.out.below hb2)
  have RA2 := Lib.hid (RA1.out.below hb2)
  have BW2 := Lib.hid (below_step BW1.out hb2)
  clear hb2
  obtain ⟨x0, x1, x2, x3, x4, x5, x6, x7⟩ := span_cells RX2.out
  have a0 := RA2.out.cell 0
  have a1 := RA2.out.cell 1
  simp at a0 a1
  go_wp2_with fail
  with_reducible refine (C1.out _).mono ?_
  rintro e w3 ⟨rfl, hb3⟩
  clear x0 x1 x2 x3 x4 x5 x6 x7
  clear a0 a1
  have RX3 := Lib.hid (RX2.out.below hb3)
  have RY3 := Lib.hid (RY2.out.below hb3)
  have RA3 := Lib.hid (RA2.out.below hb3)
  have BW3 := Lib.hid (below_step BW2.out hb3)
  clear hb3
  obtain ⟨y0, y1, y2, y3, y4, y5, y6, y7⟩ := span_cells RY3.out
  go_wp2_with fail
  with_reducible refine (C2.out _).mono ?_
  rintro e w4 ⟨rfl, hb4⟩
  clear y0 y1 y2 y3 y4 y5 y6 y7
  have RX4 := Lib.hid (RX3.out.below hb4)
  have RY4 := Lib.hid (RY3.out.below hb4)
  have RA4 := Lib.hid (RA3.out.below hb4)
  have BW4 := Lib.hid (below_step BW3.out hb4)
  clear hb4
  go_wp2_with fail
  with_reducible refine (does3 _).mono ?_
  rintro e w5 ⟨rfl, hb5⟩
  go_wp2_with fail
  go_ret
  exact ⟨rfl, below_step BW4.out hb5⟩

set_option maxHeartbeats 2000000 in
set_option maxRecDepth 100000 in
theorem apart_ny (x y : M.Sp) (a b : List UInt8) (w : World) (hx : x.fits) (hy : y.fits) (hg : M.greatB x = false) (hh : M.greatB y = false) (da : decide (1000 < (a.length : Int)) = false) (db : decide (1000 < (b.length : Int)) = false) (mx : M.mayB x = true) (my : M.mayB y = false) :
    Calls Try.prog 9 #[.agg #[.int .i64 x.trace, .int .i64 x.id, .int .i64 x.parent, .string (S x.svc), .string (S x.host), .int .i64 x.start, .int .i64 x.dur, .string (S x.note)], .agg #[.int .i64 y.trace, .int .i64 y.id, .int .i64 y.parent, .string (S y.svc), .string (S y.host), .int .i64 y.start, .int .i64 y.dur, .string (S y.note)], .agg #[.string (S a), .string (S b)]] w fun e w' => e = .returned (.bool true) ∧ Below w.heap.size w w' := by
  have cg := fun W => great_any x W
  rw [hg] at cg
  have CG := Lib.hid cg
  clear cg hg
  have ch := fun W => great_any y W
  rw [hh] at ch
  have CH := Lib.hid ch
  clear ch hh
  have C1 := Lib.hid (fun W => encode_yes x hx mx W)
  have C2 := Lib.hid (fun W => encode_no y hy my W)
  have hq := M.enc_len mx
  generalize M.enc x = q at *
  have RX := Lib.hid (((rowIn_new #[.int .i64 x.trace, .int .i64 x.id, .int .i64 x.parent, .string (S x.svc), .string (S x.host), .int .i64 x.start, .int .i64 x.dur, .string (S x.note)] 30 w).more (.cells #[.int .i64 y.trace, .int .i64 y.id, .int .i64 y.parent, .string (S y.svc), .string (S y.host), .int .i64 y.start, .int .i64 y.dur, .string (S y.note)] 30)).more (.cells #[.string (S a), .string (S b)] 41))
  have RY := Lib.hid ((rowIn_at #[.int .i64 y.trace, .int .i64 y.id, .int .i64 y.parent, .string (S y.svc), .string (S y.host), .int .i64 y.start, .int .i64 y.dur, .string (S y.note)] 30 (w.alloc (.cells #[.int .i64 x.trace, .int .i64 x.id, .int .i64 x.parent, .string (S x.svc), .string (S x.host), .int .i64 x.start, .int .i64 x.dur, .string (S x.note)] 30)) (w.heap.size + 1) (by simp)).more (.cells #[.string (S a), .string (S b)] 41))
  have RA := Lib.hid (rowIn_at #[.string (S a), .string (S b)] 41 ((w.alloc (.cells #[.int .i64 x.trace, .int .i64 x.id, .int .i64 x.parent, .string (S x.svc), .string (S x.host), .int .i64 x.start, .int .i64 x.dur, .string (S x.note)] 30)).alloc (.cells #[.int .i64 y.trace, .int .i64 y.id, .int .i64 y.parent, .string (S y.svc), .string (S y.host), .int .i64 y.start, .int .i64 y.dur, .string (S y.note)] 30)) (w.heap.size + 1 + 1) (by simp))
  have BW := Lib.hid ((((Below.refl w.heap.size w).alloc (Nat.le_refl _) (.cells #[.int .i64 x.trace, .int .i64 x.id, .int .i64 x.parent, .string (S x.svc), .string (S x.host), .int .i64 x.start, .int .i64 x.dur, .string (S x.note)] 30)).alloc (by simp) (.cells #[.int .i64 y.trace, .int .i64 y.id, .int .i64 y.parent, .string (S y.svc), .string (S y.host), .int .i64 y.start, .int .i64 y.dur, .string (S y.note)] 30)).alloc (by simp; omega) (.cells #[.string (S a), .string (S b)] 41))
  go_enter Try.func9, Try.ntmps9
  go_wp2_with fail
  with_reducible refine (CG.out _).mono ?_
  rintro e w1 ⟨rfl, hb1⟩
  have RX1 := Lib.hid (RX.out.below hb1)
  have RY1 := Lib.hid (RY.out.below hb1)
  have RA1 := Lib.hid (RA.out.below hb1)
  have BW1 := Lib.hid (below_step BW.out hb1)
  clear hb1
  obtain ⟨y0, y1, y2, y3, y4, y5, y6, y7⟩ := span_cells RY1.out
  go_wp2_with fail
  with_reducible refine (CH.out _).mono ?_
  rintro e w2 ⟨rfl, hb2⟩
  clear y0 y1 y2 y3 y4 y5 y6 y7
  have RX2 := Lib.hid (RX1.out.below hb2)
  have RY2 := Lib.hid (RY1.out.below hb2)
  have RA2 := Lib.hid (RA1.out.below hb2)
  have BW2 := Lib.hid (below_step BW1.out hb2)
  clear hb2
  obtain ⟨x0, x1, x2, x3, x4, x5, x6, x7⟩ := span_cells RX2.out
  have a0 := RA2.out.cell 0
  have a1 := RA2.out.cell 1
  simp at a0 a1
  go_wp2_with fail
  with_reducible refine (C1.out _).mono ?_
  rintro e w3 ⟨rfl, hb3⟩
  clear x0 x1 x2 x3 x4 x5 x6 x7
  clear a0 a1
  have RX3 := Lib.hid (RX2.out.below hb3)
  have RY3 := Lib.hid (RY2.out.below hb3)
  have RA3 := Lib.hid (RA2.out.below hb3)
  have BW3 := Lib.hid (below_step BW2.out hb3)
  clear hb3
  obtain ⟨y0, y1, y2, y3, y4, y5, y6, y7⟩ := span_cells RY3.out
  go_wp2_with fail
  with_reducible refine (C2.out _).mono ?_
  rintro e w4 ⟨rfl, hb4⟩
  clear y0 y1 y2 y3 y4 y5 y6 y7
  have RX4 := Lib.hid (RX3.out.below hb4)
  have RY4 := Lib.hid (RY3.out.below hb4)
  have RA4 := Lib.hid (RA3.out.below hb4)
  have BW4 := Lib.hid (below_step BW3.out hb4)
  clear hb4
  go_wp2_with fail
  with_reducible refine (does3 _).mono ?_
  rintro e w5 ⟨rfl, hb5⟩
  go_wp2_with fail
  go_ret
  exact ⟨rfl, below_step BW4.out hb5⟩

set_option maxHeartbeats 2000000 in
set_option maxRecDepth 100000 in
theorem apart_eq (x y : M.Sp) (a b : List UInt8) (w : World) (hx : x.fits) (hy : y.fits) (hg : M.greatB x = false) (hh : M.greatB y = false) (da : decide (1000 < (a.length : Int)) = false) (db : decide (1000 < (b.length : Int)) = false) (mx : M.mayB x = true) (my : M.mayB y = true) (hxy : x = y) (hab : a = b) :
    Calls Try.prog 9 #[.agg #[.int .i64 x.trace, .int .i64 x.id, .int .i64 x.parent, .string (S x.svc), .string (S x.host), .int .i64 x.start, .int .i64 x.dur, .string (S x.note)], .agg #[.int .i64 y.trace, .int .i64 y.id, .int .i64 y.parent, .string (S y.svc), .string (S y.host), .int .i64 y.start, .int .i64 y.dur, .string (S y.note)], .agg #[.string (S a), .string (S b)]] w fun e w' => e = .returned (.bool true) ∧ Below w.heap.size w w' := by
  have hal : a.length ≤ 1000 := by have := da; simp at this; omega
  have hbl : b.length ≤ 1000 := by have := db; simp at this; omega
  subst hxy hab
  have cg := fun W => great_any x W
  rw [hg] at cg
  have CG := Lib.hid cg
  clear cg hg
  have CH := CG
  have C1 := Lib.hid (fun W => encode_yes x hx mx W)
  have C2 := C1
  have hq := M.enc_len mx
  clear mx my hh
  generalize M.enc x = q at *
  have RX := Lib.hid (((rowIn_new #[.int .i64 x.trace, .int .i64 x.id, .int .i64 x.parent, .string (S x.svc), .string (S x.host), .int .i64 x.start, .int .i64 x.dur, .string (S x.note)] 30 w).more (.cells #[.int .i64 x.trace, .int .i64 x.id, .int .i64 x.parent, .string (S x.svc), .string (S x.host), .int .i64 x.start, .int .i64 x.dur, .string (S x.note)] 30)).more (.cells #[.string (S a), .string (S a)] 41))
  have RY := Lib.hid ((rowIn_at #[.int .i64 x.trace, .int .i64 x.id, .int .i64 x.parent, .string (S x.svc), .string (S x.host), .int .i64 x.start, .int .i64 x.dur, .string (S x.note)] 30 (w.alloc (.cells #[.int .i64 x.trace, .int .i64 x.id, .int .i64 x.parent, .string (S x.svc), .string (S x.host), .int .i64 x.start, .int .i64 x.dur, .string (S x.note)] 30)) (w.heap.size + 1) (by simp)).more (.cells #[.string (S a), .string (S a)] 41))
  have RA := Lib.hid (rowIn_at #[.string (S a), .string (S a)] 41 ((w.alloc (.cells #[.int .i64 x.trace, .int .i64 x.id, .int .i64 x.parent, .string (S x.svc), .string (S x.host), .int .i64 x.start, .int .i64 x.dur, .string (S x.note)] 30)).alloc (.cells #[.int .i64 x.trace, .int .i64 x.id, .int .i64 x.parent, .string (S x.svc), .string (S x.host), .int .i64 x.start, .int .i64 x.dur, .string (S x.note)] 30)) (w.heap.size + 1 + 1) (by simp))
  have BW := Lib.hid ((((Below.refl w.heap.size w).alloc (Nat.le_refl _) (.cells #[.int .i64 x.trace, .int .i64 x.id, .int .i64 x.parent, .string (S x.svc), .string (S x.host), .int .i64 x.start, .int .i64 x.dur, .string (S x.note)] 30)).alloc (by simp) (.cells #[.int .i64 x.trace, .int .i64 x.id, .int .i64 x.parent, .string (S x.svc), .string (S x.host), .int .i64 x.start, .int .i64 x.dur, .string (S x.note)] 30)).alloc (by simp; omega) (.cells #[.string (S a), .string (S a)] 41))
  go_enter Try.func9, Try.ntmps9
  go_wp2_with fail
  with_reducible refine (CG.out _).mono ?_
  rintro e w1 ⟨rfl, hb1⟩
  have RX1 := Lib.hid (RX.out.below hb1)
  have RY1 := Lib.hid (RY.out.below hb1)
  have RA1 := Lib.hid (RA.out.below hb1)
  have BW1 := Lib.hid (below_step BW.out hb1)
  clear hb1
  obtain ⟨y0, y1, y2, y3, y4, y5, y6, y7⟩ := span_cells RY1.out
  go_wp2_with fail
  with_reducible refine (CH.out _).mono ?_
  rintro e w2 ⟨rfl, hb2⟩
  clear y0 y1 y2 y3 y4 y5 y6 y7
  have RX2 := Lib.hid (RX1.out.below hb2)
  have RY2 := Lib.hid (RY1.out.below hb2)
  have RA2 := Lib.hid (RA1.out.below hb2)
  have BW2 := Lib.hid (below_step BW1.out hb2)
  clear hb2
  obtain ⟨x0, x1, x2, x3, x4, x5, x6, x7⟩ := span_cells RX2.out
  have a0 := RA2.out.cell 0
  have a1 := RA2.out.cell 1
  simp at a0 a1
  go_wp2_with fail
  with_reducible refine (C1.out _).mono ?_
  rintro e w3 ⟨rfl, hb3⟩
  clear x0 x1 x2 x3 x4 x5 x6 x7
  clear a0 a1
  have RX3 := Lib.hid (RX2.out.below hb3)
  have RY3 := Lib.hid (RY2.out.below hb3)
  have RA3 := Lib.hid (RA2.out.below hb3)
  have BW3 := Lib.hid (below_step BW2.out hb3)
  clear hb3
  obtain ⟨y0, y1, y2, y3, y4, y5, y6, y7⟩ := span_cells RY3.out
  go_wp2_with fail
  with_reducible refine (C2.out _).mono ?_
  rintro e w4 ⟨rfl, hb4⟩
  clear y0 y1 y2 y3 y4 y5 y6 y7
  have RX4 := Lib.hid (RX3.out.below hb4)
  have RY4 := Lib.hid (RY3.out.below hb4)
  have RA4 := Lib.hid (RA3.out.below hb4)
  have BW4 := Lib.hid (below_step BW3.out hb4)
  clear hb4
  obtain ⟨x0, x1, x2, x3, x4, x5, x6, x7⟩ := span_cells RX4.out
  obtain ⟨y0, y1, y2, y3, y4, y5, y6, y7⟩ := span_cells RY4.out
  have a0 := RA4.out.cell 0
  have a1 := RA4.out.cell 1
  simp at a0 a1
  go_wp2_with fail
  with_reducible refine (does3 _).mono ?_
  rintro e w5 ⟨rfl, hb5⟩
  go_wp2_with fail
  go_ret
  exact ⟨rfl, below_step BW4.out hb5⟩
set_option maxHeartbeats 2000000 in
set_option maxRecDepth 100000 in
theorem apart_ab (x y : M.Sp) (a b : List UInt8) (w : World) (hx : x.fits) (hy : y.fits) (hg : M.greatB x = false) (hh : M.greatB y = false) (da : decide (1000 < (a.length : Int)) = false) (db : decide (1000 < (b.length : Int)) = false) (mx : M.mayB x = true) (my : M.mayB y = true) (hxy : x = y) (hab : ¬ a = b) :
    Calls Try.prog 9 #[.agg #[.int .i64 x.trace, .int .i64 x.id, .int .i64 x.parent, .string (S x.svc), .string (S x.host), .int .i64 x.start, .int .i64 x.dur, .string (S x.note)], .agg #[.int .i64 y.trace, .int .i64 y.id, .int .i64 y.parent, .string (S y.svc), .string (S y.host), .int .i64 y.start, .int .i64 y.dur, .string (S y.note)], .agg #[.string (S a), .string (S b)]] w fun e w' => e = .returned (.bool true) ∧ Below w.heap.size w w' := by
  have hal : a.length ≤ 1000 := by have := da; simp at this; omega
  have hbl : b.length ≤ 1000 := by have := db; simp at this; omega
  subst hxy
  have cg := fun W => great_any x W
  rw [hg] at cg
  have CG := Lib.hid cg
  clear cg hg
  have CH := CG
  have C1 := Lib.hid (fun W => encode_yes x hx mx W)
  have C2 := C1
  have hq := M.enc_len mx
  clear mx my hh
  generalize M.enc x = q at *
  have RX := Lib.hid (((rowIn_new #[.int .i64 x.trace, .int .i64 x.id, .int .i64 x.parent, .string (S x.svc), .string (S x.host), .int .i64 x.start, .int .i64 x.dur, .string (S x.note)] 30 w).more (.cells #[.int .i64 x.trace, .int .i64 x.id, .int .i64 x.parent, .string (S x.svc), .string (S x.host), .int .i64 x.start, .int .i64 x.dur, .string (S x.note)] 30)).more (.cells #[.string (S a), .string (S b)] 41))
  have RY := Lib.hid ((rowIn_at #[.int .i64 x.trace, .int .i64 x.id, .int .i64 x.parent, .string (S x.svc), .string (S x.host), .int .i64 x.start, .int .i64 x.dur, .string (S x.note)] 30 (w.alloc (.cells #[.int .i64 x.trace, .int .i64 x.id, .int .i64 x.parent, .string (S x.svc), .string (S x.host), .int .i64 x.start, .int .i64 x.dur, .string (S x.note)] 30)) (w.heap.size + 1) (by simp)).more (.cells #[.string (S a), .string (S b)] 41))
  have RA := Lib.hid (rowIn_at #[.string (S a), .string (S b)] 41 ((w.alloc (.cells #[.int .i64 x.trace, .int .i64 x.id, .int .i64 x.parent, .string (S x.svc), .string (S x.host), .int .i64 x.start, .int .i64 x.dur, .string (S x.note)] 30)).alloc (.cells #[.int .i64 x.trace, .int .i64 x.id, .int .i64 x.parent, .string (S x.svc), .string (S x.host), .int .i64 x.start, .int .i64 x.dur, .string (S x.note)] 30)) (w.heap.size + 1 + 1) (by simp))
  have BW := Lib.hid ((((Below.refl w.heap.size w).alloc (Nat.le_refl _) (.cells #[.int .i64 x.trace, .int .i64 x.id, .int .i64 x.parent, .string (S x.svc), .string (S x.host), .int .i64 x.start, .int .i64 x.dur, .string (S x.note)] 30)).alloc (by simp) (.cells #[.int .i64 x.trace, .int .i64 x.id, .int .i64 x.parent, .string (S x.svc), .string (S x.host), .int .i64 x.start, .int .i64 x.dur, .string (S x.note)] 30)).alloc (by simp; omega) (.cells #[.string (S a), .string (S b)] 41))
  go_enter Try.func9, Try.ntmps9
  go_wp2_with fail
  with_reducible refine (CG.out _).mono ?_
  rintro e w1 ⟨rfl, hb1⟩
  have RX1 := Lib.hid (RX.out.below hb1)
  have RY1 := Lib.hid (RY.out.below hb1)
  have RA1 := Lib.hid (RA.out.below hb1)
  have BW1 := Lib.hid (below_step BW.out hb1)
  clear hb1
  obtain ⟨y0, y1, y2, y3, y4, y5, y6, y7⟩ := span_cells RY1.out
  go_wp2_with fail
  with_reducible refine (CH.out _).mono ?_
  rintro e w2 ⟨rfl, hb2⟩
  clear y0 y1 y2 y3 y4 y5 y6 y7
  have RX2 := Lib.hid (RX1.out.below hb2)
  have RY2 := Lib.hid (RY1.out.below hb2)
  have RA2 := Lib.hid (RA1.out.below hb2)
  have BW2 := Lib.hid (below_step BW1.out hb2)
  clear hb2
  obtain ⟨x0, x1, x2, x3, x4, x5, x6, x7⟩ := span_cells RX2.out
  have a0 := RA2.out.cell 0
  have a1 := RA2.out.cell 1
  simp at a0 a1
  go_wp2_with fail
  with_reducible refine (C1.out _).mono ?_
  rintro e w3 ⟨rfl, hb3⟩
  clear x0 x1 x2 x3 x4 x5 x6 x7
  clear a0 a1
  have RX3 := Lib.hid (RX2.out.below hb3)
  have RY3 := Lib.hid (RY2.out.below hb3)
  have RA3 := Lib.hid (RA2.out.below hb3)
  have BW3 := Lib.hid (below_step BW2.out hb3)
  clear hb3
  obtain ⟨y0, y1, y2, y3, y4, y5, y6, y7⟩ := span_cells RY3.out
  go_wp2_with fail
  with_reducible refine (C2.out _).mono ?_
  rintro e w4 ⟨rfl, hb4⟩
  clear y0 y1 y2 y3 y4 y5 y6 y7
  have RX4 := Lib.hid (RX3.out.below hb4)
  have RY4 := Lib.hid (RY3.out.below hb4)
  have RA4 := Lib.hid (RA3.out.below hb4)
  have BW4 := Lib.hid (below_step BW3.out hb4)
  clear hb4
  obtain ⟨x0, x1, x2, x3, x4, x5, x6, x7⟩ := span_cells RX4.out
  obtain ⟨y0, y1, y2, y3, y4, y5, y6, y7⟩ := span_cells RY4.out
  have a0 := RA4.out.cell 0
  have a1 := RA4.out.cell 1
  simp at a0 a1
  go_wp2_with fail
  with_reducible refine (does3 _).mono ?_
  rintro e w5 ⟨rfl, hb5⟩
  go_wp2_with fail
  go_ret
  exact ⟨rfl, below_step BW4.out hb5⟩
set_option maxHeartbeats 2000000 in
set_option maxRecDepth 100000 in
theorem apart_xy (x y : M.Sp) (a b : List UInt8) (w : World) (hx : x.fits) (hy : y.fits) (hg : M.greatB x = false) (hh : M.greatB y = false) (da : decide (1000 < (a.length : Int)) = false) (db : decide (1000 < (b.length : Int)) = false) (mx : M.mayB x = true) (my : M.mayB y = true) (hxy : ¬ x = y) :
    Calls Try.prog 9 #[.agg #[.int .i64 x.trace, .int .i64 x.id, .int .i64 x.parent, .string (S x.svc), .string (S x.host), .int .i64 x.start, .int .i64 x.dur, .string (S x.note)], .agg #[.int .i64 y.trace, .int .i64 y.id, .int .i64 y.parent, .string (S y.svc), .string (S y.host), .int .i64 y.start, .int .i64 y.dur, .string (S y.note)], .agg #[.string (S a), .string (S b)]] w fun e w' => e = .returned (.bool true) ∧ Below w.heap.size w w' := by
  have hal : a.length ≤ 1000 := by have := da; simp at this; omega
  have hbl : b.length ≤ 1000 := by have := db; simp at this; omega
  have cg := fun W => great_any x W
  rw [hg] at cg
  have CG := Lib.hid cg
  clear cg hg
  have ch := fun W => great_any y W
  rw [hh] at ch
  have CH := Lib.hid ch
  clear ch hh
  have C1 := Lib.hid (fun W => encode_yes x hx mx W)
  have C2 := Lib.hid (fun W => encode_yes y hy my W)
  have hq := M.enc_len mx
  have hp := M.enc_len my
  have hne : ¬ M.enc x = M.enc y := fun h => hxy (M.enc_inj hx hy mx my h)
  have hpre : ¬ M.enc x ++ a = M.enc y ++ b := fun h => hxy (M.enc_pre hx hy mx my h).1
  clear mx my
  generalize M.enc x = q at *
  generalize M.enc y = p at *
  have RX := Lib.hid (((rowIn_new #[.int .i64 x.trace, .int .i64 x.id, .int .i64 x.parent, .string (S x.svc), .string (S x.host), .int .i64 x.start, .int .i64 x.dur, .string (S x.note)] 30 w).more (.cells #[.int .i64 y.trace, .int .i64 y.id, .int .i64 y.parent, .string (S y.svc), .string (S y.host), .int .i64 y.start, .int .i64 y.dur, .string (S y.note)] 30)).more (.cells #[.string (S a), .string (S b)] 41))
  have RY := Lib.hid ((rowIn_at #[.int .i64 y.trace, .int .i64 y.id, .int .i64 y.parent, .string (S y.svc), .string (S y.host), .int .i64 y.start, .int .i64 y.dur, .string (S y.note)] 30 (w.alloc (.cells #[.int .i64 x.trace, .int .i64 x.id, .int .i64 x.parent, .string (S x.svc), .string (S x.host), .int .i64 x.start, .int .i64 x.dur, .string (S x.note)] 30)) (w.heap.size + 1) (by simp)).more (.cells #[.string (S a), .string (S b)] 41))
  have RA := Lib.hid (rowIn_at #[.string (S a), .string (S b)] 41 ((w.alloc (.cells #[.int .i64 x.trace, .int .i64 x.id, .int .i64 x.parent, .string (S x.svc), .string (S x.host), .int .i64 x.start, .int .i64 x.dur, .string (S x.note)] 30)).alloc (.cells #[.int .i64 y.trace, .int .i64 y.id, .int .i64 y.parent, .string (S y.svc), .string (S y.host), .int .i64 y.start, .int .i64 y.dur, .string (S y.note)] 30)) (w.heap.size + 1 + 1) (by simp))
  have BW := Lib.hid ((((Below.refl w.heap.size w).alloc (Nat.le_refl _) (.cells #[.int .i64 x.trace, .int .i64 x.id, .int .i64 x.parent, .string (S x.svc), .string (S x.host), .int .i64 x.start, .int .i64 x.dur, .string (S x.note)] 30)).alloc (by simp) (.cells #[.int .i64 y.trace, .int .i64 y.id, .int .i64 y.parent, .string (S y.svc), .string (S y.host), .int .i64 y.start, .int .i64 y.dur, .string (S y.note)] 30)).alloc (by simp; omega) (.cells #[.string (S a), .string (S b)] 41))
  go_enter Try.func9, Try.ntmps9
  go_wp2_with fail
  with_reducible refine (CG.out _).mono ?_
  rintro e w1 ⟨rfl, hb1⟩
  have RX1 := Lib.hid (RX.out.below hb1)
  have RY1 := Lib.hid (RY.out.below hb1)
  have RA1 := Lib.hid (RA.out.below hb1)
  have BW1 := Lib.hid (below_step BW.out hb1)
  clear hb1
  obtain ⟨y0, y1, y2, y3, y4, y5, y6, y7⟩ := span_cells RY1.out
  go_wp2_with fail
  with_reducible refine (CH.out _).mono ?_
  rintro e w2 ⟨rfl, hb2⟩
  clear y0 y1 y2 y3 y4 y5 y6 y7
  have RX2 := Lib.hid (RX1.out.below hb2)
  have RY2 := Lib.hid (RY1.out.below hb2)
  have RA2 := Lib.hid (RA1.out.below hb2)
  have BW2 := Lib.hid (below_step BW1.out hb2)
  clear hb2
  obtain ⟨x0, x1, x2, x3, x4, x5, x6, x7⟩ := span_cells RX2.out
  have a0 := RA2.out.cell 0
  have a1 := RA2.out.cell 1
  simp at a0 a1
  go_wp2_with fail
  with_reducible refine (C1.out _).mono ?_
  rintro e w3 ⟨rfl, hb3⟩
  clear x0 x1 x2 x3 x4 x5 x6 x7
  clear a0 a1
  have RX3 := Lib.hid (RX2.out.below hb3)
  have RY3 := Lib.hid (RY2.out.below hb3)
  have RA3 := Lib.hid (RA2.out.below hb3)
  have BW3 := Lib.hid (below_step BW2.out hb3)
  clear hb3
  obtain ⟨y0, y1, y2, y3, y4, y5, y6, y7⟩ := span_cells RY3.out
  go_wp2_with fail
  with_reducible refine (C2.out _).mono ?_
  rintro e w4 ⟨rfl, hb4⟩
  clear y0 y1 y2 y3 y4 y5 y6 y7
  have RX4 := Lib.hid (RX3.out.below hb4)
  have RY4 := Lib.hid (RY3.out.below hb4)
  have RA4 := Lib.hid (RA3.out.below hb4)
  have BW4 := Lib.hid (below_step BW3.out hb4)
  clear hb4
  obtain ⟨x0, x1, x2, x3, x4, x5, x6, x7⟩ := span_cells RX4.out
  obtain ⟨y0, y1, y2, y3, y4, y5, y6, y7⟩ := span_cells RY4.out
  have a0 := RA4.out.cell 0
  have a1 := RA4.out.cell 1
  simp at a0 a1
  go_wp2_with fail
  all_goals first
    | exact absurd (M.Sp.ext' (by assumption) (by assumption) (by assumption) (by assumption) (by assumption) (by assumption) (by assumption) (by assumption)) hxy
    | (with_reducible refine (does3 _).mono ?_
       rintro e w5 ⟨rfl, hb5⟩
       go_wp2_with fail
       go_ret
       exact ⟨ret_bool (by simpa using hne), below_step BW4.out hb5⟩)

theorem spansApart_calls (u : Value) (hu : USp u) (v : Value) (hv : USp v) (v2 : Value) (hv2 : Str2 v2) (w : World) :
    Calls Try.prog 9 #[u, v, v2] w fun e w' => e = .returned (.bool true) ∧ Below w.heap.size w w' := by
  obtain ⟨x, rfl, hi⟩ := hu
  obtain ⟨y, rfl, hj⟩ := hv
  obtain ⟨a, b, rfl⟩ := hv2
  cases hg : M.greatB x with
  | true => exact apart_gx x y a b w hg
  | false =>
    cases hh : M.greatB y with
    | true => exact apart_gy x y a b w hg hh
    | false =>
      obtain ⟨g1, g2, g3⟩ := M.greatB_false hg
      obtain ⟨h1, h2, h3⟩ := M.greatB_false hh
      have hx := hi.fits g1 g2 g3
      have hy := hj.fits h1 h2 h3
      cases da : decide (1000 < (a.length : Int)) with
      | true => exact apart_la x y a b w hg hh da
      | false =>
        cases db : decide (1000 < (b.length : Int)) with
        | true => exact apart_lb x y a b w hg hh da db
        | false =>
          cases mx : M.mayB x with
          | false => exact apart_nx x y a b w hx hy hg hh da db mx
          | true =>
            cases my : M.mayB y with
            | false => exact apart_ny x y a b w hx hy hg hh da db mx my
            | true =>
              by_cases hxy : x = y
              · by_cases hab : a = b
                · exact apart_eq x y a b w hx hy hg hh da db mx my hxy hab
                · exact apart_ab x y a b w hx hy hg hh da db mx my hxy hab
              · exact apart_xy x y a b w hx hy hg hh da db mx my hxy

end Go.Proofs.Ytpbdmldooehafab
