/- Layer 3: a span that comes in by value. -/
import Derived.Test.YtblgfhljaafmhaaSpansS
import Derived.Test.YtblgfhljaafmhaaSumsL3
namespace Go.Proofs.Ytblgfhljaafmhaa
set_option linter.unusedVariables false
open Go Go.RowKit

/-- What every Go value of the type is. -/
structure M.Sp.ints (x : M.Sp) : Prop where
  t1 : -9223372036854775808 ≤ x.trace
  t2 : x.trace ≤ 9223372036854775807
  i1 : -9223372036854775808 ≤ x.id
  i2 : x.id ≤ 9223372036854775807
  p1 : -9223372036854775808 ≤ x.parent
  p2 : x.parent ≤ 9223372036854775807
  s1 : -9223372036854775808 ≤ x.start
  s2 : x.start ≤ 9223372036854775807
  d1 : -9223372036854775808 ≤ x.dur
  d2 : x.dur ≤ 9223372036854775807
theorem M.Sp.ints.fits {x : M.Sp} (h : x.ints) (l1 : x.svc.length ≤ 1000) (l2 : x.host.length ≤ 1000) (l3 : x.note.length ≤ 1000) : x.fits :=
  ⟨h.t1, h.t2, h.i1, h.i2, h.p1, h.p2, h.s1, h.s2, h.d1, h.d2, by omega, by omega, by omega⟩
def USp (v : Value) : Prop := ∃ x : M.Sp, v = .agg #[.int .i64 x.trace, .int .i64 x.id, .int .i64 x.parent, .string (S x.svc), .string (S x.host), .int .i64 x.start, .int .i64 x.dur, .string (S x.note)] ∧ x.ints

theorem array8 {α : Type} {cs : Array α} (h : cs.size = 8) : ∃ c0 c1 c2 c3 c4 c5 c6 c7, cs = #[c0, c1, c2, c3, c4, c5, c6, c7] := by
  obtain ⟨l⟩ := cs
  match l, h with
  | [c0, c1, c2, c3, c4, c5, c6, c7], _ => exact ⟨c0, c1, c2, c3, c4, c5, c6, c7, rfl⟩

theorem open_span {H : Type} {enc : TypeId × Value → H} {W : World} {r : Reach} {b0 : Nat} {v : Value} {d : DataW H} {p : List MemPlace}
    (hv : Value.okWide Try.prog W r b0 29 v) (h : DataW.Trod enc Try.prog W 0 (fun _ => true) true 29 v d p) : USp v := by
  obtain ⟨cs, rfl, hsz⟩ := WideShapes.okWide_struct Try.underlying29 hv
  obtain ⟨fuel, hf⟩ := h
  have c8 : Try.prog.cellsOf 29 = 8 := by kernel_rfl
  have ci : Try.prog.cellsOf 3 = 1 := by kernel_rfl
  have cz : Try.prog.cellsOf 9 = 1 := by kernel_rfl
  obtain ⟨c0, c1, c2, c3, c4, c5, c6, c7, rfl⟩ := array8 (hsz.trans c8)
  obtain ⟨xs, n, _, _, _, hn, hel⟩ := DataW.trod_struct Try.underlying29 hf
  have hn8 : xs.length = 8 := hn
  have h0 : DataW.trod enc Try.prog W 0 (fun _ => true) true n 3 (List.take (Try.prog.cellsOf 3) (List.drop 0 [c0, c1, c2, c3, c4, c5, c6, c7])) = xs[0]? := hel 0 _ rfl
  rw [ci] at h0
  obtain ⟨x0, hx0⟩ : ∃ x, xs[0]? = some x := ⟨xs[0], by simp [hn8]⟩
  rw [hx0] at h0
  have h1 : DataW.trod enc Try.prog W 0 (fun _ => true) true n 3 (List.take (Try.prog.cellsOf 3) (List.drop 1 [c0, c1, c2, c3, c4, c5, c6, c7])) = xs[1]? := hel 1 _ rfl
  rw [ci] at h1
  obtain ⟨x1, hx1⟩ : ∃ x, xs[1]? = some x := ⟨xs[1], by simp [hn8]⟩
  rw [hx1] at h1
  have h2 : DataW.trod enc Try.prog W 0 (fun _ => true) true n 3 (List.take (Try.prog.cellsOf 3) (List.drop 2 [c0, c1, c2, c3, c4, c5, c6, c7])) = xs[2]? := hel 2 _ rfl
  rw [ci] at h2
  obtain ⟨x2, hx2⟩ : ∃ x, xs[2]? = some x := ⟨xs[2], by simp [hn8]⟩
  rw [hx2] at h2
  have h3 : DataW.trod enc Try.prog W 0 (fun _ => true) true n 9 (List.take (Try.prog.cellsOf 9) (List.drop 3 [c0, c1, c2, c3, c4, c5, c6, c7])) = xs[3]? := hel 3 _ rfl
  rw [cz] at h3
  obtain ⟨x3, hx3⟩ : ∃ x, xs[3]? = some x := ⟨xs[3], by simp [hn8]⟩
  rw [hx3] at h3
  have h4 : DataW.trod enc Try.prog W 0 (fun _ => true) true n 9 (List.take (Try.prog.cellsOf 9) (List.drop 4 [c0, c1, c2, c3, c4, c5, c6, c7])) = xs[4]? := hel 4 _ rfl
  rw [cz] at h4
  obtain ⟨x4, hx4⟩ : ∃ x, xs[4]? = some x := ⟨xs[4], by simp [hn8]⟩
  rw [hx4] at h4
  have h5 : DataW.trod enc Try.prog W 0 (fun _ => true) true n 3 (List.take (Try.prog.cellsOf 3) (List.drop 5 [c0, c1, c2, c3, c4, c5, c6, c7])) = xs[5]? := hel 5 _ rfl
  rw [ci] at h5
  obtain ⟨x5, hx5⟩ : ∃ x, xs[5]? = some x := ⟨xs[5], by simp [hn8]⟩
  rw [hx5] at h5
  have h6 : DataW.trod enc Try.prog W 0 (fun _ => true) true n 3 (List.take (Try.prog.cellsOf 3) (List.drop 6 [c0, c1, c2, c3, c4, c5, c6, c7])) = xs[6]? := hel 6 _ rfl
  rw [ci] at h6
  obtain ⟨x6, hx6⟩ : ∃ x, xs[6]? = some x := ⟨xs[6], by simp [hn8]⟩
  rw [hx6] at h6
  have h7 : DataW.trod enc Try.prog W 0 (fun _ => true) true n 9 (List.take (Try.prog.cellsOf 9) (List.drop 7 [c0, c1, c2, c3, c4, c5, c6, c7])) = xs[7]? := hel 7 _ rfl
  rw [cz] at h7
  obtain ⟨x7, hx7⟩ : ∃ x, xs[7]? = some x := ⟨xs[7], by simp [hn8]⟩
  rw [hx7] at h7
  obtain ⟨a0, e0, _, w0⟩ := DataW.trod_int Try.underlying3 h0
  obtain ⟨a1, e1, _, w1⟩ := DataW.trod_int Try.underlying3 h1
  obtain ⟨a2, e2, _, w2⟩ := DataW.trod_int Try.underlying3 h2
  obtain ⟨a3, e3, _, w3⟩ := DataW.trod_string Try.underlying9 h3
  obtain ⟨a4, e4, _, w4⟩ := DataW.trod_string Try.underlying9 h4
  obtain ⟨a5, e5, _, w5⟩ := DataW.trod_int Try.underlying3 h5
  obtain ⟨a6, e6, _, w6⟩ := DataW.trod_int Try.underlying3 h6
  obtain ⟨a7, e7, _, w7⟩ := DataW.trod_string Try.underlying9 h7
  simp at e0 e1 e2 e3 e4 e5 e6 e7
  have r0 := i64_range w0
  have r1 := i64_range w1
  have r2 := i64_range w2
  have r5 := i64_range w5
  have r6 := i64_range w6
  refine ⟨{ trace := a0, id := a1, parent := a2, svc := a3.data.toList, host := a4.data.toList, start := a5, dur := a6, note := a7.data.toList }, by rw [e0, e1, e2, e3, e4, e5, e6, e7], ?_⟩
  exact ⟨r0.1, r0.2, r1.1, r1.2, r2.1, r2.2, r5.1, r5.2, r6.1, r6.2⟩

end Go.Proofs.Ytblgfhljaafmhaa
