/- Layer 3: the laws' walks: SpansApart. -/
import Derived.Test.YtadkkandfgfboaaSpansL4
namespace Go.Proofs.Ytadkkandfgfboaa
set_option linter.unusedVariables false
open Go Go.RowKit
attribute [local go_sem ↓] run_index_S
attribute [local go_sem] S_append S_extract

/-- Two texts by value. -/
def Str2 (v : Value) : Prop := ∃ a b : List UInt8, v = .agg #[.string (S a), .string (S b)]
theorem open_str2 {H : Type} {enc : TypeId × Value → H} {W : World} {r : Reach} {b0 : Nat} {v : Value} {d : DataW H} {p : List MemPlace}
    (hv : Value.okWide Try.prog W r b0 32 v) (h : DataW.Trod enc Try.prog W 0 (fun _ => true) true 32 v d p) : Str2 v := by
  simp only [Value.okWide, Try.underlying32] at hv
  obtain ⟨cs, rfl, hsz, _⟩ := hv
  obtain ⟨fuel, hf⟩ := h
  have c41 : Try.prog.cellsOf 32 = 2 := by kernel_rfl
  have c5 : Try.prog.cellsOf 9 = 1 := by kernel_rfl
  obtain ⟨c0, c1, rfl⟩ := Joins.array2 (hsz.trans c41)
  obtain ⟨xs, m, _, _, _, hn, hel⟩ := DataW.trod_array Try.underlying32 hf
  have h0 := hel 0 (by decide)
  have h1 := hel 1 (by decide)
  rw [c5] at h0 h1
  obtain ⟨x0, hx0⟩ : ∃ x, xs[0]? = some x := ⟨xs[0], by simp [hn]⟩
  obtain ⟨x1, hx1⟩ : ∃ x, xs[1]? = some x := ⟨xs[1], by simp [hn]⟩
  rw [hx0] at h0
  rw [hx1] at h1
  obtain ⟨a, e0, _, w0⟩ := DataW.trod_string Try.underlying9 h0
  obtain ⟨b, e1, _, w1⟩ := DataW.trod_string Try.underlying9 h1
  simp [Value.cells] at e0 e1
  exact ⟨a.data.toList, b.data.toList, by rw [e0, e1]⟩

theorem M.enc_pre {x y : M.Sp} (hx : x.fits) (hy : y.fits) (mx : M.mayB x = true) (my : M.mayB y = true) {a b : List UInt8} (h : M.enc x ++ a = M.enc y ++ b) : x = y ∧ a = b := by
  have nx : ∀ n ∈ M.nums x, n ≤ 9223372036854775807 := fun n hn => by
    obtain ⟨k, hk, rfl⟩ := List.getElem_of_mem hn
    have := M.nums_le hx k
    simpa [List.getD, List.getElem?_eq_getElem hk] using this
  have ny : ∀ n ∈ M.nums y, n ≤ 9223372036854775807 := fun n hn => by
    obtain ⟨k, hk, rfl⟩ := List.getElem_of_mem hn
    have := M.nums_le hy k
    simpa [List.getD, List.getElem?_eq_getElem hk] using this
  have h1 := M.takeN_enc [] 5 (M.nums x) [] (M.encT (M.txts x) ++ a) rfl nx
  have h2 := M.takeN_enc [] 5 (M.nums y) [] (M.encT (M.txts y) ++ b) rfl ny
  have t1 := M.takeT_enc 3 (M.txts x) (M.encN (M.nums x)) a rfl (fun t ht => by have := M.txts_mem mx t ht; omega)
  have t2 := M.takeT_enc 3 (M.txts y) (M.encN (M.nums y)) b rfl (fun t ht => by have := M.txts_mem my t ht; omega)
  have ex : M.enc x ++ a = M.encN (M.nums x) ++ M.encT (M.txts x) ++ a := rfl
  have ey : M.enc y ++ b = M.encN (M.nums y) ++ M.encT (M.txts y) ++ b := rfl
  simp only [List.nil_append, List.length_nil, Nat.zero_add, ← List.append_assoc] at h1 h2
  rw [← ex, h] at h1 t1
  rw [← ey] at h2 t2
  rw [h2] at h1
  simp only [Option.some.injEq, Prod.mk.injEq] at h1
  rw [← h1.2, t2] at t1
  simp only [Option.some.injEq, Prod.mk.injEq] at t1
  have e : x = y := by rw [← M.spOf_nums mx, ← M.spOf_nums my, h1.1, t1.1]
  subst e
  exact ⟨rfl, List.append_cancel_left h⟩
theorem M.enc_inj {x y : M.Sp} (hx : x.fits) (hy : y.fits) (mx : M.mayB x = true) (my : M.mayB y = true) (h : M.enc x = M.enc y) : x = y :=
  (M.enc_pre hx hy mx my (a := []) (b := []) (by rw [h])).1

end Go.Proofs.Ytadkkandfgfboaa
