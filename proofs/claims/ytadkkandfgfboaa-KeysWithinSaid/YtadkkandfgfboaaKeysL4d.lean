/- Layer 8: the laws' walks: KeysWithin, whole. -/
import Derived.Test.YtadkkandfgfboaaKeysL4
import Derived.Test.YtadkkandfgfboaaKeysL4b
import Derived.Test.YtadkkandfgfboaaKeysL4c
namespace Go.Proofs.Ytadkkandfgfboaa
set_option linter.unusedVariables false
open Go Go.RowKit Go.Sort
attribute [local go_sem ↓] run_index_S
attribute [local go_sem] S_append S_extract

theorem within_ok (x : M.Sp) (tr f g : Int) (hx : x.fits) (h1 : M.great8 x = false) (h2 : M.mayB x = true) (w : World) :
    Calls Try.prog 8 #[.agg (spA x), .int .i64 tr, .agg #[.int .i64 f, .int .i64 g]] w fun e w' => e = .returned (.bool true) ∧ Below w.heap.size w w' := by
  obtain ⟨t, i, KX⟩ := keysOfSp h2
  obtain ⟨z1, z2⟩ := M.within1 t i tr KX.okt KX.oki
  rw [← KX.ht, ← KX.of_] at z2
  have hi : (decide (f ≤ x.start) = true ∧ decide (x.start ≤ g) = true) ∨ (decide (f ≤ x.start) = true ∧ decide (x.start ≤ g) = false) ∨ decide (f ≤ x.start) = false := by
    cases decide (f ≤ x.start) <;> cases decide (x.start ≤ g) <;> simp
  have hj : (Op.bytesLess (M.fromK tr) (M.ofK x.trace x.id) = true ∧ Op.bytesLess (M.ofK x.trace x.id) (M.toK tr) = true ∧ (tr == x.trace) = true) ∨ (Op.bytesLess (M.fromK tr) (M.ofK x.trace x.id) = true ∧ Op.bytesLess (M.ofK x.trace x.id) (M.toK tr) = false ∧ (tr == x.trace) = false) ∨ (Op.bytesLess (M.fromK tr) (M.ofK x.trace x.id) = false ∧ (tr == x.trace) = false) := by
    rw [← z2]
    cases Op.bytesLess (M.fromK tr) (M.ofK x.trace x.id) <;> cases Op.bytesLess (M.ofK x.trace x.id) (M.toK tr) <;> simp
  rcases hj with hj | hj | hj
  · rcases hi with hi | hi | hi
    · exact within_00 x tr f g hx h1 h2 hj hi w
    · exact within_01 x tr f g hx h1 h2 hj hi w
    · exact within_02 x tr f g hx h1 h2 hj hi w
  · rcases hi with hi | hi | hi
    · exact within_10 x tr f g hx h1 h2 hj hi w
    · exact within_11 x tr f g hx h1 h2 hj hi w
    · exact within_12 x tr f g hx h1 h2 hj hi w
  · rcases hi with hi | hi | hi
    · exact within_20 x tr f g hx h1 h2 hj hi w
    · exact within_21 x tr f g hx h1 h2 hj hi w
    · exact within_22 x tr f g hx h1 h2 hj hi w

/-- Two numbers that come in. -/
def Int2 (v : Value) : Prop := ∃ f g : Int, v = .agg #[.int .i64 f, .int .i64 g]
theorem open_int2 {H : Type} {enc : TypeId × Value → H} {W : World} {r : Reach} {b0 : Nat} {v : Value} {d : DataW H} {p : List MemPlace}
    (hv : Value.okWide Try.prog W r b0 52 v) (h : DataW.Trod enc Try.prog W 0 (fun _ => true) true 52 v d p) : Int2 v := by
  simp only [Value.okWide, Try.underlying52] at hv
  obtain ⟨cs, rfl, hsz, _⟩ := hv
  obtain ⟨fuel, hf⟩ := h
  have c41 : Try.prog.cellsOf 52 = 2 := by kernel_rfl
  have c5 : Try.prog.cellsOf 3 = 1 := by kernel_rfl
  obtain ⟨c0, c1, rfl⟩ := Joins.array2 (hsz.trans c41)
  obtain ⟨xs, m, _, _, _, hn, hel⟩ := DataW.trod_array Try.underlying52 hf
  have h0 := hel 0 (by decide)
  have h1 := hel 1 (by decide)
  rw [c5] at h0 h1
  obtain ⟨x0, hx0⟩ : ∃ x, xs[0]? = some x := ⟨xs[0], by simp [hn]⟩
  obtain ⟨x1, hx1⟩ : ∃ x, xs[1]? = some x := ⟨xs[1], by simp [hn]⟩
  rw [hx0] at h0
  rw [hx1] at h1
  obtain ⟨a, e0, _, w0⟩ := DataW.trod_int Try.underlying3 h0
  obtain ⟨b, e1, _, w1⟩ := DataW.trod_int Try.underlying3 h1
  simp [Value.cells] at e0 e1
  exact ⟨a, b, by rw [e0, e1]⟩

theorem keysWithin_calls (u : Value) (hu : USp u) (tr : Int) (wtr : (Lit.int .i64 tr).wf = true) (v : Value) (hv : Int2 v) (w : World) :
    Calls Try.prog 8 #[u, .int .i64 tr, v] w fun e w' => e = .returned (.bool true) ∧ Below w.heap.size w w' := by
  obtain ⟨x, rfl, hi⟩ := hu
  obtain ⟨f, g, rfl⟩ := hv
  cases h1 : M.great8 x with
  | true => exact within_g x tr f g h1 w
  | false =>
    have a := M.great8_no h1
    have hx := hi.fits (by omega) (by omega) (by omega)
    cases h2 : M.mayB x with
    | false => exact within_m x tr f g hx h1 h2 w
    | true => exact within_ok x tr f g hx h1 h2 w

end Go.Proofs.Ytadkkandfgfboaa
