/- Layer 19: what comes in, opened. -/
import Derived.Test.YtnhljlmelbiljaaGreatTbltO
import Derived.WideShapes
import Derived.OpenShut
namespace Go.Proofs.YtnhljlmelbiljaaGreat
set_option linter.unusedVariables false
set_option linter.unusedSimpArgs false
open Go Go.RowKit

section
variable {H : Type} {enc : TypeId × Value → H} {W : World} {fuel : Nat} {cs : List Value} {x : DataW H × List MemPlace} {B : Nat} {sp : Nat → Bool} {hd : Bool} {r : Reach} {b0 : Nat} {v : Value} {d : DataW H} {p : List MemPlace}
theorem i64_wfO {n : Int} (h : (Lit.int .i64 n).wf = true) : -9223372036854775808 ≤ n ∧ n ≤ 9223372036854775807 := by
  simp [Lit.wf, IntKind.min, IntKind.max, IntKind.signed, IntKind.bits] at h
  omega
set_option maxRecDepth 100000 in
theorem cl_cellsO (hf : DataW.trod enc Tryz.prog W B sp hd fuel 38 cs = some x) : ∃ y : M.Cl, cs = clL y ∧ y.ints := by
  have ct : Tryz.prog.cellsOf 38 = 3 := by kernel_rfl
  have k0 : Tryz.prog.cellsOf 3 = 1 := by kernel_rfl
  have k1 : Tryz.prog.cellsOf 9 = 1 := by kernel_rfl
  obtain ⟨xs, n, _, _, hlen, hn, hel⟩ := DataW.trod_struct Tryz.underlying38 hf
  have hnn : xs.length = 3 := hn
  rw [ct] at hlen
  match cs, hlen with
  | [c0, c1, c2], _ =>
    have h0 : DataW.trod enc Tryz.prog W B sp hd n 9 (List.take (Tryz.prog.cellsOf 9) (List.drop 0 [c0, c1, c2])) = xs[0]? := hel 0 _ rfl
    rw [k1] at h0
    obtain ⟨x0, hx0⟩ : ∃ x, xs[0]? = some x := ⟨xs[0], by simp [hnn]⟩
    rw [hx0] at h0
    have h1 : DataW.trod enc Tryz.prog W B sp hd n 3 (List.take (Tryz.prog.cellsOf 3) (List.drop 1 [c0, c1, c2])) = xs[1]? := hel 1 _ rfl
    rw [k0] at h1
    obtain ⟨x1, hx1⟩ : ∃ x, xs[1]? = some x := ⟨xs[1], by simp [hnn]⟩
    rw [hx1] at h1
    have h2 : DataW.trod enc Tryz.prog W B sp hd n 9 (List.take (Tryz.prog.cellsOf 9) (List.drop 2 [c0, c1, c2])) = xs[2]? := hel 2 _ rfl
    rw [k1] at h2
    obtain ⟨x2, hx2⟩ : ∃ x, xs[2]? = some x := ⟨xs[2], by simp [hnn]⟩
    rw [hx2] at h2
    obtain ⟨a0, e0, _, w0⟩ := DataW.trod_string Tryz.underlying9 h0
    obtain ⟨a1, e1, _, w1⟩ := DataW.trod_int Tryz.underlying3 h1
    obtain ⟨a2, e2, _, w2⟩ := DataW.trod_string Tryz.underlying9 h2
    have r1 := i64_wfO w1
    simp at e0 e1 e2
    exact ⟨⟨a0.data.toList, a1, a2.data.toList⟩, by rw [e0, e1, e2]; rfl, ⟨r1.1, r1.2⟩⟩
set_option maxRecDepth 100000 in
theorem cells_cellsO (hf : DataW.trod enc Tryz.prog W 0 sp hd fuel 22 cs = some x) : ∃ (L : List M.Cl) (ao : Option Addr) (cap : Nat), cs = [.slice ao L.length cap] ∧ L.length ≤ 9223372036854775807 ∧ (∀ y ∈ L, y.ints) ∧ L.length ≤ cap ∧ ClsAt W ao L := by
  have c8 : Tryz.prog.cellsOf 38 = 3 := by kernel_rfl
  rcases Deep.open_slice Tryz.underlying22 hf with ⟨hcs, _⟩ | ⟨a, len, cap, m, n, D, Pl, hcs, _, hl, hm, hmm, _, hx⟩
  · exact ⟨[], none, 0, hcs, by simp, by simp, by simp, fun h => absurd rfl h⟩
  · rw [c8] at hx
    have hlm : len ≤ m := by rw [hmm]; split <;> omega
    unfold maxLen at hm
    obtain ⟨L, hL, hp⟩ := choose_listP M.cl0 len (p := fun i y => W.cells? 0 (a.add (i * 3)) 3 = some (clL y) ∧ y.ints) (fun i hi => by
      obtain ⟨cs', h1, h2⟩ := hx i (by omega)
      obtain ⟨y, rfl, hok⟩ := cl_cellsO h2
      exact ⟨y, h1, hok⟩)
    refine ⟨L, some a, cap, by rw [hcs, hL], by omega, fun y hym => ?_, by omega, fun hne => ?_⟩
    · obtain ⟨i, hi, rfl⟩ := List.mem_iff_getElem.1 hym
      have := (hp i (by omega)).2
      simpa [List.getD, List.getElem?_eq_getElem hi] using this
    · have h0 : 0 < len := by rw [← hL]; exact List.length_pos_iff.2 hne
      have e := addr_plainP (cells_getP (hp 0 h0).1 0 _ rfl)
      simp only [Nat.zero_mul, show ∀ x : Addr, x.add 0 = x from fun x => if_pos rfl] at e
      refine ⟨a.block, a.off, by rw [← e], fun j hj => ?_⟩
      have hc := cells_getP (hp j (by omega)).1
      rw [e, Addr.add_lit] at hc
      exact ⟨(hc 0 _ rfl), (hc 1 _ rfl), (hc 2 _ rfl)⟩
set_option maxRecDepth 100000 in
theorem rows_cellsO (hf : DataW.trod enc Tryz.prog W 0 sp hd fuel 23 cs = some x) : ∃ (Rs : List M.Rw) (ao : Option Addr) (cap : Nat), cs = [.slice ao Rs.length cap] ∧ Rs.length ≤ 9223372036854775807 ∧ (∀ r, r ∈ Rs → RwIn r) ∧ Rs.length ≤ cap ∧ RwsAt W ao Rs := by
  have c8 : Tryz.prog.cellsOf 22 = 1 := by kernel_rfl
  rcases Deep.open_slice Tryz.underlying23 hf with ⟨hcs, _⟩ | ⟨a, len, cap, m, n, D, Pl, hcs, _, hl, hm, hmm, _, hx⟩
  · exact ⟨[], none, 0, hcs, by simp, by simp, by simp, fun h => absurd rfl h⟩
  · rw [c8] at hx
    have hlm : len ≤ m := by rw [hmm]; split <;> omega
    unfold maxLen at hm
    obtain ⟨L, hL, hp⟩ := choose_listP M.rw0 len (p := fun i (r : M.Rw) => W.cells? 0 (a.add (i * 1)) 1 = some [.slice r.o r.l.length r.k] ∧ RwIn r ∧ ClsAt W r.o r.l) (fun i hi => by
      obtain ⟨cs', h1, h2⟩ := hx i (by omega)
      obtain ⟨l, o, k, rfl, q1, q2, q3, q4⟩ := cells_cellsO h2
      exact ⟨⟨l, o, k⟩, h1, ⟨fun y hy => q2 y hy, q1, q3⟩, q4⟩)
    refine ⟨L, some a, cap, by rw [hcs, hL], by omega, fun y hym => ?_, by omega, fun hne => ?_⟩
    · obtain ⟨i, hi, rfl⟩ := List.mem_iff_getElem.1 hym
      have := (hp i (by omega)).2.1
      simpa [List.getD, List.getElem?_eq_getElem hi] using this
    · have h0 : 0 < len := by rw [← hL]; exact List.length_pos_iff.2 hne
      have e := addr_plainP (cells_getP (hp 0 h0).1 0 _ rfl)
      simp only [Nat.zero_mul, show ∀ x : Addr, x.add 0 = x from fun x => if_pos rfl] at e
      refine ⟨a.block, a.off, by rw [← e], fun j hj => ?_⟩
      have hc := cells_getP (hp j (by omega)).1
      rw [e, Addr.add_lit, Nat.mul_one] at hc
      exact ⟨hc 0 _ rfl, (hp j (by omega)).2.2⟩
set_option maxRecDepth 100000 in
theorem da_cells19 (hf : DataW.trod enc Tryz.prog W 0 sp hd fuel 25 cs = some x) : ∃ y : M.Da, cs = (daV y).toList ∧ DaIn y ∧ DaAt W y := by
  have ct : Tryz.prog.cellsOf 25 = 4 := by kernel_rfl
  have k3 : Tryz.prog.cellsOf 22 = 1 := by kernel_rfl
  have k5 : Tryz.prog.cellsOf 23 = 1 := by kernel_rfl
  have k4 : Tryz.prog.cellsOf 9 = 1 := by kernel_rfl
  obtain ⟨xs, n, _, _, hlen, hn, hel⟩ := DataW.trod_struct Tryz.underlying25 hf
  have hnn : xs.length = 4 := hn
  rw [ct] at hlen
  match cs, hlen with
  | [c0, c1, c2, c3], _ =>
    have h0 : DataW.trod enc Tryz.prog W 0 sp hd n 9 (List.take (Tryz.prog.cellsOf 9) (List.drop 0 [c0, c1, c2, c3])) = xs[0]? := hel 0 _ rfl
    rw [k4] at h0
    obtain ⟨x0, hx0⟩ : ∃ x, xs[0]? = some x := ⟨xs[0], by simp [hnn]⟩
    rw [hx0] at h0
    have h1 : DataW.trod enc Tryz.prog W 0 sp hd n 9 (List.take (Tryz.prog.cellsOf 9) (List.drop 1 [c0, c1, c2, c3])) = xs[1]? := hel 1 _ rfl
    rw [k4] at h1
    obtain ⟨x1, hx1⟩ : ∃ x, xs[1]? = some x := ⟨xs[1], by simp [hnn]⟩
    rw [hx1] at h1
    have h2 : DataW.trod enc Tryz.prog W 0 sp hd n 22 (List.take (Tryz.prog.cellsOf 22) (List.drop 2 [c0, c1, c2, c3])) = xs[2]? := hel 2 _ rfl
    rw [k3] at h2
    obtain ⟨x2, hx2⟩ : ∃ x, xs[2]? = some x := ⟨xs[2], by simp [hnn]⟩
    rw [hx2] at h2
    have h3 : DataW.trod enc Tryz.prog W 0 sp hd n 23 (List.take (Tryz.prog.cellsOf 23) (List.drop 3 [c0, c1, c2, c3])) = xs[3]? := hel 3 _ rfl
    rw [k5] at h3
    obtain ⟨x3, hx3⟩ : ∃ x, xs[3]? = some x := ⟨xs[3], by simp [hnn]⟩
    rw [hx3] at h3
    obtain ⟨a0, e0, _, w0⟩ := DataW.trod_string Tryz.underlying9 h0
    obtain ⟨a1, e1, _, w1⟩ := DataW.trod_string Tryz.underlying9 h1
    obtain ⟨l2, o2, q2, e2, n2, i2, c2', s2⟩ := cells_cellsO h2
    obtain ⟨l3, o3, q3, e3, n3, i3, c3', s3⟩ := rows_cellsO h3
    simp at e0 e1 e2 e3
    unfold maxLen at w0 w1
    exact ⟨⟨a0.data.toList, a1.data.toList, l2, o2, q2, l3, o3, q3⟩, by rw [e0, e1, e2, e3]; rfl, ⟨by simp only [Array.length_toList]; have : a0.data.size = a0.size := rfl; omega, by simp only [Array.length_toList]; have : a1.data.size = a1.size := rfl; omega, n2, i2, n3, i3⟩, ⟨s2, s3⟩⟩
set_option maxRecDepth 100000 in
theorem open_data19 (hv : Value.okWide Tryz.prog W r b0 25 v) (h : DataW.Trod enc Tryz.prog W 0 (fun _ => true) true 25 v d p) : UDa W v := by
  obtain ⟨cs, rfl, hsz⟩ := WideShapes.okWide_struct Tryz.underlying25 hv
  obtain ⟨fuel, hf⟩ := h
  obtain ⟨y, hcs, h1, h2⟩ := da_cells19 hf
  have hcs' : cs.toList = (daV y).toList := hcs
  exact ⟨y, by rw [Array.toList_inj.1 hcs'], h1, h2⟩
end

end Go.Proofs.YtnhljlmelbiljaaGreat
