/- Layer 16: a state that comes in, its slices no longer than their room. -/
import Derived.Test.YtfcmjgcjmldpcaaEditsT
import Derived.Deep.Slices
import Derived.ChangeSame
import Derived.WideShapes
import Derived.OpenShut
namespace Go.Proofs.Ytfcmjgcjmldpcaa
set_option linter.unusedVariables false
set_option linter.unusedSimpArgs false
open Go Go.RowKit

section
variable {H : Type} {enc : TypeId × Value → H} {W : World} {fuel : Nat} {cs : List Value} {x : DataW H × List MemPlace} {sp : Nat → Bool} {hd : Bool} {r : Reach} {b0 : Nat} {v : Value} {d : DataW H} {p : List MemPlace}
set_option maxRecDepth 100000 in
theorem ns_cells16c (hf : DataW.trod enc Try.prog W 0 sp hd fuel 25 cs = some x) : ∃ (L : List Int) (ao : Option Addr) (cap : Nat), cs = [.slice ao L.length cap] ∧ NsIn L ∧ NsAt W ao L ∧ L.length ≤ cap := by
  have c8 : Try.prog.cellsOf 3 = 1 := by kernel_rfl
  rcases Deep.open_slice Try.underlying25 hf with ⟨hcs, _⟩ | ⟨a, len, cap, m, n, D, Pz, hcs, _, hl, hm, hmm, _, hx⟩
  · exact ⟨[], none, 0, hcs, ⟨by simp, by simp⟩, (fun h => absurd rfl h), Nat.le_refl _⟩
  · rw [c8] at hx
    have hlm : len ≤ m := by rw [hmm]; split <;> omega
    unfold maxLen at hm
    obtain ⟨L, hL, hp⟩ := choose_list16 (0 : Int) len (p := fun i y => W.cells? 0 (a.add (i * 1)) 1 = some ([.int .i64 y]) ∧ i64In y) (fun i hi => by
      obtain ⟨cs', h1, h2⟩ := hx i (by omega)
      obtain ⟨y, e, _, w0⟩ := DataW.trod_int Try.underlying3 h2
      exact ⟨y, by rw [h1, e], i64_wf16 w0⟩)
    refine ⟨L, some a, cap, by rw [hcs, hL], ⟨by omega, fun y hym => ?_⟩, fun hne => ?_, by omega⟩
    · obtain ⟨i, hi, rfl⟩ := List.mem_iff_getElem.1 hym
      have := (hp i (by omega)).2
      simpa [List.getD, List.getElem?_eq_getElem hi] using this
    · have h0 : 0 < len := by rw [← hL]; exact List.length_pos_iff.2 hne
      have e := addr_plain16 (cells_get16 (hp 0 h0).1 0 _ rfl)
      simp only [Nat.zero_mul, show ∀ x : Addr, x.add 0 = x from fun x => if_pos rfl] at e
      refine ⟨a.block, a.off, by rw [← e], fun j hj => ?_⟩
      have hc := cells_get16 (hp j (by omega)).1
      rw [e, Addr.add_lit] at hc
      have := hc 0 _ rfl
      rw [show ∀ x : Addr, x.add 0 = x from fun x => if_pos rfl] at this
      simpa using this
set_option maxRecDepth 100000 in
theorem tb_cells16c (hf : DataW.trod enc Try.prog W 0 sp hd fuel 41 cs = some x) : ∃ y : Rt, cs = [.string (S y.f), .slice y.o y.l.length y.k] ∧ TbIn y ∧ NsAt W y.o y.l ∧ y.l.length ≤ y.k := by
  have ct : Try.prog.cellsOf 41 = 2 := by kernel_rfl
  have k1 : Try.prog.cellsOf 25 = 1 := by kernel_rfl
  have k0 : Try.prog.cellsOf 9 = 1 := by kernel_rfl
  obtain ⟨xs, n, _, _, hlen, hn, hel⟩ := DataW.trod_struct Try.underlying41 hf
  have hnn : xs.length = 2 := hn
  rw [ct] at hlen
  match cs, hlen with
  | [c0, c1], _ =>
    have h0 : DataW.trod enc Try.prog W 0 sp hd n 9 (List.take (Try.prog.cellsOf 9) (List.drop 0 [c0, c1])) = xs[0]? := hel 0 _ rfl
    rw [k0] at h0
    obtain ⟨x0, hx0⟩ : ∃ x, xs[0]? = some x := ⟨xs[0], by simp [hnn]⟩
    rw [hx0] at h0
    have h1 : DataW.trod enc Try.prog W 0 sp hd n 25 (List.take (Try.prog.cellsOf 25) (List.drop 1 [c0, c1])) = xs[1]? := hel 1 _ rfl
    rw [k1] at h1
    obtain ⟨x1, hx1⟩ : ∃ x, xs[1]? = some x := ⟨xs[1], by simp [hnn]⟩
    rw [hx1] at h1
    obtain ⟨a0, e0, _, w0⟩ := DataW.trod_string Try.underlying9 h0
    obtain ⟨l1, o1, q1, e1, w1, n1, k9⟩ := ns_cells16c h1
    simp at e0 e1
    unfold maxLen at w0
    exact ⟨⟨a0.data.toList, l1, o1, q1⟩, by rw [e0, e1], ⟨w1, by simp only [Array.length_toList]; have : a0.data.size = a0.size := rfl; omega⟩, n1, k9⟩
set_option maxRecDepth 100000 in
theorem tbs_cells16c (hf : DataW.trod enc Try.prog W 0 sp hd fuel 22 cs = some x) : ∃ (L : List Rt) (ao : Option Addr) (cap : Nat), cs = [.slice ao L.length cap] ∧ TbsIn L ∧ TbsAt W ao L ∧ ∀ r, r ∈ L → r.l.length ≤ r.k := by
  have c8 : Try.prog.cellsOf 41 = 2 := by kernel_rfl
  rcases Deep.open_slice Try.underlying22 hf with ⟨hcs, _⟩ | ⟨a, len, cap, m, n, D, Pz, hcs, _, hl, hm, hmm, _, hx⟩
  · exact ⟨[], none, 0, hcs, ⟨by simp, by simp⟩, (fun h => absurd rfl h), fun r hr => by simp at hr⟩
  · rw [c8] at hx
    have hlm : len ≤ m := by rw [hmm]; split <;> omega
    unfold maxLen at hm
    obtain ⟨L, hL, hp⟩ := choose_list16 rt0 len (p := fun i y => W.cells? 0 (a.add (i * 2)) 2 = some ([.string (S y.f), .slice y.o y.l.length y.k]) ∧ TbIn y ∧ NsAt W y.o y.l ∧ y.l.length ≤ y.k) (fun i hi => by
      obtain ⟨cs', h1, h2⟩ := hx i (by omega)
      obtain ⟨y, rfl, hok, hns, hk9⟩ := tb_cells16c h2
      exact ⟨y, h1, hok, hns, hk9⟩)
    refine ⟨L, some a, cap, by rw [hcs, hL], ⟨by omega, fun y hym => ?_⟩, fun hne => ?_, fun y hym => ?_⟩
    · obtain ⟨i, hi, rfl⟩ := List.mem_iff_getElem.1 hym
      have := (hp i (by omega)).2.1
      simpa [List.getD, List.getElem?_eq_getElem hi] using this
    · have h0 : 0 < len := by rw [← hL]; exact List.length_pos_iff.2 hne
      have e := addr_plain16 (cells_get16 (hp 0 h0).1 0 _ rfl)
      simp only [Nat.zero_mul, show ∀ x : Addr, x.add 0 = x from fun x => if_pos rfl] at e
      refine ⟨a.block, a.off, by rw [← e], fun j hj => ?_⟩
      have hc := cells_get16 (hp j (by omega)).1
      rw [e, Addr.add_lit] at hc
      exact ⟨(hc 0 _ rfl), (hc 1 _ rfl), (hp j (by omega)).2.2.1⟩
    · obtain ⟨i, hi, rfl⟩ := List.mem_iff_getElem.1 hym
      have := (hp i (by omega)).2.2.2
      simpa [List.getD, List.getElem?_eq_getElem hi] using this
set_option maxRecDepth 100000 in
theorem st_cells16c (hf : DataW.trod enc Try.prog W 0 sp hd fuel 24 cs = some x) : ∃ (L : List Rt) (ao : Option Addr) (cap : Nat) (log next : Int), cs = [.slice ao L.length cap, .int .i64 log, .int .i64 next] ∧ TbsIn L ∧ TbsAt W ao L ∧ (∀ r, r ∈ L → r.l.length ≤ r.k) ∧ i64In log ∧ i64In next := by
  have ct : Try.prog.cellsOf 24 = 3 := by kernel_rfl
  have k0 : Try.prog.cellsOf 22 = 1 := by kernel_rfl
  have k1 : Try.prog.cellsOf 3 = 1 := by kernel_rfl
  obtain ⟨xs, n, _, _, hlen, hn, hel⟩ := DataW.trod_struct Try.underlying24 hf
  have hnn : xs.length = 3 := hn
  rw [ct] at hlen
  match cs, hlen with
  | [c0, c1, c2], _ =>
    have h0 : DataW.trod enc Try.prog W 0 sp hd n 22 (List.take (Try.prog.cellsOf 22) (List.drop 0 [c0, c1, c2])) = xs[0]? := hel 0 _ rfl
    rw [k0] at h0
    obtain ⟨x0, hx0⟩ : ∃ x, xs[0]? = some x := ⟨xs[0], by simp [hnn]⟩
    rw [hx0] at h0
    have h1 : DataW.trod enc Try.prog W 0 sp hd n 3 (List.take (Try.prog.cellsOf 3) (List.drop 1 [c0, c1, c2])) = xs[1]? := hel 1 _ rfl
    rw [k1] at h1
    obtain ⟨x1, hx1⟩ : ∃ x, xs[1]? = some x := ⟨xs[1], by simp [hnn]⟩
    rw [hx1] at h1
    have h2 : DataW.trod enc Try.prog W 0 sp hd n 3 (List.take (Try.prog.cellsOf 3) (List.drop 2 [c0, c1, c2])) = xs[2]? := hel 2 _ rfl
    rw [k1] at h2
    obtain ⟨x2, hx2⟩ : ∃ x, xs[2]? = some x := ⟨xs[2], by simp [hnn]⟩
    rw [hx2] at h2
    obtain ⟨l0, o0, q0, e0, w0, n0, k9⟩ := tbs_cells16c h0
    obtain ⟨a1, e1, _, w1⟩ := DataW.trod_int Try.underlying3 h1
    obtain ⟨a2, e2, _, w2⟩ := DataW.trod_int Try.underlying3 h2
    simp at e0 e1 e2
    have r1 := i64_wf16 w1
    have r2 := i64_wf16 w2
    exact ⟨l0, o0, q0, a1, a2, by rw [e0, e1, e2], w0, n0, k9, r1, r2⟩
def UStC (W : World) (v : Value) : Prop := ∃ (L : List Rt) (ao : Option Addr) (cap : Nat) (log next : Int), v = stV ao L.length cap log next ∧ TbsIn L ∧ TbsAt W ao L ∧ (∀ r, r ∈ L → r.l.length ≤ r.k) ∧ i64In log ∧ i64In next
set_option maxRecDepth 100000 in
theorem open_state_c (hv : Value.okWide Try.prog W r b0 24 v) (h : DataW.Trod enc Try.prog W 0 (fun _ => true) true 24 v d p) : UStC W v := by
  obtain ⟨cs, rfl, hsz⟩ := WideShapes.okWide_struct Try.underlying24 hv
  obtain ⟨fuel, hf⟩ := h
  obtain ⟨L, ao, cap, log, next, hcs, h1, h2, k9, h3, h4⟩ := st_cells16c hf
  have hcs' : cs.toList = [.slice ao L.length cap, .int .i64 log, .int .i64 next] := hcs
  exact ⟨L, ao, cap, log, next, by rw [show cs = [.slice ao L.length cap, .int .i64 log, .int .i64 next].toArray from by rw [← hcs']]; rfl, h1, h2, k9, h3, h4⟩
end

end Go.Proofs.Ytfcmjgcjmldpcaa
