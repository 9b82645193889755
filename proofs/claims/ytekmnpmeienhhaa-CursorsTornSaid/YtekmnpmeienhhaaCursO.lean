/- Layer 13: what comes in: cursors, acts, rows of them. -/
import Derived.Test.YtekmnpmeienhhaaCursE
import Derived.Test.YtekmnpmeienhhaaDiskE
namespace Go.Proofs.Ytekmnpmeienhhaa
set_option linter.unusedVariables false
set_option linter.unusedSimpArgs false
set_option linter.constructorNameAsVariable false
open Go Go.RowKit

theorem Cu.decV_out (r : Option Cu.C) : Cu.decV r = .returned (.tuple #[.agg #[.int .i64 (r.getD Cu.c0).next, .int .i64 (r.getD Cu.c0).gap], .int .i64 (if r = none then 30 else 0)]) := rfl
/-- A cursor within its kinds. -/
structure CuI (c : Cu.C) : Prop where
  next : -9223372036854775808 ≤ c.next ∧ c.next ≤ 9223372036854775807
  gap : -9223372036854775808 ≤ c.gap ∧ c.gap ≤ 9223372036854775807
/-- An act. -/
structure Ca where
  kind : Int
  c : Cu.C
  n : Int
  keep : List Int
  name : List UInt8
  data : List UInt8
  o : Option Addr
  k : Nat
def ca0 : Ca := ⟨0, ⟨0, 0⟩, 0, [], [], [], none, 0⟩
def caL (y : Ca) : List Value := [.int .u8 y.kind, .int .i64 y.c.next, .int .i64 y.c.gap, .int .i64 y.n, .slice y.o y.keep.length y.k, .string (S y.name), .string (S y.data)]
structure CaI (r : Ca) : Prop where
  kind : 0 ≤ r.kind ∧ r.kind ≤ 255
  c : CuI r.c
  n : -9223372036854775808 ≤ r.n ∧ r.n ≤ 9223372036854775807
  keep : NsI5 r.keep
  name : r.name.length ≤ 9223372036854775807
  data : r.data.length ≤ 9223372036854775807
structure CasI (L : List Ca) : Prop where
  n : L.length ≤ 9223372036854775807
  each : ∀ r, r ∈ L → CaI r
def CaAt (w : World) (g o : Nat) (y : Ca) : Prop := w.cell? ⟨g, o, none⟩ = some (.int .u8 y.kind) ∧ w.cell? ⟨g, o + 1, none⟩ = some (.int .i64 y.c.next) ∧ w.cell? ⟨g, o + 2, none⟩ = some (.int .i64 y.c.gap) ∧ w.cell? ⟨g, o + 3, none⟩ = some (.int .i64 y.n) ∧ w.cell? ⟨g, o + 4, none⟩ = some (.slice y.o y.keep.length y.k) ∧ w.cell? ⟨g, o + 5, none⟩ = some (.string (S y.name)) ∧ w.cell? ⟨g, o + 6, none⟩ = some (.string (S y.data)) ∧ NsA5 w y.o y.keep
def CasAt (w : World) (ao : Option Addr) (L : List Ca) : Prop := L ≠ [] → ∃ g off, ao = some ⟨g, off, none⟩ ∧ ∀ j, j < L.length → CaAt w g (off + j * 7) (L.getD j ca0)
structure CusI (L : List Cu.C) : Prop where
  n : L.length ≤ 9223372036854775807
  each : ∀ r, r ∈ L → CuI r
def CuAt (w : World) (g o : Nat) (y : Cu.C) : Prop := w.cell? ⟨g, o, none⟩ = some (.int .i64 y.next) ∧ w.cell? ⟨g, o + 1, none⟩ = some (.int .i64 y.gap)
def CusAt (w : World) (ao : Option Addr) (L : List Cu.C) : Prop := L ≠ [] → ∃ g off, ao = some ⟨g, off, none⟩ ∧ ∀ j, j < L.length → CuAt w g (off + j * 2) (L.getD j Cu.c0)
section
variable {w w' : World} {ao : Option Addr} {L : List Ca}
theorem CaAt.below {g o : Nat} {r : Ca} (h : CaAt w g o r) (hb : Below w.heap.size w w') : CaAt w' g o r := by
  obtain ⟨h0, h1, h2, h3, h4, h5, h6, h7⟩ := h
  have c : ∀ j v, w.cell? ⟨g, j, none⟩ = some v → w'.cell? ⟨g, j, none⟩ = some v := fun j v hv => (hb.cell (p := ⟨g, j, none⟩) (cell_lt5 hv)).trans hv
  exact ⟨c _ _ h0, c _ _ h1, c _ _ h2, c _ _ h3, c _ _ h4, c _ _ h5, c _ _ h6, h7.below hb⟩
theorem CasAt.below (h : CasAt w ao L) (hb : Below w.heap.size w w') : CasAt w' ao L := fun hn => by
  obtain ⟨g, off, e, hc⟩ := h hn
  exact ⟨g, off, e, fun j hj => (hc j hj).below hb⟩
theorem CasAt.off (h : CasAt w ao L) {j : Nat} (hj : j < L.length) : ∃ g off, ao = some ⟨g, off, none⟩ ∧ CaAt w g (off + j * 7) (L.getD j ca0) := by
  obtain ⟨g, off, e, hc⟩ := h (fun h => by rw [h] at hj; simp at hj)
  exact ⟨g, off, e, hc j hj⟩
end
section
variable {H : Type} {enc : TypeId × Value → H} {W : World} {fuel : Nat} {cs : List Value} {x : DataW H × List MemPlace} {sp : Nat → Bool} {hd : Bool} {r : Reach} {b0 : Nat} {v : Value} {d : DataW H} {p : List MemPlace}
set_option maxRecDepth 100000 in
theorem cu_cells13 (hf : DataW.trod enc Try.prog W 0 sp hd fuel 71 cs = some x) : ∃ y : Cu.C, cs = [.int .i64 y.next, .int .i64 y.gap] ∧ CuI y := by
  have ct : Try.prog.cellsOf 71 = 2 := by kernel_rfl
  have k0 : Try.prog.cellsOf 3 = 1 := by kernel_rfl
  obtain ⟨xs, n, _, _, hlen, hn, hel⟩ := DataW.trod_struct Try.underlying71 hf
  have hnn : xs.length = 2 := hn
  rw [ct] at hlen
  match cs, hlen with
  | [c0, c1], _ =>
    have h0 : DataW.trod enc Try.prog W 0 sp hd n 3 (List.take (Try.prog.cellsOf 3) (List.drop 0 [c0, c1])) = xs[0]? := hel 0 _ rfl
    rw [k0] at h0
    obtain ⟨x0, hx0⟩ : ∃ x, xs[0]? = some x := ⟨xs[0], by simp [hnn]⟩
    rw [hx0] at h0
    have h1 : DataW.trod enc Try.prog W 0 sp hd n 3 (List.take (Try.prog.cellsOf 3) (List.drop 1 [c0, c1])) = xs[1]? := hel 1 _ rfl
    rw [k0] at h1
    obtain ⟨x1, hx1⟩ : ∃ x, xs[1]? = some x := ⟨xs[1], by simp [hnn]⟩
    rw [hx1] at h1
    obtain ⟨a0, e0, _, w0⟩ := DataW.trod_int Try.underlying3 h0
    obtain ⟨a1, e1, _, w1⟩ := DataW.trod_int Try.underlying3 h1
    simp at e0 e1
    have r0 := i64_wf5 w0
    have r1 := i64_wf5 w1
    exact ⟨⟨a0, a1⟩, by rw [e0, e1], ⟨r0, r1⟩⟩
set_option maxRecDepth 100000 in
theorem ca_cells13 (hf : DataW.trod enc Try.prog W 0 sp hd fuel 79 cs = some x) : ∃ y : Ca, cs = caL y ∧ CaI y ∧ NsA5 W y.o y.keep := by
  have ct : Try.prog.cellsOf 79 = 7 := by kernel_rfl
  have k0 : Try.prog.cellsOf 5 = 1 := by kernel_rfl
  have k1 : Try.prog.cellsOf 71 = 2 := by kernel_rfl
  have k2 : Try.prog.cellsOf 3 = 1 := by kernel_rfl
  have k3 : Try.prog.cellsOf 32 = 1 := by kernel_rfl
  have k4 : Try.prog.cellsOf 9 = 1 := by kernel_rfl
  obtain ⟨xs, n, _, _, hlen, hn, hel⟩ := DataW.trod_struct Try.underlying79 hf
  have hnn : xs.length = 6 := hn
  rw [ct] at hlen
  match cs, hlen with
  | [c0, c1, c2, c3, c4, c5, c6], _ =>
    have h0 : DataW.trod enc Try.prog W 0 sp hd n 5 (List.take (Try.prog.cellsOf 5) (List.drop 0 [c0, c1, c2, c3, c4, c5, c6])) = xs[0]? := hel 0 _ rfl
    rw [k0] at h0
    obtain ⟨x0, hx0⟩ : ∃ x, xs[0]? = some x := ⟨xs[0], by simp [hnn]⟩
    rw [hx0] at h0
    have h1 : DataW.trod enc Try.prog W 0 sp hd n 71 (List.take (Try.prog.cellsOf 71) (List.drop 1 [c0, c1, c2, c3, c4, c5, c6])) = xs[1]? := hel 1 _ rfl
    rw [k1] at h1
    obtain ⟨x1, hx1⟩ : ∃ x, xs[1]? = some x := ⟨xs[1], by simp [hnn]⟩
    rw [hx1] at h1
    have h2 : DataW.trod enc Try.prog W 0 sp hd n 3 (List.take (Try.prog.cellsOf 3) (List.drop 3 [c0, c1, c2, c3, c4, c5, c6])) = xs[2]? := hel 2 _ rfl
    rw [k2] at h2
    obtain ⟨x2, hx2⟩ : ∃ x, xs[2]? = some x := ⟨xs[2], by simp [hnn]⟩
    rw [hx2] at h2
    have h3 : DataW.trod enc Try.prog W 0 sp hd n 32 (List.take (Try.prog.cellsOf 32) (List.drop 4 [c0, c1, c2, c3, c4, c5, c6])) = xs[3]? := hel 3 _ rfl
    rw [k3] at h3
    obtain ⟨x3, hx3⟩ : ∃ x, xs[3]? = some x := ⟨xs[3], by simp [hnn]⟩
    rw [hx3] at h3
    have h4 : DataW.trod enc Try.prog W 0 sp hd n 9 (List.take (Try.prog.cellsOf 9) (List.drop 5 [c0, c1, c2, c3, c4, c5, c6])) = xs[4]? := hel 4 _ rfl
    rw [k4] at h4
    obtain ⟨x4, hx4⟩ : ∃ x, xs[4]? = some x := ⟨xs[4], by simp [hnn]⟩
    rw [hx4] at h4
    have h5 : DataW.trod enc Try.prog W 0 sp hd n 9 (List.take (Try.prog.cellsOf 9) (List.drop 6 [c0, c1, c2, c3, c4, c5, c6])) = xs[5]? := hel 5 _ rfl
    rw [k4] at h5
    obtain ⟨x5, hx5⟩ : ∃ x, xs[5]? = some x := ⟨xs[5], by simp [hnn]⟩
    rw [hx5] at h5
    obtain ⟨a0, e0, _, w0⟩ := DataW.trod_int Try.underlying5 h0
    obtain ⟨y1, e1, w1⟩ := cu_cells13 h1
    obtain ⟨a2, e2, _, w2⟩ := DataW.trod_int Try.underlying3 h2
    obtain ⟨l3, o3, q3, e3, w3, n3⟩ := ns_cells5 h3
    obtain ⟨a4, e4, _, w4⟩ := DataW.trod_string Try.underlying9 h4
    obtain ⟨a5, e5, _, w5⟩ := DataW.trod_string Try.underlying9 h5
    simp at e0 e1 e2 e3 e4 e5
    have r0 := u8_wf5 w0
    have r2 := i64_wf5 w2
    unfold maxLen at w4
    have r4 : a4.data.toList.length ≤ 9223372036854775807 := by simp only [Array.length_toList]; have : a4.data.size = a4.size := rfl; omega
    unfold maxLen at w5
    have r5 : a5.data.toList.length ≤ 9223372036854775807 := by simp only [Array.length_toList]; have : a5.data.size = a5.size := rfl; omega
    exact ⟨⟨a0, y1, a2, l3, a4.data.toList, a5.data.toList, o3, q3⟩, by rw [e0, e1.1, e1.2, e2, e3, e4, e5]; rfl, ⟨r0, w1, r2, w3, r4, r5⟩, n3⟩
set_option maxRecDepth 100000 in
theorem cas_cells13 (hf : DataW.trod enc Try.prog W 0 sp hd fuel 76 cs = some x) : ∃ (L : List Ca) (ao : Option Addr) (cap : Nat), cs = [.slice ao L.length cap] ∧ CasI L ∧ CasAt W ao L := by
  have c8 : Try.prog.cellsOf 79 = 7 := by kernel_rfl
  rcases Deep.open_slice Try.underlying76 hf with ⟨hcs, _⟩ | ⟨a, len, cap, m, n, D, Pz, hcs, _, hl, hm, hmm, _, hx⟩
  · exact ⟨[], none, 0, hcs, ⟨by simp, by simp⟩, fun h => absurd rfl h⟩
  · rw [c8] at hx
    have hlm : len ≤ m := by rw [hmm]; split <;> omega
    unfold maxLen at hm
    obtain ⟨L, hL, hp⟩ := choose_list5 ca0 len (p := fun i y => W.cells? 0 (a.add (i * 7)) 7 = some (caL y) ∧ CaI y ∧ NsA5 W y.o y.keep) (fun i hi => by
      obtain ⟨cs', h1, h2⟩ := hx i (by omega)
      obtain ⟨y, rfl, hok, hns⟩ := ca_cells13 h2
      exact ⟨y, h1, hok, hns⟩)
    refine ⟨L, some a, cap, by rw [hcs, hL], ⟨by omega, fun y hym => ?_⟩, fun hne => ?_⟩
    · obtain ⟨i, hi, rfl⟩ := List.mem_iff_getElem.1 hym
      have := (hp i (by omega)).2.1
      simpa [List.getD, List.getElem?_eq_getElem hi] using this
    · have h0 : 0 < len := by rw [← hL]; exact List.length_pos_iff.2 hne
      have e := addr_plain5 (cells_get5 (hp 0 h0).1 0 _ rfl)
      simp only [Nat.zero_mul, show ∀ x : Addr, x.add 0 = x from fun x => if_pos rfl] at e
      refine ⟨a.block, a.off, by rw [← e], fun j hj => ?_⟩
      have hc := cells_get5 (hp j (by omega)).1
      rw [e, Addr.add_lit] at hc
      exact ⟨(hc 0 _ rfl), (hc 1 _ rfl), (hc 2 _ rfl), (hc 3 _ rfl), (hc 4 _ rfl), (hc 5 _ rfl), (hc 6 _ rfl), (hp j (by omega)).2.2⟩
set_option maxRecDepth 100000 in
theorem cus_cells13 (hf : DataW.trod enc Try.prog W 0 sp hd fuel 87 cs = some x) : ∃ (L : List Cu.C) (ao : Option Addr) (cap : Nat), cs = [.slice ao L.length cap] ∧ CusI L ∧ CusAt W ao L := by
  have c8 : Try.prog.cellsOf 71 = 2 := by kernel_rfl
  rcases Deep.open_slice Try.underlying87 hf with ⟨hcs, _⟩ | ⟨a, len, cap, m, n, D, Pz, hcs, _, hl, hm, hmm, _, hx⟩
  · exact ⟨[], none, 0, hcs, ⟨by simp, by simp⟩, fun h => absurd rfl h⟩
  · rw [c8] at hx
    have hlm : len ≤ m := by rw [hmm]; split <;> omega
    unfold maxLen at hm
    obtain ⟨L, hL, hp⟩ := choose_list5 Cu.c0 len (p := fun i y => W.cells? 0 (a.add (i * 2)) 2 = some ([.int .i64 y.next, .int .i64 y.gap]) ∧ CuI y) (fun i hi => by
      obtain ⟨cs', h1, h2⟩ := hx i (by omega)
      obtain ⟨y, rfl, hok⟩ := cu_cells13 h2
      exact ⟨y, h1, hok⟩)
    refine ⟨L, some a, cap, by rw [hcs, hL], ⟨by omega, fun y hym => ?_⟩, fun hne => ?_⟩
    · obtain ⟨i, hi, rfl⟩ := List.mem_iff_getElem.1 hym
      have := (hp i (by omega)).2
      simpa [List.getD, List.getElem?_eq_getElem hi] using this
    · have h0 : 0 < len := by rw [← hL]; exact List.length_pos_iff.2 hne
      have e := addr_plain5 (cells_get5 (hp 0 h0).1 0 _ rfl)
      simp only [Nat.zero_mul, show ∀ x : Addr, x.add 0 = x from fun x => if_pos rfl] at e
      refine ⟨a.block, a.off, by rw [← e], fun j hj => ?_⟩
      have hc := cells_get5 (hp j (by omega)).1
      rw [e, Addr.add_lit] at hc
      exact ⟨(hc 0 _ rfl), (hc 1 _ rfl)⟩
def UCu (v : Value) : Prop := ∃ c : Cu.C, v = .agg #[.int .i64 c.next, .int .i64 c.gap] ∧ CuI c
def UCas (W : World) (v : Value) : Prop := ∃ (L : List Ca) (ao : Option Addr) (cap : Nat), v = .slice ao L.length cap ∧ CasI L ∧ CasAt W ao L
def UCus (W : World) (v : Value) : Prop := ∃ (L : List Cu.C) (ao : Option Addr) (cap : Nat), v = .slice ao L.length cap ∧ CusI L ∧ CusAt W ao L
set_option maxRecDepth 100000 in
theorem open_cu13 (hv : Value.okWide Try.prog W r b0 71 v) (h : DataW.Trod enc Try.prog W 0 (fun _ => true) true 71 v d p) : UCu v := by
  obtain ⟨cs, rfl, hsz⟩ := WideShapes.okWide_struct Try.underlying71 hv
  obtain ⟨fuel, hf⟩ := h
  obtain ⟨y, hcs, h1⟩ := cu_cells13 hf
  have hcs' : cs.toList = [.int .i64 y.next, .int .i64 y.gap] := hcs
  exact ⟨y, by rw [show cs = ([.int .i64 y.next, .int .i64 y.gap]).toArray from by rw [← hcs']], h1⟩
set_option maxRecDepth 100000 in
theorem open_cas13 (hv : Value.okWide Try.prog W r b0 76 v) (h : DataW.Trod enc Try.prog W 0 (fun _ => true) true 76 v d p) : UCas W v := by
  obtain ⟨a0, len, cap, rfl⟩ := WideShapes.okWide_slice Try.underlying76 hv
  obtain ⟨fuel, hf⟩ := h
  obtain ⟨L, ao, cap', hcs, h1, h2⟩ := cas_cells13 hf
  simp [Value.cells] at hcs
  obtain ⟨rfl, rfl, rfl⟩ := hcs
  exact ⟨L, a0, cap, rfl, h1, h2⟩
set_option maxRecDepth 100000 in
theorem open_cus13 (hv : Value.okWide Try.prog W r b0 87 v) (h : DataW.Trod enc Try.prog W 0 (fun _ => true) true 87 v d p) : UCus W v := by
  obtain ⟨a0, len, cap, rfl⟩ := WideShapes.okWide_slice Try.underlying87 hv
  obtain ⟨fuel, hf⟩ := h
  obtain ⟨L, ao, cap', hcs, h1, h2⟩ := cus_cells13 hf
  simp [Value.cells] at hcs
  obtain ⟨rfl, rfl, rfl⟩ := hcs
  exact ⟨L, a0, cap, rfl, h1, h2⟩
end

end Go.Proofs.Ytekmnpmeienhhaa
