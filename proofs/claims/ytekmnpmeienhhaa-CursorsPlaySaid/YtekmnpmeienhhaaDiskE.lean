/- Layer 5: what comes in: numbers, acts. -/
import Derived.Test.YtekmnpmeienhhaaDiskD
import Derived.Deep.Slices
import Derived.ChangeSame
import Derived.WideShapes
import Derived.OpenShut
namespace Go.Proofs.Ytekmnpmeienhhaa
set_option linter.unusedVariables false
set_option linter.unusedSimpArgs false
set_option linter.constructorNameAsVariable false
open Go Go.RowKit

theorem i64_wf5 {n : Int} (h : (Lit.int .i64 n).wf = true) : -9223372036854775808 ≤ n ∧ n ≤ 9223372036854775807 := by
  simp [Lit.wf, IntKind.min, IntKind.max, IntKind.signed, IntKind.bits] at h
  omega
theorem u8_wf5 {n : Int} (h : (Lit.int .u8 n).wf = true) : 0 ≤ n ∧ n ≤ 255 := by
  simp [Lit.wf, IntKind.min, IntKind.max, IntKind.signed, IntKind.bits] at h
  omega
theorem mapM_get5 {f : Nat → Option Value} : ∀ (l : List Nat) (cs : List Value), l.mapM f = some cs → cs.length = l.length ∧ ∀ (j : Nat) (u : Value), cs[j]? = some u → ∃ i : Nat, l[j]? = some i ∧ f i = some u
  | [], cs, h => by simp at h; subst h; simp
  | a :: l, cs, h => by
    rw [List.mapM_cons] at h
    cases hf : f a with
    | none => simp [hf] at h
    | some v =>
      cases hm : l.mapM f with
      | none => simp [hf, hm] at h
      | some vs =>
        simp [hf, hm] at h
        subst h
        obtain ⟨h1, h2⟩ := mapM_get5 l vs hm
        refine ⟨by simp [h1], fun j u hj => ?_⟩
        cases j with
        | zero => simp at hj; exact ⟨a, rfl, by rw [hf, hj]⟩
        | succ j => simpa using h2 j u (by simpa using hj)
theorem cells_get5 {w : World} {B n : Nat} {a : Addr} {cs : List Value} (h : w.cells? B a n = some cs) : ∀ j u, cs[j]? = some u → w.cell? (a.add j) = some u := by
  unfold World.cells? at h
  split at h
  · intro j u hj
    obtain ⟨_, h2⟩ := mapM_get5 _ _ h
    obtain ⟨i, hi, hf⟩ := h2 j u hj
    obtain ⟨hlt, e⟩ := List.getElem?_eq_some_iff.1 hi
    simp at e
    subst e
    exact hf
  · cases h
theorem addr_plain5 {w : World} {a : Addr} {u : Value} (h : w.cell? a = some u) : a = ⟨a.block, a.off, none⟩ := by
  obtain ⟨b, o, s⟩ := a
  cases s with
  | none => rfl
  | some s =>
    unfold World.cell? at h
    split at h <;> simp at h
theorem choose_list5 {α : Type} (d : α) (n : Nat) {p : Nat → α → Prop} (h : ∀ i, i < n → ∃ a, p i a) : ∃ l : List α, l.length = n ∧ ∀ i, i < n → p i (l.getD i d) := by
  induction n with
  | zero => exact ⟨[], rfl, fun i hi => by omega⟩
  | succ n ih =>
    obtain ⟨l, hl, hp⟩ := ih fun i hi => h i (by omega)
    obtain ⟨a, ha⟩ := h n (by omega)
    refine ⟨l ++ [a], by simp [hl], fun i hi => ?_⟩
    by_cases hin : i < n
    · rw [show (l ++ [a]).getD i d = l.getD i d from by simp [List.getD, List.getElem?_append_left (show i < l.length by omega)]]
      exact hp i hin
    · obtain rfl : i = n := by omega
      rw [show (l ++ [a]).getD i d = a from by simp [List.getD, ← hl]]
      exact ha
theorem okWide_array5 {r : Reach} {b0 : Nat} {v : Value} {W : World} {n : Nat} {e t : TypeId} (ht : Try.prog.underlying t = some (.array n e)) (h : Value.okWide Try.prog W r b0 t v) : ∃ cs, v = .agg cs ∧ cs.size = Try.prog.cellsOf t := by
  simp only [Value.okWide, ht] at h
  obtain ⟨cs, h1, h2, _⟩ := h
  exact ⟨cs, h1, h2⟩
/-- Numbers within their kind. -/
structure NsI5 (l : List Int) : Prop where
  n : l.length ≤ 9223372036854775807
  each : ∀ y, y ∈ l → -9223372036854775808 ≤ y ∧ y ≤ 9223372036854775807
theorem NsI5.ks {l : List Int} (h : NsI5 l) (hl : l.length ≤ 1000000) : Dk.KsOk l := ⟨hl, h.each⟩
/-- An act within its kinds. -/
structure RaI (r : Ra) : Prop where
  kind : 0 ≤ r.kind ∧ r.kind ≤ 255
  name : r.name.length ≤ 9223372036854775807
  other : r.other.length ≤ 9223372036854775807
  data : r.data.length ≤ 9223372036854775807
  n : -9223372036854775808 ≤ r.n ∧ r.n ≤ 9223372036854775807
  keep : NsI5 r.keep
structure RasI (L : List Ra) : Prop where
  n : L.length ≤ 9223372036854775807
  each : ∀ r, r ∈ L → RaI r
/-- An act in memory; a row of them. -/
def RaAt (w : World) (g o : Nat) (r : Ra) : Prop := w.cell? ⟨g, o, none⟩ = some (.int .u8 r.kind) ∧ w.cell? ⟨g, o + 1, none⟩ = some (.string (S r.name)) ∧ w.cell? ⟨g, o + 2, none⟩ = some (.string (S r.other)) ∧ w.cell? ⟨g, o + 3, none⟩ = some (.string (S r.data)) ∧ w.cell? ⟨g, o + 4, none⟩ = some (.int .i64 r.n) ∧ w.cell? ⟨g, o + 5, none⟩ = some (.slice r.o r.keep.length r.k) ∧ NsA5 w r.o r.keep
def RasAt (w : World) (ao : Option Addr) (L : List Ra) : Prop := L ≠ [] → ∃ g off, ao = some ⟨g, off, none⟩ ∧ ∀ j, j < L.length → RaAt w g (off + j * 6) (L.getD j ra0)
section
variable {w w' : World} {ao : Option Addr} {L : List Ra}
theorem RaAt.below {g o : Nat} {r : Ra} (h : RaAt w g o r) (hb : Below w.heap.size w w') : RaAt w' g o r := by
  obtain ⟨h0, h1, h2, h3, h4, h5, h6⟩ := h
  exact ⟨(hb.cell (p := ⟨g, o, none⟩) (cell_lt5 h0)).trans h0, (hb.cell (p := ⟨g, o + 1, none⟩) (cell_lt5 h1)).trans h1, (hb.cell (p := ⟨g, o + 2, none⟩) (cell_lt5 h2)).trans h2, (hb.cell (p := ⟨g, o + 3, none⟩) (cell_lt5 h3)).trans h3, (hb.cell (p := ⟨g, o + 4, none⟩) (cell_lt5 h4)).trans h4, (hb.cell (p := ⟨g, o + 5, none⟩) (cell_lt5 h5)).trans h5, h6.below hb⟩
theorem RasAt.below (h : RasAt w ao L) (hb : Below w.heap.size w w') : RasAt w' ao L := fun hn => by
  obtain ⟨g, off, e, hc⟩ := h hn
  exact ⟨g, off, e, fun j hj => (hc j hj).below hb⟩
theorem RasAt.off (h : RasAt w ao L) {j : Nat} (hj : j < L.length) : ∃ g off, ao = some ⟨g, off, none⟩ ∧ RaAt w g (off + j * 6) (L.getD j ra0) := by
  obtain ⟨g, off, e, hc⟩ := h (fun h => by rw [h] at hj; simp at hj)
  exact ⟨g, off, e, hc j hj⟩
end
section
variable {H : Type} {enc : TypeId × Value → H} {W : World} {fuel : Nat} {cs : List Value} {x : DataW H × List MemPlace} {sp : Nat → Bool} {hd : Bool} {r : Reach} {b0 : Nat} {v : Value} {d : DataW H} {p : List MemPlace}
set_option maxRecDepth 100000 in
theorem ns_cells5 (hf : DataW.trod enc Try.prog W 0 sp hd fuel 32 cs = some x) : ∃ (L : List Int) (ao : Option Addr) (cap : Nat), cs = [.slice ao L.length cap] ∧ NsI5 L ∧ NsA5 W ao L := by
  have c8 : Try.prog.cellsOf 3 = 1 := by kernel_rfl
  rcases Deep.open_slice Try.underlying32 hf with ⟨hcs, _⟩ | ⟨a, len, cap, m, n, D, Pz, hcs, _, hl, hm, hmm, _, hx⟩
  · exact ⟨[], none, 0, hcs, ⟨by simp, by simp⟩, fun h => absurd rfl h⟩
  · rw [c8] at hx
    have hlm : len ≤ m := by rw [hmm]; split <;> omega
    unfold maxLen at hm
    obtain ⟨L, hL, hp⟩ := choose_list5 (0 : Int) len (p := fun i y => W.cells? 0 (a.add (i * 1)) 1 = some ([.int .i64 y]) ∧ -9223372036854775808 ≤ y ∧ y ≤ 9223372036854775807) (fun i hi => by
      obtain ⟨cs', h1, h2⟩ := hx i (by omega)
      obtain ⟨y, e, _, w0⟩ := DataW.trod_int Try.underlying3 h2
      exact ⟨y, by rw [h1, e], i64_wf5 w0⟩)
    refine ⟨L, some a, cap, by rw [hcs, hL], ⟨by omega, fun y hym => ?_⟩, fun hne => ?_⟩
    · obtain ⟨i, hi, rfl⟩ := List.mem_iff_getElem.1 hym
      have := (hp i (by omega)).2
      simpa [List.getD, List.getElem?_eq_getElem hi] using this
    · have h0 : 0 < len := by rw [← hL]; exact List.length_pos_iff.2 hne
      have e := addr_plain5 (cells_get5 (hp 0 h0).1 0 _ rfl)
      simp only [Nat.zero_mul, show ∀ x : Addr, x.add 0 = x from fun x => if_pos rfl] at e
      refine ⟨a.block, a.off, by rw [← e], fun j hj => ?_⟩
      have hc := cells_get5 (hp j (by omega)).1
      rw [e, Addr.add_lit] at hc
      have := hc 0 _ rfl
      rw [show ∀ x : Addr, x.add 0 = x from fun x => if_pos rfl] at this
      simpa using this
set_option maxRecDepth 100000 in
theorem ra_cells5 (hf : DataW.trod enc Try.prog W 0 sp hd fuel 34 cs = some x) : ∃ y : Ra, cs = [.int .u8 y.kind, .string (S y.name), .string (S y.other), .string (S y.data), .int .i64 y.n, .slice y.o y.keep.length y.k] ∧ RaI y ∧ NsA5 W y.o y.keep := by
  have ct : Try.prog.cellsOf 34 = 6 := by kernel_rfl
  have k_int : Try.prog.cellsOf 3 = 1 := by kernel_rfl
  have k_ints : Try.prog.cellsOf 32 = 1 := by kernel_rfl
  have k_str : Try.prog.cellsOf 9 = 1 := by kernel_rfl
  have k_uint8 : Try.prog.cellsOf 5 = 1 := by kernel_rfl
  obtain ⟨xs, n, _, _, hlen, hn, hel⟩ := DataW.trod_struct Try.underlying34 hf
  have hnn : xs.length = 6 := hn
  rw [ct] at hlen
  match cs, hlen with
  | [c0, c1, c2, c3, c4, c5], _ =>
    have h0 : DataW.trod enc Try.prog W 0 sp hd n 5 (List.take (Try.prog.cellsOf 5) (List.drop 0 [c0, c1, c2, c3, c4, c5])) = xs[0]? := hel 0 _ rfl
    rw [k_uint8] at h0
    obtain ⟨x0, hx0⟩ : ∃ x, xs[0]? = some x := ⟨xs[0], by simp [hnn]⟩
    rw [hx0] at h0
    have h1 : DataW.trod enc Try.prog W 0 sp hd n 9 (List.take (Try.prog.cellsOf 9) (List.drop 1 [c0, c1, c2, c3, c4, c5])) = xs[1]? := hel 1 _ rfl
    rw [k_str] at h1
    obtain ⟨x1, hx1⟩ : ∃ x, xs[1]? = some x := ⟨xs[1], by simp [hnn]⟩
    rw [hx1] at h1
    have h2 : DataW.trod enc Try.prog W 0 sp hd n 9 (List.take (Try.prog.cellsOf 9) (List.drop 2 [c0, c1, c2, c3, c4, c5])) = xs[2]? := hel 2 _ rfl
    rw [k_str] at h2
    obtain ⟨x2, hx2⟩ : ∃ x, xs[2]? = some x := ⟨xs[2], by simp [hnn]⟩
    rw [hx2] at h2
    have h3 : DataW.trod enc Try.prog W 0 sp hd n 9 (List.take (Try.prog.cellsOf 9) (List.drop 3 [c0, c1, c2, c3, c4, c5])) = xs[3]? := hel 3 _ rfl
    rw [k_str] at h3
    obtain ⟨x3, hx3⟩ : ∃ x, xs[3]? = some x := ⟨xs[3], by simp [hnn]⟩
    rw [hx3] at h3
    have h4 : DataW.trod enc Try.prog W 0 sp hd n 3 (List.take (Try.prog.cellsOf 3) (List.drop 4 [c0, c1, c2, c3, c4, c5])) = xs[4]? := hel 4 _ rfl
    rw [k_int] at h4
    obtain ⟨x4, hx4⟩ : ∃ x, xs[4]? = some x := ⟨xs[4], by simp [hnn]⟩
    rw [hx4] at h4
    have h5 : DataW.trod enc Try.prog W 0 sp hd n 32 (List.take (Try.prog.cellsOf 32) (List.drop 5 [c0, c1, c2, c3, c4, c5])) = xs[5]? := hel 5 _ rfl
    rw [k_ints] at h5
    obtain ⟨x5, hx5⟩ : ∃ x, xs[5]? = some x := ⟨xs[5], by simp [hnn]⟩
    rw [hx5] at h5
    obtain ⟨a0, e0, _, w0⟩ := DataW.trod_int Try.underlying5 h0
    obtain ⟨a1, e1, _, w1⟩ := DataW.trod_string Try.underlying9 h1
    obtain ⟨a2, e2, _, w2⟩ := DataW.trod_string Try.underlying9 h2
    obtain ⟨a3, e3, _, w3⟩ := DataW.trod_string Try.underlying9 h3
    obtain ⟨a4, e4, _, w4⟩ := DataW.trod_int Try.underlying3 h4
    obtain ⟨l5, o5, q5, e5, w5, n5⟩ := ns_cells5 h5
    simp at e0 e1 e2 e3 e4 e5
    have r0 := u8_wf5 w0
    unfold maxLen at w1
    have r1 : a1.data.toList.length ≤ 9223372036854775807 := by simp only [Array.length_toList]; have : a1.data.size = a1.size := rfl; omega
    unfold maxLen at w2
    have r2 : a2.data.toList.length ≤ 9223372036854775807 := by simp only [Array.length_toList]; have : a2.data.size = a2.size := rfl; omega
    unfold maxLen at w3
    have r3 : a3.data.toList.length ≤ 9223372036854775807 := by simp only [Array.length_toList]; have : a3.data.size = a3.size := rfl; omega
    have r4 := i64_wf5 w4
    exact ⟨⟨a0, a1.data.toList, a2.data.toList, a3.data.toList, a4, l5, o5, q5⟩, by rw [e0, e1, e2, e3, e4, e5], ⟨r0, r1, r2, r3, r4, w5⟩, n5⟩
set_option maxRecDepth 100000 in
theorem ras_cells5 (hf : DataW.trod enc Try.prog W 0 sp hd fuel 22 cs = some x) : ∃ (L : List Ra) (ao : Option Addr) (cap : Nat), cs = [.slice ao L.length cap] ∧ RasI L ∧ RasAt W ao L := by
  have c8 : Try.prog.cellsOf 34 = 6 := by kernel_rfl
  rcases Deep.open_slice Try.underlying22 hf with ⟨hcs, _⟩ | ⟨a, len, cap, m, n, D, Pz, hcs, _, hl, hm, hmm, _, hx⟩
  · exact ⟨[], none, 0, hcs, ⟨by simp, by simp⟩, fun h => absurd rfl h⟩
  · rw [c8] at hx
    have hlm : len ≤ m := by rw [hmm]; split <;> omega
    unfold maxLen at hm
    obtain ⟨L, hL, hp⟩ := choose_list5 ra0 len (p := fun i y => W.cells? 0 (a.add (i * 6)) 6 = some ([.int .u8 y.kind, .string (S y.name), .string (S y.other), .string (S y.data), .int .i64 y.n, .slice y.o y.keep.length y.k]) ∧ RaI y ∧ NsA5 W y.o y.keep) (fun i hi => by
      obtain ⟨cs', h1, h2⟩ := hx i (by omega)
      obtain ⟨y, rfl, hok, hns⟩ := ra_cells5 h2
      exact ⟨y, h1, hok, hns⟩)
    refine ⟨L, some a, cap, by rw [hcs, hL], ⟨by omega, fun y hym => ?_⟩, fun hne => ?_⟩
    · obtain ⟨i, hi, rfl⟩ := List.mem_iff_getElem.1 hym
      have := (hp i (by omega)).2.1
      simpa [List.getD, List.getElem?_eq_getElem hi] using this
    · have h0 : 0 < len := by rw [← hL]; exact List.length_pos_iff.2 hne
      have e := addr_plain5 (cells_get5 (hp 0 h0).1 0 _ rfl)
      simp only [Nat.zero_mul, show ∀ x : Addr, x.add 0 = x from fun x => if_pos rfl] at e
      refine ⟨a.block, a.off, by rw [← e], fun j hj => ?_⟩
      have hc := cells_get5 (hp j (by omega)).1
      rw [e, Addr.add_lit] at hc
      exact ⟨(hc 0 _ rfl), (hc 1 _ rfl), (hc 2 _ rfl), (hc 3 _ rfl), (hc 4 _ rfl), (hc 5 _ rfl), (hp j (by omega)).2.2⟩
def URa (W : World) (v : Value) : Prop := ∃ y : Ra, v = .agg (raA y) ∧ RaI y ∧ NsA5 W y.o y.keep
def URas (W : World) (v : Value) : Prop := ∃ (L : List Ra) (ao : Option Addr) (cap : Nat), v = .slice ao L.length cap ∧ RasI L ∧ RasAt W ao L
def UNs5 (W : World) (v : Value) : Prop := ∃ (L : List Int) (ao : Option Addr) (cap : Nat), v = .slice ao L.length cap ∧ NsI5 L ∧ NsA5 W ao L
set_option maxRecDepth 100000 in
theorem open_ra5 (hv : Value.okWide Try.prog W r b0 34 v) (h : DataW.Trod enc Try.prog W 0 (fun _ => true) true 34 v d p) : URa W v := by
  obtain ⟨cs, rfl, hsz⟩ := WideShapes.okWide_struct Try.underlying34 hv
  obtain ⟨fuel, hf⟩ := h
  obtain ⟨y, hcs, h1, h2⟩ := ra_cells5 hf
  have hcs' : cs.toList = [.int .u8 y.kind, .string (S y.name), .string (S y.other), .string (S y.data), .int .i64 y.n, .slice y.o y.keep.length y.k] := hcs
  exact ⟨y, by rw [show cs = ([.int .u8 y.kind, .string (S y.name), .string (S y.other), .string (S y.data), .int .i64 y.n, .slice y.o y.keep.length y.k]).toArray from by rw [← hcs']]; rfl, h1, h2⟩
set_option maxRecDepth 100000 in
theorem open_ras5 (hv : Value.okWide Try.prog W r b0 22 v) (h : DataW.Trod enc Try.prog W 0 (fun _ => true) true 22 v d p) : URas W v := by
  obtain ⟨a0, len, cap, rfl⟩ := WideShapes.okWide_slice Try.underlying22 hv
  obtain ⟨fuel, hf⟩ := h
  obtain ⟨L, ao, cap', hcs, h1, h2⟩ := ras_cells5 hf
  simp [Value.cells] at hcs
  obtain ⟨rfl, rfl, rfl⟩ := hcs
  exact ⟨L, a0, cap, rfl, h1, h2⟩
set_option maxRecDepth 100000 in
theorem open_ns5 (hv : Value.okWide Try.prog W r b0 32 v) (h : DataW.Trod enc Try.prog W 0 (fun _ => true) true 32 v d p) : UNs5 W v := by
  obtain ⟨a0, len, cap, rfl⟩ := WideShapes.okWide_slice Try.underlying32 hv
  obtain ⟨fuel, hf⟩ := h
  obtain ⟨L, ao, cap', hcs, h1, h2⟩ := ns_cells5 hf
  simp [Value.cells] at hcs
  obtain ⟨rfl, rfl, rfl⟩ := hcs
  exact ⟨L, a0, cap, rfl, h1, h2⟩
end
section
variable {H : Type} {enc : TypeId × Value → H} {W : World} {r : Reach} {b0 : Nat} {v : Value} {d : DataW H} {p : List MemPlace}
/-- Two rows of acts. -/
def URas2 (W : World) (v : Value) : Prop := ∃ (L1 L2 : List Ra) (ao1 ao2 : Option Addr) (c1 c2 : Nat), v = .agg #[.slice ao1 L1.length c1, .slice ao2 L2.length c2] ∧ RasI L1 ∧ RasI L2 ∧ RasAt W ao1 L1 ∧ RasAt W ao2 L2
set_option maxRecDepth 100000 in
theorem open_ras25 (hv : Value.okWide Try.prog W r b0 59 v) (h : DataW.Trod enc Try.prog W 0 (fun _ => true) true 59 v d p) : URas2 W v := by
  obtain ⟨cs, rfl, hsz⟩ := okWide_array5 Try.underlying59 hv
  obtain ⟨fuel, hf⟩ := h
  have k1 : Try.prog.cellsOf 22 = 1 := by kernel_rfl
  have k2 : Try.prog.cellsOf 59 = 2 := by kernel_rfl
  rw [k2] at hsz
  obtain ⟨xs, m, _, _, _, hl, hel⟩ := DataW.trod_array Try.underlying59 hf
  rw [k1] at hel
  match cs, hsz with
  | ⟨[c0, c1]⟩, _ =>
    have h0 := hel 0 (by omega)
    have h1 := hel 1 (by omega)
    rw [List.getElem?_eq_getElem (by omega)] at h0 h1
    obtain ⟨L1, ao1, q1, e0, w0, n0⟩ := ras_cells5 h0
    obtain ⟨L2, ao2, q2, e1, w1, n1⟩ := ras_cells5 h1
    simp [Value.cells] at e0 e1
    subst e0 e1
    exact ⟨L1, L2, ao1, ao2, q1, q2, rfl, w0, w1, n0, n1⟩
/-- Two texts. -/
def U2s5 (v : Value) : Prop := ∃ a b : List UInt8, v = .agg #[.string (S a), .string (S b)] ∧ a.length ≤ 9223372036854775807 ∧ b.length ≤ 9223372036854775807
set_option maxRecDepth 100000 in
theorem open_two5 (hv : Value.okWide Try.prog W r b0 65 v) (h : DataW.Trod enc Try.prog W 0 (fun _ => true) true 65 v d p) : U2s5 v := by
  obtain ⟨cs, rfl, hsz⟩ := okWide_array5 Try.underlying65 hv
  obtain ⟨fuel, hf⟩ := h
  have k1 : Try.prog.cellsOf 9 = 1 := by kernel_rfl
  have k2 : Try.prog.cellsOf 65 = 2 := by kernel_rfl
  rw [k2] at hsz
  obtain ⟨xs, m, _, _, _, hl, hel⟩ := DataW.trod_array Try.underlying65 hf
  rw [k1] at hel
  match cs, hsz with
  | ⟨[c0, c1]⟩, _ =>
    have h0 := hel 0 (by omega)
    have h1 := hel 1 (by omega)
    rw [List.getElem?_eq_getElem (by omega)] at h0 h1
    obtain ⟨a0, e0, _, w0⟩ := DataW.trod_string Try.underlying9 h0
    obtain ⟨a1, e1, _, w1⟩ := DataW.trod_string Try.underlying9 h1
    simp [Value.cells] at e0 e1
    subst e0 e1
    unfold maxLen at w0 w1
    exact ⟨a0.data.toList, a1.data.toList, by simp [S], by simp only [Array.length_toList]; have : a0.data.size = a0.size := rfl; omega, by simp only [Array.length_toList]; have : a1.data.size = a1.size := rfl; omega⟩
end

end Go.Proofs.Ytekmnpmeienhhaa
