/- Layer 16: what comes in: numbers, edits, states. -/
import Derived.Test.YtfcmjgcjmldpcaaEditsS
import Derived.Deep.Slices
import Derived.ChangeSame
import Derived.WideShapes
import Derived.OpenShut
namespace Go.Proofs.Ytfcmjgcjmldpcaa
set_option linter.unusedVariables false
set_option linter.unusedSimpArgs false
open Go Go.RowKit

theorem i64_wf16 {n : Int} (h : (Lit.int .i64 n).wf = true) : -9223372036854775808 ≤ n ∧ n ≤ 9223372036854775807 := by
  simp [Lit.wf, IntKind.min, IntKind.max, IntKind.signed, IntKind.bits] at h
  omega
theorem mapM_get16 {f : Nat → Option Value} : ∀ (l : List Nat) (cs : List Value), l.mapM f = some cs → cs.length = l.length ∧ ∀ (j : Nat) (u : Value), cs[j]? = some u → ∃ i : Nat, l[j]? = some i ∧ f i = some u
  | [], cs, h => by simp at h; subst h; simp
  | a :: l, cs, h => by
    rw [List.mapM_cons] at h
    cases hf : f a with
    | none => simp [hf] at h
    | some v =>
      cases hm : l.mapM f with
      | none => simp [hf, hm] at h
      | some vs =>
        simp [hf, hm] at h
        subst h
        obtain ⟨h1, h2⟩ := mapM_get16 l vs hm
        refine ⟨by simp [h1], fun j u hj => ?_⟩
        cases j with
        | zero => simp at hj; exact ⟨a, rfl, by rw [hf, hj]⟩
        | succ j => simpa using h2 j u (by simpa using hj)
theorem cells_get16 {w : World} {B n : Nat} {a : Addr} {cs : List Value} (h : w.cells? B a n = some cs) : ∀ j u, cs[j]? = some u → w.cell? (a.add j) = some u := by
  unfold World.cells? at h
  split at h
  · intro j u hj
    obtain ⟨_, h2⟩ := mapM_get16 _ _ h
    obtain ⟨i, hi, hf⟩ := h2 j u hj
    obtain ⟨hlt, e⟩ := List.getElem?_eq_some_iff.1 hi
    simp at e
    subst e
    exact hf
  · cases h
theorem addr_plain16 {w : World} {a : Addr} {u : Value} (h : w.cell? a = some u) : a = ⟨a.block, a.off, none⟩ := by
  obtain ⟨b, o, s⟩ := a
  cases s with
  | none => rfl
  | some s =>
    unfold World.cell? at h
    split at h <;> simp at h
theorem choose_list16 {α : Type} (d : α) (n : Nat) {p : Nat → α → Prop} (h : ∀ i, i < n → ∃ a, p i a) : ∃ l : List α, l.length = n ∧ ∀ i, i < n → p i (l.getD i d) := by
  induction n with
  | zero => exact ⟨[], rfl, fun i hi => by omega⟩
  | succ n ih =>
    obtain ⟨l, hl, hp⟩ := ih fun i hi => h i (by omega)
    obtain ⟨a, ha⟩ := h n (by omega)
    refine ⟨l ++ [a], by simp [hl], fun i hi => ?_⟩
    by_cases hin : i < n
    · rw [show (l ++ [a]).getD i d = l.getD i d from by simp [List.getD, List.getElem?_append_left (show i < l.length by omega)]]
      exact hp i hin
    · obtain rfl : i = n := by omega
      rw [show (l ++ [a]).getD i d = a from by simp [List.getD, ← hl]]
      exact ha
def i64In (n : Int) : Prop := -9223372036854775808 ≤ n ∧ n ≤ 9223372036854775807
structure NsIn (l : List Int) : Prop where
  n : l.length ≤ 9223372036854775807
  each : ∀ y, y ∈ l → i64In y
structure EdIn (r : Re) : Prop where
  kind : i64In r.kind
  at_ : i64In r.at_
  file : i64In r.file
  fs : NsIn r.fs
  key : r.key.length ≤ 9223372036854775807
structure EdsIn (L : List Re) : Prop where
  n : L.length ≤ 9223372036854775807
  each : ∀ r, r ∈ L → EdIn r
theorem EdsIn.ok {L : List Re} (h : EdsIn L) : ResOk L := ⟨h.n, fun r hr => (h.each r hr).fs.n, fun r hr => (h.each r hr).key⟩
structure TbIn (r : Rt) : Prop where
  l : NsIn r.l
  f : r.f.length ≤ 9223372036854775807
structure TbsIn (L : List Rt) : Prop where
  n : L.length ≤ 9223372036854775807
  each : ∀ r, r ∈ L → TbIn r
theorem TbsIn.ok {L : List Rt} (h : TbsIn L) : RtsOk L := ⟨h.n, fun r hr => (h.each r hr).f, fun r hr => (h.each r hr).l.n⟩
section
variable {H : Type} {enc : TypeId × Value → H} {W : World} {fuel : Nat} {cs : List Value} {x : DataW H × List MemPlace} {sp : Nat → Bool} {hd : Bool} {r : Reach} {b0 : Nat} {v : Value} {d : DataW H} {p : List MemPlace}
set_option maxRecDepth 100000 in
theorem ns_cells16 (hf : DataW.trod enc Try.prog W 0 sp hd fuel 25 cs = some x) : ∃ (L : List Int) (ao : Option Addr) (cap : Nat), cs = [.slice ao L.length cap] ∧ NsIn L ∧ NsAt W ao L := by
  have c8 : Try.prog.cellsOf 3 = 1 := by kernel_rfl
  rcases Deep.open_slice Try.underlying25 hf with ⟨hcs, _⟩ | ⟨a, len, cap, m, n, D, Pz, hcs, _, hl, hm, hmm, _, hx⟩
  · exact ⟨[], none, 0, hcs, ⟨by simp, by simp⟩, fun h => absurd rfl h⟩
  · rw [c8] at hx
    have hlm : len ≤ m := by rw [hmm]; split <;> omega
    unfold maxLen at hm
    obtain ⟨L, hL, hp⟩ := choose_list16 (0 : Int) len (p := fun i y => W.cells? 0 (a.add (i * 1)) 1 = some ([.int .i64 y]) ∧ i64In y) (fun i hi => by
      obtain ⟨cs', h1, h2⟩ := hx i (by omega)
      obtain ⟨y, e, _, w0⟩ := DataW.trod_int Try.underlying3 h2
      exact ⟨y, by rw [h1, e], i64_wf16 w0⟩)
    refine ⟨L, some a, cap, by rw [hcs, hL], ⟨by omega, fun y hym => ?_⟩, fun hne => ?_⟩
    · obtain ⟨i, hi, rfl⟩ := List.mem_iff_getElem.1 hym
      have := (hp i (by omega)).2
      simpa [List.getD, List.getElem?_eq_getElem hi] using this
    · have h0 : 0 < len := by rw [← hL]; exact List.length_pos_iff.2 hne
      have e := addr_plain16 (cells_get16 (hp 0 h0).1 0 _ rfl)
      simp only [Nat.zero_mul, show ∀ x : Addr, x.add 0 = x from fun x => if_pos rfl] at e
      refine ⟨a.block, a.off, by rw [← e], fun j hj => ?_⟩
      have hc := cells_get16 (hp j (by omega)).1
      rw [e, Addr.add_lit] at hc
      have := hc 0 _ rfl
      rw [show ∀ x : Addr, x.add 0 = x from fun x => if_pos rfl] at this
      simpa using this
set_option maxRecDepth 100000 in
theorem ed_cells16 (hf : DataW.trod enc Try.prog W 0 sp hd fuel 27 cs = some x) : ∃ y : Re, cs = [.int .i64 y.kind, .int .i64 y.at_, .int .i64 y.file, .slice y.o y.fs.length y.k, .string (S y.key)] ∧ EdIn y ∧ NsAt W y.o y.fs := by
  have ct : Try.prog.cellsOf 27 = 5 := by kernel_rfl
  have k3 : Try.prog.cellsOf 25 = 1 := by kernel_rfl
  have k0 : Try.prog.cellsOf 3 = 1 := by kernel_rfl
  have k4 : Try.prog.cellsOf 9 = 1 := by kernel_rfl
  obtain ⟨xs, n, _, _, hlen, hn, hel⟩ := DataW.trod_struct Try.underlying27 hf
  have hnn : xs.length = 5 := hn
  rw [ct] at hlen
  match cs, hlen with
  | [c0, c1, c2, c3, c4], _ =>
    have h0 : DataW.trod enc Try.prog W 0 sp hd n 3 (List.take (Try.prog.cellsOf 3) (List.drop 0 [c0, c1, c2, c3, c4])) = xs[0]? := hel 0 _ rfl
    rw [k0] at h0
    obtain ⟨x0, hx0⟩ : ∃ x, xs[0]? = some x := ⟨xs[0], by simp [hnn]⟩
    rw [hx0] at h0
    have h1 : DataW.trod enc Try.prog W 0 sp hd n 3 (List.take (Try.prog.cellsOf 3) (List.drop 1 [c0, c1, c2, c3, c4])) = xs[1]? := hel 1 _ rfl
    rw [k0] at h1
    obtain ⟨x1, hx1⟩ : ∃ x, xs[1]? = some x := ⟨xs[1], by simp [hnn]⟩
    rw [hx1] at h1
    have h2 : DataW.trod enc Try.prog W 0 sp hd n 3 (List.take (Try.prog.cellsOf 3) (List.drop 2 [c0, c1, c2, c3, c4])) = xs[2]? := hel 2 _ rfl
    rw [k0] at h2
    obtain ⟨x2, hx2⟩ : ∃ x, xs[2]? = some x := ⟨xs[2], by simp [hnn]⟩
    rw [hx2] at h2
    have h3 : DataW.trod enc Try.prog W 0 sp hd n 25 (List.take (Try.prog.cellsOf 25) (List.drop 3 [c0, c1, c2, c3, c4])) = xs[3]? := hel 3 _ rfl
    rw [k3] at h3
    obtain ⟨x3, hx3⟩ : ∃ x, xs[3]? = some x := ⟨xs[3], by simp [hnn]⟩
    rw [hx3] at h3
    have h4 : DataW.trod enc Try.prog W 0 sp hd n 9 (List.take (Try.prog.cellsOf 9) (List.drop 4 [c0, c1, c2, c3, c4])) = xs[4]? := hel 4 _ rfl
    rw [k4] at h4
    obtain ⟨x4, hx4⟩ : ∃ x, xs[4]? = some x := ⟨xs[4], by simp [hnn]⟩
    rw [hx4] at h4
    obtain ⟨a0, e0, _, w0⟩ := DataW.trod_int Try.underlying3 h0
    obtain ⟨a1, e1, _, w1⟩ := DataW.trod_int Try.underlying3 h1
    obtain ⟨a2, e2, _, w2⟩ := DataW.trod_int Try.underlying3 h2
    obtain ⟨l3, o3, q3, e3, w3, n3⟩ := ns_cells16 h3
    obtain ⟨a4, e4, _, w4⟩ := DataW.trod_string Try.underlying9 h4
    simp at e0 e1 e2 e3 e4
    have r0 := i64_wf16 w0
    have r1 := i64_wf16 w1
    have r2 := i64_wf16 w2
    unfold maxLen at w4
    exact ⟨⟨a0, a1, a2, l3, o3, q3, a4.data.toList⟩, by rw [e0, e1, e2, e3, e4], ⟨r0, r1, r2, w3, by simp only [Array.length_toList]; have : a4.data.size = a4.size := rfl; omega⟩, n3⟩
set_option maxRecDepth 100000 in
theorem eds_cells16 (hf : DataW.trod enc Try.prog W 0 sp hd fuel 30 cs = some x) : ∃ (L : List Re) (ao : Option Addr) (cap : Nat), cs = [.slice ao L.length cap] ∧ EdsIn L ∧ EdsAt W ao L := by
  have c8 : Try.prog.cellsOf 27 = 5 := by kernel_rfl
  rcases Deep.open_slice Try.underlying30 hf with ⟨hcs, _⟩ | ⟨a, len, cap, m, n, D, Pz, hcs, _, hl, hm, hmm, _, hx⟩
  · exact ⟨[], none, 0, hcs, ⟨by simp, by simp⟩, fun h => absurd rfl h⟩
  · rw [c8] at hx
    have hlm : len ≤ m := by rw [hmm]; split <;> omega
    unfold maxLen at hm
    obtain ⟨L, hL, hp⟩ := choose_list16 re0 len (p := fun i y => W.cells? 0 (a.add (i * 5)) 5 = some ([.int .i64 y.kind, .int .i64 y.at_, .int .i64 y.file, .slice y.o y.fs.length y.k, .string (S y.key)]) ∧ EdIn y ∧ NsAt W y.o y.fs) (fun i hi => by
      obtain ⟨cs', h1, h2⟩ := hx i (by omega)
      obtain ⟨y, rfl, hok, hns⟩ := ed_cells16 h2
      exact ⟨y, h1, hok, hns⟩)
    refine ⟨L, some a, cap, by rw [hcs, hL], ⟨by omega, fun y hym => ?_⟩, fun hne => ?_⟩
    · obtain ⟨i, hi, rfl⟩ := List.mem_iff_getElem.1 hym
      have := (hp i (by omega)).2.1
      simpa [List.getD, List.getElem?_eq_getElem hi] using this
    · have h0 : 0 < len := by rw [← hL]; exact List.length_pos_iff.2 hne
      have e := addr_plain16 (cells_get16 (hp 0 h0).1 0 _ rfl)
      simp only [Nat.zero_mul, show ∀ x : Addr, x.add 0 = x from fun x => if_pos rfl] at e
      refine ⟨a.block, a.off, by rw [← e], fun j hj => ?_⟩
      have hc := cells_get16 (hp j (by omega)).1
      rw [e, Addr.add_lit] at hc
      exact ⟨(hc 0 _ rfl), (hc 1 _ rfl), (hc 2 _ rfl), (hc 3 _ rfl), (hc 4 _ rfl), (hp j (by omega)).2.2⟩
set_option maxRecDepth 100000 in
theorem tb_cells16 (hf : DataW.trod enc Try.prog W 0 sp hd fuel 41 cs = some x) : ∃ y : Rt, cs = [.string (S y.f), .slice y.o y.l.length y.k] ∧ TbIn y ∧ NsAt W y.o y.l := by
  have ct : Try.prog.cellsOf 41 = 2 := by kernel_rfl
  have k1 : Try.prog.cellsOf 25 = 1 := by kernel_rfl
  have k0 : Try.prog.cellsOf 9 = 1 := by kernel_rfl
  obtain ⟨xs, n, _, _, hlen, hn, hel⟩ := DataW.trod_struct Try.underlying41 hf
  have hnn : xs.length = 2 := hn
  rw [ct] at hlen
  match cs, hlen with
  | [c0, c1], _ =>
    have h0 : DataW.trod enc Try.prog W 0 sp hd n 9 (List.take (Try.prog.cellsOf 9) (List.drop 0 [c0, c1])) = xs[0]? := hel 0 _ rfl
    rw [k0] at h0
    obtain ⟨x0, hx0⟩ : ∃ x, xs[0]? = some x := ⟨xs[0], by simp [hnn]⟩
    rw [hx0] at h0
    have h1 : DataW.trod enc Try.prog W 0 sp hd n 25 (List.take (Try.prog.cellsOf 25) (List.drop 1 [c0, c1])) = xs[1]? := hel 1 _ rfl
    rw [k1] at h1
    obtain ⟨x1, hx1⟩ : ∃ x, xs[1]? = some x := ⟨xs[1], by simp [hnn]⟩
    rw [hx1] at h1
    obtain ⟨a0, e0, _, w0⟩ := DataW.trod_string Try.underlying9 h0
    obtain ⟨l1, o1, q1, e1, w1, n1⟩ := ns_cells16 h1
    simp at e0 e1
    unfold maxLen at w0
    exact ⟨⟨a0.data.toList, l1, o1, q1⟩, by rw [e0, e1], ⟨w1, by simp only [Array.length_toList]; have : a0.data.size = a0.size := rfl; omega⟩, n1⟩
set_option maxRecDepth 100000 in
theorem tbs_cells16 (hf : DataW.trod enc Try.prog W 0 sp hd fuel 22 cs = some x) : ∃ (L : List Rt) (ao : Option Addr) (cap : Nat), cs = [.slice ao L.length cap] ∧ TbsIn L ∧ TbsAt W ao L := by
  have c8 : Try.prog.cellsOf 41 = 2 := by kernel_rfl
  rcases Deep.open_slice Try.underlying22 hf with ⟨hcs, _⟩ | ⟨a, len, cap, m, n, D, Pz, hcs, _, hl, hm, hmm, _, hx⟩
  · exact ⟨[], none, 0, hcs, ⟨by simp, by simp⟩, fun h => absurd rfl h⟩
  · rw [c8] at hx
    have hlm : len ≤ m := by rw [hmm]; split <;> omega
    unfold maxLen at hm
    obtain ⟨L, hL, hp⟩ := choose_list16 rt0 len (p := fun i y => W.cells? 0 (a.add (i * 2)) 2 = some ([.string (S y.f), .slice y.o y.l.length y.k]) ∧ TbIn y ∧ NsAt W y.o y.l) (fun i hi => by
      obtain ⟨cs', h1, h2⟩ := hx i (by omega)
      obtain ⟨y, rfl, hok, hns⟩ := tb_cells16 h2
      exact ⟨y, h1, hok, hns⟩)
    refine ⟨L, some a, cap, by rw [hcs, hL], ⟨by omega, fun y hym => ?_⟩, fun hne => ?_⟩
    · obtain ⟨i, hi, rfl⟩ := List.mem_iff_getElem.1 hym
      have := (hp i (by omega)).2.1
      simpa [List.getD, List.getElem?_eq_getElem hi] using this
    · have h0 : 0 < len := by rw [← hL]; exact List.length_pos_iff.2 hne
      have e := addr_plain16 (cells_get16 (hp 0 h0).1 0 _ rfl)
      simp only [Nat.zero_mul, show ∀ x : Addr, x.add 0 = x from fun x => if_pos rfl] at e
      refine ⟨a.block, a.off, by rw [← e], fun j hj => ?_⟩
      have hc := cells_get16 (hp j (by omega)).1
      rw [e, Addr.add_lit] at hc
      exact ⟨(hc 0 _ rfl), (hc 1 _ rfl), (hp j (by omega)).2.2⟩
set_option maxRecDepth 100000 in
theorem st_cells16 (hf : DataW.trod enc Try.prog W 0 sp hd fuel 24 cs = some x) : ∃ (L : List Rt) (ao : Option Addr) (cap : Nat) (log next : Int), cs = [.slice ao L.length cap, .int .i64 log, .int .i64 next] ∧ TbsIn L ∧ TbsAt W ao L ∧ i64In log ∧ i64In next := by
  have ct : Try.prog.cellsOf 24 = 3 := by kernel_rfl
  have k0 : Try.prog.cellsOf 22 = 1 := by kernel_rfl
  have k1 : Try.prog.cellsOf 3 = 1 := by kernel_rfl
  obtain ⟨xs, n, _, _, hlen, hn, hel⟩ := DataW.trod_struct Try.underlying24 hf
  have hnn : xs.length = 3 := hn
  rw [ct] at hlen
  match cs, hlen with
  | [c0, c1, c2], _ =>
    have h0 : DataW.trod enc Try.prog W 0 sp hd n 22 (List.take (Try.prog.cellsOf 22) (List.drop 0 [c0, c1, c2])) = xs[0]? := hel 0 _ rfl
    rw [k0] at h0
    obtain ⟨x0, hx0⟩ : ∃ x, xs[0]? = some x := ⟨xs[0], by simp [hnn]⟩
    rw [hx0] at h0
    have h1 : DataW.trod enc Try.prog W 0 sp hd n 3 (List.take (Try.prog.cellsOf 3) (List.drop 1 [c0, c1, c2])) = xs[1]? := hel 1 _ rfl
    rw [k1] at h1
    obtain ⟨x1, hx1⟩ : ∃ x, xs[1]? = some x := ⟨xs[1], by simp [hnn]⟩
    rw [hx1] at h1
    have h2 : DataW.trod enc Try.prog W 0 sp hd n 3 (List.take (Try.prog.cellsOf 3) (List.drop 2 [c0, c1, c2])) = xs[2]? := hel 2 _ rfl
    rw [k1] at h2
    obtain ⟨x2, hx2⟩ : ∃ x, xs[2]? = some x := ⟨xs[2], by simp [hnn]⟩
    rw [hx2] at h2
    obtain ⟨l0, o0, q0, e0, w0, n0⟩ := tbs_cells16 h0
    obtain ⟨a1, e1, _, w1⟩ := DataW.trod_int Try.underlying3 h1
    obtain ⟨a2, e2, _, w2⟩ := DataW.trod_int Try.underlying3 h2
    simp at e0 e1 e2
    have r1 := i64_wf16 w1
    have r2 := i64_wf16 w2
    exact ⟨l0, o0, q0, a1, a2, by rw [e0, e1, e2], w0, n0, r1, r2⟩
def USt (W : World) (v : Value) : Prop := ∃ (L : List Rt) (ao : Option Addr) (cap : Nat) (log next : Int), v = stV ao L.length cap log next ∧ TbsIn L ∧ TbsAt W ao L ∧ i64In log ∧ i64In next
def UEd (W : World) (v : Value) : Prop := ∃ y : Re, v = .agg #[.int .i64 y.kind, .int .i64 y.at_, .int .i64 y.file, .slice y.o y.fs.length y.k, .string (S y.key)] ∧ EdIn y ∧ NsAt W y.o y.fs
set_option maxRecDepth 100000 in
theorem open_state (hv : Value.okWide Try.prog W r b0 24 v) (h : DataW.Trod enc Try.prog W 0 (fun _ => true) true 24 v d p) : USt W v := by
  obtain ⟨cs, rfl, hsz⟩ := WideShapes.okWide_struct Try.underlying24 hv
  obtain ⟨fuel, hf⟩ := h
  obtain ⟨L, ao, cap, log, next, hcs, h1, h2, h3, h4⟩ := st_cells16 hf
  have hcs' : cs.toList = [.slice ao L.length cap, .int .i64 log, .int .i64 next] := hcs
  exact ⟨L, ao, cap, log, next, by rw [show cs = [.slice ao L.length cap, .int .i64 log, .int .i64 next].toArray from by rw [← hcs']]; rfl, h1, h2, h3, h4⟩
set_option maxRecDepth 100000 in
theorem open_edit (hv : Value.okWide Try.prog W r b0 27 v) (h : DataW.Trod enc Try.prog W 0 (fun _ => true) true 27 v d p) : UEd W v := by
  obtain ⟨cs, rfl, hsz⟩ := WideShapes.okWide_struct Try.underlying27 hv
  obtain ⟨fuel, hf⟩ := h
  obtain ⟨y, hcs, h1, h2⟩ := ed_cells16 hf
  have hcs' : cs.toList = [.int .i64 y.kind, .int .i64 y.at_, .int .i64 y.file, .slice y.o y.fs.length y.k, .string (S y.key)] := hcs
  exact ⟨y, by rw [show cs = [.int .i64 y.kind, .int .i64 y.at_, .int .i64 y.file, .slice y.o y.fs.length y.k, .string (S y.key)].toArray from by rw [← hcs']], h1, h2⟩
def UEds (W : World) (v : Value) : Prop := ∃ (L : List Re) (ao : Option Addr) (cap : Nat), v = .slice ao L.length cap ∧ EdsIn L ∧ EdsAt W ao L
set_option maxRecDepth 100000 in
theorem open_edits (hv : Value.okWide Try.prog W r b0 30 v) (h : DataW.Trod enc Try.prog W 0 (fun _ => true) true 30 v d p) : UEds W v := by
  obtain ⟨a0, len, cap, rfl⟩ := WideShapes.okWide_slice Try.underlying30 hv
  obtain ⟨fuel, hf⟩ := h
  obtain ⟨L, ao, cap', hcs, h1, h2⟩ := eds_cells16 hf
  simp [Value.cells] at hcs
  obtain ⟨rfl, rfl, rfl⟩ := hcs
  exact ⟨L, a0, cap, rfl, h1, h2⟩
end

end Go.Proofs.Ytfcmjgcjmldpcaa
