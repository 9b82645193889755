/- Layer 12: what comes in: batches and acks. -/
import Derived.Test.YtblgfhljaafmhaaPostsP
import Derived.ChangeSame
import Derived.WideShapes
import Derived.Deep.Slices
namespace Go.Proofs.Ytblgfhljaafmhaa
set_option linter.unusedVariables false
open Go Go.RowKit

structure M.Ak.ints (y : M.Ak) : Prop where
  h1 : -9223372036854775808 ≤ y.host
  h2 : y.host ≤ 9223372036854775807
  f1 : -9223372036854775808 ≤ y.first
  f2 : y.first ≤ 9223372036854775807
  n1 : -9223372036854775808 ≤ y.next
  n2 : y.next ≤ 9223372036854775807
theorem i64_wfP {n : Int} (h : (Lit.int .i64 n).wf = true) : -9223372036854775808 ≤ n ∧ n ≤ 9223372036854775807 := by
  simp [Lit.wf, IntKind.min, IntKind.max, IntKind.signed, IntKind.bits] at h
  omega
theorem mapM_getP {f : Nat → Option Value} : ∀ (l : List Nat) (cs : List Value), l.mapM f = some cs → cs.length = l.length ∧ ∀ (j : Nat) (u : Value), cs[j]? = some u → ∃ i : Nat, l[j]? = some i ∧ f i = some u
  | [], cs, h => by simp at h; subst h; simp
  | a :: l, cs, h => by
    rw [List.mapM_cons] at h
    cases hf : f a with
    | none => simp [hf] at h
    | some v =>
      cases hm : l.mapM f with
      | none => simp [hf, hm] at h
      | some vs =>
        simp [hf, hm] at h
        subst h
        obtain ⟨h1, h2⟩ := mapM_getP l vs hm
        refine ⟨by simp [h1], fun j u hj => ?_⟩
        cases j with
        | zero => simp at hj; exact ⟨a, rfl, by rw [hf, hj]⟩
        | succ j => simpa using h2 j u (by simpa using hj)
theorem cells_getP {w : World} {B n : Nat} {a : Addr} {cs : List Value} (h : w.cells? B a n = some cs) : ∀ j u, cs[j]? = some u → w.cell? (a.add j) = some u := by
  unfold World.cells? at h
  split at h
  · intro j u hj
    obtain ⟨_, h2⟩ := mapM_getP _ _ h
    obtain ⟨i, hi, hf⟩ := h2 j u hj
    obtain ⟨hlt, e⟩ := List.getElem?_eq_some_iff.1 hi
    simp at e
    subst e
    exact hf
  · cases h
theorem addr_plainP {w : World} {a : Addr} {u : Value} (h : w.cell? a = some u) : a = ⟨a.block, a.off, none⟩ := by
  obtain ⟨b, o, s⟩ := a
  cases s with
  | none => rfl
  | some s =>
    unfold World.cell? at h
    split at h <;> simp at h
theorem choose_listP {α : Type} (d : α) (n : Nat) {p : Nat → α → Prop} (h : ∀ i, i < n → ∃ a, p i a) : ∃ l : List α, l.length = n ∧ ∀ i, i < n → p i (l.getD i d) := by
  induction n with
  | zero => exact ⟨[], rfl, fun i hi => by omega⟩
  | succ n ih =>
    obtain ⟨l, hl, hp⟩ := ih fun i hi => h i (by omega)
    obtain ⟨a, ha⟩ := h n (by omega)
    refine ⟨l ++ [a], by simp [hl], fun i hi => ?_⟩
    by_cases hin : i < n
    · rw [show (l ++ [a]).getD i d = l.getD i d from by simp [List.getD, List.getElem?_append_left (show i < l.length by omega)]]
      exact hp i hin
    · obtain rfl : i = n := by omega
      rw [show (l ++ [a]).getD i d = a from by simp [List.getD, ← hl]]
      exact ha
section
variable {H : Type} {enc : TypeId × Value → H} {W : World} {fuel : Nat} {cs : List Value} {x : DataW H × List MemPlace} {B : Nat} {sp : Nat → Bool} {hd : Bool}
theorem sp_cellsP (hf : DataW.trod enc Try.prog W B sp hd fuel 29 cs = some x) : ∃ y : M.Sp, cs = spL y ∧ y.ints := by
  have ct : Try.prog.cellsOf 29 = 8 := by kernel_rfl
  have k0 : Try.prog.cellsOf 3 = 1 := by kernel_rfl
  have k1 : Try.prog.cellsOf 9 = 1 := by kernel_rfl
  obtain ⟨xs, n, _, _, hlen, hn, hel⟩ := DataW.trod_struct Try.underlying29 hf
  have hnn : xs.length = 8 := hn
  rw [ct] at hlen
  match cs, hlen with
  | [c0, c1, c2, c3, c4, c5, c6, c7], _ =>
    have h0 : DataW.trod enc Try.prog W B sp hd n 3 (List.take (Try.prog.cellsOf 3) (List.drop 0 [c0, c1, c2, c3, c4, c5, c6, c7])) = xs[0]? := hel 0 _ rfl
    rw [k0] at h0
    obtain ⟨x0, hx0⟩ : ∃ x, xs[0]? = some x := ⟨xs[0], by simp [hnn]⟩
    rw [hx0] at h0
    have h1 : DataW.trod enc Try.prog W B sp hd n 3 (List.take (Try.prog.cellsOf 3) (List.drop 1 [c0, c1, c2, c3, c4, c5, c6, c7])) = xs[1]? := hel 1 _ rfl
    rw [k0] at h1
    obtain ⟨x1, hx1⟩ : ∃ x, xs[1]? = some x := ⟨xs[1], by simp [hnn]⟩
    rw [hx1] at h1
    have h2 : DataW.trod enc Try.prog W B sp hd n 3 (List.take (Try.prog.cellsOf 3) (List.drop 2 [c0, c1, c2, c3, c4, c5, c6, c7])) = xs[2]? := hel 2 _ rfl
    rw [k0] at h2
    obtain ⟨x2, hx2⟩ : ∃ x, xs[2]? = some x := ⟨xs[2], by simp [hnn]⟩
    rw [hx2] at h2
    have h3 : DataW.trod enc Try.prog W B sp hd n 9 (List.take (Try.prog.cellsOf 9) (List.drop 3 [c0, c1, c2, c3, c4, c5, c6, c7])) = xs[3]? := hel 3 _ rfl
    rw [k1] at h3
    obtain ⟨x3, hx3⟩ : ∃ x, xs[3]? = some x := ⟨xs[3], by simp [hnn]⟩
    rw [hx3] at h3
    have h4 : DataW.trod enc Try.prog W B sp hd n 9 (List.take (Try.prog.cellsOf 9) (List.drop 4 [c0, c1, c2, c3, c4, c5, c6, c7])) = xs[4]? := hel 4 _ rfl
    rw [k1] at h4
    obtain ⟨x4, hx4⟩ : ∃ x, xs[4]? = some x := ⟨xs[4], by simp [hnn]⟩
    rw [hx4] at h4
    have h5 : DataW.trod enc Try.prog W B sp hd n 3 (List.take (Try.prog.cellsOf 3) (List.drop 5 [c0, c1, c2, c3, c4, c5, c6, c7])) = xs[5]? := hel 5 _ rfl
    rw [k0] at h5
    obtain ⟨x5, hx5⟩ : ∃ x, xs[5]? = some x := ⟨xs[5], by simp [hnn]⟩
    rw [hx5] at h5
    have h6 : DataW.trod enc Try.prog W B sp hd n 3 (List.take (Try.prog.cellsOf 3) (List.drop 6 [c0, c1, c2, c3, c4, c5, c6, c7])) = xs[6]? := hel 6 _ rfl
    rw [k0] at h6
    obtain ⟨x6, hx6⟩ : ∃ x, xs[6]? = some x := ⟨xs[6], by simp [hnn]⟩
    rw [hx6] at h6
    have h7 : DataW.trod enc Try.prog W B sp hd n 9 (List.take (Try.prog.cellsOf 9) (List.drop 7 [c0, c1, c2, c3, c4, c5, c6, c7])) = xs[7]? := hel 7 _ rfl
    rw [k1] at h7
    obtain ⟨x7, hx7⟩ : ∃ x, xs[7]? = some x := ⟨xs[7], by simp [hnn]⟩
    rw [hx7] at h7
    obtain ⟨a0, e0, _, w0⟩ := DataW.trod_int Try.underlying3 h0
    obtain ⟨a1, e1, _, w1⟩ := DataW.trod_int Try.underlying3 h1
    obtain ⟨a2, e2, _, w2⟩ := DataW.trod_int Try.underlying3 h2
    obtain ⟨a3, e3, _, w3⟩ := DataW.trod_string Try.underlying9 h3
    obtain ⟨a4, e4, _, w4⟩ := DataW.trod_string Try.underlying9 h4
    obtain ⟨a5, e5, _, w5⟩ := DataW.trod_int Try.underlying3 h5
    obtain ⟨a6, e6, _, w6⟩ := DataW.trod_int Try.underlying3 h6
    obtain ⟨a7, e7, _, w7⟩ := DataW.trod_string Try.underlying9 h7
    have r0 := i64_wfP w0
    have r1 := i64_wfP w1
    have r2 := i64_wfP w2
    have r5 := i64_wfP w5
    have r6 := i64_wfP w6
    simp at e0 e1 e2 e3 e4 e5 e6 e7
    exact ⟨⟨a0, a1, a2, a3.data.toList, a4.data.toList, a5, a6, a7.data.toList⟩, by rw [e0, e1, e2, e3, e4, e5, e6, e7]; rfl, ⟨r0.1, r0.2, r1.1, r1.2, r2.1, r2.2, r5.1, r5.2, r6.1, r6.2⟩⟩
theorem ak_cellsP (hf : DataW.trod enc Try.prog W B sp hd fuel 26 cs = some x) : ∃ y : M.Ak, cs = [.int .i64 y.host, .int .i64 y.first, .int .i64 y.next] ∧ y.ints := by
  have ct : Try.prog.cellsOf 26 = 3 := by kernel_rfl
  have k0 : Try.prog.cellsOf 3 = 1 := by kernel_rfl
  obtain ⟨xs, n, _, _, hlen, hn, hel⟩ := DataW.trod_struct Try.underlying26 hf
  have hnn : xs.length = 3 := hn
  rw [ct] at hlen
  match cs, hlen with
  | [c0, c1, c2], _ =>
    have h0 : DataW.trod enc Try.prog W B sp hd n 3 (List.take (Try.prog.cellsOf 3) (List.drop 0 [c0, c1, c2])) = xs[0]? := hel 0 _ rfl
    rw [k0] at h0
    obtain ⟨x0, hx0⟩ : ∃ x, xs[0]? = some x := ⟨xs[0], by simp [hnn]⟩
    rw [hx0] at h0
    have h1 : DataW.trod enc Try.prog W B sp hd n 3 (List.take (Try.prog.cellsOf 3) (List.drop 1 [c0, c1, c2])) = xs[1]? := hel 1 _ rfl
    rw [k0] at h1
    obtain ⟨x1, hx1⟩ : ∃ x, xs[1]? = some x := ⟨xs[1], by simp [hnn]⟩
    rw [hx1] at h1
    have h2 : DataW.trod enc Try.prog W B sp hd n 3 (List.take (Try.prog.cellsOf 3) (List.drop 2 [c0, c1, c2])) = xs[2]? := hel 2 _ rfl
    rw [k0] at h2
    obtain ⟨x2, hx2⟩ : ∃ x, xs[2]? = some x := ⟨xs[2], by simp [hnn]⟩
    rw [hx2] at h2
    obtain ⟨a0, e0, _, w0⟩ := DataW.trod_int Try.underlying3 h0
    have r0 := i64_wfP w0
    obtain ⟨a1, e1, _, w1⟩ := DataW.trod_int Try.underlying3 h1
    have r1 := i64_wfP w1
    obtain ⟨a2, e2, _, w2⟩ := DataW.trod_int Try.underlying3 h2
    have r2 := i64_wfP w2
    simp at e0 e1 e2
    exact ⟨⟨a0, a1, a2⟩, by rw [e0, e1, e2], ⟨r0.1, r0.2, r1.1, r1.2, r2.1, r2.2⟩⟩
theorem spans_cellsP (hf : DataW.trod enc Try.prog W 0 sp hd fuel 22 cs = some x) : ∃ (L : List M.Sp) (ao : Option Addr) (cap : Nat), cs = [.slice ao L.length cap] ∧ L.length ≤ 9223372036854775807 ∧ (∀ y ∈ L, y.ints) ∧ L.length ≤ cap ∧ SpsAt W ao L := by
  have c8 : Try.prog.cellsOf 29 = 8 := by kernel_rfl
  rcases Deep.open_slice Try.underlying22 hf with ⟨hcs, _⟩ | ⟨a, len, cap, m, n, D, Pl, hcs, _, hl, hm, hmm, _, hx⟩
  · exact ⟨[], none, 0, hcs, by simp, by simp, by simp, fun h => absurd rfl h⟩
  · rw [c8] at hx
    have hlm : len ≤ m := by rw [hmm]; split <;> omega
    unfold maxLen at hm
    obtain ⟨L, hL, hp⟩ := choose_listP M.sp0 len (p := fun i y => W.cells? 0 (a.add (i * 8)) 8 = some (spL y) ∧ y.ints) (fun i hi => by
      obtain ⟨cs', h1, h2⟩ := hx i (by omega)
      obtain ⟨y, rfl, hok⟩ := sp_cellsP h2
      exact ⟨y, h1, hok⟩)
    refine ⟨L, some a, cap, by rw [hcs, hL], by omega, fun y hym => ?_, by omega, fun hne => ?_⟩
    · obtain ⟨i, hi, rfl⟩ := List.mem_iff_getElem.1 hym
      have := (hp i (by omega)).2
      simpa [List.getD, List.getElem?_eq_getElem hi] using this
    · have h0 : 0 < len := by rw [← hL]; exact List.length_pos_iff.2 hne
      have e := addr_plainP (cells_getP (hp 0 h0).1 0 _ rfl)
      simp only [Nat.zero_mul, show ∀ x : Addr, x.add 0 = x from fun x => if_pos rfl] at e
      refine ⟨a.block, a.off, by rw [← e], fun j hj => ?_⟩
      have hc := cells_getP (hp j (by omega)).1
      rw [e, Addr.add_lit] at hc
      exact ⟨(hc 0 _ rfl), (hc 1 _ rfl), (hc 2 _ rfl), (hc 3 _ rfl), (hc 4 _ rfl), (hc 5 _ rfl), (hc 6 _ rfl), (hc 7 _ rfl)⟩
theorem bt_cellsP (hf : DataW.trod enc Try.prog W 0 sp hd fuel 24 cs = some x) : ∃ (h f : Int) (v : Value) (L : List M.Sp) (ao : Option Addr) (cap : Nat), cs = [.int .i64 h, .int .i64 f, .slice ao L.length cap] ∧ (-9223372036854775808 ≤ h ∧ h ≤ 9223372036854775807 ∧ -9223372036854775808 ≤ f ∧ f ≤ 9223372036854775807) ∧ L.length ≤ 9223372036854775807 ∧ (∀ x ∈ L, x.ints) ∧ L.length ≤ cap ∧ SpsAt W ao L := by
  have ct : Try.prog.cellsOf 24 = 3 := by kernel_rfl
  have k0 : Try.prog.cellsOf 3 = 1 := by kernel_rfl
  have k1 : Try.prog.cellsOf 22 = 1 := by kernel_rfl
  obtain ⟨xs, n, _, _, hlen, hn, hel⟩ := DataW.trod_struct Try.underlying24 hf
  have hnn : xs.length = 3 := hn
  rw [ct] at hlen
  match cs, hlen with
  | [c0, c1, c2], _ =>
    have h0 : DataW.trod enc Try.prog W 0 sp hd n 3 (List.take (Try.prog.cellsOf 3) (List.drop 0 [c0, c1, c2])) = xs[0]? := hel 0 _ rfl
    rw [k0] at h0
    obtain ⟨x0, hx0⟩ : ∃ x, xs[0]? = some x := ⟨xs[0], by simp [hnn]⟩
    rw [hx0] at h0
    have h1 : DataW.trod enc Try.prog W 0 sp hd n 3 (List.take (Try.prog.cellsOf 3) (List.drop 1 [c0, c1, c2])) = xs[1]? := hel 1 _ rfl
    rw [k0] at h1
    obtain ⟨x1, hx1⟩ : ∃ x, xs[1]? = some x := ⟨xs[1], by simp [hnn]⟩
    rw [hx1] at h1
    have h2 : DataW.trod enc Try.prog W 0 sp hd n 22 (List.take (Try.prog.cellsOf 22) (List.drop 2 [c0, c1, c2])) = xs[2]? := hel 2 _ rfl
    rw [k1] at h2
    obtain ⟨x2, hx2⟩ : ∃ x, xs[2]? = some x := ⟨xs[2], by simp [hnn]⟩
    rw [hx2] at h2
    obtain ⟨a0, e0, _, w0⟩ := DataW.trod_int Try.underlying3 h0
    have r0 := i64_wfP w0
    obtain ⟨a1, e1, _, w1⟩ := DataW.trod_int Try.underlying3 h1
    have r1 := i64_wfP w1
    obtain ⟨L, ao, cap, e2, hL1, hL2, hL3, hL4⟩ := spans_cellsP h2
    simp at e0 e1 e2
    exact ⟨a0, a1, c2, L, ao, cap, by rw [e0, e1, e2], ⟨r0.1, r0.2, r1.1, r1.2⟩, hL1, hL2, hL3, hL4⟩
end
/-- A batch that comes in. -/
def UBt (W : World) (v : Value) : Prop := ∃ (h f : Int) (L : List M.Sp) (ao : Option Addr) (cap : Nat), v = .agg #[.int .i64 h, .int .i64 f, .slice ao L.length cap] ∧ (-9223372036854775808 ≤ h ∧ h ≤ 9223372036854775807 ∧ -9223372036854775808 ≤ f ∧ f ≤ 9223372036854775807) ∧ L.length ≤ 9223372036854775807 ∧ (∀ x ∈ L, x.ints) ∧ L.length ≤ cap ∧ SpsAt W ao L
/-- An ack that comes in. -/
def UAk (v : Value) : Prop := ∃ y : M.Ak, v = .agg #[.int .i64 y.host, .int .i64 y.first, .int .i64 y.next] ∧ y.ints
section
variable {H : Type} {enc : TypeId × Value → H} {W : World} {r : Reach} {b0 : Nat} {v : Value} {d : DataW H} {p : List MemPlace}
theorem open_batch (hv : Value.okWide Try.prog W r b0 24 v) (h : DataW.Trod enc Try.prog W 0 (fun _ => true) true 24 v d p) : UBt W v := by
  obtain ⟨cs, rfl, hsz⟩ := WideShapes.okWide_struct Try.underlying24 hv
  obtain ⟨fuel, hf⟩ := h
  obtain ⟨h, f, _, L, ao, cap, hcs, h1, h2, h3, h4, h5⟩ := bt_cellsP hf
  have hcs' : cs.toList = [.int .i64 h, .int .i64 f, .slice ao L.length cap] := hcs
  refine ⟨h, f, L, ao, cap, ?_, h1, h2, h3, h4, h5⟩
  rw [show cs = [.int .i64 h, .int .i64 f, .slice ao L.length cap].toArray from by rw [← hcs']]
theorem open_ack (hv : Value.okWide Try.prog W r b0 26 v) (h : DataW.Trod enc Try.prog W 0 (fun _ => true) true 26 v d p) : UAk v := by
  obtain ⟨cs, rfl, hsz⟩ := WideShapes.okWide_struct Try.underlying26 hv
  obtain ⟨fuel, hf⟩ := h
  obtain ⟨y, hcs, h1⟩ := ak_cellsP hf
  have hcs' : cs.toList = [.int .i64 y.host, .int .i64 y.first, .int .i64 y.next] := hcs
  refine ⟨y, ?_, h1⟩
  rw [show cs = [.int .i64 y.host, .int .i64 y.first, .int .i64 y.next].toArray from by rw [← hcs']]
end

end Go.Proofs.Ytblgfhljaafmhaa
