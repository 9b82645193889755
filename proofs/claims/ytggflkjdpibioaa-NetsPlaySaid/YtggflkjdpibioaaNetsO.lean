/- Layer 7: what comes in: a message, an act, and slices of them. -/
import Derived.Test.YtggflkjdpibioaaNetsD
import Derived.ChangeSame
import Derived.WideShapes
import Derived.Deep.Slices
namespace Go.Proofs.Ytggflkjdpibioaa
set_option linter.unusedVariables false
open Go Go.RowKit

/-- An act: what is done, with which message, where. -/
structure Ac where
  kind : Int
  m : Ml
  i : Int
structure Ac.ok (a : Ac) : Prop where
  k1 : 0 ≤ a.kind
  k2 : a.kind ≤ 255
  i1 : -9223372036854775808 ≤ a.i
  i2 : a.i ≤ 9223372036854775807
def acC (a : Ac) : List Value := [.int .u8 a.kind, .int .i64 a.m.src, .int .i64 a.m.dst, .string (S a.m.dat), .int .i64 a.i]
def ac0 : Ac := ⟨0, ml0, 0⟩
theorem i64_wf7 {n : Int} (h : (Lit.int .i64 n).wf = true) : -9223372036854775808 ≤ n ∧ n ≤ 9223372036854775807 := by
  simp [Lit.wf, IntKind.min, IntKind.max, IntKind.signed, IntKind.bits] at h
  omega
theorem u8_wf {n : Int} (h : (Lit.int .u8 n).wf = true) : 0 ≤ n ∧ n ≤ 255 := by
  simp [Lit.wf, IntKind.min, IntKind.max, IntKind.signed, IntKind.bits] at h
  omega
section
variable {H : Type} {enc : TypeId × Value → H} {W : World} {fuel : Nat} {cs : List Value} {x : DataW H × List MemPlace} {B : Nat} {sp : Nat → Bool} {hd : Bool}
theorem mail_cells (hf : DataW.trod enc Try.prog W B sp hd fuel 31 cs = some x) : ∃ m : Ml, cs = mlC m := by
  have c3 : Try.prog.cellsOf 31 = 3 := by kernel_rfl
  have ci : Try.prog.cellsOf 3 = 1 := by kernel_rfl
  have cz : Try.prog.cellsOf 9 = 1 := by kernel_rfl
  obtain ⟨xs, n, _, _, hlen, hn, hel⟩ := DataW.trod_struct Try.underlying31 hf
  have hn3 : xs.length = 3 := hn
  rw [c3] at hlen
  match cs, hlen with
  | [c0, c1, c2], _ =>
    have h0 : DataW.trod enc Try.prog W B sp hd n 3 (List.take (Try.prog.cellsOf 3) (List.drop 0 [c0, c1, c2])) = xs[0]? := hel 0 _ rfl
    rw [ci] at h0
    obtain ⟨x0, hx0⟩ : ∃ x, xs[0]? = some x := ⟨xs[0], by simp [hn3]⟩
    rw [hx0] at h0
    have h1 : DataW.trod enc Try.prog W B sp hd n 3 (List.take (Try.prog.cellsOf 3) (List.drop 1 [c0, c1, c2])) = xs[1]? := hel 1 _ rfl
    rw [ci] at h1
    obtain ⟨x1, hx1⟩ : ∃ x, xs[1]? = some x := ⟨xs[1], by simp [hn3]⟩
    rw [hx1] at h1
    have h2 : DataW.trod enc Try.prog W B sp hd n 9 (List.take (Try.prog.cellsOf 9) (List.drop 2 [c0, c1, c2])) = xs[2]? := hel 2 _ rfl
    rw [cz] at h2
    obtain ⟨x2, hx2⟩ : ∃ x, xs[2]? = some x := ⟨xs[2], by simp [hn3]⟩
    rw [hx2] at h2
    obtain ⟨a0, e0, _, w0⟩ := DataW.trod_int Try.underlying3 h0
    obtain ⟨a1, e1, _, w1⟩ := DataW.trod_int Try.underlying3 h1
    obtain ⟨a2, e2, _, w2⟩ := DataW.trod_string Try.underlying9 h2
    simp at e0 e1 e2
    exact ⟨⟨a0, a1, a2.data.toList⟩, by rw [e0, e1, e2]; rfl⟩
theorem act_cells (hf : DataW.trod enc Try.prog W B sp hd fuel 35 cs = some x) : ∃ a : Ac, cs = acC a ∧ a.ok := by
  have c5 : Try.prog.cellsOf 35 = 5 := by kernel_rfl
  have c3 : Try.prog.cellsOf 31 = 3 := by kernel_rfl
  have ci : Try.prog.cellsOf 3 = 1 := by kernel_rfl
  have cu : Try.prog.cellsOf 5 = 1 := by kernel_rfl
  obtain ⟨xs, n, _, _, hlen, hn, hel⟩ := DataW.trod_struct Try.underlying35 hf
  have hn3 : xs.length = 3 := hn
  rw [c5] at hlen
  match cs, hlen with
  | [c0, c1, c2, c3', c4], _ =>
    have h0 : DataW.trod enc Try.prog W B sp hd n 5 (List.take (Try.prog.cellsOf 5) (List.drop 0 [c0, c1, c2, c3', c4])) = xs[0]? := hel 0 _ rfl
    rw [cu] at h0
    obtain ⟨x0, hx0⟩ : ∃ x, xs[0]? = some x := ⟨xs[0], by simp [hn3]⟩
    rw [hx0] at h0
    have h1 : DataW.trod enc Try.prog W B sp hd n 31 (List.take (Try.prog.cellsOf 31) (List.drop 1 [c0, c1, c2, c3', c4])) = xs[1]? := hel 1 _ rfl
    rw [c3] at h1
    obtain ⟨x1, hx1⟩ : ∃ x, xs[1]? = some x := ⟨xs[1], by simp [hn3]⟩
    rw [hx1] at h1
    have h2 : DataW.trod enc Try.prog W B sp hd n 3 (List.take (Try.prog.cellsOf 3) (List.drop 4 [c0, c1, c2, c3', c4])) = xs[2]? := hel 2 _ rfl
    rw [ci] at h2
    obtain ⟨x2, hx2⟩ : ∃ x, xs[2]? = some x := ⟨xs[2], by simp [hn3]⟩
    rw [hx2] at h2
    obtain ⟨a0, e0, _, w0⟩ := DataW.trod_int Try.underlying5 h0
    obtain ⟨m, e1⟩ := mail_cells h1
    obtain ⟨a2, e2, _, w2⟩ := DataW.trod_int Try.underlying3 h2
    have r0 := u8_wf w0
    have r2 := i64_wf7 w2
    simp [mlC] at e0 e1 e2
    obtain ⟨f1, f2, f3⟩ := e1
    exact ⟨⟨a0, m, a2⟩, by rw [e0, f1, f2, f3, e2]; rfl, ⟨r0.1, r0.2, r2.1, r2.2⟩⟩
end
theorem mapM_get {f : Nat → Option Value} : ∀ (l : List Nat) (cs : List Value), l.mapM f = some cs → cs.length = l.length ∧ ∀ (j : Nat) (u : Value), cs[j]? = some u → ∃ i : Nat, l[j]? = some i ∧ f i = some u
  | [], cs, h => by simp at h; subst h; simp
  | a :: l, cs, h => by
    rw [List.mapM_cons] at h
    cases hf : f a with
    | none => simp [hf] at h
    | some v =>
      cases hm : l.mapM f with
      | none => simp [hf, hm] at h
      | some vs =>
        simp [hf, hm] at h
        subst h
        obtain ⟨h1, h2⟩ := mapM_get l vs hm
        refine ⟨by simp [h1], fun j u hj => ?_⟩
        cases j with
        | zero => simp at hj; exact ⟨a, rfl, by rw [hf, hj]⟩
        | succ j => simpa using h2 j u (by simpa using hj)
theorem cells_get {w : World} {B n : Nat} {a : Addr} {cs : List Value} (h : w.cells? B a n = some cs) : ∀ j u, cs[j]? = some u → w.cell? (a.add j) = some u := by
  unfold World.cells? at h
  split at h
  · intro j u hj
    obtain ⟨_, h2⟩ := mapM_get _ _ h
    obtain ⟨i, hi, hf⟩ := h2 j u hj
    obtain ⟨hlt, e⟩ := List.getElem?_eq_some_iff.1 hi
    simp at e
    subst e
    exact hf
  · cases h
theorem addr_plain {w : World} {a : Addr} {u : Value} (h : w.cell? a = some u) : a = ⟨a.block, a.off, none⟩ := by
  obtain ⟨b, o, s⟩ := a
  cases s with
  | none => rfl
  | some s =>
    unfold World.cell? at h
    split at h <;> simp at h
/-- A slice of acts, whose cells are known. -/
def AcRow (W : World) (v : Value) (A : List Ac) : Prop := ∃ ao cap, v = .slice ao A.length cap ∧ A.length ≤ maxLen ∧ (∀ a, a ∈ A → a.ok) ∧ (A ≠ [] → ∃ g off, ao = some ⟨g, off, none⟩ ∧ ∀ j, j < A.length →
  W.cell? ⟨g, off + j * 5, none⟩ = some (.int .u8 (A.getD j ac0).kind) ∧ W.cell? ⟨g, off + j * 5 + 1, none⟩ = some (.int .i64 (A.getD j ac0).m.src) ∧ W.cell? ⟨g, off + j * 5 + 2, none⟩ = some (.int .i64 (A.getD j ac0).m.dst) ∧
  W.cell? ⟨g, off + j * 5 + 3, none⟩ = some (.string (S (A.getD j ac0).m.dat)) ∧ W.cell? ⟨g, off + j * 5 + 4, none⟩ = some (.int .i64 (A.getD j ac0).i))
theorem choose_list {α : Type} (d : α) (n : Nat) {p : Nat → α → Prop} (h : ∀ i, i < n → ∃ a, p i a) : ∃ l : List α, l.length = n ∧ ∀ i, i < n → p i (l.getD i d) := by
  induction n with
  | zero => exact ⟨[], rfl, fun i hi => by omega⟩
  | succ n ih =>
    obtain ⟨l, hl, hp⟩ := ih fun i hi => h i (by omega)
    obtain ⟨a, ha⟩ := h n (by omega)
    refine ⟨l ++ [a], by simp [hl], fun i hi => ?_⟩
    by_cases hin : i < n
    · rw [show (l ++ [a]).getD i d = l.getD i d from by simp [List.getD, List.getElem?_append_left (show i < l.length by omega)]]
      exact hp i hin
    · obtain rfl : i = n := by omega
      rw [show (l ++ [a]).getD i d = a from by simp [List.getD, ← hl]]
      exact ha
section
variable {H : Type} {enc : TypeId × Value → H} {W : World} {r : Reach} {b0 : Nat} {v : Value} {d : DataW H} {p : List MemPlace}
def UMl (v : Value) : Prop := ∃ m : Ml, v = mlV m
theorem open_mail (hv : Value.okWide Try.prog W r b0 31 v) (h : DataW.Trod enc Try.prog W 0 (fun _ => true) true 31 v d p) : UMl v := by
  obtain ⟨cs, rfl, hsz⟩ := WideShapes.okWide_struct Try.underlying31 hv
  obtain ⟨fuel, hf⟩ := h
  obtain ⟨m, hm⟩ := mail_cells hf
  have hm' : cs.toList = mlC m := hm
  refine ⟨m, ?_⟩
  rw [show cs = (mlC m).toArray from by rw [← hm']]
  rfl
def UAc (v : Value) : Prop := ∃ a : Ac, v = .agg #[.int .u8 a.kind, .int .i64 a.m.src, .int .i64 a.m.dst, .string (S a.m.dat), .int .i64 a.i] ∧ a.ok
theorem open_act (hv : Value.okWide Try.prog W r b0 35 v) (h : DataW.Trod enc Try.prog W 0 (fun _ => true) true 35 v d p) : UAc v := by
  obtain ⟨cs, rfl, hsz⟩ := WideShapes.okWide_struct Try.underlying35 hv
  obtain ⟨fuel, hf⟩ := h
  obtain ⟨a, ha, hok⟩ := act_cells hf
  have ha' : cs.toList = acC a := ha
  refine ⟨a, ?_, hok⟩
  rw [show cs = (acC a).toArray from by rw [← ha']]
  rfl
theorem open_mails (hv : Value.okWide Try.prog W r b0 27 v) (h : DataW.Trod enc Try.prog W 0 (fun _ => true) true 27 v d p) : ∃ L, MlRow W v L ∧ L.length ≤ maxLen := by
  obtain ⟨a0, len, cap, rfl⟩ := WideShapes.okWide_slice Try.underlying27 hv
  obtain ⟨fuel, hf⟩ := h
  have c3 : Try.prog.cellsOf 31 = 3 := by kernel_rfl
  rcases Deep.open_slice Try.underlying27 hf with ⟨hcs, _⟩ | ⟨a, len', cap', m, n, D, Pl, hcs, _, hl, hm, hmm, _, hx⟩
  · simp [Value.cells] at hcs
    obtain ⟨rfl, rfl, rfl⟩ := hcs
    exact ⟨[], ⟨none, 0, rfl, fun h => absurd rfl h⟩, by simp⟩
  · simp [Value.cells] at hcs
    obtain ⟨rfl, rfl, rfl⟩ := hcs
    simp only [if_true] at hmm
    rw [c3] at hx
    obtain ⟨L, hL, hp⟩ := choose_list ml0 len (p := fun i m => W.cells? 0 (a.add (i * 3)) 3 = some (mlC m)) (fun i hi => by
      obtain ⟨cs', h1, h2⟩ := hx i (by omega)
      obtain ⟨m, rfl⟩ := mail_cells h2
      exact ⟨m, h1⟩)
    refine ⟨L, ⟨some a, cap, by rw [hL], fun hne => ?_⟩, by omega⟩
    have h0 : 0 < len := by rw [← hL]; exact List.length_pos_iff.2 hne
    have e := addr_plain (cells_get (hp 0 h0) 0 _ rfl)
    simp only [Nat.zero_mul, show ∀ x : Addr, x.add 0 = x from fun x => if_pos rfl] at e
    refine ⟨a.block, a.off, by rw [← e], fun j hj => ?_⟩
    have hc := cells_get (hp j (by omega))
    rw [e, Addr.add_lit] at hc
    exact ⟨(hc 0 _ rfl), (hc 1 _ rfl), (hc 2 _ rfl)⟩
theorem open_acts (hv : Value.okWide Try.prog W r b0 22 v) (h : DataW.Trod enc Try.prog W 0 (fun _ => true) true 22 v d p) : ∃ A, AcRow W v A := by
  obtain ⟨a0, len, cap, rfl⟩ := WideShapes.okWide_slice Try.underlying22 hv
  obtain ⟨fuel, hf⟩ := h
  have c5 : Try.prog.cellsOf 35 = 5 := by kernel_rfl
  rcases Deep.open_slice Try.underlying22 hf with ⟨hcs, _⟩ | ⟨a, len', cap', m, n, D, Pl, hcs, _, hl, hm, hmm, _, hx⟩
  · simp [Value.cells] at hcs
    obtain ⟨rfl, rfl, rfl⟩ := hcs
    exact ⟨[], none, 0, rfl, by simp, fun a h => by simp at h, fun h => absurd rfl h⟩
  · simp [Value.cells] at hcs
    obtain ⟨rfl, rfl, rfl⟩ := hcs
    simp only [if_true] at hmm
    rw [c5] at hx
    obtain ⟨A, hL, hp⟩ := choose_list ac0 len (p := fun i m => W.cells? 0 (a.add (i * 5)) 5 = some (acC m) ∧ m.ok) (fun i hi => by
      obtain ⟨cs', h1, h2⟩ := hx i (by omega)
      obtain ⟨m, rfl, hok⟩ := act_cells h2
      exact ⟨m, h1, hok⟩)
    refine ⟨A, some a, cap, by rw [hL], by omega, fun x hxm => ?_, fun hne => ?_⟩
    · obtain ⟨i, hi, rfl⟩ := List.mem_iff_getElem.1 hxm
      have := (hp i (by omega)).2
      simpa [List.getD, List.getElem?_eq_getElem hi] using this
    · have h0 : 0 < len := by rw [← hL]; exact List.length_pos_iff.2 hne
      have e := addr_plain (cells_get (hp 0 h0).1 0 _ rfl)
      simp only [Nat.zero_mul, show ∀ x : Addr, x.add 0 = x from fun x => if_pos rfl] at e
      refine ⟨a.block, a.off, by rw [← e], fun j hj => ?_⟩
      have hc := cells_get (hp j (by omega)).1
      rw [e, Addr.add_lit] at hc
      exact ⟨(hc 0 _ rfl), (hc 1 _ rfl), (hc 2 _ rfl), (hc 3 _ rfl), (hc 4 _ rfl)⟩
end

end Go.Proofs.Ytggflkjdpibioaa
