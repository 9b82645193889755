/- Layer 11: what an Iter holds, and its Next, by contracts. -/
import Derived.Test.YthidmgnfdikppaaMergesK
namespace Go.Proofs.Ythidmgnfdikppaa
set_option linter.unusedVariables false
open Go Go.RowKit
attribute [local go_sem ↓] run_index_S
attribute [local go_sem] S_append S_extract

/-- The cells behind a head lie in a block of cells, below N. -/
def BehN (B N : Nat) (w : World) (x : M.Hd) : Prop := x.b ≠ [] → ∃ q off, x.o = some ⟨q, off, none⟩ ∧ B ≤ q ∧ q < N ∧ (∃ C fz, w.heap[q]? = some (.cells C 38 fz)) ∧ (∀ j, j < x.b.length → ClOff (x.b.getD j M.cl0) w q (off + j * 3)) ∧ x.b.length ≤ x.k
/-- What an Iter holds: the heads, of rows R that come to L. -/
structure Ic (B N bi : Nat) (ao : Option Addr) (n cap : Nat) (H : List M.Hd) (R : List (List M.Cl)) (L : List M.Cl) (w : World) : Prop where
  hq : Hq B bi ao n cap H w
  hp : M.Hp H n
  hof : M.Hof R H
  mrg : M.Mrg R L
  rl : R.length ≤ 100000
  beh : ∀ x, x ∈ H → BehN B N w x
  bb : B ≤ bi
  nl : N ≤ w.heap.size
def It11 (B N bi : Nat) (L : List M.Cl) (w : World) : Prop := ∃ ao n cap H R, Ic B N bi ao n cap H R L w
theorem clOff_blk {x : M.Cl} {w w' : World} {g o : Nat} (h : ClOff x w g o) (hb : w'.heap[g]? = w.heap[g]?) : ClOff x w' g o := by
  have k := fun {o : Nat} {v : Value} (h : w.cell? ⟨g, o, none⟩ = some v) => (World.cell?_of_block (a := ⟨g, o, none⟩) hb).trans h
  obtain ⟨h0, h1, h2⟩ := h
  exact ⟨k h0, k h1, k h2⟩
theorem BehN.keep {B N : Nat} {w w' : World} {x : M.Hd} (h : BehN B N w x) (k : ∀ b, b < N → (∃ C fz, w.heap[b]? = some (.cells C 38 fz)) → w'.heap[b]? = w.heap[b]?) : BehN B N w' x := fun hx => by
  obtain ⟨q, off, e, hB, hN, hC, hcl, hl⟩ := h hx
  have hk := k q hN hC
  refine ⟨q, off, e, hB, hN, ?_, fun j hj => clOff_blk (hcl j hj) hk, hl⟩
  rw [hk]; exact hC
theorem Ic.keep {B N bi : Nat} {ao : Option Addr} {n cap : Nat} {H : List M.Hd} {R : List (List M.Cl)} {L : List M.Cl} {w w' : World} (h : Ic B N bi ao n cap H R L w) (hs : w.heap.size ≤ w'.heap.size)
    (k : ∀ b, b = bi ∨ (Value.slice ao n cap).ownBlock = some b ∨ (b < N ∧ ∃ C fz, w.heap[b]? = some (.cells C 38 fz)) → w'.heap[b]? = w.heap[b]?) : Ic B N bi ao n cap H R L w' := by
  refine ⟨⟨(k bi (.inl rfl)).trans h.hq.row, ?_, h.hq.len, Nat.le_trans h.hq.base hs⟩, h.hp, h.hof, h.mrg, h.rl, fun x hx => (h.beh x hx).keep (fun b hb hc => k b (.inr (.inr ⟨hb, hc⟩))), h.bb, Nat.le_trans h.nl hs⟩
  have ho := h.hq.own
  refine ⟨ho.1, ?_⟩
  rcases ho.2 with h0 | ⟨g, cap', cur, hv, hB, hg, r⟩
  · exact .inl h0
  · exact .inr ⟨g, cap', cur, hv, hB, by rw [k g (.inr (.inl (by rw [hv]; rfl)))]; exact hg, r⟩
theorem Ic.below {B N bi : Nat} {ao : Option Addr} {n cap : Nat} {H : List M.Hd} {R : List (List M.Cl)} {L : List M.Cl} {w w' : World} (h : Ic B N bi ao n cap H R L w) (hb : Below w.heap.size w w') : Ic B N bi ao n cap H R L w' :=
  h.keep hb.size fun b hk => hb.block b (by
    rcases hk with e | e | ⟨hn, C, fz, e⟩
    · subst e; exact h.hq.row.lt
    · exact (h.hq.own.lt b e).2
    · exact (Array.getElem?_eq_some_iff.1 e).1)
theorem Ic.more {B N N' bi : Nat} {ao : Option Addr} {n cap : Nat} {H : List M.Hd} {R : List (List M.Cl)} {L : List M.Cl} {w : World} (h : Ic B N bi ao n cap H R L w) (hN : N ≤ N') (hw : N' ≤ w.heap.size) : Ic B N' bi ao n cap H R L w :=
  ⟨h.hq, h.hp, h.hof, h.mrg, h.rl, fun x hx hb => by
    obtain ⟨q, off, e, hB, hn, r⟩ := h.beh x hx hb
    exact ⟨q, off, e, hB, by omega, r⟩, h.bb, hw⟩
theorem It11.below {B N bi : Nat} {L : List M.Cl} {w w' : World} (h : It11 B N bi L w) (hb : Below w.heap.size w w') : It11 B N bi L w' := by
  obtain ⟨ao, n, cap, H, R, h⟩ := h
  exact ⟨ao, n, cap, H, R, h.below hb⟩
/-- The next head taken: its row is done. -/
theorem Ic.popNil {B N bi : Nat} {g m cap : Nat} {H K : List M.Hd} {R : List (List M.Cl)} {L : List M.Cl} {w w' : World} (h : Ic B N bi (some ⟨g, 0, none⟩) (m + 1) cap H R L w) (hK : (M.hAt H 0 :: K).Perm H) (hp : M.Hp K m) (hq : Hq B bi (some ⟨g, 0, none⟩) m cap K w')
    (hk : ∀ b, b < N → (∃ C fz, w.heap[b]? = some (.cells C 38 fz)) → w'.heap[b]? = w.heap[b]?) (hs : w.heap.size ≤ w'.heap.size) (hb : (M.hAt H 0).b = []) :
    ∃ L', L = (M.hAt H 0).c :: L' ∧ Ic B N bi (some ⟨g, 0, none⟩) m cap K (R.set (M.hAt H 0).r (M.hAt H 0).b) L' w' := by
  have hm : M.hAt H 0 ∈ H := M.hAt_mem (by rw [h.hq.len]; omega)
  obtain ⟨L', e, hM⟩ := h.hof.some hm (fun y hy => by
    obtain ⟨i, hi, rfl⟩ := M.mem_hAt hy
    exact h.hp.least i (by rw [← h.hq.len]; exact hi)) h.mrg
  exact ⟨L', e, hq, hp, (h.hof.perm hK).taken hb, hM, by simpa using h.rl, fun x hx => (h.beh x (hK.mem_iff.1 (by simp [hx]))).keep hk, h.bb, Nat.le_trans h.nl hs⟩
/-- The next head taken: the next cell of its row was laid in. -/
theorem Ic.popCons {B N bi : Nat} {g m cap cap' : Nat} {ao' : Option Addr} {H K K' : List M.Hd} {R : List (List M.Cl)} {L : List M.Cl} {w w' : World} {c : M.Cl} {t : List M.Cl} {q off k : Nat} (h : Ic B N bi (some ⟨g, 0, none⟩) (m + 1) cap H R L w) (hK : (M.hAt H 0 :: K).Perm H) (hK' : K'.Perm (K ++ [M.hdOf c t q off k (M.hAt H 0).r])) (hp : M.Hp K' (m + 1)) (hq : Hq B bi ao' (m + 1) cap' K' w')
    (hk : ∀ b, b < N → (∃ C fz, w.heap[b]? = some (.cells C 38 fz)) → w'.heap[b]? = w.heap[b]?) (hs : w.heap.size ≤ w'.heap.size) (hb : (M.hAt H 0).b = c :: t) (ho : (M.hAt H 0).o = some ⟨q, off, none⟩) (hkk : (M.hAt H 0).k = k) :
    ∃ L', L = (M.hAt H 0).c :: L' ∧ Ic B N bi ao' (m + 1) cap' K' (R.set (M.hAt H 0).r (M.hAt H 0).b) L' w' := by
  have hm : M.hAt H 0 ∈ H := M.hAt_mem (by rw [h.hq.len]; omega)
  obtain ⟨L', e, hM⟩ := h.hof.some hm (fun y hy => by
    obtain ⟨i, hi, rfl⟩ := M.mem_hAt hy
    exact h.hp.least i (by rw [← h.hq.len]; exact hi)) h.mrg
  refine ⟨L', e, hq, hp, ((h.hof.perm hK).next hb _ _).perm hK', hM, by simpa using h.rl, fun x hx => ?_, h.bb, Nat.le_trans h.nl hs⟩
  rcases List.mem_append.1 (hK'.mem_iff.1 hx) with hx | hx
  · exact (h.beh x (hK.mem_iff.1 (by simp [hx]))).keep hk
  · have ex : x = M.hdOf c t q off k (M.hAt H 0).r := by simpa using hx
    subst ex
    intro hne
    obtain ⟨q', off', e1, hB, hN, hC, hcl, hl⟩ := (h.beh _ hm).keep hk (by rw [hb]; simp)
    rw [ho] at e1
    injection e1 with e1
    injection e1 with e1 e2
    subst e1; subst e2
    rw [hb] at hcl hl
    have hl2 : t.length + 1 ≤ k := by rw [hkk] at hl; simpa using hl
    have ht : t.length ≠ 0 := fun e => hne (List.eq_nil_of_length_eq_zero e)
    refine ⟨q, off + 3, by simp only [M.hdOf]; rw [if_neg (by omega)], hB, hN, hC, fun j hj => ?_, by simp only [M.hdOf]; omega⟩
    have := hcl (j + 1) (by simpa [M.hdOf] using hj)
    rw [show off + (j + 1) * 3 = off + 3 + j * 3 from by omega] at this
    simpa [M.hdOf, List.getD] using this
/-- A struct stored whole: all other blocks stay. -/
theorem wpList_store_two {ops : Array Oper} {rest : List Oper} {o : Oper} {a : Act} {w : World} {Q : Exit → Act → World → Prop} (hgd : o.guard = none) (ty : TypeId) (x y : Operand) (ho : o.op = .store ty x y)
    (g : Nat) (cells : Array Value) (hx : a.eval x = .pointer (some ⟨g, 0, none⟩)) (hy : a.eval y = .agg cells)
    (t : TypeId) (old : Array Value) (hg : RowIn old t w g) (hi : (Try.prog.info? ty).map (·.size) = some cells.size)
    (hold : old.size = cells.size) (h1 : cells.all (·.oneCell') = true)
    (h : ∀ w', RowIn cells t w' g → Two g none w w' → w'.heap.size = w.heap.size → (∀ k, k ≠ g → w'.heap[k]? = w.heap[k]?) → wpList Try.prog ops Q rest (a.put o.dst undef) w') :
    wpList Try.prog ops Q (o :: rest) a w := by
  have hb : ∀ k, k ≠ g → (w.setRow g cells).heap[k]? = w.heap[k]? := fun k hk => by
    unfold World.setRow
    simp only [Array.getElem?_modify]
    rw [if_neg (fun e => hk e.symm)]
  exact wpList_store_row hgd ty x y ho g cells hx hy t old hg hi hold h1 (h _ (RowIn.rowP hg) ⟨rfl, rfl, rfl, by simp [World.setRow], fun k _ hk _ => hb k hk⟩ (by simp [World.setRow]) hb)

end Go.Proofs.Ythidmgnfdikppaa
