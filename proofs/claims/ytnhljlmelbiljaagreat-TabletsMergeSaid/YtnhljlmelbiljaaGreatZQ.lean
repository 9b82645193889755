/- Texts of lower layers, as one. -/
import Derived.Test.YtnhljlmelbiljaaGreatZL
import Derived.Lib.SliceRun
import Derived.RangeFuncNested
import Derived.RangeFuncBound
import Derived.RangeFuncCalls
import Derived.RangeFuncLeaves
import Derived.Shelf.Abstract
import Derived.Shelf.RegionOpen
import Derived.OwnWalkIn
import Derived.TacticsInMore
import Derived.LoopNIn
import Derived.LoopIn
import Derived.RangeFuncBox
import Derived.RangeFuncFrom
import Derived.Maps.OwnIn
import Derived.Deep.LoopGhost
import Derived.BigQuiet
/- Layer 11: a row's next cell laid in, by a contract. -/
namespace Go.Proofs.YtnhljlmelbiljaaGreat
set_option linter.unusedVariables false
open Go Go.RowKit
attribute [local go_sem ↓] run_index_S
attribute [local go_sem] S_append S_extract

theorem Hq.below {B bi : Nat} {ao : Option Addr} {n cap : Nat} {H : List M.Hd} {w w' : World} (h : Hq B bi ao n cap H w) (hb : Below w.heap.size w w') : Hq B bi ao n cap H w' :=
  h.grown (own_below11 h.own hb) h.len (grown_below11 hb)
/-- The head of a row that begins with c, and goes on with t. -/
def M.hdOf (c : M.Cl) (t : List M.Cl) (q off k r : Nat) : M.Hd := ⟨c, t, if k = 1 then some ⟨q, off, none⟩ else some ⟨q, off + 3, none⟩, k - 1, r⟩
set_option maxHeartbeats 4000000 in
set_option maxRecDepth 100000 in
theorem lay11_any (B bi : Nat) (ao : Option Addr) (n cap : Nat) (H : List M.Hd) (c : M.Cl) (t : List M.Cl) (q off k r : Nat) (w : World) (h : Hq B bi ao n cap H w) (hn : n + 1 ≤ 1000000) (hp : M.Hp H n) (hc : ClOff c w q off) (hk : t.length + 1 ≤ k) :
    Calls Tryz.prog 85 #[.pointer (some ⟨bi, 0, none⟩), .slice (some ⟨q, off, none⟩) (t.length + 1) k, .int .i64 r] w (HPushR B bi ao n cap (H ++ [M.hdOf c t q off k r]) w) := by
  have HC := Lib.hid ((hpush11_any B bi ao n cap H (M.hdOf c t q off k r) w.drew (h.below (Below.refl _ _).drew) hn hp).mono fun e w' hh => (show HPushR B bi ao n cap (H ++ [M.hdOf c t q off k r]) w e w' from ⟨hh.1, by
    obtain ⟨a1, a2, a3, a4, a5, a6, a7, a8⟩ := hh.2
    exact ⟨a1, a2, a3, a4, a5, a6, ⟨a7.os, a7.tape, a7.output, a7.size, a7.block⟩, a8⟩⟩))
  obtain ⟨x0, x1, x2⟩ := hc
  have hi : (0 : Int) < ((t.length + 1 : Nat) : Int) := by omega
  have d1 : decide ((0 : Int) < ((t.length + 1 : Nat) : Int)) = true := by simp
  have d2 : decide (0 < t.length + 1) = true := by simp
  have hk1 : 1 ≤ k := by omega
  have hk2 : (1 : Int) ≤ (k : Int) := by omega
  have hk3 : (((t.length + 1 : Nat) : Int)) ≤ (k : Int) := by omega
  have hk4 : t.length + 1 ≤ k := by omega
  have hk5 : (1 : Int) ≤ ((t.length + 1 : Nat) : Int) := by omega
  have hk6 : (1 : Int) ≤ (t.length : Int) + 1 := by omega
  clear h hp
  go_enter Tryz.func85, Tryz.ntmps85
  go_wp2_with fail
  refine wp_region_any (by kernel_rfl) ?_
  change wpAny _ _ _ _ _ _ _ (World.drew _)
  refine wpAny_take (i := 0) (oi := { dst := some 9, op := Op.move (Operand.tmp 0), type := 112, pos := "merges.go:55", after := #[], guard := none }) (v := ?_) rfl (by kernel_rfl) (by kernel_rfl) (by kernel_rfl) (fun _ _ _ h => h) (Or.inl ⟨by rfl, ?_⟩) ?_
  rotate_left
  · (intro w; go_simp); (first | done | with_reducible rfl)
  try simp only [Act.put, List.setIfInBounds_toArray, List.set_cons_zero, List.set_cons_succ]
  refine wpAny_take (i := 1) (oi := { dst := some 10, op := Op.nilCheck (Operand.tmp 9), type := 0, pos := "merges.go:55", after := #[{ on := 0, ground := Ground.data }], guard := none }) (v := ?_) rfl (by kernel_rfl) (by kernel_rfl) (by kernel_rfl) (fun _ _ _ h => h) (Or.inl ⟨by rfl, ?_⟩) ?_
  rotate_left
  · (intro w; go_simp); (first | done | with_reducible rfl)
  try simp only [Act.put, List.setIfInBounds_toArray, List.set_cons_zero, List.set_cons_succ]
  refine wpAny_take (i := 2) (oi := { dst := some 11, op := Op.fieldAddr 150 (Operand.tmp 10) 0, type := 0, pos := "merges.go:55", after := #[{ on := 1, ground := Ground.data }], guard := none }) (v := ?_) rfl (by kernel_rfl) (by kernel_rfl) (by kernel_rfl) (fun _ _ _ h => h) (Or.inl ⟨by rfl, ?_⟩) ?_
  rotate_left
  · (intro w; go_simp); (first | done | with_reducible rfl)
  try simp only [Act.put, List.setIfInBounds_toArray, List.set_cons_zero, List.set_cons_succ]
  refine wpAny_take (i := 3) (oi := { dst := some 12, op := Op.makeInterface 179 (Operand.tmp 11), type := 196, pos := "merges.go:55", after := #[{ on := 2, ground := Ground.data }], guard := none }) (v := ?_) rfl (by kernel_rfl) (by kernel_rfl) (by kernel_rfl) (fun _ _ _ h => h) (Or.inl ⟨by rfl, ?_⟩) ?_
  rotate_left
  · (intro w; go_simp); (first | done | with_reducible rfl)
  try simp only [Act.put, List.setIfInBounds_toArray, List.set_cons_zero, List.set_cons_succ]
  refine wpAny_take (i := 4) (oi := { dst := some 13, op := Op.move (Operand.tmp 1), type := 22, pos := "merges.go:55", after := #[], guard := none }) (v := ?_) rfl (by kernel_rfl) (by kernel_rfl) (by kernel_rfl) (fun _ _ _ h => h) (Or.inl ⟨by rfl, ?_⟩) ?_
  rotate_left
  · (intro w; go_simp); (first | done | with_reducible rfl)
  try simp only [Act.put, List.setIfInBounds_toArray, List.set_cons_zero, List.set_cons_succ]
  refine wpAny_take (i := 5) (oi := { dst := some 14, op := Op.indexAddr 22 (Operand.tmp 13) (Operand.const (Value.int IntKind.i64 0)), type := 0, pos := "merges.go:55", after := #[{ on := 4, ground := Ground.data }], guard := none }) (v := ?_) rfl (by kernel_rfl) (by kernel_rfl) (by kernel_rfl) (fun _ _ _ h => h) (Or.inl ⟨by rfl, ?_⟩) ?_
  rotate_left
  · (intro w; go_simp); (first | done | with_reducible rfl)
  try simp only [Act.put, List.setIfInBounds_toArray, List.set_cons_zero, List.set_cons_succ]
  refine wpAny_take (i := 7) (oi := { dst := some 16, op := Op.move (Operand.tmp 1), type := 22, pos := "merges.go:55", after := #[], guard := none }) (v := ?_) rfl (by kernel_rfl) (by kernel_rfl) (by kernel_rfl) (fun _ _ _ h => h) (Or.inl ⟨by rfl, ?_⟩) ?_
  rotate_left
  · (intro w; go_simp); (first | done | with_reducible rfl)
  try simp only [Act.put, List.setIfInBounds_toArray, List.set_cons_zero, List.set_cons_succ]
  refine wpAny_take (i := 8) (oi := { dst := some 17, op := Op.slice 22 (Operand.tmp 16) (some (Operand.const (Value.int IntKind.i64 1))) none none, type := 22, pos := "merges.go:55", after := #[{ on := 7, ground := Ground.data }], guard := none }) (v := ?_) rfl (by kernel_rfl) (by kernel_rfl) (by kernel_rfl) (fun _ _ _ h => h) (Or.inl ⟨by rfl, ?_⟩) ?_
  rotate_left
  · (intro w; go_simp); (first | done | with_reducible rfl)
  try simp only [Act.put, List.setIfInBounds_toArray, List.set_cons_zero, List.set_cons_succ]
  refine wpAny_take (i := 9) (oi := { dst := some 18, op := Op.move (Operand.tmp 2), type := 3, pos := "merges.go:55", after := #[], guard := none }) (v := ?_) rfl (by kernel_rfl) (by kernel_rfl) (by kernel_rfl) (fun _ _ _ h => h) (Or.inl ⟨by rfl, ?_⟩) ?_
  rotate_left
  · (intro w; go_simp); (first | done | with_reducible rfl)
  try simp only [Act.put, List.setIfInBounds_toArray, List.set_cons_zero, List.set_cons_succ]
  refine wpAny_ready (rs := [6]) (by kernel_rfl) (by simp) ?_
  refine AllReady.cons (o := { dst := some 15, op := Op.load 38 (Operand.tmp 14), type := 38, pos := "merges.go:55", after := #[{ on := 5, ground := Ground.data }], guard := none }) rfl (fun K hK => ?_) AllReady.nil
  go_simp
  refine hK _ _ ?_
  clear hK K
  try simp only [Act.put, List.setIfInBounds_toArray, List.set_cons_zero, List.set_cons_succ]
  refine wpAny_take (i := 10) (oi := { dst := some 19, op := Op.build 181 #[(0, Operand.tmp 15), (1, Operand.tmp 17), (2, Operand.tmp 18)], type := 181, pos := "merges.go:55", after := #[{ on := 6, ground := Ground.data }, { on := 8, ground := Ground.data }, { on := 9, ground := Ground.data }], guard := none }) (v := ?_) rfl (by kernel_rfl) (by kernel_rfl) (by kernel_rfl) (fun _ _ _ h => h) (Or.inl ⟨by rfl, ?_⟩) ?_
  rotate_left
  · (intro w; go_simp); (first | done | with_reducible rfl)
  try simp only [Act.put, List.setIfInBounds_toArray, List.set_cons_zero, List.set_cons_succ]
  refine wpAny_take (i := 11) (oi := { dst := some 20, op := Op.makeInterface 181 (Operand.tmp 19), type := 20, pos := "merges.go:55", after := #[{ on := 10, ground := Ground.data }], guard := none }) (v := ?_) rfl (by kernel_rfl) (by kernel_rfl) (by kernel_rfl) (fun _ _ _ h => h) (Or.inl ⟨by rfl, ?_⟩) ?_
  rotate_left
  · (intro w; go_simp); (first | done | with_reducible rfl)
  try simp only [Act.put, List.setIfInBounds_toArray, List.set_cons_zero, List.set_cons_succ]
  refine wpAny_ready (rs := [12]) (by kernel_rfl) (by simp) ?_
  refine AllReady.cons (o := { dst := some 21, op := Op.call { callee := Callee.value (Operand.func 112), args := #[Operand.tmp 12, Operand.tmp 20], argTypes := #[196, 20] }, type := 0, pos := "merges.go:55", after := #[{ on := 3, ground := Ground.data }, { on := 11, ground := Ground.data }], guard := none }) rfl (fun K hK => ?_) AllReady.nil
  go_simp
  go_at_call 112
  refine (HC.out).mono ?_
  rintro e w1 ⟨rfl, hE⟩
  have HE := Lib.hid hE
  clear hE
  refine hK _ _ ?_
  clear hK K
  refine wpAny_done (by kernel_rfl) ?_ _
  go_end0
  exact ⟨rfl, HE.out⟩
theorem layNil11_any (bi : Nat) (o : Option Addr) (k r : Nat) (w : World) :
    Calls Tryz.prog 85 #[.pointer (some ⟨bi, 0, none⟩), .slice o 0 k, .int .i64 r] w fun e w' => e = .returned (.tuple #[]) ∧ w' = w := by
  go_enter Tryz.func85, Tryz.ntmps85
  go_wp2_with fail
  go_end0
  exact ⟨rfl, rfl⟩

end Go.Proofs.YtnhljlmelbiljaaGreat

/- Layer 11: what an Iter holds, and its Next, by contracts. -/
namespace Go.Proofs.YtnhljlmelbiljaaGreat
set_option linter.unusedVariables false
open Go Go.RowKit
attribute [local go_sem ↓] run_index_S
attribute [local go_sem] S_append S_extract

/-- The cells behind a head lie in a block of cells, below N. -/
def BehN (B N : Nat) (w : World) (x : M.Hd) : Prop := x.b ≠ [] → ∃ q off, x.o = some ⟨q, off, none⟩ ∧ B ≤ q ∧ q < N ∧ (∃ C fz, w.heap[q]? = some (.cells C 38 fz)) ∧ (∀ j, j < x.b.length → ClOff (x.b.getD j M.cl0) w q (off + j * 3)) ∧ x.b.length ≤ x.k
/-- What an Iter holds: the heads, of rows R that come to L. -/
structure Ic (B N bi : Nat) (ao : Option Addr) (n cap : Nat) (H : List M.Hd) (R : List (List M.Cl)) (L : List M.Cl) (w : World) : Prop where
  hq : Hq B bi ao n cap H w
  hp : M.Hp H n
  hof : M.Hof R H
  mrg : M.Mrg R L
  rl : R.length ≤ 100000
  beh : ∀ x, x ∈ H → BehN B N w x
  bb : B ≤ bi
  nl : N ≤ w.heap.size
def It11 (B N bi : Nat) (L : List M.Cl) (w : World) : Prop := ∃ ao n cap H R, Ic B N bi ao n cap H R L w
theorem clOff_blk {x : M.Cl} {w w' : World} {g o : Nat} (h : ClOff x w g o) (hb : w'.heap[g]? = w.heap[g]?) : ClOff x w' g o := by
  have k := fun {o : Nat} {v : Value} (h : w.cell? ⟨g, o, none⟩ = some v) => (World.cell?_of_block (a := ⟨g, o, none⟩) hb).trans h
  obtain ⟨h0, h1, h2⟩ := h
  exact ⟨k h0, k h1, k h2⟩
theorem BehN.keep {B N : Nat} {w w' : World} {x : M.Hd} (h : BehN B N w x) (k : ∀ b, b < N → (∃ C fz, w.heap[b]? = some (.cells C 38 fz)) → w'.heap[b]? = w.heap[b]?) : BehN B N w' x := fun hx => by
  obtain ⟨q, off, e, hB, hN, hC, hcl, hl⟩ := h hx
  have hk := k q hN hC
  refine ⟨q, off, e, hB, hN, ?_, fun j hj => clOff_blk (hcl j hj) hk, hl⟩
  rw [hk]; exact hC
theorem Ic.keep {B N bi : Nat} {ao : Option Addr} {n cap : Nat} {H : List M.Hd} {R : List (List M.Cl)} {L : List M.Cl} {w w' : World} (h : Ic B N bi ao n cap H R L w) (hs : w.heap.size ≤ w'.heap.size)
    (k : ∀ b, b = bi ∨ (Value.slice ao n cap).ownBlock = some b ∨ (b < N ∧ ∃ C fz, w.heap[b]? = some (.cells C 38 fz)) → w'.heap[b]? = w.heap[b]?) : Ic B N bi ao n cap H R L w' := by
  refine ⟨⟨(k bi (.inl rfl)).trans h.hq.row, ?_, h.hq.len, Nat.le_trans h.hq.base hs⟩, h.hp, h.hof, h.mrg, h.rl, fun x hx => (h.beh x hx).keep (fun b hb hc => k b (.inr (.inr ⟨hb, hc⟩))), h.bb, Nat.le_trans h.nl hs⟩
  have ho := h.hq.own
  refine ⟨ho.1, ?_⟩
  rcases ho.2 with h0 | ⟨g, cap', cur, hv, hB, hg, r⟩
  · exact .inl h0
  · exact .inr ⟨g, cap', cur, hv, hB, by rw [k g (.inr (.inl (by rw [hv]; rfl)))]; exact hg, r⟩
theorem Ic.below {B N bi : Nat} {ao : Option Addr} {n cap : Nat} {H : List M.Hd} {R : List (List M.Cl)} {L : List M.Cl} {w w' : World} (h : Ic B N bi ao n cap H R L w) (hb : Below w.heap.size w w') : Ic B N bi ao n cap H R L w' :=
  h.keep hb.size fun b hk => hb.block b (by
    rcases hk with e | e | ⟨hn, C, fz, e⟩
    · subst e; exact h.hq.row.lt
    · exact (h.hq.own.lt b e).2
    · exact (Array.getElem?_eq_some_iff.1 e).1)
theorem Ic.more {B N N' bi : Nat} {ao : Option Addr} {n cap : Nat} {H : List M.Hd} {R : List (List M.Cl)} {L : List M.Cl} {w : World} (h : Ic B N bi ao n cap H R L w) (hN : N ≤ N') (hw : N' ≤ w.heap.size) : Ic B N' bi ao n cap H R L w :=
  ⟨h.hq, h.hp, h.hof, h.mrg, h.rl, fun x hx hb => by
    obtain ⟨q, off, e, hB, hn, r⟩ := h.beh x hx hb
    exact ⟨q, off, e, hB, by omega, r⟩, h.bb, hw⟩
theorem It11.below {B N bi : Nat} {L : List M.Cl} {w w' : World} (h : It11 B N bi L w) (hb : Below w.heap.size w w') : It11 B N bi L w' := by
  obtain ⟨ao, n, cap, H, R, h⟩ := h
  exact ⟨ao, n, cap, H, R, h.below hb⟩
/-- The next head taken: its row is done. -/
theorem Ic.popNil {B N bi : Nat} {g m cap : Nat} {H K : List M.Hd} {R : List (List M.Cl)} {L : List M.Cl} {w w' : World} (h : Ic B N bi (some ⟨g, 0, none⟩) (m + 1) cap H R L w) (hK : (M.hAt H 0 :: K).Perm H) (hp : M.Hp K m) (hq : Hq B bi (some ⟨g, 0, none⟩) m cap K w')
    (hk : ∀ b, b < N → (∃ C fz, w.heap[b]? = some (.cells C 38 fz)) → w'.heap[b]? = w.heap[b]?) (hs : w.heap.size ≤ w'.heap.size) (hb : (M.hAt H 0).b = []) :
    ∃ L', L = (M.hAt H 0).c :: L' ∧ Ic B N bi (some ⟨g, 0, none⟩) m cap K (R.set (M.hAt H 0).r (M.hAt H 0).b) L' w' := by
  have hm : M.hAt H 0 ∈ H := M.hAt_mem (by rw [h.hq.len]; omega)
  obtain ⟨L', e, hM⟩ := h.hof.some hm (fun y hy => by
    obtain ⟨i, hi, rfl⟩ := M.mem_hAt hy
    exact h.hp.least i (by rw [← h.hq.len]; exact hi)) h.mrg
  exact ⟨L', e, hq, hp, (h.hof.perm hK).taken hb, hM, by simpa using h.rl, fun x hx => (h.beh x (hK.mem_iff.1 (by simp [hx]))).keep hk, h.bb, Nat.le_trans h.nl hs⟩
/-- The next head taken: the next cell of its row was laid in. -/
theorem Ic.popCons {B N bi : Nat} {g m cap cap' : Nat} {ao' : Option Addr} {H K K' : List M.Hd} {R : List (List M.Cl)} {L : List M.Cl} {w w' : World} {c : M.Cl} {t : List M.Cl} {q off k : Nat} (h : Ic B N bi (some ⟨g, 0, none⟩) (m + 1) cap H R L w) (hK : (M.hAt H 0 :: K).Perm H) (hK' : K'.Perm (K ++ [M.hdOf c t q off k (M.hAt H 0).r])) (hp : M.Hp K' (m + 1)) (hq : Hq B bi ao' (m + 1) cap' K' w')
    (hk : ∀ b, b < N → (∃ C fz, w.heap[b]? = some (.cells C 38 fz)) → w'.heap[b]? = w.heap[b]?) (hs : w.heap.size ≤ w'.heap.size) (hb : (M.hAt H 0).b = c :: t) (ho : (M.hAt H 0).o = some ⟨q, off, none⟩) (hkk : (M.hAt H 0).k = k) :
    ∃ L', L = (M.hAt H 0).c :: L' ∧ Ic B N bi ao' (m + 1) cap' K' (R.set (M.hAt H 0).r (M.hAt H 0).b) L' w' := by
  have hm : M.hAt H 0 ∈ H := M.hAt_mem (by rw [h.hq.len]; omega)
  obtain ⟨L', e, hM⟩ := h.hof.some hm (fun y hy => by
    obtain ⟨i, hi, rfl⟩ := M.mem_hAt hy
    exact h.hp.least i (by rw [← h.hq.len]; exact hi)) h.mrg
  refine ⟨L', e, hq, hp, ((h.hof.perm hK).next hb _ _).perm hK', hM, by simpa using h.rl, fun x hx => ?_, h.bb, Nat.le_trans h.nl hs⟩
  rcases List.mem_append.1 (hK'.mem_iff.1 hx) with hx | hx
  · exact (h.beh x (hK.mem_iff.1 (by simp [hx]))).keep hk
  · have ex : x = M.hdOf c t q off k (M.hAt H 0).r := by simpa using hx
    subst ex
    intro hne
    obtain ⟨q', off', e1, hB, hN, hC, hcl, hl⟩ := (h.beh _ hm).keep hk (by rw [hb]; simp)
    rw [ho] at e1
    injection e1 with e1
    injection e1 with e1 e2
    subst e1; subst e2
    rw [hb] at hcl hl
    have hl2 : t.length + 1 ≤ k := by rw [hkk] at hl; simpa using hl
    have ht : t.length ≠ 0 := fun e => hne (List.eq_nil_of_length_eq_zero e)
    refine ⟨q, off + 3, by simp only [M.hdOf]; rw [if_neg (by omega)], hB, hN, hC, fun j hj => ?_, by simp only [M.hdOf]; omega⟩
    have := hcl (j + 1) (by simpa [M.hdOf] using hj)
    rw [show off + (j + 1) * 3 = off + 3 + j * 3 from by omega] at this
    simpa [M.hdOf, List.getD] using this
/-- A struct stored whole: all other blocks stay. -/
theorem wpList_store_two {ops : Array Oper} {rest : List Oper} {o : Oper} {a : Act} {w : World} {Q : Exit → Act → World → Prop} (hgd : o.guard = none) (ty : TypeId) (x y : Operand) (ho : o.op = .store ty x y)
    (g : Nat) (cells : Array Value) (hx : a.eval x = .pointer (some ⟨g, 0, none⟩)) (hy : a.eval y = .agg cells)
    (t : TypeId) (old : Array Value) (hg : RowIn old t w g) (hi : (Tryz.prog.info? ty).map (·.size) = some cells.size)
    (hold : old.size = cells.size) (h1 : cells.all (·.oneCell') = true)
    (h : ∀ w', RowIn cells t w' g → Two g none w w' → w'.heap.size = w.heap.size → (∀ k, k ≠ g → w'.heap[k]? = w.heap[k]?) → wpList Tryz.prog ops Q rest (a.put o.dst undef) w') :
    wpList Tryz.prog ops Q (o :: rest) a w := by
  have hb : ∀ k, k ≠ g → (w.setRow g cells).heap[k]? = w.heap[k]? := fun k hk => by
    unfold World.setRow
    simp only [Array.getElem?_modify]
    rw [if_neg (fun e => hk e.symm)]
  exact wpList_store_row hgd ty x y ho g cells hx hy t old hg hi hold h1 (h _ (RowIn.rowP hg) ⟨rfl, rfl, rfl, by simp [World.setRow], fun k _ hk _ => hb k hk⟩ (by simp [World.setRow]) hb)

end Go.Proofs.YtnhljlmelbiljaaGreat

/- Layer 11: Iter.Next, by contracts. -/
namespace Go.Proofs.YtnhljlmelbiljaaGreat
set_option linter.unusedVariables false
open Go Go.RowKit
attribute [local go_sem ↓] run_index_S
attribute [local go_sem] S_append S_extract

/-- No row of heads, no Iter. -/
def NotHeads (o : Obj) : Prop := ∀ C fz, o ≠ .cells C 181 fz ∧ o ≠ .cells C 150 fz
theorem notHeads_cl (C : Array Value) (fz : Nat × Nat) : NotHeads (.cells C 38 fz) := fun C' fz' => ⟨fun e => by injection e with _ h _; revert h; decide, fun e => by injection e with _ h _; revert h; decide⟩
/-- Whatever is no row of heads, nor an Iter, stays. -/
structure NextKeeps (w w' : World) : Prop where
  os : w'.os = w.os
  tape : w'.tape = w.tape
  output : w'.output = w.output
  size : w.heap.size ≤ w'.heap.size
  same : ∀ (b : Nat) (o : Obj), w.heap[b]? = some o → NotHeads o → w'.heap[b]? = some o
theorem NextKeeps.below {w w' : World} (h : Below w.heap.size w w') : NextKeeps w w' := ⟨h.os, h.tape, h.output, h.size, fun b o hb _ => (h.block b (Array.getElem?_eq_some_iff.1 hb).1).trans hb⟩
theorem NextKeeps.trans {a b c : World} (h : NextKeeps a b) (k : NextKeeps b c) : NextKeeps a c := ⟨k.os.trans h.os, k.tape.trans h.tape, k.output.trans h.output, Nat.le_trans h.size k.size, fun q o hq hn => k.same q o (h.same q o hq hn) hn⟩
theorem Hq.keeps {B bi : Nat} {ao : Option Addr} {n cap : Nat} {H : List M.Hd} {w w' : World} (h : Hq B bi ao n cap H w) (ht : Two bi (Value.slice ao n cap).ownBlock w w') : NextKeeps w w' := by
  refine ⟨ht.os, ht.tape, ht.output, ht.size, fun b o hb hn => (ht.block b (Array.getElem?_eq_some_iff.1 hb).1 (fun e => ?_) (fun e => ?_)).trans hb⟩
  · subst e
    have := h.row
    unfold RowIn at this
    rw [hb] at this
    injection this with this
    exact (hn _ _).2 this
  · rcases h.own.2 with ⟨h0, _⟩ | ⟨g, cap', cur, hv, hB, hg, r⟩
    · rw [h0] at e; cases e
    · rw [hv] at e
      injection e with e
      subst e
      rw [hb] at hg
      injection hg with hg
      exact (hn _ _).1 hg
theorem Hq.cellKeep {B bi : Nat} {ao : Option Addr} {n cap : Nat} {H : List M.Hd} {w w' : World} (h : Hq B bi ao n cap H w) (ht : Two bi (Value.slice ao n cap).ownBlock w w') (b : Nat) (hC : ∃ C fz, w.heap[b]? = some (.cells C 38 fz)) : w'.heap[b]? = w.heap[b]? := by
  obtain ⟨C, fz, hC⟩ := hC
  rw [(h.keeps ht).same b _ hC (notHeads_cl _ _), hC]
theorem Hq.rowKeep {B bi : Nat} {ao : Option Addr} {n cap : Nat} {H : List M.Hd} {C : Array Value} {T : TypeId} {w w' : World} {b : Nat} (h : Hq B bi ao n cap H w) (ht : Two bi (Value.slice ao n cap).ownBlock w w') (hr : RowIn C T w b) (h1 : b ≠ bi) (h2 : (Value.slice ao n cap).ownBlock ≠ some b) : RowIn C T w' b :=
  (ht.block b hr.lt h1 (fun e => h2 e.symm)).trans hr
theorem Hq.lt {B bi : Nat} {ao : Option Addr} {n cap : Nat} {H : List M.Hd} {w : World} (h : Hq B bi ao n cap H w) {b : Nat} (e : (Value.slice ao n cap).ownBlock = some b) : B ≤ b ∧ b < w.heap.size := h.own.lt b e
/-- Ahead of what Next answers. -/
structure Nx (B N bi r hb : Nat) (c : M.Cl) (L0 : List M.Cl) (w w4 : World) : Prop where
  b : Below B w w4
  rr : RowIn (clA M.cl0) 38 w4 r
  h0 : w4.cell? ⟨hb, 0, none⟩ = some (.string (S c.key))
  h1 : w4.cell? ⟨hb, 1, none⟩ = some (.int .i64 c.seq)
  h2 : w4.cell? ⟨hb, 2, none⟩ = some (.string (S c.val))
  ic : ∃ ao n cap K R', Ic B N bi ao n cap K R' L0 w4
  br : B ≤ r
  nr : N ≤ r
  wr : w.heap.size ≤ r
  nk : NextKeeps w w4
theorem Nx.fin {B N bi r hb : Nat} {c : M.Cl} {L0 : List M.Cl} {w w4 wE : World} (h : Nx B N bi r hb c L0 w w4) (ht : Two r none w4 wE) (hk : ∀ k, k ≠ r → wE.heap[k]? = w4.heap[k]?) : It11 B N bi L0 wE ∧ Below B w wE ∧ NextKeeps w wE := by
  obtain ⟨ao, n, cap, K, R', hi⟩ := h.ic
  have h1 : bi ≠ r := rowIn_ne hi.hq.row h.rr (by decide)
  have h2 := row_apart h.rr hi.hq.own (by decide)
  refine ⟨⟨ao, n, cap, K, R', hi.keep ht.size (fun b hb => hk b ?_)⟩, h.b.trans (ht.toBelow h.br (by simp) (Nat.le_trans hi.hq.base (Nat.le_refl _))), ⟨ht.os.trans h.nk.os, ht.tape.trans h.nk.tape, ht.output.trans h.nk.output, Nat.le_trans h.nk.size ht.size, fun b o hb hn => (hk b (fun e => by have := (Array.getElem?_eq_some_iff.1 hb).1; have := h.wr; omega)).trans (h.nk.same b o hb hn)⟩⟩
  rcases hb with e | e | ⟨e, _⟩
  · rw [e]; exact h1
  · exact h2 b e
  · have := h.nr; omega
def NextR (B N bi : Nat) (L : List M.Cl) (w : World) (e : Ending) (w' : World) : Prop := e = .returned (.tuple #[.agg (clA (L.headD M.cl0)), .bool (!L.isEmpty)]) ∧ It11 B N bi L.tail w' ∧ Below B w w' ∧ NextKeeps w w'
set_option maxHeartbeats 4000000 in
set_option maxRecDepth 100000 in
theorem nextNil11_any (B N bi : Nat) (w : World) (h : It11 B N bi [] w) : Calls Tryz.prog 88 #[.pointer (some ⟨bi, 0, none⟩)] w (NextR B N bi [] w) := by
  have HI := Lib.hid h
  obtain ⟨ao, n, cap, H, R, hc⟩ := h
  have hn : n = 0 := by
    rcases Nat.eq_zero_or_pos n with q | q
    · exact q
    · obtain ⟨L', e, _⟩ := hc.hof.some (x := M.hAt H 0) (M.hAt_mem (by rw [hc.hq.len]; omega)) (fun y hy => by
        obtain ⟨i, hi, rfl⟩ := M.mem_hAt hy
        exact hc.hp.least i (by rw [← hc.hq.len]; exact hi)) hc.mrg
      cases e
  subst hn
  have HB := Lib.hid hc.hq.base
  have h0a : ∀ o, (w.alloc o).cell? ⟨bi, 0, none⟩ = some (.slice ao 0 cap) := fun o => (hc.hq.row.more o).cell 0
  clear hc
  go_enter Tryz.func88, Tryz.ntmps88
  go_wp2_with fail
  try simp only [Exit.inBlock, Exit.then]
  have HX := Lib.hid (rowIn_new (clA M.cl0) 38 w)
  exact bodyPost_ret (ret_rowP2 rfl _ _ w.heap.size rfl (load_struct Tryz.underlying38 (by kernel_rfl) HX.out)) rfl ⟨rfl, HI.out.below ((Below.refl _ _).alloc (Nat.le_refl _) _), (Below.refl _ _).alloc HB.out _, .below ((Below.refl _ _).alloc (Nat.le_refl _) _)⟩
set_option maxHeartbeats 4000000 in
set_option maxRecDepth 100000 in
theorem nextCons11_any (B N bi : Nat) (c0 : M.Cl) (L0 : List M.Cl) (w : World) (h : It11 B N bi (c0 :: L0) w) : Calls Tryz.prog 88 #[.pointer (some ⟨bi, 0, none⟩)] w (NextR B N bi (c0 :: L0) w) := by
  have HI := Lib.hid h
  obtain ⟨ao, n, cap, H, R, hc⟩ := h
  have hn : n ≠ 0 := fun e => by
    subst e
    have : H = [] := List.eq_nil_of_length_eq_zero hc.hq.len
    subst this
    have := hc.hof.none hc.mrg
    cases this
  obtain ⟨m, rfl⟩ : ∃ m, n = m + 1 := ⟨n - 1, by omega⟩
  have hm : m + 1 ≤ 1000000 := by
    have h1 := hc.hof.len
    have h2 := hc.rl
    have h3 := hc.hq.len
    omega
  obtain ⟨g, rfl, -⟩ := hc.hq.hv (by omega)
  have HIC := Lib.hid hc
  have h0a : ∀ o, (w.alloc o).cell? ⟨bi, 0, none⟩ = some (.slice (some ⟨g, 0, none⟩) (m + 1) cap) := fun o => (hc.hq.row.more o).cell 0
  have hz : (((m + 1 : Nat) : Int) == 0) = false := by simp; omega
  have hz2 : (((m : Int) + 1) == 0) = false := by simp; omega
  have hz3 : decide ((m : Int) + 1 = 0) = false := by simp; omega
  have hq1 : Hq B bi (some ⟨g, 0, none⟩) (m + 1) cap H (w.alloc (.cells (clA M.cl0) 38)) := hc.hq.below ((Below.refl _ _).alloc (Nat.le_refl _) _)
  have HC := Lib.hid (hpop11_any B bi g m cap H _ hq1 hm hc.hp)
  have HQ1 := Lib.hid hq1
  have HR1 := Lib.hid (rowIn_new (clA M.cl0) 38 w)
  have hta := ta11
  clear hc hq1
  go_enter Tryz.func88, Tryz.ntmps88
  go_wp2_with fail
  refine (HC.out).mono ?_
  rintro e w2 ⟨rfl, K, hpm, hpp, hq2, ht2⟩
  have HQ2 := Lib.hid hq2
  have HB2 := Lib.hid (show Below B w w2 from ((Below.refl B w).alloc HIC.out.hq.base (.cells (clA M.cl0) 38)).trans (ht2.toBelow HIC.out.bb (fun q e => by injection e with e; subst e; exact (HIC.out.hq.lt rfl).1) (Nat.le_trans HIC.out.hq.base (by simp))))
  have HK2 := Lib.hid (show ∀ b, b < w.heap.size → (∃ C fz, w.heap[b]? = some (.cells C 38 fz)) → w2.heap[b]? = w.heap[b]? from fun b hb hC => by
    have e1 : (w.alloc (.cells (clA M.cl0) 38)).heap[b]? = w.heap[b]? := Below.heap_alloc _ _ _ hb
    exact (HQ1.out.cellKeep ht2 b (by rw [e1]; exact hC)).trans e1)
  have HR2 := Lib.hid (show RowIn (clA M.cl0) 38 w2 w.heap.size from HQ1.out.rowKeep ht2 HR1.out (fun e => by have := HIC.out.hq.row.lt; omega) (fun e => by have := (HIC.out.hq.lt e).2; omega))
  have HS2 := Lib.hid (show w.heap.size ≤ w2.heap.size from HB2.out.size)
  have HNK := Lib.hid (show NextKeeps w w2 from (NextKeeps.below ((Below.refl _ _).alloc (Nat.le_refl _) (.cells (clA M.cl0) 38))).trans (HQ1.out.keeps ht2))
  have HPM := Lib.hid hpm
  have HPP := Lib.hid hpp
  clear hpm hpp hq2 ht2 HC HR1
  obtain ⟨x, hx⟩ : ∃ x, x = M.hAt H 0 := ⟨_, rfl⟩
  rw [← hx]
  obtain ⟨c, b, o, k, r⟩ := x
  have HX := Lib.hid hx
  clear hx
  simp only [hdA]
  cases b with
  | nil =>
    have HC := Lib.hid (layNil11_any bi o k r (w2.alloc (.cells (hdA ⟨c, [], o, k, r⟩) 181)))
    have HRO := rowIn_new (hdA ⟨c, [], o, k, r⟩) 181 w2
    have HN := Lib.hid (show c = c0 ∧ Nx B N bi w.heap.size w2.heap.size c L0 w (w2.alloc (.cells (hdA ⟨c, [], o, k, r⟩) 181)) from by
      obtain ⟨L', e, hic⟩ := HIC.out.popNil HPM.out HPP.out (HQ2.out.below ((Below.refl _ _).alloc (Nat.le_refl _) (.cells (hdA ⟨c, [], o, k, r⟩) 181))) (fun b hb hC => (Below.heap_alloc _ _ _ (Nat.lt_of_lt_of_le (Nat.lt_of_lt_of_le hb HIC.out.nl) HS2.out)).trans (HK2.out b (Nat.lt_of_lt_of_le hb HIC.out.nl) hC)) (Nat.le_trans HS2.out (by simp)) (by rw [← HX.out])
      rw [← HX.out] at e
      injection e with e1 e2
      subst e2
      exact ⟨e1.symm, HB2.out.alloc HQ2.out.base _, HR2.out.more _, HRO.cell 0, HRO.cell 1, HRO.cell 2, ⟨_, _, _, _, _, hic⟩, HIC.out.hq.base, HIC.out.nl, Nat.le_refl _, HNK.out.trans (.below ((Below.refl _ _).alloc (Nat.le_refl _) _))⟩)
    clear HRO
    go_wp2_with fail
    refine (HC.out).mono ?_
    rintro e w4 ⟨rfl, hw4⟩
    rw [← hw4] at HN
    obtain ⟨ec, hn4⟩ := HN.out
    subst ec
    have HN4 := Lib.hid hn4
    have y0 := hn4.h0
    have y1 := hn4.h1
    have y2 := hn4.h2
    have HR4 := Lib.hid hn4.rr
    clear hn4 hw4 HN HC HK2 HB2 HR2
    go_wp2_with ((refine wpList_store_two rfl 38 _ _ rfl w.heap.size (clA c) rfl rfl 38 (clA M.cl0) HR4.out (by kernel_rfl) rfl (clA_one _) ?_; intro wE hrE h2E hsE hkE; have HRE := Lib.hid hrE; have HFE := Lib.hid (HN4.out.fin h2E hkE); clear hrE h2E hsE hkE))
    try simp only [Exit.inBlock, Exit.then]
    exact bodyPost_ret (ret_rowP2 rfl _ _ w.heap.size rfl (load_struct Tryz.underlying38 (by kernel_rfl) HRE.out)) rfl ⟨rfl, HFE.out⟩
  | cons c2 t2 =>
    obtain ⟨q, off, eo, hBq, hNq, hCq, hclq, hlq⟩ := (HIC.out.beh (M.hAt H 0) (M.hAt_mem (by rw [HIC.out.hq.len]; omega))) (by rw [← HX.out]; simp)
    rw [← HX.out] at eo hclq hlq
    simp only at eo hclq hlq
    subst eo
    have HQ3 := Lib.hid (HQ2.out.below ((Below.refl _ _).alloc (Nat.le_refl _) (.cells (hdA ⟨c, c2 :: t2, some ⟨q, off, none⟩, k, r⟩) 181)))
    have hc3 : ClOff c2 (w2.alloc (.cells (hdA ⟨c, c2 :: t2, some ⟨q, off, none⟩, k, r⟩) 181)) q off := by
      have := hclq 0 (by simp)
      rw [show off + 0 * 3 = off from by omega] at this
      exact clOff_blk this ((Below.heap_alloc _ _ _ (Nat.lt_of_lt_of_le (Nat.lt_of_lt_of_le hNq HIC.out.nl) HS2.out)).trans (HK2.out q (Nat.lt_of_lt_of_le hNq HIC.out.nl) hCq))
    have hlk : t2.length + 1 ≤ k := by simpa using hlq
    have HC := Lib.hid (lay11_any B bi (some ⟨g, 0, none⟩) m cap K c2 t2 q off k r _ HQ3.out (by omega) HPP.out hc3 hlk)
    have HRO := Lib.hid (rowIn_new (hdA ⟨c, c2 :: t2, some ⟨q, off, none⟩, k, r⟩) 181 w2)
    have HB3 := Lib.hid (HB2.out.alloc HQ2.out.base (.cells (hdA ⟨c, c2 :: t2, some ⟨q, off, none⟩, k, r⟩) 181))
    have HR3 := Lib.hid (HR2.out.more (.cells (hdA ⟨c, c2 :: t2, some ⟨q, off, none⟩, k, r⟩) 181))
    have HK3 := Lib.hid (show ∀ b, b < w.heap.size → (∃ C fz, w.heap[b]? = some (.cells C 38 fz)) → (w2.alloc (.cells (hdA ⟨c, c2 :: t2, some ⟨q, off, none⟩, k, r⟩) 181)).heap[b]? = w.heap[b]? from fun b hb hC => (Below.heap_alloc _ _ _ (Nat.lt_of_lt_of_le hb HS2.out)).trans (HK2.out b hb hC))
    have HS3 := Lib.hid (show w.heap.size ≤ (w2.alloc (.cells (hdA ⟨c, c2 :: t2, some ⟨q, off, none⟩, k, r⟩) 181)).heap.size from Nat.le_trans HS2.out (by simp))
    clear hBq hCq hclq hlq hc3 HB2 HR2 HK2
    go_wp2_with fail
    refine (HC.out).mono ?_
    rintro e w4 ⟨rfl, ao', cap', K', hpm', hpp', hq4, ht4, hw4⟩
    have HN := Lib.hid (show c = c0 ∧ Nx B N bi w.heap.size w2.heap.size c L0 w w4 from by
      have hHR := HQ3.out.rowKeep ht4 HRO.out (fun e => by have := HQ2.out.row.lt; omega) (fun e => by have := (HQ2.out.lt e).2; omega)
      have hRR := HQ3.out.rowKeep ht4 HR3.out (rowIn_ne HR3.out HQ3.out.row (by decide)) (fun e => row_apart HR3.out HQ3.out.own (by decide) _ e rfl)
      have hk4 : ∀ b, b < w.heap.size → (∃ C fz, w.heap[b]? = some (.cells C 38 fz)) → w4.heap[b]? = w.heap[b]? := fun b hb hC => (HQ3.out.cellKeep ht4 b (by rw [HK3.out b hb hC]; exact hC)).trans (HK3.out b hb hC)
      have hX := HX.out
      obtain ⟨L', e, hic⟩ := HIC.out.popCons (c := c2) (t := t2) (q := q) (off := off) (k := k) HPM.out (by rw [← hX]; exact hpm') hpp' hq4 (fun b hb hC => hk4 b (Nat.lt_of_lt_of_le hb HIC.out.nl) hC) (Nat.le_trans HS3.out ht4.size) (by rw [← hX]) (by rw [← hX]) (by rw [← hX])
      rw [← hX] at e
      injection e with e1 e2
      subst e2
      exact ⟨e1.symm, HB3.out.trans (ht4.toBelow HIC.out.bb (fun q e => (HQ3.out.lt e).1) HQ3.out.base), hRR, hHR.cell 0, hHR.cell 1, hHR.cell 2, ⟨_, _, _, _, _, hic⟩, HIC.out.hq.base, HIC.out.nl, Nat.le_refl _, (HNK.out.trans (.below ((Below.refl _ _).alloc (Nat.le_refl _) _))).trans (HQ3.out.keeps ht4)⟩)
    clear hpm' hpp' hq4 ht4 hw4 HK3 HRO HR3 HB3 HC
    obtain ⟨ec, hn4⟩ := HN.out
    subst ec
    have HN4 := Lib.hid hn4
    have y0 := hn4.h0
    have y1 := hn4.h1
    have y2 := hn4.h2
    have HR4 := Lib.hid hn4.rr
    clear hn4 HN
    go_wp2_with ((refine wpList_store_two rfl 38 _ _ rfl w.heap.size (clA c) rfl rfl 38 (clA M.cl0) HR4.out (by kernel_rfl) rfl (clA_one _) ?_; intro wE hrE h2E hsE hkE; have HRE := Lib.hid hrE; have HFE := Lib.hid (HN4.out.fin h2E hkE); clear hrE h2E hsE hkE))
    try simp only [Exit.inBlock, Exit.then]
    exact bodyPost_ret (ret_rowP2 rfl _ _ w.heap.size rfl (load_struct Tryz.underlying38 (by kernel_rfl) HRE.out)) rfl ⟨rfl, HFE.out⟩

end Go.Proofs.YtnhljlmelbiljaaGreat

/- Layer 11: rows that come in; their clones; New, by contracts. -/
namespace Go.Proofs.YtnhljlmelbiljaaGreat
set_option linter.unusedVariables false
open Go Go.RowKit
attribute [local go_sem ↓] run_index_S
attribute [local go_sem] S_append S_extract

/-- A row that comes in: its cells, where they lie, its capacity. -/
structure M.Rw where
  l : List M.Cl
  o : Option Addr
  k : Nat
def M.rw0 : M.Rw := ⟨[], none, 0⟩
def RwAt (w : World) (g o : Nat) (r : M.Rw) : Prop := w.cell? ⟨g, o, none⟩ = some (.slice r.o r.l.length r.k) ∧ ClsAt w r.o r.l
def RwsAt (w : World) (ao : Option Addr) (Rs : List M.Rw) : Prop := Rs ≠ [] → ∃ g off, ao = some ⟨g, off, none⟩ ∧ ∀ j, j < Rs.length → RwAt w g (off + j) (Rs.getD j M.rw0)
theorem RwAt.below {w w' : World} {g o : Nat} {r : M.Rw} (h : RwAt w g o r) (hb : Below w.heap.size w w') : RwAt w' g o r :=
  ⟨(hb.cell (p := ⟨g, o, none⟩) (block_lt_of_cell h.1)).trans h.1, h.2.below hb⟩
theorem RwsAt.below {w w' : World} {ao : Option Addr} {Rs : List M.Rw} (h : RwsAt w ao Rs) (hb : Below w.heap.size w w') : RwsAt w' ao Rs := fun hn => by
  obtain ⟨g, off, e, hc⟩ := h hn
  exact ⟨g, off, e, fun j hj => (hc j hj).below hb⟩
theorem RwsAt.off {w : World} {ao : Option Addr} {Rs : List M.Rw} (h : RwsAt w ao Rs) (j : Nat) (hj : j < Rs.length) : ∃ g off, ao = some ⟨g, off, none⟩ ∧ RwAt w g (off + j) (Rs.getD j M.rw0) := by
  obtain ⟨g, off, e, hc⟩ := h (fun h => by rw [h] at hj; simp at hj)
  exact ⟨g, off, e, hc j hj⟩
theorem M.getD_memR {Rs : List M.Rw} {j : Nat} (h : j < Rs.length) : Rs.getD j M.rw0 ∈ Rs := by
  have e : Rs.getD j M.rw0 = Rs[j] := by simp [List.getD, h]
  rw [e]; exact List.getElem_mem h
theorem M.takeR_snoc {Rs : List M.Rw} {j : Nat} (h : j < Rs.length) : Rs.take (j + 1) = Rs.take j ++ [Rs.getD j M.rw0] := by
  have e : Rs.getD j M.rw0 = Rs[j] := by simp [List.getD, h]
  rw [e, List.take_append_getElem]
def M.mayR (Rs : List M.Rw) : Bool := Rs.all (fun r => M.srt none r.l)
structure RsOk (Rs : List M.Rw) : Prop where
  n : Rs.length ≤ 1000
  len : ∀ r, r ∈ Rs → r.l.length ≤ 100000
  ok : ∀ r, r ∈ Rs → ∀ c, c ∈ r.l → ClOk c
  tot : ((Rs.map (fun r => r.l)).map List.length).sum ≤ 900000

def CloneR (L : List M.Cl) (w : World) (e : Ending) (w' : World) : Prop := ∃ ao c, e = .returned (.slice ao L.length c) ∧ w'.ownsRow w.heap.size 38 3 (.slice ao L.length c) L.length (cls L) ∧ Below w.heap.size w w'
set_option maxHeartbeats 4000000 in
set_option maxRecDepth 100000 in
theorem clone11_any (L : List M.Cl) (hl : L.length ≤ 100000) (ao : Option Addr) (cap : Nat) (w : World) (hC : ClsAt w ao L) :
    Calls Tryz.prog 86 #[.slice ao L.length cap] w (CloneR L w) := by
  have qT : ∀ (w : World) (a : Option Addr) (n c n' c' : Nat), (binOp .eql 22 (.slice a n c) (.slice none n' c')).run Tryz.prog w = .ok (.bool a.isNone) w := fun w a n c n' c' => Lib.run_eql_slice_nil w _ _ a n c n' c' Tryz.underlying22
  cases ao with
  | none =>
    have hL : L = [] := by
      cases L with
      | nil => rfl
      | cons x r => obtain ⟨g, off, e, _⟩ := hC (by simp); cases e
    subst hL
    go_enter Tryz.func86, Tryz.ntmps86
    go_wp2_with fail
    go_ret
    exact ⟨none, 0, rfl, World.ownsRow_nil _ _ _ _, Below.refl _ _⟩
  | some ad =>
    obtain ⟨i0, z0, hi0, hz0, h01, h02, h03⟩ := infoCl_parts
    have HO := Lib.hid (World.ownsRow_made (base := w.heap.size) (e := 38) (size := 3) w #[] 0 (Nat.le_refl _) (Nat.zero_le _) rfl)
    have HC := Lib.hid (hC.below ((Below.refl _ _).alloc (Nat.le_refl _) (.cells #[] 38)))
    have HB := Lib.hid ((Below.refl w.heap.size w).alloc (Nat.le_refl _) (.cells #[] 38))
    have hl2 : 0 + L.length ≤ 1000000 := by omega
    clear hC
    go_enter Tryz.func86, Tryz.ntmps86
    go_wp2_with ((refine wpList_append_cls_at rfl _ _ 22 rfl w.heap.size i0 z0 (by kernel_rfl) hi0 hz0 h01 h02 h03 _ 0 [] rfl HO.out (some ad) cap L rfl HC.out hl2 HB.out.size ?_; intro v' wN hown hg h7; obtain ⟨ao', cap', rfl⟩ := ownP_shape hown; rw [Nat.zero_add, List.nil_append] at hown; have HN := Lib.hid (And.intro hown (And.intro hg h7)); clear hown hg h7))
    go_ret
    exact ⟨ao', cap', rfl, HN.out.1, HB.out.grown HN.out.2.1 HB.out.size (fun q e => by cases e; exact Nat.le_refl _)⟩

def M.rls (Rs : List M.Rw) : List (List M.Cl) := Rs.map (fun r => r.l)
theorem M.rls_snoc {Rs : List M.Rw} {j : Nat} (h : j < Rs.length) : M.rls (Rs.take (j + 1)) = M.rls (Rs.take j) ++ [(Rs.getD j M.rw0).l] := by rw [M.takeR_snoc h]; simp [M.rls]
theorem M.mayR_take {Rs : List M.Rw} {j : Nat} (h : j < Rs.length) : M.mayR (Rs.take (j + 1)) = (M.mayR (Rs.take j) && M.srt none (Rs.getD j M.rw0).l) := by rw [M.takeR_snoc h]; simp [M.mayR]
theorem M.mayR_cut {Rs : List M.Rw} {j : Nat} (h : j < Rs.length) (hs : M.srt none (Rs.getD j M.rw0).l = false) : M.mayR Rs = false := by
  cases q : M.mayR Rs with
  | false => rfl
  | true =>
    unfold M.mayR at q
    rw [List.all_eq_true] at q
    rw [q _ (M.getD_memR h)] at hs; cases hs
theorem Ic.snocNil {B N bi : Nat} {ao : Option Addr} {n cap : Nat} {H : List M.Hd} {R : List (List M.Cl)} {w : World} (h : Ic B N bi ao n cap H R (M.mrg R) w) (hl : R.length + 1 ≤ 100000) : Ic B N bi ao n cap H (R ++ [[]]) (M.mrg (R ++ [[]])) w :=
  ⟨h.hq, h.hp, h.hof.snoc_nil, M.mrg_is _, by simpa using hl, h.beh, h.bb, h.nl⟩
theorem Ic.snocCons {B N bi : Nat} {ao ao' : Option Addr} {n cap cap' : Nat} {H K : List M.Hd} {R : List (List M.Cl)} {w w' : World} {c : M.Cl} {t : List M.Cl} {q off k : Nat} (h : Ic B N bi ao n cap H R (M.mrg R) w) (hl : R.length + 1 ≤ 100000)
    (hK : K.Perm (H ++ [M.hdOf c t q off k R.length])) (hp : M.Hp K (n + 1)) (hq : Hq B bi ao' (n + 1) cap' K w') (ht : Two bi (Value.slice ao n cap).ownBlock w w')
    (hBq : B ≤ q) (hqw : q < w.heap.size) (hC : ∃ C fz, w.heap[q]? = some (.cells C 38 fz)) (hcl : ∀ j, j < (c :: t).length → ClOff ((c :: t).getD j M.cl0) w q (off + j * 3)) (hk : t.length + 1 ≤ k) :
    Ic B w'.heap.size bi ao' (n + 1) cap' K (R ++ [c :: t]) (M.mrg (R ++ [c :: t])) w' := by
  have kp := h.hq.cellKeep ht
  refine ⟨hq, hp, (h.hof.snoc _ _).perm hK, M.mrg_is _, by simpa using hl, fun x hx => ?_, h.bb, Nat.le_refl _⟩
  rcases List.mem_append.1 (hK.mem_iff.1 hx) with hx | hx
  · intro hb
    obtain ⟨q', off', e1, h1, h2, r⟩ := (h.beh x hx).keep (fun b _ hc => kp b hc) hb
    exact ⟨q', off', e1, h1, Nat.lt_of_lt_of_le h2 (Nat.le_trans h.nl ht.size), r⟩
  · have ex : x = M.hdOf c t q off k R.length := by simpa using hx
    subst ex
    intro hne
    have ht0 : t.length ≠ 0 := fun e => hne (List.eq_nil_of_length_eq_zero e)
    have hkq := kp q hC
    refine ⟨q, off + 3, by simp only [M.hdOf]; rw [if_neg (by omega)], hBq, Nat.lt_of_lt_of_le hqw ht.size, by rw [hkq]; exact hC, fun j hj => ?_, by simp only [M.hdOf]; omega⟩
    have := clOff_blk (hcl (j + 1) (by simpa [M.hdOf] using hj)) hkq
    rw [show off + (j + 1) * 3 = off + 3 + j * 3 from by omega] at this
    simpa [M.hdOf, List.getD] using this
theorem clsAt_own0 {B : Nat} {w : World} {ao : Option Addr} {cap : Nat} {L : List M.Cl} (h : w.ownsRow B 38 3 (.slice ao L.length cap) L.length (cls L)) (hL : L ≠ []) : ∃ q, ao = some ⟨q, 0, none⟩ ∧ B ≤ q ∧ q < w.heap.size ∧ (∃ C fz, w.heap[q]? = some (.cells C 38 fz)) ∧ (∀ j, j < L.length → ClOff (L.getD j M.cl0) w q (0 + j * 3)) ∧ L.length ≤ cap := by
  have hc := clsAt_own h rfl
  rcases h.2 with ⟨_, h0⟩ | ⟨g, cap', cur, hv, hB, hg, hn, _⟩
  · exact absurd (List.eq_nil_of_length_eq_zero h0) hL
  · cases hv
    obtain ⟨q, off, e, hcl⟩ := hc hL
    injection e with e
    injection e with e1 e2
    subst e1; subst e2
    exact ⟨g, rfl, hB, (Array.getElem?_eq_some_iff.1 hg).1, ⟨_, _, hg⟩, hcl, hn⟩
def NewR (Rs : List M.Rw) (w : World) (e : Ending) (w' : World) : Prop :=
  Below w.heap.size w w' ∧ if M.mayR Rs = true then ∃ bi, e = .returned (.tuple #[.pointer (some ⟨bi, 0, none⟩), .int .i64 0]) ∧ It11 w.heap.size w'.heap.size bi (M.mrg (M.rls Rs)) w' else e = .returned (.tuple #[.pointer none, .int .i64 2])
set_option maxHeartbeats 4000000 in
set_option maxRecDepth 100000 in
theorem new11_any (Rs : List M.Rw) (hR : RsOk Rs) (ao : Option Addr) (cap : Nat) (w : World) (h : RwsAt w ao Rs) :
    Calls Tryz.prog 61 #[.slice ao Rs.length cap] w (NewR Rs w) := by
  have HR := Lib.hid hR
  have HA := Lib.hid h
  have hn := hR.n
  clear h hR
  go_enter Tryz.func61, Tryz.ntmps61
  go_wp2_with fail
  go_loopw [11] (fun i wr => ∃ k : Nat, k ≤ Rs.length ∧ i = .int .i64 k ∧ Hid (M.mayR (Rs.take k) = true) ∧ Hid (Below w.heap.size w wr)) (fun i _ => Rs.length - (intOf i).toNat)
  case atStart => exact ⟨0, Nat.zero_le _, rfl, Lib.hid rfl, Lib.hid (Below.refl _ _)⟩
  case round =>
    obtain ⟨k, hk, rfl, HS, HB⟩ := hrel
    by_cases hlt : k < Rs.length
    · have hki : (k : Int) < (Rs.length : Int) := by omega
      obtain ⟨g, off, rfl, hc⟩ := (HA.out.below HB.out).off k hlt
      have HF := Lib.hid (M.getD_memR hlt)
      have HT := Lib.hid (M.mayR_take hlt)
      have HX := Lib.hid (fun hs => M.mayR_cut (Rs := Rs) hlt hs)
      generalize Rs.getD k M.rw0 = r at *
      obtain ⟨l, o, kc⟩ := r
      obtain ⟨x0, hcl⟩ := hc
      simp only at x0 hcl
      have C := Lib.hid (sorted9_any l (by have := HR.out.len _ HF.out; simp only at this; omega) o kc wr hcl (HR.out.ok _ HF.out))
      clear hcl
      go_wp2_with fail
      with_reducible refine (C.out).mono ?_
      rintro e w1 ⟨rfl, hb⟩
      replace HB := Lib.hid (HB.out.trans (hb.mono HB.out.size))
      clear hb C x0
      cases hs : M.srt none l with
      | false =>
        have HE := Lib.hid (HX.out hs)
        clear hs HX
        go_wp2_with fail
        go_ret2
        exact ⟨HB.out, by rw [if_neg (by rw [HE.out]; simp)]; rfl⟩
      | true =>
        have HE := Lib.hid (show M.mayR (Rs.take (k + 1)) = true from by rw [HT.out, HS.out, hs]; rfl)
        clear hs HX HT
        go_wp2_with fail
        go_roundw
        case rel => exact ⟨k + 1, by omega, by go_num, HE, HB⟩
        case measure => simp [intOf]; omega
    · obtain rfl : k = Rs.length := by omega
      have HM := Lib.hid (show M.mayR Rs = true from by have := HS.out; rwa [List.take_length] at this)
      go_wp2_with fail
      have HI := Lib.hid (show Ic w.heap.size (wr.alloc (.cells #[.slice none 0 0] 150)).heap.size wr.heap.size none 0 0 [] (M.rls (Rs.take 0)) (M.mrg (M.rls (Rs.take 0))) (wr.alloc (.cells #[.slice none 0 0] 150)) from
        ⟨⟨rowIn_new _ _ _, World.ownsRow_nil _ _ _ _, rfl, Nat.le_trans HB.out.size (by simp)⟩, (fun i h0 hi => by omega), M.Hof.nil, M.mrg_is _, (by simp [M.rls]), (fun x hx => by cases hx), HB.out.size, Nat.le_refl _⟩)
      replace HB := Lib.hid (HB.out.alloc HB.out.size (.cells #[.slice none 0 0] 150))
      generalize wr.alloc (.cells #[.slice none 0 0] 150) = w1 at *
      generalize wr.heap.size = bi at *
      clear HS
      go_loopw [23] (fun i wq => ∃ (k : Nat) (ao2 : Option Addr) (n cap2 : Nat) (H : List M.Hd), k ≤ Rs.length ∧ i = .int .i64 k ∧ Hid (Ic w.heap.size wq.heap.size bi ao2 n cap2 H (M.rls (Rs.take k)) (M.mrg (M.rls (Rs.take k))) wq) ∧ Hid (Below w.heap.size w wq)) (fun i _ => Rs.length - (intOf i).toNat)
      case atStart => exact ⟨0, _, _, _, _, Nat.zero_le _, rfl, HI, HB⟩
      case round =>
        clear HI HB
        obtain ⟨k, ao2, n, cap2, H, hk, rfl, HI, HB⟩ := hrel
        by_cases hlt : k < Rs.length
        · have hki : (k : Int) < (Rs.length : Int) := by omega
          obtain ⟨g, off, rfl, hc⟩ := (HA.out.below HB.out).off k hlt
          have HF := Lib.hid (M.getD_memR hlt)
          have HT := Lib.hid (M.rls_snoc hlt)
          have HL := Lib.hid (show (M.rls (Rs.take k)).length = k from by simp [M.rls]; omega)
          generalize Rs.getD k M.rw0 = r at *
          obtain ⟨l, o, kc⟩ := r
          obtain ⟨x0, hcl⟩ := hc
          simp only at x0 hcl
          have C := Lib.hid (clone11_any l (by have := HR.out.len _ HF.out; exact this) o kc wr hcl)
          clear hcl
          go_wp2_with fail
          with_reducible refine (C.out).mono ?_
          rintro e w2 ⟨ao3, c3, rfl, ho3, hb⟩
          have HI2 := Lib.hid (HI.out.below hb)
          have HB2 := Lib.hid (HB.out.trans (hb.mono HB.out.size))
          have HO3 := Lib.hid ho3
          have HZ := Lib.hid hb.size
          have hn1 : n + 1 ≤ 1000000 := by
            have h1 := HI.out.hof.len
            have h2 := HI.out.rl
            have h3 := HI.out.hq.len
            omega
          clear ho3 hb C x0 HI
          cases l with
          | nil =>
            have C := Lib.hid (layNil11_any bi ao3 c3 k w2)
            have HI3 := Lib.hid (show Ic w.heap.size w2.heap.size bi ao2 n cap2 H (M.rls (Rs.take (k + 1))) (M.mrg (M.rls (Rs.take (k + 1)))) w2 from by
              rw [HT.out]
              exact (HI2.out.snocNil (by rw [HL.out]; omega)).more HZ.out (Nat.le_refl _))
            go_wp2_with fail
            with_reducible refine (C.out).mono ?_
            rintro e w3 ⟨rfl, rfl⟩
            clear C
            go_wp2_with fail
            go_roundw
            case rel => exact ⟨k + 1, _, _, _, _, by omega, by go_num, HI3, HB2⟩
            case measure => simp [intOf]; omega
          | cons c t =>
            obtain ⟨q, eq, hBq, hqw, hCq, hclq, hcap⟩ := clsAt_own0 HO3.out (by simp)
            subst eq
            have hc0 := hclq 0 (by simp)
            rw [show 0 + 0 * 3 = 0 from rfl] at hc0
            have hc3 : t.length + 1 ≤ c3 := by simpa using hcap
            have C := Lib.hid (lay11_any w.heap.size bi ao2 n cap2 H c t q 0 c3 k w2 HI2.out.hq hn1 HI2.out.hp hc0 hc3)
            have HQ := Lib.hid (And.intro hBq (And.intro hqw (And.intro hCq hclq)))
            clear hBq hqw hCq hclq hcap hc0
            go_wp2_with fail
            with_reducible refine (C.out).mono ?_
            rintro e w3 ⟨rfl, ao4, c4, K4, hpm, hpp, hq4, ht4, hw4⟩
            have HI3 := Lib.hid (show Ic w.heap.size w3.heap.size bi ao4 (n + 1) c4 K4 (M.rls (Rs.take (k + 1))) (M.mrg (M.rls (Rs.take (k + 1)))) w3 from by
              rw [HT.out]
              obtain ⟨h1, h2, h3, h4⟩ := HQ.out
              exact HI2.out.snocCons (by rw [HL.out]; omega) (by rw [HL.out]; exact hpm) hpp hq4 ht4 (Nat.le_trans HB.out.size h1) h2 h3 h4 hc3)
            have HB3 := Lib.hid (HB2.out.trans (ht4.toBelow HI2.out.bb (fun q e => (HI2.out.hq.lt e).1) HI2.out.hq.base))
            clear hpm hpp hq4 ht4 hw4 C
            go_wp2_with fail
            go_roundw
            case rel => exact ⟨k + 1, _, _, _, _, by omega, by go_num, HI3, HB3⟩
            case measure => simp [intOf]; omega
        · obtain rfl : k = Rs.length := by omega
          have HI3 := Lib.hid (show It11 w.heap.size wr.heap.size bi (M.mrg (M.rls Rs)) wr from by
            have := HI.out
            rw [List.take_length] at this
            exact ⟨_, _, _, _, _, this⟩)
          clear HI
          go_wp2_with fail
          go_ret2
          exact ⟨HB.out, by rw [if_pos HM.out]; exact ⟨bi, rfl, HI3.out⟩⟩

end Go.Proofs.YtnhljlmelbiljaaGreat

/- Layer 11: the cells of an Iter as a range over a function. -/
namespace Go.Proofs.YtnhljlmelbiljaaGreat
set_option linter.unusedVariables false
open Go Go.RowKit Go.Shelf
attribute [local go_sem ↓] run_index_S
attribute [local go_sem] S_append S_extract
attribute [local go_sem] Oper.semAt_some

def pv11 : Option Nat → Value
  | some b => .pointer (some ⟨b, 0, none⟩)
  | none => .pointer none
def ItO (B N : Nat) (p : Option Nat) (L : List M.Cl) (w : World) : Prop := match p with
  | some bi => It11 B N bi L w
  | none => L = []
theorem ItO.below {B N : Nat} {p : Option Nat} {L : List M.Cl} {w w' : World} (h : ItO B N p L w) (hb : Below w.heap.size w w') : ItO B N p L w' := by
  cases p with
  | none => exact h
  | some bi => exact It11.below h hb
set_option maxHeartbeats 4000000 in
set_option maxRecDepth 100000 in
theorem nextNull11_any (B : Nat) (w : World) (hB : B ≤ w.heap.size) : Calls Tryz.prog 88 #[.pointer none] w fun e w' => e = .returned (.tuple #[.agg (clA M.cl0), .bool false]) ∧ Below B w w' ∧ NextKeeps w w' := by
  have HB := Lib.hid hB
  clear hB
  go_enter Tryz.func88, Tryz.ntmps88
  go_wp2_with fail
  try simp only [Exit.inBlock, Exit.then]
  have HX := Lib.hid (rowIn_new (clA M.cl0) 38 w)
  exact bodyPost_ret (ret_rowP2 rfl _ _ w.heap.size rfl (load_struct Tryz.underlying38 (by kernel_rfl) HX.out)) rfl ⟨rfl, (Below.refl _ _).alloc HB.out _, .below ((Below.refl _ _).alloc (Nat.le_refl _) _)⟩
theorem nextO_any (B N : Nat) (p : Option Nat) (L : List M.Cl) (w : World) (h : ItO B N p L w) (hB : B ≤ w.heap.size) : Calls Tryz.prog 88 #[pv11 p] w fun e w' => e = .returned (.tuple #[.agg (clA (L.headD M.cl0)), .bool (!L.isEmpty)]) ∧ ItO B N p L.tail w' ∧ Below B w w' ∧ NextKeeps w w' := by
  cases p with
  | none =>
    have h : L = [] := h
    subst h
    exact (nextNull11_any B w hB).mono fun e w' hh => ⟨hh.1, rfl, hh.2⟩
  | some bi =>
    cases L with
    | nil => exact (nextNil11_any B N bi w h).mono fun e w' hh => hh
    | cons c L => exact (nextCons11_any B N bi c L w h).mono fun e w' hh => hh
theorem each11F_any (p : Option Nat) (w : World) : Calls Tryz.prog 62 #[pv11 p] w fun e w' => e = .returned (.func (.func 87) #[] #[.pointer (some ⟨w.heap.size, 0, none⟩)]) ∧ w' = w.alloc (.cells #[pv11 p] 112) := by
  cases p with
  | none =>
    unfold pv11
    go_enter Tryz.func62, Tryz.ntmps62
    go_wp2_with fail
    go_ret
    exact ⟨rfl, rfl⟩
  | some bi =>
    unfold pv11
    go_enter Tryz.func62, Tryz.ntmps62
    go_wp2_with fail
    go_ret
    exact ⟨rfl, rfl⟩
theorem NextKeeps.row {w w' : World} (h : NextKeeps w w') {C : Array Value} {T : TypeId} {b : Nat} (hr : RowIn C T w b) (h1 : T ≠ 181) (h2 : T ≠ 150) : RowIn C T w' b :=
  h.same b _ hr fun C' fz' => ⟨fun e => by injection e with _ e _; exact h1 e, fun e => by injection e with _ e _; exact h2 e⟩
theorem NextKeeps.own {w w' : World} (h : NextKeeps w w') {B : Nat} {T : TypeId} {sz n : Nat} {v : Value} {xs : List Value} (ho : w.ownsRow B T sz v n xs) (h1 : T ≠ 181) (h2 : T ≠ 150) : w'.ownsRow B T sz v n xs := by
  refine ⟨ho.1, ?_⟩
  rcases ho.2 with h0 | ⟨g, cap', cur, hv, hB, hg, r⟩
  · exact .inl h0
  · exact .inr ⟨g, cap', cur, hv, hB, h.same g _ hg fun C' fz' => ⟨fun e => by injection e with _ e _; exact h1 e, fun e => by injection e with _ e _; exact h2 e⟩, r⟩
theorem ItO.other {B N : Nat} {p : Option Nat} {L : List M.Cl} {w w' : World} {C : Array Value} {tc : Nat} (h : ItO B N p L w) (hr : RowIn C 38 w tc) (hN : N ≤ tc) (ht : Two tc none w w') : ItO B N p L w' := by
  cases p with
  | none => exact h
  | some bi =>
    obtain ⟨ao, n, cap, H, R, hi⟩ := h
    have h1 : bi ≠ tc := rowIn_ne hi.hq.row hr (by decide)
    have h2 := row_apart hr hi.hq.own (by decide)
    refine ⟨ao, n, cap, H, R, hi.keep ht.size (fun b hb => ht.block b ?_ ?_ (by simp))⟩
    · rcases hb with e | e | ⟨_, C, fz, e⟩
      · rw [e]; exact hi.hq.row.lt
      · exact (hi.hq.lt e).2
      · exact (Array.getElem?_eq_some_iff.1 e).1
    · rcases hb with e | e | ⟨e, _⟩
      · rw [e]; exact h1
      · exact h2 b e
      · omega
theorem two_set3 {w : World} {tc : Nat} (a b c : Value) : Two tc none w (((w.setCell ⟨tc, 0, none⟩ a).setCell ⟨tc, 1, none⟩ b).setCell ⟨tc, 2, none⟩ c) :=
  (((Two.refl tc none w).set (p := ⟨tc, 0, none⟩) rfl a).set (p := ⟨tc, 1, none⟩) rfl b).set (p := ⟨tc, 2, none⟩) rfl c
theorem rowIn_set3 {w : World} {tc : Nat} {x y : M.Cl} {T : TypeId} (h : RowIn (clA x) T w tc) : RowIn (clA y) T (((w.setCell ⟨tc, 0, none⟩ (.string (S y.key))).setCell ⟨tc, 1, none⟩ (.int .i64 y.seq)).setCell ⟨tc, 2, none⟩ (.string (S y.val))) tc :=
  ((h.set 0 _).set 1 _).set 2 _
theorem least_go11 {p : Nat → Prop} (h : ∃ n, p n) : ∃ k, p k ∧ k = leastOf p := ⟨leastOf p, (leastOf_spec h).1, rfl⟩
theorem least_lt11 {p q : Nat → Prop} {k m : Nat} (h : q m) (hk : k = leastOf p) (hm : m < k) : leastOf q < leastOf p := hk ▸ Nat.lt_of_le_of_lt ((leastOf_spec ⟨m, h⟩).2 m h) hm
/-- What holds ahead of a round: k cells are still to come, the one that is at hand with them. -/
def EaK (B N : Nat) (p : Option Nat) (L : List M.Cl) (J : Nat → List M.Cl → World → Prop) (bx tc k : Nat) (ok : Value) (w : World) : Prop :=
  ∃ pre rem, rem.length = k ∧ L = pre ++ rem ∧ ok = .bool (!rem.isEmpty) ∧ RowIn (clA (rem.headD M.cl0)) 38 w tc ∧ ItO B N p rem.tail w ∧ J tc pre w ∧ RowIn #[pv11 p] 112 w bx ∧ B ≤ w.heap.size
set_option maxHeartbeats 4000000 in
set_option maxRecDepth 100000 in
theorem each11_in (n : Nat) (hn : 1 ≤ n) (B N : Nat) (p : Option Nat) (L : List M.Cl) (J : Nat → List M.Cl → World → Prop) (lp bx : Nat)
    (hK : ∀ tc pre W W', J tc pre W → NextKeeps W W' → Below B W W' → J tc pre W')
    (hS : ∀ tc pre W W', J tc pre W → Two tc none W W' → W'.heap.size = W.heap.size → J tc pre W')
    (hY : ∀ tc pre x rest W, J tc pre W → ItO B N p rest W → RowIn (clA x) 38 W tc → RowIn #[pv11 p] 112 W bx → L = pre ++ x :: rest → YieldAt Fence.wide (n - 1) Tryz.prog lp #[.agg (clA x)] W fun e W' =>
      e = .returned (.bool true) ∧ J tc (pre ++ [x]) W' ∧ ItO B N p rest W' ∧ RowIn (clA x) 38 W' tc ∧ RowIn #[pv11 p] 112 W' bx ∧ B ≤ W'.heap.size)
    (W : World) (hbx : RowIn #[pv11 p] 112 W bx) (hI : ItO B N p L W) (hB : B ≤ W.heap.size) (hN : N ≤ W.heap.size) (h0 : ∀ tc W', W.heap.size ≤ tc → NextKeeps W W' → Below B W W' → J tc [] W') :
    CallsIn Fence.wide n Tryz.prog 87 #[.func (.yield lp) #[] #[], .pointer (some ⟨bx, 0, none⟩)] W fun e W' => (∃ v, e = .returned v) ∧ ∃ tc, J tc L W' := by
  have HJ := Lib.hid (And.intro hK (And.intro hS (And.intro hY h0)))
  have C0 := Lib.hid (nextO_any B N p L W hI hB)
  have x0 : W.cell? ⟨bx, 0, none⟩ = some (pv11 p) := hbx.cell 0
  have HX := Lib.hid hbx
  have HB := Lib.hid hB
  clear hK hS hY h0 hI hbx hB
  refine callsIn_of_wp Tryz.func87 rfl trivial ?_ rfl
  simp only [Tryz.ntmps87, List.size_toArray, List.length_cons, List.length_nil, Nat.reduceAdd, Nat.reduceSub, Array.replicate_succ, Array.replicate_zero, List.push_toArray, List.append_toArray, List.nil_append, List.cons_append]
  gi_wp2
  refine ⟨trivial, (callsIn_wide.2 (C0.out)).mono ?_⟩
  rintro e W1 ⟨rfl, hI1, hb1, hk1⟩
  have HE := Lib.hid (show EaK B N p L J bx W1.heap.size L.length (.bool (!L.isEmpty)) (W1.alloc (.cells (clA (L.headD M.cl0)) 38)) from by
    have hal : Below W1.heap.size W1 (W1.alloc (.cells (clA (L.headD M.cl0)) 38)) := (Below.refl _ _).alloc (Nat.le_refl _) _
    refine ⟨[], L, rfl, rfl, rfl, rowIn_new _ _ _, hI1.below hal, HJ.out.2.2.2 _ _ (hk1.size) (hk1.trans (.below hal)) (hb1.trans (hal.mono (Nat.le_trans HB.out hb1.size))), (hk1.row HX.out (by decide) (by decide)).more _, Nat.le_trans HB.out (Nat.le_trans hb1.size hal.size)⟩)
  have HNT := Lib.hid (Nat.le_trans hN hk1.size)
  clear hI1 hb1 hk1 C0 x0 hN
  generalize (!L.isEmpty) = b0 at *
  generalize L.headD M.cl0 = hd0 at *
  gi_wp2
  have HE : Hid (EaK B N p L J bx W1.heap.size L.length (.bool b0) (W1.alloc (.cells #[.string (S hd0.key), .int .i64 hd0.seq, .string (S hd0.val)] 38))) := HE
  generalize W1.alloc (.cells #[.string (S hd0.key), .int .i64 hd0.seq, .string (S hd0.val)] 38) = W2 at *
  generalize W1.heap.size = tc at *
  gi_loopw [4] (fun ok wr => ∃ k, EaK B N p L J bx tc k ok wr) (fun ok wr => leastOf (fun k => EaK B N p L J bx tc k ok wr))
  case atStart => exact ⟨_, HE.out⟩
  case round =>
    clear HE
    obtain ⟨k, hk1, hk2⟩ := least_go11 hrel
    have HK2 := Lib.hid hk2
    obtain ⟨pre, rem, hlen, hL, rfl, hrow, hIt, hj, hbx, hB⟩ := hk1
    clear hk2 hrel
    cases rem with
    | nil =>
      have HJL := Lib.hid (show J tc L wr from by rw [hL, List.append_nil]; exact hj)
      clear hL hlen hrow hIt hj hbx hB HK2
      gi_wp2
      refine ⟨fun _ h => (by cases h), ?_⟩
      gi_wp2
      go_end0
      exact ⟨⟨_, rfl⟩, tc, HJL.out⟩
    | cons x rest =>
      obtain ⟨fn, tmps, assign, body, hy, hR⟩ := HJ.out.2.2.1 tc pre x rest wr hj hIt hrow hbx hL
      have r0 : wr.cell? ⟨tc, 0, none⟩ = some (.string (S x.key)) := hrow.cell 0
      have r1 : wr.cell? ⟨tc, 1, none⟩ = some (.int .i64 x.seq) := hrow.cell 1
      have r2 : wr.cell? ⟨tc, 2, none⟩ = some (.string (S x.val)) := hrow.cell 2
      have HL := Lib.hid hL
      have HLN := Lib.hid hlen
      clear hL hlen hrow hIt hj hbx hB
      gi_wp2
      refine hR.mono ?_
      rintro e W3 ⟨rfl, hj3, hI3, hr3, hb3, hB3⟩
      have x0 : W3.cell? ⟨bx, 0, none⟩ = some (pv11 p) := hb3.cell 0
      have C3 := Lib.hid (nextO_any B N p rest W3 hI3 hB3)
      have HJ3 := Lib.hid hj3
      have HR3 := Lib.hid hr3
      have HB3 := Lib.hid (And.intro hb3 hB3)
      clear hj3 hI3 hr3 hb3 hB3 r0 r1 r2 hy hR
      gi_wp2
      refine ⟨trivial, (callsIn_wide.2 (C3.out)).mono ?_⟩
      rintro e W4 ⟨rfl, hI4, hb4, hk4⟩
      have hr4 := hk4.row HR3.out (by decide) (by decide)
      have r0 : W4.cell? ⟨tc, 0, none⟩ = some (.string (S x.key)) := hr4.cell 0
      have r1 : W4.cell? ⟨tc, 1, none⟩ = some (.int .i64 x.seq) := hr4.cell 1
      have r2 : W4.cell? ⟨tc, 2, none⟩ = some (.string (S x.val)) := hr4.cell 2
      have f0 := hr4.free 0
      have f1 := hr4.free 1
      have f2 := hr4.free 2
      have HR4 := Lib.hid hr4
      have HI4 := Lib.hid hI4
      have HJ4 := Lib.hid (HJ.out.1 tc _ _ _ HJ3.out hk4 hb4)
      have HB4 := Lib.hid (And.intro (hk4.row HB3.out.1 (by decide) (by decide)) (Nat.le_trans HB3.out.2 hb4.size))
      obtain ⟨hd1, hh1⟩ : ∃ y, y = rest.headD M.cl0 := ⟨_, rfl⟩
      obtain ⟨b1, hh2⟩ : ∃ y, y = !rest.isEmpty := ⟨_, rfl⟩
      rw [← hh1, ← hh2]
      have HH := Lib.hid (And.intro hh1 hh2)
      clear hI4 hb4 hk4 hr4 hh1 hh2 C3 x0
      gi_wp2
      have HNW := Lib.hid (two_set3 (w := W4) (tc := tc) (.string (S hd1.key)) (.int .i64 hd1.seq) (.string (S hd1.val)))
      have HEK : EaK B N p L J bx tc rest.length (.bool b1) (((W4.setCell ⟨tc, 0, none⟩ (.string (S hd1.key))).setCell ⟨tc, 1, none⟩ (.int .i64 hd1.seq)).setCell ⟨tc, 2, none⟩ (.string (S hd1.val))) := by
        refine ⟨pre ++ [x], rest, rfl, by rw [HL.out]; simp, by rw [HH.out.2], ?_, ?_, ?_, ?_, ?_⟩
        · rw [← HH.out.1]; exact rowIn_set3 HR4.out
        · exact HI4.out.other HR4.out HNT.out HNW.out
        · exact HJ.out.2.1 tc _ _ _ HJ4.out HNW.out (by simp)
        · exact (HNW.out.block bx HB4.out.1.lt (rowIn_ne HB4.out.1 HR4.out (by decide)) (by simp)).trans HB4.out.1
        · exact Nat.le_trans HB4.out.2 HNW.out.size
      exact ⟨⟨_, HEK⟩, least_lt11 HEK HK2.out (by rw [← HLN.out]; simp)⟩

end Go.Proofs.YtnhljlmelbiljaaGreat

/- Layer 11: a range over the cells of an Iter: a law of its own (this iterator writes memory between rounds). -/
namespace Go.Proofs.YtnhljlmelbiljaaGreat
set_option linter.unusedVariables false
open Go Go.RowKit Go.Shelf
attribute [local go_sem ↓] run_index_S
attribute [local go_sem] S_append S_extract
attribute [local go_sem] Oper.semAt_some

theorem row_walk11 {C : Array Value} {T : TypeId} {w w' : World} {b : Nat} {row : Option Nat} (h : RowIn C T w b) (hg : w.grownBy w' row) (hr : ∀ r, row = some r → ∃ o : Obj, w.heap[r]? = some o ∧ o.isCells = false) : RowIn C T w' b :=
  (hg.block b h.lt (fun e => by
    obtain ⟨o, ho, hc⟩ := hr b e.symm
    unfold RowIn at h
    rw [h] at ho
    injection ho with ho
    subst ho
    cases hc)).trans h
theorem ItO.walk {B N : Nat} {p : Option Nat} {L : List M.Cl} {w w' : World} {row : Option Nat} (h : ItO B N p L w) (hg : w.grownBy w' row) (hr : ∀ r, row = some r → ∃ o : Obj, w.heap[r]? = some o ∧ o.isCells = false) : ItO B N p L w' := by
  cases p with
  | none => exact h
  | some bi =>
    obtain ⟨ao, n, cap, H, R, hi⟩ := h
    have key : ∀ (b : Nat) (C : Array Value) (T : TypeId) (fz : Nat × Nat), w.heap[b]? = some (Obj.cells C T fz) → w'.heap[b]? = w.heap[b]? := fun b C T fz hb => hg.block b (Array.getElem?_eq_some_iff.1 hb).1 (fun e => by
      obtain ⟨o, ho, hc⟩ := hr b e.symm
      rw [hb] at ho
      injection ho with ho
      subst ho
      cases hc)
    refine ⟨ao, n, cap, H, R, hi.keep hg.size (fun b hb => ?_)⟩
    rcases hb with e | e | ⟨_, C, fz, e⟩
    · subst e; exact key _ _ _ _ hi.hq.row
    · rcases hi.hq.own.2 with ⟨h0, _⟩ | ⟨g, cap', cur, hv, hB, hgg, r⟩
      · rw [h0] at e; cases e
      · rw [hv] at e; injection e with e; subst e; exact key _ _ _ _ hgg
    · exact key _ _ _ _ e
theorem putObj_grown11 {W : World} {l : Nat} {o o' : Obj} (hl : W.heap[l]? = some o) (ho : o.isCells = false) : W.grownBy (W.putObj l o') (some l) ∧ ∀ r, some l = some r → ∃ o : Obj, W.heap[r]? = some o ∧ o.isCells = false :=
  ⟨grownBy_putObj' W l o', fun r e => by injection e with e; subst e; exact ⟨o, hl, ho⟩⟩
set_option maxHeartbeats 2000000 in
theorem wpIn_rangeFunc_it11 {n : Nat} {g : Operand} {ps : Array Tmp} {assign body : Code} {Q : Exit → Act → World → Prop} {a : Act} {w : World}
    (h1 : 1 ≤ n) (h2 : 1 ≤ n - 1) {bx : Nat} (hg : a.eval g = .func (.func 87) #[] #[.pointer (some ⟨bx, 0, none⟩)]) (hps : ps.size = 1)
    (B N : Nat) (p : Option Nat) (L : List M.Cl) (hbx : RowIn #[pv11 p] 112 w bx) (hI : ItO B N p L w) (hB : B ≤ w.heap.size) (hN : N ≤ w.heap.size)
    (I : Nat → List M.Cl → World → Prop)
    (hIk : ∀ tc pre W W', I tc pre W → NextKeeps W W' → Below B W W' → I tc pre W')
    (hIs : ∀ tc pre W W', I tc pre W → Two tc none W W' → W'.heap.size = W.heap.size → I tc pre W')
    (hIo : ∀ tc pre W W' row, I tc pre W → W.grownBy W' row → (∀ r, row = some r → w.heap.size ≤ r ∧ ∃ o : Obj, W.heap[r]? = some o ∧ o.isCells = false) → I tc pre W')
    (hI0 : ∀ tc W', w.heap.size ≤ tc → NextKeeps w W' → Below B w W' → I tc [] W') (a₁ : M.Cl → Nat → Act)
    (hassign : ∀ (l : Nat) (x : M.Cl) (W : World) (K : Act → World → Prop), K (a₁ x W.heap.size) (W.alloc (.cells (clA x) 38)) →
      assign.wpIn (Fence.wide.inRound l) (n - 1 - 1) Tryz.prog (Exit.then K (fun _ _ _ => False)) { tmps := (ps.zip #[.agg (clA x)]).foldl (fun t (p, v) => t.setIfInBounds p v) a.tmps, defers := [] } W)
    (hbody : ∀ (l tc cb : Nat) (pre : List M.Cl) (x : M.Cl) (rest : List M.Cl) (W : World), RowIn (clA x) 38 W cb → I tc pre W → ItO B N p rest W → RowIn (clA x) 38 W tc → RowIn #[pv11 p] 112 W bx → L = pre ++ x :: rest →
      body.wpIn (Fence.wide.inRound l) (n - 1 - 1) Tryz.prog (fun e _ W' => e = .normal ∧ KeepsOthers W W' ∧ I tc (pre ++ [x]) W' ∧ ItO B N p rest W' ∧ RowIn (clA x) 38 W' tc ∧ RowIn #[pv11 p] 112 W' bx ∧ B ≤ W'.heap.size) (a₁ x cb) W)
    (hdone : ∀ (D tc : Nat) (W : World), w.heap.size ≤ D → I tc L W → W.heap[D]? = some (.deferred (some [])) → Q .normal { a with defers := { target := .collected D, args := #[] } :: a.defers } W) :
    (Code.rangeFunc g ps assign body).wpIn Fence.wide n Tryz.prog Q a w := by
  refine wpIn_rangeFunc ?_
  intro fn hfn
  obtain ⟨rec, hrec⟩ : ∃ rec : LoopState → Option Code → Loop, rec = fun st pe => { state := st, pending := pe, fn, tmps := a.tmps, params := ps, assign, body, defers := w.heap.size } := ⟨_, rfl⟩
  obtain ⟨W1, hW1⟩ : ∃ W1, (w.alloc (.deferred (some []))).alloc (.loop (rec .ready none)) = W1 := ⟨_, rfl⟩
  have hL1 : W1.heap[w.heap.size + 1]? = some (.loop (rec .ready none)) := by
    rw [← hW1]; have := World.alloc_heap_new (w.alloc (.deferred (some []))) (.loop (rec .ready none)); rwa [World.size_alloc] at this
  have hK1 : W1.heap[w.heap.size]? = some (.deferred (some [])) := by
    rw [← hW1]; exact (Below.heap_alloc _ _ _ (by simp)).trans (World.alloc_heap_new w _)
  have hb1 : Below w.heap.size w W1 := by
    rw [← hW1]; exact ((Below.refl _ w).alloc (Nat.le_refl _) _).alloc (by simp) _
  have hs1 : W1.heap.size = w.heap.size + 2 := by rw [← hW1]; simp
  refine ⟨w.heap.size + 1, [{ target := .collected w.heap.size, args := #[] }], W1, { target := .fn (.func 87) #[.pointer (some ⟨bx, 0, none⟩)], args := #[.func (.yield (w.heap.size + 1)) #[] #[]] }, W1, 87,
    #[.func (.yield (w.heap.size + 1)) #[] #[]] ++ #[.pointer (some ⟨bx, 0, none⟩)], W1, ?_, ?_, ?_, ?_, fun _ => h1, ?_⟩
  · rw [← hW1, hrec]; exact run_enterLoop_outer _ _ _ _ _
  · simp only [resolve, hg]
    simp [go_sem]
  · intro f' hf'; trivial
  · have eg := enters_of (P := Tryz.prog) Tryz.func87 (by kernel_rfl) rfl
    first | simp [invoke, go_sem] | simp [invoke, go_sem, eg]
  · refine (each11_in (n - 1) h2 B N p L (fun tc pre W => I tc pre W ∧ W.heap[w.heap.size + 1]? = some (.loop (rec .ready none)) ∧ W.heap[w.heap.size]? = some (.deferred (some [])) ∧ w.heap.size + 1 ≠ tc ∧ w.heap.size ≠ tc) (w.heap.size + 1) bx
      (fun tc pre W W' hs hk hb => ⟨hIk _ _ _ _ hs.1 hk hb, hk.same _ _ hs.2.1 (fun _ _ => ⟨nofun, nofun⟩), hk.same _ _ hs.2.2.1 (fun _ _ => ⟨nofun, nofun⟩), hs.2.2.2⟩)
      (fun tc pre W W' hs ht hz => ⟨hIs _ _ _ _ hs.1 ht hz, (ht.block _ (Array.getElem?_eq_some_iff.1 hs.2.1).1 hs.2.2.2.1 (by simp)).trans hs.2.1, (ht.block _ (Array.getElem?_eq_some_iff.1 hs.2.2.1).1 hs.2.2.2.2 (by simp)).trans hs.2.2.1, hs.2.2.2⟩)
      ?_ W1 (hbx.below hb1) (hI.below hb1) (Nat.le_trans hB hb1.size) (Nat.le_trans hN hb1.size)
      (fun tc W' htc hk hb => ⟨hI0 tc W' (by omega) ((NextKeeps.below hb1).trans hk) ((hb1.mono hB).trans hb), hk.same _ _ hL1 (fun _ _ => ⟨nofun, nofun⟩), hk.same _ _ hK1 (fun _ _ => ⟨nofun, nofun⟩), by omega, by omega⟩)).mono ?_
    · rintro tc pre x rest W ⟨hi, hl, hk, hn1, hn2⟩ hIt hrow hbW hL
      have hlt : w.heap.size + 1 < W.heap.size := (Array.getElem?_eq_some_iff.1 hl).1
      have hy := run_yield (P := Tryz.prog) (args := #[.agg (clA x)]) hl (by rw [hrec]; simp [hps])
      rw [hrec] at hy
      have hal : Below W.heap.size W (W.alloc (.cells (clA x) 38)) := (Below.refl _ _).alloc (Nat.le_refl _) _
      have hBW : B ≤ W.heap.size := by omega
      have hla : (W.alloc (.cells (clA x) 38)).heap[w.heap.size + 1]? = some (.loop (rec .ready none)) := (Below.heap_alloc _ _ _ hlt).trans hl
      have hka : (W.alloc (.cells (clA x) 38)).heap[w.heap.size]? = some (.deferred (some [])) := (Below.heap_alloc _ _ _ (by omega)).trans hk
      have hia := hIk _ _ _ _ hi (.below hal) (hal.mono hBW)
      have hIa := hIt.below hal
      have hra := hrow.more (.cells (clA x) 38)
      have hba := hbW.more (.cells (clA x) 38)
      have hca := rowIn_new (clA x) 38 W
      refine ⟨fn, _, assign, body, hy, roundIn_of_wpIn hfn (hassign _ x W _ ⟨_, run_beginRound hla (by rw [hrec]), ?_⟩)⟩
      generalize W.alloc (.cells (clA x) 38) = Wa at *
      have hl2 : (Wa.putObj (w.heap.size + 1) (.loop { rec .ready none with state := .busy })).heap[w.heap.size + 1]? = some (.loop { rec .ready none with state := .busy }) := World.putObj_heap_same (Array.getElem?_eq_some_iff.1 hla).1
      have hk2 : (Wa.putObj (w.heap.size + 1) (.loop { rec .ready none with state := .busy })).heap[w.heap.size]? = some (.deferred (some [])) := (World.putObj_heap_other (by omega)).trans hka
      obtain ⟨pg, pr⟩ := putObj_grown11 (o' := .loop { rec .ready none with state := .busy }) hla rfl
      refine wpIn_mono (hbody _ tc W.heap.size pre x rest _ (row_walk11 hca pg pr) (hIo _ _ _ _ _ hia pg (fun r e => ⟨by injection e with e; omega, pr r e⟩)) (hIa.walk pg pr) (row_walk11 hra pg pr) (row_walk11 hba pg pr) hL) ?_
      rintro e a3 W3 ⟨rfl, hk3, hi3, hIt3, hrow3, hb3, hB3⟩
      have hl3 := hk3.same _ _ hl2 rfl
      have hr := run_endRound (P := Tryz.prog) none hl3
      obtain ⟨qg, qr⟩ := putObj_grown11 (o' := .loop (rec .ready none)) hl3 rfl
      have hr2 : (Instr.endRound (w.heap.size + 1) none).run Tryz.prog W3 = .ok (.bool true) (W3.putObj (w.heap.size + 1) (.loop (rec .ready none))) := by rw [hrec] at hr ⊢; exact hr
      exact ⟨_, _, hr2, rfl, ⟨hIo _ _ _ _ _ hi3 qg (fun r e => ⟨by injection e with e; omega, qr r e⟩), World.putObj_heap_same (Array.getElem?_eq_some_iff.1 hl3).1, (World.putObj_heap_other (by omega)).trans (hk3.same _ _ hk2 rfl), hn1, hn2⟩, hIt3.walk qg qr, row_walk11 hrow3 qg qr, row_walk11 hb3 qg qr, Nat.le_trans hB3 (by simp)⟩
    · rintro e W2 ⟨⟨v, rfl⟩, tc, hi, hl, hk, _, _⟩
      exact ⟨none, _, by have := run_endLoop (P := Tryz.prog) hl (by rw [hrec]; simp); rw [hrec] at this; exact this, hdone _ tc _ (Nat.le_refl _) (hIo _ _ _ _ (some (w.heap.size + 1)) hi (grownBy_putObj' _ _ _) (fun r e => ⟨by injection e with e; omega, by injection e with e; subst e; exact ⟨_, hl, rfl⟩⟩)) ((World.putObj_heap_other (by omega)).trans hk)⟩

end Go.Proofs.YtnhljlmelbiljaaGreat

/- Layer 11: the program's All and Newest, by contracts. -/
namespace Go.Proofs.YtnhljlmelbiljaaGreat
set_option linter.unusedVariables false
open Go Go.RowKit Go.Shelf
attribute [local go_sem ↓] run_index_S
attribute [local go_sem] S_append S_extract
attribute [local go_sem] Oper.semAt_some

/-- What the caller of a range over an Iter keeps: the list that has been collected so far. -/
structure Col11 (f : List M.Cl → List M.Cl) (N lb : Nat) (w0 : World) (tc : Nat) (pre : List M.Cl) (W : World) : Prop where
  out : ∃ ao cap, RowIn #[.slice ao (f pre).length cap] 22 W lb ∧ W.ownsRow N 38 3 (.slice ao (f pre).length cap) (f pre).length (cls (f pre)) ∧ (Value.slice ao (f pre).length cap).ownBlock ≠ some tc
  bel : Below w0.heap.size w0 W
  ne : lb ≠ tc
  nsz : N ≤ W.heap.size
  tcw : w0.heap.size ≤ tc
  nw : w0.heap.size ≤ N
theorem Col11.next {f : List M.Cl → List M.Cl} {N lb : Nat} {w0 : World} {tc : Nat} {pre : List M.Cl} {W W' : World} (h : Col11 f N lb w0 tc pre W) (hk : NextKeeps W W') (hb : Below w0.heap.size W W') : Col11 f N lb w0 tc pre W' := by
  obtain ⟨ao, cap, h1, h2, h3⟩ := h.out
  exact ⟨⟨ao, cap, hk.row h1 (by decide) (by decide), hk.own h2 (by decide) (by decide), h3⟩, h.bel.trans hb, h.ne, Nat.le_trans h.nsz hk.size, h.tcw, h.nw⟩
theorem Col11.two {f : List M.Cl → List M.Cl} {N lb : Nat} {w0 : World} {tc : Nat} {pre : List M.Cl} {W W' : World} (h : Col11 f N lb w0 tc pre W) (ht : Two tc none W W') : Col11 f N lb w0 tc pre W' := by
  obtain ⟨ao, cap, h1, h2, h3⟩ := h.out
  refine ⟨⟨ao, cap, (ht.block lb h1.lt h.ne (by simp)).trans h1, ?_, h3⟩, h.bel.trans (ht.toBelow h.tcw (by simp) h.bel.size), h.ne, Nat.le_trans h.nsz ht.size, h.tcw, h.nw⟩
  refine ⟨h2.1, ?_⟩
  rcases h2.2 with h0 | ⟨g, cap', cur, hv, hB, hg, r⟩
  · exact .inl h0
  · exact .inr ⟨g, cap', cur, hv, hB, (ht.block g (Array.getElem?_eq_some_iff.1 hg).1 (fun e => h3 (by rw [hv, e]; rfl)) (by simp)).trans hg, r⟩
theorem Col11.walk {f : List M.Cl → List M.Cl} {N lb : Nat} {w0 : World} {tc : Nat} {pre : List M.Cl} {W W' : World} {row : Option Nat} (h : Col11 f N lb w0 tc pre W) (hg : W.grownBy W' row) (hr : ∀ r, row = some r → w0.heap.size ≤ r ∧ ∃ o : Obj, W.heap[r]? = some o ∧ o.isCells = false) : Col11 f N lb w0 tc pre W' := by
  obtain ⟨ao, cap, h1, h2, h3⟩ := h.out
  refine ⟨⟨ao, cap, row_walk11 h1 hg (fun r e => (hr r e).2), ?_, h3⟩, h.bel.grown hg h.bel.size (fun k e => (hr k e).1), h.ne, Nat.le_trans h.nsz hg.size, h.tcw, h.nw⟩
  refine ⟨h2.1, ?_⟩
  rcases h2.2 with h0 | ⟨g, cap', cur, hv, hB, hgg, r⟩
  · exact .inl h0
  · exact .inr ⟨g, cap', cur, hv, hB, row_walk11 (show RowIn cur _ W g from hgg) hg (fun r e => (hr r e).2), r⟩
theorem ItO.keepG {B N : Nat} {p : Option Nat} {L : List M.Cl} {w w' : World} (h : ItO B N p L w) (hs : w.heap.size ≤ w'.heap.size)
    (k : ∀ (b : Nat) (C : Array Value) (T : TypeId) (fz : Nat × Nat), w.heap[b]? = some (Obj.cells C T fz) → (T = 150 ∨ T = 181 ∨ T = 38 ∧ b < N) → w'.heap[b]? = w.heap[b]?) : ItO B N p L w' := by
  cases p with
  | none => exact h
  | some bi =>
    obtain ⟨ao, n, cap, H, R, hi⟩ := h
    refine ⟨ao, n, cap, H, R, hi.keep hs (fun b hb => ?_)⟩
    rcases hb with e | e | ⟨hn, C, fz, e⟩
    · subst e; exact k _ _ _ _ hi.hq.row (.inl rfl)
    · rcases hi.hq.own.2 with ⟨h0, _⟩ | ⟨g, cap', cur, hv, hB, hgg, r⟩
      · rw [h0] at e; cases e
      · rw [hv] at e; injection e with e; subst e; exact k _ _ _ _ hgg (.inr (.inl rfl))
    · exact k _ _ _ _ e (.inr (.inr ⟨rfl, hn⟩))
/-- A cell collected. -/
theorem col_put11 {f : List M.Cl → List M.Cl} {B N lb bx : Nat} {p : Option Nat} {w0 : World} {tc : Nat} {pre rest : List M.Cl} {x : M.Cl} {W WE : World} {ao ao' : Option Addr} {cap cap' : Nat} (h : Col11 f N lb w0 tc pre W)
    (ho : RowIn #[.slice ao (f pre).length cap] 22 W lb) (hr : W.ownsRow N 38 3 (.slice ao (f pre).length cap) (f pre).length (cls (f pre))) (hne : (Value.slice ao (f pre).length cap).ownBlock ≠ some tc)
    (ht : Two lb (Value.slice ao (f pre).length cap).ownBlock W WE) (ho' : RowIn #[.slice ao' ((f pre).length + 1) cap'] 22 WE lb) (hr' : WE.ownsRow N 38 3 (.slice ao' ((f pre).length + 1) cap') ((f pre).length + 1) (cls (f pre) ++ clL x)) (h7 : (Value.slice ao' ((f pre).length + 1) cap').ownBlock = (Value.slice ao (f pre).length cap).ownBlock ∨ ∃ q, (Value.slice ao' ((f pre).length + 1) cap').ownBlock = some q ∧ W.heap.size ≤ q)
    (hf : f (pre ++ [x]) = f pre ++ [x]) (hI : ItO B N p rest W) (ht1 : RowIn (clA x) 38 W tc) (hb1 : RowIn #[pv11 p] 112 W bx) (hB : B ≤ w0.heap.size) (hlb : w0.heap.size ≤ lb) :
    KeepsOthers W WE ∧ Col11 f N lb w0 tc (pre ++ [x]) WE ∧ ItO B N p rest WE ∧ RowIn (clA x) 38 WE tc ∧ RowIn #[pv11 p] 112 WE bx ∧ B ≤ WE.heap.size := by
  have hq := fun q e => hr.lt q e
  have key : ∀ (b : Nat) (o : Obj), W.heap[b]? = some o → (∀ C fz, o ≠ .cells C 22 fz) → some b ≠ (Value.slice ao (f pre).length cap).ownBlock → WE.heap[b]? = some o := fun b o hb h1 h2 =>
    (ht.block b (Array.getElem?_eq_some_iff.1 hb).1 (fun e => by subst e; rw [ho] at hb; injection hb with hb; exact h1 _ _ hb.symm) h2).trans hb
  have keyT : ∀ (b : Nat) (C : Array Value) (T : TypeId) (fz : Nat × Nat), W.heap[b]? = some (.cells C T fz) → T ≠ 22 → T ≠ 38 → WE.heap[b]? = some (.cells C T fz) := fun b C T fz hb h1 h2 =>
    key b _ hb (fun C' fz' e => by injection e with _ e _; exact h1 e) (fun e => by
      rcases hr.2 with ⟨h0, _⟩ | ⟨g, cap', cur, hv, hB, hgg, r⟩
      · rw [h0] at e; cases e
      · rw [hv] at e; injection e with e; subst e; rw [hb] at hgg; injection hgg with hgg; injection hgg with _ e _; exact h2 e)
  refine ⟨⟨ht.size, fun k o hk hc => key k o hk (fun C fz e => by subst e; cases hc) (fun e => by
      rcases hr.2 with ⟨h0, _⟩ | ⟨g, cap', cur, hv, hB, hgg, r⟩
      · rw [h0] at e; cases e
      · rw [hv] at e; injection e with e; subst e; rw [hk] at hgg; injection hgg with hgg; subst hgg; cases hc)⟩, ?_, ?_, ?_, ?_, ?_⟩
  · refine ⟨⟨ao', cap', ?_, ?_, ?_⟩, h.bel.trans (ht.toBelow hlb (fun q e => Nat.le_trans h.nw (hq q e).1) h.bel.size), h.ne, Nat.le_trans h.nsz ht.size, h.tcw, h.nw⟩
    · rw [hf, List.length_append]; exact ho'
    · rw [hf, List.length_append, cls_append, cls_one]; exact hr'
    · rw [hf, List.length_append]
      show (Value.slice ao' ((f pre).length + 1) cap').ownBlock ≠ _
      rcases h7 with e | ⟨q, e, hq2⟩
      · rw [e]; exact hne
      · rw [e]; intro e2; injection e2 with e2; have := ht1.lt; omega
  · refine hI.keepG ht.size (fun b C T fz hb hT => ?_)
    rcases hT with e | e | ⟨e, hn⟩
    · subst e; rw [keyT _ _ _ _ hb (by decide) (by decide), hb]
    · subst e; rw [keyT _ _ _ _ hb (by decide) (by decide), hb]
    · subst e
      rw [key _ _ hb (fun C' fz' e => by injection e with _ e _; revert e; decide) (fun e => by have := (hq b e.symm).1; omega), hb]
  · exact key _ _ ht1 (fun C' fz' e => by injection e with _ e _; revert e; decide) (fun e => hne e.symm)
  · exact keyT _ _ _ _ hb1 (by decide) (by decide)
  · exact Nat.le_trans (Nat.le_trans hB h.bel.size) ht.size
def AllR (f : List M.Cl → List M.Cl) (Rs : List M.Rw) (w : World) (e : Ending) (w' : World) : Prop :=
  ∃ ao cap, e = .returned (.tuple #[.slice ao (if M.mayR Rs = true then f (M.mrg (M.rls Rs)) else []).length cap, .int .i64 (if M.mayR Rs = true then 0 else 2)]) ∧ w'.ownsRow w.heap.size 38 3 (.slice ao (if M.mayR Rs = true then f (M.mrg (M.rls Rs)) else []).length cap) (if M.mayR Rs = true then f (M.mrg (M.rls Rs)) else []).length (cls (if M.mayR Rs = true then f (M.mrg (M.rls Rs)) else [])) ∧ Below w.heap.size w w'
/-- What New answers, in one form. -/
theorem new11_O (Rs : List M.Rw) (hR : RsOk Rs) (ao : Option Addr) (cap : Nat) (w : World) (h : RwsAt w ao Rs) :
    Calls Tryz.prog 61 #[.slice ao Rs.length cap] w fun e w' => Below w.heap.size w w' ∧ ∃ p, e = .returned (.tuple #[pv11 p, .int .i64 (if M.mayR Rs = true then 0 else 2)]) ∧ ItO w.heap.size w'.heap.size p (if M.mayR Rs = true then M.mrg (M.rls Rs) else []) w' := by
  refine (new11_any Rs hR ao cap w h).mono ?_
  rintro e w' ⟨hb, hh⟩
  refine ⟨hb, ?_⟩
  by_cases hm : M.mayR Rs = true
  · rw [if_pos hm] at hh ⊢
    rw [if_pos hm]
    obtain ⟨bi, e1, h1⟩ := hh
    exact ⟨some bi, e1, h1⟩
  · rw [if_neg hm] at hh ⊢
    rw [if_neg hm]
    exact ⟨none, hh, rfl⟩
theorem own_base11 {w : World} {B B' : Nat} {e : TypeId} {sz n : Nat} {v : Value} {xs : List Value} (h : w.ownsRow B e sz v n xs) (hB : B' ≤ B) : w.ownsRow B' e sz v n xs := by
  refine ⟨h.1, ?_⟩
  rcases h.2 with h0 | ⟨g, cap', cur, hv, hb, r⟩
  · exact .inl h0
  · exact .inr ⟨g, cap', cur, hv, Nat.le_trans hB hb, r⟩
end Go.Proofs.YtnhljlmelbiljaaGreat

/- General: a region that draws its order and only reads, within a round of a range over a function: by the walk outside a fence. -/
namespace Go.Proofs.YtnhljlmelbiljaaGreat
set_option linter.unusedVariables false
open Go Go.RowKit Go.Shelf

theorem upon_round {P : Program} {n l : Nat} {o : Oper} {a : Act} {K : Act → World → Prop} {Q : Exit → Act → World → Prop} : ∀ {r : Result Next}, o.upon P a K Q r → o.uponIn (Fence.wide.inRound l) n P a K Q r
  | .ok (.value v) w, h => h
  | .ok .skip w, h => h
  | .ok (.defer d) w, h => h
  | .ok (.enter f args) w, h => ⟨(fun e => by cases e), (callsIn_wide (n := n - 1)).2 h⟩
  | .ok (.row row args) w, h => ⟨(fun e => by cases e), fun c cs _ => by
      obtain ⟨v, w', r, s⟩ := h c cs
      exact ⟨v, w', r, stepsIn_wide.2 s⟩⟩
  | .halt (.panic v) w, h => h
theorem wpAny_round {P : Program} {md : Region.Mode} {n l : Nat} {ops : Array Oper} {Q : Exit → Act → World → Prop} (hnd : ∀ (j : Nat) (o : Oper), ops[j]? = some o → ∀ c, o.op ≠ .defer c) (hnr : ¬ LetsOut Q) : ∀ (fuel : Nat) (listed : Array Bool) (a : Act) (w : World),
    wpAny P md ops Q fuel listed a w → wpAnyIn (Fence.wide.inRound l) n P md ops Q fuel listed a w
  | 0, _, _, _, h => h
  | fuel + 1, listed, a, w, h => by
    refine ⟨h.1, fun i hi => ?_⟩
    have hh := h.2 i hi
    unfold wpOp at hh
    unfold wpOpIn
    cases ho : ops[i]? with
    | none => rw [ho] at hh; exact wpAny_round hnd hnr fuel _ a w hh
    | some o =>
      rw [ho] at hh
      simp only at hh ⊢
      by_cases hw : Region.wanted o (yielded ops a.tmps) = true
      · rw [if_pos hw] at hh ⊢
        rcases hh with hh | hh
        · refine ⟨fun _ _ => trivial, ?_⟩
          show o.uponIn _ n P a _ Q ((o.semAt (some l) a.eval).run P w)
          rw [Oper.semAt_some l a.eval o (hnd i o ho)]
          have hh : o.upon P a (wpAny P md ops Q fuel (listed.setIfInBounds i true)) Q ((execOp a.eval o).run P w) := hh
          have key : ∀ {r : Result Next}, o.upon P a (wpAny P md ops Q fuel (listed.setIfInBounds i true)) Q r → o.upon P a (wpAnyIn (Fence.wide.inRound l) n P md ops Q fuel (listed.setIfInBounds i true)) Q r := by
            intro r hr
            cases r with
            | ok x w' =>
              cases x with
              | value v => exact wpAny_round hnd hnr fuel _ _ _ hr
              | skip => exact wpAny_round hnd hnr fuel _ _ _ hr
              | defer d => exact wpAny_round hnd hnr fuel _ _ _ hr
              | enter f args =>
                refine Calls.mono (R := _) hr ?_
                rintro (v | ch | _) w'' hq
                · exact wpAny_round hnd hnr fuel _ _ _ hq
                · exact hq
                · exact hq
              | row row args => exact Rows.mono hr (fun v w'' hq => wpAny_round hnd hnr fuel _ _ _ hq)
              | _ => exact hr.elim
            | halt x w' =>
              cases x with
              | panic v => exact hr
              | _ => exact hr.elim
          exact upon_round (key hh)
        · exact absurd hh.2 hnr
      · rw [if_neg hw] at hh ⊢
        exact ⟨fun _ _ => trivial, wpAny_round hnd hnr fuel _ _ _ hh⟩
def noDefer (ops : Array Oper) : Bool := ops.all (fun o => match o.op with | .defer _ => false | _ => true)
theorem noDefer_spec {ops : Array Oper} (h : noDefer ops = true) : ∀ (j : Nat) (o : Oper), ops[j]? = some o → ∀ c, o.op ≠ .defer c := fun j o ho c e => by
  unfold noDefer at h
  rw [Array.all_eq_true] at h
  obtain ⟨hj, hv⟩ := Array.getElem?_eq_some_iff.1 ho
  have := h j hj
  rw [hv, e] at this
  cases this
theorem wpIn_region_quiet_round {P : Program} {n lp id : Nat} {Q : Exit → Act → World → Prop} {a : Act} {w : World} {l : List Oper} (hm : P.follows .mixedOrders = true) (hB : Region.lexB .any l.toArray = true) (hnd : noDefer l.toArray = true) (hnr : ¬ LetsOut Q)
    (h : wpQuiet P l.toArray (fun w' => ∃ n, w' = w.drewN n) (fun a' => ∀ w', (∃ n, w' = w.drewN n) → Q .normal a' w') l a) : (Code.region id l.toArray true).wpIn (Fence.wide.inRound lp) n P Q a w := by
  refine wpIn_region_any hm (wpAny_round (noDefer_spec hnd) hnr _ _ _ _ ?_)
  simp only [Region.lexB, Bool.and_eq_true] at hB
  refine wpAny_of_quiet (C := fun w' => ∃ n, w' = w.drewN n) (Q := fun a' => ∀ w', (∃ n, w' = w.drewN n) → Q .normal a' w') (fun _ w' hw' h => h w' hw') _ _ _ _ ⟨1, rfl⟩ ?_
  have := wpAnyQ_lex (C := fun w' => ∃ n, w' = w.drewN n) (md := .any) hB.1 l.toArray.toList 0 (Array.replicate l.toArray.size false) a (by simp) (by simpa using hB.2) (by simpa using h)
  simpa using this

end Go.Proofs.YtnhljlmelbiljaaGreat

/- Layer 11: the program's Newest, by a contract. -/
namespace Go.Proofs.YtnhljlmelbiljaaGreat
set_option linter.unusedVariables false
open Go Go.RowKit Go.Shelf
attribute [local go_sem ↓] run_index_S
attribute [local go_sem] S_append S_extract
attribute [local go_sem] Oper.semAt_some

/-- Of each key the first, as they come. -/
def M.nwAdd (out : List M.Cl) (c : M.Cl) : List M.Cl := match out.getLast? with
  | none => out ++ [c]
  | some d => if d.key = c.key then out else out ++ [c]
def M.nw (L : List M.Cl) : List M.Cl := L.foldl M.nwAdd []
theorem M.nw_snoc (L : List M.Cl) (c : M.Cl) : M.nw (L ++ [c]) = M.nwAdd (M.nw L) c := by simp [M.nw]
theorem M.nwAdd_len (out : List M.Cl) (c : M.Cl) : (M.nwAdd out c).length ≤ out.length + 1 := by
  unfold M.nwAdd
  split
  · simp
  · split <;> simp
theorem M.nw_len_aux : ∀ (L out : List M.Cl), (L.foldl M.nwAdd out).length ≤ out.length + L.length
  | [], out => by simp
  | c :: L, out => by
    have h1 := M.nw_len_aux L (M.nwAdd out c)
    have h2 := M.nwAdd_len out c
    simp only [List.foldl_cons, List.length_cons] at *
    omega
theorem M.nw_len (L : List M.Cl) : (M.nw L).length ≤ L.length := by
  have := M.nw_len_aux L []
  simpa [M.nw] using this
theorem own_off11 {w : World} {B n cap q off sz : Nat} {e : TypeId} {ao : Option Addr} {xs : List Value} (h : w.ownsRow B e sz (.slice ao n cap) n xs) (hn : n ≠ 0) (ha : ao = some ⟨q, off, none⟩) : off = 0 := by
  rcases h.2 with ⟨_, h0⟩ | ⟨g, cap', cur, hv, _⟩
  · exact absurd h0 hn
  · cases hv; injection ha with ha; injection ha with _ ha; exact ha.symm
theorem Col11.same {f : List M.Cl → List M.Cl} {N lb : Nat} {w0 : World} {tc : Nat} {pre pre' : List M.Cl} {W : World} (h : Col11 f N lb w0 tc pre W) (e : f pre' = f pre) : Col11 f N lb w0 tc pre' W := by
  refine ⟨?_, h.bel, h.ne, h.nsz, h.tcw, h.nw⟩
  rw [e]
  exact h.out
set_option maxHeartbeats 4000000 in
set_option maxRecDepth 100000 in
theorem newest11_in (n : Nat) (hn : 4 ≤ n) (Rs : List M.Rw) (hR : RsOk Rs) (ao : Option Addr) (cap : Nat) (w : World) (h : RwsAt w ao Rs) :
    CallsIn Fence.wide n Tryz.prog 33 #[.slice ao Rs.length cap] w (AllR M.nw Rs w) := by
  have h1 : 1 ≤ n := by omega
  have CN := Lib.hid (new11_O Rs hR ao cap w h)
  clear h
  refine callsIn_of_wp_marks Tryz.func33 rfl trivial ?_ rfl
  simp only [Tryz.ntmps33, List.size_toArray, List.length_cons, List.length_nil, Nat.reduceAdd, Nat.reduceSub, Array.replicate_succ, Array.replicate_zero, List.push_toArray, List.append_toArray, List.nil_append, List.cons_append]
  gi_wp2
  refine ⟨trivial, (callsIn_wide.2 (CN.out)).mono ?_⟩
  rintro e w1 ⟨hb1, p, rfl, hI1⟩
  obtain ⟨er, her⟩ : ∃ er : Int, er = if M.mayR Rs = true then 0 else 2 := ⟨_, rfl⟩
  obtain ⟨LM, hLM⟩ : ∃ l, l = if M.mayR Rs = true then M.mrg (M.rls Rs) else [] := ⟨_, rfl⟩
  rw [← her]
  rw [← hLM] at hI1
  have HE := Lib.hid (And.intro her hLM)
  have HI1 := Lib.hid hI1
  have HB1 := Lib.hid hb1
  clear her hLM hI1 hb1 CN
  have CE := Lib.hid (fun W => each11F_any p W)
  gi_wp2
  refine ⟨trivial, (callsIn_wide.2 (CE.out _)).mono ?_⟩
  rintro e w2 ⟨rfl, rfl⟩
  gi_wp2
  have hb1 : Below w.heap.size w ((w1.alloc (.cells #[.slice none 0 0] 22)).alloc (.cells #[pv11 p] 112)) := (HB1.out.alloc HB1.out.size _).alloc (Nat.le_trans HB1.out.size (by simp)) _
  have hbB : Below w1.heap.size w1 ((w1.alloc (.cells #[.slice none 0 0] 22)).alloc (.cells #[pv11 p] 112)) := ((Below.refl _ _).alloc (Nat.le_refl _) _).alloc (by simp) _
  have hrl : RowIn #[.slice none 0 0] 22 ((w1.alloc (.cells #[.slice none 0 0] 22)).alloc (.cells #[pv11 p] 112)) w1.heap.size := (rowIn_new _ _ _).more _
  have hrb : RowIn #[pv11 p] 112 ((w1.alloc (.cells #[.slice none 0 0] 22)).alloc (.cells #[pv11 p] 112)) (w1.heap.size + 1) := by
    have := rowIn_new #[pv11 p] 112 (w1.alloc (.cells #[.slice none 0 0] 22))
    rwa [World.size_alloc] at this
  have hI2 := HI1.out.below hbB
  have hsz := hbB.size
  have hwl := HB1.out.size
  have hszE : ((w1.alloc (.cells #[.slice none 0 0] 22)).alloc (.cells #[pv11 p] 112)).heap.size = w1.heap.size + 2 := by simp
  obtain ⟨i0, z0, hi0, hz0, h01, h02, h03⟩ := infoCl_parts
  have hLl : LM.length ≤ 900000 := by
    rw [HE.out.2]
    by_cases hm : M.mayR Rs = true
    · rw [if_pos hm, M.mrg_len]; exact hR.tot
    · rw [if_neg hm]; simp
  generalize ((w1.alloc (.cells #[.slice none 0 0] 22)).alloc (.cells #[pv11 p] 112)) = W0 at *
  refine wpIn_rangeFunc_it11 h1 (by omega) (bx := w1.heap.size + 1) rfl rfl w.heap.size w1.heap.size p LM hrb hI2 (Nat.le_trans hwl hsz) hsz
    (Col11 M.nw w1.heap.size w1.heap.size w) (fun tc pre W W' hh hk hb => hh.next hk hb) (fun tc pre W W' hh ht _ => hh.two ht) (fun tc pre W W' row hh hg hr => hh.walk hg (fun r e => ⟨by have := (hr r e).1; omega, (hr r e).2⟩))
    (fun tc W' htc hk hb => ⟨⟨none, 0, hk.row hrl (by decide) (by decide), World.ownsRow_nil _ _ _ _, by simp [Value.ownBlock]⟩, hb1.trans hb, by omega, Nat.le_trans hsz hk.size, by omega, hwl⟩)
    (fun x cb => { tmps := #[.slice ao Rs.length cap, undef, .slice none 0 0, .int .i64 0, pv11 p, .int .i64 er, .pointer (some ⟨w1.heap.size, 0, none⟩), .pointer (some ⟨cb, 0, none⟩), .tuple #[pv11 p, .int .i64 er], .slice ao Rs.length cap, .tuple #[pv11 p, .int .i64 er], pv11 p, .int .i64 er, pv11 p, .func (.func 87) #[] #[.pointer (some ⟨w1.heap.size + 1, 0, none⟩)], .agg (clA x), undef, undef, undef, undef, undef, undef, undef, undef, undef, undef, undef, undef, undef, undef, undef, undef, undef, undef, undef, undef, undef], defers := [] }) ?assign ?body ?done
  case assign =>
    intro lp x W K hK
    gi_wp2
    exact hK
  case body =>
    rintro lp tc cb pre x rest W hcb hc hIt ht1 hbW hL
    obtain ⟨ao2, cap2, ho, hr, hne⟩ := hc.out
    have hnl : (M.nw pre).length ≤ pre.length := M.nw_len pre
    have hl2 : (M.nw pre).length + 1 ≤ 1000000 := by
      have : pre.length ≤ LM.length := by rw [hL]; simp
      omega
    have HC := Lib.hid hc
    have HIt := Lib.hid (And.intro hIt (And.intro ht1 hbW))
    have HNA := Lib.hid (M.nw_snoc pre x)
    have HR := Lib.hid (And.intro ho (And.intro hr hne))
    obtain ⟨K, hKf⟩ : ∃ K, K = M.nw pre := ⟨_, rfl⟩
    rw [← hKf] at ho hr hne hl2 HNA HR
    have HKF := Lib.hid hKf
    clear hKf hnl hIt ht1 hbW hne
    have o0 : W.cell? ⟨w1.heap.size, 0, none⟩ = some (.slice ao2 K.length cap2) := ho.cell 0
    have c0 : W.cell? ⟨cb, 0, none⟩ = some (.string (S x.key)) := hcb.cell 0
    have HCB := Lib.hid hcb
    clear hcb hc
    cases hlast : K.getLast? with
    | none =>
      have HFN := Lib.hid (show M.nw (pre ++ [x]) = M.nw pre ++ [x] from by rw [HNA.out, M.nwAdd, hlast, HKF.out])
      have hK0 : K.length = 0 := by rw [List.getLast?_eq_none_iff.1 hlast]; rfl
      have d0 : ((K.length : Int) == 0) = true := by rw [hK0]; rfl
      have d1 : decide ((K.length : Int) = 0) = true := by rw [hK0]; rfl
      clear hlast hK0
      gi_wp2
      refine wpIn_region_quiet_round (by kernel_rfl) (by kernel_rfl) (by kernel_rfl) (by rintro ⟨a, w, h⟩; simp only [Exit.then, Exit.inBlock] at h; exact absurd h.1 (by simp)) ?_
      repeat (go_big_quiet_step (fail))
      refine wpQuiet_nil ?_
      intro _ hw'
      obtain ⟨nq, hw''⟩ := hw'
      subst hw''
      have hbq : Below W.heap.size W (W.drewN nq) := below_drewN (Below.refl _ _) nq
      obtain ⟨Wq, hWq⟩ : ∃ x, x = W.drewN nq := ⟨_, rfl⟩
      rw [← hWq] at hbq ⊢
      clear hWq
      have HKO := Lib.hid (show KeepsOthers W Wq from ⟨hbq.size, fun k o hk _ => (hbq.block k (Array.getElem?_eq_some_iff.1 hk).1).trans hk⟩)
      replace HC := Lib.hid (HC.out.next (.below hbq) (hbq.mono HC.out.bel.size))
      replace HIt := Lib.hid (And.intro (HIt.out.1.below hbq) (And.intro (HIt.out.2.1.below hbq) (HIt.out.2.2.below hbq)))
      replace ho := HR.out.1.below hbq
      replace hr := own_below11 HR.out.2.1 hbq
      have hne := HR.out.2.2
      have hcb := HCB.out.below hbq
      clear hbq o0 c0
      have o0 : Wq.cell? ⟨w1.heap.size, 0, none⟩ = some (.slice ao2 K.length cap2) := ho.cell 0
      have c0 : Wq.cell? ⟨cb, 0, none⟩ = some (.string (S x.key)) := hcb.cell 0
      have c1 : Wq.cell? ⟨cb, 1, none⟩ = some (.int .i64 x.seq) := hcb.cell 1
      have c2 : Wq.cell? ⟨cb, 2, none⟩ = some (.string (S x.val)) := hcb.cell 2
      have hlb := row_apart ho hr (by decide)
      have HWa := Lib.hid ((Below.refl Wq.heap.size Wq).alloc (Nat.le_refl _) (.cells (clA x) 38))
      have hNW := HC.out.nsz
      gi_wp2_with (gi_at_builtin; refine wpListIn_append_own_at _ rfl _ _ 22 rfl w1.heap.size 38 i0 z0 3 40 Tryz.underlying22 hi0 hz0 h01 h02 h03 (by decide) (.slice ao2 K.length cap2) K.length (cls K) rfl (hr.alloc _) ⟨Wq.heap.size, 0, none⟩ 1 1 (clL x) rfl rfl (cl_new Wq x _) (clL_oneC x) (by unfold maxLen; omega) (by omega) (by rw [World.size_alloc]; omega) ?_; intro v' wN hown hg _ h7; obtain ⟨ao3, cap3, rfl⟩ := ownP_shape hown; have hrN : RowIn #[.slice ao2 K.length cap2] 22 wN w1.heap.size := (hg.block _ (ho.more (.cells (clA x) 38)).lt (fun e => hlb _ e.symm rfl)).trans (ho.more (.cells (clA x) 38)); have n0 : wN.cell? ⟨w1.heap.size, 0, none⟩ = some (.slice ao2 K.length cap2) := hrN.cell 0; have f0 := hrN.free 0)
      have hKf := HKF.out
      have hNA := HNA.out
      rw [hKf] at ho hr hne hg hown h7 hrN hNA
      obtain ⟨q1, q2, q3, q4, q5, q6⟩ := col_put11 (f := M.nw) (pre := pre) (x := x) (ao' := ao3) (cap' := cap3) HC.out ho hr hne (((Two.below HWa.out).trans (Two.of hg) (fun q e => .inl e)).set (p := ⟨w1.heap.size, 0, none⟩) rfl (.slice ao3 ((M.nw pre).length + 1) cap3)) (hrN.set 0 (.slice ao3 ((M.nw pre).length + 1) cap3)) (ownsRow_setCell_other hown (fun e => row_apart hrN hown (by decide) _ e rfl) _) (h7.imp (fun e => e) (fun e => ⟨_, e, HWa.out.size⟩)) HFN.out HIt.out.1 HIt.out.2.1 HIt.out.2.2 (Nat.le_refl _) hwl
      rw [← hKf] at q1 q2 q3 q4 q5 q6
      exact ⟨HKO.out.trans q1, q2, q3, q4, q5, by simpa using q6⟩
    | some d =>
      have hK1 : K.length ≠ 0 := fun e => by rw [List.eq_nil_of_length_eq_zero e] at hlast; cases hlast
      have hgd : K.getD (K.length - 1) M.cl0 = d := by rw [List.getLast?_eq_getElem?] at hlast; simp [List.getD, hlast]
      obtain ⟨gk, eg, hgk⟩ := (clsAt_own hr rfl).off (K.length - 1) (by omega)
      obtain ⟨hgk1, hgk2⟩ := hgk
      rw [hgd] at hgk2
      have eo : eg = 0 := own_off11 hr hK1 hgk1
      subst eo
      subst hgk1
      have k0 := hgk2.1
      rw [Nat.zero_add] at k0
      have d0 : ((K.length : Int) == 0) = false := by rw [beq_eq_false_iff_ne]; omega
      have d1 : decide ((K.length : Int) = 0) = false := by rw [decide_eq_false_iff_not]; omega
      obtain ⟨km, hkm⟩ : ∃ m, K.length = m + 1 := ⟨K.length - 1, by omega⟩
      have e1 : (K.length : Int) - 1 = (km : Int) := by omega
      have hlt : (km : Int) < (K.length : Int) := by omega
      rw [show K.length - 1 = km from by omega] at k0
      clear hgd hgk2 hK1 hkm
      by_cases hk : d.key = x.key
      · have HFN := Lib.hid (show M.nw (pre ++ [x]) = M.nw pre from by rw [HNA.out, M.nwAdd, hlast]; simp only; rw [if_pos hk, HKF.out])
        have b1 : (d.key == x.key) = true := by simpa using hk
        have b2 : (d.key != x.key) = false := by simpa using hk
        clear hlast hk
        gi_wp2
        refine wpIn_region_quiet_round (by kernel_rfl) (by kernel_rfl) (by kernel_rfl) (by rintro ⟨a, w, h⟩; simp only [Exit.then, Exit.inBlock] at h; exact absurd h.1 (by simp)) ?_
        repeat (go_big_quiet_step (fail))
        refine wpQuiet_nil ?_
        intro _ hw'
        obtain ⟨nq, hw''⟩ := hw'
        subst hw''
        have hbq : Below W.heap.size W (W.drewN nq) := below_drewN (Below.refl _ _) nq
        obtain ⟨Wq, hWq⟩ : ∃ x, x = W.drewN nq := ⟨_, rfl⟩
        rw [← hWq] at hbq ⊢
        clear hWq
        have HKO := Lib.hid (show KeepsOthers W Wq from ⟨hbq.size, fun k o hk _ => (hbq.block k (Array.getElem?_eq_some_iff.1 hk).1).trans hk⟩)
        replace HC := Lib.hid (HC.out.next (.below hbq) (hbq.mono HC.out.bel.size))
        replace HIt := Lib.hid (And.intro (HIt.out.1.below hbq) (And.intro (HIt.out.2.1.below hbq) (HIt.out.2.2.below hbq)))
        clear hbq k0 c0 o0
        gi_wp2
        exact ⟨HKO.out, HC.out.same HFN.out, HIt.out.1, HIt.out.2.1, HIt.out.2.2, Nat.le_trans hwl HC.out.nsz⟩
      · have HFN := Lib.hid (show M.nw (pre ++ [x]) = M.nw pre ++ [x] from by rw [HNA.out, M.nwAdd, hlast]; simp only; rw [if_neg hk, HKF.out])
        have b1 : (d.key == x.key) = false := by simpa using hk
        have b2 : (d.key != x.key) = true := by simpa using hk
        clear hlast hk
        gi_wp2
        refine wpIn_region_quiet_round (by kernel_rfl) (by kernel_rfl) (by kernel_rfl) (by rintro ⟨a, w, h⟩; simp only [Exit.then, Exit.inBlock] at h; exact absurd h.1 (by simp)) ?_
        repeat (go_big_quiet_step (fail))
        refine wpQuiet_nil ?_
        intro _ hw'
        obtain ⟨nq, hw''⟩ := hw'
        subst hw''
        have hbq : Below W.heap.size W (W.drewN nq) := below_drewN (Below.refl _ _) nq
        obtain ⟨Wq, hWq⟩ : ∃ x, x = W.drewN nq := ⟨_, rfl⟩
        rw [← hWq] at hbq ⊢
        clear hWq
        have HKO := Lib.hid (show KeepsOthers W Wq from ⟨hbq.size, fun k o hk _ => (hbq.block k (Array.getElem?_eq_some_iff.1 hk).1).trans hk⟩)
        replace HC := Lib.hid (HC.out.next (.below hbq) (hbq.mono HC.out.bel.size))
        replace HIt := Lib.hid (And.intro (HIt.out.1.below hbq) (And.intro (HIt.out.2.1.below hbq) (HIt.out.2.2.below hbq)))
        clear k0
        replace ho := HR.out.1.below hbq
        replace hr := own_below11 HR.out.2.1 hbq
        have hne := HR.out.2.2
        have hcb := HCB.out.below hbq
        clear hbq o0 c0
        have o0 : Wq.cell? ⟨w1.heap.size, 0, none⟩ = some (.slice (some ⟨gk, 0, none⟩) K.length cap2) := ho.cell 0
        have c0 : Wq.cell? ⟨cb, 0, none⟩ = some (.string (S x.key)) := hcb.cell 0
        have c1 : Wq.cell? ⟨cb, 1, none⟩ = some (.int .i64 x.seq) := hcb.cell 1
        have c2 : Wq.cell? ⟨cb, 2, none⟩ = some (.string (S x.val)) := hcb.cell 2
        have hlb := row_apart ho hr (by decide)
        have HWa := Lib.hid ((Below.refl Wq.heap.size Wq).alloc (Nat.le_refl _) (.cells (clA x) 38))
        have hNW := HC.out.nsz
        gi_wp2_with (gi_at_builtin; refine wpListIn_append_own_at _ rfl _ _ 22 rfl w1.heap.size 38 i0 z0 3 40 Tryz.underlying22 hi0 hz0 h01 h02 h03 (by decide) (.slice (some ⟨gk, 0, none⟩) K.length cap2) K.length (cls K) rfl (hr.alloc _) ⟨Wq.heap.size, 0, none⟩ 1 1 (clL x) rfl rfl (cl_new Wq x _) (clL_oneC x) (by unfold maxLen; omega) (by omega) (by rw [World.size_alloc]; omega) ?_; intro v' wN hown hg _ h7; obtain ⟨ao3, cap3, rfl⟩ := ownP_shape hown; have hrN : RowIn #[.slice (some ⟨gk, 0, none⟩) K.length cap2] 22 wN w1.heap.size := (hg.block _ (ho.more (.cells (clA x) 38)).lt (fun e => hlb _ e.symm rfl)).trans (ho.more (.cells (clA x) 38)); have n0 : wN.cell? ⟨w1.heap.size, 0, none⟩ = some (.slice (some ⟨gk, 0, none⟩) K.length cap2) := hrN.cell 0; have f0 := hrN.free 0)
        have hKf := HKF.out
        have hNA := HNA.out
        rw [hKf] at ho hr hne hg hown h7 hrN hNA
        obtain ⟨q1, q2, q3, q4, q5, q6⟩ := col_put11 (f := M.nw) (pre := pre) (x := x) (ao' := ao3) (cap' := cap3) HC.out ho hr hne (((Two.below HWa.out).trans (Two.of hg) (fun q e => .inl e)).set (p := ⟨w1.heap.size, 0, none⟩) rfl (.slice ao3 ((M.nw pre).length + 1) cap3)) (hrN.set 0 (.slice ao3 ((M.nw pre).length + 1) cap3)) (ownsRow_setCell_other hown (fun e => row_apart hrN hown (by decide) _ e rfl) _) (h7.imp (fun e => e) (fun e => ⟨_, e, HWa.out.size⟩)) HFN.out HIt.out.1 HIt.out.2.1 HIt.out.2.2 (Nat.le_refl _) hwl
        rw [← hKf] at q1 q2 q3 q4 q5 q6
        exact ⟨HKO.out.trans q1, q2, q3, q4, q5, by simpa using q6⟩
  case done =>
    rintro D tc W hD hc hK
    obtain ⟨ao2, cap2, ho, hr, hne⟩ := hc.out
    have o0 : W.cell? ⟨w1.heap.size, 0, none⟩ = some (.slice ao2 (M.nw LM).length cap2) := ho.cell 0
    gi_wp2
    have hKz := hc.bel.size
    refine ⟨by simp, .inl ⟨_, _, rfl, run_takeDeferred hK, ?_⟩⟩
    have hR5 := ownsRow_putObj hr (.deferred none) hK rfl
    have hL5 : Below w.heap.size w (W.putObj D (.deferred none)) := hc.bel.grown (grownBy_putObj' W D _) hKz (fun k e => by injection e with e; omega)
    generalize W.putObj D (.deferred none) = WZ at *
    refine ⟨.tuple #[.slice ao2 (M.nw LM).length cap2, .int .i64 er], by simp [results, Tryz.f33, go_sem], ?_⟩
    obtain ⟨he, hl⟩ := HE.out
    have hL : (if M.mayR Rs = true then M.nw (M.mrg (M.rls Rs)) else []) = M.nw LM := by
      rw [hl]
      by_cases hm : M.mayR Rs = true
      · rw [if_pos hm, if_pos hm]
      · rw [if_neg hm, if_neg hm]; rfl
    refine ⟨ao2, cap2, ?_, ?_, hL5⟩
    · rw [hL, ← he]
    · rw [hL]
      exact own_base11 hR5 hwl

theorem newest11_any (Rs : List M.Rw) (hR : RsOk Rs) (ao : Option Addr) (cap : Nat) (w : World) (h : RwsAt w ao Rs) : Calls Tryz.prog 33 #[.slice ao Rs.length cap] w (AllR M.nw Rs w) :=
  callsIn_wide.1 (newest11_in 4 (by omega) Rs hR ao cap w h)

end Go.Proofs.YtnhljlmelbiljaaGreat
