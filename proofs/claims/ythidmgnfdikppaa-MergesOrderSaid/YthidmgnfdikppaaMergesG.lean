/- Layer 11: the row behind the interface: a head laid behind, the last one taken off, by contracts. -/
import Derived.Test.YthidmgnfdikppaaMergesF
namespace Go.Proofs.Ythidmgnfdikppaa
set_option linter.unusedVariables false
open Go Go.RowKit
attribute [local go_sem ↓] run_index_S
attribute [local go_sem] S_append S_extract

theorem infoHd : (Try.prog.info? 127).map (fun i => (i.zero.map (fun z => z.cells.size), i.size, i.bytes)) = some (some 5, 5, 72) := by kernel_rfl
theorem infoHd_parts : ∃ (i0 : TypeInfo) (z : Value), Try.prog.info? 127 = some i0 ∧ i0.zero = some z ∧ i0.size = 5 ∧ i0.bytes = 72 ∧ z.cells.size = 5 := by
  have h := infoHd
  cases hi : Try.prog.info? 127 with
  | none => rw [hi] at h; cases h
  | some i0 =>
    rw [hi] at h
    cases hz : i0.zero with
    | none => simp [hz] at h
    | some z =>
      simp [hz] at h
      exact ⟨i0, z, rfl, hz, h.2.1, h.2.2, h.1⟩
/-- What an append of one head comes to. -/
theorem append_hd (w : World) (base : Nat) (t ty : TypeId) (ht : Try.prog.underlying t = some (.slice 127))
    (v : Value) (n : Nat) (xs : List Value) (ho : w.ownsRow base 127 5 v n xs) (x : M.Hd) (ad : Addr) (hx : ∀ j u, (hdL x)[j]? = some u → w.cell? (ad.add j) = some u) (h63 : n + 1 ≤ 1000000) (hbase : base ≤ w.heap.size) :
    ∃ v' w', (Builtin.append_ #[t, t] ty #[v, .slice (some ad) 1 1]).run Try.prog w = .ok v' w' ∧ w'.ownsRow base 127 5 v' (n + 1) (xs ++ hdL x) ∧ w.grownBy w' v.ownBlock ∧ (v'.ownBlock = v.ownBlock ∨ v'.ownBlock = some w.heap.size) := by
  obtain ⟨i, z, hi, hz, h1, h2, h3⟩ := infoHd_parts
  obtain ⟨v', w', hr, h5, h6, _, h7⟩ := run_append_own_at (P := Try.prog) w base t ty 127 i z 5 72 ht hi hz h1 h2 h3 (by decide) v n xs ho ad 1 1 (hdL x) rfl hx (hdL_oneC x) (by unfold maxLen; omega) (by omega) hbase
  exact ⟨v', w', hr, h5, h6, h7⟩
theorem wp_append_hd {w : World} {o : Oper} {a : Act} {K : Act → World → Prop} {Q : Exit → Act → World → Prop} (s y : Operand) (t : TypeId)
    (hop : o.op = .call { callee := .builtin .append, args := #[s, y], argTypes := #[t, t] })
    (base : Nat) (ht : Try.prog.underlying t = some (.slice 127))
    (v : Value) (n : Nat) (xs : List Value) (hv : a.eval s = v) (ho : w.ownsRow base 127 5 v n xs) (x : M.Hd) (ad : Addr) (hy : a.eval y = .slice (some ad) 1 1) (hx : ∀ j u, (hdL x)[j]? = some u → w.cell? (ad.add j) = some u) (h63 : n + 1 ≤ 1000000) (hbase : base ≤ w.heap.size)
    (h : ∀ v' w', w'.ownsRow base 127 5 v' (n + 1) (xs ++ hdL x) → w.grownBy w' v.ownBlock → (v'.ownBlock = v.ownBlock ∨ v'.ownBlock = some w.heap.size) → K (a.put o.dst v') w') :
    Oper.wp Try.prog o a w K Q := by
  obtain ⟨v', w', hrun, h5, h6, h7⟩ := append_hd w base t o.type ht v n xs ho x ad hx h63 hbase
  unfold Oper.wp execOp
  simp only [hop, resolve, invoke, builtin, Sem.run_bind, Sem.run_pure, Result.andThen_ok, List.map_toArray, List.map_cons, List.map_nil, hv, hy, hrun]
  exact h v' w' h5 h6 h7
theorem hd_new (w : World) (x : M.Hd) (T : TypeId) : ∀ j u, (hdL x)[j]? = some u → (w.alloc (.cells (hdA x) T)).cell? ((⟨w.heap.size, 0, none⟩ : Addr).add j) = some u := by
  intro j u h
  have hadd : (⟨w.heap.size, 0, none⟩ : Addr).add j = ⟨w.heap.size, j, none⟩ := by unfold Addr.add; split <;> simp_all
  rw [hadd, (rowIn_new _ T w).cell j]
  simpa [hdA, hdL] using h
/-- All blocks but two stay. -/
structure Two (a : Nat) (row : Option Nat) (w w' : World) : Prop where
  os : w'.os = w.os
  tape : w'.tape = w.tape
  output : w'.output = w.output
  size : w.heap.size ≤ w'.heap.size
  block : ∀ k, k < w.heap.size → k ≠ a → some k ≠ row → w'.heap[k]? = w.heap[k]?
theorem Two.refl (a : Nat) (row : Option Nat) (w : World) : Two a row w w := ⟨rfl, rfl, rfl, Nat.le_refl _, fun _ _ _ _ => rfl⟩
theorem Two.of {a : Nat} {row : Option Nat} {w w' : World} (h : w.grownBy w' row) : Two a row w w' := ⟨h.os, h.tape, h.output, h.size, fun k hk _ hr => h.block k hk hr⟩
theorem Two.below {a : Nat} {row : Option Nat} {w w' : World} (h : Below w.heap.size w w') : Two a row w w' := ⟨h.os, h.tape, h.output, h.size, fun k hk _ hr => h.block k hk⟩
theorem Two.trans {a : Nat} {r r' : Option Nat} {w w1 w2 : World} (h : Two a r w w1) (k : Two a r' w1 w2) (hr : ∀ q, r' = some q → r = some q ∨ w.heap.size ≤ q) : Two a r w w2 :=
  ⟨k.os.trans h.os, k.tape.trans h.tape, k.output.trans h.output, Nat.le_trans h.size k.size, fun q hq ha hne => (k.block q (Nat.lt_of_lt_of_le hq h.size) ha (fun e => by
    rcases hr q e.symm with e1 | e1
    · exact hne e1.symm
    · omega)).trans (h.block q hq ha hne)⟩
theorem Two.cell {a : Nat} {row : Option Nat} {w w' : World} (h : Two a row w w') {p : Addr} {v : Value} (hc : w.cell? p = some v) (h1 : p.block ≠ a) (h2 : some p.block ≠ row) : w'.cell? p = some v :=
  (World.cell?_of_block (h.block p.block (World.block_lt_of_cell? w p hc) h1 h2)).trans hc
theorem Two.toBelow {B a : Nat} {row : Option Nat} {w w' : World} (h : Two a row w w') (ha : B ≤ a) (hr : ∀ q, row = some q → B ≤ q) (hB : B ≤ w.heap.size) : Below B w w' :=
  ⟨h.os, h.tape, h.output, h.size, fun k hk => h.block k (by omega) (by omega) (fun e => by have := hr k e.symm; omega)⟩
theorem Two.set {a : Nat} {row : Option Nat} {w w' : World} (h : Two a row w w') {p : Addr} (hp : p.block = a) (v : Value) : Two a row w (w'.setCell p v) :=
  ⟨h.os, h.tape, h.output, by simpa using h.size, fun k hk ha hr => by rw [Below.heap_setCell _ _ _ _ (by rw [hp]; exact ha)]; exact h.block k hk ha hr⟩
/-- A box with a row of heads, or none. -/
structure Hq (B bi : Nat) (ao : Option Addr) (n cap : Nat) (H : List M.Hd) (w : World) : Prop where
  row : RowIn #[.slice ao n cap] 71 w bi
  own : w.ownsRow B 127 5 (.slice ao n cap) n (hds H)
  len : H.length = n
  base : B ≤ w.heap.size
theorem Hq.ne {B bi : Nat} {ao : Option Addr} {n cap : Nat} {H : List M.Hd} {w : World} (h : Hq B bi ao n cap H w) : ∀ q, (Value.slice ao n cap).ownBlock = some q → q ≠ bi := row_apart h.row h.own (by decide)
theorem Hq.hv {B bi : Nat} {ao : Option Addr} {n cap : Nat} {H : List M.Hd} {w : World} (h : Hq B bi ao n cap H w) (hn : 0 < n) : ∃ g, ao = some ⟨g, 0, none⟩ ∧ Hv B bi g n cap H w := by
  rcases h.own.2 with ⟨h0, e0⟩ | ⟨g, cap', cur, hv, _⟩
  · omega
  · cases hv
    refine ⟨g, rfl, h.row.cell 0, h.own, h.len, fun e => h.ne g rfl e.symm⟩
theorem Hq.grown {B bi : Nat} {ao : Option Addr} {n cap : Nat} {H H' : List M.Hd} {w w' : World} (h : Hq B bi ao n cap H w) (ho : w'.ownsRow B 127 5 (.slice ao n cap) n (hds H')) (hl : H'.length = n) (hg : w.grownBy w' (Value.slice ao n cap).ownBlock) : Hq B bi ao n cap H' w' :=
  ⟨(hg.block bi h.row.lt (fun e => h.ne bi e.symm rfl)).trans h.row, ho, hl, Nat.le_trans h.base hg.size⟩

theorem ty_heads11 : Try.prog.underlying 69 = some (.slice 127) := by kernel_rfl
def PushR (B bi : Nat) (ao : Option Addr) (n cap : Nat) (H : List M.Hd) (w : World) (e : Ending) (w' : World) : Prop :=
  e = .returned (.tuple #[]) ∧ ∃ ao' cap', Hq B bi ao' (n + 1) cap' H w' ∧ Two bi (Value.slice ao n cap).ownBlock w w' ∧ ∀ q, (Value.slice ao' (n + 1) cap').ownBlock = some q → (Value.slice ao n cap).ownBlock = some q ∨ w.heap.size ≤ q

end Go.Proofs.Ythidmgnfdikppaa
