/- Layer 16: rows of edits of one's own; what the document's Apply tells, in one shape. -/
import Derived.Test.YtfcmjgcjmldpcaaEditsAo
import Derived.Test.YtfcmjgcjmldpcaaEditsAf
namespace Go.Proofs.Ytfcmjgcjmldpcaa
set_option linter.unusedVariables false
set_option linter.unusedSimpArgs false
open Go Go.RowKit

theorem One16.cap {W w : World} {B g c : Nat} {s : Ed.St} {Rk : List Rt} (h : One16 W B s Rk g c w) : ∀ r, r ∈ Rk → r.l.length ≤ r.k := fun r hr => own_cap16 (h.ow.own r hr)
theorem One16.rowSt {W w : World} {B g c B' : Nat} {s : Ed.St} {Rk : List Rt} (h : One16 W B s Rk g c w) {E : Array Value} (hE : BkIn E 24 w B') (hne : B ≠ B') (h0 : W.heap.size ≤ B') (C : Array Value) : One16 W B s Rk g c (w.setRow B' C) :=
  ⟨h.bx.rowOther hne _, h.ow.rowSt hE h0 _, h.T, h.ok, h.b0⟩
theorem refApplyU_any (Rs : List Rt) (hR : RtsOk Rs) (ao : Option Addr) (cap : Nat) (log next : Int) (y : Re) (hfl : y.fs.length ≤ 100000) (hkl : y.key.length ≤ 9223372036854775807) (hfi : ∀ n ∈ y.fs, -9223372036854775808 ≤ n ∧ n ≤ 9223372036854775807) (hcap : ∀ r, r ∈ Rs → r.l.length ≤ r.k) (w : World) (h : TbsAt w ao Rs) (hN : NsAt w y.o y.fs) :
    Calls Try.prog 13 #[.agg #[.slice ao Rs.length cap, .int .i64 log, .int .i64 next], .agg (edA y)] w (ApplyU ⟨tbs Rs, log, next⟩ y w) :=
  (refApply16_any Rs hR ao cap log next y hfl hkl hfi hcap w h hN).mono (fun e w' ⟨hb, h⟩ => by
    rcases h with ⟨t, Rk, g, c, ha, rfl, hO, ht⟩ | ⟨ha, rfl⟩
    · exact ⟨_, _, _, _, _, _, rfl, hb, .inl ⟨rfl, t, Rk, g, rfl, rfl, rfl, rfl, ha, hO, ht⟩⟩
    · exact ⟨_, _, _, _, _, _, rfl, hb, .inr ⟨rfl, ha⟩⟩)
/- A row of edits. -/
def edL (r : Re) : List Value := [.int .i64 r.kind, .int .i64 r.at_, .int .i64 r.file, .slice r.o r.fs.length r.k, .string (S r.key)]
def edC (L : List Re) : List Value := L.flatMap edL
theorem edC_length (L : List Re) : (edC L).length = L.length * 5 := by
  induction L with
  | nil => rfl
  | cons m t ih => simp only [edC, List.flatMap_cons, List.length_append, List.length_cons] at *; rw [ih]; simp [edL]; omega
theorem edC_app (a b : List Re) : edC (a ++ b) = edC a ++ edC b := by simp [edC]
theorem edC_get (L : List Re) (j i : Nat) (hj : j < L.length) (hi : i < 5) : (edC L)[j * 5 + i]? = (edL (L.getD j re0))[i]? := by
  induction L generalizing j with
  | nil => simp at hj
  | cons m t ih =>
    rw [show edC (m :: t) = edL m ++ edC t from by simp [edC]]
    cases j with
    | zero => rw [List.getElem?_append_left (by simp [edL]; omega)]; simp
    | succ j =>
      rw [List.getElem?_append_right (by simp [edL]; omega), show (j + 1) * 5 + i - (edL m).length = j * 5 + i from by simp [edL]; omega, ih j (by simpa using hj)]
      simp
theorem edC_oneC (L : List Re) : ∀ u ∈ edC L, u.oneCell' = true := by
  intro u hu
  obtain ⟨x, _, hx⟩ := List.mem_flatMap.1 hu
  simp [edL] at hx
  rcases hx with rfl | rfl | rfl | rfl | rfl <;> simp [Value.oneCell']
theorem infoEd : (Try.prog.info? 27).map (fun i => (i.zero.map (fun z => z.cells.size), i.size, i.bytes)) = some (some 5, 5, 64) := by kernel_rfl
theorem infoEd_parts : ∃ (i0 : TypeInfo) (z : Value), Try.prog.info? 27 = some i0 ∧ i0.zero = some z ∧ i0.size = 5 ∧ i0.bytes = 64 ∧ z.cells.size = 5 := by
  have h := infoEd
  cases hi : Try.prog.info? 27 with
  | none => rw [hi] at h; cases h
  | some i0 =>
    rw [hi] at h
    cases hz : i0.zero with
    | none => simp [hz] at h
    | some z =>
      simp [hz] at h
      exact ⟨i0, z, rfl, hz, h.2.1, h.2.2, h.1⟩
/-- A row of edits of one's own, whose files lie where they lay. -/
structure DnI (W : World) (D : List Re) (a : Option Addr) (c : Nat) (w : World) : Prop where
  row : w.ownsRow W.heap.size 27 5 (.slice a D.length c) D.length (edC D)
  ns : ∀ r, r ∈ D → NsAt W r.o r.fs
  bel : Below W.heap.size W w
theorem DnI.below {W w w' : World} {D : List Re} {a : Option Addr} {c : Nat} (h : DnI W D a c w) (hb : Below w.heap.size w w') : DnI W D a c w' := ⟨own_below16 h.row hb, h.ns, h.bel.trans (hb.mono h.bel.size)⟩
theorem DnI.rowSt {W w : World} {D : List Re} {a : Option Addr} {c B' : Nat} (h : DnI W D a c w) {E : Array Value} (hE : BkIn E 24 w B') (h0 : W.heap.size ≤ B') (C : Array Value) : DnI W D a c (w.setRow B' C) :=
  ⟨own_row16 h.row (own_of_blk hE h.row (by decide)) _, h.ns, below_row16 h.bel h0 _⟩
theorem DnI.at_ {W w : World} {D : List Re} {a : Option Addr} {c : Nat} (h : DnI W D a c w) : EdsAt w a D := fun hne => by
  obtain ⟨g, e1, _, hc⟩ := own_cell16 (List.length_pos_iff.2 hne) h.row
  refine ⟨g, 0, e1, fun j hj => ?_⟩
  have k := fun i (hi : i < 5) u (hu : (edL (D.getD j re0))[i]? = some u) => hc (j * 5 + i) u (by rw [edC_get D j i hj hi]; exact hu)
  rw [Nat.zero_add]
  exact ⟨k 0 (by omega) _ rfl, k 1 (by omega) _ rfl, k 2 (by omega) _ rfl, k 3 (by omega) _ rfl, k 4 (by omega) _ rfl, (h.ns _ (Ed.gD_mem hj)).below h.bel⟩
theorem wpList_append_eds {w : World} {ops : Array Oper} {rest : List Oper} {o : Oper} {a : Act} {Q : Exit → Act → World → Prop} (hgd : o.guard = none) (s x : Operand) (t : TypeId)
    (hop : o.op = .call { callee := .builtin .append, args := #[s, x], argTypes := #[t, t] }) (ht : Try.prog.underlying t = some (.slice 27)) (base : Nat)
    (v : Value) (n : Nat) (xs : List Value) (hv : a.eval s = v) (ho : w.ownsRow base 27 5 v n xs) (ao : Option Addr) (c m : Nat) (L : List Re) (hx : a.eval x = .slice ao m c) (hm : m = L.length) (hs : EdsAt w ao L) (h63 : n + m ≤ 100000) (hbase : base ≤ w.heap.size)
    (h : ∀ v' w', w'.ownsRow base 27 5 v' (n + m) (xs ++ edC L) → w.grownBy w' v.ownBlock → wpList Try.prog ops Q rest (a.put o.dst v') w') :
    wpList Try.prog ops Q (o :: rest) a w := by
  refine wpList_plain hgd fun K hK => ?_
  subst hm
  obtain ⟨i, z, hi, hz, h1, h2, h3⟩ := infoEd_parts
  have hrun : ∃ v' w', (Builtin.append_ #[t, t] o.type #[v, .slice ao L.length c]).run Try.prog w = .ok v' w' ∧ w'.ownsRow base 27 5 v' (n + L.length) (xs ++ edC L) ∧ w.grownBy w' v.ownBlock := by
    cases ao with
    | none =>
      have hL : L = [] := by
        cases L with
        | nil => rfl
        | cons y r => obtain ⟨g, off, e, _⟩ := hs (by simp); cases e
      subst hL
      exact ⟨v, w, append_none16 w base t o.type _ i 5 ht hi ho c, by simpa [edC] using ho, World.grownBy.refl w _⟩
    | some ad =>
      have hc : ∀ j u, (edC L)[j]? = some u → w.cell? (ad.add j) = some u := by
        intro j u hu
        have hj : j < L.length * 5 := by rw [← edC_length]; exact (List.getElem?_eq_some_iff.1 hu).1
        obtain ⟨g, off, e, hk⟩ := hs (fun e => by rw [e] at hj; simp at hj)
        cases e
        rw [Addr.add_lit]
        have h5 := hk (j / 5) (by omega)
        have hu2 := hu
        rw [show j = j / 5 * 5 + j % 5 from by omega, edC_get L (j / 5) (j % 5) (by omega) (by omega)] at hu2
        have hm : j % 5 = 0 ∨ j % 5 = 1 ∨ j % 5 = 2 ∨ j % 5 = 3 ∨ j % 5 = 4 := by omega
        rcases hm with e | e | e | e | e
        · rw [e] at hu2; rw [show off + j = off + j / 5 * 5 from by omega, h5.1]; simpa [edL] using hu2
        · rw [e] at hu2; rw [show off + j = off + j / 5 * 5 + 1 from by omega, h5.2.1]; simpa [edL] using hu2
        · rw [e] at hu2; rw [show off + j = off + j / 5 * 5 + 2 from by omega, h5.2.2.1]; simpa [edL] using hu2
        · rw [e] at hu2; rw [show off + j = off + j / 5 * 5 + 3 from by omega, h5.2.2.2.1]; simpa [edL] using hu2
        · rw [e] at hu2; rw [show off + j = off + j / 5 * 5 + 4 from by omega, h5.2.2.2.2.1]; simpa [edL] using hu2
      obtain ⟨v', w', hr, h5, h6, _⟩ := run_append_own_at (P := Try.prog) w base t o.type 27 i z 5 64 ht hi hz h1 h2 h3 (by decide) v n xs ho ad L.length c (edC L) (edC_length L) hc (edC_oneC L) (by unfold maxLen; omega) (by omega) hbase
      exact ⟨v', w', hr, h5, h6⟩
  obtain ⟨v', w', hr, h5, h6⟩ := hrun
  unfold Oper.wp execOp
  simp only [hop, resolve, invoke, builtin, Sem.run_bind, Sem.run_pure, Result.andThen_ok, List.map_toArray, List.map_cons, List.map_nil, hv, hx, hr]
  exact hK _ _ (h v' w' h5 h6)
theorem edsAt_one {w : World} {q : Nat} {y : Re} (h : BkIn (edA y) 27 w q) (hn : NsAt w y.o y.fs) : EdsAt w (some ⟨q, 0, none⟩) [y] := fun _ => ⟨q, 0, rfl, fun j hj => by
  have : j = 0 := by simp at hj; exact hj
  subst this
  exact ⟨h.cell 0, h.cell 1, h.cell 2, h.cell 3, h.cell 4, hn⟩⟩
theorem bel_ownsEd {W w w' : World} (h : Below W.heap.size W w) {v : Value} {n : Nat} {xs : List Value} (ho : w.ownsRow W.heap.size 27 5 v n xs) (hg : w.grownBy w' v.ownBlock) : Below W.heap.size W w' := h.grown hg h.size (fun q hq => (ho.lt q hq).1)
/-- A row of edits that grows leaves states as they are. -/
theorem One16.grown {W w w' : World} {B g c : Nat} {s : Ed.St} {Rk : List Rt} (h : One16 W B s Rk g c w) {v : Value} {n : Nat} {xs : List Value} (ho : w.ownsRow W.heap.size 27 5 v n xs) (hg : w.grownBy w' v.ownBlock) : One16 W B s Rk g c w' := by
  have hk : ∀ {sz n' : Nat} {e : TypeId} {v' : Value} {xs' : List Value}, 27 ≠ e → w.ownsRow W.heap.size e sz v' n' xs' → w'.ownsRow W.heap.size e sz v' n' xs' := fun hne hi => by
    refine World.ownsRow.kept hi hg ?_
    cases q : v.ownBlock with
    | none =>
      rename_i v' _
      cases q2 : v'.ownBlock with
      | none => exact .inl rfl
      | some x => exact .inr (by simp)
    | some x => exact .inr (own_apart16 ho hi hne q)
  exact ⟨h.bx.grown hg (own_of_blk h.bx ho (by decide)), ⟨hk (by decide) h.ow.row, fun r hr => hk (by decide) (h.ow.own r hr), bel_ownsEd h.ow.bel ho hg⟩, h.T, h.ok, h.b0⟩
theorem apply_odd {s : Ed.St} (h : Ed.Ok s) : Ed.apply s ⟨99, 0, 0, [], []⟩ = none := by
  refine apply_none ?_
  rw [edit_in (k := 0) (by decide) rfl (by have := h.n1; omega)]
  rfl

end Go.Proofs.Ytfcmjgcjmldpcaa
