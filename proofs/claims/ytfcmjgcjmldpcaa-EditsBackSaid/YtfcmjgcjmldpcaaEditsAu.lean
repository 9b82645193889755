/- Layer 16: rows of edits. -/
import Derived.Test.YtfcmjgcjmldpcaaEditsAc
import Derived.Test.YtfcmjgcjmldpcaaEditsT
namespace Go.Proofs.Ytfcmjgcjmldpcaa
set_option linter.unusedVariables false
set_option linter.unusedSimpArgs false
open Go Go.RowKit

/- A row of edits. -/
def edL (r : Re) : List Value := [.int .i64 r.kind, .int .i64 r.at_, .int .i64 r.file, .slice r.o r.fs.length r.k, .string (S r.key)]
def edC (L : List Re) : List Value := L.flatMap edL
theorem edC_length (L : List Re) : (edC L).length = L.length * 5 := by
  induction L with
  | nil => rfl
  | cons m t ih => simp only [edC, List.flatMap_cons, List.length_append, List.length_cons] at *; rw [ih]; simp [edL]; omega
theorem edC_app (a b : List Re) : edC (a ++ b) = edC a ++ edC b := by simp [edC]
theorem edC_get (L : List Re) (j i : Nat) (hj : j < L.length) (hi : i < 5) : (edC L)[j * 5 + i]? = (edL (L.getD j re0))[i]? := by
  induction L generalizing j with
  | nil => simp at hj
  | cons m t ih =>
    rw [show edC (m :: t) = edL m ++ edC t from by simp [edC]]
    cases j with
    | zero => rw [List.getElem?_append_left (by simp [edL]; omega)]; simp
    | succ j =>
      rw [List.getElem?_append_right (by simp [edL]; omega), show (j + 1) * 5 + i - (edL m).length = j * 5 + i from by simp [edL]; omega, ih j (by simpa using hj)]
      simp
theorem edC_oneC (L : List Re) : ∀ u ∈ edC L, u.oneCell' = true := by
  intro u hu
  obtain ⟨x, _, hx⟩ := List.mem_flatMap.1 hu
  simp [edL] at hx
  rcases hx with rfl | rfl | rfl | rfl | rfl <;> simp [Value.oneCell']
theorem infoEd : (Try.prog.info? 27).map (fun i => (i.zero.map (fun z => z.cells.size), i.size, i.bytes)) = some (some 5, 5, 64) := by kernel_rfl
theorem infoEd_parts : ∃ (i0 : TypeInfo) (z : Value), Try.prog.info? 27 = some i0 ∧ i0.zero = some z ∧ i0.size = 5 ∧ i0.bytes = 64 ∧ z.cells.size = 5 := by
  have h := infoEd
  cases hi : Try.prog.info? 27 with
  | none => rw [hi] at h; cases h
  | some i0 =>
    rw [hi] at h
    cases hz : i0.zero with
    | none => simp [hz] at h
    | some z =>
      simp [hz] at h
      exact ⟨i0, z, rfl, hz, h.2.1, h.2.2, h.1⟩
theorem wpList_append_eds {w : World} {ops : Array Oper} {rest : List Oper} {o : Oper} {a : Act} {Q : Exit → Act → World → Prop} (hgd : o.guard = none) (s x : Operand) (t : TypeId)
    (hop : o.op = .call { callee := .builtin .append, args := #[s, x], argTypes := #[t, t] }) (ht : Try.prog.underlying t = some (.slice 27)) (base : Nat)
    (v : Value) (n : Nat) (xs : List Value) (hv : a.eval s = v) (ho : w.ownsRow base 27 5 v n xs) (ao : Option Addr) (c m : Nat) (L : List Re) (hx : a.eval x = .slice ao m c) (hm : m = L.length) (hs : EdsAt w ao L) (h63 : n + m ≤ 100000) (hbase : base ≤ w.heap.size)
    (h : ∀ v' w', w'.ownsRow base 27 5 v' (n + m) (xs ++ edC L) → w.grownBy w' v.ownBlock → wpList Try.prog ops Q rest (a.put o.dst v') w') :
    wpList Try.prog ops Q (o :: rest) a w := by
  refine wpList_plain hgd fun K hK => ?_
  subst hm
  obtain ⟨i, z, hi, hz, h1, h2, h3⟩ := infoEd_parts
  have hrun : ∃ v' w', (Builtin.append_ #[t, t] o.type #[v, .slice ao L.length c]).run Try.prog w = .ok v' w' ∧ w'.ownsRow base 27 5 v' (n + L.length) (xs ++ edC L) ∧ w.grownBy w' v.ownBlock := by
    cases ao with
    | none =>
      have hL : L = [] := by
        cases L with
        | nil => rfl
        | cons y r => obtain ⟨g, off, e, _⟩ := hs (by simp); cases e
      subst hL
      exact ⟨v, w, append_none16 w base t o.type _ i 5 ht hi ho c, by simpa [edC] using ho, World.grownBy.refl w _⟩
    | some ad =>
      have hc : ∀ j u, (edC L)[j]? = some u → w.cell? (ad.add j) = some u := by
        intro j u hu
        have hj : j < L.length * 5 := by rw [← edC_length]; exact (List.getElem?_eq_some_iff.1 hu).1
        obtain ⟨g, off, e, hk⟩ := hs (fun e => by rw [e] at hj; simp at hj)
        cases e
        rw [Addr.add_lit]
        have h5 := hk (j / 5) (by omega)
        have hu2 := hu
        rw [show j = j / 5 * 5 + j % 5 from by omega, edC_get L (j / 5) (j % 5) (by omega) (by omega)] at hu2
        have hm : j % 5 = 0 ∨ j % 5 = 1 ∨ j % 5 = 2 ∨ j % 5 = 3 ∨ j % 5 = 4 := by omega
        rcases hm with e | e | e | e | e
        · rw [e] at hu2; rw [show off + j = off + j / 5 * 5 from by omega, h5.1]; simpa [edL] using hu2
        · rw [e] at hu2; rw [show off + j = off + j / 5 * 5 + 1 from by omega, h5.2.1]; simpa [edL] using hu2
        · rw [e] at hu2; rw [show off + j = off + j / 5 * 5 + 2 from by omega, h5.2.2.1]; simpa [edL] using hu2
        · rw [e] at hu2; rw [show off + j = off + j / 5 * 5 + 3 from by omega, h5.2.2.2.1]; simpa [edL] using hu2
        · rw [e] at hu2; rw [show off + j = off + j / 5 * 5 + 4 from by omega, h5.2.2.2.2.1]; simpa [edL] using hu2
      obtain ⟨v', w', hr, h5, h6, _⟩ := run_append_own_at (P := Try.prog) w base t o.type 27 i z 5 64 ht hi hz h1 h2 h3 (by decide) v n xs ho ad L.length c (edC L) (edC_length L) hc (edC_oneC L) (by unfold maxLen; omega) (by omega) hbase
      exact ⟨v', w', hr, h5, h6⟩
  obtain ⟨v', w', hr, h5, h6⟩ := hrun
  unfold Oper.wp execOp
  simp only [hop, resolve, invoke, builtin, Sem.run_bind, Sem.run_pure, Result.andThen_ok, List.map_toArray, List.map_cons, List.map_nil, hv, hx, hr]
  exact hK _ _ (h v' w' h5 h6)
theorem edsAt_one {w : World} {q : Nat} {y : Re} (h : BkIn (edA y) 27 w q) (hn : NsAt w y.o y.fs) : EdsAt w (some ⟨q, 0, none⟩) [y] := fun _ => ⟨q, 0, rfl, fun j hj => by
  have : j = 0 := by simp at hj; exact hj
  subst this
  exact ⟨h.cell 0, h.cell 1, h.cell 2, h.cell 3, h.cell 4, hn⟩⟩
theorem bel_ownsEd {W w w' : World} (h : Below W.heap.size W w) {v : Value} {n : Nat} {xs : List Value} (ho : w.ownsRow W.heap.size 27 5 v n xs) (hg : w.grownBy w' v.ownBlock) : Below W.heap.size W w' := h.grown hg h.size (fun q hq => (ho.lt q hq).1)

end Go.Proofs.Ytfcmjgcjmldpcaa
