/- Layer 5: laws for rows of whatever element that are taken over; the document's lists. -/
import Derived.Test.YtekmnpmeienhhaaDkrA
import Derived.Test.YtekmnpmeienhhaaLast
namespace Go.Proofs.Ytekmnpmeienhhaa
set_option linter.unusedVariables false
open Go Go.RowKit Go.Maps

/-- Nothing is appended. -/
theorem append_none5 {P : Program} (w : World) (base : Nat) (t ty e : TypeId) (i : TypeInfo) (sz : Nat) (ht : P.underlying t = some (.slice e)) (hi : P.info? e = some i) {v : Value} {n : Nat} {xs : List Value} (h : w.ownsRow base e sz v n xs) (c : Nat) :
    (Builtin.append_ #[t, t] ty #[v, .slice none 0 c]).run P w = .ok v w := by
  rcases h.2 with ⟨rfl, rfl⟩ | ⟨g, cap, cur, rfl, _, _, hc, _⟩
  · simp [Builtin.append_, run_underlying ht, sizeOf, typeInfo, hi, Builtin.lenOf, Builtin.firstCells]
  · simp [Builtin.append_, run_underlying ht, sizeOf, typeInfo, hi, Builtin.lenOf, Builtin.firstCells, hc, storeCells]
theorem step_append_none5 {P : Program} {w : World} {ops : Array Oper} {o : Oper} {a : Act} {K : Act → World → Prop} {Q : Exit → Act → World → Prop} {E : Prop} (hgd : o.guard = none) (s x : Operand) (t : TypeId)
    (hop : o.op = .call { callee := .builtin .append, args := #[s, x], argTypes := #[t, t] })
    (base : Nat) (e : TypeId) (i : TypeInfo) (size : Nat) (ht : P.underlying t = some (.slice e)) (hi : P.info? e = some i)
    (v : Value) (n : Nat) (xs : List Value) (hs : a.eval s = v) (hown : w.ownsRow base e size v n xs) (c : Nat) (hx : a.eval x = .slice none 0 c) (h : K (a.put o.dst v) w) :
    if Region.wanted o (yielded ops a.tmps) = true then Oper.wp P o a w K Q else E := by
  have hw : Region.wanted o (yielded ops a.tmps) = true := by simp [Region.wanted, hgd]
  rw [if_pos hw]
  have hrun := append_none5 (P := P) w base t o.type e i size ht hi hown c
  unfold Oper.wp execOp
  simp only [hop, resolve, invoke, builtin, Sem.run_bind, Sem.run_pure, Result.andThen_ok, List.map_toArray, List.map_cons, List.map_nil, hs, hx, hrun]
  exact h
theorem step_append_at5 {P : Program} {w : World} {ops : Array Oper} {o : Oper} {a : Act} {K : Act → World → Prop} {Q : Exit → Act → World → Prop} {E : Prop} (hgd : o.guard = none) (s x : Operand) (t : TypeId)
    (hop : o.op = .call { callee := .builtin .append, args := #[s, x], argTypes := #[t, t] })
    (base : Nat) (e : TypeId) (i : TypeInfo) (z : Value) (size bytes : Nat) (ht : P.underlying t = some (.slice e)) (hi : P.info? e = some i) (hz : i.zero = some z)
    (hsize : i.size = size) (hby : i.bytes = bytes) (hzs : z.cells.size = size) (hsz : 0 < size)
    (v : Value) (n : Nat) (xs : List Value) (hs : a.eval s = v) (hown : w.ownsRow base e size v n xs)
    (ad : Addr) (m c : Nat) (news : List Value) (hx : a.eval x = .slice (some ad) m c) (hl : news.length = m * size) (hnews : ∀ j u, news[j]? = some u → w.cell? (ad.add j) = some u) (h1 : ∀ u ∈ news, u.oneCell' = true)
    (h63 : n + m ≤ maxLen) (hbytes : (n + m) * bytes ≤ 140737488355328) (hbase : base ≤ w.heap.size)
    (h : ∀ v' w', w'.ownsRow base e size v' (n + m) (xs ++ news) → w.grownBy w' v.ownBlock → (v'.ownBlock = v.ownBlock ∨ v'.ownBlock = some w.heap.size) → K (a.put o.dst v') w') :
    if Region.wanted o (yielded ops a.tmps) = true then Oper.wp P o a w K Q else E := by
  have hw : Region.wanted o (yielded ops a.tmps) = true := by simp [Region.wanted, hgd]
  rw [if_pos hw]
  obtain ⟨v', w', hrun, h5, h6, h7, h8⟩ := run_append_own_at (P := P) w base t o.type e i z size bytes ht hi hz hsize hby hzs hsz v n xs hown ad m c news hl hnews h1 h63 hbytes hbase
  unfold Oper.wp execOp
  simp only [hop, resolve, invoke, builtin, Sem.run_bind, Sem.run_pure, Result.andThen_ok, List.map_toArray, List.map_cons, List.map_nil, hs, hx, hrun]
  exact h v' w' h5 h6 h8
theorem flsV_one (L : List Dk.Fl) : ∀ u ∈ flsV L, u.oneCell' = true := fun u hu => by
  unfold flsV at hu
  obtain ⟨f, _, hf⟩ := List.mem_flatMap.1 hu
  unfold fl3 at hf
  simp at hf
  rcases hf with rfl | rfl | rfl <;> rfl
theorem flsV_pre (L : List Dk.Fl) (k : Nat) (hk : k ≤ L.length) (j : Nat) (u : Value) (hu : (flsV (L.take k))[j]? = some u) : (flsV L)[j]? = some u := by
  rw [← flsV_take L k hk] at hu
  rw [List.getElem?_take] at hu
  split at hu
  · exact hu
  · cases hu
theorem flsV_suf (L : List Dk.Fl) (k : Nat) (hk : k ≤ L.length) (j : Nat) (u : Value) (hu : (flsV (L.drop k))[j]? = some u) : (flsV L)[k * 3 + j]? = some u := by
  rw [← flsV_drop L k hk, List.getElem?_drop] at hu
  exact hu
theorem infoFile5 : (Try.prog.info? 95).map (fun i => (i.zero, i.size, i.bytes)) = some (some (.agg #[.string ⟨#[]⟩, .string ⟨#[]⟩, .int .i64 0]), 3, 40) := by kernel_rfl
namespace Dk
theorem ins_at5 (f : Fl) : ∀ (L : List Fl) (k : Nat) (hk : k ≤ L.length), (∀ j (h : j < k), Op.bytesLess (L[j]'(by omega)).name f.name = true) → (∀ h : k < L.length, Op.bytesLess f.name L[k].name = true) → ins f L = L.take k ++ f :: L.drop k
  | [], k, hk, _, _ => by simp at hk; subst hk; rfl
  | g :: r, 0, _, _, h2 => by
    have h := h2 (by simp)
    simp only [List.getElem_cons_zero] at h
    unfold ins
    rw [if_pos h]
    rfl
  | g :: r, k + 1, hk, h1, h2 => by
    have h := h1 0 (by omega)
    simp only [List.getElem_cons_zero] at h
    have hf : Op.bytesLess f.name g.name = false := by
      have hne : g.name ≠ f.name := fun e => by rw [e, less_irr5] at h; cases h
      rw [less_flip5 g.name f.name hne, h]; rfl
    unfold ins
    rw [if_neg (by rw [hf]; decide), ins_at5 f r k (by simpa using hk) (fun j hj => by have := h1 (j + 1) (by omega); simpa using this) (fun hlt => by have := h2 (by simpa using hlt); simpa using this)]
    rfl
theorem del_at5 {L : List Fl} (h : L.Pairwise fun f g => f.name ≠ g.name) {k : Nat} (hk : k < L.length) : L.take k ++ L.drop (k + 1) = del L[k].name L := by
  induction L generalizing k with
  | nil => simp at hk
  | cons g r ih =>
    rw [List.pairwise_cons] at h
    cases k with
    | zero =>
      unfold del
      simp only [List.getElem_cons_zero, List.take_zero, List.nil_append, List.drop_succ_cons, List.drop_zero]
      rw [List.filter_cons_of_neg (by simp)]
      refine (List.filter_eq_self.2 fun f hf => ?_).symm
      have := h.1 f hf
      simpa using fun e => this e.symm
    | succ k =>
      have hk2 : k < r.length := by simpa using hk
      have hi := ih h.2 hk2
      unfold del at *
      simp only [List.getElem_cons_succ, List.take_succ_cons, List.drop_succ_cons, List.cons_append]
      rw [List.filter_cons_of_pos (by have := h.1 r[k] (List.getElem_mem hk2); simpa using this), hi]
end Dk
/-- The document's disk after a call: what it may have written, and has. -/
def OpI (B r : Nat) (c : Rc) (v : Value) (D' : Dk.St) (w : World) (e : Ending) (w' : World) : Prop := e = .returned v ∧ ∃ c', RfIn B r c' D' w' ∧ (∀ b, Fr r c' b → Fr r c b ∨ w.heap.size ≤ b) ∧ Wr (Fr r c) w w'
theorem OpI.then_ {B r : Nat} {c : Rc} {v v' : Value} {D1 D2 : Dk.St} {w w1 w2 : World} {e e' : Ending} (h : OpI B r c v D1 w e w1) (k : ∀ c1, RfIn B r c1 D1 w1 → OpI B r c1 v' D2 w1 e' w2) : OpI B r c v' D2 w e' w2 := by
  obtain ⟨_, c1, h1, h2, h3⟩ := h
  obtain ⟨q0, c2, q1, q2, q3⟩ := k c1 h1
  refine ⟨q0, c2, q1, fun b hb => ?_, h3.step q3 (fun x hx => h2 x hx)⟩
  rcases q2 b hb with h | h
  · exact h2 b h
  · exact .inr (Nat.le_trans h3.size h)

end Go.Proofs.Ytekmnpmeienhhaa
