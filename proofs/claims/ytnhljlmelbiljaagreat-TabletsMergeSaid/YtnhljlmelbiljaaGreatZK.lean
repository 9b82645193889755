/- Texts of lower layers, as one. -/
import Derived.Test.YtnhljlmelbiljaaGreatZH
import Derived.Test.YtnhljlmelbiljaaGreatZJ
import Derived.Test.YtnhljlmelbiljaaGreatZI
import Derived.Lib.AppendZerosOnto
import Derived.Lib.Overlaps
import Derived.Laws.CopyRow
import Derived.Laws.Append
import Derived.Laws.AppendOwn
import Derived.Deep.RegionLaw
import Derived.BigQuiet
/- Lists of cells in strict order, by their members. -/
namespace Go.Proofs.YtnhljlmelbiljaaGreat
set_option linter.unusedVariables false
open Go Go.RowKit

theorem M.gD15 {α : Type} (L : List α) (k : Nat) (d : α) (h : k < L.length) : L.getD k d = L[k] := by
  simp [List.getD, h]
abbrev M.Stt (L : List M.Cl) : Prop := L.Pairwise (fun x y => M.aheadC x y = true)
theorem M.stt_of {a b : M.Cl} (h : M.aheadC b a = false) (k : ¬ (a.key = b.key ∧ a.seq = b.seq)) : M.aheadC a b = true := by
  rw [M.ahead_iff]
  by_cases e : a.key = b.key
  · refine .inr ⟨e, ?_⟩
    rcases Int.lt_trichotomy a.seq b.seq with q | q | q
    · have : M.aheadC b a = true := M.ahead_iff.2 (.inr ⟨e.symm, q⟩)
      rw [h] at this; cases this
    · exact absurd ⟨e, q⟩ k
    · exact q
  · refine .inl ?_
    cases q : Op.bytesLess a.key b.key with
    | true => rfl
    | false =>
      have hf := M.less_flip a.key b.key e
      have : M.aheadC b a = true := M.ahead_iff.2 (.inl (by rw [hf, q]; rfl))
      rw [h] at this; cases this
theorem clOff_blk15 {x : M.Cl} {w w' : World} {g o : Nat} (h : ClOff x w g o) (hb : w'.heap[g]? = w.heap[g]?) : ClOff x w' g o := by
  have k := fun {o : Nat} {v : Value} (h : w.cell? ⟨g, o, none⟩ = some v) => (World.cell?_of_block (a := ⟨g, o, none⟩) hb).trans h
  obtain ⟨h0, h1, h2⟩ := h
  exact ⟨k h0, k h1, k h2⟩

end Go.Proofs.YtnhljlmelbiljaaGreat

/- Layer 15: laws of append and copy over rows of whatever element, as slices.Insert uses them. No function of the program here. -/
namespace Go.Proofs.YtnhljlmelbiljaaGreat
set_option linter.unusedVariables false
open Go Go.RowKit

section
variable {P : Program}
/-- append asks of its second type alone whether it is a number. -/
theorem append_types15 (w : World) (t t' ty e e' : TypeId) (ht : P.underlying t = some (.slice e)) (ht' : P.underlying t' = some (.slice e')) (s x : Value) :
    (Builtin.append_ #[t, t'] ty #[s, x]).run P w = (Builtin.append_ #[t, t] ty #[s, x]).run P w := by
  cases s <;> simp [Builtin.append_, run_underlying ht, run_underlying ht']
/-- A row that is new. -/
theorem newRow15 (w : World) (e : TypeId) (sz : Nat) (xs rest : List Value) (n c : Nat) (hx : xs.length = n * sz) (hr : rest.length = (c - n) * sz) (hc : n ≤ c) (hm : c ≤ maxLen) (base : Nat) (hb : base ≤ w.heap.size) :
    (w.drew.alloc (.cells (xs ++ rest).toArray e)).ownsRow base e sz (.slice (some ⟨w.heap.size, 0, none⟩) n c) n xs := by
  refine ⟨hx, .inr ⟨w.heap.size, c, _, rfl, hb, heap_alloc_new w.drew _, hc, hm, ?_, ?_⟩⟩
  · simp [hx, hr, ← Nat.add_mul]; congr 1; omega
  · simp only [← hx]; exact List.take_left
theorem zeroCells_list15 (z : Array Value) (n : Nat) : ∃ l : List Value, (Builtin.zeroCells z n) = l.toArray ∧ l.length = n * z.size := ⟨(Builtin.zeroCells z n).toList, by simp, by simp [Array.length_toList, size_zeroCells]⟩
/-- append where there is no room: whatever lies there is taken over into a new row. -/
theorem append_full15 (w : World) (t t' ty e e' : TypeId) (i : TypeInfo) (z : Value) (sz bytes : Nat) (ht : P.underlying t = some (.slice e)) (ht' : P.underlying t' = some (.slice e')) (hi : P.info? e = some i) (hz : i.zero = some z)
    (hsize : i.size = sz) (hby : i.bytes = bytes) (hzs : z.cells.size = sz)
    (b : Addr) (n cap : Nat) (xs : List Value) (hx : xs.length = n * sz) (hxs : ∀ j v, xs[j]? = some v → w.cell? (b.add j) = some v)
    (a : Addr) (m c : Nat) (ys : List Value) (hy : ys.length = m * sz) (hys : ∀ j v, ys[j]? = some v → w.cell? (a.add j) = some v)
    (hg : cap < n + m) (h63 : n + m ≤ maxLen) (hb : (n + m) * bytes ≤ 140737488355328) :
    ∃ c' w', (Builtin.append_ #[t, t'] ty #[.slice (some b) n cap, .slice (some a) m c]).run P w = .ok (.slice (some ⟨w.heap.size, 0, none⟩) (n + m) c') w' ∧ w'.ownsRow w.heap.size e sz (.slice (some ⟨w.heap.size, 0, none⟩) (n + m) c') (n + m) (xs ++ ys) ∧ Below w.heap.size w w' := by
  subst hsize; subst hby
  have hsmall : n + m ≤ 9223372036854775807 := by simp only [maxLen] at h63; omega
  have hr := run_append_grow (P := P) w t ty e i z ht hi hz b n cap xs hx hxs a m c ys hy hys hg (by omega) (growslice_fits hg hb)
  rw [append_types15 w t t' ty e e' ht ht', hr]
  obtain ⟨l, hl, hll⟩ := zeroCells_list15 z.cells (grownCap w (n + m) cap e - (n + m))
  refine ⟨_, _, rfl, ?_, ((Below.refl w.heap.size w).drew).alloc (Nat.le_refl _) _⟩
  rw [hl]
  have := newRow15 w e i.size (xs ++ ys) l (n + m) (grownCap w (n + m) cap e) (by rw [List.length_append, hx, hy, Nat.add_mul]) (by rw [hll, hzs]) (grownCap_ge w (n + m) cap e) (grownCap_le_maxLen w (n + m) cap e h63) w.heap.size (Nat.le_refl _)
  simpa using this
/-- append(s[:i], make(k)...) where there is no room. -/
theorem append_make15 (w : World) (t tn ty e : TypeId) (i : TypeInfo) (z : Value) (kn : IntKind) (sz bytes : Nat) (ht : P.underlying t = some (.slice e)) (htn : P.underlying tn = some (.int kn)) (hi : P.info? e = some i) (hz : i.zero = some z)
    (hsize : i.size = sz) (hby : i.bytes = bytes) (hzs : z.cells.size = sz) (hsz : 0 < sz)
    (b : Addr) (n cap : Nat) (xs : List Value) (hx : xs.length = n * sz) (hxs : ∀ j v, xs[j]? = some v → w.cell? (b.add j) = some v)
    (k : Nat) (h0 : 0 < k) (hg : cap < n + k) (h63 : n + k ≤ maxLen) (hb : (n + k) * bytes ≤ 140737488355328) :
    ∃ c' w' zs, (Builtin.append_ #[t, tn] ty #[.slice (some b) n cap, .int .i64 k]).run P w = .ok (.slice (some ⟨w.heap.size, 0, none⟩) (n + k) c') w' ∧ zs.length = k * sz ∧ n + k ≤ c' ∧ w'.ownsRow w.heap.size e sz (.slice (some ⟨w.heap.size, 0, none⟩) (n + k) c') (n + k) (xs ++ zs) ∧ Below w.heap.size w w' := by
  subst hsize; subst hby
  have hsmall : n + k ≤ 9223372036854775807 := by simp only [maxLen] at h63; omega
  have hk48 : k * i.bytes ≤ 281474976710656 := Nat.le_trans (Nat.mul_le_mul_right _ (by omega)) (Nat.le_trans hb (by omega))
  have hf := run_firstCells_some (P := P) w.drew i.size n b n cap xs hx (by simpa using hxs)
  have hr := Lib.run_append_grow_zeros (P := P) w t tn ty e i z .i64 kn ht htn hi hz (some b) n cap xs hf k h0 hsz hg (by omega) hk48 (growslice_fits hg hb)
  rw [hr]
  obtain ⟨zs, hzl, hzll⟩ := zeroCells_list15 z.cells k
  obtain ⟨l, hl, hll⟩ := zeroCells_list15 z.cells (grownCap w (n + k) cap e - (n + k))
  refine ⟨_, _, zs, rfl, by rw [hzll, hzs], grownCap_ge w (n + k) cap e, ?_, ((Below.refl w.heap.size w).drew).alloc (Nat.le_refl _) _⟩
  rw [hl, hzl]
  have := newRow15 w e i.size (xs ++ zs) l (n + k) (grownCap w (n + k) cap e) (by rw [List.length_append, hx, hzll, hzs, Nat.add_mul]) (by rw [hll, hzs]) (grownCap_ge w (n + k) cap e) (grownCap_le_maxLen w (n + k) cap e h63) w.heap.size (Nat.le_refl _)
  simpa using this
/-- copy, into a block that is known whole. -/
theorem run_copy15 (w : World) (dT sT ty elem : TypeId) (sz : Nat) (g o dLen dCap : Nat) (a : Addr) (sLen sCap : Nat) (cur : Array Value) (t : TypeId) (cs : List Value)
    (hu : P.underlying dT = some (.slice elem)) (hs : (P.info? elem).map (·.size) = some sz)
    (hg : w.heap[g]? = some (.cells cur t (0, 0))) (hn : cs.length = Nat.min sLen dLen * sz)
    (hsrc : ∀ j v, cs[j]? = some v → w.cell? (a.add j) = some v) (hfit : o + cs.length ≤ cur.size) (h1 : ∀ v ∈ cs, v.oneCell' = true) :
    (Builtin.copy_ #[dT, sT] ty #[.slice (some ⟨g, o, none⟩) dLen dCap, .slice (some a) sLen sCap]).run P w =
      .ok (goInt (Nat.min sLen dLen)) (w.setRow g (cur.toList.take o ++ cs ++ cur.toList.drop (o + cs.length)).toArray) := by
  have hl := run_loadCells_list (P := P) w a cs hsrc
  have hst := run_storeCells_at P g o t cs 0 cur w hg (by simpa using hfit) h1
  cases hq : P.info? elem with
  | none => simp [hq] at hs
  | some i =>
    have hi : i.size = sz := by simpa [hq] using hs
    simp [Builtin.copy_, run_underlying hu, Builtin.lenOf, Builtin.firstCells, sizeOf, typeInfo, hq, hi, ← hn, hl, hst]
end
/-- Cells laid over a row that the call owns: what the row has then. -/
theorem setRow_own15 {w : World} {B sz : Nat} {e : TypeId} {g n cap : Nat} {xs : List Value} (h : w.ownsRow B e sz (.slice (some ⟨g, 0, none⟩) n cap) n xs) :
    ∃ cur : Array Value, w.heap[g]? = some (.cells cur e (0, 0)) ∧ cur.size = cap * sz ∧ cur.toList.take (n * sz) = xs ∧ n ≤ cap ∧ cap ≤ maxLen ∧ B ≤ g := by
  rcases h.2 with ⟨e', _⟩ | ⟨g', cap', cur, e', hB, hg, hc, hm, hs, ht⟩
  · cases e'
  · injection e' with e1 e2 e3
    injection e1 with e1
    injection e1 with e1
    subst e1; subst e3
    exact ⟨cur, hg, hs, ht, hc, hm, hB⟩
theorem own_setRow15 {w : World} {B sz : Nat} {e : TypeId} {g m cap : Nat} {cur : Array Value} {t : TypeId} (hg : w.heap[g]? = some (.cells cur e (0, 0))) (cs ys : List Value) (hcs : cs.length = cap * sz) (hm : m ≤ cap) (hM : cap ≤ maxLen) (hy : ys.length = m * sz) (ht : cs.take (m * sz) = ys) (hB : B ≤ g) :
    (w.setRow g cs.toArray).ownsRow B e sz (.slice (some ⟨g, 0, none⟩) m cap) m ys ∧ w.grownBy (w.setRow g cs.toArray) (some g) := by
  refine ⟨⟨hy, .inr ⟨g, cap, cs.toArray, rfl, hB, setRow_heap w g cur _ e _ hg, hm, hM, by simpa using hcs, by simpa using ht⟩⟩, ⟨rfl, rfl, rfl, by simp, fun k _ hk => setRow_other w g k _ (fun e => hk (by rw [e]))⟩⟩
/-- What lies in a row with a thing laid in: by lists. -/
theorem lay_in15 (xs sp cs : List Value) (i : Nat) (hi : i ≤ xs.length) (hs : cs.length ≤ sp.length) :
    (((xs ++ sp).take (i + cs.length) ++ xs.drop i ++ (xs ++ sp).drop (i + cs.length + (xs.drop i).length)).take i ++ cs ++ ((xs ++ sp).take (i + cs.length) ++ xs.drop i ++ (xs ++ sp).drop (i + cs.length + (xs.drop i).length)).drop (i + cs.length)).take (xs.length + cs.length) = xs.take i ++ cs ++ xs.drop i := by
  have h1 : ((xs ++ sp).take (i + cs.length)).length = i + cs.length := by simp; omega
  have h2 : ((xs ++ sp).take (i + cs.length) ++ xs.drop i ++ (xs ++ sp).drop (i + cs.length + (xs.drop i).length)).take i = xs.take i := by
    rw [List.append_assoc, List.take_append_of_le_length (by omega), List.take_take, Nat.min_eq_left (by omega), List.take_append_of_le_length (by omega)]
  have h3 : ((xs ++ sp).take (i + cs.length) ++ xs.drop i ++ (xs ++ sp).drop (i + cs.length + (xs.drop i).length)).drop (i + cs.length) = xs.drop i ++ (xs ++ sp).drop (i + cs.length + (xs.drop i).length) := by
    rw [List.append_assoc]
    have := List.drop_left (l₁ := (xs ++ sp).take (i + cs.length)) (l₂ := xs.drop i ++ (xs ++ sp).drop (i + cs.length + (xs.drop i).length))
    rwa [h1] at this
  rw [h2, h3, ← List.append_assoc]
  have h4 : (xs.take i ++ cs ++ xs.drop i).length = xs.length + cs.length := by simp; omega
  rw [← h4]
  exact List.take_left

end Go.Proofs.YtnhljlmelbiljaaGreat

/- Layer 15: slices.Insert, by contracts: where there is room, and where there is none. -/
namespace Go.Proofs.YtnhljlmelbiljaaGreat
set_option linter.unusedVariables false
set_option linter.unusedSimpArgs false
open Go Go.RowKit

section
variable {P : Program}
theorem wp_copy_run15 (w : World) {o : Oper} {a : Act} {K : Act → World → Prop} {Q : Exit → Act → World → Prop} (d s : Operand) (t t' : TypeId)
    (ho : o.op = .call { callee := .builtin .copy, args := #[d, s], argTypes := #[t, t'] }) (v u : Value) (hd : a.eval d = v) (hs : a.eval s = u) {v' : Value} {w' : World}
    (hr : (Builtin.copy_ #[t, t'] o.type #[v, u]).run P w = .ok v' w') (h : K (a.put o.dst v') w') : o.wp P a w K Q := by
  unfold Oper.wp execOp
  simp only [ho, resolve, invoke, builtin, Sem.run_bind, Sem.run_pure, Result.andThen_ok, List.map_toArray, List.map_cons, List.map_nil, hd, hs, hr]
  exact h
theorem wpList_copy_run15 (w : World) {ops : Array Oper} {rest : List Oper} {o : Oper} {a : Act} {Q : Exit → Act → World → Prop} (hgd : o.guard = none) (d s : Operand) (t t' : TypeId)
    (ho : o.op = .call { callee := .builtin .copy, args := #[d, s], argTypes := #[t, t'] }) (v u : Value) (hd : a.eval d = v) (hs : a.eval s = u) {v' : Value} {w' : World}
    (hr : (Builtin.copy_ #[t, t'] o.type #[v, u]).run P w = .ok v' w') (h : wpList P ops Q rest (a.put o.dst v') w') : wpList P ops Q (o :: rest) a w :=
  wpList_plain hgd fun _ hK => wp_copy_run15 w d s t t' ho v u hd hs hr (hK _ _ h)
theorem step_copy_run15 {ops : Array Oper} {o : Oper} {a : Act} {w : World} {K : Act → World → Prop} {Q : Exit → Act → World → Prop} {E : Prop}
    (hg : o.guard = none) (d x : Operand) (dT sT : TypeId) (hop : o.op = Op.call { callee := Callee.builtin Builtin.copy, args := #[d, x], argTypes := #[dT, sT] })
    (v u : Value) (hd : a.eval d = v) (hx : a.eval x = u) {v' : Value} {w' : World} (hr : (Builtin.copy_ #[dT, sT] o.type #[v, u]).run P w = .ok v' w') (hK : K (a.put o.dst v') w') :
    if Region.wanted o (yielded ops a.tmps) = true then Oper.wp P o a w K Q else E := by
  have hw : Region.wanted o (yielded ops a.tmps) = true := by simp [Region.wanted, hg]
  rw [if_pos hw]
  exact wp_copy_run15 w d x dT sT hop v u hd hx hr hK
theorem wpList_append_run15 (w : World) {ops : Array Oper} {rest : List Oper} {o : Oper} {a : Act} {Q : Exit → Act → World → Prop} (hgd : o.guard = none) (s x : Operand) (t tn : TypeId)
    (ho : o.op = .call { callee := .builtin .append, args := #[s, x], argTypes := #[t, tn] }) (vs vx : Value) (hs : a.eval s = vs) (hx : a.eval x = vx)
    (v' : Value) (w' : World) (hr : (Builtin.append_ #[t, tn] o.type #[vs, vx]).run P w = .ok v' w') (h : wpList P ops Q rest (a.put o.dst v') w') : wpList P ops Q (o :: rest) a w :=
  Lib.wpList_append_run w hgd s x t tn ho vs vx hs hx v' w' hr h
end
/-- copy, into a row that the call owns. -/
theorem copy_own15 {P : Program} (w : World) (dT sT elem : TypeId) (sz : Nat) (hu : P.underlying dT = some (.slice elem)) (hs : (P.info? elem).map (·.size) = some sz)
    (B g n c : Nat) (xs : List Value) (hO : w.ownsRow B elem sz (.slice (some ⟨g, 0, none⟩) n c) n xs) (i dLen : Nat) (a : Addr) (sLen : Nat) (cs : List Value) (k : Nat) (hk : Nat.min sLen dLen = k) (hcs : cs.length = k * sz) (hik : i + k ≤ n)
    (hsrc : ∀ j v, cs[j]? = some v → w.cell? (a.add j) = some v) (h1 : ∀ v ∈ cs, v.oneCell' = true) :
    ∃ w', (∀ ty dCap sCap, (Builtin.copy_ #[dT, sT] ty #[.slice (some ⟨g, i * sz, none⟩) dLen dCap, .slice (some a) sLen sCap]).run P w = .ok (goInt k) w') ∧ w'.ownsRow B elem sz (.slice (some ⟨g, 0, none⟩) n c) n (xs.take (i * sz) ++ cs ++ xs.drop (i * sz + cs.length)) ∧ w.grownBy w' (some g) := by
  obtain ⟨cur, hg, hcz, hct, hnc, hcm, hB⟩ := setRow_own15 hO
  have hxl : xs.length = n * sz := hO.1
  have hcl : cur.toList = xs ++ cur.toList.drop (n * sz) := by rw [← hct, List.take_append_drop]
  have hfit : i * sz + cs.length ≤ n * sz := by rw [hcs, ← Nat.add_mul]; exact Nat.mul_le_mul_right _ hik
  have hnc2 : n * sz ≤ c * sz := Nat.mul_le_mul_right _ hnc
  refine ⟨_, fun ty dCap sCap => ?_, own_setRow15 (t := elem) hg (cur.toList.take (i * sz) ++ cs ++ cur.toList.drop (i * sz + cs.length)) _ ?_ hnc hcm ?_ ?_ hB⟩
  · have h := run_copy15 (P := P) w dT sT ty elem sz g (i * sz) dLen dCap a sLen sCap cur elem cs hu hs hg (by rw [hk]; exact hcs) hsrc (by rw [hcz]; omega) h1
    rw [hk] at h
    exact h
  · simp only [List.length_append, List.length_take, List.length_drop, Array.length_toList, hcz]; omega
  · simp only [List.length_append, List.length_take, List.length_drop, hxl]; omega
  · rw [hcl]
    have e1 : (xs ++ cur.toList.drop (n * sz)).take (i * sz) = xs.take (i * sz) := List.take_append_of_le_length (by omega)
    have e2 : (xs ++ cur.toList.drop (n * sz)).drop (i * sz + cs.length) = xs.drop (i * sz + cs.length) ++ cur.toList.drop (n * sz) := List.drop_append_of_le_length (by omega)
    rw [e1, e2, ← List.append_assoc, show n * sz = (xs.take (i * sz) ++ cs ++ xs.drop (i * sz + cs.length)).length from by simp only [List.length_append, List.length_take, List.length_drop, hxl]; omega]
    exact List.take_left
def insV (xs : List Value) (k : Nat) (vs : List Value) : List Value := xs.take k ++ vs ++ xs.drop k
theorem mixed15 : Tryz.prog.follows Departure.mixedOrders = true := by kernel_rfl
theorem rowIn_shape15 {C : Array Value} {T : TypeId} {w : World} {b : Nat} (h : RowIn C T w b) : w.shape? b = some (T, C.size) := by
  unfold RowIn at h
  simp [World.shape?, h]
theorem rowIn_src15 {l : List Value} {T : TypeId} {w : World} {b : Nat} (h : RowIn l.toArray T w b) : ∀ j v, l[j]? = some v → w.cell? ((⟨b, 0, none⟩ : Addr).add j) = some v := fun j v hj => by
  rw [Addr.add_lit, Nat.zero_add, h.cell j]
  simpa using hj
theorem infoPg_parts : ∃ (i0 : TypeInfo) (z : Value), Tryz.prog.info? 109 = some i0 ∧ i0.zero = some z ∧ i0.size = 1 ∧ i0.bytes = 24 ∧ z.cells.size = 1 := by
  have h : (Tryz.prog.info? 109).map (fun i => (i.zero.map (fun z => z.cells.size), i.size, i.bytes)) = some (some 1, 1, 24) := by kernel_rfl
  cases hi : Tryz.prog.info? 109 with
  | none => rw [hi] at h; cases h
  | some i0 =>
    rw [hi] at h
    cases hz : i0.zero with
    | none => simp [hz] at h
    | some z =>
      simp [hz] at h
      exact ⟨i0, z, rfl, hz, h.2.1, h.2.2, h.1⟩
set_option maxHeartbeats 4000000 in
set_option maxRecDepth 100000 in
/-- Room: in place. -/
theorem insRoomC (B : Nat) (w : World) (g n cap i X : Nat) (xs vs : List Value) (hO : w.ownsRow B 38 3 (.slice (some ⟨g, 0, none⟩) n cap) n xs) (h1x : ∀ u ∈ xs, u.oneCell' = true) (hi : i ≤ n) (hc : n < cap) (T : TypeId) (hX : RowIn vs.toArray T w X) (hvs : vs.length = 3) (h1v : ∀ u ∈ vs, u.oneCell' = true) (hXg : X ≠ g) :
    Calls Tryz.prog 106 #[.slice (some ⟨g, 0, none⟩) n cap, .int .i64 i, .slice (some ⟨X, 0, none⟩) 1 1] w fun e w' =>
      e = .returned (.slice (some ⟨g, 0, none⟩) (n + 1) cap) ∧ w'.ownsRow B 38 3 (.slice (some ⟨g, 0, none⟩) (n + 1) cap) (n + 1) (insV xs (i * 3) vs) ∧ w.grownBy w' (some g) := by
  obtain ⟨i0, z0, hi0, hz0, hz1, hz2, hz3⟩ := infoCl_parts
  obtain ⟨cur, hg, hcs, hct, hnc, hcm, hB⟩ := setRow_own15 hO
  have hxl : xs.length = n * 3 := hO.1
  have hm63 : cap ≤ 9223372036854775807 := by simp only [maxLen] at hcm; omega
  have hsz : (Tryz.prog.info? 38).map (·.size) = some 3 := by rw [hi0]; simp [hz1]
  have hci : ¬ (cap = i) := by omega
  have hi1 : (0 : Int) ≤ (i : Int) := by omega
  have hi2 : (i : Int) ≤ (n : Int) := by omega
  have hi3 : (n : Int) ≤ (cap : Int) := by omega
  have hn1 : (n : Int) + 1 ≤ (cap : Int) := by omega
  have hn2 : (0 : Int) ≤ (n : Int) + 1 := by omega
  have hn3 : ((n : Int) + 1).toNat = n + 1 := by omega
  have hw1 : IntKind.i64.wrap ((n : Int) + 1) = (n : Int) + 1 := IntWalk.i64_in _ (by omega)
  have hcl : cur.toList = xs ++ cur.toList.drop (n * 3) := by rw [← hct, List.take_append_drop]
  have hspl : (cur.toList.drop (n * 3)).length = (cap - n) * 3 := by simp [hcs, Nat.sub_mul]
  have hsp1 : 3 ≤ (cur.toList.drop (n * 3)).length := by rw [hspl]; omega
  by_cases hin : i = n
  · subst hin
    have hq : decide ((i : Int) = (i : Int)) = true := by simp
    have hr : ∀ ty, (Builtin.append_ #[109, 22] ty #[.slice (some ⟨g, 0, none⟩) i cap, .slice (some ⟨X, 0, none⟩) 1 1]).run Tryz.prog w = .ok (.slice (some ⟨g, 0, none⟩) (i + 1) cap) (w.setRow g (cur.toList.take (i * 3) ++ vs ++ cur.toList.drop (i * 3 + vs.length)).toArray) := fun ty => by
      rw [append_types15 w 109 22 ty 38 38 Tryz.underlying109 Tryz.underlying22]
      have := run_append_room (P := Tryz.prog) w 109 ty 38 i0 Tryz.underlying109 hi0 g i cap cur hg ⟨X, 0, none⟩ 1 1 vs (by rw [hvs, hz1]) (rowIn_src15 hX) h1v (by omega) (by rw [hvs, hcs, hz1]; have := Nat.mul_le_mul_right 3 (show i + 1 ≤ cap from hc); omega)
      rw [hz1] at this
      exact this
    have HR := Lib.hid (own_setRow15 (B := B) (t := 38) (sz := 3) (m := i + 1) (cap := cap) hg (cur.toList.take (i * 3) ++ vs ++ cur.toList.drop (i * 3 + vs.length)) (insV xs (i * 3) vs) (by simp only [List.length_append, List.length_take, List.length_drop, Array.length_toList, hcs, hvs]; omega) hc hcm (by simp only [insV, List.length_append, List.length_take, List.length_drop, hxl, hvs]; omega) (by
      unfold insV
      rw [hct, List.drop_eq_nil_of_le (show xs.length ≤ i * 3 by omega), List.append_nil, List.take_of_length_le (show xs.length ≤ i * 3 by omega)]
      rw [show (i + 1) * 3 = (xs ++ vs).length from by simp only [List.length_append, hxl, hvs]; omega]
      exact List.take_left) hB)
    generalize (w.setRow g (cur.toList.take (i * 3) ++ vs ++ cur.toList.drop (i * 3 + vs.length)).toArray) = w2 at *
    have HR := HR.out
    try simp only [Nat.mul_one] at HR hr
    replace HR := Lib.hid HR
    go_enter Tryz.func106, Tryz.ntmps106
    go_wp2_with (at_builtin; refine wpList_append_run15 _ rfl _ _ 109 22 rfl _ _ rfl rfl _ _ (hr _) ?_)
    go_ret
    exact ⟨rfl, HR.out.1, HR.out.2⟩
  · have hq : decide ((i : Int) = (n : Int)) = false := by simp; omega
    have hq1 : ¬ ((i : Int) = (n : Int)) := by omega
    have hq2 : ((i : Int) == (n : Int)) = false := by rw [beq_eq_false_iff_ne]; omega
    have hw2 : IntKind.i64.wrap ((i : Int) + 1) = (i : Int) + 1 := IntWalk.i64_in _ (by omega)
    have hj1 : (0 : Int) ≤ (i : Int) + 1 := by omega
    have hj2 : ((i : Int) + 1).toNat = i + 1 := by omega
    have hj3 : ¬ (cap = i + 1) := by omega
    have hj4 : (i : Int) + 1 ≤ (n : Int) + 1 := by omega
    have hj5 : (i : Int) ≤ (n : Int) + 1 := by omega
    have hov : ∀ lb cb, (callFunc 124 #[.slice (some ⟨X, 0, none⟩) 1 1, .slice (some ⟨g, (i + 1) * 3, none⟩) lb cb]).run Tryz.prog w = .ok (.value (.bool false)) w := fun lb cb => by
      rw [run_callFunc_extern Tryz.func124 (by kernel_rfl) (by kernel_rfl) (by kernel_rfl) (e := Extern.SlicesOverlaps.overlaps #[22, 22] #[4]) (by kernel_rfl),
        Lib.run_overlaps_apart w 22 4 38 Tryz.underlying22 3 (fun w => by simp [sizeOf, typeInfo, hi0, hz1]) ⟨X, 0, none⟩ ⟨g, (i + 1) * 3, none⟩ 1 1 lb cb hXg T 38 vs.toArray.size cur.size (rowIn_shape15 hX) (rowIn_shape15 hg) (by rw [hcs]; have := Nat.mul_le_mul_right 3 (show 1 ≤ cap by omega); omega) (hX.free 0) (hX.free _)]
      rfl
    have hdl : (xs.drop (i * 3)).length = (n - i) * 3 := by rw [List.length_drop, hxl, Nat.sub_mul]
    have hmin : Nat.min (n + 1 - i) (n - i) = n - i := by simp only [Nat.min_def]; split <;> omega
    have hxc : ∀ j v, xs[j]? = some v → w.cell? ⟨g, j, none⟩ = some v := fun j v hj => by
      have hjl : j < xs.length := (List.getElem?_eq_some_iff.1 hj).1
      rw [(show RowIn cur 38 w g from hg).cell j, ← Array.getElem?_toList, hcl, List.getElem?_append_left hjl, hj]
    have hcp1 : ∀ ty dc sc, (Builtin.copy_ #[109, 109] ty #[.slice (some ⟨g, (i + 1) * 3, none⟩) (n - i) dc, .slice (some ⟨g, i * 3, none⟩) (n + 1 - i) sc]).run Tryz.prog w.drew = .ok (goInt (Nat.min (n + 1 - i) (n - i))) (w.drew.setRow g (cur.toList.take ((i + 1) * 3) ++ xs.drop (i * 3) ++ cur.toList.drop ((i + 1) * 3 + (xs.drop (i * 3)).length)).toArray) := fun ty dc sc =>
      run_copy15 w.drew 109 109 ty 38 3 g ((i + 1) * 3) (n - i) dc ⟨g, i * 3, none⟩ (n + 1 - i) sc cur 38 (xs.drop (i * 3)) Tryz.underlying109 hsz hg (by rw [hdl, hmin])
        (fun j v hj => by rw [Addr.add_lit]; exact hxc (i * 3 + j) v (by rwa [List.getElem?_drop] at hj)) (by rw [hdl, hcs, ← Nat.add_mul]; exact Nat.mul_le_mul_right _ (by omega)) (fun v hv => h1x v (List.mem_of_mem_drop hv))
    obtain ⟨A, hA⟩ : ∃ A, A = cur.toList.take ((i + 1) * 3) ++ xs.drop (i * 3) ++ cur.toList.drop ((i + 1) * 3 + (xs.drop (i * 3)).length) := ⟨_, rfl⟩
    have hAl : A.length = cap * 3 := by
      rw [hA]
      simp only [List.length_append, List.length_take, List.length_drop, Array.length_toList, hcs, hxl]
      have := Nat.mul_le_mul_right 3 (show n + 1 ≤ cap by omega)
      omega
    obtain ⟨W1, hW1⟩ : ∃ W1, W1 = w.drew.setRow g A.toArray := ⟨_, rfl⟩
    have hg1 : W1.heap[g]? = some (.cells A.toArray 38 (0, 0)) := by rw [hW1]; exact setRow_heap w.drew g cur _ 38 _ hg
    have hX1 : RowIn vs.toArray T W1 X := by rw [hW1]; exact (setRow_other w.drew g X _ hXg).trans hX
    rw [← hA, ← hW1] at hcp1
    have hcp2 : ∀ ty dc, (Builtin.copy_ #[109, 22] ty #[.slice (some ⟨g, i * 3, none⟩) (n + 1 - i) dc, .slice (some ⟨X, 0, none⟩) 1 1]).run Tryz.prog W1 = .ok (goInt (Nat.min 1 (n + 1 - i))) (W1.setRow g (A.take (i * 3) ++ vs ++ A.drop (i * 3 + vs.length)).toArray) := fun ty dc => by
      have := run_copy15 (P := Tryz.prog) W1 109 22 ty 38 3 g (i * 3) (n + 1 - i) dc ⟨X, 0, none⟩ 1 1 A.toArray 38 vs Tryz.underlying109 hsz hg1 (by rw [hvs]; simp only [Nat.min_def]; split <;> omega) (rowIn_src15 hX1) (by rw [hvs]; simp only [List.size_toArray, hAl]; have := Nat.mul_le_mul_right 3 (show i + 1 ≤ cap by omega); omega) h1v
      simpa using this
    have HR := Lib.hid (show (W1.setRow g (A.take (i * 3) ++ vs ++ A.drop (i * 3 + vs.length)).toArray).ownsRow B 38 3 (.slice (some ⟨g, 0, none⟩) (n + 1) cap) (n + 1) (insV xs (i * 3) vs) ∧ w.grownBy (W1.setRow g (A.take (i * 3) ++ vs ++ A.drop (i * 3 + vs.length)).toArray) (some g) from by
      have h := own_setRow15 (B := B) (t := 38) (sz := 3) (m := n + 1) (cap := cap) hg1 (A.take (i * 3) ++ vs ++ A.drop (i * 3 + vs.length)) (insV xs (i * 3) vs) (by
        simp only [List.length_append, List.length_take, List.length_drop, hAl, hvs]
        have := Nat.mul_le_mul_right 3 (show i + 1 ≤ cap by omega)
        omega) hc hcm (by
        simp only [insV, List.length_append, List.length_take, List.length_drop, hxl, hvs]
        have := Nat.mul_le_mul_right 3 hi
        omega) (by
        have k := lay_in15 xs (cur.toList.drop (n * 3)) vs (i * 3) (by rw [hxl]; exact Nat.mul_le_mul_right _ hi) (by rw [hvs]; exact hsp1)
        rw [← hcl, hvs] at k
        rw [hA, hvs, show (i + 1) * 3 = i * 3 + 3 from by omega, show (n + 1) * 3 = xs.length + 3 from by omega]
        unfold insV
        exact k) hB
      refine ⟨h.1, ?_⟩
      rw [hW1, setRow_setRow]
      exact ⟨rfl, rfl, rfl, by simp [World.setRow], fun k _ hk => setRow_other w.drew g k _ (fun e => hk (by rw [e]))⟩)
    generalize (W1.setRow g (A.take (i * 3) ++ vs ++ A.drop (i * 3 + vs.length)).toArray) = w2 at *
    have HR := HR.out
    try simp only [Nat.mul_one] at HR
    try simp only [Nat.mul_one] at hcp1
    try simp only [Nat.mul_one] at hcp2
    try simp only [Nat.mul_one] at hov
    replace HR := Lib.hid HR
    clear hA hAl hW1 hg1 hcl hspl hsp1 hct hO hg hX1
    have mixed := mixed15
    go_enter Tryz.func106, Tryz.ntmps106
    go_wp2_with (simp only [hov])
    go_region_law_o (refine step_copy_run15 rfl _ _ 109 109 rfl _ _ (by simp [Act.eval, Act.put]) (by simp [Act.eval, Act.put]) (hcp1 _ _ _) ?_)
    go_wp2_with (at_builtin; refine wpList_copy_run15 _ rfl _ _ 109 22 rfl _ _ rfl rfl (hcp2 _ _) ?_)
    go_ret
    exact ⟨rfl, HR.out.1, HR.out.2⟩
theorem insFull_lastC {n i : Nat} (w : World) (q o : Nat) (xs vs : List Value) (hxl : xs.length = n * 3) (hxs : ∀ j v, xs[j]? = some v → w.cell? ⟨q, o + j, none⟩ = some v) (h1x : ∀ u ∈ xs, u.oneCell' = true) (hi : i ≤ n) (hin : ¬ i = n) (T : TypeId) {X : Nat} (hX : RowIn vs.toArray T w X) (hvs : vs.length = 3) (h1v : ∀ u ∈ vs, u.oneCell' = true) :
    ∀ c2 w2 zs, zs.length = (n + 1 - i) * 3 → w2.ownsRow w.heap.size 38 3 (.slice (some ⟨w.heap.size, 0, none⟩) (n + 1) c2) (n + 1) (xs.take (i * 3) ++ zs) → Below w.heap.size w w2 →
      ∃ w3 w4, (∀ ty dc, (Builtin.copy_ #[109, 22] ty #[.slice (some ⟨w.heap.size, i * 3, none⟩) (n + 1 - i) dc, .slice (some ⟨X, 0, none⟩) 1 1]).run Tryz.prog w2 = .ok (goInt 1) w3) ∧
        (∀ ty dc sc, (Builtin.copy_ #[109, 109] ty #[.slice (some ⟨w.heap.size, (i + 1) * 3, none⟩) (n - i) dc, .slice (some ⟨q, o + i * 3, none⟩) (n - i) sc]).run Tryz.prog w3.drew = .ok (goInt ((n - i : Nat) : Int)) w4) ∧
        w4.ownsRow w.heap.size 38 3 (.slice (some ⟨w.heap.size, 0, none⟩) (n + 1) c2) (n + 1) (insV xs (i * 3) vs) ∧ Below w.heap.size w w4 := fun c2 w2 zs hz ho hb => by
  obtain ⟨i0, z0, hi0, hz0, hz1, hz2, hz3⟩ := infoCl_parts
  have hsz : (Tryz.prog.info? 38).map (·.size) = some 3 := by rw [hi0]; simp [hz1]
  have hq : q < w.heap.size := by
    have h := hxs 0 (xs[0]'(by omega)) (List.getElem?_eq_getElem (by omega))
    exact block_lt_of_cell h
  obtain ⟨cA, hcA⟩ : ∃ c : Nat, c = 0 := ⟨_, rfl⟩
  obtain ⟨w3, hr3, ho3, hg3⟩ := copy_own15 (P := Tryz.prog) w2 109 22 38 3 Tryz.underlying109 hsz w.heap.size w.heap.size (n + 1) c2 _ ho i (n + 1 - i) ⟨X, 0, none⟩ 1 vs 1 (by simp only [Nat.min_def]; split <;> omega) (by rw [hvs]) (by omega) (rowIn_src15 (hX.below hb)) h1v
  have hb3 : Below w.heap.size w w3 := hb.grown hg3 hb.size (fun k hk => by cases hk; exact Nat.le_refl _)
  obtain ⟨w4, hr4, ho4, hg4⟩ := copy_own15 (P := Tryz.prog) w3.drew 109 109 38 3 Tryz.underlying109 hsz w.heap.size w.heap.size (n + 1) c2 _ (show w3.drew.ownsRow _ _ _ _ _ _ from ho3) (i + 1) (n - i) ⟨q, o + i * 3, none⟩ (n - i) (xs.drop (i * 3)) (n - i) (Nat.min_self _) (by rw [List.length_drop, hxl, Nat.sub_mul]) (by omega) (fun j v hj => by
    rw [Addr.add_lit, Nat.add_assoc]
    rw [List.getElem?_drop] at hj
    exact (hb3.cell (p := ⟨q, o + (i * 3 + j), none⟩) hq).trans (hxs _ v hj)) (fun v hv => h1x v (List.mem_of_mem_drop hv))
  have hb4 : Below w.heap.size w w4 := hb3.drew.grown hg4 hb3.size (fun k hk => by cases hk; exact Nat.le_refl _)
  refine ⟨w3, w4, fun ty dc => hr3 ty dc 1, fun ty dc sc => hr4 ty dc sc, ?_, hb4⟩
  · have e : insV xs (i * 3) vs = (((xs.take (i * 3) ++ zs).take (i * 3) ++ vs ++ (xs.take (i * 3) ++ zs).drop (i * 3 + vs.length)).take ((i + 1) * 3) ++ xs.drop (i * 3) ++ ((xs.take (i * 3) ++ zs).take (i * 3) ++ vs ++ (xs.take (i * 3) ++ zs).drop (i * 3 + vs.length)).drop ((i + 1) * 3 + (xs.drop (i * 3)).length)) := by
      have hm := Nat.mul_le_mul_right 3 hi
      have l1 : (xs.take (i * 3)).length = i * 3 := by simp only [List.length_take, hxl]; omega
      have a1 : (xs.take (i * 3) ++ zs).take (i * 3) = xs.take (i * 3) := by
        have := List.take_left (l₁ := xs.take (i * 3)) (l₂ := zs)
        rwa [l1] at this
      rw [a1]
      have a2 : (xs.take (i * 3) ++ vs ++ (xs.take (i * 3) ++ zs).drop (i * 3 + vs.length)).take ((i + 1) * 3) = xs.take (i * 3) ++ vs := by
        have := List.take_left (l₁ := xs.take (i * 3) ++ vs) (l₂ := (xs.take (i * 3) ++ zs).drop (i * 3 + vs.length))
        rwa [show (xs.take (i * 3) ++ vs).length = (i + 1) * 3 from by simp only [List.length_append, l1, hvs]; omega] at this
      have a3 : (xs.take (i * 3) ++ vs ++ (xs.take (i * 3) ++ zs).drop (i * 3 + vs.length)).drop ((i + 1) * 3 + (xs.drop (i * 3)).length) = [] := List.drop_eq_nil_of_le (by simp only [List.length_append, List.length_drop, l1, hvs, hz, hxl]; omega)
      rw [a2, a3, List.append_nil]
      unfold insV
      try simp only [Nat.mul_one]
    rw [e]
    exact ho4
set_option maxHeartbeats 4000000 in
set_option maxRecDepth 100000 in
/-- No room: a new row. -/
theorem insFullC (w : World) (q o n i X : Nat) (xs vs : List Value) (hxl : xs.length = n * 3) (hxs : ∀ j v, xs[j]? = some v → w.cell? ⟨q, o + j, none⟩ = some v) (h1x : ∀ u ∈ xs, u.oneCell' = true) (hi : i ≤ n) (hnl : n ≤ 1000000) (T : TypeId) (hX : RowIn vs.toArray T w X) (hvs : vs.length = 3) (h1v : ∀ u ∈ vs, u.oneCell' = true) :
    Calls Tryz.prog 106 #[.slice (some ⟨q, o, none⟩) n n, .int .i64 i, .slice (some ⟨X, 0, none⟩) 1 1] w fun e w' =>
      ∃ c, e = .returned (.slice (some ⟨w.heap.size, 0, none⟩) (n + 1) c) ∧ w'.ownsRow w.heap.size 38 3 (.slice (some ⟨w.heap.size, 0, none⟩) (n + 1) c) (n + 1) (insV xs (i * 3) vs) ∧ Below w.heap.size w w' := by
  obtain ⟨i0, z0, hi0, hz0, hz1, hz2, hz3⟩ := infoCl_parts
  have hsz : (Tryz.prog.info? 38).map (·.size) = some 3 := by rw [hi0]; simp [hz1]
  have hi1 : (0 : Int) ≤ (i : Int) := by omega
  have hi2 : (i : Int) ≤ (n : Int) := by omega
  have hw1 : IntKind.i64.wrap ((n : Int) + 1) = (n : Int) + 1 := IntWalk.i64_in _ (by omega)
  have hXlt := hX.lt
  by_cases hin : i = n
  · subst hin
    have hq : decide ((i : Int) = (i : Int)) = true := by simp
    have hrr : ∀ ty, ∃ c' w', (Builtin.append_ #[109, 22] ty #[.slice (some ⟨q, o, none⟩) i i, .slice (some ⟨X, 0, none⟩) 1 1]).run Tryz.prog w = .ok (.slice (some ⟨w.heap.size, 0, none⟩) (i + 1) c') w' ∧ w'.ownsRow w.heap.size 38 3 (.slice (some ⟨w.heap.size, 0, none⟩) (i + 1) c') (i + 1) (xs ++ vs) ∧ Below w.heap.size w w' := fun ty =>
      append_full15 (P := Tryz.prog) w 109 22 ty 38 38 i0 z0 3 40 Tryz.underlying109 Tryz.underlying22 hi0 hz0 hz1 hz2 hz3 ⟨q, o, none⟩ i i xs hxl (fun j v hj => by rw [Addr.add_lit]; exact hxs j v hj) ⟨X, 0, none⟩ 1 1 vs (by rw [hvs]) (rowIn_src15 hX) (by omega) (by unfold maxLen; omega) (by omega)
    have he : xs ++ vs = insV xs (i * 3) vs := by
      unfold insV
      rw [List.drop_eq_nil_of_le (show xs.length ≤ i * 3 by omega), List.append_nil, List.take_of_length_le (show xs.length ≤ i * 3 by omega)]
    rw [he] at hrr
    go_enter Tryz.func106, Tryz.ntmps106
    go_wp2_with (at_builtin; obtain ⟨c2, w2, hr, ho, hb⟩ := hrr _; refine wpList_append_run15 _ rfl _ _ 109 22 rfl _ _ rfl rfl _ _ hr ?_; have HR := Lib.hid (And.intro ho hb); clear hr ho hb hrr)
    go_ret
    exact ⟨c2, rfl, HR.out⟩
  · have hq : decide ((i : Int) = (n : Int)) = false := by simp; omega
    have hq1 : ¬ ((i : Int) = (n : Int)) := by omega
    have hq2 : ((i : Int) == (n : Int)) = false := by rw [beq_eq_false_iff_ne]; omega
    have hq3 : ¬ (n = i) := by omega
    have hw2 : IntKind.i64.wrap ((i : Int) + 1) = (i : Int) + 1 := IntWalk.i64_in _ (by omega)
    have hw3 : IntKind.i64.wrap ((n : Int) + 1 - (i : Int)) = ((n + 1 - i : Nat) : Int) := by rw [IntWalk.i64_in _ (by omega)]; omega
    have hd1 : decide ((n : Int) < (n : Int) + 1) = true := by simp; omega
    have hj1 : (0 : Int) ≤ (i : Int) + 1 := by omega
    have hj2 : ((i : Int) + 1).toNat = i + 1 := by omega
    have hmk : ∀ ty, ∃ c' w' zs, (Builtin.append_ #[109, 3] ty #[.slice (some ⟨q, o, none⟩) i n, .int .i64 ((n + 1 - i : Nat) : Int)]).run Tryz.prog w = .ok (.slice (some ⟨w.heap.size, 0, none⟩) (n + 1) c') w' ∧ zs.length = (n + 1 - i) * 3 ∧ n + 1 ≤ c' ∧ w'.ownsRow w.heap.size 38 3 (.slice (some ⟨w.heap.size, 0, none⟩) (n + 1) c') (n + 1) (xs.take (i * 3) ++ zs) ∧ Below w.heap.size w w' := fun ty => by
      have h := append_make15 (P := Tryz.prog) w 109 3 ty 38 i0 z0 .i64 3 40 Tryz.underlying109 Tryz.underlying3 hi0 hz0 hz1 hz2 hz3 (by decide) ⟨q, o, none⟩ i n (xs.take (i * 3)) (by simp only [List.length_take, hxl]; omega) (fun j v hj => by
        rw [Addr.add_lit]
        rw [List.getElem?_take] at hj
        split at hj
        · exact hxs j v hj
        · cases hj) (n + 1 - i) (by omega) (by omega) (by unfold maxLen; omega) (by omega)
      rwa [show i + (n + 1 - i) = n + 1 from by omega] at h
    have mixed := mixed15
    go_enter Tryz.func106, Tryz.ntmps106
    have HFin := Lib.hid (insFull_lastC (n := n) (i := i) w q o xs vs hxl hxs h1x hi hin T hX hvs h1v)
    clear hxs h1x hX h1v
    go_wp2_with (first
      | (have _t := HO2; clear _t; at_builtin; refine wpList_copy_run15 _ rfl _ _ 109 22 rfl _ _ rfl rfl (hcA _ _) ?_)
      | (at_builtin; obtain ⟨c2, w2, zs, hr, hzl, hc2, ho, hb⟩ := hmk _; refine wpList_append_run15 _ rfl _ _ 109 3 rfl _ _ rfl rfl _ _ hr ?_; have HO2 := Lib.hid hzl; obtain ⟨w3, w4, hcA, hcB, hF⟩ := HFin.out c2 w2 zs hzl ho hb; have HF := Lib.hid hF; have hc3 : ¬ (c2 = i) := (by omega); have hc4 : ¬ (c2 = i + 1) := (by omega); have hc5 : (i : Int) + 1 ≤ (n : Int) + 1 := (by omega); have hc6 : (i : Int) ≤ (n : Int) + 1 := (by omega); have hc7 : (n : Int) + 1 ≤ (c2 : Int) := (by omega); try simp only [Nat.mul_one] at hcA; try simp only [Nat.mul_one] at hcB; clear hr ho hb hmk hzl hF))
    go_region_law_o (refine step_copy_run15 rfl _ _ 109 109 rfl _ _ (by simp [Act.eval, Act.put]) (by simp [Act.eval, Act.put]) (hcB _) ?_)
    go_wp2_with fail
    go_ret
    exact ⟨c2, rfl, HF.out⟩
set_option maxHeartbeats 4000000 in
set_option maxRecDepth 100000 in
/-- Room: in place. -/
theorem insRoomP (B : Nat) (w : World) (g n cap i X : Nat) (xs vs : List Value) (hO : w.ownsRow B 109 1 (.slice (some ⟨g, 0, none⟩) n cap) n xs) (h1x : ∀ u ∈ xs, u.oneCell' = true) (hi : i ≤ n) (hc : n < cap) (T : TypeId) (hX : RowIn vs.toArray T w X) (hvs : vs.length = 1) (h1v : ∀ u ∈ vs, u.oneCell' = true) (hXg : X ≠ g) :
    Calls Tryz.prog 107 #[.slice (some ⟨g, 0, none⟩) n cap, .int .i64 i, .slice (some ⟨X, 0, none⟩) 1 1] w fun e w' =>
      e = .returned (.slice (some ⟨g, 0, none⟩) (n + 1) cap) ∧ w'.ownsRow B 109 1 (.slice (some ⟨g, 0, none⟩) (n + 1) cap) (n + 1) (insV xs (i) vs) ∧ w.grownBy w' (some g) := by
  obtain ⟨i0, z0, hi0, hz0, hz1, hz2, hz3⟩ := infoPg_parts
  obtain ⟨cur, hg, hcs, hct, hnc, hcm, hB⟩ := setRow_own15 hO
  have hxl : xs.length = n * 1 := hO.1
  have hm63 : cap ≤ 9223372036854775807 := by simp only [maxLen] at hcm; omega
  have hsz : (Tryz.prog.info? 109).map (·.size) = some 1 := by rw [hi0]; simp [hz1]
  have hci : ¬ (cap = i) := by omega
  have hi1 : (0 : Int) ≤ (i : Int) := by omega
  have hi2 : (i : Int) ≤ (n : Int) := by omega
  have hi3 : (n : Int) ≤ (cap : Int) := by omega
  have hn1 : (n : Int) + 1 ≤ (cap : Int) := by omega
  have hn2 : (0 : Int) ≤ (n : Int) + 1 := by omega
  have hn3 : ((n : Int) + 1).toNat = n + 1 := by omega
  have hw1 : IntKind.i64.wrap ((n : Int) + 1) = (n : Int) + 1 := IntWalk.i64_in _ (by omega)
  have hcl : cur.toList = xs ++ cur.toList.drop (n * 1) := by rw [← hct, List.take_append_drop]
  have hspl : (cur.toList.drop (n * 1)).length = (cap - n) * 1 := by simp [hcs, Nat.sub_mul]
  have hsp1 : 1 ≤ (cur.toList.drop (n * 1)).length := by rw [hspl]; omega
  by_cases hin : i = n
  · subst hin
    have hq : decide ((i : Int) = (i : Int)) = true := by simp
    have hr : ∀ ty, (Builtin.append_ #[103, 103] ty #[.slice (some ⟨g, 0, none⟩) i cap, .slice (some ⟨X, 0, none⟩) 1 1]).run Tryz.prog w = .ok (.slice (some ⟨g, 0, none⟩) (i + 1) cap) (w.setRow g (cur.toList.take (i * 1) ++ vs ++ cur.toList.drop (i * 1 + vs.length)).toArray) := fun ty => by
      rw [append_types15 w 103 103 ty 109 109 Tryz.underlying103 Tryz.underlying103]
      have := run_append_room (P := Tryz.prog) w 103 ty 109 i0 Tryz.underlying103 hi0 g i cap cur hg ⟨X, 0, none⟩ 1 1 vs (by rw [hvs, hz1]) (rowIn_src15 hX) h1v (by omega) (by rw [hvs, hcs, hz1]; have := Nat.mul_le_mul_right 1 (show i + 1 ≤ cap from hc); omega)
      rw [hz1] at this
      exact this
    have HR := Lib.hid (own_setRow15 (B := B) (t := 109) (sz := 1) (m := i + 1) (cap := cap) hg (cur.toList.take (i * 1) ++ vs ++ cur.toList.drop (i * 1 + vs.length)) (insV xs (i * 1) vs) (by simp only [List.length_append, List.length_take, List.length_drop, Array.length_toList, hcs, hvs]; omega) hc hcm (by simp only [insV, List.length_append, List.length_take, List.length_drop, hxl, hvs]; omega) (by
      unfold insV
      rw [hct, List.drop_eq_nil_of_le (show xs.length ≤ i * 1 by omega), List.append_nil, List.take_of_length_le (show xs.length ≤ i * 1 by omega)]
      rw [show (i + 1) * 1 = (xs ++ vs).length from by simp only [List.length_append, hxl, hvs]; omega]
      exact List.take_left) hB)
    generalize (w.setRow g (cur.toList.take (i * 1) ++ vs ++ cur.toList.drop (i * 1 + vs.length)).toArray) = w2 at *
    have HR := HR.out
    try simp only [Nat.mul_one] at HR hr
    replace HR := Lib.hid HR
    go_enter Tryz.func107, Tryz.ntmps107
    go_wp2_with (at_builtin; refine wpList_append_run15 _ rfl _ _ 103 103 rfl _ _ rfl rfl _ _ (hr _) ?_)
    go_ret
    exact ⟨rfl, HR.out.1, HR.out.2⟩
  · have hq : decide ((i : Int) = (n : Int)) = false := by simp; omega
    have hq1 : ¬ ((i : Int) = (n : Int)) := by omega
    have hq2 : ((i : Int) == (n : Int)) = false := by rw [beq_eq_false_iff_ne]; omega
    have hw2 : IntKind.i64.wrap ((i : Int) + 1) = (i : Int) + 1 := IntWalk.i64_in _ (by omega)
    have hj1 : (0 : Int) ≤ (i : Int) + 1 := by omega
    have hj2 : ((i : Int) + 1).toNat = i + 1 := by omega
    have hj3 : ¬ (cap = i + 1) := by omega
    have hj4 : (i : Int) + 1 ≤ (n : Int) + 1 := by omega
    have hj5 : (i : Int) ≤ (n : Int) + 1 := by omega
    have hov : ∀ lb cb, (callFunc 126 #[.slice (some ⟨X, 0, none⟩) 1 1, .slice (some ⟨g, (i + 1) * 1, none⟩) lb cb]).run Tryz.prog w = .ok (.value (.bool false)) w := fun lb cb => by
      rw [run_callFunc_extern Tryz.func126 (by kernel_rfl) (by kernel_rfl) (by kernel_rfl) (e := Extern.SlicesOverlaps.overlaps #[103, 103] #[4]) (by kernel_rfl),
        Lib.run_overlaps_apart w 103 4 109 Tryz.underlying103 1 (fun w => by simp [sizeOf, typeInfo, hi0, hz1]) ⟨X, 0, none⟩ ⟨g, (i + 1) * 1, none⟩ 1 1 lb cb hXg T 109 vs.toArray.size cur.size (rowIn_shape15 hX) (rowIn_shape15 hg) (by rw [hcs]; have := Nat.mul_le_mul_right 1 (show 1 ≤ cap by omega); omega) (hX.free 0) (hX.free _)]
      rfl
    have hdl : (xs.drop (i * 1)).length = (n - i) * 1 := by rw [List.length_drop, hxl, Nat.sub_mul]
    have hmin : Nat.min (n + 1 - i) (n - i) = n - i := by simp only [Nat.min_def]; split <;> omega
    have hxc : ∀ j v, xs[j]? = some v → w.cell? ⟨g, j, none⟩ = some v := fun j v hj => by
      have hjl : j < xs.length := (List.getElem?_eq_some_iff.1 hj).1
      rw [(show RowIn cur 109 w g from hg).cell j, ← Array.getElem?_toList, hcl, List.getElem?_append_left hjl, hj]
    have hcp1 : ∀ ty dc sc, (Builtin.copy_ #[103, 103] ty #[.slice (some ⟨g, (i + 1) * 1, none⟩) (n - i) dc, .slice (some ⟨g, i * 1, none⟩) (n + 1 - i) sc]).run Tryz.prog w.drew = .ok (goInt (Nat.min (n + 1 - i) (n - i))) (w.drew.setRow g (cur.toList.take ((i + 1) * 1) ++ xs.drop (i * 1) ++ cur.toList.drop ((i + 1) * 1 + (xs.drop (i * 1)).length)).toArray) := fun ty dc sc =>
      run_copy15 w.drew 103 103 ty 109 1 g ((i + 1) * 1) (n - i) dc ⟨g, i * 1, none⟩ (n + 1 - i) sc cur 109 (xs.drop (i * 1)) Tryz.underlying103 hsz hg (by rw [hdl, hmin])
        (fun j v hj => by rw [Addr.add_lit]; exact hxc (i * 1 + j) v (by rwa [List.getElem?_drop] at hj)) (by rw [hdl, hcs, ← Nat.add_mul]; exact Nat.mul_le_mul_right _ (by omega)) (fun v hv => h1x v (List.mem_of_mem_drop hv))
    obtain ⟨A, hA⟩ : ∃ A, A = cur.toList.take ((i + 1) * 1) ++ xs.drop (i * 1) ++ cur.toList.drop ((i + 1) * 1 + (xs.drop (i * 1)).length) := ⟨_, rfl⟩
    have hAl : A.length = cap * 1 := by
      rw [hA]
      simp only [List.length_append, List.length_take, List.length_drop, Array.length_toList, hcs, hxl]
      have := Nat.mul_le_mul_right 1 (show n + 1 ≤ cap by omega)
      omega
    obtain ⟨W1, hW1⟩ : ∃ W1, W1 = w.drew.setRow g A.toArray := ⟨_, rfl⟩
    have hg1 : W1.heap[g]? = some (.cells A.toArray 109 (0, 0)) := by rw [hW1]; exact setRow_heap w.drew g cur _ 109 _ hg
    have hX1 : RowIn vs.toArray T W1 X := by rw [hW1]; exact (setRow_other w.drew g X _ hXg).trans hX
    rw [← hA, ← hW1] at hcp1
    have hcp2 : ∀ ty dc, (Builtin.copy_ #[103, 103] ty #[.slice (some ⟨g, i * 1, none⟩) (n + 1 - i) dc, .slice (some ⟨X, 0, none⟩) 1 1]).run Tryz.prog W1 = .ok (goInt (Nat.min 1 (n + 1 - i))) (W1.setRow g (A.take (i * 1) ++ vs ++ A.drop (i * 1 + vs.length)).toArray) := fun ty dc => by
      have := run_copy15 (P := Tryz.prog) W1 103 103 ty 109 1 g (i * 1) (n + 1 - i) dc ⟨X, 0, none⟩ 1 1 A.toArray 109 vs Tryz.underlying103 hsz hg1 (by rw [hvs]; simp only [Nat.min_def]; split <;> omega) (rowIn_src15 hX1) (by rw [hvs]; simp only [List.size_toArray, hAl]; have := Nat.mul_le_mul_right 1 (show i + 1 ≤ cap by omega); omega) h1v
      simpa using this
    have HR := Lib.hid (show (W1.setRow g (A.take (i * 1) ++ vs ++ A.drop (i * 1 + vs.length)).toArray).ownsRow B 109 1 (.slice (some ⟨g, 0, none⟩) (n + 1) cap) (n + 1) (insV xs (i * 1) vs) ∧ w.grownBy (W1.setRow g (A.take (i * 1) ++ vs ++ A.drop (i * 1 + vs.length)).toArray) (some g) from by
      have h := own_setRow15 (B := B) (t := 109) (sz := 1) (m := n + 1) (cap := cap) hg1 (A.take (i * 1) ++ vs ++ A.drop (i * 1 + vs.length)) (insV xs (i * 1) vs) (by
        simp only [List.length_append, List.length_take, List.length_drop, hAl, hvs]
        have := Nat.mul_le_mul_right 1 (show i + 1 ≤ cap by omega)
        omega) hc hcm (by
        simp only [insV, List.length_append, List.length_take, List.length_drop, hxl, hvs]
        have := Nat.mul_le_mul_right 1 hi
        omega) (by
        have k := lay_in15 xs (cur.toList.drop (n * 1)) vs (i * 1) (by rw [hxl]; exact Nat.mul_le_mul_right _ hi) (by rw [hvs]; exact hsp1)
        rw [← hcl, hvs] at k
        rw [hA, hvs, show (i + 1) * 1 = i * 1 + 1 from by omega, show (n + 1) * 1 = xs.length + 1 from by omega]
        unfold insV
        exact k) hB
      refine ⟨h.1, ?_⟩
      rw [hW1, setRow_setRow]
      exact ⟨rfl, rfl, rfl, by simp [World.setRow], fun k _ hk => setRow_other w.drew g k _ (fun e => hk (by rw [e]))⟩)
    generalize (W1.setRow g (A.take (i * 1) ++ vs ++ A.drop (i * 1 + vs.length)).toArray) = w2 at *
    have HR := HR.out
    try simp only [Nat.mul_one] at HR
    try simp only [Nat.mul_one] at hcp1
    try simp only [Nat.mul_one] at hcp2
    try simp only [Nat.mul_one] at hov
    replace HR := Lib.hid HR
    clear hA hAl hW1 hg1 hcl hspl hsp1 hct hO hg hX1
    have mixed := mixed15
    go_enter Tryz.func107, Tryz.ntmps107
    go_wp2_with (simp only [hov])
    go_region_law_o (refine step_copy_run15 rfl _ _ 103 103 rfl _ _ (by simp [Act.eval, Act.put]) (by simp [Act.eval, Act.put]) (hcp1 _ _ _) ?_)
    go_wp2_with (at_builtin; refine wpList_copy_run15 _ rfl _ _ 103 103 rfl _ _ rfl rfl (hcp2 _ _) ?_)
    go_ret
    exact ⟨rfl, HR.out.1, HR.out.2⟩
theorem insFull_lastP {n i : Nat} (w : World) (q o : Nat) (xs vs : List Value) (hxl : xs.length = n * 1) (hxs : ∀ j v, xs[j]? = some v → w.cell? ⟨q, o + j, none⟩ = some v) (h1x : ∀ u ∈ xs, u.oneCell' = true) (hi : i ≤ n) (hin : ¬ i = n) (T : TypeId) {X : Nat} (hX : RowIn vs.toArray T w X) (hvs : vs.length = 1) (h1v : ∀ u ∈ vs, u.oneCell' = true) :
    ∀ c2 w2 zs, zs.length = (n + 1 - i) * 1 → w2.ownsRow w.heap.size 109 1 (.slice (some ⟨w.heap.size, 0, none⟩) (n + 1) c2) (n + 1) (xs.take (i * 1) ++ zs) → Below w.heap.size w w2 →
      ∃ w3 w4, (∀ ty dc, (Builtin.copy_ #[103, 103] ty #[.slice (some ⟨w.heap.size, i * 1, none⟩) (n + 1 - i) dc, .slice (some ⟨X, 0, none⟩) 1 1]).run Tryz.prog w2 = .ok (goInt 1) w3) ∧
        (∀ ty dc sc, (Builtin.copy_ #[103, 103] ty #[.slice (some ⟨w.heap.size, (i + 1) * 1, none⟩) (n - i) dc, .slice (some ⟨q, o + i * 1, none⟩) (n - i) sc]).run Tryz.prog w3.drew = .ok (goInt ((n - i : Nat) : Int)) w4) ∧
        w4.ownsRow w.heap.size 109 1 (.slice (some ⟨w.heap.size, 0, none⟩) (n + 1) c2) (n + 1) (insV xs (i) vs) ∧ Below w.heap.size w w4 := fun c2 w2 zs hz ho hb => by
  obtain ⟨i0, z0, hi0, hz0, hz1, hz2, hz3⟩ := infoPg_parts
  have hsz : (Tryz.prog.info? 109).map (·.size) = some 1 := by rw [hi0]; simp [hz1]
  have hq : q < w.heap.size := by
    have h := hxs 0 (xs[0]'(by omega)) (List.getElem?_eq_getElem (by omega))
    exact block_lt_of_cell h
  obtain ⟨cA, hcA⟩ : ∃ c : Nat, c = 0 := ⟨_, rfl⟩
  obtain ⟨w3, hr3, ho3, hg3⟩ := copy_own15 (P := Tryz.prog) w2 103 103 109 1 Tryz.underlying103 hsz w.heap.size w.heap.size (n + 1) c2 _ ho i (n + 1 - i) ⟨X, 0, none⟩ 1 vs 1 (by simp only [Nat.min_def]; split <;> omega) (by rw [hvs]) (by omega) (rowIn_src15 (hX.below hb)) h1v
  have hb3 : Below w.heap.size w w3 := hb.grown hg3 hb.size (fun k hk => by cases hk; exact Nat.le_refl _)
  obtain ⟨w4, hr4, ho4, hg4⟩ := copy_own15 (P := Tryz.prog) w3.drew 103 103 109 1 Tryz.underlying103 hsz w.heap.size w.heap.size (n + 1) c2 _ (show w3.drew.ownsRow _ _ _ _ _ _ from ho3) (i + 1) (n - i) ⟨q, o + i * 1, none⟩ (n - i) (xs.drop (i * 1)) (n - i) (Nat.min_self _) (by rw [List.length_drop, hxl, Nat.sub_mul]) (by omega) (fun j v hj => by
    rw [Addr.add_lit, Nat.add_assoc]
    rw [List.getElem?_drop] at hj
    exact (hb3.cell (p := ⟨q, o + (i * 1 + j), none⟩) hq).trans (hxs _ v hj)) (fun v hv => h1x v (List.mem_of_mem_drop hv))
  have hb4 : Below w.heap.size w w4 := hb3.drew.grown hg4 hb3.size (fun k hk => by cases hk; exact Nat.le_refl _)
  refine ⟨w3, w4, fun ty dc => hr3 ty dc 1, fun ty dc sc => hr4 ty dc sc, ?_, hb4⟩
  · have e : insV xs (i) vs = (((xs.take (i * 1) ++ zs).take (i * 1) ++ vs ++ (xs.take (i * 1) ++ zs).drop (i * 1 + vs.length)).take ((i + 1) * 1) ++ xs.drop (i * 1) ++ ((xs.take (i * 1) ++ zs).take (i * 1) ++ vs ++ (xs.take (i * 1) ++ zs).drop (i * 1 + vs.length)).drop ((i + 1) * 1 + (xs.drop (i * 1)).length)) := by
      have hm := Nat.mul_le_mul_right 1 hi
      have l1 : (xs.take (i * 1)).length = i * 1 := by simp only [List.length_take, hxl]; omega
      have a1 : (xs.take (i * 1) ++ zs).take (i * 1) = xs.take (i * 1) := by
        have := List.take_left (l₁ := xs.take (i * 1)) (l₂ := zs)
        rwa [l1] at this
      rw [a1]
      have a2 : (xs.take (i * 1) ++ vs ++ (xs.take (i * 1) ++ zs).drop (i * 1 + vs.length)).take ((i + 1) * 1) = xs.take (i * 1) ++ vs := by
        have := List.take_left (l₁ := xs.take (i * 1) ++ vs) (l₂ := (xs.take (i * 1) ++ zs).drop (i * 1 + vs.length))
        rwa [show (xs.take (i * 1) ++ vs).length = (i + 1) * 1 from by simp only [List.length_append, l1, hvs]; omega] at this
      have a3 : (xs.take (i * 1) ++ vs ++ (xs.take (i * 1) ++ zs).drop (i * 1 + vs.length)).drop ((i + 1) * 1 + (xs.drop (i * 1)).length) = [] := List.drop_eq_nil_of_le (by simp only [List.length_append, List.length_drop, l1, hvs, hz, hxl]; omega)
      rw [a2, a3, List.append_nil]
      unfold insV
      try simp only [Nat.mul_one]
    rw [e]
    exact ho4
set_option maxHeartbeats 4000000 in
set_option maxRecDepth 100000 in
/-- No room: a new row. -/
theorem insFullP (w : World) (q o n i X : Nat) (xs vs : List Value) (hxl : xs.length = n * 1) (hxs : ∀ j v, xs[j]? = some v → w.cell? ⟨q, o + j, none⟩ = some v) (h1x : ∀ u ∈ xs, u.oneCell' = true) (hi : i ≤ n) (hnl : n ≤ 1000000) (T : TypeId) (hX : RowIn vs.toArray T w X) (hvs : vs.length = 1) (h1v : ∀ u ∈ vs, u.oneCell' = true) :
    Calls Tryz.prog 107 #[.slice (some ⟨q, o, none⟩) n n, .int .i64 i, .slice (some ⟨X, 0, none⟩) 1 1] w fun e w' =>
      ∃ c, e = .returned (.slice (some ⟨w.heap.size, 0, none⟩) (n + 1) c) ∧ w'.ownsRow w.heap.size 109 1 (.slice (some ⟨w.heap.size, 0, none⟩) (n + 1) c) (n + 1) (insV xs (i) vs) ∧ Below w.heap.size w w' := by
  obtain ⟨i0, z0, hi0, hz0, hz1, hz2, hz3⟩ := infoPg_parts
  have hsz : (Tryz.prog.info? 109).map (·.size) = some 1 := by rw [hi0]; simp [hz1]
  have hi1 : (0 : Int) ≤ (i : Int) := by omega
  have hi2 : (i : Int) ≤ (n : Int) := by omega
  have hw1 : IntKind.i64.wrap ((n : Int) + 1) = (n : Int) + 1 := IntWalk.i64_in _ (by omega)
  have hXlt := hX.lt
  by_cases hin : i = n
  · subst hin
    have hq : decide ((i : Int) = (i : Int)) = true := by simp
    have hrr : ∀ ty, ∃ c' w', (Builtin.append_ #[103, 103] ty #[.slice (some ⟨q, o, none⟩) i i, .slice (some ⟨X, 0, none⟩) 1 1]).run Tryz.prog w = .ok (.slice (some ⟨w.heap.size, 0, none⟩) (i + 1) c') w' ∧ w'.ownsRow w.heap.size 109 1 (.slice (some ⟨w.heap.size, 0, none⟩) (i + 1) c') (i + 1) (xs ++ vs) ∧ Below w.heap.size w w' := fun ty =>
      append_full15 (P := Tryz.prog) w 103 103 ty 109 109 i0 z0 1 24 Tryz.underlying103 Tryz.underlying103 hi0 hz0 hz1 hz2 hz3 ⟨q, o, none⟩ i i xs hxl (fun j v hj => by rw [Addr.add_lit]; exact hxs j v hj) ⟨X, 0, none⟩ 1 1 vs (by rw [hvs]) (rowIn_src15 hX) (by omega) (by unfold maxLen; omega) (by omega)
    have he : xs ++ vs = insV xs (i) vs := by
      unfold insV
      rw [List.drop_eq_nil_of_le (show xs.length ≤ i by omega), List.append_nil, List.take_of_length_le (show xs.length ≤ i by omega)]
    rw [he] at hrr
    go_enter Tryz.func107, Tryz.ntmps107
    go_wp2_with (at_builtin; obtain ⟨c2, w2, hr, ho, hb⟩ := hrr _; refine wpList_append_run15 _ rfl _ _ 103 103 rfl _ _ rfl rfl _ _ hr ?_; have HR := Lib.hid (And.intro ho hb); clear hr ho hb hrr)
    go_ret
    exact ⟨c2, rfl, HR.out⟩
  · have hq : decide ((i : Int) = (n : Int)) = false := by simp; omega
    have hq1 : ¬ ((i : Int) = (n : Int)) := by omega
    have hq2 : ((i : Int) == (n : Int)) = false := by rw [beq_eq_false_iff_ne]; omega
    have hq3 : ¬ (n = i) := by omega
    have hw2 : IntKind.i64.wrap ((i : Int) + 1) = (i : Int) + 1 := IntWalk.i64_in _ (by omega)
    have hw3 : IntKind.i64.wrap ((n : Int) + 1 - (i : Int)) = ((n + 1 - i : Nat) : Int) := by rw [IntWalk.i64_in _ (by omega)]; omega
    have hd1 : decide ((n : Int) < (n : Int) + 1) = true := by simp; omega
    have hj1 : (0 : Int) ≤ (i : Int) + 1 := by omega
    have hj2 : ((i : Int) + 1).toNat = i + 1 := by omega
    have hmk : ∀ ty, ∃ c' w' zs, (Builtin.append_ #[103, 3] ty #[.slice (some ⟨q, o, none⟩) i n, .int .i64 ((n + 1 - i : Nat) : Int)]).run Tryz.prog w = .ok (.slice (some ⟨w.heap.size, 0, none⟩) (n + 1) c') w' ∧ zs.length = (n + 1 - i) * 1 ∧ n + 1 ≤ c' ∧ w'.ownsRow w.heap.size 109 1 (.slice (some ⟨w.heap.size, 0, none⟩) (n + 1) c') (n + 1) (xs.take (i * 1) ++ zs) ∧ Below w.heap.size w w' := fun ty => by
      have h := append_make15 (P := Tryz.prog) w 103 3 ty 109 i0 z0 .i64 1 24 Tryz.underlying103 Tryz.underlying3 hi0 hz0 hz1 hz2 hz3 (by decide) ⟨q, o, none⟩ i n (xs.take (i * 1)) (by simp only [List.length_take, hxl]; omega) (fun j v hj => by
        rw [Addr.add_lit]
        rw [List.getElem?_take] at hj
        split at hj
        · exact hxs j v hj
        · cases hj) (n + 1 - i) (by omega) (by omega) (by unfold maxLen; omega) (by omega)
      rwa [show i + (n + 1 - i) = n + 1 from by omega] at h
    have mixed := mixed15
    go_enter Tryz.func107, Tryz.ntmps107
    have HFin := Lib.hid (insFull_lastP (n := n) (i := i) w q o xs vs hxl hxs h1x hi hin T hX hvs h1v)
    clear hxs h1x hX h1v
    go_wp2_with (first
      | (have _t := HO2; clear _t; at_builtin; refine wpList_copy_run15 _ rfl _ _ 103 103 rfl _ _ rfl rfl (hcA _ _) ?_)
      | (at_builtin; obtain ⟨c2, w2, zs, hr, hzl, hc2, ho, hb⟩ := hmk _; refine wpList_append_run15 _ rfl _ _ 103 3 rfl _ _ rfl rfl _ _ hr ?_; have HO2 := Lib.hid hzl; obtain ⟨w3, w4, hcA, hcB, hF⟩ := HFin.out c2 w2 zs hzl ho hb; have HF := Lib.hid hF; have hc3 : ¬ (c2 = i) := (by omega); have hc4 : ¬ (c2 = i + 1) := (by omega); have hc5 : (i : Int) + 1 ≤ (n : Int) + 1 := (by omega); have hc6 : (i : Int) ≤ (n : Int) + 1 := (by omega); have hc7 : (n : Int) + 1 ≤ (c2 : Int) := (by omega); try simp only [Nat.mul_one] at hcA; try simp only [Nat.mul_one] at hcB; clear hr ho hb hmk hzl hF))
    go_region_law_o (refine step_copy_run15 rfl _ _ 103 103 rfl _ _ (by simp [Act.eval, Act.put]) (by simp [Act.eval, Act.put]) (hcB _) ?_)
    go_wp2_with fail
    go_ret
    exact ⟨c2, rfl, HF.out⟩

end Go.Proofs.YtnhljlmelbiljaaGreat

/- Plain mathematics of layer 15: cells that are laid in, in order; where one stands. No Go here. -/
namespace Go.Proofs.YtnhljlmelbiljaaGreat
set_option linter.unusedVariables false
open Go Go.RowKit

/-- A page: its cells, and where they lie. -/
structure M.Pg where
  l : List M.Cl
  q : Nat
  o : Nat
  k : Nat
def M.pg0 : M.Pg := ⟨[], 0, 0, 0⟩
def M.flat (Ps : List M.Pg) : List M.Cl := Ps.flatMap (fun p => p.l)
theorem M.flat_append (A B : List M.Pg) : M.flat (A ++ B) = M.flat A ++ M.flat B := by simp [M.flat]
theorem M.flat_cons (p : M.Pg) (B : List M.Pg) : M.flat (p :: B) = p.l ++ M.flat B := by simp [M.flat]
theorem M.split_at {α : Type} (L : List α) (i : Nat) (d : α) (h : i < L.length) : L = L.take i ++ L.getD i d :: L.drop (i + 1) := by
  have e : L.getD i d = L[i] := by simp [List.getD, h]
  rw [e, ← List.drop_eq_getElem_cons h, List.take_append_drop]
/-- The same key and Seq. -/
def M.sameC (a b : M.Cl) : Bool := a.key == b.key && a.seq == b.seq
/-- A cell laid in, unless there is one of its key and Seq. -/
def M.insC (c : M.Cl) : List M.Cl → List M.Cl
  | [] => [c]
  | x :: t => if M.aheadC x c = true then x :: M.insC c t else if M.sameC x c = true then x :: t else c :: x :: t
theorem M.insC_cut (c : M.Cl) : ∀ (A B : List M.Cl), (∀ x, x ∈ A → M.aheadC x c = true) → (∀ x t, B = x :: t → M.aheadC x c = false) →
    M.insC c (A ++ B) = A ++ (match B with | [] => [c] | x :: t => if M.sameC x c = true then x :: t else c :: x :: t)
  | [], [], _, _ => rfl
  | [], x :: t, _, h => by
    show M.insC c (x :: t) = _
    rw [M.insC, if_neg (by rw [h x t rfl]; simp)]
    rfl
  | y :: A, B, hA, hB => by
    show M.insC c (y :: (A ++ B)) = _
    rw [M.insC, if_pos (hA y (by simp)), M.insC_cut c A B (fun x hx => hA x (by simp [hx])) hB]
    rfl
theorem M.insC_mem {c x : M.Cl} : ∀ {L : List M.Cl}, x ∈ M.insC c L → x = c ∨ x ∈ L
  | [], h => by simp [M.insC] at h; exact .inl h
  | y :: t, h => by
    rw [M.insC] at h
    split at h
    · rcases List.mem_cons.1 h with rfl | h
      · exact .inr (by simp)
      · rcases M.insC_mem h with h | h
        · exact .inl h
        · exact .inr (by simp [h])
    · split at h
      · exact .inr h
      · rcases List.mem_cons.1 h with rfl | h
        · exact .inl rfl
        · exact .inr h
theorem M.sameC_iff {a b : M.Cl} : M.sameC a b = true ↔ a.key = b.key ∧ a.seq = b.seq := by simp [M.sameC]
/-- Neither ahead: the same key and Seq. -/
theorem M.ahead_tri {a b : M.Cl} (h : M.aheadC a b = false) (k : M.sameC a b = false) : M.aheadC b a = true := by
  refine M.stt_of h (fun e => ?_)
  have : M.sameC a b = true := M.sameC_iff.2 ⟨e.1.symm, e.2.symm⟩
  rw [k] at this; cases this
theorem M.insC_strict {c : M.Cl} : ∀ {L : List M.Cl}, M.Stt L → M.Stt (M.insC c L)
  | [], _ => List.pairwise_singleton _ _
  | x :: t, h => by
    rw [M.insC]
    obtain ⟨h1, h2⟩ := List.pairwise_cons.1 h
    split
    · rename_i hx
      refine List.Pairwise.cons (fun y hy => ?_) (M.insC_strict h2)
      rcases M.insC_mem hy with rfl | hy
      · exact hx
      · exact h1 y hy
    · rename_i hx
      split
      · exact h
      · rename_i hs
        have hca : M.aheadC c x = true := M.ahead_tri (by simpa using hx) (by simpa using hs)
        refine List.Pairwise.cons (fun y hy => ?_) h
        rcases List.mem_cons.1 hy with rfl | hy
        · exact hca
        · exact M.ahead_trans hca (h1 y hy)
theorem M.insC_len (c : M.Cl) : ∀ (L : List M.Cl), (M.insC c L).length ≤ L.length + 1
  | [] => by simp [M.insC]
  | x :: t => by
    rw [M.insC]
    have := M.insC_len c t
    split
    · simp; omega
    · split <;> simp
/-- Where a cell would stand in pages. -/
structure M.SeekOk (Ps : List M.Pg) (c : M.Cl) (a i : Nat) : Prop where
  le : a ≤ Ps.length
  bef : ∀ x, x ∈ M.flat (Ps.take a) → M.aheadC x c = true
  end_ : a = Ps.length → i = 0
  in_ : a < Ps.length → i < (Ps.getD a M.pg0).l.length
  inb : ∀ x, x ∈ (Ps.getD a M.pg0).l.take i → M.aheadC x c = true
  at_ : a < Ps.length → M.aheadC ((Ps.getD a M.pg0).l.getD i M.cl0) c = false
/-- The last cell of a page. -/
def M.lastP (p : M.Pg) : M.Cl := p.l.getD (p.l.length - 1) M.cl0
theorem M.strict_app {A B : List M.Cl} (h : M.Stt (A ++ B)) : M.Stt A ∧ M.Stt B ∧ ∀ x, x ∈ A → ∀ y, y ∈ B → M.aheadC x y = true := List.pairwise_append.1 h
theorem M.last_mem {p : M.Pg} (h : 0 < p.l.length) : M.lastP p ∈ p.l := by
  have e : M.lastP p = p.l[p.l.length - 1] := by simp [M.lastP, List.getD, show p.l.length - 1 < p.l.length from by omega]
  rw [e]; exact List.getElem_mem _
/-- If a page's last cell is ahead of one, all of it is. -/
theorem M.page_ahead {p : M.Pg} {c : M.Cl} (hs : M.Stt p.l) (h : M.aheadC (M.lastP p) c = true) : ∀ x, x ∈ p.l → M.aheadC x c = true := fun x hx => by
  obtain ⟨j, hj, e⟩ := List.getElem_of_mem hx
  rcases Nat.lt_or_ge j (p.l.length - 1) with q | q
  · have h1 := List.pairwise_iff_getElem.1 hs j (p.l.length - 1) hj (by omega) q
    rw [e] at h1
    have e2 : M.lastP p = p.l[p.l.length - 1] := by simp [M.lastP, List.getD, show p.l.length - 1 < p.l.length from by omega]
    rw [e2] at h
    exact M.ahead_trans h1 h
  · have e2 : M.lastP p = p.l[j] := by
      have : p.l.length - 1 = j := by omega
      simp [M.lastP, List.getD, this, hj]
    rw [← e, ← e2]; exact h
theorem M.flat_mem {Ps : List M.Pg} {p : M.Pg} (h : p ∈ Ps) {x : M.Cl} (hx : x ∈ p.l) : x ∈ M.flat Ps := List.mem_flatMap.2 ⟨p, h, hx⟩
theorem M.getD_memP {Ps : List M.Pg} {j : Nat} (h : j < Ps.length) : Ps.getD j M.pg0 ∈ Ps := by
  have e : Ps.getD j M.pg0 = Ps[j] := by simp [List.getD, h]
  rw [e]; exact List.getElem_mem h
theorem M.flat_at {Ps : List M.Pg} {j : Nat} (h : j < Ps.length) : M.flat Ps = M.flat (Ps.take j) ++ ((Ps.getD j M.pg0).l ++ M.flat (Ps.drop (j + 1))) := by
  conv => lhs; rw [M.split_at Ps j M.pg0 h]
  rw [M.flat_append, M.flat_cons]
theorem M.page_strict {Ps : List M.Pg} (h : M.Stt (M.flat Ps)) {p : M.Pg} (hp : p ∈ Ps) : M.Stt p.l := by
  obtain ⟨j, hj, e⟩ := List.getElem_of_mem hp
  have e2 : Ps.getD j M.pg0 = p := by simp [List.getD, hj, e]
  rw [M.flat_at hj, e2] at h
  exact (M.strict_app (M.strict_app h).2.1).1
theorem M.flat_take_mem {Ps : List M.Pg} {a : Nat} {x : M.Cl} (h : x ∈ M.flat (Ps.take a)) : ∃ i, i < a ∧ i < Ps.length ∧ x ∈ (Ps.getD i M.pg0).l := by
  obtain ⟨p, hp, hx⟩ := List.mem_flatMap.1 h
  obtain ⟨i, hi, e⟩ := List.getElem_of_mem hp
  rw [List.length_take] at hi
  refine ⟨i, by omega, by omega, ?_⟩
  rw [List.getElem_take] at e
  simp only [List.getD, List.getElem?_eq_getElem (show i < Ps.length by omega), Option.getD_some, e]
  exact hx
/-- Pages ahead of one whose last cell is ahead: theirs are. -/
theorem M.last_mono {Ps : List M.Pg} (hs : M.Stt (M.flat Ps)) (hn : ∀ p, p ∈ Ps → 0 < p.l.length) {c : M.Cl} {i j : Nat} (hij : i ≤ j) (hj : j < Ps.length) (h : M.aheadC (M.lastP (Ps.getD j M.pg0)) c = true) : M.aheadC (M.lastP (Ps.getD i M.pg0)) c = true := by
  rcases Nat.lt_or_ge i j with q | q
  · have h1 := M.last_mem (hn _ (M.getD_memP (Ps := Ps) (j := i) (by omega)))
    have h2 := M.last_mem (hn _ (M.getD_memP hj))
    rw [M.flat_at hj] at hs
    have h3 : M.lastP (Ps.getD i M.pg0) ∈ M.flat (Ps.take j) := by
      refine M.flat_mem (p := Ps.getD i M.pg0) ?_ h1
      have e : Ps.getD i M.pg0 = (Ps.take j)[i]'(by simp; omega) := by simp [List.getD, show i < Ps.length from by omega]
      rw [e]; exact List.getElem_mem _
    exact M.ahead_trans ((M.strict_app hs).2.2 _ h3 _ (List.mem_append.2 (.inl h2))) h
  · obtain rfl : i = j := by omega
    exact h
theorem M.seek_of {Ps : List M.Pg} (hs : M.Stt (M.flat Ps)) (hn : ∀ p, p ∈ Ps → 0 < p.l.length) {c : M.Cl} {a i : Nat} (ha : a ≤ Ps.length) (h1 : ∀ j, j < a → M.aheadC (M.lastP (Ps.getD j M.pg0)) c = true) (h2 : a < Ps.length → M.aheadC (M.lastP (Ps.getD a M.pg0)) c = false)
    (h3 : a = Ps.length → i = 0) (h4 : a < Ps.length → i ≤ (Ps.getD a M.pg0).l.length ∧ (∀ j, j < i → M.aheadC ((Ps.getD a M.pg0).l.getD j M.cl0) c = true) ∧ (∀ j, i ≤ j → j < (Ps.getD a M.pg0).l.length → M.aheadC ((Ps.getD a M.pg0).l.getD j M.cl0) c = false)) : M.SeekOk Ps c a i := by
  have hin : a < Ps.length → i < (Ps.getD a M.pg0).l.length := fun hlt => by
    obtain ⟨k1, k2, k3⟩ := h4 hlt
    have hp := hn _ (M.getD_memP hlt)
    rcases Nat.lt_or_ge i (Ps.getD a M.pg0).l.length with q | q
    · exact q
    · have := k2 ((Ps.getD a M.pg0).l.length - 1) (by omega)
      have e : (Ps.getD a M.pg0).l.getD ((Ps.getD a M.pg0).l.length - 1) M.cl0 = M.lastP (Ps.getD a M.pg0) := rfl
      rw [e, h2 hlt] at this
      cases this
  refine ⟨ha, fun x hx => ?_, h3, hin, fun x hx => ?_, fun hlt => (h4 hlt).2.2 i (Nat.le_refl _) (hin hlt)⟩
  · obtain ⟨j, hj, hjl, hxj⟩ := M.flat_take_mem hx
    exact M.page_ahead (M.page_strict hs (M.getD_memP hjl)) (h1 j hj) x hxj
  · obtain ⟨j, hj, e⟩ := List.getElem_of_mem hx
    rw [List.length_take] at hj
    rcases Nat.lt_or_ge a Ps.length with hlt | hge
    · have := (h4 hlt).2.1 j (by omega)
      rw [List.getElem_take] at e
      rw [M.gD15 _ j M.cl0 (by omega), e] at this
      exact this
    · exact absurd (h3 (by omega)) (by omega)
/-- What comes of laying one in there. -/
theorem M.SeekOk.cut {Ps : List M.Pg} {c : M.Cl} {a i : Nat} (h : M.SeekOk Ps c a i) (hlt : a < Ps.length) : ∃ A x B, M.flat Ps = A ++ x :: B ∧ A = M.flat (Ps.take a) ++ (Ps.getD a M.pg0).l.take i ∧ x = (Ps.getD a M.pg0).l.getD i M.cl0 ∧ B = (Ps.getD a M.pg0).l.drop (i + 1) ++ M.flat (Ps.drop (a + 1)) ∧ (∀ y, y ∈ A → M.aheadC y c = true) ∧ M.aheadC x c = false := by
  refine ⟨_, _, _, ?_, rfl, rfl, rfl, fun y hy => ?_, h.at_ hlt⟩
  · have e := M.split_at (Ps.getD a M.pg0).l i M.cl0 (h.in_ hlt)
    rw [M.flat_at hlt]
    conv => lhs; rw [e]
    simp
  · rcases List.mem_append.1 hy with hy | hy
    · exact h.bef y hy
    · exact h.inb y hy
theorem M.SeekOk.all {Ps : List M.Pg} {c : M.Cl} {a i : Nat} (h : M.SeekOk Ps c a i) (he : a = Ps.length) : ∀ y, y ∈ M.flat Ps → M.aheadC y c = true := fun y hy => h.bef y (by rw [he, List.take_length]; exact hy)
theorem M.SeekOk.ins {Ps : List M.Pg} {c : M.Cl} {a i : Nat} (h : M.SeekOk Ps c a i) :
    M.insC c (M.flat Ps) = if a = Ps.length then M.flat Ps ++ [c] else if M.sameC ((Ps.getD a M.pg0).l.getD i M.cl0) c = true then M.flat Ps else M.flat (Ps.take a) ++ ((Ps.getD a M.pg0).l.take i ++ c :: (Ps.getD a M.pg0).l.drop i) ++ M.flat (Ps.drop (a + 1)) := by
  by_cases he : a = Ps.length
  · rw [if_pos he]
    have := M.insC_cut c (M.flat Ps) [] (h.all he) (fun x t e => by cases e)
    simpa using this
  · rw [if_neg he]
    have hlt : a < Ps.length := by have := h.le; omega
    obtain ⟨A, x, B, e, eA, ex, eB, hA, hx⟩ := h.cut hlt
    have hc := M.insC_cut c A (x :: B) hA (fun y t e => by cases e; exact hx)
    rw [← ex, e, hc]
    by_cases hs : M.sameC x c = true
    · simp only [if_pos hs]
    · simp only [if_neg hs]
      have e2 : (Ps.getD a M.pg0).l.drop i = x :: (Ps.getD a M.pg0).l.drop (i + 1) := by
        rw [List.drop_eq_getElem_cons (h.in_ hlt), ex, M.gD15 _ i M.cl0 (h.in_ hlt)]
      rw [eA, eB, e2]
      simp

end Go.Proofs.YtnhljlmelbiljaaGreat

/- Layer 15: memories; where a cell would stand, by contracts. -/
namespace Go.Proofs.YtnhljlmelbiljaaGreat
set_option linter.unusedVariables false
set_option linter.unusedSimpArgs false
open Go Go.RowKit
attribute [local go_sem ↓] run_index_S
attribute [local go_sem] S_append S_extract

def pgV (p : M.Pg) : Value := .slice (some ⟨p.q, p.o, none⟩) p.l.length p.k
def pgsV (Ps : List M.Pg) : List Value := Ps.map pgV
theorem pgsV_get {Ps : List M.Pg} {j : Nat} (h : j < Ps.length) : (pgsV Ps)[j]? = some (pgV (Ps.getD j M.pg0)) := by
  simp [pgsV, List.getD, h]
theorem pgsV_one (Ps : List M.Pg) : ∀ u ∈ pgsV Ps, u.oneCell' = true := fun u hu => by
  obtain ⟨p, _, rfl⟩ := List.mem_map.1 hu
  rfl
/-- A page's cells stand where it says. -/
def PgCl (w : World) (p : M.Pg) : Prop := ∀ j, j < p.l.length → ClOff (p.l.getD j M.cl0) w p.q (p.o + j * 3)
theorem PgCl.below {w w' : World} {p : M.Pg} (h : PgCl w p) (hb : Below w.heap.size w w') : PgCl w' p := fun j hj => (h j hj).below hb
theorem PgCl.cls {w : World} {p : M.Pg} (h : PgCl w p) : ClsAt w (some ⟨p.q, p.o, none⟩) p.l := fun _ => ⟨p.q, p.o, rfl, h⟩
structure PgsAt (B : Nat) (pa : Option Addr) (pc : Nat) (Ps : List M.Pg) (w : World) : Prop where
  row : w.ownsRow B 109 1 (.slice pa Ps.length pc) Ps.length (pgsV Ps)
  each : ∀ p, p ∈ Ps → PgCl w p
theorem PgsAt.below {B : Nat} {pa : Option Addr} {pc : Nat} {Ps : List M.Pg} {w w' : World} (h : PgsAt B pa pc Ps w) (hb : Below w.heap.size w w') : PgsAt B pa pc Ps w' := ⟨ownP_below h.row hb, fun p hp => (h.each p hp).below hb⟩
theorem PgsAt.at_ {B : Nat} {pa : Option Addr} {pc : Nat} {Ps : List M.Pg} {w : World} (h : PgsAt B pa pc Ps w) {j : Nat} (hj : j < Ps.length) : ∃ g, pa = some ⟨g, 0, none⟩ ∧ w.cell? ⟨g, j, none⟩ = some (pgV (Ps.getD j M.pg0)) ∧ PgCl w (Ps.getD j M.pg0) := by
  obtain ⟨g, cap', e, _, hc⟩ := own_slice10 h.row (by omega)
  injection e with e1 e2 e3
  exact ⟨g, e1, hc j _ (pgsV_get hj), h.each _ (M.getD_memP hj)⟩
instance car_pgs {w w' : World} {B : Nat} {pa : Option Addr} {pc : Nat} {Ps : List M.Pg} : Car w w' (PgsAt B pa pc Ps w) (PgsAt B pa pc Ps w') := ⟨fun hb h => h.below hb⟩
instance car_pgCl {w w' : World} {p : M.Pg} : Car w w' (PgCl w p) (PgCl w' p) := ⟨fun hb h => h.below hb⟩

set_option maxHeartbeats 2000000 in
set_option maxRecDepth 100000 in
theorem ahead15_any (a b : M.Cl) (w : World) :
    Calls Tryz.prog 111 #[.agg (clA a), .agg (clA b)] w fun e w' => e = .returned (.bool (M.aheadC a b)) ∧ Below w.heap.size w w' := by
  have HB := Lib.hid (((Below.refl w.heap.size w).alloc (Nat.le_refl _) (.cells (clA a) 38)).alloc (by rw [szA]; omega) (.cells (clA b) 38))
  have HX := Lib.hid ((rowIn_new (clA a) 38 w).more (.cells (clA b) 38))
  have HY := Lib.hid (rowIn_at (clA b) 38 (w.alloc (.cells (clA a) 38)) (w.heap.size + 1) (by rw [szA]))
  have HM : Hid (M.aheadC a b = (Op.bytesLess a.key b.key || (a.key == b.key && decide (b.seq < a.seq)))) := Lib.hid rfl
  generalize M.aheadC a b = mb at *
  go_enter Tryz.func111, Tryz.ntmps111
  go_wp2_with fail
  all_goals
    go_ret
    exact ⟨ret_bool (by rw [HM.out, Bool.eq_iff_iff]; simp_all), HB.out⟩
def agV (p : M.Pg) (c : M.Cl) : Int := if M.aheadC (M.lastP p) c = true then -1 else 1
set_option maxHeartbeats 4000000 in
set_option maxRecDepth 100000 in
theorem against15_any (p : M.Pg) (hn : 0 < p.l.length) (hl : p.l.length ≤ 1000000) (c : M.Cl) (w : World) (h : PgCl w p) :
    Calls Tryz.prog 109 #[pgV p, .agg (clA c)] w fun e w' => e = .returned (.int .i64 (agV p c)) ∧ Below w.heap.size w w' := by
  have hal := (Below.refl w.heap.size w).alloc (Nat.le_refl _) (.cells (clA c) 38)
  have HB := Lib.hid hal
  obtain ⟨x0, x1, x2⟩ := (h (p.l.length - 1) (by omega)).below hal
  have HX := rowIn_new (clA c) 38 w
  have y0 := HX.cell 0
  have y1 := HX.cell 1
  have y2 := HX.cell 2
  have hw1 : IntKind.i64.wrap ((p.l.length : Int) - 1) = ((p.l.length - 1 : Nat) : Int) := by rw [IntWalk.i64_in _ (by omega)]; omega
  have hw2 : ((p.l.length - 1 : Nat) : Int) < (p.l.length : Int) := by omega
  have hw3 : (0 : Int) ≤ ((p.l.length - 1 : Nat) : Int) := by omega
  have CA := Lib.hid (fun V => ahead15_any (M.lastP p) c V)
  have HV : Hid (agV p c = if M.aheadC (M.lastP p) c = true then -1 else 1) := Lib.hid rfl
  have e : p.l.getD (p.l.length - 1) M.cl0 = M.lastP p := rfl
  rw [e] at x0 x1 x2
  generalize M.lastP p = d at *
  generalize agV p c = av at *
  unfold pgV
  clear h hal e
  obtain ⟨W, hW⟩ : ∃ W, W = w.alloc (.cells (clA c) 38) := ⟨_, rfl⟩
  rw [← hW] at x0 x1 x2 y0 y1 y2 HB
  have HWs : Hid (w.heap.size = w.heap.size) := Lib.hid rfl
  subst hW
  have g0 := fun d os => cell_regrown x0 d os
  have g1 := fun d os => cell_regrown x1 d os
  have g2 := fun d os => cell_regrown x2 d os
  have g3 := fun d os => cell_regrown y0 d os
  have g4 := fun d os => cell_regrown y1 d os
  have g5 := fun d os => cell_regrown y2 d os
  clear x0 x1 x2 y0 y1 y2 HX
  go_enter Tryz.func109, Tryz.ntmps109
  cases ha : M.aheadC d c with
  | true =>
    rw [ha] at CA
    have HE := Lib.hid (show -1 = av from by rw [HV.out, if_pos ha])
    clear ha HV
    go_wp2_with fail
    refine wp_region_quiet_below (by kernel_rfl) (by kernel_rfl) ?_
    repeat (any_goals (first | go_big_quiet_step ((first | (go_at_call 111; with_reducible exact Calls.regrown_of (CA.out _)))) | quiet_step ((first | (go_at_call 111; with_reducible exact Calls.regrown_of (CA.out _))))))
    refine wpQuiet_nil ?_
    intro _ hw1
    obtain ⟨⟨d1, d1o⟩, hw1⟩ := hw1
    subst hw1
    replace HB := Lib.hid (HB.out.trans ((below_regrown _ d1 d1o).mono HB.out.size))
    go_wp2_with fail
    go_ret
    exact ⟨by rw [← HE.out]; rfl, HB.out⟩
  | false =>
    rw [ha] at CA
    have HE := Lib.hid (show 1 = av from by rw [HV.out, if_neg (by rw [ha]; simp)])
    clear ha HV
    go_wp2_with fail
    refine wp_region_quiet_below (by kernel_rfl) (by kernel_rfl) ?_
    repeat (any_goals (first | go_big_quiet_step ((first | (go_at_call 111; with_reducible exact Calls.regrown_of (CA.out _)))) | quiet_step ((first | (go_at_call 111; with_reducible exact Calls.regrown_of (CA.out _))))))
    refine wpQuiet_nil ?_
    intro _ hw1
    obtain ⟨⟨d1, d1o⟩, hw1⟩ := hw1
    subst hw1
    replace HB := Lib.hid (HB.out.trans ((below_regrown _ d1 d1o).mono HB.out.size))
    go_wp2_with fail
    go_ret
    exact ⟨by rw [← HE.out]; rfl, HB.out⟩

end Go.Proofs.YtnhljlmelbiljaaGreat

/- Layer 15: seek, by contracts. -/
namespace Go.Proofs.YtnhljlmelbiljaaGreat
set_option linter.unusedVariables false
set_option linter.unusedSimpArgs false
open Go Go.RowKit
attribute [local go_sem ↓] run_index_S
attribute [local go_sem] S_append S_extract

structure PgsOk (Ps : List M.Pg) : Prop where
  n : Ps.length ≤ 100000
  len : ∀ p, p ∈ Ps → 0 < p.l.length ∧ p.l.length ≤ 100000
  st : M.Stt (M.flat Ps)
theorem M.count_pre {α : Type} (f : α → Bool) (d : α) {L : List α} {a : Nat} (ha : a ≤ L.length) (h1 : ∀ j, j < a → f (L.getD j d) = true) (h2 : ∀ j, a ≤ j → j < L.length → f (L.getD j d) = false) : (L.filter f).length = a := by
  conv => lhs; rw [← List.take_append_drop a L]
  rw [List.filter_append]
  have e1 : (L.take a).filter f = L.take a := List.filter_eq_self.2 (fun x hx => by
    obtain ⟨j, hj, e⟩ := List.getElem_of_mem hx
    rw [List.length_take] at hj
    rw [List.getElem_take] at e
    have := h1 j (by omega)
    rwa [M.gD15 L j d (by omega), e] at this)
  have e2 : (L.drop a).filter f = [] := List.filter_eq_nil_iff.2 (fun x hx => by
    obtain ⟨j, hj, e⟩ := List.getElem_of_mem hx
    rw [List.length_drop] at hj
    rw [List.getElem_drop] at e
    have := h2 (a + j) (by omega) (by omega)
    rw [M.gD15 L (a + j) d (by omega), e] at this
    simp [this])
  rw [e1, e2]
  simp; omega
def M.seekA (Ps : List M.Pg) (c : M.Cl) : Nat := (Ps.filter (fun p => M.aheadC (M.lastP p) c)).length
def M.seekI (l : List M.Cl) (c : M.Cl) : Nat := (l.filter (fun x => M.aheadC x c)).length
def BinR (Ps : List M.Pg) (c : M.Cl) (w : World) (e : Ending) (w' : World) : Prop := e = .returned (.tuple #[.int .i64 (M.seekA Ps c : Nat), .bool false]) ∧ Below w.heap.size w w'
theorem agV_ne (p : M.Pg) (c : M.Cl) : ¬ (agV p c = 0) := by unfold agV; split <;> decide
theorem agV_neg {p : M.Pg} {c : M.Cl} (h : M.aheadC (M.lastP p) c = true) : agV p c = -1 := if_pos h
theorem agV_pos {p : M.Pg} {c : M.Cl} (h : M.aheadC (M.lastP p) c = false) : agV p c = 1 := if_neg (by rw [h]; simp)
set_option maxHeartbeats 4000000 in
set_option maxRecDepth 100000 in
theorem binary15_any (B : Nat) (pa : Option Addr) (pc : Nat) (Ps : List M.Pg) (hok : PgsOk Ps) (c : M.Cl) (w : World) (h : PgsAt B pa pc Ps w) :
    Calls Tryz.prog 108 #[.slice pa Ps.length pc, .agg (clA c), .func (.func 109) #[] #[]] w (BinR Ps c w) := by
  have hn := hok.n
  have hal := (Below.refl w.heap.size w).alloc (Nat.le_refl _) (.cells (clA c) 38)
  have HP := Lib.hid (h.below hal)
  have HX := Lib.hid (rowIn_new (clA c) 38 w)
  have HB0 := Lib.hid hal
  have HOK := Lib.hid hok
  have HM := Lib.hid (fun i j (hij : i ≤ j) (hj : j < Ps.length) hh => M.last_mono (c := c) hok.st (fun p hp => (hok.len p hp).1) hij hj hh)
  clear h hok hal
  go_enter Tryz.func108, Tryz.ntmps108
  go_wp2_with fail
  have hxb : w.heap.size < (w.alloc (.cells (clA c) 38)).heap.size := by rw [szA]; exact Nat.lt_succ_self _
  obtain ⟨W0, hW0⟩ : ∃ W, W = w.alloc (.cells (clA c) 38) := ⟨_, rfl⟩
  rw [← hW0] at HP HX HB0 hxb
  obtain ⟨xb, hxb2⟩ : ∃ x, x = w.heap.size := ⟨_, rfl⟩
  rw [← hxb2] at HX hxb
  have HW0 := Lib.hid hW0
  have HXB := Lib.hid hxb2
  have hW0' : w.alloc (.cells #[.string (S c.key), .int .i64 c.seq, .string (S c.val)] 38) = W0 := hW0.symm
  try rw [hW0']
  try rw [← hxb2]
  clear hW0 hxb2 hW0'
  go_loopw [9, 10] (fun vi vj wr => ∃ i j : Nat, i ≤ j ∧ j ≤ Ps.length ∧ vi = .int .i64 i ∧ vj = .int .i64 j ∧ Hid (∀ k, k < i → M.aheadC (M.lastP (Ps.getD k M.pg0)) c = true) ∧ Hid (∀ k, j ≤ k → k < Ps.length → M.aheadC (M.lastP (Ps.getD k M.pg0)) c = false) ∧ Hid (Below W0.heap.size W0 wr)) (fun vi vj _ => (intOf vj).toNat - (intOf vi).toNat)
  case atStart => exact ⟨0, Ps.length, Nat.zero_le _, Nat.le_refl _, rfl, rfl, Lib.hid (fun k hk => by omega), Lib.hid (fun k h1 h2 => by omega), Lib.hid (Below.refl _ _)⟩
  case round =>
    obtain ⟨i, j, hij, hj, rfl, rfl, H1, H2, HB⟩ := hrel
    have HPr := Lib.hid (HP.out.below HB.out)
    have HXr := Lib.hid (HX.out.below HB.out)
    by_cases hlt : i < j
    · have d1 : decide ((i : Int) < (j : Int)) = true := by simp; omega
      obtain ⟨h, hh⟩ : ∃ h, h = (i + j) / 2 := ⟨_, rfl⟩
      have h1 : i ≤ h := by omega
      have h2 : h < j := by omega
      have hc : ((i : Int) + (j : Int)) / 2 = (h : Int) := by omega
      have hhn : (h : Int) < (Ps.length : Int) := by omega
      obtain ⟨g, rfl, z0, hcl⟩ := HPr.out.at_ (j := h) (by omega)
      have hpl := HOK.out.len _ (M.getD_memP (Ps := Ps) (j := h) (by omega))
      have CA := Lib.hid (fun V (hV : PgCl V (Ps.getD h M.pg0)) => against15_any (Ps.getD h M.pg0) hpl.1 (by omega) c V hV)
      have HCL := Lib.hid (fun d os => hcl.below (below_regrown wr d os))
      have HMh := Lib.hid (fun i hi hh => HM.out i h hi (by omega) hh)
      have HMh2 := Lib.hid (fun k (hk : h ≤ k) (hkn : k < Ps.length) (hf : M.aheadC (M.lastP (Ps.getD h M.pg0)) c = false) => (show M.aheadC (M.lastP (Ps.getD k M.pg0)) c = false from by
        cases q : M.aheadC (M.lastP (Ps.getD k M.pg0)) c with
        | false => rfl
        | true => have := HM.out h k hk hkn q; rw [hf] at this; cases this))
      have HAN := Lib.hid (fun hh => agV_neg (p := Ps.getD h M.pg0) (c := c) hh)
      have HAP := Lib.hid (fun hh => agV_pos (p := Ps.getD h M.pg0) (c := c) hh)
      generalize Ps.getD h M.pg0 = p at *
      have y0 := HXr.out.cell 0
      have y1 := HXr.out.cell 1
      have y2 := HXr.out.cell 2
      have g0 := fun d os => cell_regrown z0 d os
      have g1 := fun d os => cell_regrown y0 d os
      have g2 := fun d os => cell_regrown y1 d os
      have g3 := fun d os => cell_regrown y2 d os
      clear hh z0 y0 y1 y2 hcl hpl
      cases hq : M.aheadC (M.lastP p) c with
      | true =>
        have ha := HAN.out hq
        rw [ha] at CA
        have HQ := Lib.hid hq
        clear hq ha HAN HAP
        go_wp2_with fail
        refine wp_region_quiet_below (by kernel_rfl) (by kernel_rfl) ?_
        repeat (any_goals (first | go_big_quiet_step ((first | (go_at_call 109; exact Calls.regrown_of (CA.out _ (HCL.out _ _))))) | quiet_step ((first | (go_at_call 109; exact Calls.regrown_of (CA.out _ (HCL.out _ _)))))))
        refine wpQuiet_nil ?_
        intro _ hw1
        obtain ⟨⟨d1, d1o⟩, hw1⟩ := hw1
        subst hw1
        replace HB := carry (below_regrown wr d1 d1o) HB
        clear g0 g1 g2 g3
        go_wp2_with fail
        go_roundw
        case rel => exact ⟨h + 1, j, by omega, hj, by go_num, rfl, Lib.hid (fun k hk => HMh.out k (by omega) HQ.out), H2, HB⟩
        case measure => simp [intOf]; omega
      | false =>
        have ha := HAP.out hq
        rw [ha] at CA
        have HQ := Lib.hid hq
        clear hq ha HAN HAP
        go_wp2_with fail
        refine wp_region_quiet_below (by kernel_rfl) (by kernel_rfl) ?_
        repeat (any_goals (first | go_big_quiet_step ((first | (go_at_call 109; exact Calls.regrown_of (CA.out _ (HCL.out _ _))))) | quiet_step ((first | (go_at_call 109; exact Calls.regrown_of (CA.out _ (HCL.out _ _)))))))
        refine wpQuiet_nil ?_
        intro _ hw1
        obtain ⟨⟨d1, d1o⟩, hw1⟩ := hw1
        subst hw1
        replace HB := carry (below_regrown wr d1 d1o) HB
        clear g0 g1 g2 g3
        go_wp2_with fail
        go_roundw
        case rel => exact ⟨i, h, h1, by omega, rfl, rfl, H1, Lib.hid (fun k hk hkn => HMh2.out k hk hkn HQ.out), HB⟩
        case measure => simp [intOf]; omega
    · obtain rfl : i = j := by omega
      have d1 : decide ((i : Int) < (i : Int)) = false := by simp
      by_cases hin : i < Ps.length
      · have hii : (i : Int) < (Ps.length : Int) := by omega
        obtain ⟨g, rfl, z0, hcl⟩ := HPr.out.at_ hin
        have hpl := HOK.out.len _ (M.getD_memP hin)
        have CA := Lib.hid (fun V (hV : PgCl V (Ps.getD i M.pg0)) => against15_any (Ps.getD i M.pg0) hpl.1 (by omega) c V hV)
        have HCL := Lib.hid (fun d os => hcl.below (below_regrown wr d os))
        have hav := agV_ne (Ps.getD i M.pg0) c
        generalize Ps.getD i M.pg0 = p at *
        generalize agV p c = av at *
        have hav2 : (av == 0) = false := by rw [beq_eq_false_iff_ne]; exact hav
        have y0 := HXr.out.cell 0
        have y1 := HXr.out.cell 1
        have y2 := HXr.out.cell 2
        have g0 := fun d os => cell_regrown z0 d os
        have g1 := fun d os => cell_regrown y0 d os
        have g2 := fun d os => cell_regrown y1 d os
        have g3 := fun d os => cell_regrown y2 d os
        clear z0 y0 y1 y2 hcl hpl
        go_wp2_with fail
        refine wp_region_quiet_below (by kernel_rfl) (by kernel_rfl) ?_
        repeat (any_goals (first | go_big_quiet_step ((first | (go_at_call 109; exact Calls.regrown_of (CA.out _ (HCL.out _ _))))) | quiet_step ((first | (go_at_call 109; exact Calls.regrown_of (CA.out _ (HCL.out _ _)))))))
        refine wpQuiet_nil ?_
        intro _ hw1
        obtain ⟨⟨d1, d1o⟩, hw1⟩ := hw1
        subst hw1
        replace HB := carry (below_regrown wr d1 d1o) HB
        clear g0 g1 g2 g3
        go_wp2_with fail
        go_ret2
        exact ⟨by rw [M.seekA, M.count_pre _ M.pg0 hj H1.out H2.out]; rfl, HB0.out.trans (HB.out.mono HB0.out.size)⟩
      · have hii : decide ((i : Int) < (Ps.length : Int)) = false := by simp; omega
        go_wp2_with fail
        refine wp_region_quiet_below (by kernel_rfl) (by kernel_rfl) ?_
        repeat (any_goals (first | go_big_quiet_step (fail) | quiet_step (fail)))
        refine wpQuiet_nil ?_
        intro _ hw1
        obtain ⟨⟨d1, d1o⟩, hw1⟩ := hw1
        subst hw1
        replace HB := carry (below_regrown wr d1 d1o) HB
        go_wp2_with fail
        go_ret2
        exact ⟨by rw [M.seekA, M.count_pre _ M.pg0 hj H1.out H2.out]; rfl, HB0.out.trans (HB.out.mono HB0.out.size)⟩

end Go.Proofs.YtnhljlmelbiljaaGreat

/- Layer 15: a memory in memory; seek, first, New, Len, Get, by contracts. -/
namespace Go.Proofs.YtnhljlmelbiljaaGreat
set_option linter.unusedVariables false
set_option linter.unusedSimpArgs false
open Go Go.RowKit
attribute [local go_sem ↓] run_index_S
attribute [local go_sem] S_append S_extract

set_option maxHeartbeats 4000000 in
set_option maxRecDepth 100000 in
theorem seekF15_any (p : M.Pg) (c : M.Cl) (i : Nat) (hi : i < p.l.length) (pb xb : Nat) (w : World) (h : PgCl w p) (h1 : RowIn #[pgV p] 109 w pb) (h2 : RowIn (clA c) 38 w xb) :
    Calls Tryz.prog 110 #[.int .i64 i, .pointer (some ⟨pb, 0, none⟩), .pointer (some ⟨xb, 0, none⟩)] w fun e w' => e = .returned (.bool (!M.aheadC (p.l.getD i M.cl0) c)) ∧ Below w.heap.size w w' := by
  obtain ⟨x0, x1, x2⟩ := h i hi
  have hii : (i : Int) < (p.l.length : Int) := by omega
  have CA := Lib.hid (fun V => ahead15_any (p.l.getD i M.cl0) c V)
  generalize p.l.getD i M.cl0 = d at *
  have z0 := h1.cell 0
  have y0 := h2.cell 0
  have y1 := h2.cell 1
  have y2 := h2.cell 2
  unfold pgV at z0
  generalize M.aheadC d c = ab at *
  have g0 := fun d os => cell_regrown x0 d os
  have g1 := fun d os => cell_regrown x1 d os
  have g2 := fun d os => cell_regrown x2 d os
  have g3 := fun d os => cell_regrown y0 d os
  have g4 := fun d os => cell_regrown y1 d os
  have g5 := fun d os => cell_regrown y2 d os
  have g6 := fun d os => cell_regrown z0 d os
  clear x0 x1 x2 y0 y1 y2 z0 h h1 h2
  go_enter Tryz.func110, Tryz.ntmps110
  go_wp2_with fail
  refine wp_region_quiet_below (by kernel_rfl) (by kernel_rfl) ?_
  repeat (any_goals (first | go_big_quiet_step ((first | (go_at_call 111; with_reducible exact Calls.regrown_of (CA.out _)))) | quiet_step ((first | (go_at_call 111; with_reducible exact Calls.regrown_of (CA.out _))))))
  refine wpQuiet_nil ?_
  intro _ hw1
  obtain ⟨⟨d1, d1o⟩, hw1⟩ := hw1
  subst hw1
  have HB := Lib.hid (below_regrown w d1 d1o)
  go_wp2_with fail
  go_ret
  exact ⟨rfl, HB.out⟩
set_option maxHeartbeats 4000000 in
set_option maxRecDepth 100000 in
theorem search15_any (p : M.Pg) (hs : M.Stt p.l) (hl : p.l.length ≤ 100000) (c : M.Cl) (pb xb : Nat) (w : World) (h : PgCl w p) (h1 : RowIn #[pgV p] 109 w pb) (h2 : RowIn (clA c) 38 w xb) :
    Calls Tryz.prog 41 #[.int .i64 p.l.length, .func (.func 110) #[] #[.pointer (some ⟨pb, 0, none⟩), .pointer (some ⟨xb, 0, none⟩)]] w fun e w' => e = .returned (.int .i64 (M.seekI p.l c : Nat)) ∧ Below w.heap.size w w' := by
  have HT := Lib.hid (And.intro h (And.intro h1 h2))
  have HM := Lib.hid (show ∀ a b, a ≤ b → b < p.l.length → M.aheadC (p.l.getD b M.cl0) c = true → M.aheadC (p.l.getD a M.cl0) c = true from fun a b hab hb hh => by
    rcases Nat.lt_or_ge a b with q | q
    · have := List.pairwise_iff_getElem.1 hs a b (by omega) hb q
      rw [M.gD15 _ b M.cl0 hb] at hh
      rw [M.gD15 _ a M.cl0 (by omega)]
      exact M.ahead_trans this hh
    · obtain rfl : a = b := by omega
      exact hh)
  clear h h1 h2
  go_enter Tryz.func41, Tryz.ntmps41
  go_wp2_with fail
  go_loopw [5, 6] (fun vi vj wr => ∃ i j : Nat, i ≤ j ∧ j ≤ p.l.length ∧ vi = .int .i64 i ∧ vj = .int .i64 j ∧ Hid (∀ k, k < i → M.aheadC (p.l.getD k M.cl0) c = true) ∧ Hid (∀ k, j ≤ k → k < p.l.length → M.aheadC (p.l.getD k M.cl0) c = false) ∧ Hid (Below w.heap.size w wr)) (fun vi vj _ => (intOf vj).toNat - (intOf vi).toNat)
  case atStart => exact ⟨0, p.l.length, Nat.zero_le _, Nat.le_refl _, rfl, rfl, Lib.hid (fun k hk => by omega), Lib.hid (fun k h1 h2 => by omega), Lib.hid (Below.refl _ _)⟩
  case round =>
    obtain ⟨i, j, hij, hj, rfl, rfl, H1, H2, HBr⟩ := hrel
    by_cases hlt : i < j
    · have d1 : decide ((i : Int) < (j : Int)) = true := by simp; omega
      have d2 : decide (i < j) = true := by simp; omega
      obtain ⟨h, hh⟩ : ∃ h, h = (i + j) / 2 := ⟨_, rfl⟩
      have h1 : i ≤ h := by omega
      have h2 : h < j := by omega
      have hc : ((i : Int) + (j : Int)) / 2 = (h : Int) := by omega
      have CB := Lib.hid (seekF15_any p c h (by omega) pb xb wr (HT.out.1.below HBr.out) (HT.out.2.1.below HBr.out) (HT.out.2.2.below HBr.out))
      clear hh
      have HQ := Lib.hid (show (M.aheadC (p.l.getD h M.cl0) c = true → ∀ k, k < h + 1 → M.aheadC (p.l.getD k M.cl0) c = true) ∧ (M.aheadC (p.l.getD h M.cl0) c = false → ∀ k, h ≤ k → k < p.l.length → M.aheadC (p.l.getD k M.cl0) c = false) from
        ⟨fun hq k hk => HM.out k h (by omega) (by omega) hq, fun hq k hk hkn => by
          cases q : M.aheadC (p.l.getD k M.cl0) c with
          | false => rfl
          | true => have := HM.out h k hk hkn q; rw [hq] at this; cases this⟩)
      generalize M.aheadC (p.l.getD h M.cl0) c = ab at *
      go_wp2_with fail
      with_reducible refine (CB.out).mono ?_
      rintro e w1 ⟨rfl, hb⟩
      have HB1 := Lib.hid (below_step HBr.out hb)
      clear hb CB hc
      cases ab with
      | false =>
        go_wp2_with fail
        go_roundw
        case rel => exact ⟨i, h, h1, by omega, rfl, rfl, H1, Lib.hid (HQ.out.2 trivial), HB1⟩
        case measure => simp [intOf]; omega
      | true =>
        go_wp2_with fail
        go_roundw
        case rel => exact ⟨h + 1, j, by omega, hj, by go_num, rfl, Lib.hid (HQ.out.1 trivial), H2, HB1⟩
        case measure => simp [intOf]; omega
    · obtain rfl : i = j := by omega
      have d1 : decide ((i : Int) < (i : Int)) = false := by simp
      have d2 : decide (i < i) = false := by simp
      go_wp2_with fail
      go_ret
      exact ⟨by rw [M.seekI, M.count_pre _ M.cl0 hj H1.out H2.out]; rfl, HBr.out⟩

end Go.Proofs.YtnhljlmelbiljaaGreat

/- Layer 15: a memory in memory; seek, by a contract. -/
namespace Go.Proofs.YtnhljlmelbiljaaGreat
set_option linter.unusedVariables false
set_option linter.unusedSimpArgs false
open Go Go.RowKit
attribute [local go_sem ↓] run_index_S
attribute [local go_sem] S_append S_extract

/-- Where a page lies, and what may be written of it. -/
def PgBlk (B : Nat) (w : World) (p : M.Pg) : Prop := B ≤ p.q ∧ (∃ C, RowIn C 38 w p.q) ∧ (p.l.length = p.k ∨ (p.o = 0 ∧ p.l.length < p.k ∧ w.ownsRow B 38 3 (pgV p) p.l.length (cls p.l)))
theorem PgBlk.below {B : Nat} {w w' : World} {p : M.Pg} (h : PgBlk B w p) (hb : Below w.heap.size w w') : PgBlk B w' p := by
  obtain ⟨h1, ⟨C, h2⟩, h3⟩ := h
  refine ⟨h1, ⟨C, h2.below hb⟩, ?_⟩
  rcases h3 with h3 | ⟨a, b, c⟩
  · exact .inl h3
  · exact .inr ⟨a, b, ownP_below c hb⟩
/-- Pages of which one may be written lie in blocks of their own. -/
def PgsAp (Ps : List M.Pg) : Prop := ∀ i j, i < Ps.length → j < Ps.length → i ≠ j → (Ps.getD i M.pg0).l.length ≠ (Ps.getD i M.pg0).k → (Ps.getD i M.pg0).q ≠ (Ps.getD j M.pg0).q
structure MemAt (B b : Nat) (pa : Option Addr) (pc : Nat) (Ps : List M.Pg) (L : List M.Cl) (w : World) : Prop where
  row : RowIn #[.slice pa Ps.length pc, .int .i64 L.length, .bool true] 105 w b
  pgs : PgsAt B pa pc Ps w
  flat : M.flat Ps = L
  st : M.Stt L
  blk : ∀ p, p ∈ Ps → PgBlk B w p
  sm : ∀ p, p ∈ Ps → 0 < p.l.length ∧ p.l.length ≤ 64
  ap : PgsAp Ps
  bb : B ≤ b
  nL : L.length ≤ 50000
  okc : ∀ c, c ∈ L → ClOk c ∧ M.mayC c = true
theorem MemAt.below {B b : Nat} {pa : Option Addr} {pc : Nat} {Ps : List M.Pg} {L : List M.Cl} {w w' : World} (h : MemAt B b pa pc Ps L w) (hb : Below w.heap.size w w') : MemAt B b pa pc Ps L w' :=
  ⟨h.row.below hb, h.pgs.below hb, h.flat, h.st, fun p hp => (h.blk p hp).below hb, h.sm, h.ap, h.bb, h.nL, h.okc⟩
instance car_mem {w w' : World} {B b : Nat} {pa : Option Addr} {pc : Nat} {Ps : List M.Pg} {L : List M.Cl} : Car w w' (MemAt B b pa pc Ps L w) (MemAt B b pa pc Ps L w') := ⟨fun hb h => h.below hb⟩
theorem M.flat_len : ∀ (Ps : List M.Pg), (∀ p, p ∈ Ps → 0 < p.l.length) → Ps.length ≤ (M.flat Ps).length
  | [], _ => Nat.zero_le _
  | p :: Ps, h => by
    have h1 := h p (by simp)
    have h2 := M.flat_len Ps (fun q hq => h q (by simp [hq]))
    rw [M.flat_cons]
    simp
    omega
theorem MemAt.ok {B b : Nat} {pa : Option Addr} {pc : Nat} {Ps : List M.Pg} {L : List M.Cl} {w : World} (h : MemAt B b pa pc Ps L w) : PgsOk Ps := by
  have h1 := M.flat_len Ps (fun p hp => (h.sm p hp).1)
  rw [h.flat] at h1
  have h2 := h.nL
  exact ⟨by omega, fun p hp => by have := h.sm p hp; omega, by rw [h.flat]; exact h.st⟩
def M.seekJ (Ps : List M.Pg) (c : M.Cl) : Nat := if M.seekA Ps c = Ps.length then 0 else M.seekI (Ps.getD (M.seekA Ps c) M.pg0).l c
/-- The first places of a list for which something holds, if it holds for no later one. -/
theorem M.filter_pre {α : Type} (f : α → Bool) (d : α) : ∀ (L : List α), (∀ i j, i ≤ j → j < L.length → f (L.getD j d) = true → f (L.getD i d) = true) → (∀ j, j < (L.filter f).length → f (L.getD j d) = true) ∧ (∀ j, (L.filter f).length ≤ j → j < L.length → f (L.getD j d) = false)
  | [], _ => ⟨fun j hj => by simp at hj, fun j _ hj => by simp at hj⟩
  | x :: t, h => by
    have ih := M.filter_pre f d t (fun i j hij hj hh => h (i + 1) (j + 1) (by omega) (by simpa using hj) hh)
    cases hx : f x with
    | true =>
      rw [List.filter_cons_of_pos hx]
      refine ⟨fun j hj => ?_, fun j hj hjl => ?_⟩
      · match j with
        | 0 => exact hx
        | j + 1 => exact ih.1 j (by simpa using hj)
      · match j with
        | 0 => simp at hj
        | j + 1 => exact ih.2 j (by simpa using hj) (by simpa using hjl)
    | false =>
      have hall : ∀ j, j < (x :: t).length → f ((x :: t).getD j d) = false := fun j hj => by
        cases q : f ((x :: t).getD j d) with
        | false => rfl
        | true =>
          have h0 : f x = true := h 0 j (Nat.zero_le _) hj q
          rw [hx] at h0; cases h0
      have e : (x :: t).filter f = [] := List.filter_eq_nil_iff.2 (fun y hy => by
        obtain ⟨j, hj, e⟩ := List.getElem_of_mem hy
        have := hall j hj
        rw [M.gD15 _ j d hj, e] at this
        simp [this])
      rw [e]
      exact ⟨fun j hj => by simp at hj, fun j _ hj => hall j hj⟩
theorem M.seek_ok {Ps : List M.Pg} (hok : PgsOk Ps) (c : M.Cl) : M.SeekOk Ps c (M.seekA Ps c) (M.seekJ Ps c) := by
  have hA := M.filter_pre (fun p => M.aheadC (M.lastP p) c) M.pg0 Ps (fun i j hij hj hh => M.last_mono hok.st (fun p hp => (hok.len p hp).1) hij hj hh)
  have hle : M.seekA Ps c ≤ Ps.length := List.length_filter_le _ _
  refine M.seek_of hok.st (fun p hp => (hok.len p hp).1) hle hA.1 (fun hlt => hA.2 _ (Nat.le_refl _) hlt) (fun he => by rw [M.seekJ, if_pos he]) (fun hlt => ?_)
  have hI := M.filter_pre (fun x => M.aheadC x c) M.cl0 (Ps.getD (M.seekA Ps c) M.pg0).l (fun i j hij hj hh => by
    rcases Nat.lt_or_ge i j with q | q
    · have := List.pairwise_iff_getElem.1 (M.page_strict hok.st (M.getD_memP hlt)) i j (by omega) hj q
      rw [M.gD15 _ j M.cl0 hj] at hh
      rw [M.gD15 _ i M.cl0 (by omega)]
      exact M.ahead_trans this hh
    · obtain rfl : i = j := by omega
      exact hh)
  rw [M.seekJ, if_neg (by omega)]
  exact ⟨List.length_filter_le _ _, hI.1, hI.2⟩
def SeekR (Ps : List M.Pg) (c : M.Cl) (w : World) (e : Ending) (w' : World) : Prop := e = .returned (.tuple #[.int .i64 (M.seekA Ps c : Nat), .int .i64 (M.seekJ Ps c : Nat)]) ∧ Below w.heap.size w w'
set_option maxHeartbeats 4000000 in
set_option maxRecDepth 100000 in
theorem seek15_any (B b : Nat) (pa : Option Addr) (pc : Nat) (Ps : List M.Pg) (L : List M.Cl) (c : M.Cl) (w : World) (h : MemAt B b pa pc Ps L w) :
    Calls Tryz.prog 82 #[.pointer (some ⟨b, 0, none⟩), .agg (clA c)] w (SeekR Ps c w) := by
  have hok := h.ok
  have hn := hok.n
  have HOK := Lib.hid hok
  have hal := (Below.refl w.heap.size w).alloc (Nat.le_refl _) (.cells (clA c) 38)
  have HB := Lib.hid hal
  have HM := Lib.hid (h.below hal)
  have HX := Lib.hid (rowIn_new (clA c) 38 w)
  have HJ : Hid (M.seekJ Ps c = if M.seekA Ps c = Ps.length then 0 else M.seekI (Ps.getD (M.seekA Ps c) M.pg0).l c) := Lib.hid rfl
  have hle : M.seekA Ps c ≤ Ps.length := List.length_filter_le _ _
  have CB := Lib.hid (fun V (hV : PgsAt B pa pc Ps V) => binary15_any B pa pc Ps hok c V hV)
  unfold BinR at CB
  unfold SeekR
  generalize M.seekA Ps c = a at *
  generalize M.seekJ Ps c = sj at *
  have hmf : ∀ (fn : Fn) (first cap : Array Value) (w : World), (Instr.makeFunc fn first cap).run Tryz.prog w = .ok (.func fn first cap) w := fun _ _ _ _ => rfl
  clear h hok hal
  go_enter Tryz.func82, Tryz.ntmps82
  go_wp2_with fail
  obtain ⟨W0, hW0⟩ : ∃ W, W = w.alloc (.cells (clA c) 38) := ⟨_, rfl⟩
  rw [← hW0] at HM HX HB
  have hW0' : w.alloc (.cells #[.string (S c.key), .int .i64 c.seq, .string (S c.val)] 38) = W0 := hW0.symm
  rw [hW0']
  clear hW0 hW0'
  obtain ⟨xb, hxb⟩ : ∃ x, x = w.heap.size := ⟨_, rfl⟩
  rw [← hxb] at HX ⊢
  clear hxb
  have y0 := HX.out.cell 0
  have y1 := HX.out.cell 1
  have y2 := HX.out.cell 2
  have r0 := HM.out.row.cell 0
  have HPG := Lib.hid (fun d os => HM.out.pgs.below (below_regrown W0 d os))
  have g0 := fun d os => cell_regrown y0 d os
  have g1 := fun d os => cell_regrown y1 d os
  have g2 := fun d os => cell_regrown y2 d os
  have g3 := fun d os => cell_regrown r0 d os
  clear y0 y1 y2 r0
  refine wp_region_quiet_below (by kernel_rfl) (by kernel_rfl) ?_
  repeat (any_goals (first | go_big_quiet_step ((first | (go_at_call 108; exact Calls.regrown_of (CB.out _ (HPG.out _ _))))) | quiet_step ((first | (go_at_call 108; exact Calls.regrown_of (CB.out _ (HPG.out _ _)))))))
  refine wpQuiet_nil ?_
  intro _ hw1
  obtain ⟨⟨d1, d1o⟩, hw1⟩ := hw1
  have hbq := below_regrown W0 d1 d1o
  rw [← hw1] at hbq
  clear hw1 g0 g1 g2 g3 HPG CB
  replace HM := Lib.hid (HM.out.below hbq)
  replace HX := Lib.hid (HX.out.below hbq)
  replace HB := Lib.hid (HB.out.trans (hbq.mono HB.out.size))
  clear hbq
  rename_i w1
  have r0 := HM.out.row.cell 0
  by_cases he : a = Ps.length
  · have HE := Lib.hid (show sj = 0 from by rw [HJ.out, if_pos he])
    have d0 : ((a : Int) == (Ps.length : Int)) = true := by rw [beq_iff_eq]; omega
    have d1 : decide ((a : Int) = (Ps.length : Int)) = true := by rw [decide_eq_true_eq]; omega
    clear he
    go_wp2_with fail
    go_ret2
    exact ⟨by rw [HE.out]; rfl, HB.out⟩
  · have HE := Lib.hid (show sj = M.seekI (Ps.getD a M.pg0).l c from by rw [HJ.out, if_neg he])
    have d0 : ((a : Int) == (Ps.length : Int)) = false := by rw [beq_eq_false_iff_ne]; omega
    have d1 : decide ((a : Int) = (Ps.length : Int)) = false := by rw [decide_eq_false_iff_not]; omega
    have hlt : a < Ps.length := by omega
    have hai : (a : Int) < (Ps.length : Int) := by omega
    obtain ⟨g, rfl, z0, hcl⟩ := HM.out.pgs.at_ hlt
    have hps := M.page_strict HOK.out.st (M.getD_memP hlt)
    have hpl := (HOK.out.len _ (M.getD_memP hlt)).2
    generalize Ps.getD a M.pg0 = p at *
    have hal := (Below.refl w1.heap.size w1).alloc (Nat.le_refl _) (.cells #[pgV p] 109)
    have CS := Lib.hid (search15_any p hps hpl c w1.heap.size xb (w1.alloc (.cells #[pgV p] 109)) (hcl.below hal) (rowIn_new _ _ _) (HX.out.below hal))
    have HBA := Lib.hid (HB.out.trans (hal.mono HB.out.size))
    have HPN := rowIn_new #[pgV p] 109 w1
    have p0 := HPN.cell 0
    unfold pgV at z0 p0 CS HBA
    clear he hps hcl hal HPN
    go_wp2_with fail
    refine (CS.out).mono ?_
    rintro e w2 ⟨rfl, hb⟩
    have HBZ := Lib.hid (HBA.out.trans (hb.mono HBA.out.size))
    clear hb CS
    go_wp2_with fail
    go_ret2
    exact ⟨by rw [HE.out]; rfl, HBZ.out⟩

end Go.Proofs.YtnhljlmelbiljaaGreat

/- Layer 15: first, New, Len and Get, by contracts. -/
namespace Go.Proofs.YtnhljlmelbiljaaGreat
set_option linter.unusedVariables false
set_option linter.unusedSimpArgs false
open Go Go.RowKit
attribute [local go_sem ↓] run_index_S
attribute [local go_sem] S_append S_extract

/-- Ahead of all cells of a key. -/
def M.topC (key : List UInt8) : M.Cl := ⟨key, 9223372036854775807, []⟩
theorem M.ahead_top {x : M.Cl} (h : x.seq ≤ 9223372036854775807) (key : List UInt8) : M.aheadC x (M.topC key) = Op.bytesLess x.key key := by
  unfold M.aheadC M.topC
  simp only
  rw [show decide (9223372036854775807 < x.seq) = false from by rw [decide_eq_false_iff_not]; omega]
  simp
set_option maxHeartbeats 4000000 in
set_option maxRecDepth 100000 in
theorem first15_any (B b : Nat) (pa : Option Addr) (pc : Nat) (Ps : List M.Pg) (L : List M.Cl) (key : List UInt8) (w : World) (h : MemAt B b pa pc Ps L w) :
    Calls Tryz.prog 58 #[.pointer (some ⟨b, 0, none⟩), .string (S key)] w (SeekR Ps (M.topC key) w) := by
  have C := Lib.hid (seek15_any B b pa pc Ps L (M.topC key) w h)
  unfold SeekR at *
  generalize M.seekA Ps (M.topC key) = a at *
  generalize M.seekJ Ps (M.topC key) = j at *
  clear h
  go_enter Tryz.func58, Tryz.ntmps58
  go_wp2_with fail
  refine (C.out).mono ?_
  rintro e w1 ⟨rfl, hb⟩
  have HB := Lib.hid hb
  clear hb C
  go_wp2_with fail
  go_ret2
  exact ⟨rfl, HB.out⟩
theorem new15_any (w : World) : Calls Tryz.prog 25 #[] w fun e w' => e = .returned (.pointer (some ⟨w.heap.size, 0, none⟩)) ∧ w' = w.alloc (.cells #[.slice none 0 0, .int .i64 0, .bool true] 105) := by
  go_enter Tryz.func25, Tryz.ntmps25
  go_wp2_with fail
  go_ret
  exact ⟨rfl, rfl⟩
theorem memAt_new (w : World) (B : Nat) (hB : B ≤ w.heap.size) : MemAt B w.heap.size none 0 [] [] (w.alloc (.cells #[.slice none 0 0, .int .i64 0, .bool true] 105)) :=
  ⟨rowIn_new _ _ _, ⟨World.ownsRow_nil _ _ _ _, (fun p hp => by cases hp)⟩, rfl, List.Pairwise.nil, (fun p hp => by cases hp), (fun p hp => by cases hp), (fun i j hi => absurd hi (Nat.not_lt_zero _)), hB, Nat.zero_le _, (fun c hc => by cases hc)⟩
theorem M.find_pre {key : List UInt8} : ∀ {A B : List M.Cl}, (∀ x, x ∈ A → Op.bytesLess x.key key = true) → M.findL key (A ++ B) = M.findL key B
  | [], B, _ => rfl
  | x :: A, B, h => by
    have hx := h x (by simp)
    have hne : ¬ (x.key = key) := fun e => by rw [e, M.less_irr] at hx; cases hx
    have ih := M.find_pre (key := key) (A := A) (B := B) (fun y hy => h y (by simp [hy]))
    unfold M.findL at ih ⊢
    rw [List.cons_append, List.find?_cons_of_neg (by simpa using hne)]
    exact ih
theorem M.find_post {key : List UInt8} : ∀ {B : List M.Cl}, (∀ x, x ∈ B → ¬ x.key = key) → M.findL key B = none
  | [], _ => rfl
  | x :: B, h => by
    have ih := M.find_post (key := key) (B := B) (fun y hy => h y (by simp [hy]))
    unfold M.findL at ih ⊢
    rw [List.find?_cons_of_neg (by simpa using h x (by simp))]
    exact ih
/-- What Get finds. -/
theorem M.get_seek {Ps : List M.Pg} {key : List UInt8} {a i : Nat} (h : M.SeekOk Ps (M.topC key) a i) (hst : M.Stt (M.flat Ps)) (hq : ∀ x, x ∈ M.flat Ps → x.seq ≤ 9223372036854775807) :
    M.findL key (M.flat Ps) = if a = Ps.length then none else if ((Ps.getD a M.pg0).l.getD i M.cl0).key = key then some ((Ps.getD a M.pg0).l.getD i M.cl0) else none := by
  by_cases he : a = Ps.length
  · rw [if_pos he]
    have := M.find_pre (key := key) (A := M.flat Ps) (B := []) (fun x hx => by rw [← M.ahead_top (hq x hx) key]; exact h.all he x hx)
    rw [List.append_nil] at this
    rw [this]
    rfl
  · rw [if_neg he]
    obtain ⟨A, x, B, e, eA, ex, eB, hA, hx⟩ := h.cut (by have := h.le; omega)
    rw [← ex, e]
    have hqx : ∀ y, y ∈ A ++ x :: B → y.seq ≤ 9223372036854775807 := fun y hy => hq y (by rw [e]; exact hy)
    rw [M.find_pre (fun y hy => by rw [← M.ahead_top (hqx y (by simp [hy])) key]; exact hA y hy)]
    rw [M.ahead_top (hqx x (by simp)) key] at hx
    by_cases hk : x.key = key
    · rw [if_pos hk, M.findL, List.find?_cons_of_pos (by simpa using hk)]
    · rw [if_neg hk]
      refine M.find_post (fun y hy => ?_)
      rcases List.mem_cons.1 hy with rfl | hy
      · exact hk
      · rw [e] at hst
        have h1 := (List.pairwise_cons.1 (M.strict_app hst).2.1).1 y hy
        intro hyk
        rcases M.ahead_iff.1 h1 with h2 | ⟨h2, _⟩
        · rw [hyk, hx] at h2; cases h2
        · exact hk (h2.trans hyk)
set_option maxHeartbeats 4000000 in
set_option maxRecDepth 100000 in
theorem get15_any (B b : Nat) (pa : Option Addr) (pc : Nat) (Ps : List M.Pg) (L : List M.Cl) (key : List UInt8) (w : World) (h : MemAt B b pa pc Ps L w) :
    Calls Tryz.prog 29 #[.pointer (some ⟨b, 0, none⟩), .string (S key)] w fun e w' => FindR9 (M.findL key L) w e w' := by
  have hal := (Below.refl w.heap.size w).alloc (Nat.le_refl _) (.cells clZ9 38)
  have HB := Lib.hid hal
  have HR := Lib.hid (rowIn_new clZ9 38 w)
  have HM := Lib.hid (h.below hal)
  have C := Lib.hid (first15_any B b pa pc Ps L key _ (h.below hal))
  have HS := Lib.hid (M.seek_ok h.ok (M.topC key))
  have HG := Lib.hid (show M.findL key L = if M.seekA Ps (M.topC key) = Ps.length then none else if ((Ps.getD (M.seekA Ps (M.topC key)) M.pg0).l.getD (M.seekJ Ps (M.topC key)) M.cl0).key = key then some ((Ps.getD (M.seekA Ps (M.topC key)) M.pg0).l.getD (M.seekJ Ps (M.topC key)) M.cl0) else none from by
    rw [← M.get_seek (M.seek_ok h.ok (M.topC key)) (by rw [h.flat]; exact h.st) (fun x hx => by rw [h.flat] at hx; exact (h.okc x hx).1.2.2.2), h.flat])
  have hpl := h.ok.len
  have hPn := h.ok.n
  unfold SeekR at C
  generalize M.seekA Ps (M.topC key) = a at *
  generalize M.seekJ Ps (M.topC key) = j at *
  have HPL := Lib.hid hpl
  clear hal h hpl
  go_enter Tryz.func29, Tryz.ntmps29
  go_wp2_with fail
  refine (C.out).mono ?_
  rintro e w1 ⟨rfl, hb⟩
  replace HB := carry hb HB
  replace HR := carry hb HR
  replace HM := carry hb HM
  clear hb C
  have r0 := HM.out.row.cell 0
  have hle := HS.out.le
  by_cases he : a = Ps.length
  · have HE := Lib.hid (show M.findL key L = none from by rw [HG.out, if_pos he])
    have d0 : ((a : Int) == (Ps.length : Int)) = true := by rw [beq_iff_eq]; omega
    have d1 : decide ((a : Int) = (Ps.length : Int)) = true := by rw [decide_eq_true_eq]; omega
    clear he hle
    go_wp2_with ((refine wpList_store_hid rfl 38 _ _ rfl w.heap.size _ rfl rfl 38 clZ9 HR.out ?_ rfl (by simp [Value.oneCell']) ?_; kernel_rfl; intro w3 hrQ hbelQ hothQ hszQ; have HXE := Lib.hid hrQ; have HBE := Lib.hid (hbelQ w.heap.size w (Nat.le_refl _) HB.out); clear hrQ hbelQ hothQ hszQ))
    try simp only [Exit.inBlock, Exit.then]
    exact bodyPost_ret (ret_rowP2 rfl _ _ w.heap.size rfl (load_struct Tryz.underlying38 (by kernel_rfl) HXE.out)) rfl (show FindR9 (M.findL key L) w _ _ from by rw [HE.out]; exact ⟨rfl, HBE.out⟩)
  · have d0 : ((a : Int) == (Ps.length : Int)) = false := by rw [beq_eq_false_iff_ne]; omega
    have d1 : decide ((a : Int) = (Ps.length : Int)) = false := by rw [decide_eq_false_iff_not]; omega
    have hlt : a < Ps.length := by omega
    have hai : (a : Int) < (Ps.length : Int) := by omega
    obtain ⟨g, rfl, z0, hcl⟩ := HM.out.pgs.at_ hlt
    have hjl := HS.out.in_ hlt
    replace HG := Lib.hid (HG.out.trans (if_neg he))
    clear he hle HS HPL
    generalize Ps.getD a M.pg0 = p at *
    unfold pgV at z0
    have hji : (j : Int) < (p.l.length : Int) := by omega
    obtain ⟨x0, x1, x2⟩ := hcl j hjl
    generalize p.l.getD j M.cl0 = c at *
    by_cases hk : c.key = key
    · have HE := Lib.hid (HG.out.trans (if_pos hk))
      have b0 : (c.key == key) = true := by simpa using hk
      clear hk hcl HG
      go_wp2_with ((refine wpList_store_hid rfl 38 _ _ rfl w.heap.size _ rfl rfl 38 clZ9 HR.out ?_ rfl (by simp [Value.oneCell']) ?_; kernel_rfl; intro w3 hrQ hbelQ hothQ hszQ; have HXE := Lib.hid hrQ; have HBE := Lib.hid (hbelQ w.heap.size w (Nat.le_refl _) HB.out); clear hrQ hbelQ hothQ hszQ))
      try simp only [Exit.inBlock, Exit.then]
      exact bodyPost_ret (ret_rowP2 rfl _ _ w.heap.size rfl (load_struct Tryz.underlying38 (by kernel_rfl) HXE.out)) rfl (show FindR9 (M.findL key L) w _ _ from by rw [HE.out]; exact ⟨rfl, HBE.out⟩)
    · have HE := Lib.hid (HG.out.trans (if_neg hk))
      have b0 : (c.key == key) = false := by rw [beq_eq_false_iff_ne]; exact hk
      clear hk hcl HG
      go_wp2_with ((refine wpList_store_hid rfl 38 _ _ rfl w.heap.size _ rfl rfl 38 clZ9 HR.out ?_ rfl (by simp [Value.oneCell']) ?_; kernel_rfl; intro w3 hrQ hbelQ hothQ hszQ; have HXE := Lib.hid hrQ; have HBE := Lib.hid (hbelQ w.heap.size w (Nat.le_refl _) HB.out); clear hrQ hbelQ hothQ hszQ))
      try simp only [Exit.inBlock, Exit.then]
      exact bodyPost_ret (ret_rowP2 rfl _ _ w.heap.size rfl (load_struct Tryz.underlying38 (by kernel_rfl) HXE.out)) rfl (show FindR9 (M.findL key L) w _ _ from by rw [HE.out]; exact ⟨rfl, HBE.out⟩)

end Go.Proofs.YtnhljlmelbiljaaGreat
