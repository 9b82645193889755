/- Layer 15: laws of append and copy over rows of whatever element, as slices.Insert uses them. No function of the program here. -/
import Derived.Test.YthidmgnfdikppaaZI
import Derived.Lib.AppendZerosOnto
import Derived.Lib.Overlaps
import Derived.Laws.CopyRow
import Derived.Laws.Append
import Derived.Laws.AppendOwn
namespace Go.Proofs.Ythidmgnfdikppaa
set_option linter.unusedVariables false
open Go Go.RowKit

section
variable {P : Program}
/-- append asks of its second type alone whether it is a number. -/
theorem append_types15 (w : World) (t t' ty e e' : TypeId) (ht : P.underlying t = some (.slice e)) (ht' : P.underlying t' = some (.slice e')) (s x : Value) :
    (Builtin.append_ #[t, t'] ty #[s, x]).run P w = (Builtin.append_ #[t, t] ty #[s, x]).run P w := by
  cases s <;> simp [Builtin.append_, run_underlying ht, run_underlying ht']
/-- A row that is new. -/
theorem newRow15 (w : World) (e : TypeId) (sz : Nat) (xs rest : List Value) (n c : Nat) (hx : xs.length = n * sz) (hr : rest.length = (c - n) * sz) (hc : n ≤ c) (hm : c ≤ maxLen) (base : Nat) (hb : base ≤ w.heap.size) :
    (w.drew.alloc (.cells (xs ++ rest).toArray e)).ownsRow base e sz (.slice (some ⟨w.heap.size, 0, none⟩) n c) n xs := by
  refine ⟨hx, .inr ⟨w.heap.size, c, _, rfl, hb, heap_alloc_new w.drew _, hc, hm, ?_, ?_⟩⟩
  · simp [hx, hr, ← Nat.add_mul]; congr 1; omega
  · simp only [← hx]; exact List.take_left
theorem zeroCells_list15 (z : Array Value) (n : Nat) : ∃ l : List Value, (Builtin.zeroCells z n) = l.toArray ∧ l.length = n * z.size := ⟨(Builtin.zeroCells z n).toList, by simp, by simp [Array.length_toList, size_zeroCells]⟩
/-- append where there is no room: whatever lies there is taken over into a new row. -/
theorem append_full15 (w : World) (t t' ty e e' : TypeId) (i : TypeInfo) (z : Value) (sz bytes : Nat) (ht : P.underlying t = some (.slice e)) (ht' : P.underlying t' = some (.slice e')) (hi : P.info? e = some i) (hz : i.zero = some z)
    (hsize : i.size = sz) (hby : i.bytes = bytes) (hzs : z.cells.size = sz)
    (b : Addr) (n cap : Nat) (xs : List Value) (hx : xs.length = n * sz) (hxs : ∀ j v, xs[j]? = some v → w.cell? (b.add j) = some v)
    (a : Addr) (m c : Nat) (ys : List Value) (hy : ys.length = m * sz) (hys : ∀ j v, ys[j]? = some v → w.cell? (a.add j) = some v)
    (hg : cap < n + m) (h63 : n + m ≤ maxLen) (hb : (n + m) * bytes ≤ 140737488355328) :
    ∃ c' w', (Builtin.append_ #[t, t'] ty #[.slice (some b) n cap, .slice (some a) m c]).run P w = .ok (.slice (some ⟨w.heap.size, 0, none⟩) (n + m) c') w' ∧ w'.ownsRow w.heap.size e sz (.slice (some ⟨w.heap.size, 0, none⟩) (n + m) c') (n + m) (xs ++ ys) ∧ Below w.heap.size w w' := by
  subst hsize; subst hby
  have hsmall : n + m ≤ 9223372036854775807 := by simp only [maxLen] at h63; omega
  have hr := run_append_grow (P := P) w t ty e i z ht hi hz b n cap xs hx hxs a m c ys hy hys hg (by omega) (growslice_fits hg hb)
  rw [append_types15 w t t' ty e e' ht ht', hr]
  obtain ⟨l, hl, hll⟩ := zeroCells_list15 z.cells (grownCap w (n + m) cap e - (n + m))
  refine ⟨_, _, rfl, ?_, ((Below.refl w.heap.size w).drew).alloc (Nat.le_refl _) _⟩
  rw [hl]
  have := newRow15 w e i.size (xs ++ ys) l (n + m) (grownCap w (n + m) cap e) (by rw [List.length_append, hx, hy, Nat.add_mul]) (by rw [hll, hzs]) (grownCap_ge w (n + m) cap e) (grownCap_le_maxLen w (n + m) cap e h63) w.heap.size (Nat.le_refl _)
  simpa using this
/-- append(s[:i], make(k)...) where there is no room. -/
theorem append_make15 (w : World) (t tn ty e : TypeId) (i : TypeInfo) (z : Value) (kn : IntKind) (sz bytes : Nat) (ht : P.underlying t = some (.slice e)) (htn : P.underlying tn = some (.int kn)) (hi : P.info? e = some i) (hz : i.zero = some z)
    (hsize : i.size = sz) (hby : i.bytes = bytes) (hzs : z.cells.size = sz) (hsz : 0 < sz)
    (b : Addr) (n cap : Nat) (xs : List Value) (hx : xs.length = n * sz) (hxs : ∀ j v, xs[j]? = some v → w.cell? (b.add j) = some v)
    (k : Nat) (h0 : 0 < k) (hg : cap < n + k) (h63 : n + k ≤ maxLen) (hb : (n + k) * bytes ≤ 140737488355328) :
    ∃ c' w' zs, (Builtin.append_ #[t, tn] ty #[.slice (some b) n cap, .int .i64 k]).run P w = .ok (.slice (some ⟨w.heap.size, 0, none⟩) (n + k) c') w' ∧ zs.length = k * sz ∧ n + k ≤ c' ∧ w'.ownsRow w.heap.size e sz (.slice (some ⟨w.heap.size, 0, none⟩) (n + k) c') (n + k) (xs ++ zs) ∧ Below w.heap.size w w' := by
  subst hsize; subst hby
  have hsmall : n + k ≤ 9223372036854775807 := by simp only [maxLen] at h63; omega
  have hk48 : k * i.bytes ≤ 281474976710656 := Nat.le_trans (Nat.mul_le_mul_right _ (by omega)) (Nat.le_trans hb (by omega))
  have hf := run_firstCells_some (P := P) w.drew i.size n b n cap xs hx (by simpa using hxs)
  have hr := Lib.run_append_grow_zeros (P := P) w t tn ty e i z .i64 kn ht htn hi hz (some b) n cap xs hf k h0 hsz hg (by omega) hk48 (growslice_fits hg hb)
  rw [hr]
  obtain ⟨zs, hzl, hzll⟩ := zeroCells_list15 z.cells k
  obtain ⟨l, hl, hll⟩ := zeroCells_list15 z.cells (grownCap w (n + k) cap e - (n + k))
  refine ⟨_, _, zs, rfl, by rw [hzll, hzs], grownCap_ge w (n + k) cap e, ?_, ((Below.refl w.heap.size w).drew).alloc (Nat.le_refl _) _⟩
  rw [hl, hzl]
  have := newRow15 w e i.size (xs ++ zs) l (n + k) (grownCap w (n + k) cap e) (by rw [List.length_append, hx, hzll, hzs, Nat.add_mul]) (by rw [hll, hzs]) (grownCap_ge w (n + k) cap e) (grownCap_le_maxLen w (n + k) cap e h63) w.heap.size (Nat.le_refl _)
  simpa using this
/-- copy, into a block that is known whole. -/
theorem run_copy15 (w : World) (dT sT ty elem : TypeId) (sz : Nat) (g o dLen dCap : Nat) (a : Addr) (sLen sCap : Nat) (cur : Array Value) (t : TypeId) (cs : List Value)
    (hu : P.underlying dT = some (.slice elem)) (hs : (P.info? elem).map (·.size) = some sz)
    (hg : w.heap[g]? = some (.cells cur t (0, 0))) (hn : cs.length = Nat.min sLen dLen * sz)
    (hsrc : ∀ j v, cs[j]? = some v → w.cell? (a.add j) = some v) (hfit : o + cs.length ≤ cur.size) (h1 : ∀ v ∈ cs, v.oneCell' = true) :
    (Builtin.copy_ #[dT, sT] ty #[.slice (some ⟨g, o, none⟩) dLen dCap, .slice (some a) sLen sCap]).run P w =
      .ok (goInt (Nat.min sLen dLen)) (w.setRow g (cur.toList.take o ++ cs ++ cur.toList.drop (o + cs.length)).toArray) := by
  have hl := run_loadCells_list (P := P) w a cs hsrc
  have hst := run_storeCells_at P g o t cs 0 cur w hg (by simpa using hfit) h1
  cases hq : P.info? elem with
  | none => simp [hq] at hs
  | some i =>
    have hi : i.size = sz := by simpa [hq] using hs
    simp [Builtin.copy_, run_underlying hu, Builtin.lenOf, Builtin.firstCells, sizeOf, typeInfo, hq, hi, ← hn, hl, hst]
end
/-- Cells laid over a row that the call owns: what the row has then. -/
theorem setRow_own15 {w : World} {B sz : Nat} {e : TypeId} {g n cap : Nat} {xs : List Value} (h : w.ownsRow B e sz (.slice (some ⟨g, 0, none⟩) n cap) n xs) :
    ∃ cur : Array Value, w.heap[g]? = some (.cells cur e (0, 0)) ∧ cur.size = cap * sz ∧ cur.toList.take (n * sz) = xs ∧ n ≤ cap ∧ cap ≤ maxLen ∧ B ≤ g := by
  rcases h.2 with ⟨e', _⟩ | ⟨g', cap', cur, e', hB, hg, hc, hm, hs, ht⟩
  · cases e'
  · injection e' with e1 e2 e3
    injection e1 with e1
    injection e1 with e1
    subst e1; subst e3
    exact ⟨cur, hg, hs, ht, hc, hm, hB⟩
theorem own_setRow15 {w : World} {B sz : Nat} {e : TypeId} {g m cap : Nat} {cur : Array Value} {t : TypeId} (hg : w.heap[g]? = some (.cells cur e (0, 0))) (cs ys : List Value) (hcs : cs.length = cap * sz) (hm : m ≤ cap) (hM : cap ≤ maxLen) (hy : ys.length = m * sz) (ht : cs.take (m * sz) = ys) (hB : B ≤ g) :
    (w.setRow g cs.toArray).ownsRow B e sz (.slice (some ⟨g, 0, none⟩) m cap) m ys ∧ w.grownBy (w.setRow g cs.toArray) (some g) := by
  refine ⟨⟨hy, .inr ⟨g, cap, cs.toArray, rfl, hB, setRow_heap w g cur _ e _ hg, hm, hM, by simpa using hcs, by simpa using ht⟩⟩, ⟨rfl, rfl, rfl, by simp, fun k _ hk => setRow_other w g k _ (fun e => hk (by rw [e]))⟩⟩
/-- What lies in a row with a thing laid in: by lists. -/
theorem lay_in15 (xs sp cs : List Value) (i : Nat) (hi : i ≤ xs.length) (hs : cs.length ≤ sp.length) :
    (((xs ++ sp).take (i + cs.length) ++ xs.drop i ++ (xs ++ sp).drop (i + cs.length + (xs.drop i).length)).take i ++ cs ++ ((xs ++ sp).take (i + cs.length) ++ xs.drop i ++ (xs ++ sp).drop (i + cs.length + (xs.drop i).length)).drop (i + cs.length)).take (xs.length + cs.length) = xs.take i ++ cs ++ xs.drop i := by
  have h1 : ((xs ++ sp).take (i + cs.length)).length = i + cs.length := by simp; omega
  have h2 : ((xs ++ sp).take (i + cs.length) ++ xs.drop i ++ (xs ++ sp).drop (i + cs.length + (xs.drop i).length)).take i = xs.take i := by
    rw [List.append_assoc, List.take_append_of_le_length (by omega), List.take_take, Nat.min_eq_left (by omega), List.take_append_of_le_length (by omega)]
  have h3 : ((xs ++ sp).take (i + cs.length) ++ xs.drop i ++ (xs ++ sp).drop (i + cs.length + (xs.drop i).length)).drop (i + cs.length) = xs.drop i ++ (xs ++ sp).drop (i + cs.length + (xs.drop i).length) := by
    rw [List.append_assoc]
    have := List.drop_left (l₁ := (xs ++ sp).take (i + cs.length)) (l₂ := xs.drop i ++ (xs ++ sp).drop (i + cs.length + (xs.drop i).length))
    rwa [h1] at this
  rw [h2, h3, ← List.append_assoc]
  have h4 : (xs.take i ++ cs ++ xs.drop i).length = xs.length + cs.length := by simp; omega
  rw [← h4]
  exact List.take_left

end Go.Proofs.Ythidmgnfdikppaa
