/- Layer 16: copy into a row of one's own (as XInsG has it, for this layer's texts alone). -/
import Derived.Test.YtfcmjgcjmldpcaaEditsP
import Derived.Lib.AppendZerosOnto
import Derived.Lib.Overlaps
import Derived.Laws.CopyRow
namespace Go.Proofs.Ytfcmjgcjmldpcaa
set_option linter.unusedVariables false
set_option linter.unusedSimpArgs false
open Go Go.RowKit
section
variable {P : Program}
/-- copy, into a block that is known whole. -/
theorem run_copy16 (w : World) (dT sT ty elem : TypeId) (sz : Nat) (g o dLen dCap : Nat) (a : Addr) (sLen sCap : Nat) (cur : Array Value) (t : TypeId) (cs : List Value)
    (hu : P.underlying dT = some (.slice elem)) (hs : (P.info? elem).map (·.size) = some sz)
    (hg : w.heap[g]? = some (.cells cur t (0, 0))) (hn : cs.length = Nat.min sLen dLen * sz)
    (hsrc : ∀ j v, cs[j]? = some v → w.cell? (a.add j) = some v) (hfit : o + cs.length ≤ cur.size) (h1 : ∀ v ∈ cs, v.oneCell' = true) :
    (Builtin.copy_ #[dT, sT] ty #[.slice (some ⟨g, o, none⟩) dLen dCap, .slice (some a) sLen sCap]).run P w =
      .ok (goInt (Nat.min sLen dLen)) (w.setRow g (cur.toList.take o ++ cs ++ cur.toList.drop (o + cs.length)).toArray) := by
  have hl := run_loadCells_list (P := P) w a cs hsrc
  have hst := run_storeCells_at P g o t cs 0 cur w hg (by simpa using hfit) h1
  cases hq : P.info? elem with
  | none => simp [hq] at hs
  | some i =>
    have hi : i.size = sz := by simpa [hq] using hs
    simp [Builtin.copy_, run_underlying hu, Builtin.lenOf, Builtin.firstCells, sizeOf, typeInfo, hq, hi, ← hn, hl, hst]
end
/-- Cells laid over a row that the call owns: what the row has then. -/
theorem setRow_own16 {w : World} {B sz : Nat} {e : TypeId} {g n cap : Nat} {xs : List Value} (h : w.ownsRow B e sz (.slice (some ⟨g, 0, none⟩) n cap) n xs) :
    ∃ cur : Array Value, w.heap[g]? = some (.cells cur e (0, 0)) ∧ cur.size = cap * sz ∧ cur.toList.take (n * sz) = xs ∧ n ≤ cap ∧ cap ≤ maxLen ∧ B ≤ g := by
  rcases h.2 with ⟨e', _⟩ | ⟨g', cap', cur, e', hB, hg, hc, hm, hs, ht⟩
  · cases e'
  · injection e' with e1 e2 e3
    injection e1 with e1
    injection e1 with e1
    subst e1; subst e3
    exact ⟨cur, hg, hs, ht, hc, hm, hB⟩
theorem own_setRow16 {w : World} {B sz : Nat} {e : TypeId} {g m cap : Nat} {cur : Array Value} {t : TypeId} (hg : w.heap[g]? = some (.cells cur e (0, 0))) (cs ys : List Value) (hcs : cs.length = cap * sz) (hm : m ≤ cap) (hM : cap ≤ maxLen) (hy : ys.length = m * sz) (ht : cs.take (m * sz) = ys) (hB : B ≤ g) :
    (w.setRow g cs.toArray).ownsRow B e sz (.slice (some ⟨g, 0, none⟩) m cap) m ys ∧ w.grownBy (w.setRow g cs.toArray) (some g) := by
  refine ⟨⟨hy, .inr ⟨g, cap, cs.toArray, rfl, hB, setRow_heap w g cur _ e _ hg, hm, hM, by simpa using hcs, by simpa using ht⟩⟩, ⟨rfl, rfl, rfl, by simp, fun k _ hk => setRow_other w g k _ (fun e => hk (by rw [e]))⟩⟩

end Go.Proofs.Ytfcmjgcjmldpcaa
