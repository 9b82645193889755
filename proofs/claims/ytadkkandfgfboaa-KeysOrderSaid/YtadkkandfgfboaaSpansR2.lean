/- Layer 3: the document's Decode; Less. -/
import Derived.Test.YtadkkandfgfboaaSpansR
namespace Go.Proofs.Ytadkkandfgfboaa
set_option linter.unusedVariables false
open Go Go.RowKit
attribute [local go_sem ↓] run_index_S
attribute [local go_sem] S_append S_extract

theorem M.dec_take (l : List UInt8) : M.dec l = match M.take l 0 with
    | none => none
    | some (x, e) => if e = l.length ∧ M.mayB x = true then some x else none := by
  unfold M.dec M.take
  cases M.takeN 5 l 0 with
  | none => rfl
  | some r =>
    obtain ⟨ns, a⟩ := r
    dsimp only
    cases M.takeT 3 l a with
    | none => rfl
    | some q => rfl

theorem take_fits {l : List UInt8} (hl : l.length ≤ 140737488351232) {a : Nat} {x : M.Sp} {e : Nat} (h : M.take l a = some (x, e)) : x.fits := by
  unfold M.take at h
  cases hn : M.takeN 5 l a with
  | none => simp [hn] at h
  | some r =>
    obtain ⟨ns, b⟩ := r
    cases ht : M.takeT 3 l b with
    | none => simp [hn, ht] at h
    | some q =>
      obtain ⟨ts, c⟩ := q
      simp only [hn, ht, Option.some.injEq, Prod.mk.injEq] at h
      rw [← h.1]
      exact spOf_fits ns ts l hl (M.takeN_len hn).2.2 (M.takeT_len ht).2

end Go.Proofs.Ytadkkandfgfboaa
