/- Layer 16: a state that is being copied: its row of tablets, whose first ones have numbers of their own. -/
import Derived.Test.YtfcmjgcjmldpcaaEditsI
import Derived.Laws.OwnMore
import Derived.OneCell
namespace Go.Proofs.Ytfcmjgcjmldpcaa
set_option linter.unusedVariables false
set_option linter.unusedSimpArgs false
open Go Go.RowKit

theorem own_below16 {w w' : World} {B sz : Nat} {e : TypeId} {v : Value} {n : Nat} {xs : List Value} (h : w.ownsRow B e sz v n xs) (hb : Below w.heap.size w w') : w'.ownsRow B e sz v n xs := by
  refine ⟨h.1, ?_⟩
  rcases h.2 with hc | ⟨g, cap, cur, rfl, hBg, hgg, rest⟩
  · exact .inl hc
  · exact .inr ⟨g, cap, cur, rfl, hBg, by rw [hb.block g (Array.getElem?_eq_some_iff.1 hgg).1]; exact hgg, rest⟩
theorem own_base16 {w : World} {B B' sz : Nat} {e : TypeId} {v : Value} {n : Nat} {xs : List Value} (h : w.ownsRow B e sz v n xs) (hb : B' ≤ B) : w.ownsRow B' e sz v n xs := by
  refine ⟨h.1, ?_⟩
  rcases h.2 with hc | ⟨g, cap, cur, rfl, hBg, rest⟩
  · exact .inl hc
  · exact .inr ⟨g, cap, cur, rfl, Nat.le_trans hb hBg, rest⟩
/-- Types tell blocks apart. -/
theorem own_apart16 {w : World} {B B' sz sz' : Nat} {e e' : TypeId} {v v' : Value} {n n' : Nat} {xs xs' : List Value} (h : w.ownsRow B e sz v n xs) (h' : w.ownsRow B' e' sz' v' n' xs') (hne : e ≠ e') {x : Nat} (hx : v.ownBlock = some x) : v'.ownBlock ≠ some x := by
  intro hx'
  rcases h.2 with ⟨rfl, _⟩ | ⟨g, cap, cur, rfl, _, hg, _⟩
  · cases hx
  · rcases h'.2 with ⟨rfl, _⟩ | ⟨g', cap', cur', rfl, _, hg', _⟩
    · cases hx'
    · simp only [Value.ownBlock, Option.some.injEq] at hx hx'
      subst hx; subst hx'
      rw [hg] at hg'
      simp at hg'
      exact hne hg'.2
theorem tbC_set (Rk : List Rt) (k : Nat) (hk : k < Rk.length) (l : List Int) (o : Option Addr) (c : Nat) :
    (tbC Rk).set (k * 2 + 1) (.slice o l.length c) = tbC (Rk.set k ⟨(Rk.getD k rt0).f, l, o, c⟩) := by
  induction Rk generalizing k with
  | nil => simp at hk
  | cons m t ih =>
    cases k with
    | zero => simp [tbC, tbL]
    | succ k =>
      have := ih k (by simpa using hk)
      rw [show (k + 1) * 2 + 1 = k * 2 + 1 + 1 + 1 from by omega]
      simp only [tbC, List.flatMap_cons, tbL, List.cons_append, List.nil_append, List.set_cons_succ, List.getD_cons_succ] at this ⊢
      rw [this]
/-- The numbers of the tablet at a place are one's own. -/
def OwnN (B : Nat) (w : World) (r : Rt) : Prop := w.ownsRow B 3 1 (.slice r.o r.l.length r.k) r.l.length (nsL r.l)
def Rt.blk (r : Rt) : Option Nat := (Value.slice r.o r.l.length r.k).ownBlock
structure ClI (w0 : World) (k : Nat) (Rs Rk : List Rt) (g c : Nat) (w : World) : Prop where
  len : Rk.length = Rs.length
  same : tbs Rk = tbs Rs
  row : w.ownsRow w0.heap.size 41 2 (.slice (some ⟨g, 0, none⟩) Rs.length c) Rs.length (tbC Rk)
  old : ∀ j, k ≤ j → Rk.getD j rt0 = Rs.getD j rt0
  own : ∀ j, j < k → OwnN w0.heap.size w (Rk.getD j rt0)
  dis : ∀ i j, i < j → j < k → ∀ x, (Rk.getD i rt0).blk = some x → (Rk.getD j rt0).blk ≠ some x
  bel : Below w0.heap.size w0 w
theorem ClI.below {w0 w w' : World} {k : Nat} {Rs Rk : List Rt} {g c : Nat} (h : ClI w0 k Rs Rk g c w) (hb : Below w.heap.size w w') : ClI w0 k Rs Rk g c w' :=
  ⟨h.len, h.same, own_below16 h.row hb, h.old, fun j hj => own_below16 (h.own j hj) hb, h.dis, h.bel.trans (hb.mono h.bel.size)⟩
theorem ClI.step {w0 w w1 : World} {k : Nat} {Rs Rk : List Rt} {g c : Nat} (h : ClI w0 k Rs Rk g c w) (hk : k < Rs.length) (hb : Below w.heap.size w w1) {ao : Option Addr} {c' : Nat}
    (hown : w1.ownsRow w.heap.size 3 1 (.slice ao (Rs.getD k rt0).l.length c') (Rs.getD k rt0).l.length (nsL (Rs.getD k rt0).l)) :
    ClI w0 (k + 1) Rs (Rk.set k ⟨(Rs.getD k rt0).f, (Rs.getD k rt0).l, ao, c'⟩) g c (w1.setCell ⟨g, k * 2 + 1, none⟩ (.slice ao (Rs.getD k rt0).l.length c')) := by
  have h1 := h.below hb
  have hkk : k < Rk.length := by rw [h.len]; exact hk
  have hold := h.old k (Nat.le_refl _)
  have hgt : w0.heap.size ≤ g ∧ g < w.heap.size := h.row.lt g rfl
  have gne : ∀ j, j ≠ k → ∀ r, (Rk.set k r).getD j rt0 = Rk.getD j rt0 := fun j hj r => by
    simp only [List.getD, List.getElem?_set, if_neg (Ne.symm hj)]
  have gkk : ∀ r, (Rk.set k r).getD k rt0 = r := fun r => by
    simp [List.getD, List.getElem?_set, hkk]
  have hst := h1.row.stored (k * 2 + 1) (.slice ao (Rs.getD k rt0).l.length c')
  refine ⟨by simp [h.len], ?_, ?_, fun j hj => ?_, fun j hj => ?_, fun i j hij hj x hx => ?_, ?_⟩
  · rw [← h.same]
    unfold tbs
    rw [List.map_set]
    apply List.ext_getElem?
    intro i
    rw [List.getElem?_set]
    split
    · rename_i e
      subst e
      simp only [List.length_map, hkk, if_true, List.getElem?_map]
      have : Rk[k]? = some (Rs.getD k rt0) := by
        rw [← hold]; simp [List.getD, hkk]
      rw [this]; rfl
    · rfl
  · have e := tbC_set Rk k hkk (Rs.getD k rt0).l ao c'
    rw [hold] at e
    rw [← e]
    exact hst.1
  · rw [gne j (by omega)]
    exact h.old j (by omega)
  · by_cases e : j = k
    · subst e
      rw [gkk]
      refine ownsRow_setCell_other (own_base16 hown (Nat.le_trans hgt.1 (Nat.le_of_lt hgt.2))) (fun hq => ?_) _
      have := (hown.lt g hq).1
      omega
    · rw [gne j e]
      have ho := h1.own j (by omega)
      exact ownsRow_setCell_other ho (own_apart16 h1.row ho (by decide) (x := g) rfl) _
  · rw [gne i (by omega)] at hx
    by_cases e : j = k
    · subst e
      rw [gkk]
      intro hq
      have a1 := (hown.lt x hq).1
      have a2 := ((h.own i (by omega)).lt x hx).2
      omega
    · rw [gne j e]
      exact h.dis i j hij (by omega) x hx
  · exact h1.bel.setCell (by exact hgt.1) _

end Go.Proofs.Ytfcmjgcjmldpcaa
