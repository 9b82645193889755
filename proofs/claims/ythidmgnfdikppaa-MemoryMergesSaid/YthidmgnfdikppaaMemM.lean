/- Plain mathematics of layer 15: cells that are laid in, in order; where one stands. No Go here. -/
import Derived.Test.YthidmgnfdikppaaStrict
namespace Go.Proofs.Ythidmgnfdikppaa
set_option linter.unusedVariables false
open Go Go.RowKit

/-- A page: its cells, and where they lie. -/
structure M.Pg where
  l : List M.Cl
  q : Nat
  o : Nat
  k : Nat
def M.pg0 : M.Pg := ⟨[], 0, 0, 0⟩
def M.flat (Ps : List M.Pg) : List M.Cl := Ps.flatMap (fun p => p.l)
theorem M.flat_append (A B : List M.Pg) : M.flat (A ++ B) = M.flat A ++ M.flat B := by simp [M.flat]
theorem M.flat_cons (p : M.Pg) (B : List M.Pg) : M.flat (p :: B) = p.l ++ M.flat B := by simp [M.flat]
theorem M.split_at {α : Type} (L : List α) (i : Nat) (d : α) (h : i < L.length) : L = L.take i ++ L.getD i d :: L.drop (i + 1) := by
  have e : L.getD i d = L[i] := by simp [List.getD, h]
  rw [e, ← List.drop_eq_getElem_cons h, List.take_append_drop]
/-- The same key and Seq. -/
def M.sameC (a b : M.Cl) : Bool := a.key == b.key && a.seq == b.seq
/-- A cell laid in, unless there is one of its key and Seq. -/
def M.insC (c : M.Cl) : List M.Cl → List M.Cl
  | [] => [c]
  | x :: t => if M.aheadC x c = true then x :: M.insC c t else if M.sameC x c = true then x :: t else c :: x :: t
theorem M.insC_cut (c : M.Cl) : ∀ (A B : List M.Cl), (∀ x, x ∈ A → M.aheadC x c = true) → (∀ x t, B = x :: t → M.aheadC x c = false) →
    M.insC c (A ++ B) = A ++ (match B with | [] => [c] | x :: t => if M.sameC x c = true then x :: t else c :: x :: t)
  | [], [], _, _ => rfl
  | [], x :: t, _, h => by
    show M.insC c (x :: t) = _
    rw [M.insC, if_neg (by rw [h x t rfl]; simp)]
    rfl
  | y :: A, B, hA, hB => by
    show M.insC c (y :: (A ++ B)) = _
    rw [M.insC, if_pos (hA y (by simp)), M.insC_cut c A B (fun x hx => hA x (by simp [hx])) hB]
    rfl
theorem M.insC_mem {c x : M.Cl} : ∀ {L : List M.Cl}, x ∈ M.insC c L → x = c ∨ x ∈ L
  | [], h => by simp [M.insC] at h; exact .inl h
  | y :: t, h => by
    rw [M.insC] at h
    split at h
    · rcases List.mem_cons.1 h with rfl | h
      · exact .inr (by simp)
      · rcases M.insC_mem h with h | h
        · exact .inl h
        · exact .inr (by simp [h])
    · split at h
      · exact .inr h
      · rcases List.mem_cons.1 h with rfl | h
        · exact .inl rfl
        · exact .inr h
theorem M.sameC_iff {a b : M.Cl} : M.sameC a b = true ↔ a.key = b.key ∧ a.seq = b.seq := by simp [M.sameC]
/-- Neither ahead: the same key and Seq. -/
theorem M.ahead_tri {a b : M.Cl} (h : M.aheadC a b = false) (k : M.sameC a b = false) : M.aheadC b a = true := by
  refine M.stt_of h (fun e => ?_)
  have : M.sameC a b = true := M.sameC_iff.2 ⟨e.1.symm, e.2.symm⟩
  rw [k] at this; cases this
theorem M.insC_strict {c : M.Cl} : ∀ {L : List M.Cl}, M.Stt L → M.Stt (M.insC c L)
  | [], _ => List.pairwise_singleton _ _
  | x :: t, h => by
    rw [M.insC]
    obtain ⟨h1, h2⟩ := List.pairwise_cons.1 h
    split
    · rename_i hx
      refine List.Pairwise.cons (fun y hy => ?_) (M.insC_strict h2)
      rcases M.insC_mem hy with rfl | hy
      · exact hx
      · exact h1 y hy
    · rename_i hx
      split
      · exact h
      · rename_i hs
        have hca : M.aheadC c x = true := M.ahead_tri (by simpa using hx) (by simpa using hs)
        refine List.Pairwise.cons (fun y hy => ?_) h
        rcases List.mem_cons.1 hy with rfl | hy
        · exact hca
        · exact M.ahead_trans hca (h1 y hy)
theorem M.insC_len (c : M.Cl) : ∀ (L : List M.Cl), (M.insC c L).length ≤ L.length + 1
  | [] => by simp [M.insC]
  | x :: t => by
    rw [M.insC]
    have := M.insC_len c t
    split
    · simp; omega
    · split <;> simp
/-- Where a cell would stand in pages. -/
structure M.SeekOk (Ps : List M.Pg) (c : M.Cl) (a i : Nat) : Prop where
  le : a ≤ Ps.length
  bef : ∀ x, x ∈ M.flat (Ps.take a) → M.aheadC x c = true
  end_ : a = Ps.length → i = 0
  in_ : a < Ps.length → i < (Ps.getD a M.pg0).l.length
  inb : ∀ x, x ∈ (Ps.getD a M.pg0).l.take i → M.aheadC x c = true
  at_ : a < Ps.length → M.aheadC ((Ps.getD a M.pg0).l.getD i M.cl0) c = false
/-- The last cell of a page. -/
def M.lastP (p : M.Pg) : M.Cl := p.l.getD (p.l.length - 1) M.cl0
theorem M.strict_app {A B : List M.Cl} (h : M.Stt (A ++ B)) : M.Stt A ∧ M.Stt B ∧ ∀ x, x ∈ A → ∀ y, y ∈ B → M.aheadC x y = true := List.pairwise_append.1 h
theorem M.last_mem {p : M.Pg} (h : 0 < p.l.length) : M.lastP p ∈ p.l := by
  have e : M.lastP p = p.l[p.l.length - 1] := by simp [M.lastP, List.getD, show p.l.length - 1 < p.l.length from by omega]
  rw [e]; exact List.getElem_mem _
/-- If a page's last cell is ahead of one, all of it is. -/
theorem M.page_ahead {p : M.Pg} {c : M.Cl} (hs : M.Stt p.l) (h : M.aheadC (M.lastP p) c = true) : ∀ x, x ∈ p.l → M.aheadC x c = true := fun x hx => by
  obtain ⟨j, hj, e⟩ := List.getElem_of_mem hx
  rcases Nat.lt_or_ge j (p.l.length - 1) with q | q
  · have h1 := List.pairwise_iff_getElem.1 hs j (p.l.length - 1) hj (by omega) q
    rw [e] at h1
    have e2 : M.lastP p = p.l[p.l.length - 1] := by simp [M.lastP, List.getD, show p.l.length - 1 < p.l.length from by omega]
    rw [e2] at h
    exact M.ahead_trans h1 h
  · have e2 : M.lastP p = p.l[j] := by
      have : p.l.length - 1 = j := by omega
      simp [M.lastP, List.getD, this, hj]
    rw [← e, ← e2]; exact h
theorem M.flat_mem {Ps : List M.Pg} {p : M.Pg} (h : p ∈ Ps) {x : M.Cl} (hx : x ∈ p.l) : x ∈ M.flat Ps := List.mem_flatMap.2 ⟨p, h, hx⟩
theorem M.getD_memP {Ps : List M.Pg} {j : Nat} (h : j < Ps.length) : Ps.getD j M.pg0 ∈ Ps := by
  have e : Ps.getD j M.pg0 = Ps[j] := by simp [List.getD, h]
  rw [e]; exact List.getElem_mem h
theorem M.flat_at {Ps : List M.Pg} {j : Nat} (h : j < Ps.length) : M.flat Ps = M.flat (Ps.take j) ++ ((Ps.getD j M.pg0).l ++ M.flat (Ps.drop (j + 1))) := by
  conv => lhs; rw [M.split_at Ps j M.pg0 h]
  rw [M.flat_append, M.flat_cons]
theorem M.page_strict {Ps : List M.Pg} (h : M.Stt (M.flat Ps)) {p : M.Pg} (hp : p ∈ Ps) : M.Stt p.l := by
  obtain ⟨j, hj, e⟩ := List.getElem_of_mem hp
  have e2 : Ps.getD j M.pg0 = p := by simp [List.getD, hj, e]
  rw [M.flat_at hj, e2] at h
  exact (M.strict_app (M.strict_app h).2.1).1
theorem M.flat_take_mem {Ps : List M.Pg} {a : Nat} {x : M.Cl} (h : x ∈ M.flat (Ps.take a)) : ∃ i, i < a ∧ i < Ps.length ∧ x ∈ (Ps.getD i M.pg0).l := by
  obtain ⟨p, hp, hx⟩ := List.mem_flatMap.1 h
  obtain ⟨i, hi, e⟩ := List.getElem_of_mem hp
  rw [List.length_take] at hi
  refine ⟨i, by omega, by omega, ?_⟩
  rw [List.getElem_take] at e
  simp only [List.getD, List.getElem?_eq_getElem (show i < Ps.length by omega), Option.getD_some, e]
  exact hx
/-- Pages ahead of one whose last cell is ahead: theirs are. -/
theorem M.last_mono {Ps : List M.Pg} (hs : M.Stt (M.flat Ps)) (hn : ∀ p, p ∈ Ps → 0 < p.l.length) {c : M.Cl} {i j : Nat} (hij : i ≤ j) (hj : j < Ps.length) (h : M.aheadC (M.lastP (Ps.getD j M.pg0)) c = true) : M.aheadC (M.lastP (Ps.getD i M.pg0)) c = true := by
  rcases Nat.lt_or_ge i j with q | q
  · have h1 := M.last_mem (hn _ (M.getD_memP (Ps := Ps) (j := i) (by omega)))
    have h2 := M.last_mem (hn _ (M.getD_memP hj))
    rw [M.flat_at hj] at hs
    have h3 : M.lastP (Ps.getD i M.pg0) ∈ M.flat (Ps.take j) := by
      refine M.flat_mem (p := Ps.getD i M.pg0) ?_ h1
      have e : Ps.getD i M.pg0 = (Ps.take j)[i]'(by simp; omega) := by simp [List.getD, show i < Ps.length from by omega]
      rw [e]; exact List.getElem_mem _
    exact M.ahead_trans ((M.strict_app hs).2.2 _ h3 _ (List.mem_append.2 (.inl h2))) h
  · obtain rfl : i = j := by omega
    exact h
theorem M.seek_of {Ps : List M.Pg} (hs : M.Stt (M.flat Ps)) (hn : ∀ p, p ∈ Ps → 0 < p.l.length) {c : M.Cl} {a i : Nat} (ha : a ≤ Ps.length) (h1 : ∀ j, j < a → M.aheadC (M.lastP (Ps.getD j M.pg0)) c = true) (h2 : a < Ps.length → M.aheadC (M.lastP (Ps.getD a M.pg0)) c = false)
    (h3 : a = Ps.length → i = 0) (h4 : a < Ps.length → i ≤ (Ps.getD a M.pg0).l.length ∧ (∀ j, j < i → M.aheadC ((Ps.getD a M.pg0).l.getD j M.cl0) c = true) ∧ (∀ j, i ≤ j → j < (Ps.getD a M.pg0).l.length → M.aheadC ((Ps.getD a M.pg0).l.getD j M.cl0) c = false)) : M.SeekOk Ps c a i := by
  have hin : a < Ps.length → i < (Ps.getD a M.pg0).l.length := fun hlt => by
    obtain ⟨k1, k2, k3⟩ := h4 hlt
    have hp := hn _ (M.getD_memP hlt)
    rcases Nat.lt_or_ge i (Ps.getD a M.pg0).l.length with q | q
    · exact q
    · have := k2 ((Ps.getD a M.pg0).l.length - 1) (by omega)
      have e : (Ps.getD a M.pg0).l.getD ((Ps.getD a M.pg0).l.length - 1) M.cl0 = M.lastP (Ps.getD a M.pg0) := rfl
      rw [e, h2 hlt] at this
      cases this
  refine ⟨ha, fun x hx => ?_, h3, hin, fun x hx => ?_, fun hlt => (h4 hlt).2.2 i (Nat.le_refl _) (hin hlt)⟩
  · obtain ⟨j, hj, hjl, hxj⟩ := M.flat_take_mem hx
    exact M.page_ahead (M.page_strict hs (M.getD_memP hjl)) (h1 j hj) x hxj
  · obtain ⟨j, hj, e⟩ := List.getElem_of_mem hx
    rw [List.length_take] at hj
    rcases Nat.lt_or_ge a Ps.length with hlt | hge
    · have := (h4 hlt).2.1 j (by omega)
      rw [List.getElem_take] at e
      rw [M.gD15 _ j M.cl0 (by omega), e] at this
      exact this
    · exact absurd (h3 (by omega)) (by omega)
/-- What comes of laying one in there. -/
theorem M.SeekOk.cut {Ps : List M.Pg} {c : M.Cl} {a i : Nat} (h : M.SeekOk Ps c a i) (hlt : a < Ps.length) : ∃ A x B, M.flat Ps = A ++ x :: B ∧ A = M.flat (Ps.take a) ++ (Ps.getD a M.pg0).l.take i ∧ x = (Ps.getD a M.pg0).l.getD i M.cl0 ∧ B = (Ps.getD a M.pg0).l.drop (i + 1) ++ M.flat (Ps.drop (a + 1)) ∧ (∀ y, y ∈ A → M.aheadC y c = true) ∧ M.aheadC x c = false := by
  refine ⟨_, _, _, ?_, rfl, rfl, rfl, fun y hy => ?_, h.at_ hlt⟩
  · have e := M.split_at (Ps.getD a M.pg0).l i M.cl0 (h.in_ hlt)
    rw [M.flat_at hlt]
    conv => lhs; rw [e]
    simp
  · rcases List.mem_append.1 hy with hy | hy
    · exact h.bef y hy
    · exact h.inb y hy
theorem M.SeekOk.all {Ps : List M.Pg} {c : M.Cl} {a i : Nat} (h : M.SeekOk Ps c a i) (he : a = Ps.length) : ∀ y, y ∈ M.flat Ps → M.aheadC y c = true := fun y hy => h.bef y (by rw [he, List.take_length]; exact hy)
theorem M.SeekOk.ins {Ps : List M.Pg} {c : M.Cl} {a i : Nat} (h : M.SeekOk Ps c a i) :
    M.insC c (M.flat Ps) = if a = Ps.length then M.flat Ps ++ [c] else if M.sameC ((Ps.getD a M.pg0).l.getD i M.cl0) c = true then M.flat Ps else M.flat (Ps.take a) ++ ((Ps.getD a M.pg0).l.take i ++ c :: (Ps.getD a M.pg0).l.drop i) ++ M.flat (Ps.drop (a + 1)) := by
  by_cases he : a = Ps.length
  · rw [if_pos he]
    have := M.insC_cut c (M.flat Ps) [] (h.all he) (fun x t e => by cases e)
    simpa using this
  · rw [if_neg he]
    have hlt : a < Ps.length := by have := h.le; omega
    obtain ⟨A, x, B, e, eA, ex, eB, hA, hx⟩ := h.cut hlt
    have hc := M.insC_cut c A (x :: B) hA (fun y t e => by cases e; exact hx)
    rw [← ex, e, hc]
    by_cases hs : M.sameC x c = true
    · simp only [if_pos hs]
    · simp only [if_neg hs]
      have e2 : (Ps.getD a M.pg0).l.drop i = x :: (Ps.getD a M.pg0).l.drop (i + 1) := by
        rw [List.drop_eq_getElem_cons (h.in_ hlt), ex, M.gD15 _ i M.cl0 (h.in_ hlt)]
      rw [eA, eB, e2]
      simp

end Go.Proofs.Ythidmgnfdikppaa
