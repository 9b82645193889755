/- Plain mathematics of layer 11: heads of rows, and a heap of them. No Go here. -/
import Derived.Test.YthidmgnfdikppaaTablesM
namespace Go.Proofs.Ythidmgnfdikppaa
set_option linter.unusedVariables false
open Go Go.RowKit

/-- A row's next cell, the cells behind it, the row's place. -/
structure M.Hd where
  c : M.Cl
  b : List M.Cl
  o : Option Addr
  k : Nat
  r : Nat
def M.hd0 : M.Hd := ⟨M.cl0, [], none, 0, 0⟩
/-- Does one come first? -/
def M.hLess (a b : M.Hd) : Bool := if a.c.key = b.c.key then (if a.c.seq = b.c.seq then decide (a.r < b.r) else decide (b.c.seq < a.c.seq)) else Op.bytesLess a.c.key b.c.key
theorem M.hLess_irr (a : M.Hd) : M.hLess a a = false := by simp [M.hLess]
/-- Not behind: transitive. -/
theorem M.hLe_trans {a b c : M.Hd} (h : M.hLess b a = false) (k : M.hLess c b = false) : M.hLess c a = false := by
  unfold M.hLess at *
  by_cases e1 : a.c.key = b.c.key
  · by_cases e2 : b.c.key = c.c.key
    · rw [if_pos e1.symm] at h
      rw [if_pos e2.symm] at k
      rw [if_pos (e2.symm.trans e1.symm)]
      by_cases f1 : a.c.seq = b.c.seq
      · by_cases f2 : b.c.seq = c.c.seq
        · rw [if_pos f1.symm, decide_eq_false_iff_not] at h
          rw [if_pos f2.symm, decide_eq_false_iff_not] at k
          rw [if_pos (f2.symm.trans f1.symm), decide_eq_false_iff_not]
          omega
        · rw [if_neg (fun x => f2 x.symm), decide_eq_false_iff_not] at k
          rw [if_neg (fun x => f2 (f1.symm.trans x.symm)), decide_eq_false_iff_not]
          omega
      · rw [if_neg (fun x => f1 x.symm), decide_eq_false_iff_not] at h
        by_cases f2 : b.c.seq = c.c.seq
        · rw [if_neg (fun x => f1 (x.symm.trans f2.symm)), decide_eq_false_iff_not]
          omega
        · rw [if_neg (fun x => f2 x.symm), decide_eq_false_iff_not] at k
          by_cases f3 : c.c.seq = a.c.seq
          · omega
          · rw [if_neg f3, decide_eq_false_iff_not]; omega
    · rw [if_neg (fun x => e2 x.symm)] at k
      rw [if_neg (fun x => e2 (e1.symm.trans x.symm)), e1]
      exact k
  · rw [if_neg (fun x => e1 x.symm)] at h
    by_cases e2 : b.c.key = c.c.key
    · rw [if_neg (fun x => e1 (x.symm.trans e2.symm)), ← e2]
      exact h
    · rw [if_neg (fun x => e2 x.symm)] at k
      have h1 : Op.bytesLess a.c.key b.c.key = true := by rw [M.less_flip _ _ (fun x => e1 x.symm), h]; rfl
      have k1 : Op.bytesLess b.c.key c.c.key = true := by rw [M.less_flip _ _ (fun x => e2 x.symm), k]; rfl
      have hk := M.less_trans _ _ _ h1 k1
      by_cases e3 : c.c.key = a.c.key
      · rw [e3, M.less_irr] at hk; cases hk
      · rw [if_neg e3]
        cases q : Op.bytesLess c.c.key a.c.key with
        | false => rfl
        | true => have := M.less_trans _ _ _ hk q; rw [M.less_irr] at this; cases this
theorem M.hLess_le {a b : M.Hd} (h : M.hLess a b = true) : M.hLess b a = false := by
  unfold M.hLess at *
  by_cases e1 : a.c.key = b.c.key
  · rw [if_pos e1] at h
    rw [if_pos e1.symm]
    by_cases f1 : a.c.seq = b.c.seq
    · rw [if_pos f1, decide_eq_true_eq] at h
      rw [if_pos f1.symm, decide_eq_false_iff_not]; omega
    · rw [if_neg f1, decide_eq_true_eq] at h
      rw [if_neg (fun x => f1 x.symm), decide_eq_false_iff_not]; omega
  · rw [if_neg e1] at h
    rw [if_neg (fun x => e1 x.symm)]
    cases q : Op.bytesLess b.c.key a.c.key with
    | false => rfl
    | true => have := M.less_trans _ _ _ h q; rw [M.less_irr] at this; cases this
/-- The i-th. -/
def M.hAt (H : List M.Hd) (i : Nat) : M.Hd := H.getD i M.hd0
/-- Two changed about. -/
def M.hSw (H : List M.Hd) (a b : Nat) : List M.Hd := (H.set a (M.hAt H b)).set b (M.hAt H a)
theorem M.hSw_len (H : List M.Hd) (a b : Nat) : (M.hSw H a b).length = H.length := by simp [M.hSw]
theorem M.hAt_set {H : List M.Hd} {i j : Nat} {x : M.Hd} (hi : i < H.length) : M.hAt (H.set i x) j = if i = j then x else M.hAt H j := by
  simp only [M.hAt, List.getD, List.getElem?_set]
  by_cases h : i = j
  · subst h; simp [hi]
  · simp [h]
theorem M.hSw_at {H : List M.Hd} {a b : Nat} (ha : a < H.length) (hb : b < H.length) (j : Nat) : M.hAt (M.hSw H a b) j = if b = j then M.hAt H a else if a = j then M.hAt H b else M.hAt H j := by
  rw [M.hSw, M.hAt_set (by simpa using hb), M.hAt_set ha]
theorem M.hSw_perm {H : List M.Hd} {a b : Nat} (ha : a < H.length) (hb : b < H.length) : (M.hSw H a b).Perm H := by
  have e1 : M.hAt H b = H[b] := by simp [M.hAt, List.getD, hb]
  have e2 : M.hAt H a = H[a] := by simp [M.hAt, List.getD, ha]
  rw [M.hSw, e1, e2]
  exact List.set_set_perm ha hb
/-- A heap, of the first n. -/
def M.Hp (H : List M.Hd) (n : Nat) : Prop := ∀ i, 0 < i → i < n → M.hLess (M.hAt H i) (M.hAt H ((i - 1) / 2)) = false
/-- A heap but for place j, which may be too small. -/
structure M.UpI (H : List M.Hd) (n j : Nat) : Prop where
  a : ∀ i, 0 < i → i < n → i ≠ j → M.hLess (M.hAt H i) (M.hAt H ((i - 1) / 2)) = false
  b : 0 < j → ∀ i, 0 < i → i < n → (i - 1) / 2 = j → M.hLess (M.hAt H i) (M.hAt H ((j - 1) / 2)) = false
/-- A heap but for place j, which may be too great. -/
structure M.DnI (H : List M.Hd) (n j : Nat) : Prop where
  a : ∀ i, 0 < i → i < n → (i - 1) / 2 ≠ j → M.hLess (M.hAt H i) (M.hAt H ((i - 1) / 2)) = false
  b : 0 < j → ∀ i, 0 < i → i < n → (i - 1) / 2 = j → M.hLess (M.hAt H i) (M.hAt H ((j - 1) / 2)) = false
theorem M.UpI.done {H : List M.Hd} {n j : Nat} (h : M.UpI H n j) (hj : j = 0 ∨ M.hLess (M.hAt H j) (M.hAt H ((j - 1) / 2)) = false) : M.Hp H n := fun i h0 hn => by
  by_cases e : i = j
  · subst e
    rcases hj with hj | hj
    · omega
    · exact hj
  · exact h.a i h0 hn e
theorem M.UpI.step {H : List M.Hd} {n j : Nat} (h : M.UpI H n j) (hn : n ≤ H.length) (hj0 : 0 < j) (hj : j < n) (hl : M.hLess (M.hAt H j) (M.hAt H ((j - 1) / 2)) = true) : M.UpI (M.hSw H ((j - 1) / 2) j) n ((j - 1) / 2) := by
  have hp : (j - 1) / 2 < j := by omega
  have hA := fun k => M.hSw_at (H := H) (a := (j - 1) / 2) (b := j) (by omega) (by omega) k
  refine ⟨fun i h0 hi hne => ?_, fun hp0 i h0 hi hpar => ?_⟩
  · rw [hA i, hA ((i - 1) / 2)]
    by_cases e1 : j = i
    · subst e1
      rw [if_pos rfl, if_neg (by omega), if_pos rfl]
      exact M.hLess_le hl
    · rw [if_neg e1, if_neg (fun x => hne x.symm)]
      by_cases e2 : j = (i - 1) / 2
      · rw [if_pos e2]
        exact h.b hj0 i h0 hi e2.symm
      · rw [if_neg e2]
        by_cases e3 : (j - 1) / 2 = (i - 1) / 2
        · rw [if_pos e3]
          have q := h.a i h0 hi (fun x => e1 x.symm)
          rw [← e3] at q
          exact M.hLe_trans (M.hLess_le hl) q
        · rw [if_neg e3]
          exact h.a i h0 hi (fun x => e1 x.symm)
  · rw [hA i, hA (((j - 1) / 2 - 1) / 2)]
    rw [if_neg (by omega : ¬ j = ((j - 1) / 2 - 1) / 2), if_neg (by omega : ¬ (j - 1) / 2 = ((j - 1) / 2 - 1) / 2)]
    have q := h.a ((j - 1) / 2) hp0 (by omega) (by omega)
    by_cases e1 : j = i
    · rw [if_pos e1]; exact q
    · rw [if_neg e1, if_neg (by omega)]
      have q2 := h.a i h0 hi (fun x => e1 x.symm)
      rw [hpar] at q2
      exact M.hLe_trans q q2
theorem M.DnI.done {H : List M.Hd} {n j : Nat} (h : M.DnI H n j) (hj : ∀ i, 0 < i → i < n → (i - 1) / 2 = j → M.hLess (M.hAt H i) (M.hAt H j) = false) : M.Hp H n := fun i h0 hn => by
  by_cases e : (i - 1) / 2 = j
  · rw [e]; exact hj i h0 hn e
  · exact h.a i h0 hn e
/-- c: the lesser child of j. -/
theorem M.DnI.step {H : List M.Hd} {n j c : Nat} (h : M.DnI H n j) (hn : n ≤ H.length) (hc0 : 0 < c) (hc : c < n) (hcj : (c - 1) / 2 = j) (hmin : ∀ i, 0 < i → i < n → (i - 1) / 2 = j → M.hLess (M.hAt H i) (M.hAt H c) = false) (hl : M.hLess (M.hAt H c) (M.hAt H j) = true) : M.DnI (M.hSw H j c) n c := by
  have hA := fun k => M.hSw_at (H := H) (a := j) (b := c) (by omega) (by omega) k
  refine ⟨fun i h0 hi hne => ?_, fun _ i h0 hi hpar => ?_⟩
  · rw [hA i, hA ((i - 1) / 2)]
    rw [if_neg (show ¬ c = (i - 1) / 2 from fun x => hne x.symm)]
    by_cases e1 : c = i
    · subst e1
      rw [if_pos rfl, if_pos hcj.symm]
      exact M.hLess_le hl
    · rw [if_neg e1]
      by_cases e2 : j = i
      · subst e2
        rw [if_pos rfl, if_neg (by omega)]
        exact h.b h0 c hc0 hc hcj
      · rw [if_neg e2]
        by_cases e3 : j = (i - 1) / 2
        · rw [if_pos e3]
          exact hmin i h0 hi e3.symm
        · rw [if_neg e3]
          exact h.a i h0 hi (fun x => e3 x.symm)
  · rw [hA i, hA ((c - 1) / 2)]
    rw [if_neg (by omega : ¬ c = i), if_neg (by omega : ¬ j = i), if_neg (by omega : ¬ c = (c - 1) / 2), if_pos hcj.symm]
    have q := h.a i h0 hi (by omega)
    rwa [hpar] at q
/-- The first is the least. -/
theorem M.Hp.least {H : List M.Hd} {n : Nat} (h : M.Hp H n) : ∀ i, i < n → M.hLess (M.hAt H i) (M.hAt H 0) = false := fun i => by
  induction i using Nat.strongRecOn with
  | _ i ih =>
    intro hi
    by_cases e : i = 0
    · subst e; exact M.hLess_irr _
    · exact M.hLe_trans (ih ((i - 1) / 2) (by omega) (by omega)) (h i (by omega) hi)

end Go.Proofs.Ythidmgnfdikppaa
