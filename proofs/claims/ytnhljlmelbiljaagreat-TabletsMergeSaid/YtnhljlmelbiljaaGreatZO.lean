/- Texts of lower layers, as one. -/
import Derived.Test.YtnhljlmelbiljaaGreatZJ
/- Plain mathematics of layer 11: heads of rows, and a heap of them. No Go here. -/
namespace Go.Proofs.YtnhljlmelbiljaaGreat
set_option linter.unusedVariables false
open Go Go.RowKit

/-- A row's next cell, the cells behind it, the row's place. -/
structure M.Hd where
  c : M.Cl
  b : List M.Cl
  o : Option Addr
  k : Nat
  r : Nat
def M.hd0 : M.Hd := ⟨M.cl0, [], none, 0, 0⟩
/-- Does one come first? -/
def M.hLess (a b : M.Hd) : Bool := if a.c.key = b.c.key then (if a.c.seq = b.c.seq then decide (a.r < b.r) else decide (b.c.seq < a.c.seq)) else Op.bytesLess a.c.key b.c.key
theorem M.hLess_irr (a : M.Hd) : M.hLess a a = false := by simp [M.hLess]
/-- Not behind: transitive. -/
theorem M.hLe_trans {a b c : M.Hd} (h : M.hLess b a = false) (k : M.hLess c b = false) : M.hLess c a = false := by
  unfold M.hLess at *
  by_cases e1 : a.c.key = b.c.key
  · by_cases e2 : b.c.key = c.c.key
    · rw [if_pos e1.symm] at h
      rw [if_pos e2.symm] at k
      rw [if_pos (e2.symm.trans e1.symm)]
      by_cases f1 : a.c.seq = b.c.seq
      · by_cases f2 : b.c.seq = c.c.seq
        · rw [if_pos f1.symm, decide_eq_false_iff_not] at h
          rw [if_pos f2.symm, decide_eq_false_iff_not] at k
          rw [if_pos (f2.symm.trans f1.symm), decide_eq_false_iff_not]
          omega
        · rw [if_neg (fun x => f2 x.symm), decide_eq_false_iff_not] at k
          rw [if_neg (fun x => f2 (f1.symm.trans x.symm)), decide_eq_false_iff_not]
          omega
      · rw [if_neg (fun x => f1 x.symm), decide_eq_false_iff_not] at h
        by_cases f2 : b.c.seq = c.c.seq
        · rw [if_neg (fun x => f1 (x.symm.trans f2.symm)), decide_eq_false_iff_not]
          omega
        · rw [if_neg (fun x => f2 x.symm), decide_eq_false_iff_not] at k
          by_cases f3 : c.c.seq = a.c.seq
          · omega
          · rw [if_neg f3, decide_eq_false_iff_not]; omega
    · rw [if_neg (fun x => e2 x.symm)] at k
      rw [if_neg (fun x => e2 (e1.symm.trans x.symm)), e1]
      exact k
  · rw [if_neg (fun x => e1 x.symm)] at h
    by_cases e2 : b.c.key = c.c.key
    · rw [if_neg (fun x => e1 (x.symm.trans e2.symm)), ← e2]
      exact h
    · rw [if_neg (fun x => e2 x.symm)] at k
      have h1 : Op.bytesLess a.c.key b.c.key = true := by rw [M.less_flip _ _ (fun x => e1 x.symm), h]; rfl
      have k1 : Op.bytesLess b.c.key c.c.key = true := by rw [M.less_flip _ _ (fun x => e2 x.symm), k]; rfl
      have hk := M.less_trans _ _ _ h1 k1
      by_cases e3 : c.c.key = a.c.key
      · rw [e3, M.less_irr] at hk; cases hk
      · rw [if_neg e3]
        cases q : Op.bytesLess c.c.key a.c.key with
        | false => rfl
        | true => have := M.less_trans _ _ _ hk q; rw [M.less_irr] at this; cases this
theorem M.hLess_le {a b : M.Hd} (h : M.hLess a b = true) : M.hLess b a = false := by
  unfold M.hLess at *
  by_cases e1 : a.c.key = b.c.key
  · rw [if_pos e1] at h
    rw [if_pos e1.symm]
    by_cases f1 : a.c.seq = b.c.seq
    · rw [if_pos f1, decide_eq_true_eq] at h
      rw [if_pos f1.symm, decide_eq_false_iff_not]; omega
    · rw [if_neg f1, decide_eq_true_eq] at h
      rw [if_neg (fun x => f1 x.symm), decide_eq_false_iff_not]; omega
  · rw [if_neg e1] at h
    rw [if_neg (fun x => e1 x.symm)]
    cases q : Op.bytesLess b.c.key a.c.key with
    | false => rfl
    | true => have := M.less_trans _ _ _ h q; rw [M.less_irr] at this; cases this
/-- The i-th. -/
def M.hAt (H : List M.Hd) (i : Nat) : M.Hd := H.getD i M.hd0
/-- Two changed about. -/
def M.hSw (H : List M.Hd) (a b : Nat) : List M.Hd := (H.set a (M.hAt H b)).set b (M.hAt H a)
theorem M.hSw_len (H : List M.Hd) (a b : Nat) : (M.hSw H a b).length = H.length := by simp [M.hSw]
theorem M.hAt_set {H : List M.Hd} {i j : Nat} {x : M.Hd} (hi : i < H.length) : M.hAt (H.set i x) j = if i = j then x else M.hAt H j := by
  simp only [M.hAt, List.getD, List.getElem?_set]
  by_cases h : i = j
  · subst h; simp [hi]
  · simp [h]
theorem M.hSw_at {H : List M.Hd} {a b : Nat} (ha : a < H.length) (hb : b < H.length) (j : Nat) : M.hAt (M.hSw H a b) j = if b = j then M.hAt H a else if a = j then M.hAt H b else M.hAt H j := by
  rw [M.hSw, M.hAt_set (by simpa using hb), M.hAt_set ha]
theorem M.hSw_perm {H : List M.Hd} {a b : Nat} (ha : a < H.length) (hb : b < H.length) : (M.hSw H a b).Perm H := by
  have e1 : M.hAt H b = H[b] := by simp [M.hAt, List.getD, hb]
  have e2 : M.hAt H a = H[a] := by simp [M.hAt, List.getD, ha]
  rw [M.hSw, e1, e2]
  exact List.set_set_perm ha hb
/-- A heap, of the first n. -/
def M.Hp (H : List M.Hd) (n : Nat) : Prop := ∀ i, 0 < i → i < n → M.hLess (M.hAt H i) (M.hAt H ((i - 1) / 2)) = false
/-- A heap but for place j, which may be too small. -/
structure M.UpI (H : List M.Hd) (n j : Nat) : Prop where
  a : ∀ i, 0 < i → i < n → i ≠ j → M.hLess (M.hAt H i) (M.hAt H ((i - 1) / 2)) = false
  b : 0 < j → ∀ i, 0 < i → i < n → (i - 1) / 2 = j → M.hLess (M.hAt H i) (M.hAt H ((j - 1) / 2)) = false
/-- A heap but for place j, which may be too great. -/
structure M.DnI (H : List M.Hd) (n j : Nat) : Prop where
  a : ∀ i, 0 < i → i < n → (i - 1) / 2 ≠ j → M.hLess (M.hAt H i) (M.hAt H ((i - 1) / 2)) = false
  b : 0 < j → ∀ i, 0 < i → i < n → (i - 1) / 2 = j → M.hLess (M.hAt H i) (M.hAt H ((j - 1) / 2)) = false
theorem M.UpI.done {H : List M.Hd} {n j : Nat} (h : M.UpI H n j) (hj : j = 0 ∨ M.hLess (M.hAt H j) (M.hAt H ((j - 1) / 2)) = false) : M.Hp H n := fun i h0 hn => by
  by_cases e : i = j
  · subst e
    rcases hj with hj | hj
    · omega
    · exact hj
  · exact h.a i h0 hn e
theorem M.UpI.step {H : List M.Hd} {n j : Nat} (h : M.UpI H n j) (hn : n ≤ H.length) (hj0 : 0 < j) (hj : j < n) (hl : M.hLess (M.hAt H j) (M.hAt H ((j - 1) / 2)) = true) : M.UpI (M.hSw H ((j - 1) / 2) j) n ((j - 1) / 2) := by
  have hp : (j - 1) / 2 < j := by omega
  have hA := fun k => M.hSw_at (H := H) (a := (j - 1) / 2) (b := j) (by omega) (by omega) k
  refine ⟨fun i h0 hi hne => ?_, fun hp0 i h0 hi hpar => ?_⟩
  · rw [hA i, hA ((i - 1) / 2)]
    by_cases e1 : j = i
    · subst e1
      rw [if_pos rfl, if_neg (by omega), if_pos rfl]
      exact M.hLess_le hl
    · rw [if_neg e1, if_neg (fun x => hne x.symm)]
      by_cases e2 : j = (i - 1) / 2
      · rw [if_pos e2]
        exact h.b hj0 i h0 hi e2.symm
      · rw [if_neg e2]
        by_cases e3 : (j - 1) / 2 = (i - 1) / 2
        · rw [if_pos e3]
          have q := h.a i h0 hi (fun x => e1 x.symm)
          rw [← e3] at q
          exact M.hLe_trans (M.hLess_le hl) q
        · rw [if_neg e3]
          exact h.a i h0 hi (fun x => e1 x.symm)
  · rw [hA i, hA (((j - 1) / 2 - 1) / 2)]
    rw [if_neg (by omega : ¬ j = ((j - 1) / 2 - 1) / 2), if_neg (by omega : ¬ (j - 1) / 2 = ((j - 1) / 2 - 1) / 2)]
    have q := h.a ((j - 1) / 2) hp0 (by omega) (by omega)
    by_cases e1 : j = i
    · rw [if_pos e1]; exact q
    · rw [if_neg e1, if_neg (by omega)]
      have q2 := h.a i h0 hi (fun x => e1 x.symm)
      rw [hpar] at q2
      exact M.hLe_trans q q2
theorem M.DnI.done {H : List M.Hd} {n j : Nat} (h : M.DnI H n j) (hj : ∀ i, 0 < i → i < n → (i - 1) / 2 = j → M.hLess (M.hAt H i) (M.hAt H j) = false) : M.Hp H n := fun i h0 hn => by
  by_cases e : (i - 1) / 2 = j
  · rw [e]; exact hj i h0 hn e
  · exact h.a i h0 hn e
/-- c: the lesser child of j. -/
theorem M.DnI.step {H : List M.Hd} {n j c : Nat} (h : M.DnI H n j) (hn : n ≤ H.length) (hc0 : 0 < c) (hc : c < n) (hcj : (c - 1) / 2 = j) (hmin : ∀ i, 0 < i → i < n → (i - 1) / 2 = j → M.hLess (M.hAt H i) (M.hAt H c) = false) (hl : M.hLess (M.hAt H c) (M.hAt H j) = true) : M.DnI (M.hSw H j c) n c := by
  have hA := fun k => M.hSw_at (H := H) (a := j) (b := c) (by omega) (by omega) k
  refine ⟨fun i h0 hi hne => ?_, fun _ i h0 hi hpar => ?_⟩
  · rw [hA i, hA ((i - 1) / 2)]
    rw [if_neg (show ¬ c = (i - 1) / 2 from fun x => hne x.symm)]
    by_cases e1 : c = i
    · subst e1
      rw [if_pos rfl, if_pos hcj.symm]
      exact M.hLess_le hl
    · rw [if_neg e1]
      by_cases e2 : j = i
      · subst e2
        rw [if_pos rfl, if_neg (by omega)]
        exact h.b h0 c hc0 hc hcj
      · rw [if_neg e2]
        by_cases e3 : j = (i - 1) / 2
        · rw [if_pos e3]
          exact hmin i h0 hi e3.symm
        · rw [if_neg e3]
          exact h.a i h0 hi (fun x => e3 x.symm)
  · rw [hA i, hA ((c - 1) / 2)]
    rw [if_neg (by omega : ¬ c = i), if_neg (by omega : ¬ j = i), if_neg (by omega : ¬ c = (c - 1) / 2), if_pos hcj.symm]
    have q := h.a i h0 hi (by omega)
    rwa [hpar] at q
/-- The first is the least. -/
theorem M.Hp.least {H : List M.Hd} {n : Nat} (h : M.Hp H n) : ∀ i, i < n → M.hLess (M.hAt H i) (M.hAt H 0) = false := fun i => by
  induction i using Nat.strongRecOn with
  | _ i ih =>
    intro hi
    by_cases e : i = 0
    · subst e; exact M.hLess_irr _
    · exact M.hLe_trans (ih ((i - 1) / 2) (by omega) (by omega)) (h i (by omega) hi)

end Go.Proofs.YtnhljlmelbiljaaGreat

/- Plain mathematics of layer 11: what rows come to, one by one; the heap's heads are the rows' next cells. No Go here. -/
namespace Go.Proofs.YtnhljlmelbiljaaGreat
set_option linter.unusedVariables false
open Go Go.RowKit

/-- The row whose next cell comes first. -/
structure M.Best (R : List (List M.Cl)) (b : Nat) (c : M.Cl) (t : List M.Cl) : Prop where
  here : R[b]? = some (c :: t)
  all : ∀ (i : Nat) (d : M.Cl) (s : List M.Cl), R[i]? = some (d :: s) → M.aheadC d c = false
  first : ∀ (i : Nat) (d : M.Cl) (s : List M.Cl), i < b → R[i]? = some (d :: s) → M.aheadC c d = true
theorem M.Best.unique {R : List (List M.Cl)} {b b' : Nat} {c c' : M.Cl} {t t' : List M.Cl} (h : M.Best R b c t) (k : M.Best R b' c' t') : b = b' ∧ c = c' ∧ t = t' := by
  have e : b = b' := by
    rcases Nat.lt_trichotomy b b' with q | q | q
    · have := k.first b c t q h.here; rw [h.all b' c' t' k.here] at this; cases this
    · exact q
    · have := h.first b' c' t' q k.here; rw [k.all b c t h.here] at this; cases this
  subst e
  have := h.here.symm.trans k.here
  injection this with this
  injection this with e1 e2
  exact ⟨rfl, e1, e2⟩
theorem M.ahead_mix {x c d : M.Cl} (h : M.aheadC x c = true) (k : M.aheadC d c = false) : M.aheadC x d = true := by
  rw [M.ahead_iff] at h ⊢
  have hk : ¬ (Op.bytesLess d.key c.key = true ∨ (d.key = c.key ∧ c.seq < d.seq)) := fun q => by rw [M.ahead_iff.2 q] at k; cases k
  by_cases e : x.key = d.key
  · rcases h with h | ⟨h1, h2⟩
    · exact absurd (Or.inl (e ▸ h)) hk
    · right
      refine ⟨e, ?_⟩
      have : ¬ c.seq < d.seq := fun q => hk (.inr ⟨e ▸ h1, q⟩)
      omega
  · left
    rw [M.less_flip _ _ (fun q => e q.symm)]
    cases q : Op.bytesLess d.key x.key with
    | false => rfl
    | true =>
      exfalso
      rcases h with h | ⟨h1, h2⟩
      · exact hk (.inl (M.less_trans _ _ _ q h))
      · exact hk (.inl (h1 ▸ q))
inductive M.Mrg : List (List M.Cl) → List M.Cl → Prop
  | done {R : List (List M.Cl)} (h : ∀ (i : Nat) (d : M.Cl) (s : List M.Cl), R[i]? ≠ some (d :: s)) : M.Mrg R []
  | step {R : List (List M.Cl)} {b : Nat} {c : M.Cl} {t L : List M.Cl} (h : M.Best R b c t) (k : M.Mrg (R.set b t) L) : M.Mrg R (c :: L)
theorem M.Mrg.unique {R : List (List M.Cl)} {L L' : List M.Cl} (h : M.Mrg R L) (k : M.Mrg R L') : L = L' := by
  induction h generalizing L' with
  | done h => cases k with
    | done _ => rfl
    | step h' _ => exact absurd h'.here (h _ _ _)
  | step h _ ih => cases k with
    | done k => exact absurd h.here (k _ _ _)
    | step h' k' =>
      obtain ⟨rfl, rfl, rfl⟩ := h.unique h'
      rw [ih k']
/-- The first n rows' best. -/
theorem M.best_take (R : List (List M.Cl)) : ∀ n, n ≤ R.length → (∀ (i : Nat) (d : M.Cl) (s : List M.Cl), (R.take n)[i]? ≠ some (d :: s)) ∨ ∃ b c t, M.Best (R.take n) b c t
  | 0, _ => .inl (by simp)
  | n + 1, hn => by
    have hl : (R.take n).length = n := by simp; omega
    have e : R.take (n + 1) = R.take n ++ [R[n]] := by rw [List.take_succ_eq_append_getElem (by omega)]
    have low : ∀ i, i < n → (R.take n ++ [R[n]])[i]? = (R.take n)[i]? := fun i hi => List.getElem?_append_left (by omega)
    have top : (R.take n ++ [R[n]])[n]? = some R[n] := by rw [List.getElem?_append_right (by omega), hl]; simp
    have big : ∀ i, n < i → (R.take n ++ [R[n]])[i]? = none := fun i hi => by rw [List.getElem?_eq_none]; simp; omega
    have lowO : ∀ i, n ≤ i → (R.take n)[i]? = none := fun i hi => by rw [List.getElem?_eq_none]; omega
    rw [e]
    cases hx : R[n] with
    | nil =>
      rw [hx] at low top big
      rcases M.best_take R n (by omega) with h | ⟨b, c, t, h⟩
      · refine .inl fun i d s hi => ?_
        rcases Nat.lt_trichotomy i n with q | q | q
        · exact h i d s ((low i q).symm.trans hi)
        · subst q; rw [top] at hi; cases hi
        · rw [big i q] at hi; cases hi
      · have hb : b < n := by
          rcases Nat.lt_or_ge b n with q | q
          · exact q
          · have := h.here; rw [lowO b q] at this; cases this
        refine .inr ⟨b, c, t, (low b hb).trans h.here, fun i d s hi => ?_, fun i d s hib hi => ?_⟩
        · rcases Nat.lt_trichotomy i n with q | q | q
          · exact h.all i d s ((low i q).symm.trans hi)
          · subst q; rw [top] at hi; cases hi
          · rw [big i q] at hi; cases hi
        · exact h.first i d s hib ((low i (by omega)).symm.trans hi)
    | cons x r =>
      rw [hx] at low top big
      rcases M.best_take R n (by omega) with h | ⟨b, c, t, h⟩
      · refine .inr ⟨n, x, r, top, fun i d s hi => ?_, fun i d s hib hi => ?_⟩
        · rcases Nat.lt_trichotomy i n with q | q | q
          · exact absurd ((low i q).symm.trans hi) (h i d s)
          · subst q; rw [top] at hi; injection hi with hi; injection hi with e1 e2; subst e1; exact M.ahead_irr _
          · rw [big i q] at hi; cases hi
        · exact absurd ((low i hib).symm.trans hi) (h i d s)
      · have hb : b < n := by
          rcases Nat.lt_or_ge b n with q | q
          · exact q
          · have := h.here; rw [lowO b q] at this; cases this
        cases ha : M.aheadC x c with
        | true =>
          refine .inr ⟨n, x, r, top, fun i d s hi => ?_, fun i d s hib hi => ?_⟩
          · rcases Nat.lt_trichotomy i n with q | q | q
            · cases hd : M.aheadC d x with
              | false => rfl
              | true => have := M.ahead_trans hd ha; rw [h.all i d s ((low i q).symm.trans hi)] at this; cases this
            · subst q; rw [top] at hi; injection hi with hi; injection hi with e1 e2; subst e1; exact M.ahead_irr _
            · rw [big i q] at hi; cases hi
          · have hd := h.all i d s ((low i hib).symm.trans hi)
            exact M.ahead_mix ha hd
        | false =>
          refine .inr ⟨b, c, t, (low b hb).trans h.here, fun i d s hi => ?_, fun i d s hib hi => ?_⟩
          · rcases Nat.lt_trichotomy i n with q | q | q
            · exact h.all i d s ((low i q).symm.trans hi)
            · subst q; rw [top] at hi; injection hi with hi; injection hi with e1 e2; subst e1; exact ha
            · rw [big i q] at hi; cases hi
          · exact h.first i d s hib ((low i (by omega)).symm.trans hi)
theorem M.sum_set : ∀ (R : List (List M.Cl)) (b : Nat) (c : M.Cl) (t : List M.Cl), R[b]? = some (c :: t) → ((R.set b t).map List.length).sum + 1 = (R.map List.length).sum
  | [], b, c, t, h => by simp at h
  | x :: R, 0, c, t, h => by
    simp at h; subst h; simp; omega
  | x :: R, b + 1, c, t, h => by
    have := M.sum_set R b c t (by simpa using h)
    rw [List.set_cons_succ, List.map_cons, List.sum_cons, List.map_cons, List.sum_cons]
    omega
theorem M.mrg_ex : ∀ (n : Nat) (R : List (List M.Cl)), (R.map List.length).sum = n → ∃ L, M.Mrg R L ∧ L.length = n
  | n, R, hn => by
    rcases M.best_take R R.length (Nat.le_refl _) with h | ⟨b, c, t, h⟩
    · rw [List.take_length] at h
      refine ⟨[], .done h, ?_⟩
      rw [← hn]
      have : ∀ (Q : List (List M.Cl)), (∀ (i : Nat) (d : M.Cl) (s : List M.Cl), Q[i]? ≠ some (d :: s)) → (Q.map List.length).sum = 0 := by
        intro Q
        induction Q with
        | nil => simp
        | cons a Q ih =>
          intro hq
          have h0 : a = [] := by
            cases a with
            | nil => rfl
            | cons d s => exact absurd (by simp) (hq 0 d s)
          subst h0
          simp
          have := ih (fun i d s hi => hq (i + 1) d s (by simpa using hi))
          simpa using this
      rw [this R h]; rfl
    · rw [List.take_length] at h
      have hs := M.sum_set R b c t h.here
      cases n with
      | zero => omega
      | succ n =>
        obtain ⟨L, k, hk⟩ := M.mrg_ex n (R.set b t) (by omega)
        exact ⟨c :: L, .step h k, by simp [hk]⟩
/-- What rows come to. -/
noncomputable def M.mrg (R : List (List M.Cl)) : List M.Cl := Classical.choose (M.mrg_ex _ R rfl)
theorem M.mrg_is (R : List (List M.Cl)) : M.Mrg R (M.mrg R) := (Classical.choose_spec (M.mrg_ex _ R rfl)).1
theorem M.mrg_len (R : List (List M.Cl)) : (M.mrg R).length = (R.map List.length).sum := (Classical.choose_spec (M.mrg_ex _ R rfl)).2
theorem M.Mrg.eq {R : List (List M.Cl)} {L : List M.Cl} (h : M.Mrg R L) : L = M.mrg R := h.unique (M.mrg_is R)
/-- Heads are the rows' next cells. -/
structure M.Hof (R : List (List M.Cl)) (H : List M.Hd) : Prop where
  mem : ∀ x, x ∈ H → R[x.r]? = some (x.c :: x.b)
  all : ∀ (r : Nat) (c : M.Cl) (t : List M.Cl), R[r]? = some (c :: t) → ∃ x, x ∈ H ∧ x.r = r
  nd : (H.map M.Hd.r).Nodup
theorem M.Hof.perm {R : List (List M.Cl)} {H K : List M.Hd} (h : M.Hof R H) (p : K.Perm H) : M.Hof R K :=
  ⟨fun x hx => h.mem x (p.mem_iff.1 hx), fun r c t hr => by
    obtain ⟨x, hx, e⟩ := h.all r c t hr
    exact ⟨x, p.mem_iff.2 hx, e⟩, (p.map _).nodup_iff.2 h.nd⟩
theorem M.less_ahead11 {x y : M.Hd} (h : M.hLess y x = false) : M.aheadC y.c x.c = false := by
  cases q : M.aheadC y.c x.c with
  | false => rfl
  | true =>
    exfalso
    rw [M.ahead_iff] at q
    unfold M.hLess at h
    rcases q with q | ⟨q1, q2⟩
    · by_cases e : y.c.key = x.c.key
      · rw [e, M.less_irr] at q; cases q
      · rw [if_neg e, q] at h; cases h
    · rw [if_pos q1] at h
      rw [if_neg (by omega), decide_eq_false_iff_not] at h
      omega
theorem M.less_first11 {x y : M.Hd} (h : M.hLess y x = false) (hr : y.r < x.r) : M.aheadC x.c y.c = true := by
  rw [M.ahead_iff]
  unfold M.hLess at h
  by_cases e : y.c.key = x.c.key
  · right
    refine ⟨e.symm, ?_⟩
    rw [if_pos e] at h
    by_cases f : y.c.seq = x.c.seq
    · rw [if_pos f, decide_eq_false_iff_not] at h; omega
    · rw [if_neg f, decide_eq_false_iff_not] at h; omega
  · left
    rw [if_neg e] at h
    rw [M.less_flip _ _ e, h]; rfl
theorem M.hAt_mem {H : List M.Hd} {i : Nat} (h : i < H.length) : M.hAt H i ∈ H := by
  have e : M.hAt H i = H[i] := by simp [M.hAt, List.getD, h]
  rw [e]; exact List.getElem_mem h
theorem M.mem_hAt {H : List M.Hd} {x : M.Hd} (h : x ∈ H) : ∃ i, i < H.length ∧ M.hAt H i = x := by
  obtain ⟨i, hi, e⟩ := List.getElem_of_mem h
  exact ⟨i, hi, by rw [← e]; simp [M.hAt, List.getD, hi]⟩
/-- The least head is the best row's. -/
theorem M.Hof.best {R : List (List M.Cl)} {H : List M.Hd} {x : M.Hd} (h : M.Hof R H) (hx : x ∈ H) (hl : ∀ y, y ∈ H → M.hLess y x = false) : M.Best R x.r x.c x.b := by
  refine ⟨h.mem x hx, fun i d s hi => ?_, fun i d s hib hi => ?_⟩
  · obtain ⟨y, hy, e⟩ := h.all i d s hi
    have := h.mem y hy
    rw [e, hi] at this
    injection this with this
    injection this with e1 e2
    rw [e1]
    exact M.less_ahead11 (hl y hy)
  · obtain ⟨y, hy, e⟩ := h.all i d s hi
    have := h.mem y hy
    rw [e, hi] at this
    injection this with this
    injection this with e1 e2
    rw [e1]
    exact M.less_first11 (hl y hy) (by omega)
/-- The best one taken, its row done. -/
theorem M.Hof.taken {R : List (List M.Cl)} {H : List M.Hd} {x : M.Hd} (h : M.Hof R (x :: H)) (hb : x.b = []) : M.Hof (R.set x.r x.b) H := by
  have hm := h.mem x (by simp)
  have hlt : x.r < R.length := by
    rcases Nat.lt_or_ge x.r R.length with q | q
    · exact q
    · rw [List.getElem?_eq_none q] at hm; cases hm
  have hnd := h.nd
  rw [List.map_cons, List.nodup_cons] at hnd
  refine ⟨fun y hy => ?_, fun r c t hr => ?_, hnd.2⟩
  · have hne : x.r ≠ y.r := fun e => hnd.1 (by rw [e]; exact List.mem_map_of_mem hy)
    rw [List.getElem?_set_ne hne]
    exact h.mem y (by simp [hy])
  · by_cases e : x.r = r
    · subst e
      rw [List.getElem?_set_self hlt, hb] at hr
      cases hr
    · rw [List.getElem?_set_ne e] at hr
      obtain ⟨y, hy, ey⟩ := h.all r c t hr
      rcases List.mem_cons.1 hy with q | q
      · subst q; exact absurd ey e
      · exact ⟨y, q, ey⟩
/-- The best one taken, the next one of its row laid in. -/
theorem M.Hof.next {R : List (List M.Cl)} {H : List M.Hd} {x : M.Hd} {c : M.Cl} {t : List M.Cl} (h : M.Hof R (x :: H)) (hb : x.b = c :: t) (o : Option Addr) (k : Nat) : M.Hof (R.set x.r x.b) (H ++ [⟨c, t, o, k, x.r⟩]) := by
  have hm := h.mem x (by simp)
  have hlt : x.r < R.length := by
    rcases Nat.lt_or_ge x.r R.length with q | q
    · exact q
    · rw [List.getElem?_eq_none q] at hm; cases hm
  have hnd := h.nd
  rw [List.map_cons, List.nodup_cons] at hnd
  refine M.Hof.perm (H := ⟨c, t, o, k, x.r⟩ :: H) ⟨fun y hy => ?_, fun r c' t' hr => ?_, ?_⟩ (List.perm_append_comm (l₁ := H) (l₂ := [⟨c, t, o, k, x.r⟩]))
  · rcases List.mem_cons.1 hy with q | q
    · subst q
      show (R.set x.r x.b)[x.r]? = some (c :: t)
      rw [List.getElem?_set_self hlt, hb]
    · have hne : x.r ≠ y.r := fun e => hnd.1 (by rw [e]; exact List.mem_map_of_mem q)
      rw [List.getElem?_set_ne hne]
      exact h.mem y (by simp [q])
  · by_cases e : x.r = r
    · exact ⟨⟨c, t, o, k, x.r⟩, by simp, e⟩
    · rw [List.getElem?_set_ne e] at hr
      obtain ⟨y, hy, ey⟩ := h.all r c' t' hr
      rcases List.mem_cons.1 hy with q | q
      · subst q; exact absurd ey e
      · exact ⟨y, by simp [q], ey⟩
  · rw [List.map_cons, List.nodup_cons]; exact hnd
theorem M.Hof.snoc_nil {R : List (List M.Cl)} {H : List M.Hd} (h : M.Hof R H) : M.Hof (R ++ [[]]) H := by
  have hlt : ∀ x, x ∈ H → x.r < R.length := fun x hx => by
    rcases Nat.lt_or_ge x.r R.length with q | q
    · exact q
    · have := h.mem x hx; rw [List.getElem?_eq_none q] at this; cases this
  refine ⟨fun x hx => by rw [List.getElem?_append_left (hlt x hx)]; exact h.mem x hx, fun r c t hr => ?_, h.nd⟩
  rcases Nat.lt_trichotomy r R.length with q | q | q
  · rw [List.getElem?_append_left q] at hr; exact h.all r c t hr
  · subst q; rw [List.getElem?_append_right (Nat.le_refl _)] at hr; simp at hr
  · rw [List.getElem?_eq_none (by simp; omega)] at hr; cases hr
theorem M.Hof.snoc {R : List (List M.Cl)} {H : List M.Hd} {c : M.Cl} {t : List M.Cl} (h : M.Hof R H) (o : Option Addr) (k : Nat) : M.Hof (R ++ [c :: t]) (H ++ [⟨c, t, o, k, R.length⟩]) := by
  have hlt : ∀ x, x ∈ H → x.r < R.length := fun x hx => by
    rcases Nat.lt_or_ge x.r R.length with q | q
    · exact q
    · have := h.mem x hx; rw [List.getElem?_eq_none q] at this; cases this
  refine M.Hof.perm (H := ⟨c, t, o, k, R.length⟩ :: H) ⟨fun x hx => ?_, fun r c' t' hr => ?_, ?_⟩ (List.perm_append_comm (l₁ := H) (l₂ := [⟨c, t, o, k, R.length⟩]))
  · rcases List.mem_cons.1 hx with q | q
    · subst q
      show (R ++ [c :: t])[R.length]? = some (c :: t)
      rw [List.getElem?_append_right (Nat.le_refl _)]; simp
    · rw [List.getElem?_append_left (hlt x q)]; exact h.mem x q
  · rcases Nat.lt_trichotomy r R.length with q | q | q
    · rw [List.getElem?_append_left q] at hr
      obtain ⟨y, hy, ey⟩ := h.all r c' t' hr
      exact ⟨y, by simp [hy], ey⟩
    · exact ⟨⟨c, t, o, k, R.length⟩, by simp, q.symm⟩
    · rw [List.getElem?_eq_none (by simp; omega)] at hr; cases hr
  · rw [List.map_cons, List.nodup_cons]
    refine ⟨fun hm => ?_, h.nd⟩
    obtain ⟨y, hy, e⟩ := List.mem_map.1 hm
    have := hlt y hy
    simp at e
    omega
theorem M.Hof.nil : M.Hof [] [] := ⟨by simp, by simp, by simp⟩
theorem M.nodup_lt : ∀ (n : Nat) (l : List Nat), l.Nodup → (∀ x, x ∈ l → x < n) → l.length ≤ n
  | 0, l, _, h => by
    cases l with
    | nil => simp
    | cons a l => have := h a (by simp); omega
  | n + 1, l, hn, h => by
    by_cases hm : n ∈ l
    · have := M.nodup_lt n (l.erase n) (hn.erase n) (fun x hx => by
        have hx := (List.Nodup.mem_erase_iff hn).1 hx
        have := h x hx.2
        omega)
      rw [List.length_erase_of_mem hm] at this
      omega
    · have := M.nodup_lt n l hn (fun x hx => by
        have h1 := h x hx
        have h2 : x ≠ n := fun e => hm (e ▸ hx)
        omega)
      omega
theorem M.Hof.len {R : List (List M.Cl)} {H : List M.Hd} (h : M.Hof R H) : H.length ≤ R.length := by
  have := M.nodup_lt R.length (H.map M.Hd.r) h.nd (fun r hr => by
    obtain ⟨x, hx, rfl⟩ := List.mem_map.1 hr
    rcases Nat.lt_or_ge x.r R.length with q | q
    · exact q
    · have := h.mem x hx; rw [List.getElem?_eq_none q] at this; cases this)
  simpa using this
/-- No heads: nothing comes. -/
theorem M.Hof.none {R : List (List M.Cl)} {L : List M.Cl} (h : M.Hof R []) (k : M.Mrg R L) : L = [] :=
  k.unique (.done fun i d s hi => by obtain ⟨x, hx, _⟩ := h.all i d s hi; cases hx)
/-- The least head's cell comes next. -/
theorem M.Hof.some {R : List (List M.Cl)} {L : List M.Cl} {H : List M.Hd} {x : M.Hd} (h : M.Hof R H) (hx : x ∈ H) (hl : ∀ y, y ∈ H → M.hLess y x = false) (k : M.Mrg R L) : ∃ L', L = x.c :: L' ∧ M.Mrg (R.set x.r x.b) L' := by
  have hb := h.best hx hl
  cases k with
  | done k => exact absurd hb.here (k _ _ _)
  | step h' k' =>
    obtain ⟨e1, e2, e3⟩ := hb.unique h'
    rw [e1, e2, e3]
    exact ⟨_, rfl, k'⟩

end Go.Proofs.YtnhljlmelbiljaaGreat

/- Plain mathematics of layer 11: the merge, computed as the document computes it. No Go here. -/
namespace Go.Proofs.YtnhljlmelbiljaaGreat
set_option linter.unusedVariables false
open Go Go.RowKit

end Go.Proofs.YtnhljlmelbiljaaGreat
