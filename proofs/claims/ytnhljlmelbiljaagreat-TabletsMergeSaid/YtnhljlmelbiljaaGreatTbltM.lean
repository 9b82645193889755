/- Plain mathematics of layer 19: of each key the newest, over rows; a stretch, in halves. No Go here. -/
import Derived.Test.YtnhljlmelbiljaaGreatZU
import Derived.Test.YtnhljlmelbiljaaGreatZT
namespace Go.Proofs.YtnhljlmelbiljaaGreat
set_option linter.unusedVariables false
set_option linter.unusedSimpArgs false
open Go Go.RowKit

theorem M.less_asym19 {a b : List UInt8} (h : Op.bytesLess a b = true) : Op.bytesLess b a = false := by
  cases q : Op.bytesLess b a with
  | false => rfl
  | true =>
    have := M.less_trans _ _ _ h q
    rw [M.less_irr] at this
    cases this
def M.up : Option M.Cl → Option M.Cl → Option M.Cl
  | none, c => c
  | some b, none => some b
  | some b, some c => if b.seq < c.seq then some c else some b
theorem M.up_none (a : Option M.Cl) : M.up a none = a := by cases a <;> rfl
theorem M.up_assoc (a b c : Option M.Cl) : M.up (M.up a b) c = M.up a (M.up b c) := by
  cases a with
  | none => rfl
  | some x => cases b with
    | none => rfl
    | some y => cases c with
      | none => simp only [M.up_none]
      | some z =>
        simp only [M.up]
        by_cases h1 : x.seq < y.seq <;> by_cases h2 : y.seq < z.seq <;> by_cases h3 : x.seq < z.seq <;> simp only [h1, h2, h3, if_true, if_false, M.up] <;> omega
/-- Of a key the newest, over rows. -/
def M.bestR (k : List UInt8) : List (List M.Cl) → Option M.Cl
  | [] => none
  | L :: R => M.up (M.findL k L) (M.bestR k R)
theorem M.bestR_append (k : List UInt8) : ∀ (A B : List (List M.Cl)), M.bestR k (A ++ B) = M.up (M.bestR k A) (M.bestR k B)
  | [], B => rfl
  | L :: A, B => by
    show M.up (M.findL k L) (M.bestR k (A ++ B)) = M.up (M.up (M.findL k L) (M.bestR k A)) (M.bestR k B)
    rw [M.bestR_append k A B, M.up_assoc]
theorem M.bestR_snoc (k : List UInt8) (A : List (List M.Cl)) (L : List M.Cl) : M.bestR k (A ++ [L]) = M.up (M.bestR k A) (M.findL k L) := by
  rw [M.bestR_append]
  show M.up _ (M.up _ none) = _
  rw [M.up_none]
theorem M.bestR_none (k : List UInt8) : ∀ (R : List (List M.Cl)), (∀ (i : Nat) (d : M.Cl) (s : List M.Cl), R[i]? ≠ some (d :: s)) → M.bestR k R = none
  | [], _ => rfl
  | [] :: R, h => M.bestR_none k R (fun i d s => h (i + 1) d s)
  | (d :: s) :: R, h => absurd rfl (h 0 d s)
theorem M.bestR_set (k : List UInt8) {l l' : List M.Cl} (he : M.findL k l' = M.findL k l) : ∀ (R : List (List M.Cl)) (b : Nat), R[b]? = some l → M.bestR k (R.set b l') = M.bestR k R
  | [], b, h => by simp at h
  | L :: R, 0, h => by
    simp at h
    subst h
    show M.up _ _ = M.up _ _
    rw [he]
  | L :: R, b + 1, h => by
    show M.up _ (M.bestR k (R.set b l')) = M.up _ _
    rw [M.bestR_set k he R b (by simpa using h)]
theorem M.bestR_le (k : List UInt8) (c : M.Cl) : ∀ (R : List (List M.Cl)), (∀ (i : Nat) (l : List M.Cl) (d : M.Cl), R[i]? = some l → M.findL k l = some d → d.seq ≤ c.seq) → ∀ d, M.bestR k R = some d → d.seq ≤ c.seq
  | [], _, d, h => by cases h
  | L :: R, h, d, hd => by
    have ih := M.bestR_le k c R (fun i l d hl hf => h (i + 1) l d hl hf)
    have h0 := fun d => h 0 L d rfl
    unfold M.bestR at hd
    cases q : M.findL k L with
    | none => rw [q] at hd; exact ih d hd
    | some x =>
      rw [q] at hd
      cases r : M.bestR k R with
      | none => rw [r] at hd; injection hd with hd; subst hd; exact h0 x q
      | some y =>
        rw [r] at hd
        simp only [M.up] at hd
        split at hd <;> (injection hd with hd; subst hd)
        · exact ih _ r
        · exact h0 x q
theorem M.bestR_is (k : List UInt8) (c : M.Cl) : ∀ (R : List (List M.Cl)) (b : Nat) (l : List M.Cl), R[b]? = some l → M.findL k l = some c → (∀ (i : Nat) (l : List M.Cl) (d : M.Cl), i < b → R[i]? = some l → M.findL k l = some d → d.seq < c.seq) → (∀ (i : Nat) (l : List M.Cl) (d : M.Cl), R[i]? = some l → M.findL k l = some d → d.seq ≤ c.seq) → M.bestR k R = some c
  | [], b, l, h, _, _, _ => by simp at h
  | L :: R, 0, l, h, hf, _, ha => by
    simp at h
    subst h
    unfold M.bestR
    rw [hf]
    have := M.bestR_le k c R (fun i l d hl hf => ha (i + 1) l d hl hf)
    cases r : M.bestR k R with
    | none => rfl
    | some y =>
      have := this y r
      simp only [M.up]
      rw [if_neg (by omega)]
  | L :: R, b + 1, l, h, hf, hb, ha => by
    have ih := M.bestR_is k c R b l (by simpa using h) hf (fun i l d hi hl hf => hb (i + 1) l d (by omega) hl hf) (fun i l d hl hf => ha (i + 1) l d hl hf)
    unfold M.bestR
    rw [ih]
    cases q : M.findL k L with
    | none => rfl
    | some x =>
      have := hb 0 L x (by omega) rfl q
      simp only [M.up]
      rw [if_pos this]
theorem M.find_some19 {k : List UInt8} {L : List M.Cl} {d : M.Cl} (h : M.findL k L = some d) : d ∈ L ∧ d.key = k := by
  unfold M.findL at h
  exact ⟨List.mem_of_find?_eq_some h, by simpa using List.find?_some h⟩
theorem M.find_cons_ne {k : List UInt8} {c : M.Cl} {t : List M.Cl} (h : c.key ≠ k) : M.findL k (c :: t) = M.findL k t := by
  unfold M.findL
  rw [List.find?_cons_of_neg (by simpa using h)]
theorem M.find_cons_eq {k : List UInt8} {c : M.Cl} {t : List M.Cl} (h : c.key = k) : M.findL k (c :: t) = some c := by
  unfold M.findL
  rw [List.find?_cons_of_pos (by simpa using h)]
theorem M.pw_set {R : List (List M.Cl)} {b : Nat} {c : M.Cl} {t : List M.Cl} (h : M.PW R) (hb : R[b]? = some (c :: t)) : M.PW (R.set b t) := fun i l hl => by
  rw [List.getElem?_set] at hl
  split at hl
  · split at hl
    · injection hl with hl
      subst hl
      exact (List.pairwise_cons.1 (h b _ hb)).2
    · cases hl
  · exact h i l hl
theorem M.ahead_seq {c d : M.Cl} (e : c.key = d.key) : (M.aheadC c d = true ↔ d.seq < c.seq) ∧ (M.aheadC c d = false ↔ c.seq ≤ d.seq) := by
  have h : M.aheadC c d = decide (d.seq < c.seq) := by
    unfold M.aheadC
    rw [e, M.less_irr]
    simp
  rw [h]
  constructor
  · simp
  · simp
/-- The first of a key in rows that are merged is the newest of it. -/
theorem M.Mrg.find {R : List (List M.Cl)} {L : List M.Cl} (h : M.Mrg R L) : M.PW R → ∀ k, M.findL k L = M.bestR k R := by
  induction h with
  | done h => intro _ k; rw [M.bestR_none k _ h]; rfl
  | step hb _ ih =>
    rename_i R b c t L _
    intro hp k
    by_cases e : c.key = k
    · rw [M.find_cons_eq e]
      symm
      have hrow : ∀ (i : Nat) (l : List M.Cl) (d : M.Cl), R[i]? = some l → M.findL k l = some d → ∃ x s, l = x :: s ∧ (x = d ∨ M.aheadC x d = true) := fun i l d hl hd => by
        cases l with
        | nil => cases hd
        | cons x s =>
          refine ⟨x, s, rfl, ?_⟩
          rcases List.mem_cons.1 (M.find_some19 hd).1 with rfl | q
          · exact .inl rfl
          · exact .inr ((List.pairwise_cons.1 (hp i _ hl)).1 d q)
      refine M.bestR_is k c R b _ hb.here (M.find_cons_eq e) (fun i l d hi hl hd => ?_) (fun i l d hl hd => ?_)
      · obtain ⟨x, s, rfl, q⟩ := hrow i l d hl hd
        have h1 := hb.first i x s hi hl
        have hk : c.key = d.key := e.trans (M.find_some19 hd).2.symm
        rcases q with rfl | q
        · exact (M.ahead_seq hk).1.1 h1
        · exact (M.ahead_seq hk).1.1 (M.ahead_trans h1 q)
      · obtain ⟨x, s, rfl, q⟩ := hrow i l d hl hd
        have h1 := hb.all i x s hl
        have hk : d.key = c.key := (M.find_some19 hd).2.trans e.symm
        rcases q with rfl | q
        · exact (M.ahead_seq hk).2.1 h1
        · refine (M.ahead_seq hk).2.1 ?_
          cases r : M.aheadC d c with
          | false => rfl
          | true => rw [M.ahead_trans q r] at h1; cases h1
    · rw [M.find_cons_ne e, ih (M.pw_set hp hb.here) k]
      exact M.bestR_set k (M.find_cons_ne e).symm R b hb.here
abbrev M.PwK (L : List M.Cl) : Prop := L.Pairwise (fun x y => Op.bytesLess x.key y.key = true)
theorem M.pwk_find {L : List M.Cl} (h : M.PwK L) {x : M.Cl} : M.findL x.key L = some x ↔ x ∈ L := by
  constructor
  · exact fun q => (M.find_some19 q).1
  · intro hx
    cases q : M.findL x.key L with
    | none =>
      unfold M.findL at q
      have := List.find?_eq_none.1 q x hx
      simp at this
    | some y =>
      obtain ⟨h1, h2⟩ := M.find_some19 q
      rw [(M.pw_once h hx).2 y h1 h2]
theorem M.nw_findL {L : List M.Cl} (h : M.Asc L) (k : List UInt8) : M.findL k (M.nw L) = M.findL k L := by
  cases q : M.findL k L with
  | none =>
    cases r : M.findL k (M.nw L) with
    | none => rfl
    | some y =>
      obtain ⟨h1, h2⟩ := M.find_some19 r
      have := M.nw_find h h1
      rw [h2, q] at this
      cases this
  | some x =>
    obtain ⟨h1, h2⟩ := M.find_some19 q
    obtain ⟨m, m1, m2, _⟩ := M.nw_has h h1
    have h3 := M.nw_find h m1
    rw [m2, h2, q] at h3
    injection h3 with h3
    subst h3
    rw [← h2]
    exact (M.pwk_find (M.nw_pw h)).2 m1
/-- Of each key the newest, as one row. -/
noncomputable def M.newR (R : List (List M.Cl)) : List M.Cl := M.nw (M.mrg R)
theorem M.newR_pwk {R : List (List M.Cl)} (h : M.PW R) : M.PwK (M.newR R) := M.nw_pw ((M.mrg_is R).asc h)
theorem M.newR_find {R : List (List M.Cl)} (h : M.PW R) (k : List UInt8) : M.findL k (M.newR R) = M.bestR k R := by
  rw [M.newR, M.nw_findL ((M.mrg_is R).asc h), (M.mrg_is R).find h]
theorem M.newR_len (R : List (List M.Cl)) : (M.newR R).length ≤ (R.map List.length).sum := by
  rw [← M.mrg_len R]; exact M.nw_len _
/-- A key in a stretch. -/
def M.inK (lo hi k : List UInt8) : Bool := !Op.bytesLess k lo && (hi.isEmpty || Op.bytesLess k hi)
theorem M.find_filter19 (k : List UInt8) (p : M.Cl → Bool) (b : Bool) (L : List M.Cl) (h : ∀ c, c ∈ L → c.key = k → p c = b) : M.findL k (L.filter p) = if b = true then M.findL k L else none := by
  induction L with
  | nil => cases b <;> rfl
  | cons c t ih =>
    have ih := ih (fun c hc => h c (List.mem_cons_of_mem _ hc))
    by_cases e : c.key = k
    · have hc := h c (by simp) e
      cases b with
      | true => rw [List.filter_cons_of_pos hc, M.find_cons_eq e, M.find_cons_eq e]; rfl
      | false => rw [List.filter_cons_of_neg (by rw [hc]; simp), ih]; rfl
    · rw [M.find_cons_ne e, ← ih]
      cases hc : p c with
      | true => rw [List.filter_cons_of_pos hc, M.find_cons_ne e]
      | false => rw [List.filter_cons_of_neg (by rw [hc]; simp)]
theorem M.find_range19 (k lo hi : List UInt8) (L : List M.Cl) : M.findL k (M.rangeL lo hi L) = if M.inK lo hi k = true then M.findL k L else none :=
  M.find_filter19 k _ _ L (fun c _ e => by unfold M.inR M.inK; rw [e])
theorem M.bestR_range (k lo hi : List UInt8) : ∀ (R : List (List M.Cl)), M.bestR k (R.map (M.rangeL lo hi)) = if M.inK lo hi k = true then M.bestR k R else none
  | [] => by simp [M.bestR]
  | L :: R => by
    show M.up (M.findL k (M.rangeL lo hi L)) (M.bestR k (R.map (M.rangeL lo hi))) = _
    rw [M.find_range19, M.bestR_range k lo hi R]
    by_cases h : M.inK lo hi k = true
    · rw [if_pos h, if_pos h, if_pos h]; rfl
    · rw [if_neg h, if_neg h, if_neg h]; rfl
theorem M.pw_map_filter {R : List (List M.Cl)} (h : M.PW R) (p : M.Cl → Bool) : M.PW (R.map (List.filter p)) := fun i l hl => by
  rw [List.getElem?_map] at hl
  cases q : R[i]? with
  | none => rw [q] at hl; cases hl
  | some m =>
    rw [q] at hl
    injection hl with hl
    subst hl
    exact (h i m q).filter _
theorem M.pw_range {R : List (List M.Cl)} (h : M.PW R) (lo hi : List UInt8) : M.PW (R.map (M.rangeL lo hi)) := M.pw_map_filter h _
/-! A tablet's stretch. -/
def M.winA (f from_ : List UInt8) : List UInt8 := if Op.bytesLess from_ f = true then f else from_
def M.winB (t to_ : List UInt8) : List UInt8 := if to_ = [] ∨ (t ≠ [] ∧ Op.bytesLess t to_ = true) then t else to_
theorem M.not_less {a b : List UInt8} (h : Op.bytesLess a b = false) : a = b ∨ Op.bytesLess b a = true := by
  by_cases e : a = b
  · exact .inl e
  · right
    rw [M.less_flip a b e, h]; rfl
theorem M.le_trans19 {a b c : List UInt8} (h : Op.bytesLess b a = false) (k : Op.bytesLess c b = false) : Op.bytesLess c a = false := by
  rcases M.not_less k with rfl | k
  · exact h
  · cases q : Op.bytesLess c a with
    | false => rfl
    | true => rw [M.less_trans _ _ _ k q] at h; cases h
theorem M.win_in (f t a b k : List UInt8) : M.inK (M.winA f a) (M.winB t b) k = (M.inK f t k && M.inK a b k) := by
  have h1 : (!Op.bytesLess k (M.winA f a)) = ((!Op.bytesLess k f) && (!Op.bytesLess k a)) := by
    unfold M.winA
    by_cases h : Op.bytesLess a f = true
    · rw [if_pos h]
      cases q : Op.bytesLess k f with
      | true => rfl
      | false =>
        have : Op.bytesLess k a = false := M.le_trans19 (M.less_asym19 h) q
        rw [this]; rfl
    · rw [if_neg h]
      have h : Op.bytesLess a f = false := by simpa using h
      cases q : Op.bytesLess k a with
      | true => simp
      | false =>
        have : Op.bytesLess k f = false := M.le_trans19 h q
        rw [this]; rfl
  have h2 : ((M.winB t b).isEmpty || Op.bytesLess k (M.winB t b)) = ((t.isEmpty || Op.bytesLess k t) && (b.isEmpty || Op.bytesLess k b)) := by
    unfold M.winB
    by_cases hb : b = []
    · subst hb
      simp
    · by_cases ht : t = []
      · subst ht
        rw [if_neg (by simp [hb])]
        simp
      · have e1 : t.isEmpty = false := by simpa using ht
        have e2 : b.isEmpty = false := by simpa using hb
        cases q : Op.bytesLess t b with
        | true =>
          rw [if_pos (.inr ⟨ht, rfl⟩), e1, e2]
          cases r : Op.bytesLess k t with
          | false => rfl
          | true => rw [M.less_trans _ _ _ r q]; rfl
        | false =>
          rw [if_neg (by simp [hb]), e1, e2]
          cases r : Op.bytesLess k b with
          | false => simp
          | true =>
            have : Op.bytesLess k t = true := by
              rcases M.not_less q with rfl | q
              · exact r
              · exact M.less_trans _ _ _ r q
            rw [this]; rfl
  unfold M.inK
  rw [h1, h2]
  cases (!Op.bytesLess k f) <;> cases (!Op.bytesLess k a) <;> cases (t.isEmpty || Op.bytesLess k t) <;> rfl
noncomputable def M.rangeT (f t : List UInt8) (R : List (List M.Cl)) (a b : List UInt8) : List M.Cl := M.newR (R.map (M.rangeL (M.winA f a) (M.winB t b)))
def M.getT (f t : List UInt8) (R : List (List M.Cl)) (k : List UInt8) : Option M.Cl := if M.inK f t k = true then M.bestR k R else none
theorem M.rangeT_pwk (f t : List UInt8) {R : List (List M.Cl)} (h : M.PW R) (a b : List UInt8) : M.PwK (M.rangeT f t R a b) := M.newR_pwk (M.pw_range h _ _)
theorem M.rangeT_find (f t : List UInt8) {R : List (List M.Cl)} (h : M.PW R) (a b k : List UInt8) : M.findL k (M.rangeT f t R a b) = if (M.inK f t k && M.inK a b k) = true then M.bestR k R else none := by
  rw [M.rangeT, M.newR_find (M.pw_range h _ _), M.bestR_range, M.win_in]
/-! The order of rows makes no difference to what is newest. -/
end Go.Proofs.YtnhljlmelbiljaaGreat
