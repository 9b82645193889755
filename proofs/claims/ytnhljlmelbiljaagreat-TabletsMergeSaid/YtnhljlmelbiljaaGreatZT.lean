/- Texts of lower layers, as one. -/
import Derived.Test.YtnhljlmelbiljaaGreatZS
/- Plain mathematics of layer 11: what comes is what the rows have, in order. No Go here. -/
namespace Go.Proofs.YtnhljlmelbiljaaGreat
set_option linter.unusedVariables false
open Go Go.RowKit

def M.cntR (c : M.Cl) (R : List (List M.Cl)) : Nat := (R.map (M.cnt c)).sum
theorem M.cnt_cons (c d : M.Cl) (L : List M.Cl) : M.cnt c (d :: L) = (if M.eqC d c = true then 1 else 0) + M.cnt c L := by
  unfold M.cnt
  by_cases e : M.eqC d c = true
  · rw [if_pos e, List.filter_cons_of_pos (p := fun x => M.eqC x c) e, List.length_cons]; omega
  · rw [if_neg e, List.filter_cons_of_neg (p := fun x => M.eqC x c) e]; omega
theorem M.cntR_set (c : M.Cl) : ∀ (R : List (List M.Cl)) (b : Nat) (d : M.Cl) (t : List M.Cl), R[b]? = some (d :: t) → M.cntR c R = (if M.eqC d c = true then 1 else 0) + M.cntR c (R.set b t)
  | [], b, d, t, h => by simp at h
  | x :: R, 0, d, t, h => by
    simp at h; subst h
    simp only [M.cntR, List.map_cons, List.sum_cons, List.set_cons_zero, M.cnt_cons]
    omega
  | x :: R, b + 1, d, t, h => by
    have := M.cntR_set c R b d t (by simpa using h)
    simp only [M.cntR, List.map_cons, List.sum_cons, List.set_cons_succ] at *
    omega
theorem M.cntR_nil (c : M.Cl) : ∀ (R : List (List M.Cl)), (∀ (i : Nat) (d : M.Cl) (s : List M.Cl), R[i]? ≠ some (d :: s)) → M.cntR c R = 0
  | [], _ => rfl
  | x :: R, h => by
    have hx : x = [] := by
      cases x with
      | nil => rfl
      | cons d s => exact absurd (by simp) (h 0 d s)
    have := M.cntR_nil c R (fun i d s hi => h (i + 1) d s (by simpa using hi))
    simp only [M.cntR, List.map_cons, List.sum_cons] at *
    rw [this, hx]; rfl
theorem M.Mrg.cnt {R : List (List M.Cl)} {L : List M.Cl} (h : M.Mrg R L) (c : M.Cl) : M.cnt c L = M.cntR c R := by
  induction h with
  | done h => rw [M.cntR_nil c _ h]; rfl
  | step h _ ih => rw [M.cnt_cons, M.cntR_set c _ _ _ _ h.here, ih]
theorem M.Mrg.mem {R : List (List M.Cl)} {L : List M.Cl} (h : M.Mrg R L) : ∀ x, x ∈ L → ∃ (b : Nat) (l : List M.Cl), R[b]? = some l ∧ x ∈ l := by
  induction h with
  | done _ => simp
  | @step R b c t L h k ih =>
    intro x hx
    rcases List.mem_cons.1 hx with rfl | hx
    · exact ⟨b, _, h.here, by simp⟩
    · obtain ⟨b', l, h1, h2⟩ := ih x hx
      by_cases e : b = b'
      · subst e
        have hb : b < R.length := (List.getElem?_eq_some_iff.1 h.here).1
        rw [List.getElem?_set_self hb] at h1
        injection h1 with h1
        subst h1
        exact ⟨b, _, h.here, by simp [h2]⟩
      · rw [List.getElem?_set_ne e] at h1
        exact ⟨b', l, h1, h2⟩
/-- All rows are in order. -/
def M.PW (R : List (List M.Cl)) : Prop := ∀ (b : Nat) (l : List M.Cl), R[b]? = some l → l.Pairwise (fun x y => M.aheadC x y = true)
theorem M.srt_pw {L : List M.Cl} (h : M.srt none L = true) : L.Pairwise (fun x y => M.aheadC x y = true) := by
  rw [List.pairwise_iff_getElem]
  intro i j hi hj hij
  have := M.srt_pair h i j hij hj
  simpa [List.getD, hi, hj] using this
theorem M.Mrg.asc {R : List (List M.Cl)} {L : List M.Cl} (h : M.Mrg R L) (hp : M.PW R) : L.Pairwise (fun x y => M.aheadC y x = false) := by
  induction h with
  | done _ => exact List.Pairwise.nil
  | @step R b c t L h k ih =>
    have hb : b < R.length := (List.getElem?_eq_some_iff.1 h.here).1
    have hct := hp b _ h.here
    rw [List.pairwise_cons] at hct
    refine List.pairwise_cons.2 ⟨fun x hx => ?_, ih (fun b' l hl => ?_)⟩
    · obtain ⟨b', l, h1, h2⟩ := k.mem x hx
      by_cases e : b = b'
      · subst e
        rw [List.getElem?_set_self hb] at h1
        injection h1 with h1
        subst h1
        exact M.ahead_asymm (hct.1 x h2)
      · rw [List.getElem?_set_ne e] at h1
        cases l with
        | nil => cases h2
        | cons d s =>
          have hd := h.all b' d s h1
          rcases List.mem_cons.1 h2 with rfl | h2
          · exact hd
          · have := hp b' _ h1
            rw [List.pairwise_cons] at this
            cases q : M.aheadC x c with
            | false => rfl
            | true => rw [M.ahead_trans (this.1 x h2) q] at hd; cases hd
    · by_cases e : b = b'
      · subst e
        rw [List.getElem?_set_self hb] at hl
        injection hl with hl
        subst hl
        exact hct.2
      · rw [List.getElem?_set_ne e] at hl
        exact hp b' l hl
end Go.Proofs.YtnhljlmelbiljaaGreat

/- Plain mathematics of layer 11: of each key the first. No Go here. -/
namespace Go.Proofs.YtnhljlmelbiljaaGreat
set_option linter.unusedVariables false
open Go Go.RowKit

abbrev M.Asc (L : List M.Cl) : Prop := L.Pairwise (fun x y => M.aheadC y x = false)
/-- What is kept behind c. -/
def M.nwF : M.Cl → List M.Cl → List M.Cl
  | _, [] => []
  | c, d :: t => if c.key = d.key then M.nwF c t else d :: M.nwF d t
theorem M.nw_fold : ∀ (t out : List M.Cl) (c : M.Cl), t.foldl M.nwAdd (out ++ [c]) = out ++ c :: M.nwF c t
  | [], out, c => by simp [M.nwF]
  | d :: t, out, c => by
    have e : M.nwAdd (out ++ [c]) d = if c.key = d.key then out ++ [c] else out ++ [c] ++ [d] := by simp [M.nwAdd]
    rw [List.foldl_cons, e, M.nwF]
    by_cases h : c.key = d.key
    · rw [if_pos h, if_pos h]; exact M.nw_fold t out c
    · rw [if_neg h, if_neg h, M.nw_fold t (out ++ [c]) d]; simp
theorem M.nw_cons (c : M.Cl) (t : List M.Cl) : M.nw (c :: t) = c :: M.nwF c t := by
  have := M.nw_fold t [] c
  simpa [M.nw, M.nwAdd] using this
theorem M.nwF_sub : ∀ (t : List M.Cl) (c x : M.Cl), x ∈ M.nwF c t → x ∈ t
  | [], c, x, h => by simp [M.nwF] at h
  | d :: t, c, x, h => by
    rw [M.nwF] at h
    by_cases e : c.key = d.key
    · rw [if_pos e] at h; exact List.mem_cons_of_mem _ (M.nwF_sub t c x h)
    · rw [if_neg e] at h
      rcases List.mem_cons.1 h with rfl | h
      · simp
      · exact List.mem_cons_of_mem _ (M.nwF_sub t d x h)
theorem M.asc_less {c d : M.Cl} (h : M.aheadC d c = false) (e : ¬ c.key = d.key) : Op.bytesLess c.key d.key = true := by
  rw [M.less_flip d.key c.key (fun q => e q.symm)]
  cases q : Op.bytesLess d.key c.key with
  | false => rfl
  | true => rw [M.ahead_iff.2 (.inl q)] at h; cases h
theorem M.nwF_less : ∀ (t : List M.Cl) (c : M.Cl), M.Asc (c :: t) → ∀ x, x ∈ M.nwF c t → Op.bytesLess c.key x.key = true
  | [], c, _, x, h => by simp [M.nwF] at h
  | d :: t, c, ha, x, h => by
    replace ha := List.pairwise_cons.1 ha
    have ha2 := List.pairwise_cons.1 ha.2
    rw [M.nwF] at h
    by_cases e : c.key = d.key
    · rw [if_pos e] at h
      exact M.nwF_less t c (List.pairwise_cons.2 ⟨fun y hy => ha.1 y (by simp [hy]), ha2.2⟩) x h
    · rw [if_neg e] at h
      have h1 := M.asc_less (ha.1 d (by simp)) e
      rcases List.mem_cons.1 h with rfl | h
      · exact h1
      · exact M.less_trans _ _ _ h1 (M.nwF_less t d ha.2 x h)
theorem M.nwF_pw : ∀ (t : List M.Cl) (c : M.Cl), M.Asc (c :: t) → (c :: M.nwF c t).Pairwise (fun x y => Op.bytesLess x.key y.key = true)
  | [], c, _ => by simp [M.nwF]
  | d :: t, c, ha => by
    refine List.pairwise_cons.2 ⟨M.nwF_less (d :: t) c ha, ?_⟩
    replace ha := List.pairwise_cons.1 ha
    have ha2 := List.pairwise_cons.1 ha.2
    rw [M.nwF]
    by_cases e : c.key = d.key
    · rw [if_pos e]
      have := M.nwF_pw t c (List.pairwise_cons.2 ⟨fun y hy => ha.1 y (by simp [hy]), ha2.2⟩)
      exact (List.pairwise_cons.1 this).2
    · rw [if_neg e]
      exact M.nwF_pw t d ha.2
theorem M.nwF_has : ∀ (t : List M.Cl) (c : M.Cl), M.Asc (c :: t) → ∀ x, x ∈ c :: t → ∃ m, m ∈ c :: M.nwF c t ∧ m.key = x.key ∧ x.seq ≤ m.seq
  | [], c, _, x, h => by
    rw [List.mem_singleton] at h; subst h
    exact ⟨x, by simp, rfl, Int.le_refl _⟩
  | d :: t, c, ha, x, h => by
    have hac := List.pairwise_cons.1 ha
    have ha2 := List.pairwise_cons.1 hac.2
    have hct : M.Asc (c :: t) := List.pairwise_cons.2 ⟨fun y hy => hac.1 y (by simp [hy]), ha2.2⟩
    rw [M.nwF]
    by_cases e : c.key = d.key
    · rw [if_pos e]
      rcases List.mem_cons.1 h with rfl | h
      · exact ⟨x, by simp, rfl, Int.le_refl _⟩
      · rcases List.mem_cons.1 h with rfl | h
        · refine ⟨c, by simp, e, ?_⟩
          have := hac.1 x (by simp)
          rcases Int.lt_or_le c.seq x.seq with q | q
          · rw [M.ahead_iff.2 (.inr ⟨e.symm, q⟩)] at this; cases this
          · exact q
        · exact M.nwF_has t c hct x (by simp [h])
    · rw [if_neg e]
      rcases List.mem_cons.1 h with rfl | h
      · exact ⟨x, by simp, rfl, Int.le_refl _⟩
      · obtain ⟨m, h1, h2⟩ := M.nwF_has t d hac.2 x h
        exact ⟨m, List.mem_cons_of_mem _ h1, h2⟩
theorem M.nw_pw {L : List M.Cl} (h : M.Asc L) : (M.nw L).Pairwise (fun x y => Op.bytesLess x.key y.key = true) := by
  cases L with
  | nil => exact List.Pairwise.nil
  | cons c t => rw [M.nw_cons]; exact M.nwF_pw t c h
theorem M.nw_has {L : List M.Cl} (h : M.Asc L) {x : M.Cl} (hx : x ∈ L) : ∃ m, m ∈ M.nw L ∧ m.key = x.key ∧ x.seq ≤ m.seq := by
  cases L with
  | nil => cases hx
  | cons c t => rw [M.nw_cons]; exact M.nwF_has t c h x hx
theorem M.nw_mem {L : List M.Cl} {x : M.Cl} (hx : x ∈ M.nw L) : x ∈ L := by
  cases L with
  | nil => exact hx
  | cons c t =>
    rw [M.nw_cons] at hx
    rcases List.mem_cons.1 hx with rfl | hx
    · simp
    · exact List.mem_cons_of_mem _ (M.nwF_sub t c x hx)
def M.cntK (k : List UInt8) (L : List M.Cl) : Nat := (L.filter (fun x => x.key == k)).length
/-- Keys that rise: each once. -/
theorem M.pw_once : ∀ {L : List M.Cl} {m : M.Cl}, L.Pairwise (fun x y => Op.bytesLess x.key y.key = true) → m ∈ L → M.cntK m.key L = 1 ∧ ∀ x, x ∈ L → x.key = m.key → x = m
  | [], _, _, h => by cases h
  | d :: L, m, hp, h => by
    rw [List.pairwise_cons] at hp
    have none : ∀ k, (∀ x, x ∈ L → x.key ≠ k) → M.cntK k L = 0 := fun k hk => by
      unfold M.cntK
      rw [List.filter_eq_nil_iff.2 (fun x hx => by simpa using hk x hx)]; rfl
    have irr : ∀ x, x ∈ L → x.key ≠ d.key := fun x hx e => by
      have := hp.1 x hx
      rw [e, M.less_irr] at this; cases this
    rcases List.mem_cons.1 h with rfl | h
    · refine ⟨?_, fun x hx e => ?_⟩
      · have := none m.key irr
        unfold M.cntK at *
        rw [List.filter_cons_of_pos (p := fun x : M.Cl => x.key == m.key) (by simp), List.length_cons, this]
      · rcases List.mem_cons.1 hx with q | q
        · exact q
        · exact absurd e (irr x q)
    · obtain ⟨h1, h2⟩ := M.pw_once hp.2 h
      have hd : ¬ d.key = m.key := fun e => irr m h e.symm
      refine ⟨?_, fun x hx e => ?_⟩
      · unfold M.cntK at *
        rw [List.filter_cons_of_neg (p := fun x : M.Cl => x.key == m.key) (by simpa using hd)]; exact h1
      · rcases List.mem_cons.1 hx with q | q
        · subst q; exact absurd e hd
        · exact h2 x q e
theorem M.nw_once {L : List M.Cl} (h : M.Asc L) {x : M.Cl} (hx : x ∈ L) : M.cntK x.key (M.nw L) = 1 ∧ ∀ m, m ∈ M.nw L → m.key = x.key → x.seq ≤ m.seq := by
  obtain ⟨m, h1, h2, h3⟩ := M.nw_has h hx
  obtain ⟨h4, h5⟩ := M.pw_once (M.nw_pw h) h1
  rw [h2] at h4
  exact ⟨h4, fun y hy e => by rw [h5 y hy (e.trans h2.symm)]; exact h3⟩
theorem M.srt_of : ∀ (L : List M.Cl) (p : Option M.Cl), (∀ c, c ∈ L → M.mayC c = true) → (∀ q, p = some q → ∀ c, c ∈ L → M.aheadC q c = true) → L.Pairwise (fun x y => M.aheadC x y = true) → M.srt p L = true
  | [], p, _, _, _ => rfl
  | c :: L, p, h1, h2, h3 => by
    rw [List.pairwise_cons] at h3
    have hn : M.nextB p c = true := by
      unfold M.nextB
      rw [h1 c (by simp)]
      cases p with
      | none => rfl
      | some q => simpa using h2 q rfl c (by simp)
    show (M.nextB p c && M.srt (some c) L) = true
    rw [hn, M.srt_of L (some c) (fun x hx => h1 x (by simp [hx])) (fun q hq x hx => by injection hq with hq; subst hq; exact h3.1 x hx) h3.2]
    rfl
theorem M.cnt_pos {c : M.Cl} {L : List M.Cl} : 0 < M.cnt c L ↔ c ∈ L := by
  unfold M.cnt
  rw [List.length_pos_iff_exists_mem]
  constructor
  · rintro ⟨x, hx⟩
    rw [List.mem_filter] at hx
    have := M.eqC_iff.1 hx.2
    subst this; exact hx.1
  · intro h
    exact ⟨c, List.mem_filter.2 ⟨h, M.eqC_iff.2 rfl⟩⟩
theorem M.cntR_ge (c : M.Cl) : ∀ (R : List (List M.Cl)) (l : List M.Cl), l ∈ R → M.cnt c l ≤ M.cntR c R
  | [], _, h => by cases h
  | x :: R, l, h => by
    simp only [M.cntR, List.map_cons, List.sum_cons]
    rcases List.mem_cons.1 h with rfl | h
    · omega
    · have := M.cntR_ge c R l h
      unfold M.cntR at this
      omega
theorem M.Mrg.mem_of {R : List (List M.Cl)} {L : List M.Cl} (h : M.Mrg R L) {l : List M.Cl} {x : M.Cl} (hl : l ∈ R) (hx : x ∈ l) : x ∈ L := by
  rw [← M.cnt_pos, h.cnt]
  exact Nat.lt_of_lt_of_le (M.cnt_pos.2 hx) (M.cntR_ge x R l hl)
end Go.Proofs.YtnhljlmelbiljaaGreat

/- Plain mathematics of layer 11: rows merged part by part; rows in another order. No Go here. -/
namespace Go.Proofs.YtnhljlmelbiljaaGreat
set_option linter.unusedVariables false
open Go Go.RowKit

abbrev M.Strict (L : List M.Cl) : Prop := L.Pairwise (fun x y => M.aheadC x y = true)
theorem M.strict_eq : ∀ {L1 L2 : List M.Cl}, M.Strict L1 → M.Asc L2 → (∀ c, M.cnt c L1 = M.cnt c L2) → L1 = L2
  | [], [], _, _, _ => rfl
  | [], y :: t, _, _, h => by
    have := h y
    have h2 : 0 < M.cnt y (y :: t) := M.cnt_pos.2 (by simp)
    rw [← this] at h2
    exact absurd h2 (by simp [M.cnt])
  | x :: t, [], _, _, h => by
    have := h x
    have h2 : 0 < M.cnt x (x :: t) := M.cnt_pos.2 (by simp)
    rw [this] at h2
    exact absurd h2 (by simp [M.cnt])
  | x :: t1, y :: t2, h1, h2, h => by
    have a1 := List.pairwise_cons.1 h1
    have a2 := List.pairwise_cons.1 h2
    have e : x = y := by
      have hy : y ∈ x :: t1 := M.cnt_pos.1 (by rw [h y]; exact M.cnt_pos.2 (by simp))
      have hx : x ∈ y :: t2 := M.cnt_pos.1 (by rw [← h x]; exact M.cnt_pos.2 (by simp))
      rcases List.mem_cons.1 hy with q | q
      · exact q.symm
      · rcases List.mem_cons.1 hx with p | p
        · exact p
        · have := a1.1 y q
          rw [a2.1 x p] at this; cases this
    subst e
    rw [M.strict_eq a1.2 a2.2 (fun c => by
      have := h c
      rw [M.cnt_cons, M.cnt_cons] at this
      omega)]
theorem M.strict_once : ∀ {L : List M.Cl} (x : M.Cl), M.Strict L → M.cnt x L ≤ 1
  | [], x, _ => by simp [M.cnt]
  | d :: t, x, h => by
    have a := List.pairwise_cons.1 h
    have ih := M.strict_once x a.2
    rw [M.cnt_cons]
    by_cases e : M.eqC d x = true
    · rw [if_pos e]
      have e := M.eqC_iff.1 e
      subst e
      have : ¬ 0 < M.cnt d t := fun q => by
        have := a.1 d (M.cnt_pos.1 q)
        rw [M.ahead_irr] at this; cases this
      omega
    · rw [if_neg e]; omega
theorem M.strict_same : ∀ {L : List M.Cl} {x y : M.Cl}, M.Strict L → x ∈ L → y ∈ L → M.aheadC x y = false → M.aheadC y x = false → x = y
  | [], x, y, _, hx, _, _, _ => by cases hx
  | d :: t, x, y, h, hx, hy, h1, h2 => by
    have a := List.pairwise_cons.1 h
    rcases List.mem_cons.1 hx with ex | hx'
    · rcases List.mem_cons.1 hy with ey | hy'
      · rw [ex, ey]
      · rw [ex, a.1 y hy'] at h1; cases h1
    · rcases List.mem_cons.1 hy with ey | hy'
      · rw [ey, a.1 x hx'] at h2; cases h2
      · exact M.strict_same a.2 hx' hy' h1 h2
/-- In order, and of each cell no more than a strict list has: strict. -/
theorem M.strict_sub : ∀ {L A : List M.Cl}, M.Strict L → M.Asc A → (∀ c, M.cnt c A ≤ M.cnt c L) → M.Strict A
  | L, [], _, _, _ => List.Pairwise.nil
  | L, x :: t, hL, ha, hc => by
    have a := List.pairwise_cons.1 ha
    have hsub : ∀ y, y ∈ x :: t → y ∈ L := fun y hy => M.cnt_pos.1 (Nat.lt_of_lt_of_le (M.cnt_pos.2 hy) (hc y))
    refine List.pairwise_cons.2 ⟨fun y hy => ?_, M.strict_sub hL a.2 (fun c => by
      have := hc c
      rw [M.cnt_cons] at this
      omega)⟩
    cases q : M.aheadC x y with
    | true => rfl
    | false =>
      have e := M.strict_same hL (hsub x (by simp)) (hsub y (by simp [hy])) q (a.1 y hy)
      subst e
      have h1 := hc x
      have h2 := M.strict_once x hL
      rw [M.cnt_cons, if_pos (M.eqC_iff.2 rfl)] at h1
      have h3 : 0 < M.cnt x t := M.cnt_pos.2 hy
      omega
theorem M.mem_mrg {R : List (List M.Cl)} {x : M.Cl} : x ∈ M.mrg R ↔ ∃ l, l ∈ R ∧ x ∈ l := by
  constructor
  · intro h
    obtain ⟨b, l, h1, h2⟩ := (M.mrg_is R).mem x h
    exact ⟨l, List.mem_of_getElem? h1, h2⟩
  · rintro ⟨l, h1, h2⟩
    exact (M.mrg_is R).mem_of h1 h2
theorem M.cntR_append (c : M.Cl) (R1 R2 : List (List M.Cl)) : M.cntR c (R1 ++ R2) = M.cntR c R1 + M.cntR c R2 := by simp [M.cntR]
theorem M.pw_two {a b : List M.Cl} (h1 : M.Strict a) (h2 : M.Strict b) : M.PW [a, b] := fun i l hl => by
  match i, hl with
  | 0, hl => simp at hl; subst hl; exact h1
  | 1, hl => simp at hl; subst hl; exact h2
  | i + 2, hl => simp at hl
theorem M.pw_left {R1 R2 : List (List M.Cl)} (h : M.PW (R1 ++ R2)) : M.PW R1 := fun b l hl => h b l (by rw [List.getElem?_append_left (List.getElem?_eq_some_iff.1 hl).1]; exact hl)
theorem M.pw_right {R1 R2 : List (List M.Cl)} (h : M.PW (R1 ++ R2)) : M.PW R2 := fun b l hl => h (R1.length + b) l (by rw [List.getElem?_append_right (by omega)]; simpa using hl)
structure M.Pts (R1 R2 : List (List M.Cl)) : Prop where
  pw : M.PW (R1 ++ R2)
  st : M.Strict (M.mrg (R1 ++ R2))
theorem M.Pts.left {R1 R2 : List (List M.Cl)} (h : M.Pts R1 R2) : M.Strict (M.mrg R1) :=
  M.strict_sub h.st ((M.mrg_is R1).asc (M.pw_left h.pw)) (fun c => by rw [(M.mrg_is R1).cnt, (M.mrg_is (R1 ++ R2)).cnt, M.cntR_append]; omega)
theorem M.Pts.right {R1 R2 : List (List M.Cl)} (h : M.Pts R1 R2) : M.Strict (M.mrg R2) :=
  M.strict_sub h.st ((M.mrg_is R2).asc (M.pw_right h.pw)) (fun c => by rw [(M.mrg_is R2).cnt, (M.mrg_is (R1 ++ R2)).cnt, M.cntR_append]; omega)
theorem M.Pts.all {R1 R2 : List (List M.Cl)} (h : M.Pts R1 R2) : M.mrg [M.mrg R1, M.mrg R2] = M.mrg (R1 ++ R2) := by
  refine (M.strict_eq h.st ((M.mrg_is _).asc (M.pw_two h.left h.right)) (fun c => ?_)).symm
  rw [(M.mrg_is (R1 ++ R2)).cnt, (M.mrg_is [M.mrg R1, M.mrg R2]).cnt, M.cntR_append]
  simp [M.cntR, (M.mrg_is R1).cnt, (M.mrg_is R2).cnt]
theorem M.Pts.mem {R1 R2 : List (List M.Cl)} {x : M.Cl} : x ∈ M.mrg (R1 ++ R2) ↔ x ∈ M.mrg R1 ∨ x ∈ M.mrg R2 := by
  simp only [M.mem_mrg, List.mem_append]
  constructor
  · rintro ⟨l, h | h, hx⟩
    · exact .inl ⟨l, h, hx⟩
    · exact .inr ⟨l, h, hx⟩
  · rintro (⟨l, h, hx⟩ | ⟨l, h, hx⟩)
    · exact ⟨l, .inl h, hx⟩
    · exact ⟨l, .inr h, hx⟩
theorem M.less_strict {L : List M.Cl} (h : L.Pairwise (fun x y => Op.bytesLess x.key y.key = true)) : M.Strict L := h.imp (fun h => M.ahead_iff.2 (.inl h))
theorem M.strict_mem {L1 L2 : List M.Cl} (h1 : M.Strict L1) (h2 : M.Strict L2) (h : ∀ x, x ∈ L1 ↔ x ∈ L2) : L1 = L2 := by
  refine M.strict_eq h1 (h2.imp (fun h => M.ahead_asymm h)) (fun c => ?_)
  have a := M.strict_once c h1
  have b := M.strict_once c h2
  have e : 0 < M.cnt c L1 ↔ 0 < M.cnt c L2 := by rw [M.cnt_pos, M.cnt_pos]; exact h c
  omega
theorem M.Pts.new {R1 R2 : List (List M.Cl)} (h : M.Pts R1 R2) : M.nw (M.mrg [M.nw (M.mrg R1), M.nw (M.mrg R2)]) = M.nw (M.mrg (R1 ++ R2)) := by
  have hA := h.left.imp (fun {a b} (h : M.aheadC a b = true) => M.ahead_asymm h)
  have hB := h.right.imp (fun {a b} (h : M.aheadC a b = true) => M.ahead_asymm h)
  have hL := h.st.imp (fun {a b} (h : M.aheadC a b = true) => M.ahead_asymm h)
  have hM : M.Asc (M.mrg [M.nw (M.mrg R1), M.nw (M.mrg R2)]) := (M.mrg_is _).asc (M.pw_two (M.less_strict (M.nw_pw hA)) (M.less_strict (M.nw_pw hB)))
  have sub : ∀ x, x ∈ M.mrg [M.nw (M.mrg R1), M.nw (M.mrg R2)] → x ∈ M.mrg (R1 ++ R2) := fun x hx => by
    rw [M.mem_mrg] at hx
    obtain ⟨l, hl, hx⟩ := hx
    simp only [List.mem_cons, List.not_mem_nil, or_false] at hl
    rcases hl with rfl | rfl
    · exact M.Pts.mem.2 (.inl (M.nw_mem hx))
    · exact M.Pts.mem.2 (.inr (M.nw_mem hx))
  have same : ∀ x y : M.Cl, x ∈ M.mrg (R1 ++ R2) → y ∈ M.mrg (R1 ++ R2) → x.key = y.key → x.seq = y.seq → x = y := fun x y hx hy hk hs =>
    M.strict_same h.st hx hy
      (by cases q : M.aheadC x y with
          | false => rfl
          | true => rw [M.ahead_iff] at q; rcases q with q | ⟨_, q⟩
                    · rw [hk, M.less_irr] at q; cases q
                    · omega)
      (by cases q : M.aheadC y x with
          | false => rfl
          | true => rw [M.ahead_iff] at q; rcases q with q | ⟨_, q⟩
                    · rw [hk, M.less_irr] at q; cases q
                    · omega)
  have fwd : ∀ x, x ∈ M.nw (M.mrg (R1 ++ R2)) → x ∈ M.nw (M.mrg [M.nw (M.mrg R1), M.nw (M.mrg R2)]) := fun x hx => by
    have hxL := M.nw_mem hx
    have top : ∀ m, m ∈ M.mrg (R1 ++ R2) → m.key = x.key → x.seq ≤ m.seq → m = x := fun m hm hk hs => by
      have := (M.nw_once hL hm).2 x hx hk.symm
      exact same m x hm hxL hk (by omega)
    have hxM : x ∈ M.mrg [M.nw (M.mrg R1), M.nw (M.mrg R2)] := by
      rcases M.Pts.mem.1 hxL with q | q
      · obtain ⟨m, h1, h2, h3⟩ := M.nw_has hA q
        have e := top m (M.Pts.mem.2 (.inl (M.nw_mem h1))) h2 h3
        subst e
        exact M.mem_mrg.2 ⟨_, by simp, h1⟩
      · obtain ⟨m, h1, h2, h3⟩ := M.nw_has hB q
        have e := top m (M.Pts.mem.2 (.inr (M.nw_mem h1))) h2 h3
        subst e
        exact M.mem_mrg.2 ⟨_, by simp, h1⟩
    obtain ⟨m, h1, h2, h3⟩ := M.nw_has hM hxM
    have e := top m (sub m (M.nw_mem h1)) h2 h3
    subst e
    exact h1
  refine M.strict_mem (M.less_strict (M.nw_pw hM)) (M.less_strict (M.nw_pw hL)) (fun y => ⟨fun hy => ?_, fwd y⟩)
  obtain ⟨x, h1, h2, h3⟩ := M.nw_has hL (sub y (M.nw_mem hy))
  have := (M.pw_once (M.nw_pw hM) hy).2 x (fwd x h1) h2
  rw [← this]
  exact h1

end Go.Proofs.YtnhljlmelbiljaaGreat
