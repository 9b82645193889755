/- Plain mathematics of layer 11: of each key the first. No Go here. -/
import Derived.Test.YthidmgnfdikppaaMergeP
namespace Go.Proofs.Ythidmgnfdikppaa
set_option linter.unusedVariables false
open Go Go.RowKit

abbrev M.Asc (L : List M.Cl) : Prop := L.Pairwise (fun x y => M.aheadC y x = false)
/-- What is kept behind c. -/
def M.nwF : M.Cl → List M.Cl → List M.Cl
  | _, [] => []
  | c, d :: t => if c.key = d.key then M.nwF c t else d :: M.nwF d t
theorem M.nw_fold : ∀ (t out : List M.Cl) (c : M.Cl), t.foldl M.nwAdd (out ++ [c]) = out ++ c :: M.nwF c t
  | [], out, c => by simp [M.nwF]
  | d :: t, out, c => by
    have e : M.nwAdd (out ++ [c]) d = if c.key = d.key then out ++ [c] else out ++ [c] ++ [d] := by simp [M.nwAdd]
    rw [List.foldl_cons, e, M.nwF]
    by_cases h : c.key = d.key
    · rw [if_pos h, if_pos h]; exact M.nw_fold t out c
    · rw [if_neg h, if_neg h, M.nw_fold t (out ++ [c]) d]; simp
theorem M.nw_cons (c : M.Cl) (t : List M.Cl) : M.nw (c :: t) = c :: M.nwF c t := by
  have := M.nw_fold t [] c
  simpa [M.nw, M.nwAdd] using this
theorem M.nwF_sub : ∀ (t : List M.Cl) (c x : M.Cl), x ∈ M.nwF c t → x ∈ t
  | [], c, x, h => by simp [M.nwF] at h
  | d :: t, c, x, h => by
    rw [M.nwF] at h
    by_cases e : c.key = d.key
    · rw [if_pos e] at h; exact List.mem_cons_of_mem _ (M.nwF_sub t c x h)
    · rw [if_neg e] at h
      rcases List.mem_cons.1 h with rfl | h
      · simp
      · exact List.mem_cons_of_mem _ (M.nwF_sub t d x h)
theorem M.asc_less {c d : M.Cl} (h : M.aheadC d c = false) (e : ¬ c.key = d.key) : Op.bytesLess c.key d.key = true := by
  rw [M.less_flip d.key c.key (fun q => e q.symm)]
  cases q : Op.bytesLess d.key c.key with
  | false => rfl
  | true => rw [M.ahead_iff.2 (.inl q)] at h; cases h
theorem M.nwF_less : ∀ (t : List M.Cl) (c : M.Cl), M.Asc (c :: t) → ∀ x, x ∈ M.nwF c t → Op.bytesLess c.key x.key = true
  | [], c, _, x, h => by simp [M.nwF] at h
  | d :: t, c, ha, x, h => by
    replace ha := List.pairwise_cons.1 ha
    have ha2 := List.pairwise_cons.1 ha.2
    rw [M.nwF] at h
    by_cases e : c.key = d.key
    · rw [if_pos e] at h
      exact M.nwF_less t c (List.pairwise_cons.2 ⟨fun y hy => ha.1 y (by simp [hy]), ha2.2⟩) x h
    · rw [if_neg e] at h
      have h1 := M.asc_less (ha.1 d (by simp)) e
      rcases List.mem_cons.1 h with rfl | h
      · exact h1
      · exact M.less_trans _ _ _ h1 (M.nwF_less t d ha.2 x h)
theorem M.nwF_pw : ∀ (t : List M.Cl) (c : M.Cl), M.Asc (c :: t) → (c :: M.nwF c t).Pairwise (fun x y => Op.bytesLess x.key y.key = true)
  | [], c, _ => by simp [M.nwF]
  | d :: t, c, ha => by
    refine List.pairwise_cons.2 ⟨M.nwF_less (d :: t) c ha, ?_⟩
    replace ha := List.pairwise_cons.1 ha
    have ha2 := List.pairwise_cons.1 ha.2
    rw [M.nwF]
    by_cases e : c.key = d.key
    · rw [if_pos e]
      have := M.nwF_pw t c (List.pairwise_cons.2 ⟨fun y hy => ha.1 y (by simp [hy]), ha2.2⟩)
      exact (List.pairwise_cons.1 this).2
    · rw [if_neg e]
      exact M.nwF_pw t d ha.2
theorem M.nwF_has : ∀ (t : List M.Cl) (c : M.Cl), M.Asc (c :: t) → ∀ x, x ∈ c :: t → ∃ m, m ∈ c :: M.nwF c t ∧ m.key = x.key ∧ x.seq ≤ m.seq
  | [], c, _, x, h => by
    rw [List.mem_singleton] at h; subst h
    exact ⟨x, by simp, rfl, Int.le_refl _⟩
  | d :: t, c, ha, x, h => by
    have hac := List.pairwise_cons.1 ha
    have ha2 := List.pairwise_cons.1 hac.2
    have hct : M.Asc (c :: t) := List.pairwise_cons.2 ⟨fun y hy => hac.1 y (by simp [hy]), ha2.2⟩
    rw [M.nwF]
    by_cases e : c.key = d.key
    · rw [if_pos e]
      rcases List.mem_cons.1 h with rfl | h
      · exact ⟨x, by simp, rfl, Int.le_refl _⟩
      · rcases List.mem_cons.1 h with rfl | h
        · refine ⟨c, by simp, e, ?_⟩
          have := hac.1 x (by simp)
          rcases Int.lt_or_le c.seq x.seq with q | q
          · rw [M.ahead_iff.2 (.inr ⟨e.symm, q⟩)] at this; cases this
          · exact q
        · exact M.nwF_has t c hct x (by simp [h])
    · rw [if_neg e]
      rcases List.mem_cons.1 h with rfl | h
      · exact ⟨x, by simp, rfl, Int.le_refl _⟩
      · obtain ⟨m, h1, h2⟩ := M.nwF_has t d hac.2 x h
        exact ⟨m, List.mem_cons_of_mem _ h1, h2⟩
theorem M.nw_pw {L : List M.Cl} (h : M.Asc L) : (M.nw L).Pairwise (fun x y => Op.bytesLess x.key y.key = true) := by
  cases L with
  | nil => exact List.Pairwise.nil
  | cons c t => rw [M.nw_cons]; exact M.nwF_pw t c h
theorem M.nw_has {L : List M.Cl} (h : M.Asc L) {x : M.Cl} (hx : x ∈ L) : ∃ m, m ∈ M.nw L ∧ m.key = x.key ∧ x.seq ≤ m.seq := by
  cases L with
  | nil => cases hx
  | cons c t => rw [M.nw_cons]; exact M.nwF_has t c h x hx
theorem M.nw_mem {L : List M.Cl} {x : M.Cl} (hx : x ∈ M.nw L) : x ∈ L := by
  cases L with
  | nil => exact hx
  | cons c t =>
    rw [M.nw_cons] at hx
    rcases List.mem_cons.1 hx with rfl | hx
    · simp
    · exact List.mem_cons_of_mem _ (M.nwF_sub t c x hx)
def M.cntK (k : List UInt8) (L : List M.Cl) : Nat := (L.filter (fun x => x.key == k)).length
theorem M.cntK_snoc (k : List UInt8) {L : List M.Cl} {j : Nat} (h : j < L.length) : M.cntK k (L.take (j + 1)) = M.cntK k (L.take j) + (if ((L.getD j M.cl0).key == k) = true then 1 else 0) := by
  rw [takeC_snoc h]
  generalize L.getD j M.cl0 = d
  simp only [M.cntK, List.filter_append, List.length_append]
  by_cases e : (d.key == k) = true
  · rw [if_pos e, List.filter_cons_of_pos (p := fun x : M.Cl => x.key == k) e]; rfl
  · rw [if_neg e, List.filter_cons_of_neg (p := fun x : M.Cl => x.key == k) e]; rfl
theorem M.cntK_le (k : List UInt8) (L : List M.Cl) : M.cntK k L ≤ L.length := List.length_filter_le _ _
/-- Keys that rise: each once. -/
theorem M.pw_once : ∀ {L : List M.Cl} {m : M.Cl}, L.Pairwise (fun x y => Op.bytesLess x.key y.key = true) → m ∈ L → M.cntK m.key L = 1 ∧ ∀ x, x ∈ L → x.key = m.key → x = m
  | [], _, _, h => by cases h
  | d :: L, m, hp, h => by
    rw [List.pairwise_cons] at hp
    have none : ∀ k, (∀ x, x ∈ L → x.key ≠ k) → M.cntK k L = 0 := fun k hk => by
      unfold M.cntK
      rw [List.filter_eq_nil_iff.2 (fun x hx => by simpa using hk x hx)]; rfl
    have irr : ∀ x, x ∈ L → x.key ≠ d.key := fun x hx e => by
      have := hp.1 x hx
      rw [e, M.less_irr] at this; cases this
    rcases List.mem_cons.1 h with rfl | h
    · refine ⟨?_, fun x hx e => ?_⟩
      · have := none m.key irr
        unfold M.cntK at *
        rw [List.filter_cons_of_pos (p := fun x : M.Cl => x.key == m.key) (by simp), List.length_cons, this]
      · rcases List.mem_cons.1 hx with q | q
        · exact q
        · exact absurd e (irr x q)
    · obtain ⟨h1, h2⟩ := M.pw_once hp.2 h
      have hd : ¬ d.key = m.key := fun e => irr m h e.symm
      refine ⟨?_, fun x hx e => ?_⟩
      · unfold M.cntK at *
        rw [List.filter_cons_of_neg (p := fun x : M.Cl => x.key == m.key) (by simpa using hd)]; exact h1
      · rcases List.mem_cons.1 hx with q | q
        · subst q; exact absurd e hd
        · exact h2 x q e
theorem M.nw_once {L : List M.Cl} (h : M.Asc L) {x : M.Cl} (hx : x ∈ L) : M.cntK x.key (M.nw L) = 1 ∧ ∀ m, m ∈ M.nw L → m.key = x.key → x.seq ≤ m.seq := by
  obtain ⟨m, h1, h2, h3⟩ := M.nw_has h hx
  obtain ⟨h4, h5⟩ := M.pw_once (M.nw_pw h) h1
  rw [h2] at h4
  exact ⟨h4, fun y hy e => by rw [h5 y hy (e.trans h2.symm)]; exact h3⟩
theorem M.srt_of : ∀ (L : List M.Cl) (p : Option M.Cl), (∀ c, c ∈ L → M.mayC c = true) → (∀ q, p = some q → ∀ c, c ∈ L → M.aheadC q c = true) → L.Pairwise (fun x y => M.aheadC x y = true) → M.srt p L = true
  | [], p, _, _, _ => rfl
  | c :: L, p, h1, h2, h3 => by
    rw [List.pairwise_cons] at h3
    have hn : M.nextB p c = true := by
      unfold M.nextB
      rw [h1 c (by simp)]
      cases p with
      | none => rfl
      | some q => simpa using h2 q rfl c (by simp)
    show (M.nextB p c && M.srt (some c) L) = true
    rw [hn, M.srt_of L (some c) (fun x hx => h1 x (by simp [hx])) (fun q hq x hx => by injection hq with hq; subst hq; exact h3.1 x hx) h3.2]
    rfl
theorem M.nw_srt {L : List M.Cl} (h : M.Asc L) (hm : ∀ c, c ∈ L → M.mayC c = true) : M.srt none (M.nw L) = true :=
  M.srt_of _ _ (fun c hc => hm c (M.nw_mem hc)) (fun q hq => by cases hq) ((M.nw_pw h).imp (fun h => M.ahead_iff.2 (.inl h)))
theorem M.cnt_pos {c : M.Cl} {L : List M.Cl} : 0 < M.cnt c L ↔ c ∈ L := by
  unfold M.cnt
  rw [List.length_pos_iff_exists_mem]
  constructor
  · rintro ⟨x, hx⟩
    rw [List.mem_filter] at hx
    have := M.eqC_iff.1 hx.2
    subst this; exact hx.1
  · intro h
    exact ⟨c, List.mem_filter.2 ⟨h, M.eqC_iff.2 rfl⟩⟩
theorem M.cntR_ge (c : M.Cl) : ∀ (R : List (List M.Cl)) (l : List M.Cl), l ∈ R → M.cnt c l ≤ M.cntR c R
  | [], _, h => by cases h
  | x :: R, l, h => by
    simp only [M.cntR, List.map_cons, List.sum_cons]
    rcases List.mem_cons.1 h with rfl | h
    · omega
    · have := M.cntR_ge c R l h
      unfold M.cntR at this
      omega
theorem M.Mrg.mem_of {R : List (List M.Cl)} {L : List M.Cl} (h : M.Mrg R L) {l : List M.Cl} {x : M.Cl} (hl : l ∈ R) (hx : x ∈ l) : x ∈ L := by
  rw [← M.cnt_pos, h.cnt]
  exact Nat.lt_of_lt_of_le (M.cnt_pos.2 hx) (M.cntR_ge x R l hl)
theorem M.mayR_may {Rs : List M.Rw} (h : M.mayR Rs = true) : ∀ c, c ∈ M.mrg (M.rls Rs) → M.mayC c = true := fun c hc => by
  obtain ⟨b, l, h1, h2⟩ := (M.mrg_is (M.rls Rs)).mem c hc
  unfold M.rls at h1
  rw [List.getElem?_map] at h1
  cases hq : Rs[b]? with
  | none => rw [hq] at h1; cases h1
  | some r =>
    rw [hq] at h1
    injection h1 with h1
    subst h1
    unfold M.mayR at h
    rw [List.all_eq_true] at h
    exact M.srt_may (h r (List.mem_of_getElem? hq)) c h2

end Go.Proofs.Ythidmgnfdikppaa
