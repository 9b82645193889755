/- Plain mathematics of layer 11: rows merged part by part; rows in another order. No Go here. -/
import Derived.Test.YthidmgnfdikppaaMergeQ
namespace Go.Proofs.Ythidmgnfdikppaa
set_option linter.unusedVariables false
open Go Go.RowKit

abbrev M.Strict (L : List M.Cl) : Prop := L.Pairwise (fun x y => M.aheadC x y = true)
theorem M.strict_eq : ∀ {L1 L2 : List M.Cl}, M.Strict L1 → M.Asc L2 → (∀ c, M.cnt c L1 = M.cnt c L2) → L1 = L2
  | [], [], _, _, _ => rfl
  | [], y :: t, _, _, h => by
    have := h y
    have h2 : 0 < M.cnt y (y :: t) := M.cnt_pos.2 (by simp)
    rw [← this] at h2
    exact absurd h2 (by simp [M.cnt])
  | x :: t, [], _, _, h => by
    have := h x
    have h2 : 0 < M.cnt x (x :: t) := M.cnt_pos.2 (by simp)
    rw [this] at h2
    exact absurd h2 (by simp [M.cnt])
  | x :: t1, y :: t2, h1, h2, h => by
    have a1 := List.pairwise_cons.1 h1
    have a2 := List.pairwise_cons.1 h2
    have e : x = y := by
      have hy : y ∈ x :: t1 := M.cnt_pos.1 (by rw [h y]; exact M.cnt_pos.2 (by simp))
      have hx : x ∈ y :: t2 := M.cnt_pos.1 (by rw [← h x]; exact M.cnt_pos.2 (by simp))
      rcases List.mem_cons.1 hy with q | q
      · exact q.symm
      · rcases List.mem_cons.1 hx with p | p
        · exact p
        · have := a1.1 y q
          rw [a2.1 x p] at this; cases this
    subst e
    rw [M.strict_eq a1.2 a2.2 (fun c => by
      have := h c
      rw [M.cnt_cons, M.cnt_cons] at this
      omega)]
theorem M.strict_once : ∀ {L : List M.Cl} (x : M.Cl), M.Strict L → M.cnt x L ≤ 1
  | [], x, _ => by simp [M.cnt]
  | d :: t, x, h => by
    have a := List.pairwise_cons.1 h
    have ih := M.strict_once x a.2
    rw [M.cnt_cons]
    by_cases e : M.eqC d x = true
    · rw [if_pos e]
      have e := M.eqC_iff.1 e
      subst e
      have : ¬ 0 < M.cnt d t := fun q => by
        have := a.1 d (M.cnt_pos.1 q)
        rw [M.ahead_irr] at this; cases this
      omega
    · rw [if_neg e]; omega
theorem M.strict_same : ∀ {L : List M.Cl} {x y : M.Cl}, M.Strict L → x ∈ L → y ∈ L → M.aheadC x y = false → M.aheadC y x = false → x = y
  | [], x, y, _, hx, _, _, _ => by cases hx
  | d :: t, x, y, h, hx, hy, h1, h2 => by
    have a := List.pairwise_cons.1 h
    rcases List.mem_cons.1 hx with ex | hx'
    · rcases List.mem_cons.1 hy with ey | hy'
      · rw [ex, ey]
      · rw [ex, a.1 y hy'] at h1; cases h1
    · rcases List.mem_cons.1 hy with ey | hy'
      · rw [ey, a.1 x hx'] at h2; cases h2
      · exact M.strict_same a.2 hx' hy' h1 h2
/-- In order, and of each cell no more than a strict list has: strict. -/
theorem M.strict_sub : ∀ {L A : List M.Cl}, M.Strict L → M.Asc A → (∀ c, M.cnt c A ≤ M.cnt c L) → M.Strict A
  | L, [], _, _, _ => List.Pairwise.nil
  | L, x :: t, hL, ha, hc => by
    have a := List.pairwise_cons.1 ha
    have hsub : ∀ y, y ∈ x :: t → y ∈ L := fun y hy => M.cnt_pos.1 (Nat.lt_of_lt_of_le (M.cnt_pos.2 hy) (hc y))
    refine List.pairwise_cons.2 ⟨fun y hy => ?_, M.strict_sub hL a.2 (fun c => by
      have := hc c
      rw [M.cnt_cons] at this
      omega)⟩
    cases q : M.aheadC x y with
    | true => rfl
    | false =>
      have e := M.strict_same hL (hsub x (by simp)) (hsub y (by simp [hy])) q (a.1 y hy)
      subst e
      have h1 := hc x
      have h2 := M.strict_once x hL
      rw [M.cnt_cons, if_pos (M.eqC_iff.2 rfl)] at h1
      have h3 : 0 < M.cnt x t := M.cnt_pos.2 hy
      omega
theorem M.mem_mrg {R : List (List M.Cl)} {x : M.Cl} : x ∈ M.mrg R ↔ ∃ l, l ∈ R ∧ x ∈ l := by
  constructor
  · intro h
    obtain ⟨b, l, h1, h2⟩ := (M.mrg_is R).mem x h
    exact ⟨l, List.mem_of_getElem? h1, h2⟩
  · rintro ⟨l, h1, h2⟩
    exact (M.mrg_is R).mem_of h1 h2
theorem M.cntR_append (c : M.Cl) (R1 R2 : List (List M.Cl)) : M.cntR c (R1 ++ R2) = M.cntR c R1 + M.cntR c R2 := by simp [M.cntR]
theorem M.pw_two {a b : List M.Cl} (h1 : M.Strict a) (h2 : M.Strict b) : M.PW [a, b] := fun i l hl => by
  match i, hl with
  | 0, hl => simp at hl; subst hl; exact h1
  | 1, hl => simp at hl; subst hl; exact h2
  | i + 2, hl => simp at hl
theorem M.pw_left {R1 R2 : List (List M.Cl)} (h : M.PW (R1 ++ R2)) : M.PW R1 := fun b l hl => h b l (by rw [List.getElem?_append_left (List.getElem?_eq_some_iff.1 hl).1]; exact hl)
theorem M.pw_right {R1 R2 : List (List M.Cl)} (h : M.PW (R1 ++ R2)) : M.PW R2 := fun b l hl => h (R1.length + b) l (by rw [List.getElem?_append_right (by omega)]; simpa using hl)
structure M.Pts (R1 R2 : List (List M.Cl)) : Prop where
  pw : M.PW (R1 ++ R2)
  st : M.Strict (M.mrg (R1 ++ R2))
theorem M.Pts.left {R1 R2 : List (List M.Cl)} (h : M.Pts R1 R2) : M.Strict (M.mrg R1) :=
  M.strict_sub h.st ((M.mrg_is R1).asc (M.pw_left h.pw)) (fun c => by rw [(M.mrg_is R1).cnt, (M.mrg_is (R1 ++ R2)).cnt, M.cntR_append]; omega)
theorem M.Pts.right {R1 R2 : List (List M.Cl)} (h : M.Pts R1 R2) : M.Strict (M.mrg R2) :=
  M.strict_sub h.st ((M.mrg_is R2).asc (M.pw_right h.pw)) (fun c => by rw [(M.mrg_is R2).cnt, (M.mrg_is (R1 ++ R2)).cnt, M.cntR_append]; omega)
theorem M.Pts.all {R1 R2 : List (List M.Cl)} (h : M.Pts R1 R2) : M.mrg [M.mrg R1, M.mrg R2] = M.mrg (R1 ++ R2) := by
  refine (M.strict_eq h.st ((M.mrg_is _).asc (M.pw_two h.left h.right)) (fun c => ?_)).symm
  rw [(M.mrg_is (R1 ++ R2)).cnt, (M.mrg_is [M.mrg R1, M.mrg R2]).cnt, M.cntR_append]
  simp [M.cntR, (M.mrg_is R1).cnt, (M.mrg_is R2).cnt]
theorem M.Pts.mem {R1 R2 : List (List M.Cl)} {x : M.Cl} : x ∈ M.mrg (R1 ++ R2) ↔ x ∈ M.mrg R1 ∨ x ∈ M.mrg R2 := by
  simp only [M.mem_mrg, List.mem_append]
  constructor
  · rintro ⟨l, h | h, hx⟩
    · exact .inl ⟨l, h, hx⟩
    · exact .inr ⟨l, h, hx⟩
  · rintro (⟨l, h, hx⟩ | ⟨l, h, hx⟩)
    · exact ⟨l, .inl h, hx⟩
    · exact ⟨l, .inr h, hx⟩
theorem M.less_strict {L : List M.Cl} (h : L.Pairwise (fun x y => Op.bytesLess x.key y.key = true)) : M.Strict L := h.imp (fun h => M.ahead_iff.2 (.inl h))
theorem M.strict_mem {L1 L2 : List M.Cl} (h1 : M.Strict L1) (h2 : M.Strict L2) (h : ∀ x, x ∈ L1 ↔ x ∈ L2) : L1 = L2 := by
  refine M.strict_eq h1 (h2.imp (fun h => M.ahead_asymm h)) (fun c => ?_)
  have a := M.strict_once c h1
  have b := M.strict_once c h2
  have e : 0 < M.cnt c L1 ↔ 0 < M.cnt c L2 := by rw [M.cnt_pos, M.cnt_pos]; exact h c
  omega
theorem M.Pts.new {R1 R2 : List (List M.Cl)} (h : M.Pts R1 R2) : M.nw (M.mrg [M.nw (M.mrg R1), M.nw (M.mrg R2)]) = M.nw (M.mrg (R1 ++ R2)) := by
  have hA := h.left.imp (fun {a b} (h : M.aheadC a b = true) => M.ahead_asymm h)
  have hB := h.right.imp (fun {a b} (h : M.aheadC a b = true) => M.ahead_asymm h)
  have hL := h.st.imp (fun {a b} (h : M.aheadC a b = true) => M.ahead_asymm h)
  have hM : M.Asc (M.mrg [M.nw (M.mrg R1), M.nw (M.mrg R2)]) := (M.mrg_is _).asc (M.pw_two (M.less_strict (M.nw_pw hA)) (M.less_strict (M.nw_pw hB)))
  have sub : ∀ x, x ∈ M.mrg [M.nw (M.mrg R1), M.nw (M.mrg R2)] → x ∈ M.mrg (R1 ++ R2) := fun x hx => by
    rw [M.mem_mrg] at hx
    obtain ⟨l, hl, hx⟩ := hx
    simp only [List.mem_cons, List.not_mem_nil, or_false] at hl
    rcases hl with rfl | rfl
    · exact M.Pts.mem.2 (.inl (M.nw_mem hx))
    · exact M.Pts.mem.2 (.inr (M.nw_mem hx))
  have same : ∀ x y : M.Cl, x ∈ M.mrg (R1 ++ R2) → y ∈ M.mrg (R1 ++ R2) → x.key = y.key → x.seq = y.seq → x = y := fun x y hx hy hk hs =>
    M.strict_same h.st hx hy
      (by cases q : M.aheadC x y with
          | false => rfl
          | true => rw [M.ahead_iff] at q; rcases q with q | ⟨_, q⟩
                    · rw [hk, M.less_irr] at q; cases q
                    · omega)
      (by cases q : M.aheadC y x with
          | false => rfl
          | true => rw [M.ahead_iff] at q; rcases q with q | ⟨_, q⟩
                    · rw [hk, M.less_irr] at q; cases q
                    · omega)
  have fwd : ∀ x, x ∈ M.nw (M.mrg (R1 ++ R2)) → x ∈ M.nw (M.mrg [M.nw (M.mrg R1), M.nw (M.mrg R2)]) := fun x hx => by
    have hxL := M.nw_mem hx
    have top : ∀ m, m ∈ M.mrg (R1 ++ R2) → m.key = x.key → x.seq ≤ m.seq → m = x := fun m hm hk hs => by
      have := (M.nw_once hL hm).2 x hx hk.symm
      exact same m x hm hxL hk (by omega)
    have hxM : x ∈ M.mrg [M.nw (M.mrg R1), M.nw (M.mrg R2)] := by
      rcases M.Pts.mem.1 hxL with q | q
      · obtain ⟨m, h1, h2, h3⟩ := M.nw_has hA q
        have e := top m (M.Pts.mem.2 (.inl (M.nw_mem h1))) h2 h3
        subst e
        exact M.mem_mrg.2 ⟨_, by simp, h1⟩
      · obtain ⟨m, h1, h2, h3⟩ := M.nw_has hB q
        have e := top m (M.Pts.mem.2 (.inr (M.nw_mem h1))) h2 h3
        subst e
        exact M.mem_mrg.2 ⟨_, by simp, h1⟩
    obtain ⟨m, h1, h2, h3⟩ := M.nw_has hM hxM
    have e := top m (sub m (M.nw_mem h1)) h2 h3
    subst e
    exact h1
  refine M.strict_mem (M.less_strict (M.nw_pw hM)) (M.less_strict (M.nw_pw hL)) (fun y => ⟨fun hy => ?_, fwd y⟩)
  obtain ⟨x, h1, h2, h3⟩ := M.nw_has hL (sub y (M.nw_mem hy))
  have := (M.pw_once (M.nw_pw hM) hy).2 x (fwd x h1) h2
  rw [← this]
  exact h1

end Go.Proofs.Ythidmgnfdikppaa
