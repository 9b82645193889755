/- Layer 15, mathematics: what two memories are joined to is what their cells merged come to, each key and Seq once. -/
import Derived.Test.YthidmgnfdikppaaMemW
import Derived.Test.YthidmgnfdikppaaMergePt
namespace Go.Proofs.Ythidmgnfdikppaa
set_option linter.unusedVariables false
open Go Go.RowKit

theorem M.sameC_refl (a : M.Cl) : M.sameC a a = true := M.sameC_iff.2 ⟨rfl, rfl⟩
theorem M.sameC_symm {a b : M.Cl} (h : M.sameC a b = true) : M.sameC b a = true := by
  obtain ⟨h1, h2⟩ := M.sameC_iff.1 h
  exact M.sameC_iff.2 ⟨h1.symm, h2.symm⟩
theorem M.sameC_trans {a b c : M.Cl} (h : M.sameC a b = true) (k : M.sameC b c = true) : M.sameC a c = true := by
  obtain ⟨h1, h2⟩ := M.sameC_iff.1 h
  obtain ⟨k1, k2⟩ := M.sameC_iff.1 k
  exact M.sameC_iff.2 ⟨h1.trans k1, h2.trans k2⟩
theorem M.sameC_eq {a b : M.Cl} (x : M.Cl) (h : M.sameC a b = true) : M.sameC x a = M.sameC x b := by
  rw [Bool.eq_iff_iff]
  exact ⟨fun k => M.sameC_trans k h, fun k => M.sameC_trans k (M.sameC_symm h)⟩
theorem M.sameC_eq2 {a b : M.Cl} (x : M.Cl) (h : M.sameC a b = true) : M.sameC a x = M.sameC b x := by
  rw [Bool.eq_iff_iff]
  exact ⟨fun k => M.sameC_trans (M.sameC_symm h) k, fun k => M.sameC_trans h k⟩
theorem M.ahead_not_same {a b : M.Cl} (h : M.aheadC a b = true) : M.sameC a b = false := by
  cases q : M.sameC a b with
  | false => rfl
  | true =>
    obtain ⟨h1, h2⟩ := M.sameC_iff.1 q
    rcases M.ahead_iff.1 h with k | ⟨_, k⟩
    · rw [h1, M.less_irr] at k; cases k
    · omega
theorem M.same_ahead {a b c : M.Cl} (h : M.sameC a b = true) (k : M.aheadC a c = true) : M.aheadC b c = true := by
  obtain ⟨h1, h2⟩ := M.sameC_iff.1 h
  rcases M.ahead_iff.1 k with k | ⟨k1, k2⟩
  · exact M.ahead_iff.2 (.inl (h1 ▸ k))
  · exact M.ahead_iff.2 (.inr ⟨h1.symm.trans k1, by omega⟩)
/-- Of each key and Seq the first one. -/
def M.dd : Option M.Cl → List M.Cl → List M.Cl
  | _, [] => []
  | none, c :: t => c :: M.dd (some c) t
  | some p, c :: t => if M.sameC c p = true then M.dd (some c) t else c :: M.dd (some c) t
theorem M.dd_some (p c : M.Cl) (t : List M.Cl) : M.dd (some p) (c :: t) = if M.sameC c p = true then M.dd (some c) t else c :: M.dd (some c) t := rfl
theorem M.dd_none (c : M.Cl) (t : List M.Cl) : M.dd none (c :: t) = c :: M.dd (some c) t := rfl
theorem M.dd_ahead : ∀ (L : List M.Cl) (p : M.Cl), (p :: L).Pairwise (fun x y => M.aheadC y x = false) → (∀ x, x ∈ M.dd (some p) L → M.aheadC p x = true) ∧ M.Stt (M.dd (some p) L)
  | [], p, _ => ⟨fun x hx => (by cases hx), List.Pairwise.nil⟩
  | c :: t, p, h => by
    obtain ⟨h1, h2⟩ := List.pairwise_cons.1 h
    obtain ⟨k1, k2⟩ := M.dd_ahead t c h2
    rw [M.dd_some]
    by_cases hs : M.sameC c p = true
    · rw [if_pos hs]
      exact ⟨fun x hx => M.same_ahead hs (k1 x hx), k2⟩
    · rw [if_neg hs]
      have hpc : M.aheadC p c = true := M.ahead_tri (h1 c (by simp)) (by simpa using hs)
      refine ⟨fun x hx => ?_, List.Pairwise.cons k1 k2⟩
      rcases List.mem_cons.1 hx with rfl | hx
      · exact hpc
      · exact M.ahead_trans hpc (k1 x hx)
theorem M.dd_strict {L : List M.Cl} (h : L.Pairwise (fun x y => M.aheadC y x = false)) : M.Stt (M.dd none L) := by
  cases L with
  | nil => exact List.Pairwise.nil
  | cons c t =>
    obtain ⟨k1, k2⟩ := M.dd_ahead t c h
    exact List.Pairwise.cons k1 k2
theorem M.dd_mem_some : ∀ (L : List M.Cl) (p x : M.Cl), (p :: L).Pairwise (fun x y => M.aheadC y x = false) → (x ∈ M.dd (some p) L ↔ M.sameC p x = false ∧ L.find? (fun y => M.sameC y x) = some x)
  | [], p, x, _ => by simp [M.dd]
  | c :: t, p, x, h => by
    obtain ⟨h1, h2⟩ := List.pairwise_cons.1 h
    have ih := M.dd_mem_some t c x h2
    rw [M.dd_some, List.find?_cons]
    by_cases hs : M.sameC c p = true
    · rw [if_pos hs, ih, M.sameC_eq2 x hs]
      cases q : M.sameC p x with
      | true => simp
      | false => simp
    · rw [if_neg hs, List.mem_cons, ih]
      have hpc : M.aheadC p c = true := M.ahead_tri (h1 c (by simp)) (by simpa using hs)
      cases q : M.sameC c x with
      | true =>
        simp only [Bool.true_eq_false, false_and, or_false, Option.some.injEq]
        constructor
        · rintro rfl
          exact ⟨M.ahead_not_same hpc, rfl⟩
        · exact fun k => k.2.symm
      | false =>
        constructor
        · rintro (rfl | ⟨_, k⟩)
          · rw [M.sameC_refl] at q; cases q
          · refine ⟨?_, k⟩
            have hx : x ∈ t := List.mem_of_find?_eq_some k
            have hxc := (List.pairwise_cons.1 h2).1 x hx
            cases r : M.sameC p x with
            | false => rfl
            | true =>
              have := M.same_ahead r hpc
              rw [this] at hxc; cases hxc
        · exact fun k => .inr ⟨rfl, k.2⟩
theorem M.dd_mem {L : List M.Cl} {x : M.Cl} (h : L.Pairwise (fun x y => M.aheadC y x = false)) : x ∈ M.dd none L ↔ L.find? (fun y => M.sameC y x) = some x := by
  cases L with
  | nil => simp [M.dd]
  | cons c t =>
    rw [M.dd_none, List.mem_cons, M.dd_mem_some t c x h, List.find?_cons]
    cases q : M.sameC c x with
    | true =>
      simp only [Bool.true_eq_false, false_and, or_false, Option.some.injEq]
      exact ⟨fun e => e.symm, fun e => e.symm⟩
    | false =>
      constructor
      · rintro (rfl | k)
        · rw [M.sameC_refl] at q; cases q
        · exact k.2
      · exact fun k => .inr ⟨rfl, k⟩
/-- Of two rows merged the first one's comes first. -/
theorem M.mrg_first {R : List (List M.Cl)} {L : List M.Cl} (h : M.Mrg R L) : ∀ {A B : List M.Cl}, R = [A, B] → M.Stt A → M.Stt B → (∀ x, x ∈ A → L.find? (fun y => M.sameC y x) = some x) ∧ (∀ y, y ∈ B → (∀ x, x ∈ A → M.sameC x y = false) → L.find? (fun z => M.sameC z y) = some y) := by
  induction h with
  | done hd =>
    intro A B e hA hB
    subst e
    refine ⟨fun x hx => ?_, fun y hy _ => ?_⟩
    · cases A with
      | nil => cases hx
      | cons d s => exact absurd rfl (hd 0 d s)
    · cases B with
      | nil => cases hy
      | cons d s => exact absurd rfl (hd 1 d s)
  | @step R b c t L hb k ih =>
    intro A B e hA hB
    subst e
    have hh := hb.here
    rcases b with _ | _ | b
    · obtain rfl : A = c :: t := by simpa using hh
      obtain ⟨a1, a2⟩ := List.pairwise_cons.1 hA
      obtain ⟨i1, i2⟩ := ih (A := t) (B := B) (by simp) a2 hB
      refine ⟨fun x hx => ?_, fun y hy hn => ?_⟩
      · rw [List.find?_cons]
        rcases List.mem_cons.1 hx with rfl | hx
        · rw [M.sameC_refl]
        · rw [M.ahead_not_same (a1 x hx)]; exact i1 x hx
      · rw [List.find?_cons, hn c (by simp)]
        exact i2 y hy (fun x hx => hn x (by simp [hx]))
    · obtain rfl : B = c :: t := by simpa using hh
      obtain ⟨b1, b2⟩ := List.pairwise_cons.1 hB
      obtain ⟨i1, i2⟩ := ih (A := A) (B := t) (by simp) hA b2
      refine ⟨fun x hx => ?_, fun y hy hn => ?_⟩
      · rw [List.find?_cons]
        cases A with
        | nil => cases hx
        | cons d s =>
          have hcd : M.aheadC c d = true := hb.first 0 d s (by omega) rfl
          have hcx : M.aheadC c x = true := by
            rcases List.mem_cons.1 hx with rfl | hx
            · exact hcd
            · exact M.ahead_trans hcd ((List.pairwise_cons.1 hA).1 x hx)
          rw [M.ahead_not_same hcx]
          exact i1 x hx
      · rw [List.find?_cons]
        rcases List.mem_cons.1 hy with rfl | hy
        · rw [M.sameC_refl]
        · rw [M.ahead_not_same (b1 y hy)]; exact i2 y hy hn
    · simp at hh
theorem M.insC_memS {c x : M.Cl} : ∀ {L : List M.Cl}, M.Stt L → (x ∈ M.insC c L ↔ x ∈ L ∨ (x = c ∧ ∀ y, y ∈ L → M.sameC y c = false))
  | [], _ => by simp [M.insC]
  | y :: t, h => by
    obtain ⟨h1, h2⟩ := List.pairwise_cons.1 h
    rw [M.insC]
    by_cases ha : M.aheadC y c = true
    · rw [if_pos ha, List.mem_cons, M.insC_memS h2]
      have := M.ahead_not_same ha
      simp [this]
      constructor
      · rintro (k | k | k)
        · exact .inl (.inl k)
        · exact .inl (.inr k)
        · exact .inr k
      · rintro ((k | k) | k)
        · exact .inl k
        · exact .inr (.inl k)
        · exact .inr (.inr k)
    · rw [if_neg ha]
      by_cases hs : M.sameC y c = true
      · rw [if_pos hs]
        simp [hs]
      · rw [if_neg hs]
        have hcy : M.aheadC c y = true := M.ahead_tri (by simpa using ha) (by simpa using hs)
        have hall : ∀ z, z ∈ y :: t → M.sameC z c = false := fun z hz => by
          have hcz : M.aheadC c z = true := by
            rcases List.mem_cons.1 hz with rfl | hz
            · exact hcy
            · exact M.ahead_trans hcy (h1 z hz)
          cases q : M.sameC z c with
          | false => rfl
          | true =>
            have := M.ahead_not_same hcz
            rw [M.sameC_symm q] at this; cases this
        rw [List.mem_cons]
        constructor
        · rintro (k | k)
          · exact .inr ⟨k, hall⟩
          · exact .inl k
        · rintro (k | k)
          · exact .inr k
          · exact .inl k.1
theorem M.join_memS : ∀ (b : List M.Cl) {a : List M.Cl} {x : M.Cl}, M.Stt a → M.Stt b → (x ∈ M.joinL a b ↔ x ∈ a ∨ (x ∈ b ∧ ∀ y, y ∈ a → M.sameC y x = false))
  | [], a, x, _, _ => by simp [M.joinL]
  | c :: b, a, x, ha, hb => by
    obtain ⟨b1, b2⟩ := List.pairwise_cons.1 hb
    have ih := M.join_memS b (a := M.insC c a) (x := x) (M.insC_strict ha) b2
    show x ∈ M.joinL (M.insC c a) b ↔ _
    rw [ih, M.insC_memS ha]
    constructor
    · rintro ((k | ⟨rfl, k⟩) | ⟨k, k2⟩)
      · exact .inl k
      · exact .inr ⟨by simp, k⟩
      · exact .inr ⟨by simp [k], fun y hy => k2 y ((M.insC_memS ha).2 (.inl hy))⟩
    · rintro (k | ⟨k, k2⟩)
      · exact .inl (.inl k)
      · rcases List.mem_cons.1 k with rfl | k
        · exact .inl (.inr ⟨rfl, k2⟩)
        · refine .inr ⟨k, fun y hy => ?_⟩
          rcases (M.insC_memS ha).1 hy with q | ⟨q, _⟩
          · exact k2 y q
          · rw [q]; exact M.ahead_not_same (b1 x k)
/-- Joined is merged, each key and Seq once. -/
theorem M.join_mrg {A B : List M.Cl} (hA : M.Stt A) (hB : M.Stt B) : M.joinL A B = M.dd none (M.mrg [A, B]) := by
  have hm := M.mrg_is [A, B]
  have hasc : (M.mrg [A, B]).Pairwise (fun x y => M.aheadC y x = false) := hm.asc (M.pw_two hA hB)
  obtain ⟨f1, f2⟩ := M.mrg_first hm rfl hA hB
  refine M.stt_mem (M.join_strict B hA) (M.dd_strict hasc) (fun x => ?_)
  rw [M.join_memS B hA hB, M.dd_mem hasc]
  constructor
  · rintro (k | ⟨k, k2⟩)
    · exact f1 x k
    · exact f2 x k k2
  · intro k
    have hx : x ∈ M.mrg [A, B] := List.mem_of_find?_eq_some k
    obtain ⟨l, hl, hxl⟩ := M.mem_mrg.1 hx
    by_cases ha : x ∈ A
    · exact .inl ha
    · have hb : x ∈ B := by
        rcases List.mem_cons.1 hl with rfl | hl
        · exact absurd hxl ha
        · rw [List.mem_singleton] at hl; rw [← hl]; exact hxl
      refine .inr ⟨hb, fun y hy => ?_⟩
      cases q : M.sameC y x with
      | false => rfl
      | true =>
        have h1 := f1 y hy
        have e : (fun z => M.sameC z y) = (fun z => M.sameC z x) := funext (fun z => M.sameC_eq z q)
        rw [e, k] at h1
        injection h1 with h1
        exact absurd (h1 ▸ hy) ha
theorem M.dd_find_some : ∀ (L : List M.Cl) (p : M.Cl) (k : List UInt8), p.key ≠ k → M.findL k (M.dd (some p) L) = M.findL k L
  | [], _, _, _ => rfl
  | c :: t, p, k, hp => by
    rw [M.dd_some]
    by_cases hs : M.sameC c p = true
    · have hck : c.key ≠ k := fun e => hp ((M.sameC_iff.1 hs).1.symm.trans e)
      rw [if_pos hs, M.dd_find_some t c k hck]
      unfold M.findL
      rw [List.find?_cons_of_neg (by simpa using hck)]
    · rw [if_neg hs]
      by_cases hck : c.key = k
      · unfold M.findL
        rw [List.find?_cons_of_pos (by simpa using hck), List.find?_cons_of_pos (by simpa using hck)]
      · have ih := M.dd_find_some t c k hck
        unfold M.findL at *
        rw [List.find?_cons_of_neg (by simpa using hck), List.find?_cons_of_neg (by simpa using hck)]
        exact ih
theorem M.dd_find (L : List M.Cl) (k : List UInt8) : M.findL k (M.dd none L) = M.findL k L := by
  cases L with
  | nil => rfl
  | cons c t =>
    rw [M.dd_none]
    by_cases hck : c.key = k
    · unfold M.findL
      rw [List.find?_cons_of_pos (by simpa using hck), List.find?_cons_of_pos (by simpa using hck)]
    · have ih := M.dd_find_some t c k hck
      unfold M.findL at *
      rw [List.find?_cons_of_neg (by simpa using hck), List.find?_cons_of_neg (by simpa using hck)]
      exact ih
theorem M.nwF_find : ∀ (t : List M.Cl) (c x : M.Cl), M.Asc (c :: t) → x ∈ M.nwF c t → M.findL x.key t = some x ∧ x.key ≠ c.key
  | [], _, _, _, h => by cases h
  | d :: t, c, x, ha, h => by
    obtain ⟨h1, h2⟩ := List.pairwise_cons.1 ha
    rw [M.nwF] at h
    by_cases e : c.key = d.key
    · rw [if_pos e] at h
      have hct : M.Asc (c :: t) := List.pairwise_cons.2 ⟨fun y hy => h1 y (by simp [hy]), (List.pairwise_cons.1 h2).2⟩
      obtain ⟨k1, k2⟩ := M.nwF_find t c x hct h
      refine ⟨?_, k2⟩
      unfold M.findL at *
      rw [List.find?_cons_of_neg (by simp; exact fun q => k2 (q.symm.trans e.symm))]
      exact k1
    · rw [if_neg e] at h
      rcases List.mem_cons.1 h with rfl | h
      · refine ⟨?_, fun q => e q.symm⟩
        unfold M.findL
        rw [List.find?_cons_of_pos (by simp)]
      · obtain ⟨k1, k2⟩ := M.nwF_find t d x h2 h
        have hl := M.nwF_less t d h2 x h
        have hcd := M.asc_less (h1 d (by simp)) e
        refine ⟨?_, fun q => ?_⟩
        · unfold M.findL at *
          rw [List.find?_cons_of_neg (by simp; exact fun q => k2 q.symm)]
          exact k1
        · have := M.less_trans _ _ _ hcd hl
          rw [q, M.less_irr] at this; cases this
/-- The newest of a key is the first of it. -/
theorem M.nw_find {L : List M.Cl} (h : M.Asc L) {x : M.Cl} (hx : x ∈ M.nw L) : M.findL x.key L = some x := by
  cases L with
  | nil => simp [M.nw] at hx
  | cons c t =>
    rw [M.nw_cons] at hx
    rcases List.mem_cons.1 hx with rfl | hx
    · unfold M.findL
      rw [List.find?_cons_of_pos (by simp)]
    · obtain ⟨k1, k2⟩ := M.nwF_find t c x h hx
      unfold M.findL at *
      rw [List.find?_cons_of_neg (by simp; exact fun q => k2 q.symm)]
      exact k1
/-- One more cell. -/
theorem M.dd_snoc_some (d : M.Cl) : ∀ (L : List M.Cl) (p : M.Cl), M.dd (some p) (L ++ [d]) = M.dd (some p) L ++ (if M.sameC d (L.getLast?.getD p) = true then [] else [d])
  | [], p => by
    show M.dd (some p) [d] = _
    rw [M.dd_some]
    by_cases h : M.sameC d p = true <;> simp [M.dd, h]
  | c :: t, p => by
    have ih := M.dd_snoc_some d t c
    show M.dd (some p) (c :: (t ++ [d])) = _
    rw [M.dd_some, M.dd_some, ih]
    have e : (c :: t).getLast?.getD p = t.getLast?.getD c := by
      cases t with
      | nil => rfl
      | cons a s => rw [List.getLast?_cons_cons]; cases h : (a :: s).getLast? with
        | none => simp at h
        | some q => rfl
    rw [e]
    by_cases hs : M.sameC c p = true
    · rw [if_pos hs, if_pos hs]
    · rw [if_neg hs, if_neg hs, List.cons_append]
theorem M.dd_snoc {L : List M.Cl} {i : Nat} (h : i < L.length) : M.dd none (L.take (i + 1)) = M.dd none (L.take i) ++ (if i = 0 ∨ M.sameC (L.getD i M.cl0) (L.getD (i - 1) M.cl0) = false then [L.getD i M.cl0] else []) := by
  rw [takeC_snoc h]
  by_cases hi : i = 0
  · subst hi
    simp [M.dd]
  · obtain ⟨c, t, e⟩ : ∃ c t, L.take i = c :: t := by
      cases hL : L.take i with
      | nil => have := congrArg List.length hL; rw [List.length_take, List.length_nil] at this; omega
      | cons c t => exact ⟨c, t, rfl⟩
    have hlast : t.getLast?.getD c = L.getD (i - 1) M.cl0 := by
      have e1 : (L.take i).getLast? = some (L.getD (i - 1) M.cl0) := by
        have e0 : (L.take i).length = i := by rw [List.length_take]; omega
        rw [List.getLast?_eq_getElem?, e0, List.getElem?_take, if_pos (by omega), M.gD15 L (i - 1) M.cl0 (by omega)]
        exact List.getElem?_eq_getElem _
      rw [e] at e1
      cases t with
      | nil => simpa using e1
      | cons a s => rw [List.getLast?_cons_cons] at e1; rw [e1]; rfl
    rw [e]
    show M.dd none (c :: (t ++ [_])) = _
    rw [M.dd_none, M.dd_none, M.dd_snoc_some, hlast]
    cases q : M.sameC (L.getD i M.cl0) (L.getD (i - 1) M.cl0) with
    | true => simp [hi]
    | false => simp

end Go.Proofs.Ythidmgnfdikppaa
