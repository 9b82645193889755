/- Layer 19: mathematics: a tablet that is parted. -/
import Derived.Test.YtnhljlmelbiljaaGreatTbltM
namespace Go.Proofs.YtnhljlmelbiljaaGreat
set_option linter.unusedVariables false
set_option linter.unusedSimpArgs false
open Go Go.RowKit

theorem M.less_le19 {a b c : List UInt8} (h : Op.bytesLess a b = true) (k : Op.bytesLess c b = false) : Op.bytesLess a c = true := by
  by_cases e : c = b
  · subst e; exact h
  · have := M.less_flip b c (fun h => e h.symm)
    rw [this] at k
    exact M.less_trans _ _ _ h (by simpa using k)
theorem M.find_app19 (k : List UInt8) (A B : List M.Cl) : M.findL k (A ++ B) = match M.findL k A with
    | some c => some c
    | none => M.findL k B := M.find_append k A B
theorem M.pwk_key {L : List M.Cl} {f t : List UInt8} {R : List (List M.Cl)} (hp : M.PW R) (a b : List UInt8) {c : M.Cl} (h : c ∈ M.rangeT f t R a b) : (M.inK f t c.key && M.inK a b c.key) = true := by
  have h1 := (M.pwk_find (M.rangeT_pwk f t hp a b)).2 h
  rw [M.rangeT_find f t hp] at h1
  by_cases q : (M.inK f t c.key && M.inK a b c.key) = true
  · exact q
  · rw [if_neg q] at h1; cases h1
/-- A tablet that is parted. -/
theorem M.halves19 {f t at_ : List UInt8} {mem : List M.Cl} {tabs : List (List M.Cl)} (hp : M.PW (mem :: tabs)) (h1 : Op.bytesLess f at_ = true) (h2 : t = [] ∨ Op.bytesLess at_ t = true) :
    (∀ k, (if Op.bytesLess k at_ = true then M.getT f at_ (mem.filter (M.below at_) :: tabs) k else M.getT at_ t (mem.filter (fun c => !M.below at_ c) :: tabs) k) = M.getT f t (mem :: tabs) k) ∧
    M.rangeT f at_ (mem.filter (M.below at_) :: tabs) [] [] ++ M.rangeT at_ t (mem.filter (fun c => !M.below at_ c) :: tabs) [] [] = M.rangeT f t (mem :: tabs) [] [] := by
  have hne : at_.isEmpty = false := by
    cases at_ with
    | nil => rw [M.less_nil19] at h1; cases h1
    | cons _ _ => rfl
  have hpa : M.PW (mem.filter (M.below at_) :: tabs) := fun i l hl => by
    cases i with
    | zero => simp at hl; subst hl; exact (hp 0 mem rfl).filter _
    | succ i => exact hp (i + 1) l (by simpa using hl)
  have hpb : M.PW (mem.filter (fun c => !M.below at_ c) :: tabs) := fun i l hl => by
    cases i with
    | zero => simp at hl; subst hl; exact (hp 0 mem rfl).filter _
    | succ i => exact hp (i + 1) l (by simpa using hl)
  have ka : ∀ k, M.inK f at_ k = (!Op.bytesLess k f && Op.bytesLess k at_) := fun k => by unfold M.inK; rw [hne]; rfl
  have kb : ∀ k, M.inK at_ t k = (!Op.bytesLess k at_ && (t.isEmpty || Op.bytesLess k t)) := fun k => rfl
  have fa : ∀ k, Op.bytesLess k at_ = true → M.bestR k (mem.filter (M.below at_) :: tabs) = M.bestR k (mem :: tabs) := fun k hk => by
    show M.up _ _ = M.up _ _
    rw [M.find_filter19 k _ true mem (fun c _ e => by unfold M.below; rw [e, hk])]
    rfl
  have fb : ∀ k, Op.bytesLess k at_ = false → M.bestR k (mem.filter (fun c => !M.below at_ c) :: tabs) = M.bestR k (mem :: tabs) := fun k hk => by
    show M.up _ _ = M.up _ _
    rw [M.find_filter19 k _ true mem (fun c _ e => by unfold M.below; rw [e, hk]; rfl)]
    rfl
  have hg : ∀ k, (if Op.bytesLess k at_ = true then M.getT f at_ (mem.filter (M.below at_) :: tabs) k else M.getT at_ t (mem.filter (fun c => !M.below at_ c) :: tabs) k) = M.getT f t (mem :: tabs) k := fun k => by
    cases q : Op.bytesLess k at_ with
    | true =>
      rw [if_pos rfl]
      unfold M.getT
      rw [ka, fa k q, q]
      have : (t.isEmpty || Op.bytesLess k t) = true := by
        rcases h2 with rfl | h2
        · rfl
        · rw [M.less_trans _ _ _ q h2]; simp
      unfold M.inK
      rw [this]
    | false =>
      rw [if_neg (by simp)]
      unfold M.getT
      rw [kb, fb k q, q]
      have : Op.bytesLess k f = false := by
        cases r : Op.bytesLess k f with
        | false => rfl
        | true => rw [M.less_trans _ _ _ r h1] at q; cases q
      unfold M.inK
      rw [this]
  refine ⟨hg, ?_⟩
  refine M.pwk_ext ?_ (M.rangeT_pwk f t hp [] []) (fun k => ?_)
  · refine List.pairwise_append.2 ⟨M.rangeT_pwk f at_ hpa [] [], M.rangeT_pwk at_ t hpb [] [], fun x hx y hy => ?_⟩
    have e1 := M.pwk_key (L := []) hpa [] [] hx
    have e2 := M.pwk_key (L := []) hpb [] [] hy
    rw [M.inK_all, Bool.and_true] at e1 e2
    rw [ka] at e1
    rw [kb] at e2
    simp only [Bool.and_eq_true, Bool.not_eq_true'] at e1 e2
    exact M.less_le19 e1.2 e2.1
  · rw [M.find_app19, M.rangeT_all f at_ hpa, M.rangeT_all at_ t hpb, M.rangeT_all f t hp, ← hg k]
    cases q : Op.bytesLess k at_ with
    | true =>
      have : M.getT at_ t (mem.filter (fun c => !M.below at_ c) :: tabs) k = none := by
        unfold M.getT
        rw [kb, q]
        rfl
      rw [this, if_pos rfl]
      cases M.getT f at_ (mem.filter (M.below at_) :: tabs) k <;> rfl
    | false =>
      have : M.getT f at_ (mem.filter (M.below at_) :: tabs) k = none := by
        unfold M.getT
        rw [ka, q]
        simp
      rw [this, if_neg (by simp)]

end Go.Proofs.YtnhljlmelbiljaaGreat
