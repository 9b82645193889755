/- Layer 15, mathematics: joined and laid lists by their members. -/
import Derived.Test.YthidmgnfdikppaaMemV
namespace Go.Proofs.Ythidmgnfdikppaa
set_option linter.unusedVariables false
open Go Go.RowKit

theorem M.insC_keep {c x : M.Cl} : ∀ {L : List M.Cl}, x ∈ L → x ∈ M.insC c L
  | [], h => by cases h
  | y :: t, h => by
    rw [M.insC]
    split
    · rcases List.mem_cons.1 h with rfl | h
      · simp
      · exact List.mem_cons_of_mem _ (M.insC_keep h)
    · split
      · exact h
      · exact List.mem_cons_of_mem _ h
theorem M.insC_in {c : M.Cl} : ∀ {L : List M.Cl}, (∀ x, x ∈ L → M.sameC x c = true → x = c) → c ∈ M.insC c L
  | [], _ => by simp [M.insC]
  | y :: t, h => by
    rw [M.insC]
    split
    · exact List.mem_cons_of_mem _ (M.insC_in (fun x hx => h x (by simp [hx])))
    · split
      · rename_i hs
        rw [h y (by simp) hs]
        simp
      · simp
/-- Of two cells of one key and Seq there is but one. -/
def M.One (L : List M.Cl) : Prop := ∀ x, x ∈ L → ∀ y, y ∈ L → M.sameC x y = true → x = y
theorem M.strict_one {L : List M.Cl} (h : M.Stt L) : M.One L := fun x hx y hy hs => by
  obtain ⟨h1, h2⟩ := M.sameC_iff.1 hs
  refine M.stt_same h hx hy ?_ ?_
  · cases q : M.aheadC x y with
    | false => rfl
    | true =>
      rcases M.ahead_iff.1 q with k | ⟨_, k⟩
      · rw [h1, M.less_irr] at k; cases k
      · omega
  · cases q : M.aheadC y x with
    | false => rfl
    | true =>
      rcases M.ahead_iff.1 q with k | ⟨_, k⟩
      · rw [h1, M.less_irr] at k; cases k
      · omega
theorem M.join_strict : ∀ (b : List M.Cl) {a : List M.Cl}, M.Stt a → M.Stt (M.joinL a b)
  | [], _, h => h
  | c :: b, _, h => M.join_strict b (M.insC_strict h)
theorem M.join_mem : ∀ (b : List M.Cl) {a : List M.Cl}, M.One (a ++ b) → ∀ x, x ∈ M.joinL a b ↔ x ∈ a ∨ x ∈ b
  | [], a, _, x => by simp [M.joinL]
  | c :: b, a, h, x => by
    have hsub : ∀ y, y ∈ M.insC c a ++ b → y ∈ a ++ c :: b := fun y hy => by
      rcases List.mem_append.1 hy with hy | hy
      · rcases M.insC_mem hy with rfl | hy
        · simp
        · simp [hy]
      · simp [hy]
    have ih := M.join_mem b (a := M.insC c a) (fun p hp q hq hs => h p (hsub p hp) q (hsub q hq) hs) x
    show x ∈ M.joinL (M.insC c a) b ↔ _
    rw [ih]
    have hin : c ∈ M.insC c a := M.insC_in (fun y hy hs => h y (by simp [hy]) c (by simp) hs)
    constructor
    · rintro (k | k)
      · rcases M.insC_mem k with rfl | k
        · exact .inr (by simp)
        · exact .inl k
      · exact .inr (by simp [k])
    · rintro (k | k)
      · exact .inl (M.insC_keep k)
      · rcases List.mem_cons.1 k with rfl | k
        · exact .inl hin
        · exact .inr k
/-- What is cut and joined is as it was, either way round. -/
theorem M.join_cut {L : List M.Cl} (h : M.Stt L) (f : M.Cl → Bool) : M.joinL (L.filter f) (L.filter (fun c => !f c)) = L ∧ M.joinL (L.filter (fun c => !f c)) (L.filter f) = L := by
  have h1 := M.strict_filter h f
  have h2 := M.strict_filter h (fun c => !f c)
  have ho := M.strict_one h
  have o1 : M.One (L.filter f ++ L.filter (fun c => !f c)) := fun x hx y hy hs => ho x (by simp at hx; rcases hx with k | k <;> exact k.1) y (by simp at hy; rcases hy with k | k <;> exact k.1) hs
  have o2 : M.One (L.filter (fun c => !f c) ++ L.filter f) := fun x hx y hy hs => ho x (by simp at hx; rcases hx with k | k <;> exact k.1) y (by simp at hy; rcases hy with k | k <;> exact k.1) hs
  refine ⟨M.stt_mem (M.join_strict _ h1) h (fun x => ?_), M.stt_mem (M.join_strict _ h2) h (fun x => ?_)⟩
  · rw [M.join_mem _ o1]
    simp only [List.mem_filter]
    cases f x <;> simp
  · rw [M.join_mem _ o2]
    simp only [List.mem_filter]
    cases f x <;> simp
theorem M.cut_app {L : List M.Cl} (h : M.Stt L) (key : List UInt8) : L.filter (M.below key) ++ L.filter (fun c => !M.below key c) = L := by
  obtain ⟨h1, h2⟩ := M.cut_take h key
  rw [← h1, ← h2, List.take_append_drop]
theorem M.putL_strict {c : M.Cl} {A : List M.Cl} (h : M.Stt A) : M.Stt (M.putL c A) := by
  unfold M.putL
  split
  · exact M.insC_strict h
  · exact h
theorem M.puts_strict : ∀ (L : List M.Cl) {A : List M.Cl}, M.Stt A → M.Stt (M.putsL A L)
  | [], _, h => h
  | c :: L, _, h => M.puts_strict L (M.putL_strict h)
theorem M.puts_mem : ∀ (L : List M.Cl) {A : List M.Cl}, M.One (A ++ L) → ∀ x, x ∈ M.putsL A L ↔ x ∈ A ∨ (x ∈ L ∧ M.mayC x = true)
  | [], A, _, x => by simp [M.putsL]
  | c :: L, A, h, x => by
    have hsub : ∀ y, y ∈ M.putL c A ++ L → y ∈ A ++ c :: L := fun y hy => by
      rcases List.mem_append.1 hy with hy | hy
      · unfold M.putL at hy
        split at hy
        · rcases M.insC_mem hy with rfl | hy
          · simp
          · simp [hy]
        · simp [hy]
      · simp [hy]
    have ih := M.puts_mem L (A := M.putL c A) (fun p hp q hq hs => h p (hsub p hp) q (hsub q hq) hs) x
    show x ∈ M.putsL (M.putL c A) L ↔ _
    rw [ih]
    unfold M.putL
    split
    · rename_i hm
      have hin : c ∈ M.insC c A := M.insC_in (fun y hy hs => h y (by simp [hy]) c (by simp) hs)
      constructor
      · rintro (k | k)
        · rcases M.insC_mem k with rfl | k
          · exact .inr ⟨by simp, hm⟩
          · exact .inl k
        · exact .inr ⟨by simp [k.1], k.2⟩
      · rintro (k | ⟨k, k2⟩)
        · exact .inl (M.insC_keep k)
        · rcases List.mem_cons.1 k with rfl | k
          · exact .inl hin
          · exact .inr ⟨k, k2⟩
    · rename_i hm
      constructor
      · rintro (k | k)
        · exact .inl k
        · exact .inr ⟨by simp [k.1], k.2⟩
      · rintro (k | ⟨k, k2⟩)
        · exact .inl k
        · rcases List.mem_cons.1 k with rfl | k
          · exact absurd k2 hm
          · exact .inr ⟨k, k2⟩
/-- The order in which cells come makes no difference. -/
theorem M.puts_same {L K : List M.Cl} (h1 : M.One L) (hm : ∀ x, x ∈ L ↔ x ∈ K) : M.putsL [] L = M.putsL [] K := by
  have h2 : M.One K := fun x hx y hy hs => h1 x ((hm x).2 hx) y ((hm y).2 hy) hs
  refine M.stt_mem (M.puts_strict L List.Pairwise.nil) (M.puts_strict K List.Pairwise.nil) (fun x => ?_)
  rw [M.puts_mem L (A := []) h1, M.puts_mem K (A := []) h2, hm x]

end Go.Proofs.Ythidmgnfdikppaa
