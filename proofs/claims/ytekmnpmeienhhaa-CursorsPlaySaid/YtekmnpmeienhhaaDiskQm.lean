/- Layer 5: what a crash leaves, file by file. -/
import Derived.Test.YtekmnpmeienhhaaDiskM
namespace Go.Proofs.Ytekmnpmeienhhaa
set_option linter.unusedVariables false
open Go Go.RowKit

namespace Dk
theorem put_at {f : Fl} : ∀ {L : List Fl} {k : Nat}, L.Pairwise (fun f g => Op.bytesLess f.name g.name = true) → ∀ h : k < L.length, f.name = (L[k]).name → put f L = L.set k f
  | [], k, _, h, _ => by simp at h
  | x :: r, 0, hp, h, e => by
    obtain ⟨h1, h2⟩ := List.pairwise_cons.1 hp
    simp only [List.getElem_cons_zero] at e
    have hd : del f.name (x :: r) = r := by
      unfold del
      have e1 : (x.name == f.name) = true := by rw [e]; simp
      simp only [List.filter_cons, e1, Bool.not_true, Bool.false_eq_true, if_false]
      refine List.filter_eq_self.2 (fun g hg => ?_)
      have h3 := h1 g hg
      cases hx : (g.name == f.name) with
      | false => rfl
      | true =>
        have : g.name = f.name := by simpa using hx
        rw [this, e, less_irr5] at h3
        cases h3
    unfold put
    rw [hd]
    cases r with
    | nil => rfl
    | cons y r =>
      have h3 := h1 y (by simp)
      rw [← e] at h3
      simp [ins, h3]
  | x :: r, k + 1, hp, h, e => by
    obtain ⟨h1, h2⟩ := List.pairwise_cons.1 hp
    have hk : k < r.length := by simpa using h
    simp only [List.getElem_cons_succ] at e
    have h3 := h1 _ (List.getElem_mem hk)
    rw [← e] at h3
    have hne : x.name ≠ f.name := fun q => by rw [q, less_irr5] at h3; cases h3
    have hx : (x.name == f.name) = false := by simpa using hne
    have hl : Op.bytesLess f.name x.name = false := by rw [less_flip5 x.name f.name hne, h3]; rfl
    have ih := put_at (f := f) h2 hk e
    unfold put at *
    have hd : del f.name (x :: r) = x :: del f.name r := by simp [del, hx]
    rw [hd]
    simp only [ins, hl, Bool.false_eq_true, if_false, List.set_cons_succ]
    rw [ih]
/-- The first k files cut. -/
def mix (ks : List Int) (L : List Fl) (k : Nat) : List Fl := (cut ks L).take k ++ L.drop k
theorem mix_zero (ks : List Int) (L : List Fl) : mix ks L 0 = L := by simp [mix]
theorem mix_all (ks : List Int) (L : List Fl) : mix ks L L.length = cut ks L := by
  unfold mix
  rw [List.drop_length, List.append_nil, List.take_of_length_le (by rw [cut_len]; exact Nat.le_refl _)]
theorem mix_len (ks : List Int) (L : List Fl) (k : Nat) : (mix ks L k).length = L.length := by
  unfold mix
  rw [List.length_append, List.length_take, cut_len, List.length_drop]
  omega
theorem mix_names (ks : List Int) (L : List Fl) (k : Nat) : names (mix ks L k) = names L := by
  have h := cut_names ks L
  unfold mix names at *
  rw [List.map_append, List.map_take, h, ← List.map_take, ← List.map_append, List.take_append_drop]
theorem mix_at (ks : List Int) (L : List Fl) {k : Nat} (hk : k < L.length) : ∃ h : k < (mix ks L k).length, (mix ks L k)[k] = L[k] := by
  refine ⟨by rw [mix_len]; exact hk, ?_⟩
  unfold mix
  rw [List.getElem_append_right (by rw [List.length_take, cut_len]; omega)]
  simp only [List.length_take, cut_len, List.getElem_drop]
  congr 1
  omega
theorem mix_set (ks : List Int) (L : List Fl) {k : Nat} (hk : k < L.length) : (mix ks L k).set k (left L[k] (ks.getD k 0)) = mix ks L (k + 1) := by
  unfold mix
  have hc : k < (cut ks L).length := by rw [cut_len]; exact hk
  have ha := cut_at ks L k hk
  have e1 : (cut ks L).getD k fl0 = (cut ks L)[k] := by simp [List.getD, hc]
  have e2 : L.getD k fl0 = L[k] := by simp [List.getD, hk]
  rw [e1, e2] at ha
  rw [List.set_append_right _ _ (by rw [List.length_take]; omega)]
  rw [show k - ((cut ks L).take k).length = 0 from by rw [List.length_take]; omega]
  rw [List.drop_eq_getElem_cons hk, List.set_cons_zero, List.take_succ_eq_append_getElem hc, ha]
  simp
theorem mix_ok {ks : List Int} {L : List Fl} (h : OkL L) (k : Nat) : OkL (mix ks L k) := by
  refine ⟨pair_names (mix_names ks L k).symm h.up, fun f hf => ?_, fun f hf => ?_⟩
  · rcases List.mem_append.1 hf with hf | hf
    · exact (h.cut ks).named f (List.mem_of_mem_take hf)
    · exact h.named f (List.mem_of_mem_drop hf)
  · rcases List.mem_append.1 hf with hf | hf
    · exact (h.cut ks).safe f (List.mem_of_mem_take hf)
    · exact h.safe f (List.mem_of_mem_drop hf)
theorem mix_put {ks : List Int} {L : List Fl} (h : OkL L) {k : Nat} (hk : k < L.length) : put (left L[k] (ks.getD k 0)) (mix ks L k) = mix ks L (k + 1) := by
  obtain ⟨h1, h2⟩ := mix_at ks L hk
  rw [put_at (mix_ok h k).up h1 (by rw [h2]; rfl), mix_set ks L hk]
theorem mix_get {ks : List Int} {L : List Fl} (h : OkL L) {k : Nat} (hk : k < L.length) : get (L[k]).name (mix ks L k) = L[k] ∧ has (L[k]).name (mix ks L k) = true := by
  obtain ⟨h1, h2⟩ := mix_at ks L hk
  have hm := List.getElem_mem h1
  rw [h2] at hm
  exact ⟨get_of (mix_ok h k).ne hm, has_iff.2 ⟨_, hm, rfl⟩⟩
theorem mix_size {ks : List Int} {L : List Fl} (h : OkL L) {k : Nat} (hk : k < L.length) : size (mix ks L (k + 1)) + (L[k]).dat.length = size (mix ks L k) + (left L[k] (ks.getD k 0)).dat.length := by
  have h1 := size_put (mix_ok (ks := ks) h k) (left L[k] (ks.getD k 0))
  rw [mix_put h hk] at h1
  have h2 : (left L[k] (ks.getD k 0)).name = (L[k]).name := rfl
  rw [h2, (mix_get h hk).1] at h1
  exact h1
theorem mix_le {ks : List Int} {L : List Fl} (h : OkL L) : ∀ {k : Nat}, k ≤ L.length → size (mix ks L k) ≤ size L
  | 0, _ => by rw [mix_zero]; exact Nat.le_refl _
  | k + 1, hk => by
    have h1 := mix_le (ks := ks) h (k := k) (by omega)
    have h2 := mix_size (ks := ks) h (k := k) (by omega)
    have h3 := left_dat L[k] (ks.getD k 0) (h.safe _ (List.getElem_mem (by omega)))
    have h4 := (left_le L[k] (ks.getD k 0) (h.safe _ (List.getElem_mem (by omega)))).2
    omega
end Dk

end Go.Proofs.Ytekmnpmeienhhaa
