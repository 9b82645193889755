/- Plain mathematics of layer 4: a row of frames, and one byte of it turned. No Go here. -/
import Derived.Test.YtehcedepiepbiaaFramesD
namespace Go.Proofs.Ytehcedepiepbiaa
set_option linter.unusedVariables false
open Go Go.RowKit

theorem getElem?_piece (s : List UInt8) (a c m : Nat) : (piece s a c)[m]? = if m < c - a then s[a + m]? else none := by
  simp only [piece, List.getElem?_take, List.getElem?_drop]
theorem piece_set_out (s : List UInt8) (i : Nat) (x : UInt8) (a c : Nat) (h : i < a ∨ c ≤ i) : piece (s.set i x) a c = piece s a c := by
  apply List.ext_getElem?
  intro m
  rw [getElem?_piece, getElem?_piece]
  by_cases hm : m < c - a
  · rw [if_pos hm, if_pos hm, List.getElem?_set_ne (by omega)]
  · rw [if_neg hm, if_neg hm]
theorem piece_set_in (s : List UInt8) (i : Nat) (x : UInt8) (a c : Nat) (h : a ≤ i) (k : i < c) (hl : c ≤ s.length) : piece (s.set i x) a c = (piece s a c).set (i - a) x := by
  apply List.ext_getElem?
  intro m
  rw [getElem?_piece]
  by_cases hm : m < c - a
  · rw [if_pos hm]
    by_cases e : m = i - a
    · subst e
      rw [show a + (i - a) = i from by omega, List.getElem?_set_self (by omega), List.getElem?_set_self (by rw [piece_length _ _ _ (by omega) hl]; omega)]
    · rw [List.getElem?_set_ne (by omega), List.getElem?_set_ne (by omega), getElem?_piece, if_pos hm]
  · rw [if_neg hm]
    rw [List.getElem?_eq_none (by rw [List.length_set, piece_length _ _ _ (by omega) hl]; omega)]

theorem txtOf_split (ps : List (List UInt8)) (j : Nat) (h : j < ps.length) : txtOf ps = txtOf (ps.take j) ++ M.frameP (ps.getD j []) ++ txtOf (ps.drop (j + 1)) := by
  have e : ps = ps.take j ++ ps.getD j [] :: ps.drop (j + 1) := by
    conv => lhs; rw [← List.take_append_drop j ps, List.drop_eq_getElem_cons h]
    simp [List.getD, List.getElem?_eq_getElem h]
  conv => lhs; rw [e]
  simp [txtOf]
theorem offs_step (ps : List (List UInt8)) (j : Nat) (h : j < ps.length) : offs ps (j + 1) = offs ps j + (ps.getD j []).length + 8 := by
  unfold offs
  rw [txtOf_step ps j h, List.length_append, M.frameP_length]
  omega
theorem offs_mono (ps : List (List UInt8)) : ∀ (d j : Nat), j + d ≤ ps.length → offs ps j ≤ offs ps (j + d)
  | 0, j, _ => Nat.le_refl _
  | d + 1, j, h => by
    have := offs_mono ps d j (by omega)
    have := offs_step ps (j + d) (by omega)
    rw [show j + (d + 1) = j + d + 1 from by omega]
    omega
theorem offs_le (ps : List (List UInt8)) {j k : Nat} (h : j ≤ k) (hk : k ≤ ps.length) : offs ps j ≤ offs ps k := by
  have := offs_mono ps (k - j) j (by omega)
  rwa [show j + (k - j) = k from by omega] at this
theorem offs_end (ps : List (List UInt8)) (j : Nat) (h : j ≤ ps.length) : offs ps j ≤ (txtOf ps).length := by
  have := offs_le ps h (Nat.le_refl _)
  unfold offs at this ⊢
  rwa [List.take_length] at this
theorem row_piece (ps : List (List UInt8)) (j : Nat) (h : j < ps.length) : offs ps j + (ps.getD j []).length + 8 ≤ (txtOf ps).length ∧ piece (txtOf ps) (offs ps j) (offs ps j + (ps.getD j []).length + 8) = M.frameP (ps.getD j []) := by
  have hs := txtOf_split ps j h
  refine ⟨?_, ?_⟩
  · rw [← offs_step ps j h]; exact offs_end ps (j + 1) (by omega)
  · have := piece_mid (txtOf (ps.take j)) (M.frameP (ps.getD j [])) (txtOf (ps.drop (j + 1)))
    rw [← hs, M.frameP_length] at this
    rw [Nat.add_assoc]
    exact this
theorem row_next (ps : List (List UInt8)) (h3 : ∀ j, j < ps.length → (ps.getD j []).length ≤ 300) (j : Nat) (h : j < ps.length) : M.Stands (txtOf ps) (offs ps j) ∧ M.next (txtOf ps) (offs ps j) = some (ps.getD j [], offs ps j + (ps.getD j []).length + 8) := by
  obtain ⟨h1, h2⟩ := row_piece ps j h
  exact M.stands_of (by have := h3 j h; omega) h1 h2

/-- Another frame's byte has turned. -/
theorem damage_other (ps : List (List UInt8)) (h3 : ∀ j, j < ps.length → (ps.getD j []).length ≤ 300) (k off : Nat) (hk : k < ps.length) (ho : off < (ps.getD k []).length + 4) (x : UInt8) (j : Nat) (h : j < ps.length) (hjk : j ≠ k) :
    M.next ((txtOf ps).set (offs ps k + 3 + off) x) (offs ps j) = some (ps.getD j [], offs ps j + (ps.getD j []).length + 8) := by
  obtain ⟨h1, h2⟩ := row_piece ps j h
  have s1 := offs_step ps j h
  have s2 := offs_step ps k hk
  refine (M.stands_of (by have := h3 j h; omega) (by rw [List.length_set]; exact h1) ?_).2
  rw [piece_set_out, h2]
  by_cases hlt : j < k
  · right
    have := offs_le ps (show j + 1 ≤ k from hlt) (by omega)
    omega
  · left
    have := offs_le ps (show k + 1 ≤ j by omega) (by omega)
    omega
/-- The frame's own byte has turned. -/
theorem damage_own (ps : List (List UInt8)) (h3 : ∀ j, j < ps.length → (ps.getD j []).length ≤ 300) (k off : Nat) (hk : k < ps.length) (ho : off < (ps.getD k []).length + 4) (x : UInt8) (hx : ¬ x = (txtOf ps).getD (offs ps k + 3 + off) 0) :
    M.next ((txtOf ps).set (offs ps k + 3 + off) x) (offs ps k) = none := by
  obtain ⟨h1, h2⟩ := row_piece ps k hk
  have h300 := h3 k hk
  generalize ps.getD k [] = p at *
  generalize offs ps k = a at *
  generalize txtOf ps = s at *
  have g : ∀ m, m < p.length + 8 → s.getD (a + m) 0 = (M.frameP p).getD m 0 := fun m hm => by
    rw [← h2, getD_piece _ _ _ _ (by omega)]
  have q : ∀ m n, n ≤ p.length + 8 → piece s (a + m) (a + n) = piece (M.frameP p) m n := fun m n hn => by
    rw [← h2, piece_piece _ _ _ _ _ (by omega)]
  refine M.next_no fun hs => hx ?_
  have hm : M.many (s.set (a + 3 + off) x) a = p.length := by
    rw [← M.frame_many p (by omega)]
    unfold M.many
    rw [Nat.zero_add, Nat.zero_add, ← g 1 (by omega), ← g 2 (by omega)]
    simp only [List.getD]
    rw [List.getElem?_set_ne (by omega), List.getElem?_set_ne (by omega)]
  have hsum := hs.sum
  rw [hm] at hsum
  have hpay : piece s (a + 3) (a + p.length + 3) = p := by
    rw [show a + p.length + 3 = a + (p.length + 3) from by omega, q 3 (p.length + 3) (by omega), M.frame_payload]
  have hsm : piece s (a + p.length + 3) (a + p.length + 7) = M.big 4 (M.sumP p) := by
    rw [show a + p.length + 3 = a + (p.length + 3) from by omega, show a + p.length + 7 = a + (p.length + 7) from by omega, q _ _ (by omega), M.frame_sum]
  by_cases hoff : off < p.length
  · rw [piece_set_in s (a + 3 + off) x (a + 3) (a + p.length + 3) (by omega) (by omega) (by omega), piece_set_out s (a + 3 + off) x (a + p.length + 3) (a + p.length + 7) (by omega), hpay, hsm, show a + 3 + off - (a + 3) = off from by omega, M.big4_inj _ _ (M.sumP_lt _) (M.sumP_lt _)] at hsum
    have := (M.sum_one p off hoff x).1 hsum.symm
    have hg : p.getD off 0 = s.getD (a + 3 + off) 0 := by
      conv => lhs; rw [← hpay]
      rw [getD_piece _ _ _ _ (by omega)]
    rw [← hg, this, List.getD, List.getElem?_eq_getElem hoff]
    rfl
  · rw [piece_set_out s (a + 3 + off) x (a + 3) (a + p.length + 3) (by omega), piece_set_in s (a + 3 + off) x (a + p.length + 3) (a + p.length + 7) (by omega) (by omega) (by omega), hpay, hsm] at hsum
    have e1 : ((M.big 4 (M.sumP p)).set (a + 3 + off - (a + p.length + 3)) x).getD (off - p.length) 0 = (M.big 4 (M.sumP p)).getD (off - p.length) 0 := by rw [hsum]
    rw [show a + 3 + off - (a + p.length + 3) = off - p.length from by omega, List.getD, List.getElem?_set_self (by rw [M.big4_length]; omega)] at e1
    have hg : (M.big 4 (M.sumP p)).getD (off - p.length) 0 = s.getD (a + 3 + off) 0 := by
      rw [← hsm, getD_piece _ _ _ _ (by omega), show a + p.length + 3 + (off - p.length) = a + 3 + off from by omega]
    rw [← hg, ← e1]
    rfl

/-- A text list that came in. -/
theorem open_txts {H : Type} {enc : TypeId × Value → H} {W : World} {r : Reach} {b0 : Nat} {v : Value} {d : DataW H} {p : List MemPlace}
    (hv : Value.okWide Try.prog W r b0 30 v) (h : DataW.Trod enc Try.prog W 0 (fun _ => true) true 30 v d p) : ∃ ps, TxtArg W v ps := by
  obtain ⟨a0, len, cap, rfl⟩ := WideShapes.okWide_slice Try.underlying30 hv
  obtain ⟨fuel, hf⟩ := h
  rcases ChangeShapes.open_strings Try.underlying30 Try.underlying9 (by kernel_rfl) hf with ⟨hcs, hx⟩ | ⟨a, len', cap', ss, hcs, _, hl, hm, hz, hx, hcell, hsz⟩
  · simp [Value.cells] at hcs
    obtain ⟨rfl, rfl, rfl⟩ := hcs
    exact ⟨[], none, 0, rfl, by simp, .inl rfl⟩
  · simp [Value.cells] at hcs
    obtain ⟨rfl, rfl, rfl⟩ := hcs
    simp only [if_true] at hz
    refine ⟨(ss.take len).map (fun s => s.data.toList), some a, cap, ?_, ?_, .inr ⟨a, rfl, fun j hj => ?_⟩⟩
    · simp; omega
    · simp; omega
    · simp at hj
      rw [hcell j (by omega)]
      simp [List.getD, show j < ss.length from by omega, show j < len from by omega, S]

end Go.Proofs.Ytehcedepiepbiaa
