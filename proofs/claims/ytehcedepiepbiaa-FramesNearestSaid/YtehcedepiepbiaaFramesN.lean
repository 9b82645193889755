/- Plain mathematics of layer 4: a frame in a text, and what stands there when a byte has turned. No Go here. -/
import Derived.Test.YtehcedepiepbiaaFramesS
import Derived.Test.YtehcedepiepbiaaFramesW
namespace Go.Proofs.Ytehcedepiepbiaa
set_option linter.unusedVariables false

theorem getD_left (a b : List UInt8) (i : Nat) (h : i < a.length) : (a ++ b).getD i 0 = a.getD i 0 := by
  simp [List.getD, List.getElem?_append_left h]
theorem getD_right (a b : List UInt8) (i : Nat) (h : a.length ≤ i) : (a ++ b).getD i 0 = b.getD (i - a.length) 0 := by
  simp [List.getD, List.getElem?_append_right h]
theorem getD_piece (s : List UInt8) (a b i : Nat) (h : a + i < b) : (piece s a b).getD i 0 = s.getD (a + i) 0 := by
  simp only [piece, List.getD, List.getElem?_take, List.getElem?_drop]
  rw [if_pos (by omega)]
theorem piece_piece (s : List UInt8) (a b i j : Nat) (h : a + j ≤ b) : piece (piece s a b) i j = piece s (a + i) (a + j) := by
  simp only [piece, List.drop_take, List.take_take, List.drop_drop]
  congr 1
  omega
theorem piece_split (s : List UInt8) (a b c : Nat) (h : a ≤ b) (k : b ≤ c) : piece s a c = piece s a b ++ piece s b c := by
  simp only [piece]
  rw [show c - a = (b - a) + (c - b) from by omega, List.take_add, List.drop_drop, show a + (b - a) = b from by omega]
theorem piece_mid (u p v : List UInt8) : piece (u ++ p ++ v) u.length (u.length + p.length) = p := by
  simp [piece]
theorem piece_right (u v : List UInt8) (i j : Nat) (h : u.length ≤ i) : piece (u ++ v) i j = piece v (i - u.length) (j - u.length) := by
  unfold piece
  rw [List.drop_append, List.drop_of_length_le h, List.nil_append]
  congr 1
  omega
theorem piece_left (u v : List UInt8) (i j : Nat) (h : j ≤ u.length) : piece (u ++ v) i j = piece u i j := by
  unfold piece
  by_cases hij : i ≤ u.length
  · rw [List.drop_append_of_le_length hij, List.take_append_of_le_length (by simp; omega)]
  · rw [show j - i = 0 from by omega]; simp

namespace M

theorem frame_getD0 (p : List UInt8) : (frameP p).getD 0 0 = 2 := rfl
theorem frame_getD1 (p : List UInt8) : (frameP p).getD 1 0 = UInt8.ofNat (p.length / 256) := rfl
theorem frame_getD2 (p : List UInt8) : (frameP p).getD 2 0 = UInt8.ofNat (p.length % 256) := rfl
theorem ofNat_toNat (n : Nat) (h : n < 256) : (UInt8.ofNat n).toNat = n := by
  rw [UInt8.toNat_ofNat']; exact Nat.mod_eq_of_lt (by omega)
theorem frame_many (p : List UInt8) (hp : p.length ≤ 16384) : many (frameP p) 0 = p.length := by
  unfold many
  rw [frame_getD1, frame_getD2, ofNat_toNat _ (by omega), ofNat_toNat _ (by omega)]
  omega
theorem frame_split (p : List UInt8) : frameP p = ([2] ++ [UInt8.ofNat (p.length / 256), UInt8.ofNat (p.length % 256)]) ++ p ++ (big 4 (sumP p) ++ [3]) := by
  simp [frameP]
theorem frame_payload (p : List UInt8) : piece (frameP p) 3 (p.length + 3) = p := by
  rw [frame_split]
  have := piece_mid ([2] ++ [UInt8.ofNat (p.length / 256), UInt8.ofNat (p.length % 256)]) p (big 4 (sumP p) ++ [3])
  simpa [Nat.add_comm] using this
theorem frame_sum (p : List UInt8) : piece (frameP p) (p.length + 3) (p.length + 7) = big 4 (sumP p) := by
  have := piece_mid ([2] ++ [UInt8.ofNat (p.length / 256), UInt8.ofNat (p.length % 256)] ++ p) (big 4 (sumP p)) [3]
  rw [big4_length] at this
  have e : ([2] ++ [UInt8.ofNat (p.length / 256), UInt8.ofNat (p.length % 256)] ++ p).length = p.length + 3 := by simp
  rw [e] at this
  exact this
theorem frame_last (p : List UInt8) : (frameP p).getD (p.length + 7) 0 = 3 := by
  unfold frameP
  rw [getD_right _ _ _ (by simp [big4_length])]
  simp [big4_length]

/-- Where one frame's bytes stand. -/
theorem stands_of {s p : List UInt8} {a : Nat} (hp : p.length ≤ 16384) (hl : a + p.length + 8 ≤ s.length) (he : piece s a (a + p.length + 8) = frameP p) : Stands s a ∧ next s a = some (p, a + p.length + 8) := by
  have g : ∀ i, i < p.length + 8 → s.getD (a + i) 0 = (frameP p).getD i 0 := fun i hi => by
    rw [← he, getD_piece _ _ _ _ (by omega)]
  have q : ∀ i j, j ≤ p.length + 8 → piece s (a + i) (a + j) = piece (frameP p) i j := fun i j hj => by
    rw [← he, piece_piece _ _ _ _ _ (by omega)]
  have hm : many s a = p.length := by
    have := frame_many p hp
    unfold many at this ⊢
    rw [g 1 (by omega), g 2 (by omega)]
    simpa using this
  have hpay : piece s (a + 3) (a + many s a + 3) = p := by
    rw [hm, show a + p.length + 3 = a + (p.length + 3) from by omega, q 3 (p.length + 3) (by omega), frame_payload]
  have hs : Stands s a := by
    refine ⟨by omega, ?_, by omega, by omega, ?_, ?_⟩
    · have := g 0 (by omega); rw [Nat.add_zero] at this; rw [this]; exact frame_getD0 p
    · rw [hm, show a + p.length + 7 = a + (p.length + 7) from by omega, g _ (by omega), frame_last]
    · rw [hpay, hm, show a + p.length + 3 = a + (p.length + 3) from by omega, show a + p.length + 7 = a + (p.length + 7) from by omega, q _ _ (by omega), frame_sum]
  exact ⟨hs, by rw [next_yes hs, hpay, hm]⟩

theorem of_stands {s : List UInt8} {a : Nat} (h : Stands s a) : piece s a (a + many s a + 8) = frameP (piece s (a + 3) (a + many s a + 3)) := by
  have hr := h.room
  have hf := h.fits
  have hlen : (piece s (a + 3) (a + many s a + 3)).length = many s a := by rw [piece_length _ _ _ (by omega) (by omega)]; omega
  have h1 := (s.getD (a + 1) 0).toNat_lt
  have h2 := (s.getD (a + 2) 0).toNat_lt
  have e1 : UInt8.ofNat (many s a / 256) = s.getD (a + 1) 0 := by
    rw [show many s a / 256 = (s.getD (a + 1) 0).toNat from by unfold many; omega, UInt8.ofNat_toNat]
  have e2 : UInt8.ofNat (many s a % 256) = s.getD (a + 2) 0 := by
    rw [show many s a % 256 = (s.getD (a + 2) 0).toNat from by unfold many; omega, UInt8.ofNat_toNat]
  unfold frameP
  rw [hlen, ← h.sum, e1, e2]
  rw [piece_split s a (a + 1) _ (by omega) (by omega), piece_split s (a + 1) (a + 2) _ (by omega) (by omega), piece_split s (a + 2) (a + 3) _ (by omega) (by omega), piece_split s (a + 3) (a + many s a + 3) (a + many s a + 8) (by omega) (by omega), piece_split s (a + many s a + 3) (a + many s a + 7) (a + many s a + 8) (by omega) (by omega)]
  rw [piece_one_at s a (by omega), piece_one_at s (a + 1) (by omega), piece_one_at s (a + 2) (by omega), show a + many s a + 8 = a + many s a + 7 + 1 from by omega, piece_one_at s (a + many s a + 7) (by omega), h.two, h.three]
  simp

theorem next_frame (p : List UInt8) (hp : p.length ≤ 16384) : next (frameP p) 0 = some (p, p.length + 8) := by
  have h := (stands_of (s := frameP p) (p := p) (a := 0) hp (by rw [frameP_length]; omega) (by
    simp only [piece, List.drop_zero]
    exact List.take_of_length_le (by rw [frameP_length]; omega))).2
  rw [h, Nat.zero_add]
theorem next_at (u p v : List UInt8) (hp : p.length ≤ 16384) : Stands (u ++ frameP p ++ v) u.length ∧ next (u ++ frameP p ++ v) u.length = some (p, u.length + p.length + 8) := by
  refine stands_of hp (by simp [frameP_length]; omega) ?_
  have := piece_mid u (frameP p) v
  rwa [frameP_length, ← Nat.add_assoc] at this

end M
end Go.Proofs.Ytehcedepiepbiaa
