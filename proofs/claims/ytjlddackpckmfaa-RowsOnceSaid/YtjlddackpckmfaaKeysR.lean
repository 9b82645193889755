/- Layer 8: the document's zero, by a contract; a key's parts by places. -/
import Derived.Test.YtjlddackpckmfaaKeysP2
namespace Go.Proofs.Ytjlddackpckmfaa
set_option linter.unusedVariables false
open Go Go.RowKit Go.Sort
attribute [local go_sem ↓] run_index_S
attribute [local go_sem] S_append S_extract

theorem B_is0 (l : List UInt8) (a : Nat) : (B l a == 0) = (l.getD a 0 == 0) := by
  rw [Bool.eq_iff_iff, beq_iff_eq, beq_iff_eq]
  unfold B
  constructor
  · intro h
    exact UInt8.toNat_inj.1 (by simpa using h)
  · intro h; rw [h]; rfl
/-- The first byte 0 from a place on. -/
def ZeroAt (l : List UInt8) (a : Nat) (r : Int) : Prop := (r = -1 ∧ 0 ∉ l.drop a) ∨ ∃ k : Nat, r = k ∧ a ≤ k ∧ k < l.length ∧ M.cut0 (l.drop a) = (piece l a k, l.drop (k + 1))
theorem zeroAt_some {l : List UInt8} {a k : Nat} (ha : a ≤ k) (hk : k < l.length) (h0 : l.getD k 0 = 0) (hn : ∀ j, a ≤ j → j < k → l.getD j 0 ≠ 0) : M.cut0 (l.drop a) = (piece l a k, l.drop (k + 1)) := by
  have e : l.drop a = piece l a k ++ 0 :: l.drop (k + 1) := by
    have h1 : l.drop a = (l.drop a).take (k - a) ++ (l.drop a).drop (k - a) := (List.take_append_drop _ _).symm
    conv => lhs; rw [h1]
    rw [List.drop_drop, show a + (k - a) = k by omega, List.drop_eq_getElem_cons hk]
    rw [List.getD, List.getElem?_eq_getElem hk] at h0
    simp only [Option.getD_some] at h0
    rw [h0]
    rfl
  have hz : 0 ∉ piece l a k := fun hm => by
    obtain ⟨j, hj, hj2⟩ := List.getElem_of_mem hm
    have hl : (piece l a k).length = k - a := piece_length _ _ _ ha (by omega)
    refine hn (a + j) (by omega) (by omega) ?_
    rw [List.getD, List.getElem?_eq_getElem (by omega)]
    simp only [piece, List.getElem_take, List.getElem_drop] at hj2
    simpa using hj2
  rw [e, M.cut0_some _ _ hz]

set_option maxHeartbeats 1000000 in
theorem zero_any (l : List UInt8) (hl : l.length ≤ 140737488351232) (a : Nat) (ha : a ≤ l.length) (w : World) :
    Calls Try.prog 60 #[.string (S l), .int .i64 a] w fun e w' => (∃ r, e = .returned (.int .i64 r) ∧ ZeroAt l a r) ∧ w = w' := by
  go_enter Try.func60, Try.ntmps60
  go_wp2_with fail
  go_loopw [5] (fun i wr => ∃ k : Nat, a ≤ k ∧ k ≤ l.length ∧ i = .int .i64 k ∧ (∀ j, a ≤ j → j < k → l.getD j 0 ≠ 0) ∧ wr = w) (fun i _ => l.length - (intOf i).toNat)
  case atStart => exact ⟨a, Nat.le_refl _, ha, rfl, fun j h1 h2 => by omega, rfl⟩
  case round =>
    obtain ⟨k, hak, hk, rfl, hn, rfl⟩ := hrel
    have HN := Lib.hid hn
    clear hn
    by_cases hkl : k < l.length
    · have d1 : decide ((k : Int) < (l.length : Int)) = true := by simp; omega
      have hB := B_is0 l k
      by_cases h0 : l.getD k 0 = 0
      · have hb : (B l k == 0) = true := by rw [hB]; simpa using h0
        have HZ := Lib.hid (zeroAt_some hak hkl h0 HN.out)
        clear hB h0
        go_wp2_with fail
        go_ret
        exact ⟨⟨_, rfl, .inr ⟨k, rfl, hak, hkl, HZ.out⟩⟩, rfl⟩
      · have hb : (B l k == 0) = false := by rw [hB]; simpa using h0
        have H2 := Lib.hid (show ∀ j, a ≤ j → j < k + 1 → l.getD j 0 ≠ 0 from fun j h1 h2 => by
          by_cases e : j = k
          · subst e; exact h0
          · exact HN.out j h1 (by omega))
        clear hB h0
        go_wp2_with fail
        go_roundw
        case rel => exact ⟨k + 1, by omega, by omega, by go_num, H2.out, trivial⟩
        case measure => simp [intOf]; omega
    · obtain rfl : k = l.length := by omega
      have d1 : decide ((l.length : Int) < (l.length : Int)) = false := by simp
      have hno : 0 ∉ l.drop a := fun hm => by
        obtain ⟨j, hj, hj2⟩ := List.getElem_of_mem hm
        simp at hj
        refine HN.out (a + j) (by omega) (by omega) ?_
        rw [List.getD, List.getElem?_eq_getElem (by omega)]
        simpa using hj2
      go_wp2_with fail
      go_ret
      exact ⟨⟨_, rfl, .inl ⟨rfl, hno⟩⟩, rfl⟩

theorem ofBigs_drop (l : List UInt8) (a n : Nat) : M.ofBigs l ((a + n : Nat) : Int) = M.ofBigs (l.drop a) (n : Int) := by
  have g : l.getD (a + n) 0 = (l.drop a).getD n 0 := by simp [List.getD, List.getElem?_drop]
  have c : ((l.length : Int) - 8 < ((a + n : Nat) : Int)) ↔ (((l.drop a).length : Int) - 8 < (n : Int)) := by rw [List.length_drop]; omega
  have z1 : ¬ (((a + n : Nat) : Int) < 0) := by omega
  have z2 : ¬ ((n : Int) < 0) := by omega
  unfold M.ofBigs
  rw [Int.toNat_natCast, Int.toNat_natCast, g, List.drop_drop]
  simp only [z1, z2, c, false_or]

def zf (l : List UInt8) (a : Nat) : Int := if 0 ∈ l.drop a then ((a + (M.cut0 (l.drop a)).1.length : Nat) : Int) else -1
theorem zf_of {l : List UInt8} {a : Nat} {r : Int} (h : ZeroAt l a r) : r = zf l a := by
  rcases h with ⟨rfl, h⟩ | ⟨k, rfl, h1, h2, h3⟩
  · rw [zf, if_neg h]
  · have hm : 0 ∈ l.drop a := by
      by_cases m : 0 ∈ l.drop a
      · exact m
      · rw [M.cut0_none _ m] at h3
        have := congrArg (fun x => x.1.length) h3
        simp only [List.length_drop] at this
        rw [piece_length _ _ _ h1 (by omega)] at this
        omega
    rw [zf, if_pos hm, h3]
    simp only
    rw [piece_length _ _ _ h1 (by omega)]
    omega
theorem zf_spec (l : List UInt8) (a : Nat) (ha : a ≤ l.length) : ZeroAt l a (zf l a) := by
  by_cases m : 0 ∈ l.drop a
  · obtain ⟨e, hn⟩ := M.cut0_parts _ m
    have hlen : (l.drop a).length = (M.cut0 (l.drop a)).1.length + 1 + (M.cut0 (l.drop a)).2.length := by
      conv => lhs; rw [e]
      simp; omega
    rw [List.length_drop] at hlen
    refine .inr ⟨a + (M.cut0 (l.drop a)).1.length, by rw [zf, if_pos m], by omega, by omega, ?_⟩
    generalize (M.cut0 (l.drop a)).1 = p at *
    generalize (M.cut0 (l.drop a)).2 = q at *
    have e1 : piece l a (a + p.length) = p := by
      unfold piece
      rw [e, show a + p.length - a = p.length by omega, List.take_left]
    have e2 : l.drop (a + p.length + 1) = q := by
      rw [show a + p.length + 1 = a + (p.length + 1) by omega, ← List.drop_drop, e]
      simp
    rw [e1, e2, e, M.cut0_some _ _ hn]
  · exact .inl ⟨by rw [zf, if_neg m], m⟩
theorem zero_fn (l : List UInt8) (hl : l.length ≤ 140737488351232) (a : Nat) (ha : a ≤ l.length) (w : World) :
    Calls Try.prog 60 #[.string (S l), .int .i64 a] w fun e w' => e = .returned (.int .i64 (zf l a)) ∧ w = w' :=
  (zero_any l hl a ha w).mono fun e w' ⟨⟨r, he, hz⟩, hw⟩ => ⟨by rw [he, zf_of hz], hw⟩

end Go.Proofs.Ytjlddackpckmfaa
