/- Layer 4: the document's Next, by a contract. -/
import Derived.Test.YtehcedepiepbiaaFramesC
namespace Go.Proofs.Ytehcedepiepbiaa
set_option linter.unusedVariables false
open Go Go.RowKit
attribute [local go_sem ↓] run_index_S
attribute [local go_sem] S_append S_extract

theorem B_is (l : List UInt8) (a : Nat) : (B l a == 2) = (l.getD a 0 == 2) := by
  rw [Bool.eq_iff_iff, beq_iff_eq, beq_iff_eq]
  unfold B
  constructor
  · intro h
    exact M.u8_ext (by have : (l.getD a 0).toNat = 2 := by omega
                       rw [this]; rfl)
  · intro h; rw [h]; rfl
theorem B_is3 (l : List UInt8) (a : Nat) : (B l a == 3) = (l.getD a 0 == 3) := by
  rw [Bool.eq_iff_iff, beq_iff_eq, beq_iff_eq]
  unfold B
  constructor
  · intro h
    exact M.u8_ext (by have : (l.getD a 0).toNat = 3 := by omega
                       rw [this]; rfl)
  · intro h; rw [h]; rfl

set_option maxHeartbeats 1000000 in
set_option maxRecDepth 100000 in
theorem refNext_neg (l : List UInt8) (hl : l.length ≤ 140737488351232) (at_ : Int) (h : at_ < 0) (w : World) :
    Calls Try.prog 16 #[.string (S l), .int .i64 at_] w fun e w' => e = .returned (.tuple #[.string ⟨#[]⟩, .int .i64 0, .bool false]) ∧ w = w' := by
  go_enter Try.func16, Try.ntmps16
  go_wp2_with fail
  go_ret3
  exact ⟨rfl, rfl⟩

set_option maxHeartbeats 1000000 in
set_option maxRecDepth 100000 in
theorem refNext_far (l : List UInt8) (hl : l.length ≤ 140737488351232) (at_ : Int) (h0 : 0 ≤ at_) (h : (l.length : Int) - 8 < at_) (w : World) :
    Calls Try.prog 16 #[.string (S l), .int .i64 at_] w fun e w' => e = .returned (.tuple #[.string ⟨#[]⟩, .int .i64 0, .bool false]) ∧ w = w' := by
  have d0 : decide (at_ < 0) = false := by simp; omega
  have d1 : decide ((l.length : Int) - 8 < at_) = true := by simp; omega
  go_enter Try.func16, Try.ntmps16
  go_wp2_with fail
  go_ret3
  exact ⟨rfl, rfl⟩

set_option maxHeartbeats 1000000 in
set_option maxRecDepth 100000 in
theorem refNext_two (l : List UInt8) (hl : l.length ≤ 140737488351232) (a : Nat) (h8 : a + 8 ≤ l.length) (h2 : ¬ l.getD a 0 = 2) (w : World) :
    Calls Try.prog 16 #[.string (S l), .int .i64 a] w fun e w' => e = .returned (.tuple #[.string ⟨#[]⟩, .int .i64 0, .bool false]) ∧ w = w' := by
  have d1 : decide ((l.length : Int) - 8 < (a : Int)) = false := by simp; omega
  have hb : (B l a != 2) = true := by rw [bne, B_is]; simpa using h2
  go_enter Try.func16, Try.ntmps16
  go_wp2_with fail
  go_ret3
  exact ⟨rfl, rfl⟩

set_option maxHeartbeats 2000000 in
set_option maxRecDepth 100000 in
theorem refNext_most (l : List UInt8) (hl : l.length ≤ 140737488351232) (a : Nat) (h8 : a + 8 ≤ l.length) (h2 : l.getD a 0 = 2) (hm : 16384 < M.many l a) (w : World) :
    Calls Try.prog 16 #[.string (S l), .int .i64 a] w fun e w' => e = .returned (.tuple #[.string ⟨#[]⟩, .int .i64 0, .bool false]) ∧ Below w.heap.size w w' := by
  have d1 : decide ((l.length : Int) - 8 < (a : Int)) = false := by simp; omega
  have hb : (B l a != 2) = false := by rw [bne, B_is]; simpa using h2
  have b1 := B_range l (a + 1)
  have b2 := B_range l (a + 2)
  have t1 : ((a : Int) + 1).toNat = a + 1 := by omega
  have t2 : ((a : Int) + 2).toNat = a + 2 := by omega
  have hj : 256 * B l (a + 1) + B l (a + 2) = ((M.many l a : Nat) : Int) := by
    unfold M.many B
    omega
  generalize M.many l a = m at *
  have d3 : decide (16384 < (m : Int)) = true := by simp; omega
  go_enter Try.func16, Try.ntmps16
  go_wp2_with fail
  go_quiet (fail)
  go_wp2_with fail
  go_ret3
  exact ⟨rfl, below_drewN (Below.refl _ _) _⟩

set_option maxHeartbeats 2000000 in
set_option maxRecDepth 100000 in
theorem refNext_room (l : List UInt8) (hl : l.length ≤ 140737488351232) (a : Nat) (h8 : a + 8 ≤ l.length) (h2 : l.getD a 0 = 2) (hm : M.many l a ≤ 16384) (hf : l.length < a + M.many l a + 8) (w : World) :
    Calls Try.prog 16 #[.string (S l), .int .i64 a] w fun e w' => e = .returned (.tuple #[.string ⟨#[]⟩, .int .i64 0, .bool false]) ∧ Below w.heap.size w w' := by
  have d1 : decide ((l.length : Int) - 8 < (a : Int)) = false := by simp; omega
  have hb : (B l a != 2) = false := by rw [bne, B_is]; simpa using h2
  have b1 := B_range l (a + 1)
  have b2 := B_range l (a + 2)
  have t1 : ((a : Int) + 1).toNat = a + 1 := by omega
  have t2 : ((a : Int) + 2).toNat = a + 2 := by omega
  have hj : 256 * B l (a + 1) + B l (a + 2) = ((M.many l a : Nat) : Int) := by
    unfold M.many B
    omega
  generalize M.many l a = m at *
  have d3 : decide (16384 < (m : Int)) = false := by simp; omega
  have d4 : decide ((l.length : Int) < (a : Int) + 3 + (m : Int) + 5) = true := by simp; omega
  go_enter Try.func16, Try.ntmps16
  go_wp2_with fail
  go_quiet (fail)
  go_wp2_with fail
  go_ret3
  exact ⟨rfl, below_drewN (Below.refl _ _) _⟩

set_option maxHeartbeats 2000000 in
set_option maxRecDepth 100000 in
theorem refNext_three (l : List UInt8) (hl : l.length ≤ 140737488351232) (a : Nat) (h8 : a + 8 ≤ l.length) (h2 : l.getD a 0 = 2) (hm : M.many l a ≤ 16384) (hf : a + M.many l a + 8 ≤ l.length) (h3 : ¬ l.getD (a + M.many l a + 7) 0 = 3) (w : World) :
    Calls Try.prog 16 #[.string (S l), .int .i64 a] w fun e w' => e = .returned (.tuple #[.string ⟨#[]⟩, .int .i64 0, .bool false]) ∧ Below w.heap.size w w' := by
  have d1 : decide ((l.length : Int) - 8 < (a : Int)) = false := by simp; omega
  have hb : (B l a != 2) = false := by rw [bne, B_is]; simpa using h2
  have b1 := B_range l (a + 1)
  have b2 := B_range l (a + 2)
  have t1 : ((a : Int) + 1).toNat = a + 1 := by omega
  have t2 : ((a : Int) + 2).toNat = a + 2 := by omega
  have hj : 256 * B l (a + 1) + B l (a + 2) = ((M.many l a : Nat) : Int) := by
    unfold M.many B
    omega
  have t3 : ((a : Int) + 3 + (M.many l a : Int) + 4).toNat = a + M.many l a + 7 := by omega
  have hx : (B l (a + M.many l a + 7) != 3) = true := by rw [bne, B_is3]; simpa using h3
  generalize M.many l a = m at *
  have d3 : decide (16384 < (m : Int)) = false := by simp; omega
  have d4 : decide ((l.length : Int) < (a : Int) + 3 + (m : Int) + 5) = false := by simp; omega
  go_enter Try.func16, Try.ntmps16
  go_wp2_with fail
  go_quiet (fail)
  go_wp2_with fail
  go_ret3
  exact ⟨rfl, below_drewN (Below.refl _ _) _⟩

set_option maxHeartbeats 2000000 in
set_option maxRecDepth 100000 in
theorem refNext_sum (l : List UInt8) (hl : l.length ≤ 140737488351232) (a : Nat) (h8 : a + 8 ≤ l.length) (h2 : l.getD a 0 = 2) (hm : M.many l a ≤ 16384) (hf : a + M.many l a + 8 ≤ l.length) (h3 : l.getD (a + M.many l a + 7) 0 = 3) (hs : ¬ piece l (a + M.many l a + 3) (a + M.many l a + 7) = M.big 4 (M.sumP (piece l (a + 3) (a + M.many l a + 3)))) (w : World) :
    Calls Try.prog 16 #[.string (S l), .int .i64 a] w fun e w' => e = .returned (.tuple #[.string ⟨#[]⟩, .int .i64 0, .bool false]) ∧ Below w.heap.size w w' := by
  have d1 : decide ((l.length : Int) - 8 < (a : Int)) = false := by simp; omega
  have hb : (B l a != 2) = false := by rw [bne, B_is]; simpa using h2
  have b1 := B_range l (a + 1)
  have b2 := B_range l (a + 2)
  have t1 : ((a : Int) + 1).toNat = a + 1 := by omega
  have t2 : ((a : Int) + 2).toNat = a + 2 := by omega
  have hj : 256 * B l (a + 1) + B l (a + 2) = ((M.many l a : Nat) : Int) := by
    unfold M.many B
    omega
  have t3 : ((a : Int) + 3 + (M.many l a : Int) + 4).toNat = a + M.many l a + 7 := by omega
  have hx : (B l (a + M.many l a + 7) != 3) = false := by rw [bne, B_is3]; simpa using h3
  have hs3 := run_piece (P := Try.prog) 9 Try.underlying9 l ((a : Int) + 3) ((a : Int) + 3 + (M.many l a : Int)) (a + 3) (a + M.many l a + 3) (by omega) (by omega) (by omega) (by omega)
  have hs4 := run_piece (P := Try.prog) 9 Try.underlying9 l ((a : Int) + 3 + (M.many l a : Int)) ((a : Int) + 3 + (M.many l a : Int) + 4) (a + M.many l a + 3) (a + M.many l a + 7) (by omega) (by omega) (by omega) (by omega)
  have hpl := piece_length l (a + 3) (a + M.many l a + 3) (by omega) (by omega)
  have c1 : ∀ W, Calls Try.prog 27 #[.string (S (piece l (a + 3) (a + M.many l a + 3)))] W fun e w' => e = .returned (.int .u32 (M.sumP (piece l (a + 3) (a + M.many l a + 3)))) ∧ Below W.heap.size W w' := fun W => (refSum_any (piece l (a + 3) (a + M.many l a + 3)) (by omega) W).mono fun e w' ⟨he, hw⟩ => ⟨he, hw ▸ Below.refl _ _⟩
  have c2 := fun W => refBytes_any (M.sumP (piece l (a + 3) (a + M.many l a + 3))) (M.sumP_lt _) W
  generalize piece l (a + 3) (a + M.many l a + 3) = p at *
  generalize M.sumP p = sp at *
  generalize M.big 4 sp = v at *
  generalize piece l (a + M.many l a + 3) (a + M.many l a + 7) = u at *
  generalize M.many l a = m at *
  have d3 : decide (16384 < (m : Int)) = false := by simp; omega
  have d4 : decide ((l.length : Int) < (a : Int) + 3 + (m : Int) + 5) = false := by simp; omega
  have C1 := Lib.hid c1
  have C2 := Lib.hid c2
  clear c1 c2
  have hvu : (v == u) = false := by simp; exact fun h => hs h.symm
  go_enter Try.func16, Try.ntmps16
  go_wp2_with fail
  go_quiet (fail)
  go_wp2_with fail
  refine wp_region_quiet_below (by kernel_rfl) (by kernel_rfl) ?_
  repeat (go_big_quiet_step ((first | (go_at_call 27; with_reducible exact Calls.regrown_of (C1.out _)) | (go_at_call 26; with_reducible exact Calls.regrown_of (C2.out _)))))
  refine wpQuiet_nil ?_
  intro _ hw1
  obtain ⟨⟨d, o⟩, hw1⟩ := hw1
  subst hw1
  go_wp2_with fail
  go_ret3
  exact ⟨rfl, below_step (below_drewN (Below.refl _ _) _) (below_regrown _ d o)⟩

set_option maxHeartbeats 2000000 in
set_option maxRecDepth 100000 in
theorem refNext_stands (l : List UInt8) (hl : l.length ≤ 140737488351232) (a : Nat) (h8 : a + 8 ≤ l.length) (h2 : l.getD a 0 = 2) (hm : M.many l a ≤ 16384) (hf : a + M.many l a + 8 ≤ l.length) (h3 : l.getD (a + M.many l a + 7) 0 = 3) (hs : piece l (a + M.many l a + 3) (a + M.many l a + 7) = M.big 4 (M.sumP (piece l (a + 3) (a + M.many l a + 3)))) (w : World) :
    Calls Try.prog 16 #[.string (S l), .int .i64 a] w fun e w' => e = .returned (.tuple #[.string (S (piece l (a + 3) (a + M.many l a + 3))), .int .i64 ((a + M.many l a + 8 : Nat)), .bool true]) ∧ Below w.heap.size w w' := by
  have d1 : decide ((l.length : Int) - 8 < (a : Int)) = false := by simp; omega
  have hb : (B l a != 2) = false := by rw [bne, B_is]; simpa using h2
  have b1 := B_range l (a + 1)
  have b2 := B_range l (a + 2)
  have t1 : ((a : Int) + 1).toNat = a + 1 := by omega
  have t2 : ((a : Int) + 2).toNat = a + 2 := by omega
  have hj : 256 * B l (a + 1) + B l (a + 2) = ((M.many l a : Nat) : Int) := by
    unfold M.many B
    omega
  have t3 : ((a : Int) + 3 + (M.many l a : Int) + 4).toNat = a + M.many l a + 7 := by omega
  have hx : (B l (a + M.many l a + 7) != 3) = false := by rw [bne, B_is3]; simpa using h3
  have hs3 := run_piece (P := Try.prog) 9 Try.underlying9 l ((a : Int) + 3) ((a : Int) + 3 + (M.many l a : Int)) (a + 3) (a + M.many l a + 3) (by omega) (by omega) (by omega) (by omega)
  have hs4 := run_piece (P := Try.prog) 9 Try.underlying9 l ((a : Int) + 3 + (M.many l a : Int)) ((a : Int) + 3 + (M.many l a : Int) + 4) (a + M.many l a + 3) (a + M.many l a + 7) (by omega) (by omega) (by omega) (by omega)
  have hpl := piece_length l (a + 3) (a + M.many l a + 3) (by omega) (by omega)
  have c1 : ∀ W, Calls Try.prog 27 #[.string (S (piece l (a + 3) (a + M.many l a + 3)))] W fun e w' => e = .returned (.int .u32 (M.sumP (piece l (a + 3) (a + M.many l a + 3)))) ∧ Below W.heap.size W w' := fun W => (refSum_any (piece l (a + 3) (a + M.many l a + 3)) (by omega) W).mono fun e w' ⟨he, hw⟩ => ⟨he, hw ▸ Below.refl _ _⟩
  have c2 := fun W => refBytes_any (M.sumP (piece l (a + 3) (a + M.many l a + 3))) (M.sumP_lt _) W
  generalize piece l (a + 3) (a + M.many l a + 3) = p at *
  generalize M.sumP p = sp at *
  generalize M.big 4 sp = v at *
  generalize piece l (a + M.many l a + 3) (a + M.many l a + 7) = u at *
  generalize M.many l a = m at *
  have d3 : decide (16384 < (m : Int)) = false := by simp; omega
  have d4 : decide ((l.length : Int) < (a : Int) + 3 + (m : Int) + 5) = false := by simp; omega
  have C1 := Lib.hid c1
  have C2 := Lib.hid c2
  clear c1 c2
  subst hs
  go_enter Try.func16, Try.ntmps16
  go_wp2_with fail
  go_quiet (fail)
  go_wp2_with fail
  refine wp_region_quiet_below (by kernel_rfl) (by kernel_rfl) ?_
  repeat (go_big_quiet_step ((first | (go_at_call 27; with_reducible exact Calls.regrown_of (C1.out _)) | (go_at_call 26; with_reducible exact Calls.regrown_of (C2.out _)))))
  refine wpQuiet_nil ?_
  intro _ hw1
  obtain ⟨⟨d, o⟩, hw1⟩ := hw1
  subst hw1
  go_wp2_with fail
  have hen : (a : Int) + 3 + (m : Int) + 5 = ((a + m + 8 : Nat) : Int) := by omega
  go_ret3
  exact ⟨by first | rfl | (rw [← hen]; rfl), below_step (below_drewN (Below.refl _ _) _) (below_regrown _ d o)⟩

theorem refNext_any (l : List UInt8) (hl : l.length ≤ 140737488351232) (at_ : Int) (w : World) :
    Calls Try.prog 16 #[.string (S l), .int .i64 at_] w fun e w' => e = .returned (triF (M.nextI l at_)) ∧ Below w.heap.size w w' := by
  by_cases h0 : at_ < 0
  · rw [M.nextI_neg l at_ h0]
    exact (refNext_neg l hl at_ h0 w).mono fun e w' ⟨he, hw⟩ => ⟨he, hw ▸ Below.refl _ _⟩
  · obtain ⟨a, rfl⟩ := Int.eq_ofNat_of_zero_le (show 0 ≤ at_ by omega)
    rw [M.nextI_nat]
    by_cases h8 : l.length < a + 8
    · rw [M.next_no (fun h => by have := h.room; omega)]
      exact (refNext_far l hl a (by omega) (by omega) w).mono fun e w' ⟨he, hw⟩ => ⟨he, hw ▸ Below.refl _ _⟩
    · by_cases h2 : l.getD a 0 = 2
      · by_cases hm : 16384 < M.many l a
        · rw [M.next_no (fun h => by have := h.most; omega)]
          exact refNext_most l hl a (by omega) h2 hm w
        · by_cases hf : l.length < a + M.many l a + 8
          · rw [M.next_no (fun h => by have := h.fits; omega)]
            exact refNext_room l hl a (by omega) h2 (by omega) hf w
          · by_cases h3 : l.getD (a + M.many l a + 7) 0 = 3
            · by_cases hs : piece l (a + M.many l a + 3) (a + M.many l a + 7) = M.big 4 (M.sumP (piece l (a + 3) (a + M.many l a + 3)))
              · rw [M.next_yes ⟨by omega, h2, by omega, by omega, h3, hs⟩]
                exact refNext_stands l hl a (by omega) h2 (by omega) (by omega) h3 hs w
              · rw [M.next_no (fun h => hs h.sum)]
                exact refNext_sum l hl a (by omega) h2 (by omega) (by omega) h3 hs w
            · rw [M.next_no (fun h => h3 h.three)]
              exact refNext_three l hl a (by omega) h2 (by omega) (by omega) h3 w
      · rw [M.next_no (fun h => h2 h.two)]
        exact (refNext_two l hl a (by omega) h2 w).mono fun e w' ⟨he, hw⟩ => ⟨he, hw ▸ Below.refl _ _⟩

end Go.Proofs.Ytehcedepiepbiaa
