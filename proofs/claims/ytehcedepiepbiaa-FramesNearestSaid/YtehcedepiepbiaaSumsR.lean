/- Layer 2: the document's answers (spoorref02), each function by a contract. -/
import Derived.Test.YtehcedepiepbiaaIntsC2
import Derived.Test.YtehcedepiepbiaaSumsM
namespace Go.Proofs.Ytehcedepiepbiaa
set_option linter.unusedVariables false
open Go Go.RowKit
attribute [local go_sem ↓] run_index_S
attribute [local go_sem] S_append S_extract

theorem refParts_any (s : Nat) (hs : s < 4294967296) (w : World) :
    Calls Try.prog 39 #[.int .u32 s] w fun e w' => e = .returned (.tuple #[.int .i64 (M.partsP s).1, .int .i64 (M.partsP s).2]) ∧ w = w' := by
  have e1 : (M.partsP s).1 = s % 65536 % 65521 := rfl
  have e2 : (M.partsP s).2 = s / 65536 % 65521 := rfl
  rw [e1, e2]
  clear e1 e2
  go_enter Try.func39, Try.ntmps39
  go_wp2_with fail
  go_ret2
  exact ⟨rfl, rfl⟩

theorem refWhole_any (a b : Nat) (ha : a < 65521) (hb : b < 65521) (w : World) :
    Calls Try.prog 40 #[.int .i64 a, .int .i64 b] w fun e w' => e = .returned (.int .u32 (M.wholeP (a, b))) ∧ w = w' := by
  go_enter Try.func40, Try.ntmps40
  go_wp2_with fail
  go_ret
  exact ⟨rfl, rfl⟩

theorem step_next (p : Nat × Nat) (l : List UInt8) (k : Nat) (h : k < l.length) :
    ((M.runP p (l.take k)).1 + B l k) % 65521 = (M.runP p (l.take (k + 1))).1 ∧ ((M.runP p (l.take k)).2 + ((M.runP p (l.take k)).1 + B l k) % 65521) % 65521 = ((M.runP p (l.take (k + 1))).2 : Int) := by
  rw [M.runP_take p l k h, B_at l k h]
  simp only [M.stepP]
  omega

set_option maxHeartbeats 400000 in
theorem refMore_any (s : Nat) (hs : s < 4294967296) (l : List UInt8) (hl : l.length ≤ 9223372036854775807) (w : World) :
    Calls Try.prog 32 #[.int .u32 s, .string (S l)] w fun e w' => e = .returned (.int .u32 (M.moreP s l)) ∧ w = w' := by
  have hp := M.partsP_lt s
  go_enter Try.func32, Try.ntmps32
  go_wp2_with (go_at_call 39; refine (refParts_any s hs _).mono ?_; rintro e w' ⟨rfl, rfl⟩)
  go_loop [5, 6, 7] (fun a b i => ∃ k : Nat, k ≤ l.length ∧ a = .int .i64 (M.runP (M.partsP s) (l.take k)).1 ∧ b = .int .i64 (M.runP (M.partsP s) (l.take k)).2 ∧ i = .int .i64 k) (fun _ _ i => l.length - (intOf i).toNat)
  case atStart => exact ⟨0, Nat.zero_le _, rfl, rfl, rfl⟩
  case round =>
    obtain ⟨k, hk, rfl, rfl, rfl⟩ := hrel
    have hq := M.runP_lt (M.partsP s) hp (l.take k)
    by_cases hkl : k < l.length
    · have hst := step_next (M.partsP s) l k hkl
      have hbr := B_range l k
      generalize M.runP (M.partsP s) (l.take k) = q at *
      have HST := Lib.hid hst
      clear hst
      go_wp2_with fail
      go_round
      case rel => exact ⟨k + 1, by omega, by rw [← HST.out.1], by rw [← HST.out.2], by go_num⟩
      case measure => simp [intOf]; omega
    · obtain rfl : k = l.length := by omega
      have ht : M.runP (M.partsP s) (l.take l.length) = M.runP (M.partsP s) l := by rw [List.take_length]
      rw [ht] at hq ⊢
      clear ht
      obtain ⟨q, hqq⟩ : ∃ q, q = M.runP (M.partsP s) l := ⟨_, rfl⟩
      rw [← hqq] at hq ⊢
      have HQ := Lib.hid hqq
      clear hqq
      go_wp2_with (go_at_call 40; refine (refWhole_any _ _ hq.1 hq.2 _).mono ?_; rintro e w' ⟨rfl, rfl⟩)
      go_ret
      exact ⟨ret_int (by rw [HQ.out]; rfl), rfl⟩

theorem refSum_any (l : List UInt8) (hl : l.length ≤ 9223372036854775807) (w : World) :
    Calls Try.prog 27 #[.string (S l)] w fun e w' => e = .returned (.int .u32 (M.sumP l)) ∧ w = w' := by
  have h1 : ∀ W, Calls Try.prog 32 #[.int .u32 1, .string (S l)] W fun e w' => e = .returned (.int .u32 (M.moreP 1 l)) ∧ W = w' := fun W => refMore_any 1 (by decide) l hl W
  have H1 := Lib.hid h1
  clear h1
  go_enter Try.func27, Try.ntmps27
  go_wp2_with fail
  with_reducible refine (H1.out _).mono ?_
  rintro e w3 ⟨rfl, rfl⟩
  go_wp2_with fail
  go_ret
  exact ⟨rfl, rfl⟩

end Go.Proofs.Ytehcedepiepbiaa
