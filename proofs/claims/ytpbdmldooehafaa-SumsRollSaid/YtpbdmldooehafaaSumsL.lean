/- Layer 2: the laws' walks: SumsOf, SumsJoin. -/
import Derived.Test.YtpbdmldooehafaaSumsD
import Derived.Test.YtpbdmldooehafaaSumsM2
import Derived.Test.YtpbdmldooehafaaBytes
namespace Go.Proofs.Ytpbdmldooehafaa
set_option linter.unusedVariables false
open Go Go.RowKit
attribute [local go_sem ↓] run_index_S
attribute [local go_sem] S_append S_extract

theorem u32_range {n : Int} (h : (Lit.int .u32 n).wf = true) : 0 ≤ n ∧ n < 4294967296 := by
  simp [Lit.wf, IntKind.min, IntKind.max, IntKind.signed, IntKind.bits] at h
  omega
theorem u8_range {n : Int} (h : (Lit.int .u8 n).wf = true) : 0 ≤ n ∧ n ≤ 255 := by
  simp [Lit.wf, IntKind.min, IntKind.max, IntKind.signed, IntKind.bits] at h
  omega

set_option maxHeartbeats 1000000 in
theorem sumsOf_calls (l : List UInt8) (hl : l.length ≤ 140737488351232) (n : Int) (wn : (Lit.int .u32 n).wf = true) (w : World) :
    Calls Try.prog 10 #[.string (S l), .int .u32 n] w fun e w' => e = .returned (.bool true) ∧ Below w.heap.size w w' := by
  have hn := u32_range wn
  by_cases h : 50000 < l.length
  · go_enter Try.func10, Try.ntmps10
    go_wp2_with fail
    go_ret
    exact ⟨rfl, Below.refl _ _⟩
  · obtain ⟨s, rfl⟩ := Int.eq_ofNat_of_zero_le hn.1
    have hs : s < 4294967296 := by omega
    have hl1 : l.length ≤ 50000 := by omega
    go_enter Try.func10, Try.ntmps10
    go_wp2_with fail
    with_reducible refine (sum0_any l (by omega) _).mono ?_
    rintro e w1 ⟨rfl, hb1⟩
    go_wp2_with fail
    with_reducible refine (refSum_any l (by omega) _).mono ?_
    rintro e w' ⟨rfl, rfl⟩
    go_wp2_with fail
    with_reducible refine (more_any s hs l (by omega) _).mono ?_
    rintro e w2 ⟨rfl, hb2⟩
    go_wp2_with fail
    with_reducible refine (refMore_any s hs l (by omega) _).mono ?_
    rintro e w' ⟨rfl, rfl⟩
    go_wp2_with fail
    with_reducible refine (does2 _).mono ?_
    rintro e w3 ⟨rfl, hb3⟩
    go_wp2_with fail
    go_ret
    exact ⟨rfl, below_step (below_step hb1 hb2) hb3⟩

set_option maxHeartbeats 1000000 in
theorem sumsJoin_calls (a : List UInt8) (ha : a.length ≤ 140737488351232) (b : List UInt8) (hb : b.length ≤ 140737488351232) (w : World) :
    Calls Try.prog 12 #[.string (S a), .string (S b)] w fun e w' => e = .returned (.bool true) ∧ Below w.heap.size w w' := by
  by_cases h : 50000 < a.length
  · go_enter Try.func12, Try.ntmps12
    go_wp2_with fail
    go_ret
    exact ⟨rfl, Below.refl _ _⟩
  · by_cases h2 : 50000 < b.length
    · go_enter Try.func12, Try.ntmps12
      go_wp2_with fail
      go_ret
      exact ⟨rfl, Below.refl _ _⟩
    · have hl1 : a.length ≤ 50000 := by omega
      have hl2 : b.length ≤ 50000 := by omega
      have hlt := M.sumP_lt a
      have c1 := fun W => sum0_any a (by omega) W
      have c2 := fun W => more_any (M.sumP a) hlt b (by omega) W
      have c3 := fun W => sum0_any (a ++ b) (by simp; omega) W
      have c4 : ∀ W, Calls Try.prog 30 #[.int .u32 (M.sumP a), .string ⟨#[]⟩] W fun e w' => e = .returned (.int .u32 (M.moreP (M.sumP a) [])) ∧ Below W.heap.size W w' := fun W => more_any (M.sumP a) hlt [] (by simp) W
      have e1 : M.moreP (M.sumP a) b = M.sumP (a ++ b) := M.moreP_app 1 a b
      have e2 : M.moreP (M.sumP a) [] = M.sumP a := by
        have := M.moreP_app 1 a []
        rw [List.append_nil] at this
        exact this
      rw [e1] at c2
      rw [e2] at c4
      clear e1 e2
      generalize M.sumP a = x at *
      generalize M.sumP (a ++ b) = y at *
      have C1 := Lib.hid c1
      have C2 := Lib.hid c2
      have C3 := Lib.hid c3
      have C4 := Lib.hid c4
      clear c1 c2 c3 c4
      go_enter Try.func12, Try.ntmps12
      go_wp2_with fail
      with_reducible refine (C1.out _).mono ?_
      rintro e w1 ⟨rfl, hb1⟩
      go_wp2_with fail
      with_reducible refine (C2.out _).mono ?_
      rintro e w2 ⟨rfl, hb2⟩
      go_wp2_with fail
      with_reducible refine (C3.out _).mono ?_
      rintro e w3 ⟨rfl, hb3⟩
      go_wp2_with fail
      with_reducible refine (C1.out _).mono ?_
      rintro e w4 ⟨rfl, hb4⟩
      go_wp2_with fail
      with_reducible refine (C4.out _).mono ?_
      rintro e w5 ⟨rfl, hb5⟩
      go_wp2_with fail
      with_reducible refine (C1.out _).mono ?_
      rintro e w6 ⟨rfl, hb6⟩
      go_wp2_with fail
      with_reducible refine (does2 _).mono ?_
      rintro e w7 ⟨rfl, hb7⟩
      go_wp2_with fail
      go_ret
      exact ⟨rfl, below_step (below_step (below_step (below_step (below_step (below_step hb1 hb2) hb3) hb4) hb5) hb6) hb7⟩

end Go.Proofs.Ytpbdmldooehafaa
