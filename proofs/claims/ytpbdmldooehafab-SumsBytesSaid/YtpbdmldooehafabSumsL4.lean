/- Layer 2: the laws' walks, continued: SumsBytes, SumsPlaces. -/
import Derived.Test.YtpbdmldooehafabSumsL2
namespace Go.Proofs.Ytpbdmldooehafab
set_option linter.unusedVariables false
open Go Go.RowKit
attribute [local go_sem ↓] run_index_S
attribute [local go_sem] S_append S_extract

theorem val8_step4 (n c : Nat) (hc : c < 4) (q : List UInt8) (hq : q.length = 4) : (M.val8 (q.take c) : Int) * 256 + B q c = (M.val8 (q.take (c + 1)) : Nat) ∧ M.val8 (q.take c) ≤ 16777215 := by
  have h1 := M.val8_lt (q.take c)
  have h2 : (q.take c).length = c := by rw [List.length_take]; omega
  rw [h2] at h1
  have h3 : 256 ^ c ≤ 256 ^ 3 := Nat.pow_le_pow_right (by decide) (by omega)
  rw [M.val8_take q c (by omega), B_at q c (by omega)]
  refine ⟨by simp, by omega⟩

set_option maxHeartbeats 1000000 in
theorem sumsBytes_calls (a : Int) (wa : (Lit.int .u32 a).wf = true) (b : Int) (wb : (Lit.int .u32 b).wf = true) (w : World) :
    Calls Try.prog 4 #[.int .u32 a, .int .u32 b] w fun e w' => e = .returned (.bool true) ∧ Below w.heap.size w w' := by
  have ha := u32_range wa
  have hb := u32_range wb
  obtain ⟨x, rfl⟩ := Int.eq_ofNat_of_zero_le ha.1
  obtain ⟨y, rfl⟩ := Int.eq_ofNat_of_zero_le hb.1
  have hx : x < 4294967296 := by omega
  have hy : y < 4294967296 := by omega
  have c1 := fun W => bytes_any x hx W
  have c2 := fun W => bytes_any y hy W
  have hlx := M.big4_length x
  have hly := M.big4_length y
  have n1 : (((M.big 4 x).length : Int) != 4) = false := by rw [hlx]; rfl
  have n2 : (((M.big 4 y).length : Int) != 4) = false := by rw [hly]; rfl
  have e1 : (M.big 4 x == M.big 4 y) = ((x : Int) == (y : Int)) := by
    rw [Bool.eq_iff_iff, beq_iff_eq, beq_iff_eq, M.big4_inj x y hx hy]; omega
  have e2 := M.less_big4 x y hx hy
  have e3 : M.val8 ((M.big 4 x).take 4) = x := by rw [List.take_of_length_le (by omega), M.val8_big4 x hx]
  generalize M.big 4 x = p at *
  generalize M.big 4 y = q at *
  have C1 := Lib.hid c1
  have C2 := Lib.hid c2
  have E3 := Lib.hid e3
  have HLX := Lib.hid hlx
  have hlx4 : 4 ≤ p.length := by omega
  clear c1 c2 e3 hlx hly
  go_enter Try.func4, Try.ntmps4
  go_wp2_with fail
  with_reducible refine (C1.out _).mono ?_
  rintro e w1 ⟨rfl, hb1⟩
  go_wp2_with fail
  with_reducible refine (C2.out _).mono ?_
  rintro e w2 ⟨rfl, hb2⟩
  go_wp2_with fail
  go_loop [7, 8] (fun n i => ∃ c : Nat, c ≤ 4 ∧ n = .int .u32 (M.val8 (p.take c) : Nat) ∧ i = .int .i64 c) (fun _ i => 4 - (intOf i).toNat)
  case atStart => exact ⟨0, by omega, rfl, rfl⟩
  case round =>
    obtain ⟨c, hc, rfl, rfl⟩ := hrel
    by_cases hc4 : c < 4
    · have hst := val8_step4 x c hc4 p HLX.out
      have hbr := B_range p c
      have hv := hst.2
      generalize M.val8 (p.take c) = v at *
      have HST := Lib.hid hst
      clear hst
      go_wp2_with fail
      go_round
      case rel => exact ⟨c + 1, by omega, by rw [← HST.out.1], by go_num⟩
      case measure => simp [intOf]; omega
    · obtain rfl : c = 4 := by omega
      rw [E3.out]
      go_wp2_with fail
      with_reducible refine (does2 _).mono ?_
      rintro e w3 ⟨rfl, hb3⟩
      go_wp2_with fail
      go_ret
      exact ⟨rfl, below_step (below_step hb1 hb2) hb3⟩

set_option maxHeartbeats 1000000 in
set_option maxRecDepth 100000 in
theorem sumsPlaces_out (l : List UInt8) (hl : l.length ≤ 140737488351232) (i k : Int) (w : World) (h : 50000 < l.length ∨ i < 0 ∨ (l.length : Int) ≤ i ∨ k < 0 ∨ (l.length : Int) ≤ k) :
    Calls Try.prog 3 #[.string (S l), .int .i64 i, .int .i64 k] w fun e w' => e = .returned (.bool true) ∧ Below w.heap.size w w' := by
  by_cases h0 : 50000 < l.length
  · go_enter Try.func3, Try.ntmps3
    go_wp2_with fail
    with_reducible refine (does2 _).mono ?_
    rintro e w3 ⟨rfl, hb3⟩
    go_wp2_with fail
    go_ret
    exact ⟨rfl, hb3⟩
  · by_cases h1 : i < 0
    · go_enter Try.func3, Try.ntmps3
      go_wp2_with fail
      with_reducible refine (does2 _).mono ?_
      rintro e w3 ⟨rfl, hb3⟩
      go_wp2_with fail
      go_ret
      exact ⟨rfl, hb3⟩
    · by_cases h2 : (l.length : Int) ≤ i
      · go_enter Try.func3, Try.ntmps3
        go_wp2_with fail
        with_reducible refine (does2 _).mono ?_
        rintro e w3 ⟨rfl, hb3⟩
        go_wp2_with fail
        go_ret
        exact ⟨rfl, hb3⟩
      · by_cases h3 : k < 0
        · have hk : decide (k < 0) = true := by simpa using h3
          go_enter Try.func3, Try.ntmps3
          go_wp2_with fail
          with_reducible refine (does2 _).mono ?_
          rintro e w3 ⟨rfl, hb3⟩
          go_wp2_with fail
          go_ret
          exact ⟨rfl, hb3⟩
        · have h4 : (l.length : Int) ≤ k := by omega
          clear h
          go_enter Try.func3, Try.ntmps3
          go_wp2_with fail
          with_reducible refine (does2 _).mono ?_
          rintro e w3 ⟨rfl, hb3⟩
          go_wp2_with fail
          go_ret
          exact ⟨rfl, hb3⟩

end Go.Proofs.Ytpbdmldooehafab
