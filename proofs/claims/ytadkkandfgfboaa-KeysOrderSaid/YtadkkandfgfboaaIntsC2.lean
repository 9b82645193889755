/- Layer 1: the program's functions (ints), continued: Get, OfBig, GetText, PutText. -/
import Derived.Test.YtadkkandfgfboaaIntsC
namespace Go.Proofs.Ytadkkandfgfboaa
set_option linter.unusedVariables false
open Go Go.RowKit
attribute [local go_sem ↓] run_index_S
attribute [local go_sem] S_append S_extract

theorem wraps_i64 : ∀ n : Int, 0 ≤ n → n < 2 ^ 63 → IntKind.i64.wrap n = n := fun n h0 h1 => IntWalk.i64_in n (by omega)
/-- 'n<<7 | d', d below 128. -/
theorem join7 (v b : Int) (h0 : 0 ≤ v) (h1 : v ≤ 72057594037927935) (hb0 : 0 ≤ b) (hb1 : b < 128) : bits .or .i64 (v * 128) b = v * 128 + b :=
  bits_join .i64 63 (by decide) wraps_i64 7 _ _ (by omega) (by omega) (by omega) hb0 (by omega) (by omega)
/-- 'n<<8 | d', d below 256. -/
theorem join8 (v b : Int) (h0 : 0 ≤ v) (h1 : v ≤ 36028797018963967) (hb0 : 0 ≤ b) (hb1 : b < 256) : bits .or .i64 (v * 256) b = v * 256 + b :=
  bits_join .i64 63 (by decide) wraps_i64 8 _ _ (by omega) (by omega) (by omega) hb0 (by omega) (by omega)
theorem clear_any (y : Int) (h0 : 0 ≤ y) (h1 : y ≤ 255) : bits .andNot .u8 y 128 = y % 128 := by
  have := clear128_fin ⟨y.toNat, by omega⟩
  simp only at this
  rw [show y = ((y.toNat : Nat) : Int) from by omega, this]
  omega

/-- The first byte at a place is that of what stands there. -/
theorem B_drop (l : List UInt8) (a : Nat) : ((l.drop a).getD 0 0).toNat = (B l a).toNat := by
  simp [B, List.getD]

theorem gets_ok {l : List UInt8} {a k : Nat} (hk : M.ld (l.drop a) = k) (h : a + k < l.length) (h8 : k ≤ 8) (h128 : B l a ≠ 128) :
    M.gets l a = some (M.val ((l.drop a).take (k + 1)), a + k + 1) := by
  subst hk
  have hr := B_range l a
  refine gets_some rfl h h8 rfl rfl ?_
  exact (M.putN_val (l.drop a) (by rw [List.length_drop]; omega) h8).2 (by rw [B_drop]; omega)
theorem gets_no {l : List UInt8} {a k : Nat} (hk : M.ld (l.drop a) = k) (h : ¬ (a + k < l.length ∧ k ≤ 8 ∧ B l a ≠ 128)) : M.gets l a = none := by
  subst hk
  have hr := B_range l a
  refine gets_none rfl rfl rfl ?_
  intro ⟨h1, h2, h3⟩
  refine h ⟨h1, h2, ?_⟩
  have := (M.putN_val (l.drop a) (by rw [List.length_drop]; omega) h2).1 h3
  rw [B_drop] at this
  omega

set_option maxHeartbeats 1000000 in
set_option maxRecDepth 100000 in
theorem ofBig_any (l : List UInt8) (at_ : Int) (w : World) (hl : l.length ≤ 9223372036854775807) :
    Calls Try.prog 40 #[.string (S l), .int .i64 at_] w fun e w' => e = .returned (duo (M.ofBigs l at_)) ∧ w = w' := by
  by_cases h1 : at_ < 0
  · go_enter Try.func40, Try.ntmps40
    go_wp2_with fail
    go_ret2
    exact ⟨duo_none (ofBigs_none (.inl h1)), rfl⟩
  · obtain ⟨a, rfl⟩ := Int.eq_ofNat_of_zero_le (show 0 ≤ at_ by omega)
    have hneg : decide ((a : Int) < 0) = false := by simp
    by_cases h0 : l.length ≤ a
    · have hd0 : decide (l.length ≤ a) = true := by simpa using h0
      go_enter Try.func40, Try.ntmps40
      go_wp2_with fail
      go_ret2
      exact ⟨duo_none (ofBigs_none (.inr (.inl (by omega)))), rfl⟩
    · have hd0 : decide (l.length ≤ a) = false := by simpa using h0
      by_cases h2 : (l.length : Int) - a < 8
      · have hd : decide ((l.length : Int) - (a : Int) < 8) = true := by simpa using h2
        go_enter Try.func40, Try.ntmps40
        go_wp2_with fail
        go_ret2
        exact ⟨duo_none (ofBigs_none (.inr (.inl (by omega)))), rfl⟩
      · have hd : decide ((l.length : Int) - (a : Int) < 8) = false := by simpa using h2
        have hin : a < l.length := by omega
        by_cases h3 : 128 ≤ B l a
        · have hd3 : decide (128 ≤ B l a) = true := by simpa using h3
          go_enter Try.func40, Try.ntmps40
          go_wp2_with fail
          go_ret2
          exact ⟨duo_none (ofBigs_none (.inr (.inr h3))), rfl⟩
        · have hd3 : decide (128 ≤ B l a) = false := by simpa using h3
          have hlow : B l a < 128 := by omega
          have h8 : a + 8 ≤ l.length := by omega
          go_enter Try.func40, Try.ntmps40
          go_wp2_with fail
          go_loop [4, 28] (fun n i => ∃ c : Nat, c ≤ 8 ∧ n = .int .i64 (M.val8 ((l.drop a).take c) : Nat) ∧ i = .int .i64 c) (fun _ i => 8 - (intOf i).toNat)
          case atStart => exact ⟨0, Nat.zero_le _, rfl, rfl⟩
          case round =>
            obtain ⟨c, hc, rfl, rfl⟩ := hrel
            by_cases hcj : c < 8
            · have hv := val8_small l a c h8 hlow hc
              have hst := val8_next l a c (by omega)
              have hbr := B_range l (a + c)
              have hv2 := hv.2 (by omega)
              have hj := join8 (M.val8 ((l.drop a).take c)) (B l (a + c)) (by omega) (by omega) (by omega) (by omega)
              clear hv
              generalize hvv : M.val8 ((l.drop a).take c) = v at *
              have HST := Lib.hid hst
              clear hst hvv
              go_wp2_with fail
              go_round
              case rel => exact ⟨c + 1, by omega, by rw [← HST.out], by go_num⟩
              case measure => simp [intOf]; omega
            · obtain rfl : c = 8 := by omega
              go_wp2_with fail
              go_ret2
              exact ⟨duo_some (ofBigs_some h8 hlow) rfl, rfl⟩

end Go.Proofs.Ytadkkandfgfboaa
