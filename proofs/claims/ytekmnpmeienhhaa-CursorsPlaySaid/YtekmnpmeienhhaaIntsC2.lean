/- Layer 1: the program's functions (ints), continued: Get, OfBig, GetText, PutText. -/
import Derived.Test.YtekmnpmeienhhaaIntsC
namespace Go.Proofs.Ytekmnpmeienhhaa
set_option linter.unusedVariables false
open Go Go.RowKit
attribute [local go_sem ↓] run_index_S
attribute [local go_sem] S_append S_extract

theorem wraps_i64 : ∀ n : Int, 0 ≤ n → n < 2 ^ 63 → IntKind.i64.wrap n = n := fun n h0 h1 => IntWalk.i64_in n (by omega)
/-- 'n<<7 | d', d below 128. -/
theorem join7 (v b : Int) (h0 : 0 ≤ v) (h1 : v ≤ 72057594037927935) (hb0 : 0 ≤ b) (hb1 : b < 128) : bits .or .i64 (v * 128) b = v * 128 + b :=
  bits_join .i64 63 (by decide) wraps_i64 7 _ _ (by omega) (by omega) (by omega) hb0 (by omega) (by omega)
/-- 'n<<8 | d', d below 256. -/
theorem join8 (v b : Int) (h0 : 0 ≤ v) (h1 : v ≤ 36028797018963967) (hb0 : 0 ≤ b) (hb1 : b < 256) : bits .or .i64 (v * 256) b = v * 256 + b :=
  bits_join .i64 63 (by decide) wraps_i64 8 _ _ (by omega) (by omega) (by omega) hb0 (by omega) (by omega)
theorem clear_any (y : Int) (h0 : 0 ≤ y) (h1 : y ≤ 255) : bits .andNot .u8 y 128 = y % 128 := by
  have := clear128_fin ⟨y.toNat, by omega⟩
  simp only at this
  rw [show y = ((y.toNat : Nat) : Int) from by omega, this]
  omega

/-- The first byte at a place is that of what stands there. -/
theorem B_drop (l : List UInt8) (a : Nat) : ((l.drop a).getD 0 0).toNat = (B l a).toNat := by
  simp [B, List.getD]

theorem gets_ok {l : List UInt8} {a k : Nat} (hk : M.ld (l.drop a) = k) (h : a + k < l.length) (h8 : k ≤ 8) (h128 : B l a ≠ 128) :
    M.gets l a = some (M.val ((l.drop a).take (k + 1)), a + k + 1) := by
  subst hk
  have hr := B_range l a
  refine gets_some rfl h h8 rfl rfl ?_
  exact (M.putN_val (l.drop a) (by rw [List.length_drop]; omega) h8).2 (by rw [B_drop]; omega)
theorem gets_no {l : List UInt8} {a k : Nat} (hk : M.ld (l.drop a) = k) (h : ¬ (a + k < l.length ∧ k ≤ 8 ∧ B l a ≠ 128)) : M.gets l a = none := by
  subst hk
  have hr := B_range l a
  refine gets_none rfl rfl rfl ?_
  intro ⟨h1, h2, h3⟩
  refine h ⟨h1, h2, ?_⟩
  have := (M.putN_val (l.drop a) (by rw [List.length_drop]; omega) h2).1 h3
  rw [B_drop] at this
  omega

set_option maxHeartbeats 1000000 in
set_option maxRecDepth 100000 in
theorem get_in (l : List UInt8) (a : Nat) (w : World) (hl : l.length ≤ 9223372036854775807) (h : a < l.length) :
    Calls Try.prog 81 #[.string (S l), .int .i64 a] w fun e w' => e = .returned (tri (M.gets l a)) ∧ w = w' := by
  have hneg : decide ((a : Int) < 0) = false := by simp
  have hout : decide (l.length ≤ a) = false := by simp; omega
  by_cases h128 : B l a = 128
  · have hq : (B l a == 128) = true := by simpa using h128
    have H := Lib.hid h128
    clear h128
    go_enter Try.func81, Try.ntmps81
    go_wp2_with fail
    go_ret3
    exact ⟨tri_none (gets_no rfl (fun x => x.2.2 H.out)), rfl⟩
  · have hq : (B l a == 128) = false := by simpa using h128
    have H := Lib.hid h128
    clear h128
    have hle := M.ld_le (l.drop a)
    have hdl : (l.drop a).length = l.length - a := List.length_drop
    have hhi : ∀ j, j < M.ld (l.drop a) → a + j < l.length ∧ 128 ≤ B l (a + j) := fun j hj => ld_at_high hj
    have hlo : a + M.ld (l.drop a) < l.length → B l (a + M.ld (l.drop a)) < 128 := fun h => ld_at_low h
    rw [hdl] at hle
    clear hdl
    generalize hk : M.ld (l.drop a) = k at *
    have HK := Lib.hid hk
    have HHI := Lib.hid hhi
    have HLO := Lib.hid hlo
    clear hk hhi hlo
    obtain ⟨m, hm⟩ : ∃ m : Nat, m = min 9 (l.length - a) := ⟨_, rfl⟩
    have hmin : min (9 : Int) ((l.length : Int) - (a : Int)) = (m : Int) := by omega
    have hm9 : m ≤ 9 := by omega
    have hml : a + m ≤ l.length := by omega
    have HM := Lib.hid hm
    clear hm
    go_enter Try.func81, Try.ntmps81
    go_wp2_with fail
    go_loop [4, 28] (fun n i => ∃ c : Nat, c ≤ k ∧ c ≤ m ∧ n = .int .i64 (M.val ((l.drop a).take c) : Nat) ∧ i = .int .i64 c) (fun _ i => m - (intOf i).toNat)
    case atStart => exact ⟨0, Nat.zero_le _, Nat.zero_le _, rfl, rfl⟩
    case round =>
      obtain ⟨c, hck, hcm, rfl, rfl⟩ := hrel
      by_cases hc : c < m
      · have hv := val_small (l.drop a) c (by omega)
        have hst := val_next l a c (by omega)
        have hbr := B_range l (a + c)
        have hj := join7 (M.val ((l.drop a).take c)) (B l (a + c) % 128) (by omega) (by omega) (by omega) (by omega)
        have hcl := clear_any (B l (a + c)) hbr.1 hbr.2
        generalize hvv : M.val ((l.drop a).take c) = v at *
        have HST := Lib.hid hst
        clear hst hvv
        by_cases hk2 : c < k
        · have hhigh := (HHI.out c hk2).2
          go_wp2_with fail
          go_round
          case rel => exact ⟨c + 1, by omega, by omega, by rw [← HST.out], by go_num⟩
          case measure => simp [intOf]; omega
        · obtain rfl : c = k := by omega
          have hlow := HLO.out (by omega)
          go_wp2_with fail
          go_ret3
          exact ⟨tri_some (gets_ok HK.out (by omega) (by omega) H.out) HST.out (by omega), rfl⟩
      · obtain rfl : c = m := by omega
        go_wp2_with fail
        go_ret3
        exact ⟨tri_none (gets_no HK.out (fun x => by have := HM.out; omega)), rfl⟩

theorem get_any (l : List UInt8) (at_ : Int) (w : World) (hl : l.length ≤ 9223372036854775807) :
    Calls Try.prog 81 #[.string (S l), .int .i64 at_] w fun e w' => e = .returned (tri (M.gets l at_)) ∧ w = w' := by
  by_cases h1 : at_ < 0
  · go_enter Try.func81, Try.ntmps81
    go_wp2_with fail
    go_ret3
    exact ⟨by rw [M.gets_out l at_ (.inl h1)]; rfl, rfl⟩
  · by_cases h2 : (l.length : Int) ≤ at_
    · go_enter Try.func81, Try.ntmps81
      go_wp2_with fail
      go_ret3
      exact ⟨by rw [M.gets_out l at_ (.inr h2)]; rfl, rfl⟩
    · obtain ⟨a, rfl⟩ := Int.eq_ofNat_of_zero_le (show 0 ≤ at_ by omega)
      exact get_in l a w hl (by omega)

end Go.Proofs.Ytekmnpmeienhhaa
