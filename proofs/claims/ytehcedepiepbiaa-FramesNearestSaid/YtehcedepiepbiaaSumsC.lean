/- Layer 2: the program's functions (sums), each by a contract. -/
import Derived.Test.YtehcedepiepbiaaIntsC2
import Derived.Test.YtehcedepiepbiaaSumsM
import Derived.StillTailTactics
import Derived.Deep.RegionWith
import Derived.BigRegion
namespace Go.Proofs.Ytehcedepiepbiaa
set_option linter.unusedVariables false
open Go Go.RowKit
attribute [local go_sem ↓] run_index_S
attribute [local go_sem] S_append S_extract

theorem below_any (n : Int) (w : World) (h0 : 0 ≤ n) (h1 : n < 131042) :
    Calls Try.prog 45 #[.int .u32 n] w fun e w' => e = .returned (.int .u32 (n % 65521)) ∧ w = w' := by
  by_cases h : 65521 ≤ n
  · go_enter Try.func45, Try.ntmps45
    go_wp2_with fail
    go_ret
    exact ⟨ret_int (by omega), rfl⟩
  · go_enter Try.func45, Try.ntmps45
    go_wp2_with fail
    go_ret
    exact ⟨ret_int (by omega), rfl⟩

/-- The block of a sum's parts. -/
def PartsAt (w : World) (b : Nat) (p : Nat × Nat) : Prop := w.heap[b]? = some (.cells #[.int .u32 p.1, .int .u32 p.2] 59 (0, 0))

set_option maxHeartbeats 400000 in
theorem add_any (b : Nat) (p : Nat × Nat) (hp : p.1 < 65521 ∧ p.2 < 65521) (x : UInt8) (w : World) (hw : PartsAt w b p) :
    Calls Try.prog 37 #[.pointer (some ⟨b, 0, none⟩), .int .u8 x.toNat] w fun e w' => e = .returned (.tuple #[]) ∧ PartsAt w' b (M.stepP p x) ∧ Below b w w' := by
  obtain ⟨a, c⟩ := p
  have hx := x.toNat_lt
  simp only at hp
  unfold PartsAt at hw
  have h0 : w.cell? ⟨b, 0, none⟩ = some (.int .u32 a) := by simp [World.cell?, hw]
  have h1 : w.cell? ⟨b, 1, none⟩ = some (.int .u32 c) := by simp [World.cell?, hw]
  have f0 : w.frozen? ⟨b, 0, none⟩ = false := by simp [World.frozen?, hw]
  have f1 : w.frozen? ⟨b, 1, none⟩ = false := by simp [World.frozen?, hw]
  have HW := Lib.hid hw
  clear hw
  go_enter Try.func37, Try.ntmps37
  obtain ⟨a', ha'⟩ : ∃ a' : Nat, a' = (a + x.toNat) % 65521 := ⟨_, rfl⟩
  have hm : ((a : Int) + (x.toNat : Int)) % 65521 = (a' : Int) := by omega
  have ha'lt : a' < 65521 := by omega
  have HA := Lib.hid ha'
  clear ha'
  have hw1 : PartsAt (w.setCell ⟨b, 0, none⟩ (.int .u32 a')) b (a', c) := by
    unfold PartsAt
    rw [heap_setCell_same w b 0 _ _ _ HW.out]; simp
  have hbw1 : Below b w (w.setCell ⟨b, 0, none⟩ (.int .u32 a')) := (Below.refl b w).setCell (p := ⟨b, 0, none⟩) (Nat.le_refl b) _
  go_wp2_with (go_at_call 45; refine (below_any _ _ (by omega) (by omega)).mono ?_; rintro e w' ⟨rfl, rfl⟩)
  generalize w.setCell ⟨b, 0, none⟩ (.int .u32 a') = w1 at *
  unfold PartsAt at hw1
  have g0 : w1.cell? ⟨b, 0, none⟩ = some (.int .u32 a') := by simp [World.cell?, hw1]
  have g1 : w1.cell? ⟨b, 1, none⟩ = some (.int .u32 c) := by simp [World.cell?, hw1]
  have e1 : w1.frozen? ⟨b, 1, none⟩ = false := by simp [World.frozen?, hw1]
  have HW1 := Lib.hid hw1
  clear hw1 h0 h1 f0 f1 hm
  have ew : IntKind.u32.wrap ((c : Int) + (a' : Int)) = (c : Int) + (a' : Int) := IntWalk.u32_in _ (by omega)
  go_region_with (go_at_call 45; refine (below_any _ _ (by omega) (by omega)).mono ?_; rintro e w' ⟨rfl, rfl⟩)
  all_goals go_wp2_with fail
  all_goals
    go_end0
    refine ⟨rfl, ?_, (hbw1.setCell (p := ⟨b, 1, none⟩) (Nat.le_refl b) _).drew⟩
    show (w1.setCell _ _).heap[b]? = _
    rw [heap_setCell_same w1 b 1 _ _ _ HW1.out]
    simp only [M.stepP, ← HA.out]
    rfl

theorem wraps_u32 : ∀ n : Int, 0 ≤ n → n < 2 ^ 32 → IntKind.u32.wrap n = n := fun n h0 h1 => IntWalk.u32_in n (by omega)
theorem and16 (s : Nat) (hs : s < 4294967296) : bits .and .u32 (s : Int) 65535 = ((s % 65536 : Nat) : Int) := by
  rw [show (65535 : Int) = 2 ^ 16 - 1 from rfl, bits_mask .u32 32 (by decide) wraps_u32 16 (by decide) _ (by omega) (by omega)]
  rfl
theorem join16 (c a : Nat) (hc : c < 65536) (ha : a < 65536) : bits .or .u32 ((c : Int) * 65536) (a : Int) = ((c * 65536 + a : Nat) : Int) := by
  rw [bits_join .u32 32 (by decide) wraps_u32 16 _ _ (by omega) (by omega) (by omega) (by omega) (by omega) (by omega)]
  omega

set_option maxHeartbeats 400000 in
theorem split_any (s : Nat) (hs : s < 4294967296) (w : World) :
    Calls Try.prog 35 #[.int .u32 s] w fun e w' => e = .returned (.agg #[.int .u32 (M.partsP s).1, .int .u32 (M.partsP s).2]) ∧ w' = w.alloc (.cells #[.int .u32 (M.partsP s).1, .int .u32 (M.partsP s).2] 59) := by
  have ha := and16 s hs
  obtain ⟨x, hx⟩ : ∃ x, x = s % 65536 := ⟨_, rfl⟩
  rw [← hx] at ha
  have hx2 : x < 65536 := by omega
  have e1 : (M.partsP s).1 = x % 65521 := by simp [M.partsP, hx]
  have e2 : (M.partsP s).2 = s / 65536 % 65521 := rfl
  rw [e1, e2]
  have HX := Lib.hid hx
  clear hx e1 e2
  go_enter Try.func35, Try.ntmps35
  go_wp2_with fail
  exact bodyPost_ret (v := .agg #[.int .u32 (x % 65521 : Nat), .int .u32 (s / 65536 % 65521 : Nat)]) (by simp [results, Try.results35, go_sem]) rfl ⟨rfl, rfl⟩

set_option maxHeartbeats 400000 in
theorem sum_any (p : Nat × Nat) (hp : p.1 < 65521 ∧ p.2 < 65521) (w : World) :
    Calls Try.prog 38 #[.agg #[.int .u32 p.1, .int .u32 p.2]] w fun e w' => e = .returned (.int .u32 (M.wholeP p)) ∧ Below w.heap.size w w' := by
  obtain ⟨a, c⟩ := p
  simp only at hp
  have hj := join16 c a (by omega) (by omega)
  go_enter Try.func38, Try.ntmps38
  go_wp2_with fail
  go_ret
  exact ⟨rfl, (Below.refl _ _).alloc (Nat.le_refl _) _⟩

set_option maxHeartbeats 400000 in
theorem each_any (b : Nat) (p : Nat × Nat) (hp : p.1 < 65521 ∧ p.2 < 65521) (l : List UInt8) (hl : l.length ≤ 9223372036854775807) (w : World) (hw : PartsAt w b p) :
    Calls Try.prog 36 #[.string (S l), .func (Fn.func 37) #[.pointer (some ⟨b, 0, none⟩)] #[]] w fun e w' => e = .returned (.tuple #[]) ∧ PartsAt w' b (M.runP p l) ∧ Below b w w' := by
  go_enter Try.func36, Try.ntmps36
  go_wp2_with fail
  go_loopw [7] (fun i wr => ∃ k : Nat, k ≤ l.length ∧ i = .int .i64 k ∧ PartsAt wr b (M.runP p (l.take k)) ∧ Below b w wr) (fun i _ => l.length - (intOf i).toNat)
  case atStart => exact ⟨0, Nat.zero_le _, rfl, hw, Below.refl _ _⟩
  case round =>
    obtain ⟨k, hk, rfl, hpk, hb⟩ := hrel
    by_cases hkl : k < l.length
    · have hadd := add_any b (M.runP p (l.take k)) (M.runP_lt p hp _) l[k] wr hpk
      rw [← B_at l k hkl, ← M.runP_take p l k hkl] at hadd
      have HADD := Lib.hid hadd
      have HP := Lib.hid hpk
      have hbr := B_range l k
      clear hadd hpk
      go_wp2_with fail
      with_reducible refine HADD.out.mono ?_
      rintro e w2 ⟨rfl, hp2, hb2⟩
      have HP2 := Lib.hid hp2
      clear hp2
      go_wp2_with fail
      go_roundw
      case rel => exact ⟨k + 1, by omega, by go_num, HP2.out, hb.trans hb2⟩
      case measure => simp [intOf]; omega
    · obtain rfl : k = l.length := by omega
      rw [List.take_length] at hpk
      have HP := Lib.hid hpk
      clear hpk
      go_wp2_with fail
      go_end0
      exact ⟨rfl, HP.out, hb⟩

theorem partsAt_new (w : World) (p : Nat × Nat) : PartsAt (w.alloc (.cells #[.int .u32 p.1, .int .u32 p.2] 59)) w.heap.size p := heap_alloc_new w _

set_option maxHeartbeats 400000 in
theorem more_any (s : Nat) (hs : s < 4294967296) (l : List UInt8) (hl : l.length ≤ 9223372036854775807) (w : World) :
    Calls Try.prog 31 #[.int .u32 s, .string (S l)] w fun e w' => e = .returned (.int .u32 (M.moreP s l)) ∧ Below w.heap.size w w' := by
  have hp := M.partsP_lt s
  have hw1 : PartsAt ((w.alloc (.cells #[.int .u32 (M.partsP s).1, .int .u32 (M.partsP s).2] 59)).alloc (.cells #[.int .u32 (M.partsP s).1, .int .u32 (M.partsP s).2] 59)) (w.heap.size + 1) (M.partsP s) := by
    have := partsAt_new (w.alloc (.cells #[.int .u32 (M.partsP s).1, .int .u32 (M.partsP s).2] 59)) (M.partsP s)
    simpa using this
  have hb1 : Below w.heap.size w ((w.alloc (.cells #[.int .u32 (M.partsP s).1, .int .u32 (M.partsP s).2] 59)).alloc (.cells #[.int .u32 (M.partsP s).1, .int .u32 (M.partsP s).2] 59)) :=
    ((Below.refl _ _).alloc (Nat.le_refl _) _).alloc (by simp) _
  have HW1 := Lib.hid hw1
  clear hw1
  go_enter Try.func31, Try.ntmps31
  go_wp2_with (go_at_call 35; refine (split_any s hs _).mono ?_; rintro e w' ⟨rfl, rfl⟩)
  with_reducible refine (each_any (w.heap.size + 1) (M.partsP s) hp l hl _ HW1.out).mono ?_
  rintro e w2 ⟨rfl, hp2, hb2⟩
  have hq := M.runP_lt (M.partsP s) hp l
  obtain ⟨q, hqq⟩ : ∃ q, q = M.runP (M.partsP s) l := ⟨_, rfl⟩
  rw [← hqq] at hp2 hq
  unfold PartsAt at hp2
  have g0 : w2.cell? ⟨w.heap.size + 1, 0, none⟩ = some (.int .u32 q.1) := by simp [World.cell?, hp2]
  have g1 : w2.cell? ⟨w.heap.size + 1, 1, none⟩ = some (.int .u32 q.2) := by simp [World.cell?, hp2]
  have HQ := Lib.hid hqq
  have HP2 := Lib.hid hp2
  clear hqq hp2
  go_wp2_with fail
  with_reducible refine (sum_any q hq _).mono ?_
  rintro e w3 ⟨rfl, hb3⟩
  go_wp2_with fail
  go_ret
  exact ⟨ret_int (by rw [HQ.out]; rfl), below_step (hb1.trans (hb2.mono (by omega))) hb3⟩

theorem sum0_any (l : List UInt8) (hl : l.length ≤ 9223372036854775807) (w : World) :
    Calls Try.prog 25 #[.string (S l)] w fun e w' => e = .returned (.int .u32 (M.sumP l)) ∧ Below w.heap.size w w' := by
  have h1 : ∀ W, Calls Try.prog 31 #[.int .u32 1, .string (S l)] W fun e w' => e = .returned (.int .u32 (M.moreP 1 l)) ∧ Below W.heap.size W w' := fun W => more_any 1 (by decide) l hl W
  have H1 := Lib.hid h1
  clear h1
  go_enter Try.func25, Try.ntmps25
  go_wp2_with fail
  with_reducible refine (H1.out _).mono ?_
  rintro e w3 ⟨rfl, hb3⟩
  go_wp2_with fail
  go_ret
  exact ⟨rfl, hb3⟩

end Go.Proofs.Ytehcedepiepbiaa
