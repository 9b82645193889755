/- Layer 4: the laws' walks: twos, FramesBare. -/
import Derived.Test.YtehcedepiepbiaaFramesK
import Derived.Test.YtehcedepiepbiaaSumsL
namespace Go.Proofs.Ytehcedepiepbiaa
set_option linter.unusedVariables false
open Go Go.RowKit
attribute [local go_sem ↓] run_index_S
attribute [local go_sem] S_append S_extract

theorem count_step (l : List UInt8) (k : Nat) (h : k < l.length) : (l.take (k + 1)).count 2 = (l.take k).count 2 + (if l.getD k 0 = 2 then 1 else 0) := by
  rw [List.take_add_one, List.count_append, List.getElem?_eq_getElem h, List.getD, List.getElem?_eq_getElem h]
  simp only [Option.toList_some, Option.getD_some, List.count_singleton, beq_iff_eq]

set_option maxHeartbeats 1000000 in
theorem twos_any (l : List UInt8) (hl : l.length ≤ 140737488351232) (w : World) :
    Calls Try.prog 23 #[.string (S l)] w fun e w' => e = .returned (.int .i64 (l.count 2 : Nat)) ∧ Below w.heap.size w w' := by
  go_enter Try.func23, Try.ntmps23
  go_wp2_with fail
  go_loopw [3, 4] (fun v i wr => ∃ k : Nat, k ≤ l.length ∧ i = .int .i64 k ∧ v = .int .i64 ((l.take k).count 2 : Nat) ∧ Below w.heap.size w wr) (fun _ i _ => l.length - (intOf i).toNat)
  case atStart => exact ⟨0, by omega, rfl, by simp, Below.refl _ _⟩
  case round =>
    obtain ⟨k, hk, rfl, rfl, hb⟩ := hrel
    have hcl : (l.take k).count 2 ≤ 140737488351232 := Nat.le_trans List.count_le_length (by simp; omega)
    by_cases hkl : k < l.length
    · have d1 : decide ((k : Int) < (l.length : Int)) = true := by simp; omega
      have hs := count_step l k hkl
      have hB := B_is l k
      generalize (l.take k).count 2 = c at *
      by_cases h2 : l.getD k 0 = 2
      · rw [if_pos h2] at hs
        have hb2 : (B l k == 2) = true := by rw [hB]; simpa using h2
        have HS := Lib.hid hs
        clear hs hB h2
        go_wp2_with fail
        go_roundw
        case rel => exact ⟨k + 1, by omega, by go_num, by rw [HS.out]; go_num, hb⟩
        case measure => simp [intOf]; omega
      · rw [if_neg h2] at hs
        have hb2 : (B l k == 2) = false := by rw [hB]; simpa using h2
        have HS := Lib.hid hs
        clear hs hB h2
        go_wp2_with fail
        go_roundw
        case rel => exact ⟨k + 1, by omega, by go_num, by rw [HS.out]; go_num, hb⟩
        case measure => simp [intOf]; omega
    · obtain rfl : k = l.length := by omega
      have d1 : decide ((l.length : Int) < (l.length : Int)) = false := by simp
      rw [List.take_length]
      go_wp2_with fail
      go_ret
      exact ⟨rfl, hb⟩

/-- Where no byte 2 is, no frame stands. -/
theorem bare_stands {l : List UInt8} (h : l.count 2 = 0 ∨ l.length ≤ 7) (a : Nat) : ¬ M.Stands l a := by
  intro hs
  have hr := hs.room
  rcases h with h | h
  · have h2 := hs.two
    rw [List.count_eq_zero] at h
    refine h ?_
    rw [← h2, List.getD, List.getElem?_eq_getElem (by omega)]
    exact List.getElem_mem _
  · omega
theorem bare_next {l : List UInt8} (h : ∀ a, ¬ M.Stands l a) (at_ : Int) : M.nextI l at_ = none := by
  unfold M.nextI
  split
  · exact M.next_no (h _)
  · rfl
theorem bare_rs {l : List UInt8} (h : ∀ a, ¬ M.Stands l a) (a : Nat) : M.rs l a = l.length := by
  by_cases ha : a < l.length
  · rw [M.rs_skip l a (l.length - a) (by omega) (fun i _ => h _)]
    exact M.rs_end _ _ (by omega)
  · exact M.rs_end _ _ (by omega)

set_option maxHeartbeats 1000000 in
theorem framesBare_mid (l : List UInt8) (hl : l.length ≤ 1500) (hbare : l.count 2 = 0 ∨ l.length ≤ 7) (at_ : Int) (wa : (Lit.int .i64 at_).wf = true) (w : World) :
    Calls Try.prog 10 #[.string (S l), .int .i64 at_] w fun e w' => e = .returned (.bool true) ∧ Below w.heap.size w w' := by
  have hst := bare_stands hbare
  have d1 : decide (1500 < (l.length : Int)) = false := by simp; omega
  have c0 := fun W => twos_any l (by omega) W
  have c1 := fun W => whole_any l (by omega) W
  rw [M.wh_none (M.next_no (hst 0))] at c1
  have c2 := fun W => next_any l (by omega) at_ W
  rw [bare_next hst at_] at c2
  simp only [triF] at c2
  obtain ⟨a0, ha0⟩ : ∃ a0 : Nat, at_ = a0 ∨ (at_ < 0 ∧ a0 = 0) := by
    by_cases h : at_ < 0
    · exact ⟨0, .inr ⟨h, rfl⟩⟩
    · exact ⟨at_.toNat, .inl (by omega)⟩
  have c3 := fun W => resync_nat l (by omega) at_ a0 ha0 W
  rw [bare_rs hst a0] at c3
  have C1 := Lib.hid c1
  have C2 := Lib.hid c2
  have C3 := Lib.hid c3
  clear c1 c2 c3 hst ha0
  by_cases hz : l.count 2 = 0
  · rw [hz] at c0
    have C0 := Lib.hid c0
    clear c0 hz hbare
    go_enter Try.func10, Try.ntmps10
    go_wp2_with fail
    with_reducible refine (C0.out _).mono ?_
    rintro e w0 ⟨rfl, hb0⟩
    go_wp2_with fail
    with_reducible refine (C1.out _).mono ?_
    rintro e w1 ⟨v, rfl, hown, hb1⟩
    have HB1 := Lib.hid (below_step hb0 hb1)
    obtain ⟨ao, cap, rfl, _⟩ := txtRow_of (ps := []) hown
    clear hb0 hb1 hown
    go_wp2_with fail
    with_reducible refine (C2.out _).mono ?_
    rintro e w2 ⟨rfl, hb2⟩
    have HB2 := Lib.hid (below_step HB1.out hb2)
    clear hb2
    go_wp2_with fail
    with_reducible refine (C3.out _).mono ?_
    rintro e w3 ⟨rfl, hb3⟩
    have HB3 := Lib.hid (below_step HB2.out hb3)
    clear hb3
    go_wp2_with fail
    with_reducible refine (known_any _).mono ?_
    rintro e w4 ⟨rfl, hb4⟩
    go_wp2_with fail
    go_ret
    exact ⟨rfl, below_step HB3.out hb4⟩
  · have h7 : l.length ≤ 7 := hbare.resolve_left hz
    have hc1 : 1 ≤ l.count 2 := by omega
    have hc2 : l.count 2 ≤ 7 := Nat.le_trans List.count_le_length h7
    generalize l.count 2 = c at *
    have d2 : decide (0 < (c : Int)) = true := by simp; omega
    have d3 : decide (7 < (l.length : Int)) = false := by simp; omega
    have C0 := Lib.hid c0
    clear c0 hz hbare
    go_enter Try.func10, Try.ntmps10
    go_wp2_with fail
    with_reducible refine (C0.out _).mono ?_
    rintro e w0 ⟨rfl, hb0⟩
    go_wp2_with fail
    with_reducible refine (C1.out _).mono ?_
    rintro e w1 ⟨v, rfl, hown, hb1⟩
    have HB1 := Lib.hid (below_step hb0 hb1)
    obtain ⟨ao, cap, rfl, _⟩ := txtRow_of (ps := []) hown
    clear hb0 hb1 hown
    go_wp2_with fail
    with_reducible refine (C2.out _).mono ?_
    rintro e w2 ⟨rfl, hb2⟩
    have HB2 := Lib.hid (below_step HB1.out hb2)
    clear hb2
    go_wp2_with fail
    with_reducible refine (C3.out _).mono ?_
    rintro e w3 ⟨rfl, hb3⟩
    have HB3 := Lib.hid (below_step HB2.out hb3)
    clear hb3
    go_wp2_with fail
    with_reducible refine (known_any _).mono ?_
    rintro e w4 ⟨rfl, hb4⟩
    go_wp2_with fail
    go_ret
    exact ⟨rfl, below_step HB3.out hb4⟩

set_option maxHeartbeats 1000000 in
theorem framesBare_calls (l : List UInt8) (hl : l.length ≤ 140737488351232) (at_ : Int) (wa : (Lit.int .i64 at_).wf = true) (w : World) :
    Calls Try.prog 10 #[.string (S l), .int .i64 at_] w fun e w' => e = .returned (.bool true) ∧ Below w.heap.size w w' := by
  by_cases h1 : 1500 < l.length
  · have d1 : decide (1500 < (l.length : Int)) = true := by simp; omega
    go_enter Try.func10, Try.ntmps10
    go_wp2_with fail
    with_reducible refine (known_any _).mono ?_
    rintro e w1 ⟨rfl, hb1⟩
    go_wp2_with fail
    go_ret
    exact ⟨rfl, hb1⟩
  by_cases hbare : l.count 2 = 0 ∨ l.length ≤ 7
  · exact framesBare_mid l (by omega) hbare at_ wa w
  · have d1 : decide (1500 < (l.length : Int)) = false := by simp; omega
    have c0 := fun W => twos_any l hl W
    have hc1 : 1 ≤ l.count 2 := by omega
    have hc3 : 7 < l.length := by omega
    have hc2 : l.count 2 ≤ 1500 := Nat.le_trans List.count_le_length (by omega)
    generalize l.count 2 = c at *
    have d2 : decide (0 < (c : Int)) = true := by simp; omega
    have d3 : decide (7 < (l.length : Int)) = true := by simp; omega
    have C0 := Lib.hid c0
    clear c0 hbare
    go_enter Try.func10, Try.ntmps10
    go_wp2_with fail
    with_reducible refine (C0.out _).mono ?_
    rintro e w0 ⟨rfl, hb0⟩
    go_wp2_with fail
    with_reducible refine (known_any _).mono ?_
    rintro e w1 ⟨rfl, hb1⟩
    go_wp2_with fail
    go_ret
    exact ⟨rfl, below_step hb0 hb1⟩

end Go.Proofs.Ytehcedepiepbiaa
