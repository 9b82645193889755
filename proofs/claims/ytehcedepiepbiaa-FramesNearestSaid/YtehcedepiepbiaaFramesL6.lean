/- Layer 4: the laws' walks: FramesRun. -/
import Derived.Test.YtehcedepiepbiaaFramesK
import Derived.Test.YtehcedepiepbiaaSumsL
namespace Go.Proofs.Ytehcedepiepbiaa
set_option linter.unusedVariables false
open Go Go.RowKit
attribute [local go_sem ↓] run_index_S
attribute [local go_sem] S_append S_extract

theorem rs_spec (s : List UInt8) : ∀ (n a : Nat), s.length - a ≤ n → a ≤ s.length → a ≤ M.rs s a ∧ M.rs s a ≤ s.length ∧ (∀ i, a ≤ i → i < M.rs s a → ¬ M.Stands s i) ∧ (M.rs s a < s.length → M.Stands s (M.rs s a)) := by
  intro n
  induction n with
  | zero =>
    intro a h1 h2
    rw [M.rs_end s a (by omega)]
    exact ⟨by omega, by omega, fun i h3 h4 => by omega, fun h => by omega⟩
  | succ n ih =>
    intro a h1 h2
    by_cases ha : a < s.length
    · by_cases hs : M.Stands s a
      · rw [M.rs_yes hs]
        exact ⟨by omega, by omega, fun i h3 h4 => by omega, fun _ => hs⟩
      · rw [M.rs_no hs ha]
        obtain ⟨k1, k2, k3, k4⟩ := ih (a + 1) (by omega) (by omega)
        refine ⟨by omega, k2, fun i h3 h4 => ?_, k4⟩
        by_cases e : i = a
        · subst e; exact hs
        · exact k3 i (by omega) h4
    · rw [M.rs_end s a (by omega)]
      exact ⟨by omega, by omega, fun i h3 h4 => by omega, fun h => by omega⟩

set_option maxHeartbeats 2000000 in
set_option maxRecDepth 100000 in
theorem framesRun_mid (l : List UInt8) (hl : l.length ≤ 1500) (w : World) :
    Calls Try.prog 7 #[.string (S l)] w fun e w' => e = .returned (.bool true) ∧ Below w.heap.size w w' := by
  have d1 : decide (1500 < (l.length : Int)) = false := by simp; omega
  have cR := fun (a : Nat) W => resync_nat l (by omega) (a : Int) a (.inl rfl) W
  have cN := fun (a : Nat) W => next_any l (by omega) (a : Int) W
  have CR := Lib.hid cR
  have CN := Lib.hid cN
  have cE := fun W => cR l.length W
  rw [M.rs_end l _ (Nat.le_refl _)] at cE
  have CE := Lib.hid cE
  clear cR cN cE
  go_enter Try.func7, Try.ntmps7
  go_wp2_with fail
  go_loopw [3] (fun v wr => ∃ a : Nat, a ≤ l.length ∧ v = .int .i64 a ∧ Below w.heap.size w wr) (fun v _ => l.length - (intOf v).toNat)
  case atStart => exact ⟨0, by omega, rfl, Below.refl _ _⟩
  case round =>
    rename_i wr
    obtain ⟨a, ha, rfl, hb⟩ := hrel
    by_cases hal : a < l.length
    · have d2 : decide ((a : Int) < (l.length : Int)) = true := by simp; omega
      obtain ⟨k1, k2, k3, k4⟩ := rs_spec l l.length a (by omega) ha
      have c1 := fun W => CR.out a W
      generalize M.rs l a = k at *
      have C1 := Lib.hid c1
      have K3 := Lib.hid k3
      clear c1 k3
      have d3 : decide (k < a) = false := by simp; omega
      have d4 : decide (l.length < k) = false := by simp; omega
      go_wp2_with fail
      with_reducible refine (C1.out _).mono ?_
      rintro e w1 ⟨rfl, hb1⟩
      have HB1 := Lib.hid (below_step hb hb1)
      clear hb hb1
      go_wp2_with fail
      go_loopw [5] (fun v wr => ∃ i : Nat, a ≤ i ∧ i ≤ k ∧ v = .int .i64 i ∧ Below w.heap.size w wr) (fun v _ => k - (intOf v).toNat)
      case atStart => exact ⟨a, by omega, by omega, rfl, HB1.out⟩
      case round =>
        rename_i wr2
        obtain ⟨i, hi1, hi2, rfl, hb⟩ := hrel
        by_cases hik : i < k
        · have d5 : decide ((i : Int) < (k : Int)) = true := by simp; omega
          have c2 := fun W => CN.out i W
          rw [M.nextI_nat, M.next_no (K3.out i hi1 hik)] at c2
          simp only [triF] at c2
          have C2 := Lib.hid c2
          have HB2 := Lib.hid hb
          clear c2 hb
          go_wp2_with fail
          with_reducible refine (C2.out _).mono ?_
          rintro e w2 ⟨rfl, hb2⟩
          have HB3 := Lib.hid (below_step HB2.out hb2)
          clear hb2
          go_wp2_with fail
          go_roundw
          case rel => exact ⟨i + 1, by omega, by omega, by go_num, HB3.out⟩
          case measure => simp [intOf]; omega
        · obtain rfl : i = k := by omega
          have d5 : decide ((i : Int) < (i : Int)) = false := by simp
          have HB2 := Lib.hid hb
          clear hb
          by_cases hke : i = l.length
          · have e1 : ((i : Int) == (l.length : Int)) = true := by rw [hke]; simp
            go_wp2_with fail
            with_reducible refine (CE.out _).mono ?_
            rintro e w2 ⟨rfl, hb2⟩
            have HB3 := Lib.hid (below_step HB2.out hb2)
            clear hb2
            go_wp2_with fail
            with_reducible refine (known_any _).mono ?_
            rintro e w3 ⟨rfl, hb3⟩
            go_wp2_with fail
            go_ret
            exact ⟨rfl, below_step HB3.out hb3⟩
          · have e1 : ((i : Int) == (l.length : Int)) = false := by simp; omega
            have hst := k4 (by omega)
            have hof := M.of_stands hst
            have hnx := M.next_yes hst
            have hroom := hst.fits
            have hmost := hst.most
            have hpl : (piece l (i + 3) (i + M.many l i + 3)).length ≤ 16384 := by rw [piece_length _ _ _ (by omega) (by omega)]; omega
            have c2 := fun W => CN.out i W
            rw [M.nextI_nat, hnx] at c2
            simp only [triF] at c2
            have c3 := fun W => frame_ok (piece l (i + 3) (i + M.many l i + 3)) hpl W
            have hpc := fun W (q q' : IntKind) => run_piece (P := Try.prog) 9 Try.underlying9 l (i : Int) ((i + M.many l i + 8 : Nat) : Int) i (i + M.many l i + 8) rfl rfl (by omega) (by omega) W q q'
            rw [hof] at hpc
            generalize hZ : i + M.many l i + 8 = z at *
            have hz1 : i < z := by omega
            generalize piece l (i + 3) (i + M.many l i + 3) = p at *
            generalize M.frameP p = f at *
            generalize M.many l i = m at *
            have C2 := Lib.hid c2
            have C3 := Lib.hid c3
            have d6 : decide (z ≤ i) = false := by simp; omega
            have d7 : decide (l.length < z) = false := by simp; omega
            clear c2 c3 hst hof hnx k4 hZ hke
            go_wp2_with fail
            with_reducible refine (C2.out _).mono ?_
            rintro e w2 ⟨rfl, hb2⟩
            have HB3 := Lib.hid (below_step HB2.out hb2)
            clear hb2
            go_wp2_with fail
            with_reducible refine (C3.out _).mono ?_
            rintro e w3 ⟨rfl, hb3⟩
            have HB4 := Lib.hid (below_step HB3.out hb3)
            clear hb3
            go_wp2_with fail
            go_roundw
            case rel => exact ⟨z, by omega, rfl, HB4.out⟩
            case measure => simp [intOf]; omega
    · obtain rfl : a = l.length := by omega
      have d2 : decide ((l.length : Int) < (l.length : Int)) = false := by simp
      have HB2 := Lib.hid hb
      clear hb
      go_wp2_with fail
      with_reducible refine (CE.out _).mono ?_
      rintro e w2 ⟨rfl, hb2⟩
      have HB3 := Lib.hid (below_step HB2.out hb2)
      clear hb2
      go_wp2_with fail
      with_reducible refine (known_any _).mono ?_
      rintro e w3 ⟨rfl, hb3⟩
      go_wp2_with fail
      go_ret
      exact ⟨rfl, below_step HB3.out hb3⟩

set_option maxRecDepth 100000 in
theorem framesRun_calls (l : List UInt8) (hl : l.length ≤ 140737488351232) (w : World) :
    Calls Try.prog 7 #[.string (S l)] w fun e w' => e = .returned (.bool true) ∧ Below w.heap.size w w' := by
  by_cases h1 : 1500 < l.length
  · have d1 : decide (1500 < (l.length : Int)) = true := by simp; omega
    go_enter Try.func7, Try.ntmps7
    go_wp2_with fail
    with_reducible refine (known_any _).mono ?_
    rintro e w1 ⟨rfl, hb1⟩
    go_wp2_with fail
    go_ret
    exact ⟨rfl, hb1⟩
  exact framesRun_mid l (by omega) w

end Go.Proofs.Ytehcedepiepbiaa
