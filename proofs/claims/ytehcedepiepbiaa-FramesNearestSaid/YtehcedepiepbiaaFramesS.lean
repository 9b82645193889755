/- Layer 4: Resync, the program's and the document's, by contracts. -/
import Derived.Test.YtehcedepiepbiaaFramesR
import Derived.Test.YtehcedepiepbiaaShelf
import Derived.Lib.IndexLaws
namespace Go.Proofs.Ytehcedepiepbiaa
set_option linter.unusedVariables false
open Go Go.RowKit
attribute [local go_sem ↓] run_index_S
attribute [local go_sem] S_append S_extract

/-- P4.3. -/
def M.rsF (s : List UInt8) : Nat → Nat → Nat
  | 0, _ => s.length
  | f + 1, a => if M.Stands s a then a else M.rsF s f (a + 1)
def M.rs (s : List UInt8) (a : Nat) : Nat := M.rsF s (s.length - a) a
theorem M.rs_end (s : List UInt8) (a : Nat) (h : s.length ≤ a) : M.rs s a = s.length := by
  rw [M.rs, show s.length - a = 0 from by omega, M.rsF]
theorem M.rs_step (s : List UInt8) (a : Nat) (h : a < s.length) : M.rs s a = if M.Stands s a then a else M.rs s (a + 1) := by
  rw [M.rs, show s.length - a = (s.length - (a + 1)) + 1 from by omega, M.rsF, M.rs]
theorem M.rs_yes {s : List UInt8} {a : Nat} (h : M.Stands s a) : M.rs s a = a := by
  rw [M.rs_step s a (by have := h.room; omega), if_pos h]
theorem M.rs_no {s : List UInt8} {a : Nat} (h : ¬ M.Stands s a) (ha : a < s.length) : M.rs s a = M.rs s (a + 1) := by
  rw [M.rs_step s a ha, if_neg h]
theorem M.rs_skip (s : List UInt8) (a : Nat) : ∀ (k : Nat), a + k ≤ s.length → (∀ i, i < k → ¬ M.Stands s (a + i)) → M.rs s a = M.rs s (a + k)
  | 0, _, _ => rfl
  | k + 1, hk, h => by
    rw [M.rs_skip s a k (by omega) (fun i hi => h i (by omega)), M.rs_no (h k (by omega)) (by omega)]
    rfl
theorem not_two {s : List UInt8} {a i : Nat} (h : (s.drop a)[i]? ≠ some 2) (hl : a + i < s.length) : ¬ M.Stands s (a + i) := by
  intro hs
  have h2 := hs.two
  rw [List.getElem?_drop, List.getElem?_eq_getElem hl] at h
  rw [List.getD, List.getElem?_eq_getElem hl] at h2
  exact h (by simpa using h2)

set_option maxHeartbeats 2000000 in
set_option maxRecDepth 100000 in
theorem resync_nat (l : List UInt8) (hl : l.length ≤ 140737488351232) (at_ : Int) (a0 : Nat) (hat : at_ = a0 ∨ (at_ < 0 ∧ a0 = 0)) (w : World) :
    Calls Try.prog 17 #[.string (S l), .int .i64 at_] w fun e w' => e = .returned (.int .i64 (M.rs l a0)) ∧ Below w.heap.size w w' := by
  have hmax : (if at_ < 0 then (0 : Int) else at_) = (a0 : Int) := by split <;> omega
  have hmax2 : max at_ 0 = (a0 : Int) := by omega
  go_enter Try.func17, Try.ntmps17
  go_wp2_with fail
  have HAT := Lib.hid hat
  clear hmax hmax2 hat
  go_loopw [1] (fun v wr => ∃ a : Nat, v = .int .i64 a ∧ M.rs l a = M.rs l a0 ∧ Below w.heap.size w wr) (fun v _ => l.length - (intOf v).toNat)
  case atStart => exact ⟨a0, rfl, rfl, Below.refl _ _⟩
  case round =>
    obtain ⟨a, rfl, hrs, hb⟩ := hrel
    have HRS := Lib.hid hrs
    clear hrs
    by_cases ha : a < l.length
    · have d1 : decide ((a : Int) < (l.length : Int)) = true := by simp; omega
      have hs0 := run_piece_from (P := Try.prog) 9 Try.underlying9 l (a : Int) a rfl (by omega)
      have ci : ∀ W, Calls Try.prog 28 #[.string (S (l.drop a)), .string ⟨#[2]⟩] W fun e w' => e = .returned (.int .i64 (Lib.indexByte (l.drop a) 2)) ∧ W = w' := fun W =>
        (Try.strings_Index_one (S (l.drop a)) 2 W).mono fun e w' ⟨he, hw⟩ => ⟨he, hw.symm⟩
      have hge := Lib.indexByte_ge (l.drop a) 2
      by_cases hneg : Lib.indexByte (l.drop a) 2 = -1
      · have hend : M.rs l a = l.length := by
          have h := M.rs_skip l a (l.length - a) (by omega) (fun i hi => not_two (Lib.indexByte_none hneg i) (by omega))
          rw [h, M.rs_end l _ (by omega)]
        rw [hneg] at ci
        have CI := Lib.hid ci
        have HE := Lib.hid (HRS.out.symm.trans hend)
        clear ci hge hneg hend
        generalize l.drop a = r at *
        go_wp2_with fail
        with_reducible refine (CI.out _).mono ?_
        rintro e w1 ⟨rfl, rfl⟩
        go_wp2_with fail
        go_ret
        exact ⟨ret_int (by rw [HE.out]), hb⟩
      · obtain ⟨o, ho⟩ := Int.eq_ofNat_of_zero_le (show 0 ≤ Lib.indexByte (l.drop a) 2 by omega)
        obtain ⟨h1, h2⟩ := Lib.indexByte_some ho
        have hlt : a + o < l.length := by
          have := (List.getElem?_eq_some_iff.1 h1).1
          rw [List.length_drop] at this
          omega
        have hsk : M.rs l a = M.rs l (a + o) := M.rs_skip l a o (by omega) (fun i hi => not_two (h2 i hi) (by omega))
        rw [ho] at ci
        have hn := fun W => next_any l (by omega) ((a + o : Nat) : Int) W
        rw [M.nextI_nat, show (((a + o : Nat)) : Int) = (a : Int) + (o : Int) from by omega] at hn
        have HSK := Lib.hid (HRS.out.symm.trans hsk)
        have CI := Lib.hid ci
        clear ci hge hneg ho h1 h2 hsk
        by_cases hst : M.Stands l (a + o)
        · rw [M.next_yes hst] at hn
          simp only [triF] at hn
          have HE := Lib.hid (HSK.out.trans (M.rs_yes hst))
          have CN := Lib.hid hn
          clear hn hst
          generalize l.drop a = r at *
          go_wp2_with fail
          with_reducible refine (CI.out _).mono ?_
          rintro e w1 ⟨rfl, rfl⟩
          go_wp2_with fail
          with_reducible refine (CN.out _).mono ?_
          rintro e w2 ⟨rfl, hb2⟩
          go_wp2_with fail
          go_ret
          exact ⟨ret_int (by rw [HE.out]; omega), below_step hb hb2⟩
        · rw [M.next_no hst] at hn
          simp only [triF] at hn
          have HE := Lib.hid ((M.rs_no hst hlt).symm.trans HSK.out.symm)
          have CN := Lib.hid hn
          clear hn hst
          generalize l.drop a = r at *
          go_wp2_with fail
          with_reducible refine (CI.out _).mono ?_
          rintro e w1 ⟨rfl, rfl⟩
          go_wp2_with fail
          with_reducible refine (CN.out _).mono ?_
          rintro e w2 ⟨rfl, hb2⟩
          go_wp2_with fail
          go_roundw
          case rel => exact ⟨a + o + 1, by go_num, HE.out, below_step hb hb2⟩
          case measure => simp [intOf]; omega
    · have d1 : decide ((a : Int) < (l.length : Int)) = false := by simp; omega
      have HE := Lib.hid (HRS.out.symm.trans (M.rs_end l a (by omega)))
      go_wp2_with fail
      go_ret
      exact ⟨ret_int (by rw [HE.out]), hb⟩

set_option maxHeartbeats 2000000 in
set_option maxRecDepth 100000 in
theorem refResync_nat (l : List UInt8) (hl : l.length ≤ 140737488351232) (at_ : Int) (a0 : Nat) (hat : at_ = a0 ∨ (at_ < 0 ∧ a0 = 0)) (w : World) :
    Calls Try.prog 18 #[.string (S l), .int .i64 at_] w fun e w' => e = .returned (.int .i64 (M.rs l a0)) ∧ Below w.heap.size w w' := by
  have hmax2 : max at_ 0 = (a0 : Int) := by omega
  go_enter Try.func18, Try.ntmps18
  go_wp2_with fail
  have HAT := Lib.hid hat
  clear hmax2 hat
  go_loopw [5] (fun v wr => ∃ a : Nat, v = .int .i64 a ∧ M.rs l a = M.rs l a0 ∧ Below w.heap.size w wr) (fun v _ => l.length - (intOf v).toNat)
  case atStart => exact ⟨a0, rfl, rfl, Below.refl _ _⟩
  case round =>
    obtain ⟨a, rfl, hrs, hb⟩ := hrel
    have HRS := Lib.hid hrs
    clear hrs
    by_cases ha : a < l.length
    · have d1 : decide ((a : Int) < (l.length : Int)) = true := by simp; omega
      have hn := fun W => refNext_any l hl (a : Int) W
      rw [M.nextI_nat] at hn
      by_cases hst : M.Stands l a
      · rw [M.next_yes hst] at hn
        simp only [triF] at hn
        have HE := Lib.hid (HRS.out.symm.trans (M.rs_yes hst))
        have CN := Lib.hid hn
        clear hn hst
        go_wp2_with fail
        with_reducible refine (CN.out _).mono ?_
        rintro e w2 ⟨rfl, hb2⟩
        go_wp2_with fail
        go_ret
        exact ⟨ret_int (by rw [HE.out]), below_step hb hb2⟩
      · rw [M.next_no hst] at hn
        simp only [triF] at hn
        have HE := Lib.hid ((M.rs_no hst ha).symm.trans HRS.out)
        have CN := Lib.hid hn
        clear hn hst
        go_wp2_with fail
        with_reducible refine (CN.out _).mono ?_
        rintro e w2 ⟨rfl, hb2⟩
        go_wp2_with fail
        go_roundw
        case rel => exact ⟨a + 1, by go_num, HE.out, below_step hb hb2⟩
        case measure => simp [intOf]; omega
    · have d1 : decide ((a : Int) < (l.length : Int)) = false := by simp; omega
      have HE := Lib.hid (HRS.out.symm.trans (M.rs_end l a (by omega)))
      go_wp2_with fail
      go_ret
      exact ⟨ret_int (by rw [HE.out]), hb⟩

end Go.Proofs.Ytehcedepiepbiaa
