/- Layer 2: the chapter's examples (spoorlaw02.does) come out true. -/
import Derived.Test.YtpbdmldooehafabSumsC2
namespace Go.Proofs.Ytpbdmldooehafab
set_option linter.unusedVariables false
open Go Go.RowKit

theorem sx1 : M.sumP [97, 98, 99] = 38600999 := by decide
theorem sx2 : M.sumP [87, 105, 107, 105, 112, 101, 100, 105, 97] = 300286872 := by decide
theorem sx3 : M.sumP [97, 98] = 19267780 := by decide
theorem sx4 : M.moreP 19267780 [99] = 38600999 := by decide
theorem sx5 : rollS 38600999 3 97 100 = 38994218 := by decide
theorem sx6 : M.sumP [98, 99, 100] = 38994218 := by decide
theorem sx7 : M.big 4 300286872 = [17, 230, 3, 152] := by decide

set_option maxHeartbeats 1000000 in
theorem does2 (w : World) : Calls Try.prog 13 #[] w fun e w' => e = .returned (.bool true) ∧ Below w.heap.size w w' := by
  have c1 : ∀ W, Calls Try.prog 14 #[.string ⟨#[97, 98, 99]⟩] W fun e w' => e = .returned (.int .u32 38600999) ∧ Below W.heap.size W w' := fun W => by
    have := sum0_any [97, 98, 99] (by decide) W; rw [sx1] at this; exact this
  have c2 : ∀ W, Calls Try.prog 14 #[.string ⟨#[87, 105, 107, 105, 112, 101, 100, 105, 97]⟩] W fun e w' => e = .returned (.int .u32 300286872) ∧ Below W.heap.size W w' := fun W => by
    have := sum0_any [87, 105, 107, 105, 112, 101, 100, 105, 97] (by decide) W; rw [sx2] at this; exact this
  have c3 : ∀ W, Calls Try.prog 14 #[.string ⟨#[97, 98]⟩] W fun e w' => e = .returned (.int .u32 19267780) ∧ Below W.heap.size W w' := fun W => by
    have := sum0_any [97, 98] (by decide) W; rw [sx3] at this; exact this
  have c4 : ∀ W, Calls Try.prog 30 #[.int .u32 19267780, .string ⟨#[99]⟩] W fun e w' => e = .returned (.int .u32 38600999) ∧ Below W.heap.size W w' := fun W => by
    have := more_any 19267780 (by decide) [99] (by decide) W; rw [sx4] at this; exact this
  have c5 : ∀ W, Calls Try.prog 31 #[.int .u32 38600999, .int .i64 3, .int .u8 97, .int .u8 100] W fun e w' => e = .returned (.int .u32 38994218) ∧ Below W.heap.size W w' := fun W => by
    have := roll_any 38600999 (by decide) 3 (by decide) 97 100 (by decide) (by decide) W; rw [sx5] at this; exact this
  have c6 : ∀ W, Calls Try.prog 14 #[.string ⟨#[98, 99, 100]⟩] W fun e w' => e = .returned (.int .u32 38994218) ∧ Below W.heap.size W w' := fun W => by
    have := sum0_any [98, 99, 100] (by decide) W; rw [sx6] at this; exact this
  have c7 : ∀ W, Calls Try.prog 15 #[.int .u32 300286872] W fun e w' => e = .returned (.string ⟨#[17, 230, 3, 152]⟩) ∧ Below W.heap.size W w' := fun W => by
    have := bytes_any 300286872 (by decide) W; rw [sx7] at this; exact this
  have C1 := Lib.hid c1
  have C2 := Lib.hid c2
  have C3 := Lib.hid c3
  have C4 := Lib.hid c4
  have C5 := Lib.hid c5
  have C6 := Lib.hid c6
  have C7 := Lib.hid c7
  clear c1 c2 c3 c4 c5 c6 c7
  go_enter Try.func13, Try.ntmps13
  go_wp2_with fail
  with_reducible refine (C1.out _).mono ?_
  rintro e w1 ⟨rfl, hb1⟩
  go_wp2_with fail
  with_reducible refine (C2.out _).mono ?_
  rintro e w2 ⟨rfl, hb2⟩
  go_wp2_with fail
  with_reducible refine (C3.out _).mono ?_
  rintro e w3 ⟨rfl, hb3⟩
  go_wp2_with fail
  with_reducible refine (C4.out _).mono ?_
  rintro e w4 ⟨rfl, hb4⟩
  go_wp2_with fail
  with_reducible refine (C5.out _).mono ?_
  rintro e w5 ⟨rfl, hb5⟩
  go_wp2_with fail
  with_reducible refine (C6.out _).mono ?_
  rintro e w6 ⟨rfl, hb6⟩
  go_wp2_with fail
  with_reducible refine (C7.out _).mono ?_
  rintro e w7 ⟨rfl, hb7⟩
  go_wp2_with fail
  go_ret
  exact ⟨rfl, below_step (below_step (below_step (below_step (below_step (below_step hb1 hb2) hb3) hb4) hb5) hb6) hb7⟩

end Go.Proofs.Ytpbdmldooehafab
