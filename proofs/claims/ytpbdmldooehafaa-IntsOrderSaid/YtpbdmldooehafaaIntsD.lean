/- Layer 1: the chapter's examples (spoorlaw01.does) come out true. -/
import Derived.Test.YtpbdmldooehafaaIntsC2
namespace Go.Proofs.Ytpbdmldooehafaa
set_option linter.unusedVariables false
open Go Go.RowKit

theorem ex1 : M.gets [130, 44, 7] 0 = some (300, 2) := by decide
theorem ex2 : M.gets [128, 5] 0 = none := by decide
theorem ex3 : M.ofBigs [0, 0, 0, 0, 0, 0, 1, 2] 0 = some 258 := by decide
theorem ex4 : M.getTs [2, 120, 121, 122] 0 = some ([120, 121], 3) := by decide
theorem ex5 : M.putN 300 = [130, 44] := by decide
theorem ex6 : M.bigN 258 = [0, 0, 0, 0, 0, 0, 1, 2] := by decide

set_option maxHeartbeats 1000000 in
set_option maxRecDepth 100000 in
theorem does1 (w : World) : Calls Try.prog 19 #[] w fun e w' => e = .returned (.bool true) ∧ Below w.heap.size w w' := by
  have c1 : ∀ W, Calls Try.prog 20 #[.string ⟨#[130, 44, 7]⟩, .int .i64 0] W fun e w' => e = .returned (.tuple #[.int .i64 300, .int .i64 2, .bool true]) ∧ W = w' := fun W => by
    have := get_any [130, 44, 7] 0 W (by decide); rw [ex1] at this; exact this
  have c2 : ∀ W, Calls Try.prog 20 #[.string ⟨#[128, 5]⟩, .int .i64 0] W fun e w' => e = .returned (.tuple #[.int .i64 0, .int .i64 0, .bool false]) ∧ W = w' := fun W => by
    have := get_any [128, 5] 0 W (by decide); rw [ex2] at this; exact this
  have c3 : ∀ W, Calls Try.prog 22 #[.string ⟨#[0, 0, 0, 0, 0, 0, 1, 2]⟩, .int .i64 0] W fun e w' => e = .returned (.tuple #[.int .i64 258, .bool true]) ∧ W = w' := fun W => by
    have := ofBig_any [0, 0, 0, 0, 0, 0, 1, 2] 0 W (by decide); rw [ex3] at this; exact this
  have c4 : ∀ W, Calls Try.prog 24 #[.string ⟨#[2, 120, 121, 122]⟩, .int .i64 0] W fun e w' => e = .returned (.tuple #[.string ⟨#[120, 121]⟩, .int .i64 3, .bool true]) ∧ W = w' := fun W => by
    have := getText_any [2, 120, 121, 122] 0 W (by decide); rw [ex4] at this; exact this
  have c5 : ∀ W, Calls Try.prog 15 #[.int .i64 300] W fun e w' => e = .returned (.string ⟨#[130, 44]⟩) ∧ Below W.heap.size W w' := fun W => by
    have := put_nat 300 W (by decide); rw [ex5] at this; exact this
  have c6 : ∀ W, Calls Try.prog 15 #[.int .i64 (-1)] W fun e w' => e = .returned (.string ⟨#[]⟩) ∧ W = w' := fun W => put_neg (-1) W (by decide)
  have c7 : ∀ W, Calls Try.prog 17 #[.int .i64 258] W fun e w' => e = .returned (.string ⟨#[0, 0, 0, 0, 0, 0, 1, 2]⟩) ∧ Below W.heap.size W w' := fun W => by
    have := big_nat 258 W (by decide); rw [ex6] at this; exact this
  have C1 := Lib.hid c1
  have C2 := Lib.hid c2
  have C3 := Lib.hid c3
  have C4 := Lib.hid c4
  have C5 := Lib.hid c5
  have C6 := Lib.hid c6
  have C7 := Lib.hid c7
  clear c1 c2 c3 c4 c5 c6 c7
  go_enter Try.func19, Try.ntmps19
  go_wp2_with fail
  with_reducible refine (C1.out _).mono ?_
  rintro e w' ⟨rfl, rfl⟩
  go_wp2_with fail
  with_reducible refine (C2.out _).mono ?_
  rintro e w' ⟨rfl, rfl⟩
  go_wp2_with fail
  with_reducible refine (C3.out _).mono ?_
  rintro e w' ⟨rfl, rfl⟩
  go_wp2_with fail
  with_reducible refine (C4.out _).mono ?_
  rintro e w' ⟨rfl, rfl⟩
  go_wp2_with fail
  with_reducible refine (C5.out _).mono ?_
  rintro e w5 ⟨rfl, hb5⟩
  go_wp2_with fail
  with_reducible refine (C6.out _).mono ?_
  rintro e w' ⟨rfl, rfl⟩
  go_wp2_with fail
  with_reducible refine (C7.out _).mono ?_
  rintro e w7 ⟨rfl, hb7⟩
  go_wp2_with fail
  go_ret
  exact ⟨rfl, hb5.trans (hb7.mono hb5.size)⟩

end Go.Proofs.Ytpbdmldooehafaa
