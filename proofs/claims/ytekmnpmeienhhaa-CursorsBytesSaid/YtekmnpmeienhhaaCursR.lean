/- Layer 13: the document's: which cursors may be, their bytes, by contracts. -/
import Derived.Test.YtekmnpmeienhhaaCursE
namespace Go.Proofs.Ytekmnpmeienhhaa
set_option linter.unusedVariables false
open Go Go.RowKit Go.Maps
attribute [local go_sem ↓] run_index_S
attribute [local go_sem] S_append S_extract

set_option maxHeartbeats 400000 in
theorem refMay13_any (a b : Int) (w : World) : Calls Try.prog 79 #[.agg #[.int .i64 a, .int .i64 b]] w fun e w' => e = .returned (.bool (Cu.may ⟨a, b⟩)) ∧ Below w.heap.size w w' := by
  by_cases h1 : 0 ≤ a
  case neg =>
    rw [Cu.may_false (fun h => h1 h.1.1)]
    go_enter Try.func79, Try.ntmps79
    go_wp2_with fail
    go_ret
    exact ⟨rfl, (Below.refl _ _).alloc (Nat.le_refl _) _⟩
  by_cases h2 : a ≤ 2147483647
  case neg =>
    rw [Cu.may_false (fun h => h2 h.1.2)]
    go_enter Try.func79, Try.ntmps79
    go_wp2_with fail
    go_ret
    exact ⟨rfl, (Below.refl _ _).alloc (Nat.le_refl _) _⟩
  by_cases h3 : 0 ≤ b
  case neg =>
    rw [Cu.may_false (fun h => h3 h.2.1)]
    go_enter Try.func79, Try.ntmps79
    go_wp2_with fail
    go_ret
    exact ⟨rfl, (Below.refl _ _).alloc (Nat.le_refl _) _⟩
  by_cases h4 : b ≤ 2147483647
  case neg =>
    rw [Cu.may_false (fun h => h4 h.2.2)]
    go_enter Try.func79, Try.ntmps79
    go_wp2_with fail
    go_ret
    exact ⟨rfl, (Below.refl _ _).alloc (Nat.le_refl _) _⟩
  rw [Cu.may_iff.2 ⟨⟨h1, h2⟩, h3, h4⟩]
  go_enter Try.func79, Try.ntmps79
  go_wp2_with fail
  go_ret
  exact ⟨rfl, (Below.refl _ _).alloc (Nat.le_refl _) _⟩
set_option maxHeartbeats 1000000 in
theorem refEnc13_yes (n g : Nat) (hm : Cu.may ⟨n, g⟩ = true) (w : World) :
    Calls Try.prog 45 #[.agg #[.int .i64 n, .int .i64 g]] w fun e w' => e = .returned (.tuple #[.string (S (Cu.enc ⟨n, g⟩)), .int .i64 0]) ∧ Below w.heap.size w w' := by
  have hb := Cu.may_iff.1 hm
  dsimp only at hb
  have C0 := Lib.hid (fun W => by have := refMay13_any n g W; rw [hm] at this; exact this)
  have c1 := fun W => refPut_nat n W (by omega)
  have c2 := fun W => refPut_nat g W (by omega)
  have henc : Cu.enc ⟨n, g⟩ = 67 :: (M.putN n ++ M.putN g) := rfl
  have p1 := (M.putN_length n).2
  have p2 := (M.putN_length g).2
  generalize Cu.enc ⟨n, g⟩ = q at *
  generalize M.putN n = e1 at *
  generalize M.putN g = e2 at *
  have C1 := Lib.hid c1
  have C2 := Lib.hid c2
  have HQ := Lib.hid henc
  clear c1 c2 henc hm
  go_enter Try.func45, Try.ntmps45
  go_wp2_with fail
  with_reducible refine (C0.out _).mono ?_
  rintro e w1 ⟨rfl, hb1⟩
  have HR := Lib.hid ((bk_new #[.int .i64 n, .int .i64 g] 71 w).below hb1)
  have HB := Lib.hid (below_step ((Below.refl _ _).alloc (Nat.le_refl _) _) hb1)
  clear hb1
  go_wp2_with fail
  have g0 : ∀ d os, (Sort.grow (redrawn w1 d) os).cell? ⟨w.heap.size, 0, none⟩ = some (.int .i64 n) := fun d os => cell_regrown (HR.out.cell 0) d os
  have g1 : ∀ d os, (Sort.grow (redrawn w1 d) os).cell? ⟨w.heap.size, 1, none⟩ = some (.int .i64 g) := fun d os => cell_regrown (HR.out.cell 1) d os
  refine wp_region_quiet_below (by kernel_rfl) (by kernel_rfl) ?_
  repeat (go_big_quiet_step ((first | (go_at_call 80; with_reducible exact Calls.regrown_of (C1.out _)) | (go_at_call 80; with_reducible exact Calls.regrown_of (C2.out _)))))
  refine wpQuiet_nil ?_
  intro _ hw1
  obtain ⟨⟨d1, o1⟩, hw1⟩ := hw1
  subst hw1
  go_wp2_with fail
  go_ret2
  exact ⟨ret_se13 (by rw [HQ.out]), below_step HB.out (below_regrown _ d1 o1)⟩
theorem refEnc13_no (n g : Int) (hm : Cu.may ⟨n, g⟩ = false) (w : World) :
    Calls Try.prog 45 #[.agg #[.int .i64 n, .int .i64 g]] w fun e w' => e = .returned (.tuple #[.string ⟨#[]⟩, .int .i64 2]) ∧ Below w.heap.size w w' := by
  have C0 := Lib.hid (fun W => by have := refMay13_any n g W; rw [hm] at this; exact this)
  clear hm
  go_enter Try.func45, Try.ntmps45
  go_wp2_with fail
  with_reducible refine (C0.out _).mono ?_
  rintro e w1 ⟨rfl, hb1⟩
  go_wp2_with fail
  go_ret2
  exact ⟨rfl, below_step ((Below.refl _ _).alloc (Nat.le_refl _) _) hb1⟩
theorem refEnc13_any (c : Cu.C) (w : World) :
    Calls Try.prog 45 #[.agg #[.int .i64 c.next, .int .i64 c.gap]] w fun e w' => e = .returned (.tuple #[.string (S (Cu.encR c).2), .int .i64 (Cu.encR c).1]) ∧ Below w.heap.size w w' := by
  unfold Cu.encR
  cases hm : Cu.may c with
  | false => rw [if_neg (by simp)]; exact refEnc13_no _ _ hm w
  | true =>
    rw [if_pos rfl]
    obtain ⟨n, g, rfl⟩ := Cu.nat c hm
    exact refEnc13_yes n g hm w

end Go.Proofs.Ytekmnpmeienhhaa
