/- Layer 12: which batches and acks may be; acks' bytes: the program's functions and the document's, each by a contract. -/
import Derived.Test.YtblgfhljaafmhaaPostsM
import Derived.Test.YtblgfhljaafmhaaSpansC
namespace Go.Proofs.Ytblgfhljaafmhaa
set_option linter.unusedVariables false
open Go Go.RowKit
attribute [local go_sem ↓] run_index_S
attribute [local go_sem] S_append S_extract

theorem isHost_any (h : Int) (w : World) :
    Calls Try.prog 40 #[.int .i64 h] w fun e w' => e = .returned (.bool (M.win h 0 3)) ∧ w = w' := by
  by_cases h1 : 0 ≤ h
  · by_cases h2 : h < 4
    · go_enter Try.func40, Try.ntmps40
      go_wp2_with fail
      go_ret
      exact ⟨ret_bool (M.win_true.2 (by omega)).symm, rfl⟩
    · go_enter Try.func40, Try.ntmps40
      go_wp2_with fail
      go_ret
      exact ⟨ret_bool (M.win_false.2 (by omega)).symm, rfl⟩
  · go_enter Try.func40, Try.ntmps40
    go_wp2_with fail
    go_ret
    exact ⟨ret_bool (M.win_false.2 (by omega)).symm, rfl⟩

def M.numB (h f : Int) : Bool := M.win h 0 3 && M.win f 0 2147483647
theorem M.numB_true {h f : Int} : M.numB h f = true ↔ (0 ≤ h ∧ h ≤ 3) ∧ (0 ≤ f ∧ f ≤ 2147483647) := by simp only [M.numB, Bool.and_eq_true, M.win_true]
theorem number_any (h f : Int) (w : World) :
    Calls Try.prog 25 #[.int .i64 h, .int .i64 f] w fun e w' => e = .returned (.bool (M.numB h f)) ∧ w = w' := by
  generalize hr : M.numB h f = r
  have HR := Lib.hid hr
  clear hr
  go_enter Try.func25, Try.ntmps25
  go_wp2_with fail
  all_goals
    go_ret
    exact ⟨ret_bool (by rw [← HR.out, Bool.eq_iff_iff, M.numB_true]; simp only [decide_eq_true_eq, Bool.false_eq_true, false_iff]; omega), rfl⟩

theorem batchMayBe_any (h f : Int) (L : List M.Sp) (ao : Option Addr) (cap : Nat) (w : World) (hl : L.length ≤ 140737488351232) :
    Calls Try.prog 21 #[.agg #[.int .i64 h, .int .i64 f, .slice ao L.length cap]] w fun e w' => e = .returned (.bool (M.bMay ⟨h, f, L⟩)) ∧ Below w.heap.size w w' := by
  generalize hr : M.bMay ⟨h, f, L⟩ = r
  have HR := Lib.hid hr
  clear hr
  go_enter Try.func21, Try.ntmps21
  go_wp2_with (go_at_call 40; refine (isHost_any _ _).mono ?_; rintro e w' ⟨rfl, rfl⟩)
  all_goals
    go_ret
    exact ⟨ret_bool (by rw [← HR.out, Bool.eq_iff_iff, M.bMay_true]; simp only [decide_eq_true_eq, Bool.false_eq_true, false_iff, M.win_true] at *; omega), (Below.refl _ _).alloc (Nat.le_refl _) _⟩

theorem ackMayBe_any (h f n : Int) (w : World) :
    Calls Try.prog 29 #[.agg #[.int .i64 h, .int .i64 f, .int .i64 n]] w fun e w' => e = .returned (.bool (M.aMay ⟨h, f, n⟩)) ∧ Below w.heap.size w w' := by
  generalize hr : M.aMay ⟨h, f, n⟩ = r
  have HR := Lib.hid hr
  clear hr
  go_enter Try.func29, Try.ntmps29
  go_wp2_with (go_at_call 40; refine (isHost_any _ _).mono ?_; rintro e w' ⟨rfl, rfl⟩)
  all_goals
    go_ret
    exact ⟨ret_bool (by rw [← HR.out, Bool.eq_iff_iff, M.aMay_true]; simp only [decide_eq_true_eq, Bool.false_eq_true, false_iff, M.win_true] at *; omega), (Below.refl _ _).alloc (Nat.le_refl _) _⟩

end Go.Proofs.Ytblgfhljaafmhaa
