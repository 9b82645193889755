/- Layer 21: what has expired: the program's functions and the document's, each by a contract. -/
import Derived.Test.YtjlddackpckmfaaZC
import Derived.Test.YtjlddackpckmfaaZF
namespace Go.Proofs.Ytjlddackpckmfaa
set_option linter.unusedVariables false
open Go Go.RowKit

theorem u64_sub (s n : Int) (hs1 : -9223372036854775808 ≤ s) (hs2 : s ≤ 9223372036854775807) (hn1 : -9223372036854775808 ≤ n) (hn2 : n ≤ 9223372036854775807) (h : s ≤ n) : IntKind.u64.wrap (IntKind.u64.wrap n - IntKind.u64.wrap s) = n - s := by
  have e : ∀ x : Int, IntKind.u64.wrap x = x % 18446744073709551616 := fun x => by
    show (if (IntKind.signed .u64 && decide (x % 2 ^ 64 ≥ 2 ^ 63)) = true then x % 2 ^ 64 - 2 ^ 64 else x % 2 ^ 64) = _
    rw [if_neg (by simp [IntKind.signed])]
    rfl
  rw [e, e, e]
  omega
set_option maxHeartbeats 400000 in
theorem past_any (s n : Int) (hs1 : -9223372036854775808 ≤ s) (hs2 : s ≤ 9223372036854775807) (hn1 : -9223372036854775808 ≤ n) (hn2 : n ≤ 9223372036854775807) (w : World) :
    Calls Try.prog 35 #[.int .i64 s, .int .i64 n] w fun e w' => e = .returned (.bool (M.pastB s n)) ∧ w = w' := by
  by_cases h : s ≤ n
  · have hu := Lib.hid (u64_sub s n hs1 hs2 hn1 hn2 h)
    go_enter Try.func35, Try.ntmps35
    go_wp2_with fail
    go_ret
    exact ⟨ret_bool (by rw [hu.out, Bool.eq_iff_iff, M.pastB_true]; simp only [decide_eq_true_eq]; omega), rfl⟩
  · have HR := Lib.hid (show M.pastB s n = false from by rw [← Bool.not_eq_true, M.pastB_true]; omega)
    go_enter Try.func35, Try.ntmps35
    go_wp2_with fail
    go_ret
    exact ⟨ret_bool HR.out.symm, rfl⟩
theorem expired_any (x : M.Sp) (hx : x.fits) (n : Int) (hn1 : -9223372036854775808 ≤ n) (hn2 : n ≤ 9223372036854775807) (w : World) :
    Calls Try.prog 15 #[.agg #[.int .i64 x.trace, .int .i64 x.id, .int .i64 x.parent, .string (S x.svc), .string (S x.host), .int .i64 x.start, .int .i64 x.dur, .string (S x.note)], .int .i64 n] w fun e w' => e = .returned (.bool (M.pastB x.start n)) ∧ Below w.heap.size w w' := by
  have C := Lib.hid (fun W => past_any x.start n hx.s1 hx.s2 hn1 hn2 W)
  go_enter Try.func15, Try.ntmps15
  go_wp2_with fail
  with_reducible refine (C.out _).mono ?_
  rintro e w1 ⟨rfl, rfl⟩
  go_wp2_with fail
  go_ret
  exact ⟨rfl, (Below.refl _ _).alloc (Nat.le_refl _) _⟩
set_option maxHeartbeats 400000 in
theorem refExpired_any (x : M.Sp) (hx : x.fits) (n : Int) (hn1 : -9223372036854775808 ≤ n) (hn2 : n ≤ 9223372036854775807) (w : World) :
    Calls Try.prog 37 #[.agg #[.int .i64 x.trace, .int .i64 x.id, .int .i64 x.parent, .string (S x.svc), .string (S x.host), .int .i64 x.start, .int .i64 x.dur, .string (S x.note)], .int .i64 n] w fun e w' => e = .returned (.bool (M.pastB x.start n)) ∧ Below w.heap.size w w' := by
  have l1 := hx.s1
  have l2 := hx.s2
  clear hx
  by_cases h : x.start ≤ n
  · have hu := Lib.hid (u64_sub x.start n l1 l2 hn1 hn2 h)
    go_enter Try.func37, Try.ntmps37
    go_wp2_with fail
    go_ret
    exact ⟨ret_bool (by rw [hu.out, Bool.eq_iff_iff, M.pastB_true]; simp only [decide_eq_true_eq]; omega), (Below.refl _ _).alloc (Nat.le_refl _) _⟩
  · have HR := Lib.hid (show M.pastB x.start n = false from by rw [← Bool.not_eq_true, M.pastB_true]; omega)
    go_enter Try.func37, Try.ntmps37
    go_wp2_with fail
    go_ret
    exact ⟨ret_bool HR.out.symm, (Below.refl _ _).alloc (Nat.le_refl _) _⟩

end Go.Proofs.Ytjlddackpckmfaa
