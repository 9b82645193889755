/- Layer 8: keys, the program's and the document's, by contracts: Index, Stretch. -/
import Derived.Test.YtjlddackpckmfaaKeysC
import Derived.Test.YtjlddackpckmfaaZC
namespace Go.Proofs.Ytjlddackpckmfaa
set_option linter.unusedVariables false
open Go Go.RowKit Go.Sort
attribute [local go_sem ↓] run_index_S
attribute [local go_sem] S_append S_extract

set_option maxHeartbeats 1000000 in
set_option maxRecDepth 100000 in
theorem index_any (x : M.Sp) (hx : x.fits) (w : World) :
    Calls Try.prog 29 #[.agg #[.int .i64 x.trace, .int .i64 x.id, .int .i64 x.parent, .string (S x.svc), .string (S x.host), .int .i64 x.start, .int .i64 x.dur, .string (S x.note)]] w fun e w' => e = .returned (.tuple #[.string (S (M.idxK x)), .int .i64 (M.errOf (M.mayB x))]) ∧ Below w.heap.size w w' := by
  have cc := fun W => check_any x hx W
  cases hm : M.mayB x with
  | false =>
    rw [M.idxK, hm]
    rw [hm] at cc
    have CC := Lib.hid cc
    clear cc
    have HB0 := Lib.hid ((Below.refl w.heap.size w).alloc (Nat.le_refl _) (.cells #[.int .i64 x.trace, .int .i64 x.id, .int .i64 x.parent, .string (S x.svc), .string (S x.host), .int .i64 x.start, .int .i64 x.dur, .string (S x.note)] 23))
    go_enter Try.func29, Try.ntmps29
    go_wp2_with fail
    with_reducible refine (CC.out _).mono ?_
    rintro e w1 ⟨rfl, hb1⟩
    have HB1 := Lib.hid (below_step HB0.out hb1)
    clear hb1
    simp only [M.errOf]
    go_wp2_with fail
    go_ret2
    exact ⟨rfl, HB1.out⟩
  | true =>
    rw [M.idxK, hm]
    rw [hm] at cc
    obtain ⟨ht, hi, hp, hs, hh, hb, hd, hn⟩ := M.mayB_parts hm
    have hs12 := (M.nameB_len hs).2
    have hh12 := (M.nameB_len hh).2
    have c0 := fun W => start_any x.svc x.host (by omega) (by omega) W
    have c1 := fun W => big_nat x.start.toNat W (by omega)
    rw [Int.toNat_of_nonneg hb.1] at c1
    have c2 := fun W => big_nat x.trace.toNat W (by omega)
    rw [Int.toNat_of_nonneg (show 0 ≤ x.trace by omega)] at c2
    have c3 := fun W => big_nat x.id.toNat W (by omega)
    rw [Int.toNat_of_nonneg (show 0 ≤ x.id by omega)] at c3
    have l1 : (M.bigN x.start.toNat).length ≤ 8 := Nat.le_of_eq (M.bigN_length _)
    have l2 : (M.bigN x.trace.toNat).length ≤ 8 := Nat.le_of_eq (M.bigN_length _)
    have l3 : (M.bigN x.id.toNat).length ≤ 8 := Nat.le_of_eq (M.bigN_length _)
    have l0 : (M.aheadK x.svc x.host).length ≤ 30 := by simp [M.aheadK]; omega
    have hK : M.indexK x.svc x.host x.start.toNat x.trace.toNat x.id.toNat = M.aheadK x.svc x.host ++ (M.bigN x.start.toNat ++ (M.bigN x.trace.toNat ++ M.bigN x.id.toNat)) := rfl
    have HK := Lib.hid hK
    have CC := Lib.hid cc
    have HB0 := Lib.hid ((Below.refl w.heap.size w).alloc (Nat.le_refl _) (.cells #[.int .i64 x.trace, .int .i64 x.id, .int .i64 x.parent, .string (S x.svc), .string (S x.host), .int .i64 x.start, .int .i64 x.dur, .string (S x.note)] 23))
    simp only [if_true]
    clear hK cc ht hi hp hs hh hb hd hn
    generalize M.aheadK x.svc x.host = ah at *
    generalize M.bigN x.start.toNat = b1 at *
    generalize M.bigN x.trace.toNat = b2 at *
    generalize M.bigN x.id.toNat = b3 at *
    have C0 := Lib.hid (fun W => (c0 W).mono fun e w' ⟨he, hw⟩ => (⟨he, hw ▸ Below.refl _ _⟩ : e = Ending.returned (.string (S ah)) ∧ Below W.heap.size W w'))
    have C1 := Lib.hid c1
    have C2 := Lib.hid c2
    have C3 := Lib.hid c3
    clear c0 c1 c2 c3
    go_enter Try.func29, Try.ntmps29
    go_wp2_with fail
    with_reducible refine (CC.out _).mono ?_
    rintro e w1 ⟨rfl, hb1⟩
    have HS1 := Lib.hid ((spAt_new x w 23).below hb1)
    have HB1 := Lib.hid (below_step HB0.out hb1)
    clear hb1
    have g0 := fun d os => (HS1.out.grown d os).c0
    have g1 := fun d os => (HS1.out.grown d os).c1
    have g3 := fun d os => (HS1.out.grown d os).c3
    have g4 := fun d os => (HS1.out.grown d os).c4
    have g5 := fun d os => (HS1.out.grown d os).c5
    simp only [M.errOf]
    go_wp2_with fail
    refine wp_region_quiet_below (by kernel_rfl) (by kernel_rfl) ?_
    repeat (go_big_quiet_step ((first | (go_at_call 46; with_reducible exact Calls.regrown_of (C0.out _)) | (go_at_call 45; with_reducible exact Calls.regrown_of (C1.out _)) | (go_at_call 45; with_reducible exact Calls.regrown_of (C2.out _)) | (go_at_call 45; with_reducible exact Calls.regrown_of (C3.out _)))))
    refine wpQuiet_nil ?_
    intro _ hw1
    obtain ⟨⟨d1, d1o⟩, hw1⟩ := hw1
    subst hw1
    clear g0 g1 g3 g4 g5
    go_wp2_with fail
    go_ret2
    exact ⟨ret_si (by rw [HK.out]) rfl, HB1.out.trans ((below_regrown w1 d1 d1o).mono HB1.out.size)⟩

set_option maxHeartbeats 1000000 in
set_option maxRecDepth 100000 in
theorem refIndex_any (x : M.Sp) (hx : x.fits) (w : World) :
    Calls Try.prog 32 #[.agg #[.int .i64 x.trace, .int .i64 x.id, .int .i64 x.parent, .string (S x.svc), .string (S x.host), .int .i64 x.start, .int .i64 x.dur, .string (S x.note)]] w fun e w' => e = .returned (.tuple #[.string (S (M.idxK x)), .int .i64 (M.errOf (M.mayB x))]) ∧ Below w.heap.size w w' := by
  have cc := fun W => refMay_any x hx W
  cases hm : M.mayB x with
  | false =>
    rw [M.idxK, hm]
    rw [hm] at cc
    have CC := Lib.hid cc
    clear cc
    have HB0 := Lib.hid ((Below.refl w.heap.size w).alloc (Nat.le_refl _) (.cells #[.int .i64 x.trace, .int .i64 x.id, .int .i64 x.parent, .string (S x.svc), .string (S x.host), .int .i64 x.start, .int .i64 x.dur, .string (S x.note)] 23))
    go_enter Try.func32, Try.ntmps32
    go_wp2_with fail
    with_reducible refine (CC.out _).mono ?_
    rintro e w1 ⟨rfl, hb1⟩
    have HB1 := Lib.hid (below_step HB0.out hb1)
    clear hb1
    go_wp2_with fail
    go_ret2
    exact ⟨rfl, HB1.out⟩
  | true =>
    rw [M.idxK, hm]
    rw [hm] at cc
    obtain ⟨ht, hi, hp, hs, hh, hb, hd, hn⟩ := M.mayB_parts hm
    have hs12 := (M.nameB_len hs).2
    have hh12 := (M.nameB_len hh).2
    have c0 := fun W => refStart_any x.svc x.host (by omega) (by omega) W
    have c1 := fun W => refBig_nat x.start.toNat W (by omega)
    rw [Int.toNat_of_nonneg hb.1] at c1
    have c2 := fun W => refBig_nat x.trace.toNat W (by omega)
    rw [Int.toNat_of_nonneg (show 0 ≤ x.trace by omega)] at c2
    have c3 := fun W => refBig_nat x.id.toNat W (by omega)
    rw [Int.toNat_of_nonneg (show 0 ≤ x.id by omega)] at c3
    have l1 : (M.bigN x.start.toNat).length ≤ 8 := Nat.le_of_eq (M.bigN_length _)
    have l2 : (M.bigN x.trace.toNat).length ≤ 8 := Nat.le_of_eq (M.bigN_length _)
    have l3 : (M.bigN x.id.toNat).length ≤ 8 := Nat.le_of_eq (M.bigN_length _)
    have l0 : (M.aheadK x.svc x.host).length ≤ 30 := by simp [M.aheadK]; omega
    have hK : M.indexK x.svc x.host x.start.toNat x.trace.toNat x.id.toNat = M.aheadK x.svc x.host ++ (M.bigN x.start.toNat ++ (M.bigN x.trace.toNat ++ M.bigN x.id.toNat)) := rfl
    have HK := Lib.hid hK
    have CC := Lib.hid cc
    have HB0 := Lib.hid ((Below.refl w.heap.size w).alloc (Nat.le_refl _) (.cells #[.int .i64 x.trace, .int .i64 x.id, .int .i64 x.parent, .string (S x.svc), .string (S x.host), .int .i64 x.start, .int .i64 x.dur, .string (S x.note)] 23))
    simp only [if_true]
    clear hK cc ht hi hp hs hh hb hd hn
    generalize M.aheadK x.svc x.host = ah at *
    generalize M.bigN x.start.toNat = b1 at *
    generalize M.bigN x.trace.toNat = b2 at *
    generalize M.bigN x.id.toNat = b3 at *
    have C0 := Lib.hid (fun W => (c0 W).mono fun e w' ⟨he, hw⟩ => (⟨he, hw ▸ Below.refl _ _⟩ : e = Ending.returned (.string (S ah)) ∧ Below W.heap.size W w'))
    have C1 := Lib.hid c1
    have C2 := Lib.hid c2
    have C3 := Lib.hid c3
    clear c0 c1 c2 c3
    go_enter Try.func32, Try.ntmps32
    go_wp2_with fail
    with_reducible refine (CC.out _).mono ?_
    rintro e w1 ⟨rfl, hb1⟩
    have HS1 := Lib.hid ((spAt_new x w 23).below hb1)
    have HB1 := Lib.hid (below_step HB0.out hb1)
    clear hb1
    have g0 := fun d os => (HS1.out.grown d os).c0
    have g1 := fun d os => (HS1.out.grown d os).c1
    have g3 := fun d os => (HS1.out.grown d os).c3
    have g4 := fun d os => (HS1.out.grown d os).c4
    have g5 := fun d os => (HS1.out.grown d os).c5
    go_wp2_with fail
    refine wp_region_quiet_below (by kernel_rfl) (by kernel_rfl) ?_
    repeat (go_big_quiet_step ((first | (go_at_call 52; with_reducible exact Calls.regrown_of (C0.out _)) | (go_at_call 51; with_reducible exact Calls.regrown_of (C1.out _)) | (go_at_call 51; with_reducible exact Calls.regrown_of (C2.out _)) | (go_at_call 51; with_reducible exact Calls.regrown_of (C3.out _)))))
    refine wpQuiet_nil ?_
    intro _ hw1
    obtain ⟨⟨d1, d1o⟩, hw1⟩ := hw1
    subst hw1
    clear g0 g1 g3 g4 g5
    go_wp2_with fail
    go_ret2
    exact ⟨ret_si (by rw [HK.out]) rfl, HB1.out.trans ((below_regrown w1 d1 d1o).mono HB1.out.size)⟩

end Go.Proofs.Ytjlddackpckmfaa
