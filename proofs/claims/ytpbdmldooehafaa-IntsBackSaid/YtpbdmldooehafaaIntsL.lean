/- Layer 1: the laws' walks. -/
import Derived.Test.YtpbdmldooehafaaIntsD
import Derived.Test.YtpbdmldooehafaaIntsM2
namespace Go.Proofs.Ytpbdmldooehafaa
set_option linter.unusedVariables false
open Go Go.RowKit
attribute [local go_sem ↓] run_index_S
attribute [local go_sem] S_append S_extract

theorem int_range {n : Int} (h : (Lit.int .i64 n).wf = true) : -9223372036854775808 ≤ n ∧ n ≤ 9223372036854775807 := by
  simp [Lit.wf, IntKind.min, IntKind.max, IntKind.signed, IntKind.bits] at h
  omega

set_option maxHeartbeats 1000000 in
theorem intsPut_calls (n : Int) (wf : (Lit.int .i64 n).wf = true) (w : World) :
    Calls Try.prog 3 #[.int .i64 n] w fun e w' => e = .returned (.bool true) ∧ Below w.heap.size w w' := by
  have hr := int_range wf
  by_cases h : n < 0
  · go_enter Try.func3, Try.ntmps3
    go_wp2_with fail
    with_reducible refine (put_neg n _ h).mono ?_
    rintro e w' ⟨rfl, rfl⟩
    go_wp2_with fail
    with_reducible refine (refPut_neg n _ h).mono ?_
    rintro e w' ⟨rfl, rfl⟩
    go_wp2_with fail
    with_reducible refine (big_neg n _ h).mono ?_
    rintro e w' ⟨rfl, rfl⟩
    go_wp2_with fail
    with_reducible refine (refBig_neg n _ h).mono ?_
    rintro e w' ⟨rfl, rfl⟩
    go_wp2_with fail
    with_reducible refine (does1 _).mono ?_
    rintro e w5 ⟨rfl, hb5⟩
    go_wp2_with fail
    go_ret
    exact ⟨rfl, hb5⟩
  · obtain ⟨m, rfl⟩ := Int.eq_ofNat_of_zero_le (show 0 ≤ n by omega)
    have h2 : m ≤ 9223372036854775807 := by omega
    go_enter Try.func3, Try.ntmps3
    go_wp2_with fail
    with_reducible refine (put_nat m _ h2).mono ?_
    rintro e w1 ⟨rfl, hb1⟩
    go_wp2_with fail
    with_reducible refine (refPut_nat m _ h2).mono ?_
    rintro e w2 ⟨rfl, hb2⟩
    go_wp2_with fail
    with_reducible refine (big_nat m _ h2).mono ?_
    rintro e w3 ⟨rfl, hb3⟩
    go_wp2_with fail
    with_reducible refine (refBig_nat m _ h2).mono ?_
    rintro e w4 ⟨rfl, hb4⟩
    go_wp2_with fail
    with_reducible refine (does1 _).mono ?_
    rintro e w5 ⟨rfl, hb5⟩
    go_wp2_with fail
    go_ret
    have s1 := hb1.size
    have s2 := hb2.size
    have s3 := hb3.size
    have s4 := hb4.size
    exact ⟨rfl, hb1.trans ((hb2.mono (by omega)).trans ((hb3.mono (by omega)).trans ((hb4.mono (by omega)).trans (hb5.mono (by omega)))))⟩

theorem tri_form (r : Option (Nat × Nat)) : ∃ n k b, tri r = .tuple #[.int .i64 n, .int .i64 k, .bool b] := by
  cases r with
  | none => exact ⟨0, 0, false, rfl⟩
  | some p => exact ⟨p.1, p.2, true, rfl⟩
theorem duo_form (r : Option Nat) : ∃ n b, duo r = .tuple #[.int .i64 n, .bool b] := by
  cases r with
  | none => exact ⟨0, false, rfl⟩
  | some p => exact ⟨p, true, rfl⟩
theorem triT_form (r : Option (List UInt8 × Nat)) : ∃ t k b, triT r = .tuple #[.string ⟨(t : List UInt8).toArray⟩, .int .i64 k, .bool b] := by
  cases r with
  | none => exact ⟨[], 0, false, rfl⟩
  | some p => exact ⟨p.1, p.2, true, rfl⟩

set_option maxHeartbeats 1000000 in
theorem intsGet_calls (l : List UInt8) (hlen : l.length ≤ 140737488351232) (n : Int) (wf : (Lit.int .i64 n).wf = true) (w : World) :
    Calls Try.prog 4 #[.string (S l), .int .i64 n] w fun e w' => e = .returned (.bool true) ∧ Below w.heap.size w w' := by
  obtain ⟨v, k, b, hT⟩ := tri_form (M.gets l n)
  obtain ⟨v2, b2, hD⟩ := duo_form (M.ofBigs l n)
  have c1 := fun W => get_any l n W (by omega)
  have c2 := fun W => refGet_any l n W (by omega)
  have c3 := fun W => ofBig_any l n W (by omega)
  have c4 := fun W => refOfBig_any l n W (by omega)
  rw [hT] at c1 c2
  rw [hD] at c3 c4
  have C1 := Lib.hid c1
  have C2 := Lib.hid c2
  have C3 := Lib.hid c3
  have C4 := Lib.hid c4
  clear c1 c2 c3 c4 hT hD
  go_enter Try.func4, Try.ntmps4
  go_wp2_with fail
  with_reducible refine (C1.out _).mono ?_
  rintro e w' ⟨rfl, rfl⟩
  go_wp2_with fail
  with_reducible refine (C2.out _).mono ?_
  rintro e w2 ⟨rfl, hb2⟩
  go_wp2_with fail
  with_reducible refine (C3.out _).mono ?_
  rintro e w' ⟨rfl, rfl⟩
  go_wp2_with fail
  with_reducible refine (C4.out _).mono ?_
  rintro e w' ⟨rfl, rfl⟩
  go_wp2_with fail
  with_reducible refine (does1 _).mono ?_
  rintro e w5 ⟨rfl, hb5⟩
  go_wp2_with fail
  go_ret
  exact ⟨rfl, hb2.trans (hb5.mono hb2.size)⟩

set_option maxHeartbeats 1000000 in
theorem intsTexts_calls (t : List UInt8) (ht : t.length ≤ 140737488351232) (l : List UInt8) (hlen : l.length ≤ 140737488351232) (n : Int) (wf : (Lit.int .i64 n).wf = true) (w : World) :
    Calls Try.prog 5 #[.string (S t), .string (S l), .int .i64 n] w fun e w' => e = .returned (.bool true) ∧ Below w.heap.size w w' := by
  obtain ⟨v, k, b, hT⟩ := triT_form (M.getTs l n)
  have c1 := fun W => getText_any l n W (by omega)
  have c2 := fun W => refGetText_any l n W (by omega)
  have c3 := fun W => putText_any t W (by omega)
  have c4 := fun W => refPutText_any t W (by omega)
  rw [hT] at c1 c2
  generalize M.putN t.length ++ t = u at c3 c4
  have C1 := Lib.hid c1
  have C2 := Lib.hid c2
  have C3 := Lib.hid c3
  have C4 := Lib.hid c4
  clear c1 c2 c3 c4 hT
  go_enter Try.func5, Try.ntmps5
  go_wp2_with fail
  with_reducible refine (C1.out _).mono ?_
  rintro e w' ⟨rfl, rfl⟩
  go_wp2_with fail
  with_reducible refine (C2.out _).mono ?_
  rintro e w2 ⟨rfl, hb2⟩
  go_wp2_with fail
  with_reducible refine (C3.out _).mono ?_
  rintro e w3 ⟨rfl, hb3⟩
  go_wp2_with fail
  with_reducible refine (C4.out _).mono ?_
  rintro e w4 ⟨rfl, hb4⟩
  go_wp2_with fail
  with_reducible refine (does1 _).mono ?_
  rintro e w5 ⟨rfl, hb5⟩
  go_wp2_with fail
  go_ret
  have s2 := hb2.size
  have s3 := hb3.size
  have s4 := hb4.size
  exact ⟨rfl, hb2.trans ((hb3.mono (by omega)).trans ((hb4.mono (by omega)).trans (hb5.mono (by omega))))⟩

set_option maxHeartbeats 1000000 in
theorem intsOrder_calls (x : Int) (wx : (Lit.int .i64 x).wf = true) (y : Int) (wy : (Lit.int .i64 y).wf = true) (w : World) :
    Calls Try.prog 9 #[.int .i64 x, .int .i64 y] w fun e w' => e = .returned (.bool true) ∧ Below w.heap.size w w' := by
  have rx := int_range wx
  have ry := int_range wy
  by_cases hx : x < 0
  · go_enter Try.func9, Try.ntmps9
    go_wp2_with fail
    with_reducible refine (put_neg x _ hx).mono ?_
    rintro e w' ⟨rfl, rfl⟩
    go_wp2_with fail
    with_reducible refine (big_neg x _ hx).mono ?_
    rintro e w' ⟨rfl, rfl⟩
    go_wp2_with fail
    with_reducible refine (does1 _).mono ?_
    rintro e w5 ⟨rfl, hb5⟩
    go_wp2_with fail
    go_ret
    exact ⟨rfl, hb5⟩
  · by_cases hy : y < 0
    · go_enter Try.func9, Try.ntmps9
      go_wp2_with fail
      with_reducible refine (does1 _).mono ?_
      rintro e w5 ⟨rfl, hb5⟩
      go_wp2_with fail
      go_ret
      exact ⟨rfl, hb5⟩
    · obtain ⟨a, rfl⟩ := Int.eq_ofNat_of_zero_le (show 0 ≤ x by omega)
      obtain ⟨b, rfl⟩ := Int.eq_ofNat_of_zero_le (show 0 ≤ y by omega)
      have ha : a ≤ 9223372036854775807 := by omega
      have hb : b ≤ 9223372036854775807 := by omega
      have cp := fun W => put_nat a W ha
      have cq := fun W => put_nat b W hb
      have cx := fun W => big_nat a W ha
      have cy := fun W => big_nat b W hb
      have hless := M.less_big a b ha hb
      have heq : (M.bigN a == M.bigN b) = ((a : Int) == (b : Int)) := by
        rw [Bool.eq_iff_iff, beq_iff_eq, beq_iff_eq, M.bigN_inj a b ha hb]; omega
      have hl9 : ((M.putN a).length : Int) ≤ 9 := by have := M.putN_len9 a ha; omega
      have h1 : (((M.putN a).length : Int) == 1) = decide ((a : Int) < 128) := by
        have := M.putN_len_one a
        rw [Bool.eq_iff_iff, beq_iff_eq, decide_eq_true_eq]; omega
      by_cases hab : b < a
      · generalize M.putN a = p at *
        generalize M.putN b = q at *
        generalize M.bigN a = x at *
        generalize M.bigN b = y at *
        have CP := Lib.hid cp
        have CQ := Lib.hid cq
        have CX := Lib.hid cx
        have CY := Lib.hid cy
        clear cp cq cx cy
        go_enter Try.func9, Try.ntmps9
        go_wp2_with fail
        with_reducible refine (CX.out _).mono ?_
        rintro e w1 ⟨rfl, hb1⟩
        go_wp2_with fail
        with_reducible refine (CY.out _).mono ?_
        rintro e w2 ⟨rfl, hb2⟩
        go_wp2_with fail
        with_reducible refine (CP.out _).mono ?_
        rintro e w3 ⟨rfl, hb3⟩
        go_wp2_with fail
        with_reducible refine (CP.out _).mono ?_
        rintro e w4 ⟨rfl, hb4⟩
        go_wp2_with fail
        with_reducible refine (does1 _).mono ?_
        rintro e w5 ⟨rfl, hb5⟩
        go_wp2_with fail
        go_ret
        have s1 := hb1.size
        have s2 := hb2.size
        have s3 := hb3.size
        have s4 := hb4.size
        exact ⟨rfl, hb1.trans ((hb2.mono (by omega)).trans ((hb3.mono (by omega)).trans ((hb4.mono (by omega)).trans (hb5.mono (by omega)))))⟩
      · have hmono : ((M.putN a).length : Int) ≤ ((M.putN b).length : Int) := by have := M.putN_len_mono a b (by omega); omega
        generalize M.putN a = p at *
        generalize M.putN b = q at *
        generalize M.bigN a = x at *
        generalize M.bigN b = y at *
        have CP := Lib.hid cp
        have CQ := Lib.hid cq
        have CX := Lib.hid cx
        have CY := Lib.hid cy
        clear cp cq cx cy
        go_enter Try.func9, Try.ntmps9
        go_wp2_with fail
        with_reducible refine (CX.out _).mono ?_
        rintro e w1 ⟨rfl, hb1⟩
        go_wp2_with fail
        with_reducible refine (CY.out _).mono ?_
        rintro e w2 ⟨rfl, hb2⟩
        go_wp2_with fail
        with_reducible refine (CP.out _).mono ?_
        rintro e w3 ⟨rfl, hb3⟩
        go_wp2_with fail
        with_reducible refine (CQ.out _).mono ?_
        rintro e w4 ⟨rfl, hb4⟩
        go_wp2_with fail
        with_reducible refine (CP.out _).mono ?_
        rintro e w5 ⟨rfl, hb5⟩
        go_wp2_with fail
        with_reducible refine (CP.out _).mono ?_
        rintro e w6 ⟨rfl, hb6⟩
        go_wp2_with fail
        with_reducible refine (does1 _).mono ?_
        rintro e w7 ⟨rfl, hb7⟩
        go_wp2_with fail
        go_ret
        have s1 := hb1.size
        have s2 := hb2.size
        have s3 := hb3.size
        have s4 := hb4.size
        have s5 := hb5.size
        have s6 := hb6.size
        exact ⟨rfl, hb1.trans ((hb2.mono (by omega)).trans ((hb3.mono (by omega)).trans ((hb4.mono (by omega)).trans ((hb5.mono (by omega)).trans ((hb6.mono (by omega)).trans (hb7.mono (by omega)))))))⟩

end Go.Proofs.Ytpbdmldooehafaa
