/- Layer 12: acks' bytes, the program's and the document's, each by a contract; slices of spans. -/
import Derived.Test.YtblgfhljaafmhaaPostsC
import Derived.Test.YtblgfhljaafmhaaSpansE
import Derived.Test.YtblgfhljaafmhaaSpansO
namespace Go.Proofs.Ytblgfhljaafmhaa
set_option linter.unusedVariables false
open Go Go.RowKit
attribute [local go_sem ↓] run_index_S
attribute [local go_sem] S_append S_extract

theorem S_appendA (c : UInt8) (b : List UInt8) : (⟨#[c]⟩ ++ ⟨b.toArray⟩ : ByteArray) = ⟨([c] ++ b).toArray⟩ := S_append [c] b

set_option maxHeartbeats 1000000 in
theorem encAck_yes (h f n : Nat) (hm : M.aMay ⟨h, f, n⟩ = true) (w : World) :
    Calls Try.prog 12 #[.agg #[.int .i64 h, .int .i64 f, .int .i64 n]] w fun e w' => e = .returned (.tuple #[.string (S (M.encA ⟨h, f, n⟩)), .int .i64 0]) ∧ Below w.heap.size w w' := by
  have hb := M.aMay_true.1 hm
  dsimp only at hb
  have C0 := Lib.hid (fun W => by have := ackMayBe_any h f n W; rw [hm] at this; exact this)
  have ew : IntKind.i64.wrap ((n : Int) - (f : Int)) = ((n - f : Nat) : Int) := by rw [IntWalk.i64_in _ (by omega)]; omega
  have c1 := fun W => put_nat h W (by omega)
  have c2 := fun W => put_nat f W (by omega)
  have c3 := fun W => put_nat (n - f) W (by omega)
  have henc : M.encA ⟨h, f, n⟩ = 65 :: (M.putN h ++ M.putN f ++ M.putN (n - f)) := by
    have e : ((n : Int) - (f : Int)).toNat = n - f := by omega
    simp [M.encA, M.encN, e]
  have p1 := (M.putN_length h).2
  have p2 := (M.putN_length f).2
  have p3 := (M.putN_length (n - f)).2
  generalize M.encA ⟨h, f, n⟩ = q at *
  generalize M.putN h = e1 at *
  generalize M.putN f = e2 at *
  generalize M.putN (n - f) = e3 at *
  have C1 := Lib.hid c1
  have C2 := Lib.hid c2
  have C3 := Lib.hid c3
  have HQ := Lib.hid henc
  have EW := Lib.hid ew
  clear c1 c2 c3 henc hm ew
  go_enter Try.func12, Try.ntmps12
  go_wp2_with fail
  with_reducible refine (C0.out _).mono ?_
  rintro e w1 ⟨rfl, hb1⟩
  have HR := Lib.hid ((rowIn_new #[.int .i64 h, .int .i64 f, .int .i64 n] 26 w).below hb1)
  have HB := Lib.hid (below_step ((Below.refl _ _).alloc (Nat.le_refl _) _) hb1)
  clear hb1
  go_wp2_with fail
  have g0 := HR.out.gcell 0 rfl
  have g1 := HR.out.gcell 1 rfl
  have g2 := HR.out.gcell 2 rfl
  have ew := EW.out
  refine wp_region_quiet_below (by kernel_rfl) (by kernel_rfl) ?_
  repeat (go_big_quiet_step ((first | (go_at_call 22; with_reducible exact Calls.regrown_of (C1.out _)) | (go_at_call 22; with_reducible exact Calls.regrown_of (C2.out _)) | (go_at_call 22; with_reducible exact Calls.regrown_of (C3.out _)))))
  refine wpQuiet_nil ?_
  intro _ hw1
  obtain ⟨⟨d1, o1⟩, hw1⟩ := hw1
  subst hw1
  go_wp2_with fail
  go_ret2
  exact ⟨ret_se (by rw [HQ.out]; simp), below_step HB.out (below_regrown _ d1 o1)⟩

theorem encAck_no (h f n : Int) (hm : M.aMay ⟨h, f, n⟩ = false) (w : World) :
    Calls Try.prog 12 #[.agg #[.int .i64 h, .int .i64 f, .int .i64 n]] w fun e w' => e = .returned (.tuple #[.string ⟨#[]⟩, .int .i64 2]) ∧ Below w.heap.size w w' := by
  have C0 := Lib.hid (fun W => by have := ackMayBe_any h f n W; rw [hm] at this; exact this)
  clear hm
  go_enter Try.func12, Try.ntmps12
  go_wp2_with fail
  with_reducible refine (C0.out _).mono ?_
  rintro e w1 ⟨rfl, hb1⟩
  go_wp2_with fail
  go_ret2
  exact ⟨rfl, below_step ((Below.refl _ _).alloc (Nat.le_refl _) _) hb1⟩

theorem encAck_any (a : M.Ak) (w : World) :
    Calls Try.prog 12 #[.agg #[.int .i64 a.host, .int .i64 a.first, .int .i64 a.next]] w fun e w' => e = .returned (.tuple #[.string (S (if M.aMay a then M.encA a else [])), .int .i64 (M.errOf (M.aMay a))]) ∧ Below w.heap.size w w' := by
  obtain ⟨h, f, n⟩ := a
  cases hm : M.aMay ⟨h, f, n⟩ with
  | false => exact encAck_no h f n hm w
  | true =>
    have hb := M.aMay_true.1 hm
    dsimp only at hb
    obtain ⟨h, rfl⟩ := Int.eq_ofNat_of_zero_le (show 0 ≤ h by omega)
    obtain ⟨f, rfl⟩ := Int.eq_ofNat_of_zero_le (show 0 ≤ f by omega)
    obtain ⟨n, rfl⟩ := Int.eq_ofNat_of_zero_le (show 0 ≤ n by omega)
    exact encAck_yes h f n hm w

set_option maxHeartbeats 1000000 in
theorem refEncAck_yes (h f n : Nat) (hm : M.aMay ⟨h, f, n⟩ = true) (w : World) :
    Calls Try.prog 13 #[.agg #[.int .i64 h, .int .i64 f, .int .i64 n]] w fun e w' => e = .returned (.tuple #[.string (S (M.encA ⟨h, f, n⟩)), .int .i64 0]) ∧ Below w.heap.size w w' := by
  have hb := M.aMay_true.1 hm
  dsimp only at hb
  have C0 := Lib.hid (fun W => by have := number_any h f W; rw [M.numB_true.2 ⟨hb.1, by omega⟩] at this; exact this)
  have ew : IntKind.i64.wrap ((n : Int) - (f : Int)) = ((n - f : Nat) : Int) := by rw [IntWalk.i64_in _ (by omega)]; omega
  have c1 := fun W => refPut_nat h W (by omega)
  have c2 := fun W => refPut_nat f W (by omega)
  have c3 := fun W => refPut_nat (n - f) W (by omega)
  have henc : M.encA ⟨h, f, n⟩ = 65 :: (M.putN h ++ M.putN f ++ M.putN (n - f)) := by
    have e : ((n : Int) - (f : Int)).toNat = n - f := by omega
    simp [M.encA, M.encN, e]
  have p1 := (M.putN_length h).2
  have p2 := (M.putN_length f).2
  have p3 := (M.putN_length (n - f)).2
  generalize M.encA ⟨h, f, n⟩ = q at *
  generalize M.putN h = e1 at *
  generalize M.putN f = e2 at *
  generalize M.putN (n - f) = e3 at *
  have C1 := Lib.hid c1
  have C2 := Lib.hid c2
  have C3 := Lib.hid c3
  have HQ := Lib.hid henc
  have EW := Lib.hid ew
  clear c1 c2 c3 henc hm ew
  go_enter Try.func13, Try.ntmps13
  go_wp2_with fail
  with_reducible refine (C0.out _).mono ?_
  rintro e w1 ⟨rfl, rfl⟩
  have d1 : decide ((n : Int) < (f : Int)) = false := by simp; omega
  have d1' : decide (n < f) = false := by simp; omega
  have d2 : decide (2147483647 < (n : Int)) = false := by simp; omega
  go_wp2_with fail
  have HR := Lib.hid (rowIn_new #[.int .i64 h, .int .i64 f, .int .i64 n] 26 w)
  have HB := Lib.hid ((Below.refl w.heap.size w).alloc (Nat.le_refl _) (.cells #[.int .i64 h, .int .i64 f, .int .i64 n] 26))
  generalize w.alloc (.cells #[.int .i64 h, .int .i64 f, .int .i64 n] 26) = w1 at *
  have g0 := HR.out.gcell 0 rfl
  have g1 := HR.out.gcell 1 rfl
  have g2 := HR.out.gcell 2 rfl
  have ew := EW.out
  refine wp_region_quiet_below (by kernel_rfl) (by kernel_rfl) ?_
  repeat (go_big_quiet_step ((first | (go_at_call 26; with_reducible exact Calls.regrown_of (C1.out _)) | (go_at_call 26; with_reducible exact Calls.regrown_of (C2.out _)) | (go_at_call 26; with_reducible exact Calls.regrown_of (C3.out _)))))
  refine wpQuiet_nil ?_
  intro _ hw1
  obtain ⟨⟨d1, o1⟩, hw1⟩ := hw1
  subst hw1
  go_wp2_with fail
  go_ret2
  exact ⟨ret_se (by rw [HQ.out]; simp), below_step HB.out (below_regrown _ d1 o1)⟩

theorem refEncAck_no (h f n : Int) (hm : M.aMay ⟨h, f, n⟩ = false) (w : World) :
    Calls Try.prog 13 #[.agg #[.int .i64 h, .int .i64 f, .int .i64 n]] w fun e w' => e = .returned (.tuple #[.string ⟨#[]⟩, .int .i64 2]) ∧ Below w.heap.size w w' := by
  have HM := Lib.hid (M.aMay_false.1 hm)
  clear hm
  have bw := (Below.refl w.heap.size w).alloc (Nat.le_refl _) (.cells #[.int .i64 h, .int .i64 f, .int .i64 n] 26)
  cases hn : M.numB h f with
  | false =>
    have C0 := Lib.hid (fun W => by have := number_any h f W; rw [hn] at this; exact this)
    clear hn
    go_enter Try.func13, Try.ntmps13
    go_wp2_with fail
    with_reducible refine (C0.out _).mono ?_
    rintro e w1 ⟨rfl, rfl⟩
    go_wp2_with fail
    go_ret2
    exact ⟨rfl, bw⟩
  | true =>
    have C0 := Lib.hid (fun W => by have := number_any h f W; rw [hn] at this; exact this)
    have h2 := M.numB_true.1 hn
    clear hn
    by_cases h3 : n < f
    · go_enter Try.func13, Try.ntmps13
      go_wp2_with fail
      with_reducible refine (C0.out _).mono ?_
      rintro e w1 ⟨rfl, rfl⟩
      go_wp2_with fail
      go_ret2
      exact ⟨rfl, bw⟩
    · have d1 : decide (n < f) = false := by simpa using h3
      have d2 : decide (2147483647 < n) = true := by have := HM.out; dsimp only at this; simp; omega
      go_enter Try.func13, Try.ntmps13
      go_wp2_with fail
      with_reducible refine (C0.out _).mono ?_
      rintro e w1 ⟨rfl, rfl⟩
      go_wp2_with fail
      go_ret2
      exact ⟨rfl, bw⟩

theorem refEncAck_any (a : M.Ak) (w : World) :
    Calls Try.prog 13 #[.agg #[.int .i64 a.host, .int .i64 a.first, .int .i64 a.next]] w fun e w' => e = .returned (.tuple #[.string (S (if M.aMay a then M.encA a else [])), .int .i64 (M.errOf (M.aMay a))]) ∧ Below w.heap.size w w' := by
  obtain ⟨h, f, n⟩ := a
  cases hm : M.aMay ⟨h, f, n⟩ with
  | false => exact refEncAck_no h f n hm w
  | true =>
    have hb := M.aMay_true.1 hm
    dsimp only at hb
    obtain ⟨h, rfl⟩ := Int.eq_ofNat_of_zero_le (show 0 ≤ h by omega)
    obtain ⟨f, rfl⟩ := Int.eq_ofNat_of_zero_le (show 0 ≤ f by omega)
    obtain ⟨n, rfl⟩ := Int.eq_ofNat_of_zero_le (show 0 ≤ n by omega)
    exact refEncAck_yes h f n hm w

end Go.Proofs.Ytblgfhljaafmhaa
