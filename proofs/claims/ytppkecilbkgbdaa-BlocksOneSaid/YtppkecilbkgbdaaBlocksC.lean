/- Layer 9: the program's tests of cells, by contracts. -/
import Derived.Test.YtppkecilbkgbdaaZF
import Derived.Test.YtppkecilbkgbdaaBuild
namespace Go.Proofs.Ytppkecilbkgbdaa
set_option linter.unusedVariables false
open Go Go.RowKit
attribute [local go_sem ↓] run_index_S
attribute [local go_sem] S_append S_extract

/-- A cell whose texts are no longer than memory goes. -/
def ClOk (c : M.Cl) : Prop := c.key.length ≤ 140737488351232 ∧ c.val.length ≤ 140737488351232 ∧ c.ints
set_option maxHeartbeats 1000000 in
theorem mayBe9_any (c : M.Cl) (hc : ClOk c) (w : World) :
    Calls Try.prog 38 #[.agg (clA c)] w fun e w' => e = .returned (.bool (M.mayC c)) ∧ Below w.heap.size w w' := by
  have h1 := hc.1
  have h2 := hc.2.1
  have HB := Lib.hid ((Below.refl w.heap.size w).alloc (Nat.le_refl _) (.cells (clA c) 62))
  have HM : Hid (M.mayC c = (decide (1 ≤ c.key.length) && decide (c.key.length ≤ 64) && decide (0 ≤ c.seq) && decide (c.val.length ≤ 128))) := Lib.hid rfl
  generalize M.mayC c = mb at *
  clear hc
  go_enter Try.func38, Try.ntmps38
  go_wp2_with fail
  all_goals
    go_ret
    exact ⟨ret_bool (by rw [HM.out, Bool.eq_iff_iff]; simp; omega), HB.out⟩
set_option maxHeartbeats 2000000 in
theorem ahead9_any (a b : M.Cl) (w : World) :
    Calls Try.prog 49 #[.agg (clA a), .agg (clA b)] w fun e w' => e = .returned (.bool (M.aheadC a b)) ∧ Below w.heap.size w w' := by
  have HB := Lib.hid (((Below.refl w.heap.size w).alloc (Nat.le_refl _) (.cells (clA a) 62)).alloc (by rw [szA]; omega) (.cells (clA b) 62))
  have HX := Lib.hid ((rowIn_new (clA a) 62 w).more (.cells (clA b) 62))
  have HY := Lib.hid (rowIn_at (clA b) 62 (w.alloc (.cells (clA a) 62)) (w.heap.size + 1) (by rw [szA]))
  have HM : Hid (M.aheadC a b = (Op.bytesLess a.key b.key || (a.key == b.key && decide (b.seq < a.seq)))) := Lib.hid rfl
  generalize M.aheadC a b = mb at *
  go_enter Try.func49, Try.ntmps49
  go_wp2_with fail
  all_goals
    go_ret
    exact ⟨ret_bool (by rw [HM.out, Bool.eq_iff_iff]; simp_all), HB.out⟩

set_option maxHeartbeats 1000000 in
theorem is9_any (c : M.Cl) (hc : ClOk c) (w : World) :
    Calls Try.prog 37 #[.agg (clA c), .func (.func 38) #[] #[]] w fun e w' => e = .returned (.bool (M.mayC c)) ∧ Below w.heap.size w w' := by
  have HB := Lib.hid ((Below.refl w.heap.size w).alloc (Nat.le_refl _) (.cells (clA c) 32))
  have CM := Lib.hid (fun W => mayBe9_any c hc W)
  clear hc
  go_enter Try.func37, Try.ntmps37
  go_wp2_with fail
  with_reducible refine (CM.out _).mono ?_
  rintro e w1 ⟨rfl, hb⟩
  replace HB := carry hb HB
  clear hb
  go_wp2_with fail
  go_ret
  exact ⟨rfl, HB.out⟩
set_option maxHeartbeats 1000000 in
theorem check9_any (c : M.Cl) (hc : ClOk c) (w : World) :
    Calls Try.prog 17 #[.agg (clA c)] w fun e w' => e = .returned (.int .i64 (if M.mayC c then 0 else 2)) ∧ Below w.heap.size w w' := by
  have HB := Lib.hid ((Below.refl w.heap.size w).alloc (Nat.le_refl _) (.cells (clA c) 32))
  have CM := Lib.hid (fun W => is9_any c hc W)
  clear hc
  generalize M.mayC c = mb at *
  go_enter Try.func17, Try.ntmps17
  go_wp2_with fail
  with_reducible refine (CM.out _).mono ?_
  rintro e w1 ⟨rfl, hb⟩
  replace HB := carry hb HB
  clear hb
  cases mb with
  | true => go_wp2_with fail; go_ret; exact ⟨rfl, HB.out⟩
  | false => go_wp2_with fail; go_ret; exact ⟨rfl, HB.out⟩

theorem B_same {a b : List UInt8} {k : Nat} : (B a k == B b k) = decide (a.getD k 0 = b.getD k 0) := by
  rw [Bool.eq_iff_iff]
  simp only [B, beq_iff_eq, decide_eq_true_eq]
  constructor
  · intro h
    exact UInt8.toNat_inj.1 (by omega)
  · intro h; rw [h]
set_option maxHeartbeats 4000000 in
theorem common9_any (a b : List UInt8) (ha : a.length ≤ 140737488351232) (hb : b.length ≤ 140737488351232) (w : World) :
    Calls Try.prog 27 #[.string (S a), .string (S b)] w fun e w' => e = .returned (.int .i64 (M.com a b : Nat)) ∧ Below w.heap.size w w' := by
  go_enter Try.func27, Try.ntmps27
  go_wp2_with fail
  go_loopw [5] (fun i wr => ∃ k : Nat, k ≤ a.length ∧ k ≤ b.length ∧ i = .int .i64 k ∧ Hid (∀ j, j < k → a.getD j 0 = b.getD j 0) ∧ Hid (Below w.heap.size w wr)) (fun i _ => a.length - (intOf i).toNat)
  case atStart => exact ⟨0, Nat.zero_le _, Nat.zero_le _, rfl, Lib.hid (fun j hj => by omega), Lib.hid (Below.refl _ _)⟩
  case round =>
    obtain ⟨k, hk1, hk2, rfl, HJ, HB⟩ := hrel
    by_cases h1 : k < a.length
    case neg =>
      have hd : decide ((k : Int) < (a.length : Int)) = false := by simp; omega
      have HE := Lib.hid (M.com_is k a b hk1 hk2 HJ.out (.inl (by omega)))
      go_wp2_with fail
      refine wp_region_quiet_below (by kernel_rfl) (by kernel_rfl) ?_
      repeat (any_goals (first | go_big_quiet_step ((fail)) | quiet_step ((fail))))
      refine wpQuiet_nil ?_
      intro _ hw1
      obtain ⟨⟨d1, d1o⟩, hw1⟩ := hw1
      subst hw1
      replace HB := carry (below_regrown wr d1 d1o) HB
      go_wp2_with fail
      go_ret
      exact ⟨ret_int (by rw [HE.out]), HB.out⟩
    by_cases h2 : k < b.length
    case neg =>
      have hd : decide ((k : Int) < (a.length : Int)) = true := by simp; omega
      have hd2 : decide ((k : Int) < (b.length : Int)) = false := by simp; omega
      have HE := Lib.hid (M.com_is k a b hk1 hk2 HJ.out (.inr (.inl (by omega))))
      go_wp2_with fail
      refine wp_region_quiet_below (by kernel_rfl) (by kernel_rfl) ?_
      repeat (any_goals (first | go_big_quiet_step ((fail)) | quiet_step ((fail))))
      refine wpQuiet_nil ?_
      intro _ hw1
      obtain ⟨⟨d1, d1o⟩, hw1⟩ := hw1
      subst hw1
      replace HB := carry (below_regrown wr d1 d1o) HB
      go_wp2_with fail
      go_ret
      exact ⟨ret_int (by rw [HE.out]), HB.out⟩
    have hd : decide ((k : Int) < (a.length : Int)) = true := by simp; omega
    have hd2 : decide ((k : Int) < (b.length : Int)) = true := by simp; omega
    have g1 : (k : Int) < (a.length : Int) := by omega
    have g2 : (k : Int) < (b.length : Int) := by omega
    by_cases h3 : a.getD k 0 = b.getD k 0
    · have hq : (B a k == B b k) = true := by rw [B_same]; simpa using h3
      have HJ2 := Lib.hid (show ∀ j, j < k + 1 → a.getD j 0 = b.getD j 0 from fun j hj => by
        by_cases e : j = k
        · rw [e]; exact h3
        · exact HJ.out j (by omega))
      clear h3
      go_wp2_with fail
      refine wp_region_quiet_below (by kernel_rfl) (by kernel_rfl) ?_
      repeat (any_goals (first | go_big_quiet_step ((fail)) | quiet_step ((fail))))
      refine wpQuiet_nil ?_
      intro _ hw1
      obtain ⟨⟨d1, d1o⟩, hw1⟩ := hw1
      subst hw1
      replace HB := carry (below_regrown wr d1 d1o) HB
      go_wp2_with fail
      go_roundw
      case rel => exact ⟨k + 1, by omega, by omega, by go_num, HJ2, HB⟩
      case measure => simp [intOf]; omega
    · have hq : (B a k == B b k) = false := by rw [B_same]; simpa using h3
      have HE := Lib.hid (M.com_is k a b hk1 hk2 HJ.out (.inr (.inr h3)))
      clear h3
      go_wp2_with fail
      refine wp_region_quiet_below (by kernel_rfl) (by kernel_rfl) ?_
      repeat (any_goals (first | go_big_quiet_step ((fail)) | quiet_step ((fail))))
      refine wpQuiet_nil ?_
      intro _ hw1
      obtain ⟨⟨d1, d1o⟩, hw1⟩ := hw1
      subst hw1
      replace HB := carry (below_regrown wr d1 d1o) HB
      go_wp2_with fail
      go_ret
      exact ⟨ret_int (by rw [HE.out]), HB.out⟩

end Go.Proofs.Ytppkecilbkgbdaa
