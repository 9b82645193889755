/- Layer 9: the document's answer, by contracts: which cells may be, are sorted; their bytes. -/
import Derived.Test.YtppkecilbkgbdaaBlocksF
namespace Go.Proofs.Ytppkecilbkgbdaa
set_option linter.unusedVariables false
open Go Go.RowKit
attribute [local go_sem ↓] run_index_S
attribute [local go_sem] S_append S_extract

set_option maxHeartbeats 1000000 in
theorem refMay9_any (c : M.Cl) (hc : ClOk c) (w : World) :
    Calls Try.prog 35 #[.agg (clA c)] w fun e w' => e = .returned (.bool (M.mayC c)) ∧ Below w.heap.size w w' := by
  have h1 := hc.1
  have h2 := hc.2.1
  have HB := Lib.hid ((Below.refl w.heap.size w).alloc (Nat.le_refl _) (.cells (clA c) 32))
  have HM : Hid (M.mayC c = (decide (1 ≤ c.key.length) && decide (c.key.length ≤ 64) && decide (0 ≤ c.seq) && decide (c.val.length ≤ 128))) := Lib.hid rfl
  generalize M.mayC c = mb at *
  clear hc
  go_enter Try.func35, Try.ntmps35
  go_wp2_with fail
  all_goals
    go_ret
    exact ⟨ret_bool (by rw [HM.out, Bool.eq_iff_iff]; simp; omega), HB.out⟩
set_option maxHeartbeats 2000000 in
theorem refAhead9_any (a b : M.Cl) (w : World) :
    Calls Try.prog 36 #[.agg (clA a), .agg (clA b)] w fun e w' => e = .returned (.bool (M.aheadC a b)) ∧ Below w.heap.size w w' := by
  have HB := Lib.hid (((Below.refl w.heap.size w).alloc (Nat.le_refl _) (.cells (clA a) 32)).alloc (by rw [szA]; omega) (.cells (clA b) 32))
  have HX := Lib.hid ((rowIn_new (clA a) 32 w).more (.cells (clA b) 32))
  have HY := Lib.hid (rowIn_at (clA b) 32 (w.alloc (.cells (clA a) 32)) (w.heap.size + 1) (by rw [szA]))
  have HM : Hid (M.aheadC a b = (Op.bytesLess a.key b.key || (a.key == b.key && decide (b.seq < a.seq)))) := Lib.hid rfl
  generalize M.aheadC a b = mb at *
  go_enter Try.func36, Try.ntmps36
  go_wp2_with fail
  all_goals
    go_ret
    exact ⟨ret_bool (by rw [HM.out, Bool.eq_iff_iff]; simp_all), HB.out⟩

set_option maxHeartbeats 1000000 in
theorem refCheck9_any (c : M.Cl) (hc : ClOk c) (w : World) :
    Calls Try.prog 18 #[.agg (clA c)] w fun e w' => e = .returned (.int .i64 (if M.mayC c then 0 else 2)) ∧ Below w.heap.size w w' := by
  have HB := Lib.hid ((Below.refl w.heap.size w).alloc (Nat.le_refl _) (.cells (clA c) 32))
  have CM := Lib.hid (fun W => refMay9_any c hc W)
  clear hc
  generalize M.mayC c = mb at *
  go_enter Try.func18, Try.ntmps18
  go_wp2_with fail
  with_reducible refine (CM.out _).mono ?_
  rintro e w1 ⟨rfl, hb⟩
  replace HB := carry hb HB
  clear hb
  cases mb with
  | true => go_wp2_with fail; go_ret; exact ⟨rfl, HB.out⟩
  | false => go_wp2_with fail; go_ret; exact ⟨rfl, HB.out⟩

set_option maxHeartbeats 4000000 in
theorem refAlike9_any (a b : List UInt8) (ha : a.length ≤ 140737488351232) (hb : b.length ≤ 140737488351232) (w : World) :
    Calls Try.prog 31 #[.string (S a), .string (S b)] w fun e w' => e = .returned (.int .i64 (M.com a b : Nat)) ∧ Below w.heap.size w w' := by
  go_enter Try.func31, Try.ntmps31
  go_wp2_with fail
  go_loopw [5] (fun i wr => ∃ k : Nat, k ≤ a.length ∧ k ≤ b.length ∧ i = .int .i64 k ∧ Hid (∀ j, j < k → a.getD j 0 = b.getD j 0) ∧ Hid (Below w.heap.size w wr)) (fun i _ => a.length - (intOf i).toNat)
  case atStart => exact ⟨0, Nat.zero_le _, Nat.zero_le _, rfl, Lib.hid (fun j hj => by omega), Lib.hid (Below.refl _ _)⟩
  case round =>
    obtain ⟨k, hk1, hk2, rfl, HJ, HB⟩ := hrel
    by_cases h1 : k < a.length
    case neg =>
      have hd : decide ((k : Int) < (a.length : Int)) = false := by simp; omega
      have HE := Lib.hid (M.com_is k a b hk1 hk2 HJ.out (.inl (by omega)))
      go_wp2_with fail
      refine wp_region_quiet_below (by kernel_rfl) (by kernel_rfl) ?_
      repeat (any_goals (first | go_big_quiet_step ((fail)) | quiet_step ((fail))))
      refine wpQuiet_nil ?_
      intro _ hw1
      obtain ⟨⟨d1, d1o⟩, hw1⟩ := hw1
      subst hw1
      replace HB := carry (below_regrown wr d1 d1o) HB
      go_wp2_with fail
      go_ret
      exact ⟨ret_int (by rw [HE.out]), HB.out⟩
    by_cases h2 : k < b.length
    case neg =>
      have hd : decide ((k : Int) < (a.length : Int)) = true := by simp; omega
      have hd2 : decide ((k : Int) < (b.length : Int)) = false := by simp; omega
      have HE := Lib.hid (M.com_is k a b hk1 hk2 HJ.out (.inr (.inl (by omega))))
      go_wp2_with fail
      refine wp_region_quiet_below (by kernel_rfl) (by kernel_rfl) ?_
      repeat (any_goals (first | go_big_quiet_step ((fail)) | quiet_step ((fail))))
      refine wpQuiet_nil ?_
      intro _ hw1
      obtain ⟨⟨d1, d1o⟩, hw1⟩ := hw1
      subst hw1
      replace HB := carry (below_regrown wr d1 d1o) HB
      go_wp2_with fail
      go_ret
      exact ⟨ret_int (by rw [HE.out]), HB.out⟩
    have hd : decide ((k : Int) < (a.length : Int)) = true := by simp; omega
    have hd2 : decide ((k : Int) < (b.length : Int)) = true := by simp; omega
    have g1 : (k : Int) < (a.length : Int) := by omega
    have g2 : (k : Int) < (b.length : Int) := by omega
    by_cases h3 : a.getD k 0 = b.getD k 0
    · have hq : (B a k == B b k) = true := by rw [B_same]; simpa using h3
      have HJ2 := Lib.hid (show ∀ j, j < k + 1 → a.getD j 0 = b.getD j 0 from fun j hj => by
        by_cases e : j = k
        · rw [e]; exact h3
        · exact HJ.out j (by omega))
      clear h3
      go_wp2_with fail
      refine wp_region_quiet_below (by kernel_rfl) (by kernel_rfl) ?_
      repeat (any_goals (first | go_big_quiet_step ((fail)) | quiet_step ((fail))))
      refine wpQuiet_nil ?_
      intro _ hw1
      obtain ⟨⟨d1, d1o⟩, hw1⟩ := hw1
      subst hw1
      replace HB := carry (below_regrown wr d1 d1o) HB
      go_wp2_with fail
      go_roundw
      case rel => exact ⟨k + 1, by omega, by omega, by go_num, HJ2, HB⟩
      case measure => simp [intOf]; omega
    · have hq : (B a k == B b k) = false := by rw [B_same]; simpa using h3
      have HE := Lib.hid (M.com_is k a b hk1 hk2 HJ.out (.inr (.inr h3)))
      clear h3
      go_wp2_with fail
      refine wp_region_quiet_below (by kernel_rfl) (by kernel_rfl) ?_
      repeat (any_goals (first | go_big_quiet_step ((fail)) | quiet_step ((fail))))
      refine wpQuiet_nil ?_
      intro _ hw1
      obtain ⟨⟨d1, d1o⟩, hw1⟩ := hw1
      subst hw1
      replace HB := carry (below_regrown wr d1 d1o) HB
      go_wp2_with fail
      go_ret
      exact ⟨ret_int (by rw [HE.out]), HB.out⟩

theorem lastO_take {L : List M.Cl} {k : Nat} (h : k ≤ L.length) (h0 : 0 < k) : M.lastO none (L.take k) = some (L.getD (k - 1) M.cl0) := by
  obtain ⟨j, rfl⟩ : ∃ j, k = j + 1 := ⟨k - 1, by omega⟩
  rw [takeC_snoc (by omega), M.lastO_snoc]; rfl
set_option maxHeartbeats 4000000 in
set_option maxRecDepth 100000 in
theorem refSorted9_any (L : List M.Cl) (hl : L.length ≤ 1000000) (ao : Option Addr) (cap : Nat) (w : World) (hC : ClsAt w ao L) (hv : ∀ c ∈ L, ClOk c) :
    Calls Try.prog 15 #[.slice ao L.length cap] w fun e w' => e = .returned (.bool (M.srt none L)) ∧ Below w.heap.size w w' := by
  have HC := Lib.hid hC
  have HV := Lib.hid hv
  clear hC hv
  go_enter Try.func15, Try.ntmps15
  go_wp2_with fail
  go_loopw [3] (fun i wr => ∃ k : Nat, k ≤ L.length ∧ i = .int .i64 k ∧ Hid (M.srt none (L.take k) = true) ∧ Hid (Below w.heap.size w wr)) (fun i _ => L.length - (intOf i).toNat)
  case atStart => exact ⟨0, Nat.zero_le _, rfl, Lib.hid rfl, Lib.hid (Below.refl _ _)⟩
  case round =>
    obtain ⟨k, hk, rfl, HS, HB⟩ := hrel
    by_cases hlt : k < L.length
    · have hd : decide ((k : Int) < (L.length : Int)) = true := by simp; omega
      have hki : (k : Int) < (L.length : Int) := by omega
      obtain ⟨g, off, rfl, hc⟩ := (HC.out.below HB.out).off k hlt
      have HC2 := Lib.hid (HC.out.below HB.out)
      obtain ⟨x0, x1, x2⟩ := hc
      have HF := Lib.hid (memC HV.out hlt)
      have HT := Lib.hid (takeC_snoc hlt)
      have HN := Lib.hid (show M.srt none (L.take (k + 1)) = (M.srt none (L.take k) && M.nextB (M.lastO none (L.take k)) (L.getD k M.cl0)) from by rw [HT.out, M.srt_snoc])
      have HLO := Lib.hid (fun h0 => lastO_take (L := L) hk h0)
      generalize L.getD k M.cl0 = c at *
      have CM := Lib.hid (fun W => refMay9_any c HF.out W)
      have g0 := fun d os => cell_regrown x0 d os
      have g1 := fun d os => cell_regrown x1 d os
      have g2 := fun d os => cell_regrown x2 d os
      clear x0 x1 x2
      cases hm : M.mayC c with
      | false =>
        rw [hm] at CM
        have hn : M.nextB (M.lastO none (L.take k)) c = false := by simp [M.nextB, hm]
        have HE := Lib.hid (show M.srt none L = false from by
          cases hs : M.srt none L with
          | false => rfl
          | true =>
            have := M.srt_take (n := k + 1) hs
            rw [HN.out, hn] at this
            simp at this)
        clear hn hm
        go_wp2_with fail
        refine wp_region_quiet_below (by kernel_rfl) (by kernel_rfl) ?_
        repeat (any_goals (first | go_big_quiet_step ((first | (go_at_call 35; with_reducible exact Calls.regrown_of (CM.out _)))) | quiet_step ((first | (go_at_call 35; with_reducible exact Calls.regrown_of (CM.out _))))))
        refine wpQuiet_nil ?_
        intro _ hw1
        obtain ⟨⟨d1, d1o⟩, hw1⟩ := hw1
        subst hw1
        clear g0 g1 g2
        replace HB := carry (below_regrown wr d1 d1o) HB
        go_wp2_with fail
        go_ret
        exact ⟨ret_bool HE.out.symm, HB.out⟩
      | true =>
        rw [hm] at CM
        by_cases hk0 : k = 0
        · have hn : M.nextB (M.lastO none (L.take k)) c = true := by subst hk0; simp [M.nextB, hm, M.lastO]
          have HN1 := Lib.hid (show M.srt none (L.take (k + 1)) = true from by rw [HN.out, HS.out, hn]; rfl)
          have hd0 : decide (0 < k) = false := by simp; omega
          clear hn hm hk0
          go_wp2_with fail
          refine wp_region_quiet_below (by kernel_rfl) (by kernel_rfl) ?_
          repeat (any_goals (first | go_big_quiet_step ((first | (go_at_call 35; with_reducible exact Calls.regrown_of (CM.out _)))) | quiet_step ((first | (go_at_call 35; with_reducible exact Calls.regrown_of (CM.out _))))))
          refine wpQuiet_nil ?_
          intro _ hw1
          obtain ⟨⟨d1, d1o⟩, hw1⟩ := hw1
          subst hw1
          clear g0 g1 g2
          replace HB := carry (below_regrown wr d1 d1o) HB
          go_wp2_with fail
          go_roundw
          case rel => exact ⟨k + 1, by omega, by go_num, HN1, HB⟩
          case measure => simp [intOf]; omega
        · have hlo := HLO.out (by omega)
          obtain ⟨g', off', he, hc⟩ := HC2.out.off (k - 1) (by omega)
          obtain ⟨rfl, rfl⟩ : g = g' ∧ off = off' := by cases he; exact ⟨rfl, rfl⟩
          clear he
          obtain ⟨z0, z1, z2⟩ := hc
          generalize L.getD (k - 1) M.cl0 = q at *
          have CA := Lib.hid (fun W => refAhead9_any q c W)
          have hd0 : decide (0 < k) = true := by simp; omega
          have hd1 : (0 : Int) < (k : Int) := by omega
          have hw1 : IntKind.i64.wrap ((k : Int) - 1) = ((k - 1 : Nat) : Int) := by rw [IntWalk.i64_in _ (by omega)]; omega
          have hw2 : ((k - 1 : Nat) : Int) < (L.length : Int) := by omega
          have hw3 : (0 : Int) ≤ ((k - 1 : Nat) : Int) := by omega
          have q0 := fun d os => cell_regrown z0 d os
          have q1 := fun d os => cell_regrown z1 d os
          have q2 := fun d os => cell_regrown z2 d os
          clear z0 z1 z2
          cases ha : M.aheadC q c with
          | false =>
            rw [ha] at CA
            have hn : M.nextB (M.lastO none (L.take k)) c = false := by rw [hlo]; simp [M.nextB, ha]
            have HE := Lib.hid (show M.srt none L = false from by
              cases hs : M.srt none L with
              | false => rfl
              | true =>
                have := M.srt_take (n := k + 1) hs
                rw [HN.out, hn] at this
                simp at this)
            clear hn hm hk0 hlo ha
            go_wp2_with fail
            refine wp_region_quiet_below (by kernel_rfl) (by kernel_rfl) ?_
            repeat (any_goals (first | go_big_quiet_step ((first | (go_at_call 35; with_reducible exact Calls.regrown_of (CM.out _)) | (go_at_call 36; with_reducible exact Calls.regrown_of (CA.out _)))) | quiet_step ((first | (go_at_call 35; with_reducible exact Calls.regrown_of (CM.out _)) | (go_at_call 36; with_reducible exact Calls.regrown_of (CA.out _))))))
            refine wpQuiet_nil ?_
            intro _ hw1
            obtain ⟨⟨d1, d1o⟩, hw1⟩ := hw1
            subst hw1
            clear g0 g1 g2 q0 q1 q2
            replace HB := carry (below_regrown wr d1 d1o) HB
            go_wp2_with fail
            go_ret
            exact ⟨ret_bool HE.out.symm, HB.out⟩
          | true =>
            rw [ha] at CA
            have hn : M.nextB (M.lastO none (L.take k)) c = true := by rw [hlo]; simp [M.nextB, ha, hm]
            have HN1 := Lib.hid (show M.srt none (L.take (k + 1)) = true from by rw [HN.out, HS.out, hn]; rfl)
            clear hn hm hk0 hlo ha
            go_wp2_with fail
            refine wp_region_quiet_below (by kernel_rfl) (by kernel_rfl) ?_
            repeat (any_goals (first | go_big_quiet_step ((first | (go_at_call 35; with_reducible exact Calls.regrown_of (CM.out _)) | (go_at_call 36; with_reducible exact Calls.regrown_of (CA.out _)))) | quiet_step ((first | (go_at_call 35; with_reducible exact Calls.regrown_of (CM.out _)) | (go_at_call 36; with_reducible exact Calls.regrown_of (CA.out _))))))
            refine wpQuiet_nil ?_
            intro _ hw1
            obtain ⟨⟨d1, d1o⟩, hw1⟩ := hw1
            subst hw1
            clear g0 g1 g2 q0 q1 q2 hw1
            replace HB := carry (below_regrown wr d1 d1o) HB
            go_wp2_with fail
            go_roundw
            case rel => exact ⟨k + 1, by omega, by go_num, HN1, HB⟩
            case measure => simp [intOf]; omega
    · obtain rfl : k = L.length := by omega
      have hd : decide ((L.length : Int) < (L.length : Int)) = false := by simp
      have HE := Lib.hid (show M.srt none L = true from by have := HS.out; rwa [List.take_length] at this)
      go_wp2_with fail
      go_ret
      exact ⟨ret_bool HE.out.symm, HB.out⟩

end Go.Proofs.Ytppkecilbkgbdaa
