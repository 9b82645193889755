/- Texts of lower layers, as one. -/
import Derived.Test.YthidmgnfdikppaaZG
import Derived.Test.YthidmgnfdikppaaZE
import Derived.Deep.RegionHeld3
/- Layer 9: the document's answer, by contracts: which cells may be, are sorted; their bytes. -/
namespace Go.Proofs.Ythidmgnfdikppaa
set_option linter.unusedVariables false
open Go Go.RowKit
attribute [local go_sem ↓] run_index_S
attribute [local go_sem] S_append S_extract

set_option maxHeartbeats 1000000 in
theorem refMay9_any (c : M.Cl) (hc : ClOk c) (w : World) :
    Calls Try.prog 100 #[.agg (clA c)] w fun e w' => e = .returned (.bool (M.mayC c)) ∧ Below w.heap.size w w' := by
  have h1 := hc.1
  have h2 := hc.2.1
  have HB := Lib.hid ((Below.refl w.heap.size w).alloc (Nat.le_refl _) (.cells (clA c) 38))
  have HM : Hid (M.mayC c = (decide (1 ≤ c.key.length) && decide (c.key.length ≤ 64) && decide (0 ≤ c.seq) && decide (c.val.length ≤ 128))) := Lib.hid rfl
  generalize M.mayC c = mb at *
  clear hc
  go_enter Try.func100, Try.ntmps100
  go_wp2_with fail
  all_goals
    go_ret
    exact ⟨ret_bool (by rw [HM.out, Bool.eq_iff_iff]; simp; omega), HB.out⟩
set_option maxHeartbeats 2000000 in
theorem refAhead9_any (a b : M.Cl) (w : World) :
    Calls Try.prog 93 #[.agg (clA a), .agg (clA b)] w fun e w' => e = .returned (.bool (M.aheadC a b)) ∧ Below w.heap.size w w' := by
  have HB := Lib.hid (((Below.refl w.heap.size w).alloc (Nat.le_refl _) (.cells (clA a) 38)).alloc (by rw [szA]; omega) (.cells (clA b) 38))
  have HX := Lib.hid ((rowIn_new (clA a) 38 w).more (.cells (clA b) 38))
  have HY := Lib.hid (rowIn_at (clA b) 38 (w.alloc (.cells (clA a) 38)) (w.heap.size + 1) (by rw [szA]))
  have HM : Hid (M.aheadC a b = (Op.bytesLess a.key b.key || (a.key == b.key && decide (b.seq < a.seq)))) := Lib.hid rfl
  generalize M.aheadC a b = mb at *
  go_enter Try.func93, Try.ntmps93
  go_wp2_with fail
  all_goals
    go_ret
    exact ⟨ret_bool (by rw [HM.out, Bool.eq_iff_iff]; simp_all), HB.out⟩

set_option maxHeartbeats 4000000 in
theorem refAlike9_any (a b : List UInt8) (ha : a.length ≤ 140737488351232) (hb : b.length ≤ 140737488351232) (w : World) :
    Calls Try.prog 110 #[.string (S a), .string (S b)] w fun e w' => e = .returned (.int .i64 (M.com a b : Nat)) ∧ Below w.heap.size w w' := by
  go_enter Try.func110, Try.ntmps110
  go_wp2_with fail
  go_loopw [5] (fun i wr => ∃ k : Nat, k ≤ a.length ∧ k ≤ b.length ∧ i = .int .i64 k ∧ Hid (∀ j, j < k → a.getD j 0 = b.getD j 0) ∧ Hid (Below w.heap.size w wr)) (fun i _ => a.length - (intOf i).toNat)
  case atStart => exact ⟨0, Nat.zero_le _, Nat.zero_le _, rfl, Lib.hid (fun j hj => by omega), Lib.hid (Below.refl _ _)⟩
  case round =>
    obtain ⟨k, hk1, hk2, rfl, HJ, HB⟩ := hrel
    by_cases h1 : k < a.length
    case neg =>
      have hd : decide ((k : Int) < (a.length : Int)) = false := by simp; omega
      have HE := Lib.hid (M.com_is k a b hk1 hk2 HJ.out (.inl (by omega)))
      go_wp2_with fail
      refine wp_region_quiet_below (by kernel_rfl) (by kernel_rfl) ?_
      repeat (any_goals (first | go_big_quiet_step ((fail)) | quiet_step ((fail))))
      refine wpQuiet_nil ?_
      intro _ hw1
      obtain ⟨⟨d1, d1o⟩, hw1⟩ := hw1
      subst hw1
      replace HB := carry (below_regrown wr d1 d1o) HB
      go_wp2_with fail
      go_ret
      exact ⟨ret_int (by rw [HE.out]), HB.out⟩
    by_cases h2 : k < b.length
    case neg =>
      have hd : decide ((k : Int) < (a.length : Int)) = true := by simp; omega
      have hd2 : decide ((k : Int) < (b.length : Int)) = false := by simp; omega
      have HE := Lib.hid (M.com_is k a b hk1 hk2 HJ.out (.inr (.inl (by omega))))
      go_wp2_with fail
      refine wp_region_quiet_below (by kernel_rfl) (by kernel_rfl) ?_
      repeat (any_goals (first | go_big_quiet_step ((fail)) | quiet_step ((fail))))
      refine wpQuiet_nil ?_
      intro _ hw1
      obtain ⟨⟨d1, d1o⟩, hw1⟩ := hw1
      subst hw1
      replace HB := carry (below_regrown wr d1 d1o) HB
      go_wp2_with fail
      go_ret
      exact ⟨ret_int (by rw [HE.out]), HB.out⟩
    have hd : decide ((k : Int) < (a.length : Int)) = true := by simp; omega
    have hd2 : decide ((k : Int) < (b.length : Int)) = true := by simp; omega
    have g1 : (k : Int) < (a.length : Int) := by omega
    have g2 : (k : Int) < (b.length : Int) := by omega
    by_cases h3 : a.getD k 0 = b.getD k 0
    · have hq : (B a k == B b k) = true := by rw [B_same]; simpa using h3
      have HJ2 := Lib.hid (show ∀ j, j < k + 1 → a.getD j 0 = b.getD j 0 from fun j hj => by
        by_cases e : j = k
        · rw [e]; exact h3
        · exact HJ.out j (by omega))
      clear h3
      go_wp2_with fail
      refine wp_region_quiet_below (by kernel_rfl) (by kernel_rfl) ?_
      repeat (any_goals (first | go_big_quiet_step ((fail)) | quiet_step ((fail))))
      refine wpQuiet_nil ?_
      intro _ hw1
      obtain ⟨⟨d1, d1o⟩, hw1⟩ := hw1
      subst hw1
      replace HB := carry (below_regrown wr d1 d1o) HB
      go_wp2_with fail
      go_roundw
      case rel => exact ⟨k + 1, by omega, by omega, by go_num, HJ2, HB⟩
      case measure => simp [intOf]; omega
    · have hq : (B a k == B b k) = false := by rw [B_same]; simpa using h3
      have HE := Lib.hid (M.com_is k a b hk1 hk2 HJ.out (.inr (.inr h3)))
      clear h3
      go_wp2_with fail
      refine wp_region_quiet_below (by kernel_rfl) (by kernel_rfl) ?_
      repeat (any_goals (first | go_big_quiet_step ((fail)) | quiet_step ((fail))))
      refine wpQuiet_nil ?_
      intro _ hw1
      obtain ⟨⟨d1, d1o⟩, hw1⟩ := hw1
      subst hw1
      replace HB := carry (below_regrown wr d1 d1o) HB
      go_wp2_with fail
      go_ret
      exact ⟨ret_int (by rw [HE.out]), HB.out⟩

theorem lastO_take {L : List M.Cl} {k : Nat} (h : k ≤ L.length) (h0 : 0 < k) : M.lastO none (L.take k) = some (L.getD (k - 1) M.cl0) := by
  obtain ⟨j, rfl⟩ : ∃ j, k = j + 1 := ⟨k - 1, by omega⟩
  rw [takeC_snoc (by omega), M.lastO_snoc]; rfl
set_option maxHeartbeats 4000000 in
set_option maxRecDepth 100000 in
theorem refSorted9_any (L : List M.Cl) (hl : L.length ≤ 1000000) (ao : Option Addr) (cap : Nat) (w : World) (hC : ClsAt w ao L) (hv : ∀ c ∈ L, ClOk c) :
    Calls Try.prog 73 #[.slice ao L.length cap] w fun e w' => e = .returned (.bool (M.srt none L)) ∧ Below w.heap.size w w' := by
  have HC := Lib.hid hC
  have HV := Lib.hid hv
  clear hC hv
  go_enter Try.func73, Try.ntmps73
  go_wp2_with fail
  go_loopw [3] (fun i wr => ∃ k : Nat, k ≤ L.length ∧ i = .int .i64 k ∧ Hid (M.srt none (L.take k) = true) ∧ Hid (Below w.heap.size w wr)) (fun i _ => L.length - (intOf i).toNat)
  case atStart => exact ⟨0, Nat.zero_le _, rfl, Lib.hid rfl, Lib.hid (Below.refl _ _)⟩
  case round =>
    obtain ⟨k, hk, rfl, HS, HB⟩ := hrel
    by_cases hlt : k < L.length
    · have hd : decide ((k : Int) < (L.length : Int)) = true := by simp; omega
      have hki : (k : Int) < (L.length : Int) := by omega
      obtain ⟨g, off, rfl, hc⟩ := (HC.out.below HB.out).off k hlt
      have HC2 := Lib.hid (HC.out.below HB.out)
      obtain ⟨x0, x1, x2⟩ := hc
      have HF := Lib.hid (memC HV.out hlt)
      have HT := Lib.hid (takeC_snoc hlt)
      have HN := Lib.hid (show M.srt none (L.take (k + 1)) = (M.srt none (L.take k) && M.nextB (M.lastO none (L.take k)) (L.getD k M.cl0)) from by rw [HT.out, M.srt_snoc])
      have HLO := Lib.hid (fun h0 => lastO_take (L := L) hk h0)
      generalize L.getD k M.cl0 = c at *
      have CM := Lib.hid (fun W => refMay9_any c HF.out W)
      have g0 := fun d os => cell_regrown x0 d os
      have g1 := fun d os => cell_regrown x1 d os
      have g2 := fun d os => cell_regrown x2 d os
      clear x0 x1 x2
      cases hm : M.mayC c with
      | false =>
        rw [hm] at CM
        have hn : M.nextB (M.lastO none (L.take k)) c = false := by simp [M.nextB, hm]
        have HE := Lib.hid (show M.srt none L = false from by
          cases hs : M.srt none L with
          | false => rfl
          | true =>
            have := M.srt_take (n := k + 1) hs
            rw [HN.out, hn] at this
            simp at this)
        clear hn hm
        go_wp2_with fail
        refine wp_region_quiet_below (by kernel_rfl) (by kernel_rfl) ?_
        repeat (any_goals (first | go_big_quiet_step ((first | (go_at_call 100; with_reducible exact Calls.regrown_of (CM.out _)))) | quiet_step ((first | (go_at_call 100; with_reducible exact Calls.regrown_of (CM.out _))))))
        refine wpQuiet_nil ?_
        intro _ hw1
        obtain ⟨⟨d1, d1o⟩, hw1⟩ := hw1
        subst hw1
        clear g0 g1 g2
        replace HB := carry (below_regrown wr d1 d1o) HB
        go_wp2_with fail
        go_ret
        exact ⟨ret_bool HE.out.symm, HB.out⟩
      | true =>
        rw [hm] at CM
        by_cases hk0 : k = 0
        · have hn : M.nextB (M.lastO none (L.take k)) c = true := by subst hk0; simp [M.nextB, hm, M.lastO]
          have HN1 := Lib.hid (show M.srt none (L.take (k + 1)) = true from by rw [HN.out, HS.out, hn]; rfl)
          have hd0 : decide (0 < k) = false := by simp; omega
          clear hn hm hk0
          go_wp2_with fail
          refine wp_region_quiet_below (by kernel_rfl) (by kernel_rfl) ?_
          repeat (any_goals (first | go_big_quiet_step ((first | (go_at_call 100; with_reducible exact Calls.regrown_of (CM.out _)))) | quiet_step ((first | (go_at_call 100; with_reducible exact Calls.regrown_of (CM.out _))))))
          refine wpQuiet_nil ?_
          intro _ hw1
          obtain ⟨⟨d1, d1o⟩, hw1⟩ := hw1
          subst hw1
          clear g0 g1 g2
          replace HB := carry (below_regrown wr d1 d1o) HB
          go_wp2_with fail
          go_roundw
          case rel => exact ⟨k + 1, by omega, by go_num, HN1, HB⟩
          case measure => simp [intOf]; omega
        · have hlo := HLO.out (by omega)
          obtain ⟨g', off', he, hc⟩ := HC2.out.off (k - 1) (by omega)
          obtain ⟨rfl, rfl⟩ : g = g' ∧ off = off' := by cases he; exact ⟨rfl, rfl⟩
          clear he
          obtain ⟨z0, z1, z2⟩ := hc
          generalize L.getD (k - 1) M.cl0 = q at *
          have CA := Lib.hid (fun W => refAhead9_any q c W)
          have hd0 : decide (0 < k) = true := by simp; omega
          have hd1 : (0 : Int) < (k : Int) := by omega
          have hw1 : IntKind.i64.wrap ((k : Int) - 1) = ((k - 1 : Nat) : Int) := by rw [IntWalk.i64_in _ (by omega)]; omega
          have hw2 : ((k - 1 : Nat) : Int) < (L.length : Int) := by omega
          have hw3 : (0 : Int) ≤ ((k - 1 : Nat) : Int) := by omega
          have q0 := fun d os => cell_regrown z0 d os
          have q1 := fun d os => cell_regrown z1 d os
          have q2 := fun d os => cell_regrown z2 d os
          clear z0 z1 z2
          cases ha : M.aheadC q c with
          | false =>
            rw [ha] at CA
            have hn : M.nextB (M.lastO none (L.take k)) c = false := by rw [hlo]; simp [M.nextB, ha]
            have HE := Lib.hid (show M.srt none L = false from by
              cases hs : M.srt none L with
              | false => rfl
              | true =>
                have := M.srt_take (n := k + 1) hs
                rw [HN.out, hn] at this
                simp at this)
            clear hn hm hk0 hlo ha
            go_wp2_with fail
            refine wp_region_quiet_below (by kernel_rfl) (by kernel_rfl) ?_
            repeat (any_goals (first | go_big_quiet_step ((first | (go_at_call 100; with_reducible exact Calls.regrown_of (CM.out _)) | (go_at_call 93; with_reducible exact Calls.regrown_of (CA.out _)))) | quiet_step ((first | (go_at_call 100; with_reducible exact Calls.regrown_of (CM.out _)) | (go_at_call 93; with_reducible exact Calls.regrown_of (CA.out _))))))
            refine wpQuiet_nil ?_
            intro _ hw1
            obtain ⟨⟨d1, d1o⟩, hw1⟩ := hw1
            subst hw1
            clear g0 g1 g2 q0 q1 q2
            replace HB := carry (below_regrown wr d1 d1o) HB
            go_wp2_with fail
            go_ret
            exact ⟨ret_bool HE.out.symm, HB.out⟩
          | true =>
            rw [ha] at CA
            have hn : M.nextB (M.lastO none (L.take k)) c = true := by rw [hlo]; simp [M.nextB, ha, hm]
            have HN1 := Lib.hid (show M.srt none (L.take (k + 1)) = true from by rw [HN.out, HS.out, hn]; rfl)
            clear hn hm hk0 hlo ha
            go_wp2_with fail
            refine wp_region_quiet_below (by kernel_rfl) (by kernel_rfl) ?_
            repeat (any_goals (first | go_big_quiet_step ((first | (go_at_call 100; with_reducible exact Calls.regrown_of (CM.out _)) | (go_at_call 93; with_reducible exact Calls.regrown_of (CA.out _)))) | quiet_step ((first | (go_at_call 100; with_reducible exact Calls.regrown_of (CM.out _)) | (go_at_call 93; with_reducible exact Calls.regrown_of (CA.out _))))))
            refine wpQuiet_nil ?_
            intro _ hw1
            obtain ⟨⟨d1, d1o⟩, hw1⟩ := hw1
            subst hw1
            clear g0 g1 g2 q0 q1 q2 hw1
            replace HB := carry (below_regrown wr d1 d1o) HB
            go_wp2_with fail
            go_roundw
            case rel => exact ⟨k + 1, by omega, by go_num, HN1, HB⟩
            case measure => simp [intOf]; omega
    · obtain rfl : k = L.length := by omega
      have hd : decide ((L.length : Int) < (L.length : Int)) = false := by simp
      have HE := Lib.hid (show M.srt none L = true from by have := HS.out; rwa [List.take_length] at this)
      go_wp2_with fail
      go_ret
      exact ⟨ret_bool HE.out.symm, HB.out⟩

end Go.Proofs.Ythidmgnfdikppaa

/- Layer 9: the document's bytes of sorted cells, by a contract. -/
namespace Go.Proofs.Ythidmgnfdikppaa
set_option linter.unusedVariables false
open Go Go.RowKit
attribute [local go_sem ↓] run_index_S
attribute [local go_sem] S_append S_extract

set_option maxHeartbeats 4000000 in
set_option maxRecDepth 100000 in
theorem refEncode9_any (L : List M.Cl) (hl : L.length ≤ 1000000) (ao : Option Addr) (cap : Nat) (w : World) (hC : ClsAt w ao L) (hv : ∀ c ∈ L, ClOk c) :
    Calls Try.prog 74 #[.slice ao L.length cap] w fun e w' => EncR (M.srt none L) (M.encCs L) w e w' := by
  have HC := Lib.hid hC
  have HV := Lib.hid hv
  have CS := Lib.hid (refSorted9_any L hl ao cap w hC hv)
  clear hC hv
  go_enter Try.func74, Try.ntmps74
  go_wp2_with fail
  with_reducible refine (CS.out).mono ?_
  rintro e w1 ⟨rfl, hb⟩
  have HB := Lib.hid hb
  clear hb CS
  cases hs : M.srt none L with
  | false =>
    have HS := Lib.hid hs
    clear hs
    go_wp2_with fail
    go_ret2
    exact ⟨by rw [HS.out]; rfl, HB.out⟩
  | true =>
    have HM := Lib.hid (M.srt_may hs)
    have HS := Lib.hid hs
    clear hs
    go_wp2_with fail
    with_reducible refine (refPut_nat L.length _ (by omega)).mono ?_
    rintro e w2 ⟨rfl, hb2⟩
    replace HB := carry hb2 HB
    clear hb2
    have hpl := (M.putN_length L.length).2
    generalize hpe : M.putN L.length = pl at *
    have HPE := Lib.hid hpe
    clear hpe
    go_wp2_with fail
    go_loopw [4, 5, 6] (fun v4 v5 i wr => ∃ (k : Nat) (acc : List UInt8), k ≤ L.length ∧ i = .int .i64 k ∧ v4 = .string (S acc) ∧ v5 = .string (S (M.lastK [] (L.take k))) ∧ Hid (acc = pl ++ M.encL [] (L.take k)) ∧ Hid (Below w.heap.size w wr)) (fun _ _ i _ => L.length - (intOf i).toNat)
    case atStart => exact ⟨0, pl, Nat.zero_le _, rfl, rfl, rfl, Lib.hid (by simp [M.encL]), HB⟩
    case round =>
      clear HB
      obtain ⟨k, acc, hk, rfl, rfl, rfl, HA, HB⟩ := hrel
      by_cases hlt : k < L.length
      · have hd : decide ((k : Int) < (L.length : Int)) = true := by simp; omega
        have hki : (k : Int) < (L.length : Int) := by omega
        obtain ⟨g, off, rfl, hc⟩ := (HC.out.below HB.out).off k hlt
        have HCO := Lib.hid hc
        have hok := memC HV.out hlt
        have hmy := memC HM.out hlt
        have HT := Lib.hid (takeC_snoc hlt)
        have HE := Lib.hid (show M.encL [] (L.take (k + 1)) = M.encL [] (L.take k) ++ M.encOne (M.lastK [] (L.take k)) (L.getD k M.cl0) from by rw [HT.out, M.encL_snoc])
        have HO := Lib.hid (show M.lastK [] (L.take (k + 1)) = (L.getD k M.cl0).key from by rw [HT.out, M.lastK_snoc])
        have hal : acc.length ≤ 10 + 240 * k := by
          rw [HA.out]
          have := M.encL_len (k := []) (fun c (hc : c ∈ L.take k) => HM.out c (List.mem_of_mem_take hc))
          have h2 := List.length_take_le k L
          simp only [List.length_append]
          omega
        have hll := M.lastK_len (fun c (hc : c ∈ L.take k) => (HV.out c (List.mem_of_mem_take hc)).1) [] (by simp)
        generalize L.getD k M.cl0 = c at *
        generalize M.lastK [] (L.take k) = lk at *
        have hm2 := M.mayC_true.1 hmy
        have hcl := M.com_le2 lk c.key
        obtain ⟨q, hq⟩ : ∃ q : Nat, c.seq = (q : Int) := ⟨c.seq.toNat, by omega⟩
        have hq9 : q ≤ 9223372036854775807 := by have := hok.2.2.h2; omega
        have C1 := Lib.hid (fun W => refPut_nat (M.com lk c.key) W (by omega))
        have C2 := Lib.hid (fun W => refPutText_any (c.key.drop (M.com lk c.key)) W (by simp; omega))
        have C3 := Lib.hid (fun W => refPut_nat q W hq9)
        have C4 := Lib.hid (fun W => refPutText_any c.val W (by omega))
        have CC := Lib.hid (fun W => refAlike9_any lk c.key hll (by omega) W)
        have HEO : Hid (M.encOne lk c = M.putN (M.com lk c.key) ++ ((M.putN (c.key.drop (M.com lk c.key)).length ++ c.key.drop (M.com lk c.key)) ++ (M.putN q ++ (M.putN c.val.length ++ c.val)))) := Lib.hid (by rw [M.encOne, hq]; simp only [M.putT, List.append_assoc]; rfl)
        obtain ⟨x0, x1, x2⟩ := HCO.out
        rw [hq] at x1
        have HQ := Lib.hid hq
        have hkl := hm2.2.1
        have hvl := hm2.2.2.2
        clear hq hok hmy hm2 x1 x2
        generalize M.com lk c.key = n at *
        have hp1 : (M.putN n).length ≤ 10 := (M.putN_length n).2
        have hp2 : (M.putN (c.key.drop n).length ++ c.key.drop n).length ≤ 100 := by have := (M.putN_length (c.key.drop n).length).2; simp only [List.length_append, List.length_drop] at *; omega
        have hp3 : (M.putN q).length ≤ 10 := (M.putN_length q).2
        have hp4 : (M.putN c.val.length ++ c.val).length ≤ 200 := by have := (M.putN_length c.val.length).2; simp only [List.length_append] at *; omega
        generalize M.putN n = e1 at *
        generalize M.putN (c.key.drop n).length ++ c.key.drop n = e2 at *
        generalize M.putN q = e3 at *
        generalize M.putN c.val.length ++ c.val = e4 at *
        have hs0 := run_piece_from (P := Try.prog) 9 Try.underlying9 c.key (n : Int) n rfl hcl
        go_wp2_with fail
        with_reducible refine (CC.out _).mono ?_
        rintro e w5 ⟨rfl, hb5⟩
        replace HB := carry hb5 HB
        replace HCO := Lib.hid (HCO.out.below hb5)
        clear hb5 x0
        obtain ⟨x0, x1, x2⟩ := HCO.out
        rw [HQ.out] at x1
        have g0 := fun d os => cell_regrown x0 d os
        have g1 := fun d os => cell_regrown x1 d os
        have g2 := fun d os => cell_regrown x2 d os
        clear x0 x1 x2
        go_wp2_with fail
        refine wp_region_quiet_below (by kernel_rfl) (by kernel_rfl) ?_
        repeat (any_goals (first | go_big_quiet_step ((first | (go_at_call 77; with_reducible exact Calls.regrown_of (C1.out _)) | (go_at_call 76; with_reducible exact Calls.regrown_of (C2.out _)) | (go_at_call 77; with_reducible exact Calls.regrown_of (C3.out _)) | (go_at_call 76; with_reducible exact Calls.regrown_of (C4.out _)))) | quiet_step ((first | (go_at_call 77; with_reducible exact Calls.regrown_of (C1.out _)) | (go_at_call 76; with_reducible exact Calls.regrown_of (C2.out _)) | (go_at_call 77; with_reducible exact Calls.regrown_of (C3.out _)) | (go_at_call 76; with_reducible exact Calls.regrown_of (C4.out _))))))
        refine wpQuiet_nil ?_
        intro _ hw1
        obtain ⟨⟨d1, d1o⟩, hw1⟩ := hw1
        subst hw1
        clear g0 g1 g2
        replace HB := carry (below_regrown w5 d1 d1o) HB
        replace HCO := Lib.hid (HCO.out.below (below_regrown w5 d1 d1o))
        generalize Sort.grow (redrawn w5 d1) d1o = w6 at *
        obtain ⟨x0, x1, x2⟩ := HCO.out
        go_wp2_with fail
        go_roundw
        case rel => exact ⟨k + 1, acc ++ (e1 ++ (e2 ++ (e3 ++ e4))), by omega, by go_num, rfl, by rw [HO.out], Lib.hid (by rw [HE.out, HEO.out, HA.out, List.append_assoc]), HB⟩
        case measure => simp [intOf]; omega
      · obtain rfl : k = L.length := by omega
        have hd : decide ((L.length : Int) < (L.length : Int)) = false := by simp
        have HF := Lib.hid (show acc = M.encCs L from by rw [HA.out, List.take_length, ← HPE.out]; rfl)
        go_wp2_with fail
        go_ret2
        exact ⟨by rw [HS.out, ← HF.out]; rfl, HB.out⟩

end Go.Proofs.Ythidmgnfdikppaa

/- Layer 9: the document's cells of bytes, by a contract. -/
namespace Go.Proofs.Ythidmgnfdikppaa
set_option linter.unusedVariables false
open Go Go.RowKit
attribute [local go_sem ↓] run_index_S
attribute [local go_sem] S_append S_extract

theorem M.readC_ok {s last : List UInt8} {at_ nx : Nat} {c : M.Cl} {chk : Bool} (hs : s.length ≤ 1000000) (hl : last.length ≤ at_) (hat : at_ ≤ s.length) (h : M.readC chk s at_ last = some (c, nx)) : c.key.length ≤ nx ∧ nx ≤ s.length ∧ ClOk c ∧ at_ + 4 ≤ nx := by
  obtain ⟨n, q, hn, hq, hsq, ⟨rest, hk, hd⟩, hc, hnx, h4⟩ := M.readC_drop h
  have hdl := congrArg List.length hd
  simp only [List.length_drop, List.length_append, M.putT] at hdl
  have hkl : c.key.length ≤ nx := by rw [hk]; simp only [List.length_append, List.length_take]; omega
  exact ⟨hkl, hnx, ⟨by omega, by omega, ⟨by omega, by omega⟩⟩, h4⟩
set_option maxHeartbeats 8000000 in
set_option maxRecDepth 100000 in
theorem refDecode9_any (s : List UInt8) (hs : s.length ≤ 1000000) (w : World) :
    Calls Try.prog 86 #[.string (S s)] w fun e w' => DecR9 (M.decC s) w e w' := by
  rw [← M.dec_same]
  obtain ⟨j0, y0, hj, hy0, hy1, hy2, hy3⟩ := infoCl_parts
  have C0 := Lib.hid (fun W => refGet_any s 0 W (by omega))
  cases h1 : M.gets s 0 with
  | none =>
    rw [h1] at C0
    simp only [tri] at C0
    have HE := Lib.hid (M.decR_nogets h1)
    clear h1
    go_enter Try.func86, Try.ntmps86
    go_wp2_with fail
    with_reducible refine (C0.out _).mono ?_
    rintro e w1 ⟨rfl, hbq⟩
    have HB := Lib.hid hbq
    clear hbq
    go_wp2_with fail
    go_ret2
    exact HE.out ▸ ⟨rfl, HB.out⟩
  | some z =>
    obtain ⟨n, a0⟩ := z
    rw [h1] at C0
    simp only [tri] at C0
    have HST := Lib.hid (M.stG_start (chk := false) h1)
    have hn9 := (M.gets_bounds h1).2.2.2.1
    have hale : a0 ≤ s.length := (M.gets_bounds h1).2.2.1
    clear h1
    go_enter Try.func86, Try.ntmps86
    go_wp2_with fail
    with_reducible refine (C0.out _).mono ?_
    rintro e w1 ⟨rfl, hbq⟩
    have HB := Lib.hid hbq
    clear C0 hbq
    go_wp2_with fail
    go_loopw [5, 7, 8, 9] (fun v5 v7 v8 i wr => ∃ (a : Nat) (pre : List M.Cl) (ao : Option Addr) (cap : Nat), v5 = .int .i64 a ∧ v7 = .slice ao pre.length cap ∧ v8 = .string (S (M.lastK [] pre)) ∧ i = .int .i64 pre.length ∧ pre.length ≤ n ∧ 4 * pre.length ≤ a ∧ a ≤ s.length ∧ Hid (M.StG false s pre a (n - pre.length)) ∧ Hid ((M.lastK [] pre).length ≤ a ∧ ∀ c ∈ pre, ClOk c) ∧ Hid (wr.ownsRow w.heap.size 38 3 (.slice ao pre.length cap) pre.length (cls pre) ∧ Below w.heap.size w wr)) (fun _ _ _ i _ => n - (intOf i).toNat)
    case atStart => exact ⟨a0, [], none, 0, rfl, rfl, rfl, rfl, Nat.zero_le _, by simp, hale, HST, Lib.hid ⟨by simp [M.lastK], fun c hc => by simp at hc⟩, Lib.hid ⟨World.ownsRow_nil _ _ _ _, HB.out⟩⟩
    case round =>
      obtain ⟨a, pre, ao, cap, rfl, rfl, rfl, rfl, hpn, hpl, hal, HS, HK, HH⟩ := hrel
      by_cases hlt : pre.length < n
      · have hd : decide ((pre.length : Int) < (n : Int)) = true := by simp; omega
        have hd' : decide (pre.length < n) = true := by simpa using hlt
        have hS2 : M.StG false s pre a (n - (pre.length + 1) + 1) := by rw [show n - (pre.length + 1) + 1 = n - pre.length from by omega]; exact HS.out
        have hlk := HK.out.1
        have HS2 := Lib.hid hS2
        clear hS2
        generalize hlke : M.lastK [] pre = lk at *
        have HLK := Lib.hid hlke
        clear hlke
        have C1 := Lib.hid (fun W => refGet_any s a W (by omega))
        cases g1 : M.gets s a with
        | none =>
          rw [g1] at C1
          simp only [tri] at C1
          have HE := Lib.hid (M.decR_none1 HS2.out (by rw [HLK.out]; simp [M.readC, g1]))
          clear g1
          go_wp2_with fail
          with_reducible refine (C1.out _).mono ?_
          rintro e wqC1 ⟨rfl, hbq⟩
          replace HH := carry hbq HH
          clear hbq
          go_wp2_with fail
          go_ret2
          exact HE.out ▸ ⟨rfl, HH.out.2⟩
        | some x =>
          obtain ⟨m, a1⟩ := x
          rw [g1] at C1
          simp only [tri] at C1
          by_cases g2 : m ≤ lk.length
          case neg =>
            have d2 : decide ((lk.length : Int) < (m : Int)) = true := by simp; omega
            have d2' : decide (lk.length < m) = true := by simp; omega
            have HE := Lib.hid (M.decR_none1 HS2.out (by rw [HLK.out]; simp [M.readC, g1, g2]))
            clear g1 g2
            go_wp2_with fail
            with_reducible refine (C1.out _).mono ?_
            rintro e wqC1 ⟨rfl, hbq⟩
            replace HH := carry hbq HH
            clear hbq
            go_wp2_with fail
            go_ret2
            exact HE.out ▸ ⟨rfl, HH.out.2⟩
          have d2 : decide ((lk.length : Int) < (m : Int)) = false := by simp; omega
          have d2' : decide (lk.length < m) = false := by simp; omega
          have C2 := Lib.hid (fun W => refGetText_any s a1 W (by omega))
          cases g3 : M.getTs s a1 with
          | none =>
            rw [g3] at C2
            simp only [triT] at C2
            have HE := Lib.hid (M.decR_none1 HS2.out (by rw [HLK.out]; simp [M.readC, g1, g2, g3]))
            clear g1 g2 g3
            go_wp2_with fail
            with_reducible refine (C1.out _).mono ?_
            rintro e wqC1 ⟨rfl, hbq⟩
            replace HH := carry hbq HH
            clear hbq
            go_wp2_with fail
            with_reducible refine (C2.out _).mono ?_
            rintro e wqC2 ⟨rfl, hbq⟩
            replace HH := carry hbq HH
            clear hbq
            go_wp2_with fail
            go_ret2
            exact HE.out ▸ ⟨rfl, HH.out.2⟩
          | some x =>
            obtain ⟨rest, a2⟩ := x
            rw [g3] at C2
            simp only [triT] at C2
            have C3 := Lib.hid (fun W => refGet_any s a2 W (by omega))
            cases g5 : M.gets s a2 with
            | none =>
              rw [g5] at C3
              simp only [tri] at C3
              have HE := Lib.hid (M.decR_none1 HS2.out (by rw [HLK.out]; simp [M.readC, g1, g2, g3, g5]))
              clear g1 g2 g3 g5
              go_wp2_with fail
              with_reducible refine (C1.out _).mono ?_
              rintro e wqC1 ⟨rfl, hbq⟩
              replace HH := carry hbq HH
              clear hbq
              go_wp2_with fail
              with_reducible refine (C2.out _).mono ?_
              rintro e wqC2 ⟨rfl, hbq⟩
              replace HH := carry hbq HH
              clear hbq
              go_wp2_with fail
              with_reducible refine (C3.out _).mono ?_
              rintro e wqC3 ⟨rfl, hbq⟩
              replace HH := carry hbq HH
              clear hbq
              go_wp2_with fail
              go_ret2
              exact HE.out ▸ ⟨rfl, HH.out.2⟩
            | some x =>
              obtain ⟨q, a3⟩ := x
              rw [g5] at C3
              simp only [tri] at C3
              have C4 := Lib.hid (fun W => refGetText_any s a3 W (by omega))
              cases g6 : M.getTs s a3 with
              | none =>
                rw [g6] at C4
                simp only [triT] at C4
                have HE := Lib.hid (M.decR_none1 HS2.out (by rw [HLK.out]; simp [M.readC, g1, g2, g3, g5, g6]))
                clear g1 g2 g3 g5 g6
                go_wp2_with fail
                with_reducible refine (C1.out _).mono ?_
                rintro e wqC1 ⟨rfl, hbq⟩
                replace HH := carry hbq HH
                clear hbq
                go_wp2_with fail
                with_reducible refine (C2.out _).mono ?_
                rintro e wqC2 ⟨rfl, hbq⟩
                replace HH := carry hbq HH
                clear hbq
                go_wp2_with fail
                with_reducible refine (C3.out _).mono ?_
                rintro e wqC3 ⟨rfl, hbq⟩
                replace HH := carry hbq HH
                clear hbq
                go_wp2_with fail
                with_reducible refine (C4.out _).mono ?_
                rintro e wqC4 ⟨rfl, hbq⟩
                replace HH := carry hbq HH
                clear hbq
                go_wp2_with fail
                go_ret2
                exact HE.out ▸ ⟨rfl, HH.out.2⟩
              | some x =>
                obtain ⟨v, a4⟩ := x
                rw [g6] at C4
                simp only [triT] at C4
                have hrd : M.readC false s a lk = some (⟨lk.take m ++ rest, (q : Int), v⟩, a4) := by simp [M.readC, g1, g2, g3, g5, g6]
                obtain ⟨hkl, hnx, hok, hadv⟩ := M.readC_ok hs hlk hal hrd
                have HSS := Lib.hid (M.stG_step HS2.out (by rw [HLK.out]; exact hrd))
                have HOK := Lib.hid hok
                have HKL := Lib.hid hkl
                have hs0 := run_piece_to (P := Try.prog) 9 Try.underlying9 lk (m : Int) m rfl g2
                have hl1 : (lk.take m).length ≤ 1000000 := by simp; omega
                have hl2 : rest.length ≤ 1000000 := by simp only [List.length_append] at hkl; omega
                clear g1 g2 g3 g5 g6 hrd hok hkl
                generalize lk.take m = hd0 at *
                go_wp2_with fail
                with_reducible refine (C1.out _).mono ?_
                rintro e wqC1 ⟨rfl, hbq⟩
                replace HH := carry hbq HH
                clear hbq
                go_wp2_with fail
                with_reducible refine (C2.out _).mono ?_
                rintro e wqC2 ⟨rfl, hbq⟩
                replace HH := carry hbq HH
                clear hbq
                go_wp2_with fail
                with_reducible refine (C3.out _).mono ?_
                rintro e wqC3 ⟨rfl, hbq⟩
                replace HH := carry hbq HH
                clear hbq
                go_wp2_with fail
                with_reducible refine (C4.out _).mono ?_
                rintro e wqC4 ⟨rfl, hbq⟩
                replace HH := carry hbq HH
                clear hbq
                go_wp2_with (at_builtin; refine wpList_append_own _ rfl _ _ 22 rfl w.heap.size 38 j0 y0 3 40 Try.underlying22 hj hy0 hy1 hy2 hy3 (by decide) (.slice ao pre.length cap) pre.length (cls pre) rfl (HH.out.1.alloc _) ⟨wqC4.heap.size, 0, none⟩ 1 1 (clL ⟨hd0 ++ rest, (q : Int), v⟩) rfl rfl (cl_new _ ⟨hd0 ++ rest, (q : Int), v⟩ _) (clL_oneC _) (by unfold maxLen; omega) (by omega) (by have := HH.out.2.size; rw [szA]; omega) ?_; intro v8 w8 ho8 hg8 hn8; obtain ⟨a8, c8, rfl⟩ := ownP_shape ho8; have HO8 := Lib.hid (show w8.ownsRow w.heap.size 38 3 (.slice a8 (pre.length + 1) c8) (pre.length + 1) (cls (pre ++ [⟨hd0 ++ rest, (q : Int), v⟩])) from by rw [cls_append, cls_one]; exact ho8); have HB8 := Lib.hid ((HH.out.2.alloc HH.out.2.size _).grown hg8 (by have := HH.out.2.size; rw [szA]; omega) (fun q hq => (HH.out.1.lt q hq).1)); clear ho8 hg8 hn8)
                go_roundw
                case rel =>
                  have hlen : (pre ++ [(⟨hd0 ++ rest, (q : Int), v⟩ : M.Cl)]).length = pre.length + 1 := by simp
                  exact ⟨a4, pre ++ [⟨hd0 ++ rest, (q : Int), v⟩], a8, c8, rfl, by rw [hlen], by rw [M.lastK_snoc], by rw [hlen]; go_num, by rw [hlen]; omega, by rw [hlen]; omega, hnx, by rw [hlen]; exact HSS, Lib.hid ⟨by rw [M.lastK_snoc]; exact HKL.out, fun c hc => by
                    rcases List.mem_append.1 hc with hc | hc
                    · exact HK.out.2 c hc
                    · obtain rfl : c = ⟨hd0 ++ rest, (q : Int), v⟩ := (by simpa using hc)
                      exact HOK.out⟩, Lib.hid ⟨by rw [hlen]; exact HO8.out, HB8.out⟩⟩
                case measure => simp [intOf]; omega
      · have HEN := Lib.hid (show pre.length = n from by omega)
        have hd : decide ((pre.length : Int) < (n : Int)) = false := by simp; omega
        have hd' : decide (pre.length < n) = false := by simpa using hlt
        have HE := Lib.hid (M.decR_end (by have := HS.out; rwa [HEN.out, Nat.sub_self] at this))
        have HCL := Lib.hid (clsAt_own HH.out.1 rfl)
        have CE := Lib.hid (fun W h => refEncode9_any pre (by omega) ao cap W h HK.out.2)
        unfold EncR at CE
        clear hlt
        cases hsr : M.srt none pre with
        | false =>
          rw [hsr] at CE HE
          simp only [Bool.false_and, Bool.false_eq_true, if_false] at HE CE
          clear hsr
          go_wp2_with fail
          with_reducible refine (CE.out _ HCL.out).mono ?_
          rintro e w3 ⟨rfl, hb3⟩
          have HB3 := Lib.hid (below_step HH.out.2 hb3)
          clear hb3
          go_wp2_with fail
          go_ret2
          exact HE.out ▸ ⟨rfl, HB3.out⟩
        | true =>
          rw [hsr] at CE HE
          simp only [Bool.true_and, if_true] at HE CE
          clear hsr
          generalize M.encCs pre = t at *
          by_cases hts : t = s
          · have HD := Lib.hid (show M.decR s = some pre from by rw [HE.out, hts]; simp)
            have hq1 : (t == s) = true := by simpa using hts
            have hq2 : (t != s) = false := by simpa using hts
            clear hts HE
            go_wp2_with fail
            with_reducible refine (CE.out _ HCL.out).mono ?_
            rintro e w3 ⟨rfl, hb3⟩
            have HB3 := Lib.hid (below_step HH.out.2 hb3)
            have HO3 := Lib.hid (ownP_below HH.out.1 hb3)
            clear hb3
            go_wp2_with fail
            go_ret2
            exact HD.out ▸ ⟨⟨ao, cap, rfl, HO3.out⟩, HB3.out⟩
          · have HD := Lib.hid (show M.decR s = none from by rw [HE.out]; simp [hts])
            have hq1 : (t == s) = false := by simpa using hts
            have hq2 : (t != s) = true := by simpa using hts
            clear hts HE
            go_wp2_with fail
            with_reducible refine (CE.out _ HCL.out).mono ?_
            rintro e w3 ⟨rfl, hb3⟩
            have HB3 := Lib.hid (below_step HH.out.2 hb3)
            clear hb3
            go_wp2_with fail
            go_ret2
            exact HD.out ▸ ⟨rfl, HB3.out⟩

end Go.Proofs.Ythidmgnfdikppaa

/- Layer 9: the law's own helpers, by contracts; the document's Find. -/
namespace Go.Proofs.Ythidmgnfdikppaa
set_option linter.unusedVariables false
open Go Go.RowKit
attribute [local go_sem ↓] run_index_S
attribute [local go_sem] S_append S_extract

theorem M.cls_ext9 {L K : List M.Cl} (h : L.length = K.length) (hj : ∀ j, j < L.length → L.getD j M.cl0 = K.getD j M.cl0) : L = K := by
  apply List.ext_getElem h
  intro j h1 h2
  have := hj j h1
  simpa [List.getD, List.getElem?_eq_getElem h1, List.getElem?_eq_getElem h2] using this
theorem M.Cl.diff9 {x y : M.Cl} (h : ¬ x = y) : (¬ x.key = y.key) ∨ (x.key = y.key ∧ ¬ x.seq = y.seq) ∨ (x.key = y.key ∧ x.seq = y.seq ∧ ¬ x.val = y.val) := by
  by_cases h0 : x.key = y.key
  case neg => exact .inl h0
  by_cases h1 : x.seq = y.seq
  case neg => exact .inr (.inl ⟨h0, h1⟩)
  exact .inr (.inr ⟨h0, h1, fun h2 => h (M.Cl.ext' h0 h1 h2)⟩)

set_option maxHeartbeats 1000000 in
theorem sameCells9_any {w : World} {ao bo : Option Addr} {L K : List M.Cl} (c1 c2 : Nat) (hL : ClsAt w ao L) (hK : ClsAt w bo K) (hl : L.length ≤ 140737488351232) (hk : K.length ≤ 140737488351232) :
    Calls Try.prog 35 #[.slice ao L.length c1, .slice bo K.length c2] w fun e w' => SameR (L = K) w e w' := by
  by_cases hlen : L.length = K.length
  · have d0 : ¬ ((L.length : Int) ≠ (K.length : Int)) := by omega
    have d1 : ((L.length : Int) != (K.length : Int)) = false := by simp; omega
    have HL := Lib.hid hL
    have HK := Lib.hid hK
    have HN := Lib.hid hlen
    clear hL hK hlen
    go_enter Try.func35, Try.ntmps35
    go_wp2_with fail
    go_loopw [5] (fun i wr => ∃ k : Nat, k ≤ L.length ∧ i = .int .i64 k ∧ (∀ j, j < k → L.getD j M.cl0 = K.getD j M.cl0) ∧ Below w.heap.size w wr) (fun i _ => L.length - (intOf i).toNat)
    case atStart => exact ⟨0, by omega, rfl, fun j hj => by omega, Below.refl _ _⟩
    case round =>
      rename_i wr
      obtain ⟨k, hkl, rfl, hj, hb⟩ := hrel
      have HJ := Lib.hid hj
      have HW := Lib.hid hb
      clear hj
      by_cases hlt : k < L.length
      · have hd : decide ((k : Int) < (L.length : Int)) = true := by simp; omega
        obtain ⟨g, off, rfl, hc⟩ := (HL.out.below hb).off k hlt
        obtain ⟨g', off', rfl, hc'⟩ := (HK.out.below hb).off k (by have := HN.out; omega)
        obtain ⟨x0, x1, x2⟩ := hc
        obtain ⟨y0, y1, y2⟩ := hc'
        have hkk : (k : Int) < (K.length : Int) := by have := HN.out; omega
        by_cases hxy : L.getD k M.cl0 = K.getD k M.cl0
        · rw [← hxy] at y0 y1 y2
          clear hb
          generalize hxe : L.getD k M.cl0 = x at *
          have HXE := Lib.hid hxe
          have HYE := Lib.hid hxy.symm
          clear hxe hxy
          go_wp2_with fail
          go_region
          go_wp2_with fail
          go_roundw
          case rel => exact ⟨k + 1, by omega, by go_num, fun j hj => by
            by_cases e : j = k
            · rw [e, HXE.out, HYE.out]
            · exact HJ.out j (by omega), HW.out.drew⟩
          case measure => simp [intOf]; omega
        · clear hb
          have HX := Lib.hid (show ¬ L = K from fun h => hxy (by rw [h]))
          generalize L.getD k M.cl0 = x at *
          generalize K.getD k M.cl0 = y at *
          rcases M.Cl.diff9 hxy with h | h | h
          all_goals
            clear hxy
            (try obtain ⟨h1, h⟩ := h)
            (try obtain ⟨h2, h⟩ := h)
            go_wp2_with fail
            go_region
            go_wp2_with fail
            go_ret
            exact SameR.no HX.out HW.out.drew
      · obtain rfl : k = L.length := by omega
        have hd : decide ((L.length : Int) < (L.length : Int)) = false := by simp
        go_wp2_with fail
        go_ret
        exact SameR.yes (M.cls_ext9 HN.out HJ.out) HW.out
  · have d1 : ((L.length : Int) != (K.length : Int)) = true := by simp; omega
    have HN := Lib.hid hlen
    clear hlen hL hK
    go_enter Try.func35, Try.ntmps35
    go_wp2_with fail
    go_ret
    exact SameR.no (fun h => HN.out (by rw [h])) (Below.refl _ _)


theorem sameCells9_yes (L : List M.Cl) (n : Nat) (hn : L.length = n) (a b : Option Addr) (c1 c2 : Nat) (hl : n ≤ 1000000) {w : World} (ha : ClsAt w a L) (hb : ClsAt w b L) :
    Calls Try.prog 35 #[.slice a n c1, .slice b n c2] w fun e w' => e = .returned (.bool true) ∧ Below w.heap.size w w' := by
  subst hn
  exact (sameCells9_any (L := L) (K := L) c1 c2 ha hb (by omega) (by omega)).mono fun _ _ h => h.is rfl
def SmallC9 (c : M.Cl) : Prop := c.key.length ≤ 1000 ∧ c.val.length ≤ 1000
def SmallCs9 (L : List M.Cl) (n : Nat) : Prop := L.length ≤ n ∧ ∀ x ∈ L, SmallC9 x
theorem smallCs9_of {L : List M.Cl} {n : Nat} (h : L.length ≤ n) (hj : ∀ j, j < L.length → SmallC9 (L.getD j M.cl0)) : SmallCs9 L n := by
  refine ⟨h, fun x hx => ?_⟩
  obtain ⟨j, hj', rfl⟩ := List.getElem_of_mem hx
  simpa [List.getD, List.getElem?_eq_getElem hj'] using hj j hj'
def GreatR9 (L : List M.Cl) (n : Nat) (w : World) (e : Ending) (w' : World) : Prop := (e = .returned (.bool true) ∨ (e = .returned (.bool false) ∧ SmallCs9 L n)) ∧ w = w'

set_option maxHeartbeats 1000000 in
theorem great9_any {w : World} {ao : Option Addr} (L : List M.Cl) (cap n : Nat) (hn : n ≤ 1000) (hs : ClsAt w ao L) (hl : L.length ≤ 9223372036854775807) :
    Calls Try.prog 22 #[.slice ao L.length cap, .int .i64 n] w fun e w' => GreatR9 L n w e w' := by
  have HS := Lib.hid hs
  clear hs
  by_cases hlen : L.length ≤ n
  · have d0 : decide ((n : Int) < (L.length : Int)) = false := by simp; omega
    have HLN := Lib.hid hlen
    go_enter Try.func22, Try.ntmps22
    go_wp2_with fail
    clear d0
    go_loop [5] (fun i => ∃ k : Nat, k ≤ L.length ∧ i = .int .i64 k ∧ (∀ j, j < k → SmallC9 (L.getD j M.cl0))) (fun i => L.length - (intOf i).toNat)
    case atStart => exact ⟨0, by omega, rfl, fun j hj => by omega⟩
    case round =>
      obtain ⟨k, hk, rfl, hj⟩ := hrel
      have HJ := Lib.hid hj
      clear hj
      by_cases hlt : k < L.length
      · have d1 : decide ((k : Int) < (L.length : Int)) = true := by simp; omega
        have hki : (k : Int) < (L.length : Int) := by omega
        obtain ⟨g, off, rfl, hc⟩ := HS.out.off k hlt
        obtain ⟨x0, x1, x2⟩ := hc
        generalize hxe : L.getD k M.cl0 = x at *
        have HXE := Lib.hid hxe
        clear hxe x1
        by_cases hx : SmallC9 x
        · obtain ⟨s1, s2⟩ := hx
          have e1 : decide (1000 < (x.key.length : Int)) = false := by simp; omega
          have e2 : decide (1000 < (x.val.length : Int)) = false := by simp; omega
          have HSM := Lib.hid (show SmallC9 x from ⟨s1, s2⟩)
          clear s1 s2
          go_wp2_with fail
          go_round
          case rel => exact ⟨k + 1, by omega, by go_num, fun j hj => by
            by_cases e : j = k
            · rw [e, HXE.out]; exact HSM.out
            · exact HJ.out j (by omega)⟩
          case measure => simp [intOf]; omega
        · have hx' : 1000 < x.key.length ∨ 1000 < x.val.length := by unfold SmallC9 at hx; omega
          clear hx
          go_wp2_with fail
          all_goals first
            | (go_ret; exact ⟨.inl rfl, rfl⟩)
            | (exfalso; omega)
      · obtain rfl : k = L.length := by omega
        have HSB := Lib.hid (smallCs9_of HLN.out HJ.out)
        have d1 : decide ((L.length : Int) < (L.length : Int)) = false := by simp
        clear hlt
        go_wp2_with fail
        go_ret
        exact ⟨.inr ⟨rfl, HSB.out⟩, rfl⟩
  · have d0 : decide ((n : Int) < (L.length : Int)) = true := by simp; omega
    go_enter Try.func22, Try.ntmps22
    go_wp2_with fail
    go_ret
    exact ⟨.inl rfl, rfl⟩


theorem SmallC9.ok {c : M.Cl} (h : SmallC9 c) (hi : c.ints) : ClOk c := ⟨by have := h.1; omega, by have := h.2; omega, hi⟩
/-- The chapter's cells. -/
def some9L : List M.Cl := [⟨[97, 98], 7, [120]⟩, ⟨[97, 98], 3, []⟩, ⟨[97, 99], 0, [121]⟩]
abbrev some9A : Array Value := #[.string ⟨#[97, 98]⟩, .int .i64 7, .string ⟨#[120]⟩, .string ⟨#[97, 98]⟩, .int .i64 3, .string ⟨#[]⟩, .string ⟨#[97, 99]⟩, .int .i64 0, .string ⟨#[121]⟩]
theorem M.encL_ge {k : List UInt8} (L : List M.Cl) : L.length ≤ (M.encL k L).length := by
  induction L generalizing k with
  | nil => simp
  | cons c L ih =>
    have h1 := M.putN_length (M.com k c.key)
    have h2 := ih (k := c.key)
    simp only [M.encL, M.encOne, List.length_append, List.length_cons] at *
    omega
theorem M.findL_pre {key : List UInt8} {L : List M.Cl} {k : Nat} {c : M.Cl} (h : M.findL key (L.take k) = some c) : M.findL key L = some c := by
  have e : M.findL key (L.take k ++ L.drop k) = some c := by
    unfold M.findL at *
    rw [List.find?_append, h]; rfl
  rwa [List.take_append_drop] at e
end Go.Proofs.Ythidmgnfdikppaa

/- Layer 9: some of the chapter's examples, walked. -/
namespace Go.Proofs.Ythidmgnfdikppaa
set_option linter.unusedVariables false
open Go Go.RowKit
attribute [local go_sem ↓] run_index_S
attribute [local go_sem] S_append S_extract

def dB9 : List UInt8 := [3, 0, 2, 97, 98, 7, 1, 120, 2, 0, 3, 0, 1, 1, 99, 0, 1, 121]
theorem d9_srt : M.srt none some9L = true := by decide
theorem d9_enc : M.encCs some9L = dB9 := by decide
theorem d9_dec : M.decC dB9 = some some9L := by rw [← d9_enc]; exact M.dec_encC d9_srt (by decide) (by decide)
theorem d9_ab : M.findC dB9 [97, 98] = some ⟨[97, 98], 7, [120]⟩ := by rw [M.findC, d9_dec]; decide
theorem d9_b : M.findC dB9 [98] = none := by rw [M.findC, d9_dec]; decide
def two9 : List M.Cl := [⟨[97, 98], 3, []⟩, ⟨[97, 98], 7, []⟩]
theorem d9_two : M.srt none two9 = false := by decide
theorem d9_zero : M.mayC M.cl0 = false := by decide
theorem some9_ok : ∀ c ∈ some9L, ClOk c := by
  intro c hc
  simp only [some9L, List.mem_cons, List.not_mem_nil, or_false] at hc
  rcases hc with rfl | rfl | rfl <;> exact ⟨by decide, by decide, ⟨by decide, by decide⟩⟩
theorem two9_ok : ∀ c ∈ two9, ClOk c := by
  intro c hc
  simp only [two9, List.mem_cons, List.not_mem_nil, or_false] at hc
  rcases hc with rfl | rfl <;> exact ⟨by decide, by decide, ⟨by decide, by decide⟩⟩
abbrev two9A : Array Value := #[.string ⟨#[97, 98]⟩, .int .i64 3, .string ⟨#[]⟩, .string ⟨#[97, 98]⟩, .int .i64 7, .string ⟨#[]⟩]

end Go.Proofs.Ythidmgnfdikppaa

/- Plain mathematics of layer 9: the order of sorted cells, each with each. No Go here. -/
namespace Go.Proofs.Ythidmgnfdikppaa
set_option linter.unusedVariables false
open Go Go.RowKit

theorem M.less_irr : ∀ (a : List UInt8), Op.bytesLess a a = false
  | [] => rfl
  | x :: a => by simp [Op.bytesLess, M.less_irr a, UInt8.lt_irrefl]
theorem M.less_trans : ∀ (a b c : List UInt8), Op.bytesLess a b = true → Op.bytesLess b c = true → Op.bytesLess a c = true
  | _, [], _, h, _ => by cases ‹List UInt8› <;> simp [Op.bytesLess] at h
  | _, _ :: _, [], _, h => by simp [Op.bytesLess] at h
  | [], _ :: _, _ :: _, _, _ => rfl
  | x :: a, y :: b, z :: c, h, k => by
    simp only [Op.bytesLess, Bool.or_eq_true, Bool.and_eq_true, decide_eq_true_eq, beq_iff_eq] at *
    rcases h with h | ⟨rfl, h⟩
    · rcases k with k | ⟨rfl, k⟩
      · exact Or.inl (UInt8.lt_trans h k)
      · exact Or.inl h
    · rcases k with k | ⟨rfl, k⟩
      · exact Or.inl k
      · exact Or.inr ⟨rfl, M.less_trans a b c h k⟩
theorem M.ahead_iff {a b : M.Cl} : M.aheadC a b = true ↔ Op.bytesLess a.key b.key = true ∨ (a.key = b.key ∧ b.seq < a.seq) := by
  simp [M.aheadC]
theorem M.ahead_irr (a : M.Cl) : M.aheadC a a = false := by
  cases h : M.aheadC a a with
  | false => rfl
  | true =>
    rcases M.ahead_iff.1 h with h | ⟨_, h⟩
    · rw [M.less_irr] at h; cases h
    · omega
theorem M.ahead_trans {a b c : M.Cl} (h : M.aheadC a b = true) (k : M.aheadC b c = true) : M.aheadC a c = true := by
  rw [M.ahead_iff] at *
  rcases h with h | ⟨h, h'⟩
  · rcases k with k | ⟨k, k'⟩
    · exact Or.inl (M.less_trans _ _ _ h k)
    · exact Or.inl (by rw [← k]; exact h)
  · rcases k with k | ⟨k, k'⟩
    · exact Or.inl (by rw [h]; exact k)
    · exact Or.inr ⟨h.trans k, by omega⟩
theorem M.ahead_asymm {a b : M.Cl} (h : M.aheadC a b = true) : M.aheadC b a = false := by
  cases k : M.aheadC b a with
  | false => rfl
  | true => have := M.ahead_trans h k; rw [M.ahead_irr] at this; cases this
theorem M.srt_all {L : List M.Cl} : ∀ {p : M.Cl}, M.srt (some p) L = true → ∀ c ∈ L, M.aheadC p c = true := by
  induction L with
  | nil => intro p h c hc; simp at hc
  | cons x L ih =>
    intro p h c hc
    simp only [M.srt, M.nextB, Bool.and_eq_true] at h
    rcases List.mem_cons.1 hc with rfl | hc
    · exact h.1.2
    · exact M.ahead_trans h.1.2 (ih h.2 c hc)
theorem M.getD_memC {L : List M.Cl} {j : Nat} (h : j < L.length) : L.getD j M.cl0 ∈ L := by
  have e : L.getD j M.cl0 = L[j] := by simp [List.getD, List.getElem?_eq_getElem h]
  rw [e]; exact List.getElem_mem _
theorem M.srt_pair {L : List M.Cl} : ∀ {p : Option M.Cl}, M.srt p L = true → ∀ i j, i < j → j < L.length → M.aheadC (L.getD i M.cl0) (L.getD j M.cl0) = true := by
  induction L with
  | nil => intro p h i j hi hj; simp at hj
  | cons x L ih =>
    intro p h i j hi hj
    simp only [M.srt, Bool.and_eq_true] at h
    cases j with
    | zero => omega
    | succ j =>
      simp only [List.length_cons] at hj
      cases i with
      | zero => exact M.srt_all h.2 _ (by rw [List.getD_cons_succ]; exact M.getD_memC (by omega))
      | succ i => simpa using ih h.2 i j (by omega) (by omega)
theorem M.findL_cons (k : List UInt8) (c : M.Cl) (L : List M.Cl) : M.findL k (c :: L) = if c.key = k then some c else M.findL k L := by
  unfold M.findL
  rw [List.find?_cons]
  by_cases h : c.key = k <;> simp [h]
/-- What is found at the key of a cell of sorted ones: that cell, or one of a greater number. -/
theorem M.findL_at {L : List M.Cl} : ∀ {p : Option M.Cl} {i : Nat}, M.srt p L = true → i < L.length → ∃ d, M.findL (L.getD i M.cl0).key L = some d ∧ d.key = (L.getD i M.cl0).key ∧ (d = L.getD i M.cl0 ∨ (L.getD i M.cl0).seq < d.seq) := by
  induction L with
  | nil => intro p i h hi; simp at hi
  | cons x L ih =>
    intro p i h hi
    simp only [M.srt, Bool.and_eq_true] at h
    simp only [List.length_cons] at hi
    cases i with
    | zero => exact ⟨x, by rw [M.findL_cons]; simp, by simp, Or.inl (by simp)⟩
    | succ i =>
      simp only [List.getD_cons_succ]
      rw [M.findL_cons]
      by_cases e : x.key = (L.getD i M.cl0).key
      · have ha := M.srt_all h.2 _ (M.getD_memC (show i < L.length by omega))
        refine ⟨x, by rw [if_pos e], e, Or.inr ?_⟩
        rcases M.ahead_iff.1 ha with q | ⟨_, q⟩
        · rw [e, M.less_irr] at q; cases q
        · exact q
      · rw [if_neg e]
        exact ih h.2 (by omega)
theorem M.findL_is (k : List UInt8) (L : List M.Cl) : (M.findL k L).isSome = L.any (fun c => c.key == k) := by
  induction L with
  | nil => rfl
  | cons x L ih =>
    rw [M.findL_cons, List.any_cons]
    by_cases h : x.key = k
    · simp [h]
    · have : (x.key == k) = false := by simpa using h
      rw [if_neg h, ih, this, Bool.false_or]
theorem M.any_take (k : List UInt8) (L : List M.Cl) {i : Nat} (hi : i < L.length) : (L.take (i + 1)).any (fun c => c.key == k) = ((L.take i).any (fun c => c.key == k) || ((L.getD i M.cl0).key == k)) := by
  rw [takeC_snoc hi, List.any_append]; simp

end Go.Proofs.Ythidmgnfdikppaa

/- Layer 9: BlocksFind, walked. -/
namespace Go.Proofs.Ythidmgnfdikppaa
set_option linter.unusedVariables false
open Go Go.RowKit
attribute [local go_sem ↓] run_index_S
attribute [local go_sem] S_append S_extract

end Go.Proofs.Ythidmgnfdikppaa

/- Layer 9: BlocksDecode, walked. -/
namespace Go.Proofs.Ythidmgnfdikppaa
set_option linter.unusedVariables false
open Go Go.RowKit
attribute [local go_sem ↓] run_index_S
attribute [local go_sem] S_append S_extract

/-- A block with room for so many cells, which may be written. -/
def RoomC (N : Nat) (w : World) (g : Nat) : Prop := ∃ C, RowIn C 38 w g ∧ N ≤ C.size
theorem RoomC.below {N : Nat} {w w' : World} {g : Nat} (h : RoomC N w g) (hb : Below w.heap.size w w') : RoomC N w' g := by
  obtain ⟨C, h1, h2⟩ := h
  exact ⟨C, h1.below hb, h2⟩
theorem RoomC.set {N : Nat} {w : World} {g : Nat} (h : RoomC N w g) (i : Nat) (v : Value) : RoomC N (w.setCell ⟨g, i, none⟩ v) g := by
  obtain ⟨C, h1, h2⟩ := h
  exact ⟨_, h1.set i v, by simpa using h2⟩
theorem RoomC.cell {N : Nat} {w : World} {g : Nat} (h : RoomC N w g) (i : Nat) (hi : i < N) : ∃ v, w.cell? ⟨g, i, none⟩ = some v := by
  obtain ⟨C, h1, h2⟩ := h
  exact ⟨_, (h1.cell i).trans (Array.getElem?_eq_getElem (by omega))⟩
theorem RoomC.free {N : Nat} {w : World} {g : Nat} (h : RoomC N w g) (i : Nat) : w.frozen? ⟨g, i, none⟩ = false := by
  obtain ⟨C, h1, h2⟩ := h
  exact h1.free i
theorem roomC_own {B : Nat} {w : World} {g o n cap : Nat} {xs : List Value} (h : w.ownsRow B 38 3 (.slice (some ⟨g, o, none⟩) n cap) n xs) : RoomC (n * 3) w g ∧ B ≤ g ∧ o = 0 := by
  rcases h.2 with ⟨e, _⟩ | ⟨g', cap', cur, e, hB, hg, hc, hm, hs, _⟩
  · cases e
  · injection e with e1 e2 e3
    injection e1 with e1
    injection e1 with e4 e5
    subst e4 e5 e3
    exact ⟨⟨cur, hg, by rw [hs]; exact Nat.mul_le_mul_right 3 hc⟩, hB, rfl⟩
theorem ownC_addr {B : Nat} {w : World} {ao : Option Addr} {n cap : Nat} {xs : List Value} (h : w.ownsRow B 38 3 (.slice ao n cap) n xs) (hn : 0 < n) : ∃ g, ao = some ⟨g, 0, none⟩ := by
  rcases h.2 with ⟨_, e⟩ | ⟨g', cap', cur, e, _⟩
  · omega
  · injection e with e1 e2 e3
    exact ⟨g', e1⟩
theorem M.decC_len {s : List UInt8} {L : List M.Cl} (h : M.decC s = some L) : L.length ≤ s.length := by
  obtain ⟨h1, h2, h3⟩ := M.decC_enc h
  have e1 := M.encL_ge (k := []) L
  have e2 := congrArg List.length h1
  simp only [M.encCs, List.length_append] at e2
  omega

end Go.Proofs.Ythidmgnfdikppaa

/- Layer 9: BlocksBack, walked. -/
namespace Go.Proofs.Ythidmgnfdikppaa
set_option linter.unusedVariables false
open Go Go.RowKit
attribute [local go_sem ↓] run_index_S
attribute [local go_sem] S_append S_extract

theorem SmallCs9.oks {L : List M.Cl} {n : Nat} (h : SmallCs9 L n) (hi : ∀ x ∈ L, x.ints) : ∀ c ∈ L, ClOk c := fun c hc => (h.2 c hc).ok (hi c hc)
theorem M.encCs_len {L : List M.Cl} {n : Nat} (h : M.srt none L = true) (hl : L.length ≤ n) : (M.encCs L).length ≤ 10 + 240 * n := by
  have h1 := M.encL_len (k := []) (M.srt_may h)
  have h2 := (M.putN_length L.length).2
  simp only [M.encCs, List.length_append]
  omega
theorem M.dec_enc_small {L : List M.Cl} {n : Nat} (h : M.srt none L = true) (hl : SmallCs9 L n) (hn : n ≤ 1000) (hi : ∀ x ∈ L, x.ints) : M.decC (M.encCs L) = some L :=
  M.dec_encC h (fun c hc => (hi c hc).2) (by have := hl.1; omega)
theorem decC_oks {s : List UInt8} {K : List M.Cl} (h : M.decC s = some K) : (∀ c ∈ K, ClOk c) ∧ M.srt none K = true ∧ M.encCs K = s := by
  obtain ⟨h1, h2, h3⟩ := M.decC_enc h
  refine ⟨fun c hc => ?_, h2, h1⟩
  obtain ⟨q1, q2, q3, q4⟩ := M.mayC_true.1 (M.srt_may h2 c hc)
  exact ⟨by omega, by omega, by have := (h3 c hc); exact ⟨by omega, by omega⟩⟩

end Go.Proofs.Ythidmgnfdikppaa
