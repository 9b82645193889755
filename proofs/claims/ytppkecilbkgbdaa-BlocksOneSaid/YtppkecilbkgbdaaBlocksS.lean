/- Layer 9: the document's bytes of sorted cells, by a contract. -/
import Derived.Test.YtppkecilbkgbdaaBlocksR
namespace Go.Proofs.Ytppkecilbkgbdaa
set_option linter.unusedVariables false
open Go Go.RowKit
attribute [local go_sem ↓] run_index_S
attribute [local go_sem] S_append S_extract

set_option maxHeartbeats 4000000 in
set_option maxRecDepth 100000 in
theorem refEncode9_any (L : List M.Cl) (hl : L.length ≤ 1000000) (ao : Option Addr) (cap : Nat) (w : World) (hC : ClsAt w ao L) (hv : ∀ c ∈ L, ClOk c) :
    Calls Try.prog 13 #[.slice ao L.length cap] w fun e w' => EncR (M.srt none L) (M.encCs L) w e w' := by
  have HC := Lib.hid hC
  have HV := Lib.hid hv
  have CS := Lib.hid (refSorted9_any L hl ao cap w hC hv)
  clear hC hv
  go_enter Try.func13, Try.ntmps13
  go_wp2_with fail
  with_reducible refine (CS.out).mono ?_
  rintro e w1 ⟨rfl, hb⟩
  have HB := Lib.hid hb
  clear hb CS
  cases hs : M.srt none L with
  | false =>
    have HS := Lib.hid hs
    clear hs
    go_wp2_with fail
    go_ret2
    exact ⟨by rw [HS.out]; rfl, HB.out⟩
  | true =>
    have HM := Lib.hid (M.srt_may hs)
    have HS := Lib.hid hs
    clear hs
    go_wp2_with fail
    with_reducible refine (refPut_nat L.length _ (by omega)).mono ?_
    rintro e w2 ⟨rfl, hb2⟩
    replace HB := carry hb2 HB
    clear hb2
    have hpl := (M.putN_length L.length).2
    generalize hpe : M.putN L.length = pl at *
    have HPE := Lib.hid hpe
    clear hpe
    go_wp2_with fail
    go_loopw [4, 5, 6] (fun v4 v5 i wr => ∃ (k : Nat) (acc : List UInt8), k ≤ L.length ∧ i = .int .i64 k ∧ v4 = .string (S acc) ∧ v5 = .string (S (M.lastK [] (L.take k))) ∧ Hid (acc = pl ++ M.encL [] (L.take k)) ∧ Hid (Below w.heap.size w wr)) (fun _ _ i _ => L.length - (intOf i).toNat)
    case atStart => exact ⟨0, pl, Nat.zero_le _, rfl, rfl, rfl, Lib.hid (by simp [M.encL]), HB⟩
    case round =>
      clear HB
      obtain ⟨k, acc, hk, rfl, rfl, rfl, HA, HB⟩ := hrel
      by_cases hlt : k < L.length
      · have hd : decide ((k : Int) < (L.length : Int)) = true := by simp; omega
        have hki : (k : Int) < (L.length : Int) := by omega
        obtain ⟨g, off, rfl, hc⟩ := (HC.out.below HB.out).off k hlt
        have HCO := Lib.hid hc
        have hok := memC HV.out hlt
        have hmy := memC HM.out hlt
        have HT := Lib.hid (takeC_snoc hlt)
        have HE := Lib.hid (show M.encL [] (L.take (k + 1)) = M.encL [] (L.take k) ++ M.encOne (M.lastK [] (L.take k)) (L.getD k M.cl0) from by rw [HT.out, M.encL_snoc])
        have HO := Lib.hid (show M.lastK [] (L.take (k + 1)) = (L.getD k M.cl0).key from by rw [HT.out, M.lastK_snoc])
        have hal : acc.length ≤ 10 + 240 * k := by
          rw [HA.out]
          have := M.encL_len (k := []) (fun c (hc : c ∈ L.take k) => HM.out c (List.mem_of_mem_take hc))
          have h2 := List.length_take_le k L
          simp only [List.length_append]
          omega
        have hll := M.lastK_len (fun c (hc : c ∈ L.take k) => (HV.out c (List.mem_of_mem_take hc)).1) [] (by simp)
        generalize L.getD k M.cl0 = c at *
        generalize M.lastK [] (L.take k) = lk at *
        have hm2 := M.mayC_true.1 hmy
        have hcl := M.com_le2 lk c.key
        obtain ⟨q, hq⟩ : ∃ q : Nat, c.seq = (q : Int) := ⟨c.seq.toNat, by omega⟩
        have hq9 : q ≤ 9223372036854775807 := by have := hok.2.2.h2; omega
        have C1 := Lib.hid (fun W => refPut_nat (M.com lk c.key) W (by omega))
        have C2 := Lib.hid (fun W => refPutText_any (c.key.drop (M.com lk c.key)) W (by simp; omega))
        have C3 := Lib.hid (fun W => refPut_nat q W hq9)
        have C4 := Lib.hid (fun W => refPutText_any c.val W (by omega))
        have CC := Lib.hid (fun W => refAlike9_any lk c.key hll (by omega) W)
        have HEO : Hid (M.encOne lk c = M.putN (M.com lk c.key) ++ ((M.putN (c.key.drop (M.com lk c.key)).length ++ c.key.drop (M.com lk c.key)) ++ (M.putN q ++ (M.putN c.val.length ++ c.val)))) := Lib.hid (by rw [M.encOne, hq]; simp only [M.putT, List.append_assoc]; rfl)
        obtain ⟨x0, x1, x2⟩ := HCO.out
        rw [hq] at x1
        have HQ := Lib.hid hq
        have hkl := hm2.2.1
        have hvl := hm2.2.2.2
        clear hq hok hmy hm2 x1 x2
        generalize M.com lk c.key = n at *
        have hp1 : (M.putN n).length ≤ 10 := (M.putN_length n).2
        have hp2 : (M.putN (c.key.drop n).length ++ c.key.drop n).length ≤ 100 := by have := (M.putN_length (c.key.drop n).length).2; simp only [List.length_append, List.length_drop] at *; omega
        have hp3 : (M.putN q).length ≤ 10 := (M.putN_length q).2
        have hp4 : (M.putN c.val.length ++ c.val).length ≤ 200 := by have := (M.putN_length c.val.length).2; simp only [List.length_append] at *; omega
        generalize M.putN n = e1 at *
        generalize M.putN (c.key.drop n).length ++ c.key.drop n = e2 at *
        generalize M.putN q = e3 at *
        generalize M.putN c.val.length ++ c.val = e4 at *
        have hs0 := run_piece_from (P := Try.prog) 9 Try.underlying9 c.key (n : Int) n rfl hcl
        go_wp2_with fail
        with_reducible refine (CC.out _).mono ?_
        rintro e w5 ⟨rfl, hb5⟩
        replace HB := carry hb5 HB
        replace HCO := Lib.hid (HCO.out.below hb5)
        clear hb5 x0
        obtain ⟨x0, x1, x2⟩ := HCO.out
        rw [HQ.out] at x1
        have g0 := fun d os => cell_regrown x0 d os
        have g1 := fun d os => cell_regrown x1 d os
        have g2 := fun d os => cell_regrown x2 d os
        clear x0 x1 x2
        go_wp2_with fail
        refine wp_region_quiet_below (by kernel_rfl) (by kernel_rfl) ?_
        repeat (any_goals (first | go_big_quiet_step ((first | (go_at_call 30; with_reducible exact Calls.regrown_of (C1.out _)) | (go_at_call 32; with_reducible exact Calls.regrown_of (C2.out _)) | (go_at_call 30; with_reducible exact Calls.regrown_of (C3.out _)) | (go_at_call 32; with_reducible exact Calls.regrown_of (C4.out _)))) | quiet_step ((first | (go_at_call 30; with_reducible exact Calls.regrown_of (C1.out _)) | (go_at_call 32; with_reducible exact Calls.regrown_of (C2.out _)) | (go_at_call 30; with_reducible exact Calls.regrown_of (C3.out _)) | (go_at_call 32; with_reducible exact Calls.regrown_of (C4.out _))))))
        refine wpQuiet_nil ?_
        intro _ hw1
        obtain ⟨⟨d1, d1o⟩, hw1⟩ := hw1
        subst hw1
        clear g0 g1 g2
        replace HB := carry (below_regrown w5 d1 d1o) HB
        replace HCO := Lib.hid (HCO.out.below (below_regrown w5 d1 d1o))
        generalize Sort.grow (redrawn w5 d1) d1o = w6 at *
        obtain ⟨x0, x1, x2⟩ := HCO.out
        go_wp2_with fail
        go_roundw
        case rel => exact ⟨k + 1, acc ++ (e1 ++ (e2 ++ (e3 ++ e4))), by omega, by go_num, rfl, by rw [HO.out], Lib.hid (by rw [HE.out, HEO.out, HA.out, List.append_assoc]), HB⟩
        case measure => simp [intOf]; omega
      · obtain rfl : k = L.length := by omega
        have hd : decide ((L.length : Int) < (L.length : Int)) = false := by simp
        have HF := Lib.hid (show acc = M.encCs L from by rw [HA.out, List.take_length, ← HPE.out]; rfl)
        go_wp2_with fail
        go_ret2
        exact ⟨by rw [HS.out, ← HF.out]; rfl, HB.out⟩

end Go.Proofs.Ytppkecilbkgbdaa
