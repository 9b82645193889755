/- Layer 11: MergesCount, walked. -/
import Derived.Test.YthidmgnfdikppaaMergeP
import Derived.BigQuiet
namespace Go.Proofs.Ythidmgnfdikppaa
set_option linter.unusedVariables false
open Go Go.RowKit
attribute [local go_sem ↓] run_index_S
attribute [local go_sem] S_append S_extract

set_option maxHeartbeats 8000000 in
set_option maxRecDepth 100000 in
theorem mergesCount_calls (W : World) (v : Value) (o : URs W v) : Calls Try.prog 13 #[v] W fun e w' => e = .returned (.bool true) ∧ Below W.heap.size W w' := by
  obtain ⟨Rs, ao, cap, rfl, hn, hi, hcap, hA⟩ := o
  have CG := Lib.hid (great11_any Rs ao cap W hA hn hi)
  have CD := Lib.hid (fun V => does11_any V)
  have HA := Lib.hid hA
  have HI := Lib.hid hi
  clear hA hi
  go_enter Try.func13, Try.ntmps13
  go_wp2_with fail
  with_reducible refine (CG.out).mono ?_
  rintro e w1 ⟨he, rfl⟩
  rcases he with rfl | ⟨rfl, hsm⟩
  · go_wp2_with fail
    go_ret
    exact ⟨rfl, Below.refl _ _⟩
  have CA := Lib.hid (all11_any Rs (hsm.ok HI.out) ao cap W HA.out)
  have HSM := Lib.hid hsm
  have hn20 := hsm.n
  clear hsm CG
  go_wp2_with fail
  with_reducible refine (CA.out).mono ?_
  rintro e w2 ⟨a2, c2, rfl, ho2, hb2⟩
  by_cases hm : M.mayR Rs = true
  · rw [if_pos hm] at ho2
    rw [if_pos hm, if_pos hm]
    have HM := Lib.hid hm
    simp only [id] at ho2
    have HLC := Lib.hid (clsAt_own ho2 rfl)
    have HB2 := Lib.hid hb2
    have HA2 := Lib.hid (HA.out.below hb2)
    have hLl : (M.mrg (M.rls Rs)).length = ((M.rls Rs).map List.length).sum := M.mrg_len _
    have hL300 : (M.mrg (M.rls Rs)).length ≤ 300 := by rw [hLl]; exact HSM.out.tot
    have HAsc := Lib.hid ((M.mrg_is (M.rls Rs)).asc (M.mayR_pw hm))
    have HCnt := Lib.hid (fun c => (M.mrg_is (M.rls Rs)).cnt c)
    have HLl := Lib.hid hLl
    obtain ⟨L, hL⟩ : ∃ L, L = M.mrg (M.rls Rs) := ⟨_, rfl⟩
    simp only [id]
    rw [← hL] at HLC hL300 HAsc HCnt HLl ⊢
    clear hm ho2 hb2 CA hLl hL
    go_wp2_with fail
    go_loopw [5, 6] (fun tv i wr => ∃ k : Nat, k ≤ Rs.length ∧ i = .int .i64 k ∧ tv = .int .i64 (((M.rls (Rs.take k)).map List.length).sum : Nat) ∧ Hid (Below w2.heap.size w2 wr)) (fun tv i _ => Rs.length - (intOf i).toNat)
    case atStart => exact ⟨0, Nat.zero_le _, rfl, by simp [M.rls], Lib.hid (Below.refl _ _)⟩
    case round =>
      obtain ⟨k, hk, rfl, rfl, HB⟩ := hrel
      by_cases hlt : k < Rs.length
      · have hki : (k : Int) < (Rs.length : Int) := by omega
        obtain ⟨g, off, eao, hc⟩ := (HA2.out.below HB.out).off k hlt
        have HSN := Lib.hid (M.sumR_snoc hlt)
        have HMR := Lib.hid (M.getD_memR hlt)
        have hs300 : ((M.rls (Rs.take k)).map List.length).sum ≤ 300 := Nat.le_trans (M.sumR_take k) HSM.out.tot
        generalize Rs.getD k M.rw0 = r at *
        generalize ((M.rls (Rs.take k)).map List.length).sum = tot at *
        obtain ⟨l, o, kc⟩ := r
        obtain ⟨x0, hcl⟩ := hc
        simp only at x0 hcl HSN HMR
        subst eao
        have HX := Lib.hid (show RwAt wr g (off + k) ⟨l, o, kc⟩ from ⟨x0, hcl⟩)
        have hll := (HSM.out.each _ HMR.out).1
        simp only at hll
        clear hcl
        go_wp2_with fail
        have HBO := HB
        obtain ⟨wo, hwo⟩ : ∃ x, x = wr := ⟨_, rfl⟩
        rw [← hwo] at HX HBO
        have HWO := Lib.hid hwo
        clear hwo x0
        go_loopw [7] (fun i wq => ∃ j : Nat, j ≤ l.length ∧ i = .int .i64 j ∧ Hid (Below wo.heap.size wo wq)) (fun i _ => l.length - (intOf i).toNat)
        case atStart => exact ⟨0, Nat.zero_le _, rfl, Lib.hid (by rw [HWO.out]; exact Below.refl _ _)⟩
        case round =>
          clear HB
          obtain ⟨j, hj, rfl, HB⟩ := hrel
          have x0 := (HX.out.below HB.out).1
          have hcl := (HX.out.below HB.out).2
          simp only at x0 hcl
          by_cases hjl : j < l.length
          · have hji : (j : Int) < (l.length : Int) := by omega
            obtain ⟨gq, offq, eo, hcj⟩ := hcl.off j hjl
            generalize l.getD j M.cl0 = c at *
            subst eo
            have HBW := Lib.hid (HBO.out.trans (HB.out.mono HBO.out.size))
            have HC := Lib.hid hcj
            clear hcl hcj
            go_wp2_with fail
            obtain ⟨wp, hwp⟩ : ∃ x, x = wr := ⟨_, rfl⟩
            rw [← hwp] at HB HBW HC x0
            have HX0 := Lib.hid x0
            have HWP := Lib.hid hwp
            clear hwp x0
            go_loopw [8, 9] (fun nv i wq => ∃ q : Nat, q ≤ Rs.length ∧ i = .int .i64 q ∧ nv = .int .i64 (M.cntR c (M.rls (Rs.take q))) ∧ Hid (Below wp.heap.size wp wq)) (fun nv i _ => Rs.length - (intOf i).toNat)
            case atStart => exact ⟨0, Nat.zero_le _, rfl, by simp [M.rls, M.cntR], Lib.hid (by rw [HWP.out]; exact Below.refl _ _)⟩
            case round =>
              obtain ⟨q, hq, rfl, rfl, HBp⟩ := hrel
              have x0 := (HBp.out.cell (p := ⟨g, off + k, none⟩) (block_lt_of_cell HX0.out)).trans HX0.out
              obtain ⟨y0, y1, y2⟩ := HC.out.below HBp.out
              by_cases hql : q < Rs.length
              · have hqi : (q : Int) < (Rs.length : Int) := by omega
                obtain ⟨g', off', eao', hcq⟩ := (HA2.out.below (HBW.out.trans (HBp.out.mono HBW.out.size))).off q hql
                injection eao' with eao'
                injection eao' with e1 e2
                subst e1; subst e2
                have HSQ := Lib.hid (M.cntR_snoc c hql)
                have HMQ := Lib.hid (M.getD_memR hql)
                have hs3 : M.cntR c (M.rls (Rs.take q)) ≤ 300 := Nat.le_trans (M.cntR_le c _) (Nat.le_trans (M.sumR_take q) HSM.out.tot)
                generalize Rs.getD q M.rw0 = rq at *
                generalize M.cntR c (M.rls (Rs.take q)) = nq0 at *
                obtain ⟨lq, oq, kq⟩ := rq
                obtain ⟨z0, hclq⟩ := hcq
                simp only at z0 hclq HSQ HMQ
                have hlq := (HSM.out.each _ HMQ.out).1
                simp only at hlq
                have CC := Lib.hid (fun V (h : ClsAt V oq lq) => count11_any lq (by omega) oq kq c V h)
                have hcc := M.cnt_le c lq
                generalize M.cnt c lq = mq at *
                have HQ := Lib.hid hclq
                clear hclq
                have HQG := Lib.hid (fun d os => HQ.out.below (below_regrown wr d os))
                have g0 := fun d os => cell_regrown z0 d os
                have g1 := fun d os => cell_regrown x0 d os
                have g2 := fun d os => cell_regrown y0 d os
                have g3 := fun d os => cell_regrown y1 d os
                have g4 := fun d os => cell_regrown y2 d os
                clear z0 x0 y0 y1 y2
                go_wp2_with fail
                refine wp_region_quiet_below (by kernel_rfl) (by kernel_rfl) ?_
                repeat (any_goals (first | go_big_quiet_step ((first | (go_at_call 49; exact Calls.regrown_of (CC.out _ (HQG.out _ _))))) | quiet_step ((first | (go_at_call 49; exact Calls.regrown_of (CC.out _ (HQG.out _ _)))))))
                refine wpQuiet_nil ?_
                intro _ hw1
                obtain ⟨⟨d1, d1o⟩, hw1⟩ := hw1
                subst hw1
                clear g0 g1 g2 g3 g4
                replace HBp := Lib.hid (HBp.out.trans ((below_regrown wr d1 d1o).mono HBp.out.size))
                have e9 : (nq0 : Int) + (mq : Int) = ((nq0 + mq : Nat) : Int) := by omega
                go_wp2_with fail
                go_roundw
                case rel => exact ⟨q + 1, by omega, by go_num, by rw [HSQ.out, Int.natCast_add], HBp⟩
                case measure => simp [intOf]; omega
              · obtain rfl : q = Rs.length := by omega
                have HNQ := Lib.hid (show M.cntR c (M.rls (Rs.take Rs.length)) = M.cnt c L from by rw [List.take_length, HCnt.out])
                have hnc : M.cnt c L ≤ 300 := Nat.le_trans (M.cnt_le c L) hL300
                have CC := Lib.hid (fun V (h : ClsAt V a2 L) => count11_any L (by omega) a2 c2 c V h)
                have HLW := Lib.hid (HLC.out.below (HBW.out.trans (HBp.out.mono HBW.out.size)))
                generalize M.cntR c (M.rls (Rs.take Rs.length)) = nq0 at *
                generalize M.cnt c L = mq at *
                have hnq := HNQ.out
                subst hnq
                go_wp2_with fail
                with_reducible refine (CC.out _ HLW.out).mono ?_
                rintro e w9 ⟨rfl, hb9⟩
                have HB9 := Lib.hid (HB.out.trans ((HBp.out.trans (hb9.mono HBp.out.size)).mono HB.out.size))
                clear hb9 x0 y0 y1 y2
                go_wp2_with fail
                go_roundw
                case rel => exact ⟨j + 1, by omega, by go_num, HB9⟩
                case measure => simp [intOf]; omega
          · obtain rfl : j = l.length := by omega
            have e9 : (tot : Int) + (l.length : Int) = ((tot + l.length : Nat) : Int) := by omega
            have HB9 := Lib.hid (HBO.out.trans (HB.out.mono HBO.out.size))
            clear hcl
            go_wp2_with fail
            go_roundw
            case rel => exact ⟨k + 1, by omega, by go_num, by rw [HSN.out, Int.natCast_add], HB9⟩
            case measure => simp [intOf]; omega
      · obtain rfl : k = Rs.length := by omega
        rw [List.take_length, ← HLl.out]
        go_wp2_with fail
        have HBO := Lib.hid (show Below w2.heap.size w2 wr from HB.out)
        clear HB
        go_loopw [10] (fun i wq => ∃ q : Nat, (q = 0 ∨ q + 1 ≤ L.length) ∧ i = .int .i64 ((q + 1 : Nat) : Int) ∧ Hid (Below w2.heap.size w2 wq)) (fun i _ => L.length - (intOf i).toNat)
        case atStart => exact ⟨0, .inl rfl, rfl, HBO⟩
        case round =>
          clear HBO
          obtain ⟨q, hq, rfl, HB⟩ := hrel
          by_cases hql : q + 1 < L.length
          · have hqi : ((q + 1 : Nat) : Int) < (L.length : Int) := by omega
            have hqj : (q : Int) < (L.length : Int) := by omega
            have HAH := Lib.hid (show M.aheadC (L.getD (q + 1) M.cl0) (L.getD q M.cl0) = false from by
              have := (List.pairwise_iff_getElem.1 HAsc.out) q (q + 1) (by omega) hql (by omega)
              simpa [List.getD, hql, show q < L.length from by omega] using this)
            obtain ⟨g, off, e2, hc2⟩ := (HLC.out.below HB.out).off (q + 1) hql
            obtain ⟨g', off', e2', hc2'⟩ := (HLC.out.below HB.out).off q (by omega)
            rw [e2] at e2'
            injection e2' with e2'
            injection e2' with e3 e4
            subst e3; subst e4; subst e2
            obtain ⟨x0, x1, x2⟩ := hc2
            obtain ⟨y0, y1, y2⟩ := hc2'
            generalize L.getD (q + 1) M.cl0 = x at *
            generalize L.getD q M.cl0 = y at *
            have hne : ¬ (Op.bytesLess x.key y.key = true ∨ (x.key = y.key ∧ y.seq < x.seq)) := fun h => by
              have := M.ahead_iff.2 h
              rw [HAH.out] at this; cases this
            have b1 : Op.bytesLess x.key y.key = false := by
              cases h : Op.bytesLess x.key y.key with
              | false => rfl
              | true => exact absurd (.inl h) hne
            have e1 : ((q + 1 : Nat) : Int) - 1 = (q : Int) := by omega
            by_cases hk : x.key = y.key
            · have b2 : (x.key == y.key) = true := by simpa using hk
              have b3 : decide (y.seq < x.seq) = false := by
                rw [decide_eq_false_iff_not]; exact fun h => hne (.inr ⟨hk, h⟩)
              clear hne hk HAH
              go_wp2_with fail
              go_quiet (fail)
              have hbq : Below wr.heap.size wr (wr.drewN nq) := below_drewN (Below.refl _ _) nq
              obtain ⟨wq, hwq⟩ : ∃ x, x = wr.drewN nq := ⟨_, rfl⟩
              rw [← hwq] at hbq ⊢
              replace HB := Lib.hid (HB.out.trans (hbq.mono HB.out.size))
              clear hwq hbq x0 x1 x2 y0 y1 y2
              go_wp2_with fail
              go_roundw
              case rel => exact ⟨q + 1, .inr (by omega), by go_num, HB⟩
              case measure => simp [intOf]; omega
            · have b2 : (x.key == y.key) = false := by simpa using hk
              clear hne hk HAH
              go_wp2_with fail
              go_quiet (fail)
              have hbq : Below wr.heap.size wr (wr.drewN nq) := below_drewN (Below.refl _ _) nq
              obtain ⟨wq, hwq⟩ : ∃ x, x = wr.drewN nq := ⟨_, rfl⟩
              rw [← hwq] at hbq ⊢
              replace HB := Lib.hid (HB.out.trans (hbq.mono HB.out.size))
              clear hwq hbq x0 x1 x2 y0 y1 y2
              go_wp2_with fail
              go_roundw
              case rel => exact ⟨q + 1, .inr (by omega), by go_num, HB⟩
              case measure => simp [intOf]; omega
          · have hqn : ¬ (((q + 1 : Nat) : Int) < (L.length : Int)) := by omega
            have HBW := Lib.hid (HB2.out.trans (HB.out.mono HB2.out.size))
            go_wp2_with fail
            with_reducible refine (CD.out _).mono ?_
            rintro e w3 ⟨rfl, hb3⟩
            replace HBW := Lib.hid (HBW.out.trans (hb3.mono HBW.out.size))
            clear hb3
            go_wp2_with fail
            go_ret
            exact ⟨rfl, HBW.out⟩
  · rw [if_neg hm] at ho2
    rw [if_neg hm, if_neg hm]
    have HB2 := Lib.hid hb2
    clear ho2 hb2 CA
    go_wp2_with fail
    with_reducible refine (CD.out _).mono ?_
    rintro e w3 ⟨rfl, hb3⟩
    replace HB2 := Lib.hid (HB2.out.trans (hb3.mono HB2.out.size))
    clear hb3
    go_wp2_with fail
    go_ret
    exact ⟨rfl, HB2.out⟩

end Go.Proofs.Ythidmgnfdikppaa
