/- Layer 11: MergesNewest, walked. -/
import Derived.Test.YthidmgnfdikppaaMergeQ
import Derived.BigQuiet
namespace Go.Proofs.Ythidmgnfdikppaa
set_option linter.unusedVariables false
open Go Go.RowKit
attribute [local go_sem ↓] run_index_S
attribute [local go_sem] S_append S_extract

theorem memC_at {L : List M.Cl} {j : Nat} (h : j < L.length) : L.getD j M.cl0 ∈ L := M.getD_memC h
set_option maxHeartbeats 8000000 in
set_option maxRecDepth 100000 in
theorem mergesNewest_calls (W : World) (v : Value) (o : URs W v) : Calls Try.prog 14 #[v] W fun e w' => e = .returned (.bool true) ∧ Below W.heap.size W w' := by
  obtain ⟨Rs, ao, cap, rfl, hn, hi, hcap, hA⟩ := o
  have CG := Lib.hid (great11_any Rs ao cap W hA hn hi)
  have CD := Lib.hid (fun V => does11_any V)
  have HA := Lib.hid hA
  have HI := Lib.hid hi
  clear hA hi
  go_enter Try.func14, Try.ntmps14
  go_wp2_with fail
  with_reducible refine (CG.out).mono ?_
  rintro e w1 ⟨he, rfl⟩
  rcases he with rfl | ⟨rfl, hsm⟩
  · go_wp2_with fail
    go_ret
    exact ⟨rfl, Below.refl _ _⟩
  have CA := Lib.hid (newest11_any Rs (hsm.ok HI.out) ao cap W HA.out)
  have HSM := Lib.hid hsm
  have HOK := Lib.hid (hsm.ok HI.out)
  have hn20 := hsm.n
  clear hsm CG
  go_wp2_with fail
  with_reducible refine (CA.out).mono ?_
  rintro e w2 ⟨a2, c2, rfl, ho2, hb2⟩
  by_cases hm : M.mayR Rs = true
  · rw [if_pos hm] at ho2
    rw [if_pos hm, if_pos hm]
    have HLC := Lib.hid (clsAt_own ho2 rfl)
    have HB2 := Lib.hid hb2
    have HA2 := Lib.hid (HA.out.below hb2)
    have hL300 : (M.nw (M.mrg (M.rls Rs))).length ≤ 300 := by
      have h1 := M.nw_len (M.mrg (M.rls Rs))
      have h2 := HSM.out.tot
      rw [M.mrg_len] at h1
      omega
    have HAsc := Lib.hid ((M.mrg_is (M.rls Rs)).asc (M.mayR_pw hm))
    have HOnce := Lib.hid (show ∀ r, r ∈ Rs → ∀ x, x ∈ r.l → M.cntK x.key (M.nw (M.mrg (M.rls Rs))) = 1 ∧ ∀ m, m ∈ M.nw (M.mrg (M.rls Rs)) → m.key = x.key → x.seq ≤ m.seq from fun r hr x hx =>
      M.nw_once HAsc.out ((M.mrg_is (M.rls Rs)).mem_of (List.mem_map.2 ⟨r, hr, rfl⟩) hx))
    have HSrt := Lib.hid (M.nw_srt HAsc.out (M.mayR_may hm))
    have HFrom := Lib.hid (show ∀ x, x ∈ M.nw (M.mrg (M.rls Rs)) → ∃ r, r ∈ Rs ∧ x ∈ r.l from fun x hx => by
      obtain ⟨b, l, h1, h2⟩ := (M.mrg_is (M.rls Rs)).mem x (M.nw_mem hx)
      obtain ⟨r, hr, e⟩ := List.mem_map.1 (List.mem_of_getElem? h1)
      exact ⟨r, hr, e ▸ h2⟩)
    obtain ⟨L, hL⟩ : ∃ L, L = M.nw (M.mrg (M.rls Rs)) := ⟨_, rfl⟩
    rw [← hL] at HLC hL300 HOnce HSrt HFrom ⊢
    clear hm ho2 hb2 CA hL HAsc
    go_wp2_with fail
    go_loopw [5] (fun i wr => ∃ k : Nat, k ≤ Rs.length ∧ i = .int .i64 k ∧ Hid (Below w2.heap.size w2 wr)) (fun i _ => Rs.length - (intOf i).toNat)
    case atStart => exact ⟨0, Nat.zero_le _, rfl, Lib.hid (Below.refl _ _)⟩
    case round =>
      obtain ⟨k, hk, rfl, HB⟩ := hrel
      by_cases hlt : k < Rs.length
      · have hki : (k : Int) < (Rs.length : Int) := by omega
        obtain ⟨g, off, eao, hc⟩ := (HA2.out.below HB.out).off k hlt
        have HMR := Lib.hid (M.getD_memR hlt)
        generalize Rs.getD k M.rw0 = r at *
        obtain ⟨l, o, kc⟩ := r
        obtain ⟨x0, hcl⟩ := hc
        simp only at x0 hcl HMR
        subst eao
        have HX := Lib.hid (show RwAt wr g (off + k) ⟨l, o, kc⟩ from ⟨x0, hcl⟩)
        have HON := Lib.hid (HOnce.out _ HMR.out)
        have hll := (HSM.out.each _ HMR.out).1
        simp only at hll HON
        clear hcl
        go_wp2_with fail
        have HBO := HB
        obtain ⟨wo, hwo⟩ : ∃ x, x = wr := ⟨_, rfl⟩
        rw [← hwo] at HX HBO
        have HWO := Lib.hid hwo
        clear hwo x0
        go_loopw [6] (fun i wq => ∃ j : Nat, j ≤ l.length ∧ i = .int .i64 j ∧ Hid (Below wo.heap.size wo wq)) (fun i _ => l.length - (intOf i).toNat)
        case atStart => exact ⟨0, Nat.zero_le _, rfl, Lib.hid (by rw [HWO.out]; exact Below.refl _ _)⟩
        case round =>
          clear HB
          obtain ⟨j, hj, rfl, HB⟩ := hrel
          have x0 := (HX.out.below HB.out).1
          have hcl := (HX.out.below HB.out).2
          simp only at x0 hcl
          by_cases hjl : j < l.length
          · have hji : (j : Int) < (l.length : Int) := by omega
            obtain ⟨gq, offq, eo, hcj⟩ := hcl.off j hjl
            have HON := Lib.hid (HON.out _ (memC_at hjl))
            generalize l.getD j M.cl0 = c at *
            subst eo
            have HBW := Lib.hid (HBO.out.trans (HB.out.mono HBO.out.size))
            have HC := Lib.hid hcj
            clear hcl hcj
            go_wp2_with fail
            obtain ⟨wp, hwp⟩ : ∃ x, x = wr := ⟨_, rfl⟩
            rw [← hwp] at HB HBW HC x0
            have HX0 := Lib.hid x0
            have HWP := Lib.hid hwp
            clear hwp x0
            go_loopw [7, 8] (fun nv i wq => ∃ q : Nat, q ≤ L.length ∧ i = .int .i64 q ∧ nv = .int .i64 (M.cntK c.key (L.take q)) ∧ Hid (Below wp.heap.size wp wq)) (fun nv i _ => L.length - (intOf i).toNat)
            case atStart => exact ⟨0, Nat.zero_le _, rfl, by simp [M.cntK], Lib.hid (by rw [HWP.out]; exact Below.refl _ _)⟩
            case round =>
              obtain ⟨q, hq, rfl, rfl, HBp⟩ := hrel
              have x0 := (HBp.out.cell (p := ⟨g, off + k, none⟩) (block_lt_of_cell HX0.out)).trans HX0.out
              obtain ⟨y0, y1, y2⟩ := HC.out.below HBp.out
              by_cases hql : q < L.length
              · have hqi : (q : Int) < (L.length : Int) := by omega
                obtain ⟨g', off', rfl, hcq⟩ := (HLC.out.below (HBW.out.trans (HBp.out.mono HBW.out.size))).off q hql
                have HSQ := Lib.hid (M.cntK_snoc c.key hql)
                have HGE := Lib.hid (HON.out.2 _ (memC_at hql))
                have hs3 : M.cntK c.key (L.take q) ≤ 300 := by
                  have := M.cntK_le c.key (L.take q)
                  have : (L.take q).length ≤ L.length := by simp; omega
                  omega
                generalize L.getD q M.cl0 = y at *
                generalize M.cntK c.key (L.take q) = nq0 at *
                obtain ⟨z0, z1, z2⟩ := hcq
                by_cases hky : y.key = c.key
                · have b1 : (y.key == c.key) = true := by simpa using hky
                  have b2 : decide (y.seq < c.seq) = false := by
                    rw [decide_eq_false_iff_not]
                    have := HGE.out hky
                    omega
                  have HSQ1 : Hid (M.cntK c.key (L.take (q + 1)) = nq0 + 1) := Lib.hid (by rw [HSQ.out, if_pos b1])
                  clear hky HGE HSQ
                  go_wp2_with fail
                  go_quiet (fail)
                  have hbq : Below wr.heap.size wr (wr.drewN nq) := below_drewN (Below.refl _ _) nq
                  obtain ⟨wq, hwq⟩ : ∃ x, x = wr.drewN nq := ⟨_, rfl⟩
                  rw [← hwq] at hbq ⊢
                  replace HBp := Lib.hid (HBp.out.trans (hbq.mono HBp.out.size))
                  replace z1 := (hbq.cell (block_lt_of_cell z1)).trans z1
                  replace x0 := (hbq.cell (block_lt_of_cell x0)).trans x0
                  replace y1 := (hbq.cell (block_lt_of_cell y1)).trans y1
                  clear hwq hbq z0 z2 y0 y2
                  generalize wq = wr at *
                  go_wp2_with fail
                  go_quiet (fail)
                  have hbq : Below wr.heap.size wr (wr.drewN nq) := below_drewN (Below.refl _ _) nq
                  obtain ⟨wq, hwq⟩ : ∃ x, x = wr.drewN nq := ⟨_, rfl⟩
                  rw [← hwq] at hbq ⊢
                  replace HBp := Lib.hid (HBp.out.trans (hbq.mono HBp.out.size))
                  clear hwq hbq z1 x0 y1
                  go_wp2_with fail
                  go_roundw
                  case rel => exact ⟨q + 1, by omega, by go_num, by rw [HSQ1.out, Int.natCast_add]; rfl, HBp⟩
                  case measure => simp [intOf]; omega
                · have b1 : (y.key == c.key) = false := by simpa using hky
                  have HSQ1 : Hid (M.cntK c.key (L.take (q + 1)) = nq0) := Lib.hid (by rw [HSQ.out, if_neg (by rw [b1]; simp)]; rfl)
                  clear hky HGE HSQ
                  go_wp2_with fail
                  go_quiet (fail)
                  have hbq : Below wr.heap.size wr (wr.drewN nq) := below_drewN (Below.refl _ _) nq
                  obtain ⟨wq, hwq⟩ : ∃ x, x = wr.drewN nq := ⟨_, rfl⟩
                  rw [← hwq] at hbq ⊢
                  replace HBp := Lib.hid (HBp.out.trans (hbq.mono HBp.out.size))
                  clear hwq hbq z0 z1 z2 x0 y0 y1 y2
                  go_wp2_with fail
                  go_roundw
                  case rel => exact ⟨q + 1, by omega, by go_num, by rw [HSQ1.out], HBp⟩
                  case measure => simp [intOf]; omega
              · obtain rfl : q = L.length := by omega
                have h1 : M.cntK c.key (L.take L.length) = 1 := by rw [List.take_length]; exact HON.out.1
                rw [h1]
                have HB9 := Lib.hid (HB.out.trans (HBp.out.mono HB.out.size))
                clear x0 y0 y1 y2 h1
                go_wp2_with fail
                go_roundw
                case rel => exact ⟨j + 1, by omega, by go_num, HB9⟩
                case measure => simp [intOf]; omega
          · obtain rfl : j = l.length := by omega
            have HB9 := Lib.hid (HBO.out.trans (HB.out.mono HBO.out.size))
            clear hcl
            go_wp2_with fail
            go_roundw
            case rel => exact ⟨k + 1, by omega, by go_num, HB9⟩
            case measure => simp [intOf]; omega
      · obtain rfl : k = Rs.length := by omega
        go_wp2_with fail
        have HBO := Lib.hid (show Below w2.heap.size w2 wr from HB.out)
        clear HB
        go_loopw [9] (fun i wq => ∃ q : Nat, q ≤ L.length ∧ i = .int .i64 q ∧ Hid (Below w2.heap.size w2 wq)) (fun i _ => L.length - (intOf i).toNat)
        case atStart => exact ⟨0, Nat.zero_le _, rfl, HBO⟩
        case round =>
          clear HBO
          obtain ⟨q, hq, rfl, HB⟩ := hrel
          by_cases hql : q < L.length
          · have hqi : (q : Int) < (L.length : Int) := by omega
            obtain ⟨g, off, e2, hc2⟩ := (HLC.out.below HB.out).off q hql
            have HFR := Lib.hid (HFrom.out _ (memC_at hql))
            generalize L.getD q M.cl0 = x at *
            have HX := Lib.hid hc2
            subst e2
            clear hc2
            go_wp2_with fail
            have HBO := HB
            obtain ⟨wo, hwo⟩ : ∃ x, x = wr := ⟨_, rfl⟩
            rw [← hwo] at HX HBO
            have HWO := Lib.hid hwo
            clear hwo
            go_loopw [10, 11] (fun bv i wq => ∃ j : Nat, j ≤ Rs.length ∧ i = .int .i64 j ∧ bv = .bool ((Rs.take j).any (fun r => decide (0 < M.cnt x r.l))) ∧ Hid (Below wo.heap.size wo wq)) (fun bv i _ => Rs.length - (intOf i).toNat)
            case atStart => exact ⟨0, Nat.zero_le _, rfl, by simp, Lib.hid (by rw [HWO.out]; exact Below.refl _ _)⟩
            case round =>
              clear HB
              obtain ⟨j, hj, rfl, rfl, HB⟩ := hrel
              obtain ⟨y0, y1, y2⟩ := HX.out.below HB.out
              by_cases hjl : j < Rs.length
              · have hji : (j : Int) < (Rs.length : Int) := by omega
                obtain ⟨g', off', eao, hcq⟩ := (HA2.out.below (HBO.out.trans (HB.out.mono HBO.out.size))).off j hjl
                have HMQ := Lib.hid (M.getD_memR hjl)
                have HTS := Lib.hid (M.takeR_snoc hjl)
                generalize Rs.getD j M.rw0 = rq at *
                obtain ⟨lq, oq, kq⟩ := rq
                obtain ⟨z0, hclq⟩ := hcq
                simp only at z0 hclq HMQ HTS
                subst eao
                have hlq := (HSM.out.each _ HMQ.out).1
                simp only at hlq
                have HTA := Lib.hid (show (Rs.take (j + 1)).any (fun r => decide (0 < M.cnt x r.l)) = ((Rs.take j).any (fun r => decide (0 < M.cnt x r.l)) || decide (0 < M.cnt x lq)) from by rw [HTS.out, List.any_append]; simp)
                generalize (Rs.take j).any (fun r => decide (0 < M.cnt x r.l)) = b0 at *
                cases b0 with
                | true =>
                  have HTA : Hid ((Rs.take (j + 1)).any (fun r => decide (0 < M.cnt x r.l)) = true) := Lib.hid (by rw [HTA.out]; rfl)
                  clear hclq
                  go_wp2_with fail
                  refine wp_region_quiet_below (by kernel_rfl) (by kernel_rfl) ?_
                  repeat (any_goals (first | go_big_quiet_step (fail) | quiet_step (fail)))
                  refine wpQuiet_nil ?_
                  intro _ hw1
                  obtain ⟨⟨d1, d1o⟩, hw1⟩ := hw1
                  subst hw1
                  clear z0 y0 y1 y2
                  replace HB := Lib.hid (HB.out.trans ((below_regrown wr d1 d1o).mono HB.out.size))
                  go_wp2_with fail
                  go_roundw
                  case rel => exact ⟨j + 1, by omega, by go_num, by rw [HTA.out], HB⟩
                  case measure => simp [intOf]; omega
                | false =>
                  have CC := Lib.hid (fun V (h : ClsAt V oq lq) => count11_any lq (by omega) oq kq x V h)
                  generalize M.cnt x lq = mq at *
                  have HTA : Hid ((Rs.take (j + 1)).any (fun r => decide (0 < M.cnt x r.l)) = decide (0 < mq)) := Lib.hid (by rw [HTA.out]; rfl)
                  have HQG := Lib.hid (fun d os => hclq.below (below_regrown wr d os))
                  have g0 := fun d os => cell_regrown z0 d os
                  have g2 := fun d os => cell_regrown y0 d os
                  have g3 := fun d os => cell_regrown y1 d os
                  have g4 := fun d os => cell_regrown y2 d os
                  clear hclq z0 y0 y1 y2
                  go_wp2_with fail
                  refine wp_region_quiet_below (by kernel_rfl) (by kernel_rfl) ?_
                  repeat (any_goals (first | go_big_quiet_step ((first | (go_at_call 49; exact Calls.regrown_of (CC.out _ (HQG.out _ _))))) | quiet_step ((first | (go_at_call 49; exact Calls.regrown_of (CC.out _ (HQG.out _ _)))))))
                  refine wpQuiet_nil ?_
                  intro _ hw1
                  obtain ⟨⟨d1, d1o⟩, hw1⟩ := hw1
                  subst hw1
                  clear g0 g2 g3 g4
                  replace HB := Lib.hid (HB.out.trans ((below_regrown wr d1 d1o).mono HB.out.size))
                  go_wp2_with fail
                  go_roundw
                  case rel => exact ⟨j + 1, by omega, by go_num, by rw [HTA.out], HB⟩
                  case measure => simp [intOf]; omega
              · obtain rfl : j = Rs.length := by omega
                have h1 : (Rs.take Rs.length).any (fun r => decide (0 < M.cnt x r.l)) = true := by
                  rw [List.take_length, List.any_eq_true]
                  obtain ⟨r, h1, h2⟩ := HFR.out
                  exact ⟨r, h1, by simpa using M.cnt_pos.2 h2⟩
                rw [h1]
                have HB9 := Lib.hid (HBO.out.trans (HB.out.mono HBO.out.size))
                clear y0 y1 y2 h1
                go_wp2_with fail
                go_roundw
                case rel => exact ⟨q + 1, by omega, by go_num, HB9⟩
                case measure => simp [intOf]; omega
          · obtain rfl : q = L.length := by omega
            have HBW := Lib.hid (HB2.out.trans (HB.out.mono HB2.out.size))
            have CS := Lib.hid (sorted9_any L (by omega) a2 c2 wr (HLC.out.below HB.out) (fun c hc => by
              obtain ⟨r, h1, h2⟩ := HFrom.out c hc
              exact HOK.out.ok r h1 c h2))
            rw [HSrt.out] at CS
            go_wp2_with fail
            with_reducible refine (CS.out).mono ?_
            rintro e w3 ⟨rfl, hb3⟩
            replace HBW := Lib.hid (HBW.out.trans (hb3.mono HBW.out.size))
            clear hb3 CS
            go_wp2_with fail
            with_reducible refine (CD.out _).mono ?_
            rintro e w3 ⟨rfl, hb3⟩
            replace HBW := Lib.hid (HBW.out.trans (hb3.mono HBW.out.size))
            clear hb3
            go_wp2_with fail
            go_ret
            exact ⟨rfl, HBW.out⟩
  · rw [if_neg hm] at ho2
    rw [if_neg hm, if_neg hm]
    have HB2 := Lib.hid hb2
    clear ho2 hb2 CA
    go_wp2_with fail
    with_reducible refine (CD.out _).mono ?_
    rintro e w3 ⟨rfl, hb3⟩
    replace HB2 := Lib.hid (HB2.out.trans (hb3.mono HB2.out.size))
    clear hb3
    go_wp2_with fail
    go_ret
    exact ⟨rfl, HB2.out⟩

end Go.Proofs.Ythidmgnfdikppaa
