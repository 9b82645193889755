/- Layer 11: the document's May and All, by contracts. -/
import Derived.Test.YthidmgnfdikppaaMergeR
import Derived.Test.YthidmgnfdikppaaMergesU
import Derived.BigQuiet
import Derived.Deep.RegionHeld3
namespace Go.Proofs.Ythidmgnfdikppaa
set_option linter.unusedVariables false
open Go Go.RowKit
attribute [local go_sem ↓] run_index_S
attribute [local go_sem] S_append S_extract

set_option maxHeartbeats 4000000 in
set_option maxRecDepth 100000 in
theorem refMay11_any (Rs : List M.Rw) (hR : RsOk Rs) (ao : Option Addr) (cap : Nat) (w : World) (h : RwsAt w ao Rs) :
    Calls Try.prog 92 #[.slice ao Rs.length cap] w fun e w' => e = .returned (.bool (M.mayR Rs)) ∧ Below w.heap.size w w' := by
  have HR := Lib.hid hR
  have HA := Lib.hid h
  have hn := hR.n
  clear h hR
  go_enter Try.func92, Try.ntmps92
  go_wp2_with fail
  go_loopw [3] (fun i wr => ∃ k : Nat, k ≤ Rs.length ∧ i = .int .i64 k ∧ Hid (M.mayR (Rs.take k) = true) ∧ Hid (Below w.heap.size w wr)) (fun i _ => Rs.length - (intOf i).toNat)
  case atStart => exact ⟨0, Nat.zero_le _, rfl, Lib.hid rfl, Lib.hid (Below.refl _ _)⟩
  case round =>
    obtain ⟨k, hk, rfl, HS, HB⟩ := hrel
    by_cases hlt : k < Rs.length
    · have hki : (k : Int) < (Rs.length : Int) := by omega
      obtain ⟨g, off, rfl, hc⟩ := (HA.out.below HB.out).off k hlt
      have HF := Lib.hid (M.getD_memR hlt)
      have HT := Lib.hid (M.mayR_take hlt)
      have HX := Lib.hid (fun hs => M.mayR_cut (Rs := Rs) hlt hs)
      generalize Rs.getD k M.rw0 = r at *
      obtain ⟨l, o, kc⟩ := r
      obtain ⟨x0, hcl⟩ := hc
      simp only at x0 hcl
      have C := Lib.hid (refSorted9_any l (by have := HR.out.len _ HF.out; simp only at this; omega) o kc wr hcl (HR.out.ok _ HF.out))
      clear hcl
      go_wp2_with fail
      with_reducible refine (C.out).mono ?_
      rintro e w1 ⟨rfl, hb⟩
      replace HB := Lib.hid (HB.out.trans (hb.mono HB.out.size))
      clear hb C x0
      cases hs : M.srt none l with
      | false =>
        have HE := Lib.hid (HX.out hs)
        clear hs HX
        go_wp2_with fail
        go_ret
        exact ⟨ret_bool HE.out.symm, HB.out⟩
      | true =>
        have HE := Lib.hid (show M.mayR (Rs.take (k + 1)) = true from by rw [HT.out, HS.out, hs]; rfl)
        clear hs HX HT
        go_wp2_with fail
        go_roundw
        case rel => exact ⟨k + 1, by omega, by go_num, HE, HB⟩
        case measure => simp [intOf]; omega
    · obtain rfl : k = Rs.length := by omega
      have HM := Lib.hid (show M.mayR Rs = true from by have := HS.out; rwa [List.take_length] at this)
      go_wp2_with fail
      go_ret
      exact ⟨ret_bool HM.out.symm, HB.out⟩
/-- An append of cells at a step of a region that draws its order. -/
theorem step_append_cls11 {w : World} {ops : Array Oper} {o : Oper} {a : Act} {K : Act → World → Prop} {Q : Exit → Act → World → Prop} {E : Prop} (hgd : o.guard = none) (s x : Operand) (t : TypeId)
    (hop : o.op = .call { callee := .builtin .append, args := #[s, x], argTypes := #[t, t] })
    (base : Nat) (i : TypeInfo) (z : Value) (ht : Try.prog.underlying t = some (.slice 38)) (hi : Try.prog.info? 38 = some i) (hz : i.zero = some z) (h1 : i.size = 3) (h2 : i.bytes = 40) (h3 : z.cells.size = 3)
    (v : Value) (n : Nat) (xs : List Value) (hv : a.eval s = v) (ho : w.ownsRow base 38 3 v n xs) (ao : Option Addr) (c : Nat) (L : List M.Cl) (hx : a.eval x = .slice ao L.length c) (hs : ClsAt w ao L) (h63 : n + L.length ≤ 1000000) (hbase : base ≤ w.heap.size)
    (h : ∀ v' w', w'.ownsRow base 38 3 v' (n + L.length) (xs ++ cls L) → w.grownBy w' v.ownBlock → K (a.put o.dst v') w') :
    if Region.wanted o (yielded ops a.tmps) = true then Oper.wp Try.prog o a w K Q else E := by
  have hw : Region.wanted o (yielded ops a.tmps) = true := by simp [Region.wanted, hgd]
  rw [if_pos hw]
  obtain ⟨v', w', hrun, h5, h6⟩ := append_cls w base t o.type i z ht hi hz h1 h2 h3 v n xs ho ao c L hs h63 hbase
  unfold Oper.wp execOp
  simp only [hop, resolve, invoke, builtin, Sem.run_bind, Sem.run_pure, Result.andThen_ok, List.map_toArray, List.map_cons, List.map_nil, hv, hx, hrun]
  exact h v' w' h5 h6
def slLen : Value → Nat
  | .slice _ n _ => n
  | _ => 0
/-- What is known at a place of the rows: there is a cell. -/
theorem rows_at11 {w : World} {ao : Option Addr} {Rs : List M.Rw} (h : RwsAt w ao Rs) {P : List Nat} (hP : P.length = Rs.length) {b : Nat} {c : M.Cl} {t : List M.Cl} (hb : (M.lft (M.rls Rs) P)[b]? = some (c :: t)) :
    ∃ g off o l kc gq offq, ao = some ⟨g, off, none⟩ ∧ b < Rs.length ∧ w.cell? ⟨g, off + b, none⟩ = some (.slice (some o) l kc) ∧ o = ⟨gq, offq, none⟩ ∧ P.getD b 0 < l ∧ ClOff c w gq (offq + P.getD b 0 * 3) ∧ M.lft (M.rls Rs) (P.set b (P.getD b 0 + 1)) = (M.lft (M.rls Rs) P).set b t ∧ l = (Rs.getD b M.rw0).l.length := by
  have hP' : P.length = (M.rls Rs).length := by simpa [M.rls] using hP
  obtain ⟨h1, h2, h3, h4⟩ := M.lft_some hP' hb
  have h1' : b < Rs.length := by simpa [M.rls] using h1
  obtain ⟨g, off, rfl, hc⟩ := h.off b h1'
  have e : (M.rls Rs).getD b [] = (Rs.getD b M.rw0).l := by simp [M.rls, List.getD, h1']
  rw [e] at h2 h3
  obtain ⟨gq, offq, eo, hcl⟩ := hc.2.off _ h2
  have hx := hc.1
  rw [eo] at hx
  exact ⟨g, off, _, _, _, gq, offq, rfl, h1', hx, rfl, h2, by rw [← h3]; exact hcl, h4, rfl⟩
set_option maxHeartbeats 8000000 in
set_option maxRecDepth 100000 in
theorem refAll11_any (Rs : List M.Rw) (hR : RsOk Rs) (ao : Option Addr) (cap : Nat) (w : World) (h : RwsAt w ao Rs) :
    Calls Try.prog 42 #[.slice ao Rs.length cap] w (AllR id Rs w) := by
  obtain ⟨i0, z0, hi0, hz0, hz1, hz2, hz3⟩ := infoCl_parts
  have HR := Lib.hid hR
  have HA := Lib.hid h
  have hn := hR.n
  have CM := Lib.hid (refMay11_any Rs hR ao cap w h)
  clear h hR
  go_enter Try.func42, Try.ntmps42
  go_wp2_with fail
  with_reducible refine (CM.out).mono ?_
  rintro e w1 ⟨rfl, hb1⟩
  have HB1 := Lib.hid hb1
  clear hb1 CM
  cases hm : M.mayR Rs with
  | false =>
    have HM := Lib.hid (show ¬ M.mayR Rs = true from by rw [hm]; simp)
    clear hm
    go_wp2_with fail
    go_ret2
    refine ⟨none, 0, ?_, ?_, HB1.out⟩
    · rw [if_neg HM.out, if_neg HM.out]; rfl
    · rw [if_neg HM.out]; exact World.ownsRow_nil _ _ _ _
  | true =>
    have HM := Lib.hid hm
    clear hm
    have hmk := fun V => make_ints11 V 122 Try.underlying122 Rs.length (by omega)
    go_wp2_with fail
    have HG := Lib.hid (rowIn_new (intsV (List.replicate Rs.length 0)) 3 w1)
    have HB2 := Lib.hid (HB1.out.alloc HB1.out.size (.cells (intsV (List.replicate Rs.length 0)) 3))
    have hgw : w.heap.size ≤ w1.heap.size := HB1.out.size
    obtain ⟨gA, hgA⟩ : ∃ x, x = w1.heap.size := ⟨_, rfl⟩
    rw [← hgA] at HG hgw ⊢
    generalize w1.alloc (.cells (intsV (List.replicate Rs.length 0)) 3) = W0 at *
    clear hmk HB1 hgA
    obtain ⟨T, hT⟩ : ∃ T, T = M.mrg (M.rls Rs) := ⟨_, rfl⟩
    have hTl : T.length ≤ 900000 := by rw [hT, M.mrg_len]; exact HR.out.tot
    have HT := Lib.hid hT
    clear hT
    go_loopw [5] (fun lv wr => ∃ (A : List M.Cl) (P : List Nat) (ro : Option Addr) (rc : Nat), lv = .slice ro A.length rc ∧ P.length = Rs.length ∧ Hid (T = A ++ M.mrg (M.lft (M.rls Rs) P)) ∧ Hid (wr.ownsRow w.heap.size 38 3 (.slice ro A.length rc) A.length (cls A)) ∧ Hid (RowIn (intsV P) 3 wr gA) ∧ Hid (Below w.heap.size w wr)) (fun lv _ => T.length - slLen lv)
    case atStart => exact ⟨[], List.replicate Rs.length 0, none, 0, rfl, by simp, Lib.hid (by rw [HT.out, show Rs.length = (M.rls Rs).length from by simp [M.rls], M.lft_zero]; rfl), Lib.hid (World.ownsRow_nil _ _ _ _), HG, HB2⟩
    case round =>
      clear HG HB2
      obtain ⟨A, P, ro, rc, rfl, hP, HE, HO, HG, HBO⟩ := hrel
      have hP' : P.length = (M.rls Rs).length := by simpa [M.rls] using hP
      have hR' : (M.lft (M.rls Rs) P).length = Rs.length := by rw [M.lft_len hP']; simp [M.rls]
      have HQ := Lib.hid (fun b c t (hb : (M.lft (M.rls Rs) P)[b]? = some (c :: t)) V (hV : RwsAt V ao Rs) => rows_at11 hV hP hb)
      have HSt := Lib.hid (show ∀ k, k < Rs.length → M.bestN (M.lft (M.rls Rs) P) (k + 1) = M.bstep k (M.bestN (M.lft (M.rls Rs) P) k) ((Rs.getD k M.rw0).l.drop (P.getD k 0)) from fun k hk => by
        rw [M.bestN, M.lft_get hP', show (M.rls Rs).getD k [] = (Rs.getD k M.rw0).l from by simp [M.rls, List.getD, hk]])
      generalize M.lft (M.rls Rs) P = R' at *
      have HSome := Lib.hid (fun i b c t (hi : i ≤ Rs.length) (hb : M.bestN R' i = some (b, c, t)) => M.bestN_some (hR' ▸ hi) hb)
      clear hP'
      go_wp2_with fail
      obtain ⟨wo, hwo⟩ : ∃ x, x = wr := ⟨_, rfl⟩
      rw [← hwo] at HO HG HBO
      have HWO := Lib.hid hwo
      clear hwo
      go_loopw [6, 7] (fun bv i wq => ∃ k : Nat, k ≤ Rs.length ∧ i = .int .i64 k ∧ bv = .int .i64 (M.bv (M.bestN R' k)) ∧ Hid (Below wo.heap.size wo wq)) (fun _ i _ => Rs.length - (intOf i).toNat)
      case atStart => exact ⟨0, Nat.zero_le _, rfl, rfl, Lib.hid (by rw [HWO.out]; exact Below.refl _ _)⟩
      case round =>
        obtain ⟨k, hk, rfl, rfl, HB⟩ := hrel
        by_cases hlt : k < Rs.length
        · have hki : (k : Int) < (Rs.length : Int) := by omega
          have HRW := Lib.hid (HA.out.below (HBO.out.trans (HB.out.mono HBO.out.size)))
          have HGR := Lib.hid (HG.out.below HB.out)
          have a0 : wr.cell? ⟨gA, k, none⟩ = some (.int .i64 (P.getD k 0 : Nat)) := (HGR.out.cell k).trans (intsV_get (by omega))
          obtain ⟨g, off, rfl, hc⟩ := HRW.out.off k hlt
          have HStk := Lib.hid (HSt.out k hlt)
          have HF := Lib.hid (HR.out.len _ (M.getD_memR hlt))
          generalize Rs.getD k M.rw0 = r at *
          generalize P.getD k 0 = p at *
          obtain ⟨l, o, kc⟩ := r
          obtain ⟨x0, hcl⟩ := hc
          simp only at x0 hcl
          have hl1 : l.length ≤ 100000 := HF.out
          by_cases hp : p < l.length
          · have hpi : (p : Int) < (l.length : Int) := by omega
            have hdr : l.drop p = l.getD p M.cl0 :: l.drop (p + 1) := by rw [List.drop_eq_getElem_cons hp]; simp [List.getD, hp]
            obtain ⟨gq, offq, rfl, y⟩ := hcl.off p hp
            have HD := Lib.hid hdr
            generalize l.getD p M.cl0 = d at *
            clear hdr hcl
            cases hb : M.bestN R' k with
            | none =>
              have HN1 := Lib.hid (show Value.int .i64 (k : Int) = Value.int .i64 (M.bv (M.bestN R' (k + 1))) from by rw [HStk.out, hb]; simp only; rw [HD.out]; rfl)
              clear hb y
              have g0 := fun d os => cell_regrown a0 d os
              have g1 := fun d os => cell_regrown x0 d os
              clear a0 x0
              have eb : M.bv none = -1 := rfl
              rw [eb]
              clear eb
              go_wp2_with fail
              refine wp_region_quiet_below (by kernel_rfl) (by kernel_rfl) ?_
              repeat (any_goals (first | go_big_quiet_step (fail) | quiet_step (fail)))
              refine wpQuiet_nil ?_
              intro _ hw1
              obtain ⟨⟨d1, d1o⟩, hw1⟩ := hw1
              subst hw1
              replace HB := carry (below_regrown wr d1 d1o) HB
              clear g0 g1
              go_wp2_with fail
              go_roundw
              case rel => exact ⟨k + 1, by omega, by go_num, HN1.out, HB⟩
              case measure => simp [intOf]; omega
            | some best =>
              obtain ⟨b, c, t⟩ := best
              obtain ⟨hbk, hbR⟩ := HSome.out k b c t hk hb
              obtain ⟨g', off', o', l', kc', gr, offr, eao, hbn, z0, eo, hpb, zc⟩ := HQ.out b c t hbR _ HRW.out
              injection eao with eao
              injection eao with e1 e2 e3
              subst e1; subst e2; subst eo
              replace zc := zc.1
              have b0 : wr.cell? ⟨gA, b, none⟩ = some (.int .i64 (P.getD b 0 : Nat)) := (HGR.out.cell b).trans (intsV_get (by omega))
              have hpb2 : l' ≤ 100000 ∨ True := .inr trivial
              generalize P.getD b 0 = pb at *
              have hpbi : (pb : Int) < (l' : Int) := by omega
              have hbn2 : (b : Int) < (Rs.length : Int) := by omega
              have hb0 : decide ((b : Int) < 0) = false := by simp
              have CA := Lib.hid (fun V => refAhead9_any d c V)
              have HB0 := Lib.hid hb
              obtain ⟨y0, y1, y2⟩ := y
              obtain ⟨u0, u1, u2⟩ := zc
              have g0 := fun d os => cell_regrown a0 d os
              have g1 := fun d os => cell_regrown x0 d os
              have g2 := fun d os => cell_regrown b0 d os
              have g3 := fun d os => cell_regrown z0 d os
              have g4 := fun d os => cell_regrown y0 d os
              have g5 := fun d os => cell_regrown y1 d os
              have g6 := fun d os => cell_regrown y2 d os
              have g7 := fun d os => cell_regrown u0 d os
              have g8 := fun d os => cell_regrown u1 d os
              have g9 := fun d os => cell_regrown u2 d os
              clear a0 x0 b0 z0 y0 y1 y2 u0 u1 u2 hb
              have eb : M.bv (some (b, c, t)) = (b : Int) := rfl
              rw [eb]
              clear eb
              cases ha : M.aheadC d c with
              | false =>
                have HN1 := Lib.hid (show Value.int .i64 (b : Int) = Value.int .i64 (M.bv (M.bestN R' (k + 1))) from by rw [HStk.out, HB0.out]; simp only; rw [HD.out]; simp [M.bstep, ha, M.bv])
                rw [ha] at CA
                clear ha
                go_wp2_with fail
                refine wp_region_quiet_below (by kernel_rfl) (by kernel_rfl) ?_
                repeat (any_goals (first | go_big_quiet_step ((first | (go_at_call 93; with_reducible exact Calls.regrown_of (CA.out _)))) | quiet_step ((first | (go_at_call 93; with_reducible exact Calls.regrown_of (CA.out _))))))
                refine wpQuiet_nil ?_
                intro _ hw1
                obtain ⟨⟨d1, d1o⟩, hw1⟩ := hw1
                subst hw1
                replace HB := carry (below_regrown wr d1 d1o) HB
                clear g0 g1 g2 g3 g4 g5 g6 g7 g8 g9
                go_wp2_with fail
                go_roundw
                case rel => exact ⟨k + 1, by omega, by go_num, HN1.out, HB⟩
                case measure => simp [intOf]; omega
              | true =>
                have HN1 := Lib.hid (show Value.int .i64 (k : Int) = Value.int .i64 (M.bv (M.bestN R' (k + 1))) from by rw [HStk.out, HB0.out]; simp only; rw [HD.out]; simp [M.bstep, ha, M.bv])
                rw [ha] at CA
                clear ha
                go_wp2_with fail
                refine wp_region_quiet_below (by kernel_rfl) (by kernel_rfl) ?_
                repeat (any_goals (first | go_big_quiet_step ((first | (go_at_call 93; with_reducible exact Calls.regrown_of (CA.out _)))) | quiet_step ((first | (go_at_call 93; with_reducible exact Calls.regrown_of (CA.out _))))))
                refine wpQuiet_nil ?_
                intro _ hw1
                obtain ⟨⟨d1, d1o⟩, hw1⟩ := hw1
                subst hw1
                replace HB := carry (below_regrown wr d1 d1o) HB
                clear g0 g1 g2 g3 g4 g5 g6 g7 g8 g9
                go_wp2_with fail
                go_roundw
                case rel => exact ⟨k + 1, by omega, by go_num, HN1.out, HB⟩
                case measure => simp [intOf]; omega
          · have hpi : decide ((p : Int) < (l.length : Int)) = false := by simp; omega
            have HN1 := Lib.hid (show Value.int .i64 (M.bv (M.bestN R' k)) = Value.int .i64 (M.bv (M.bestN R' (k + 1))) from by rw [HStk.out]; simp only; rw [List.drop_eq_nil_of_le (by omega)]; rfl)
            generalize M.bv (M.bestN R' k) = bb at *
            have g0 := fun d os => cell_regrown a0 d os
            have g1 := fun d os => cell_regrown x0 d os
            clear a0 x0 hcl
            go_wp2_with fail
            refine wp_region_quiet_below (by kernel_rfl) (by kernel_rfl) ?_
            repeat (any_goals (first | go_big_quiet_step (fail) | quiet_step (fail)))
            refine wpQuiet_nil ?_
            intro _ hw1
            obtain ⟨⟨d1, d1o⟩, hw1⟩ := hw1
            subst hw1
            replace HB := carry (below_regrown wr d1 d1o) HB
            clear g0 g1
            go_wp2_with fail
            go_roundw
            case rel => exact ⟨k + 1, by omega, by go_num, HN1.out, HB⟩
            case measure => simp [intOf]; omega
        · obtain rfl : k = Rs.length := by omega
          have HBT := M.mrg_best (R := R')
          rw [hR'] at HBT
          have HW := Lib.hid (HBO.out.trans (HB.out.mono HBO.out.size))
          replace HO := Lib.hid (own_below11 HO.out HB.out)
          cases hb : M.bestN R' Rs.length with
          | none =>
            have HEq := Lib.hid (show T = A from by rw [HE.out, HBT.1 hb, List.append_nil])
            have eb : M.bv none = -1 := rfl
            rw [eb]
            clear eb hb HBT
            go_wp2_with fail
            go_ret2
            refine ⟨ro, rc, ?_, ?_, HW.out⟩
            · rw [if_pos HM.out, if_pos HM.out, ← HT.out, HEq.out]; rfl
            · rw [if_pos HM.out, ← HT.out, HEq.out]; exact HO.out
          | some best =>
            obtain ⟨b, c, t⟩ := best
            obtain ⟨hbk, hbR⟩ := HSome.out _ b c t (Nat.le_refl _) hb
            have HGR := Lib.hid (HG.out.below HB.out)
            obtain ⟨g', off', o', l', kc', gr, offr, rfl, hbn, r0w, eo, hpb, zc, hset, hlb⟩ := HQ.out b c t hbR _ HA.out
            have hl2 : l' ≤ 100000 := by rw [hlb]; exact HR.out.len _ (M.getD_memR hbn)
            clear hlb
            subst eo
            have hE2 := (HBT.2 b c t hb).1
            have HE2 := Lib.hid (show T = (A ++ [c]) ++ M.mrg (M.lft (M.rls Rs) (P.set b (P.getD b 0 + 1))) from by rw [hset, HE.out, hE2]; simp)
            have HPS := Lib.hid (intsV_set P b (P.getD b 0 + 1))
            have hps : (P.set b (P.getD b 0 + 1)).length = Rs.length := by simpa using hP
            have b0 : wr.cell? ⟨gA, b, none⟩ = some (.int .i64 (P.getD b 0 : Nat)) := (HGR.out.cell b).trans (intsV_get (by omega))
            have hAT : A.length + 1 ≤ T.length := by rw [HE2.out]; simp
            have HBG := Lib.hid (show (intsV P)[b]? = some (.int .i64 (P.getD b 0 : Nat)) from intsV_get (by omega))
            generalize P.set b (P.getD b 0 + 1) = P2 at *
            generalize P.getD b 0 = pb at *
            have hpbi : (pb : Int) < (l' : Int) := by omega
            have hbn2 : (b : Int) < (Rs.length : Int) := by omega
            have hb0 : decide ((b : Int) < 0) = false := by simp
            have R0 := Lib.hid r0w
            have RC := Lib.hid zc
            have HS5 := Lib.hid (show ∀ V, Below w.heap.size w V → V.cell? ⟨g', off' + b, none⟩ = some (.slice (some ⟨gr, offr, none⟩) l' kc') ∧ ClOff c V gr (offr + pb * 3) from fun V hV => ⟨(hV.cell (block_lt_of_cell R0.out)).trans R0.out, RC.out.below hV⟩)
            obtain ⟨r0, u0, u1, u2⟩ := HS5.out wr HW.out
            clear r0w zc
            have eb : M.bv (some (b, c, t)) = (b : Int) := rfl
            rw [eb]
            clear eb hb HBT hset hE2 hbR HSome HSt HQ
            have HXX := Lib.hid (rowIn_new (clA c) 38 wr)
            have HO2 := carryA (w := wr) (.cells (clA c) 38) HO
            have HB2 := carryA (w := wr) (.cells (clA c) 38) HW
            have HG2 := carryA (w := wr) (.cells (clA c) 38) HGR
            have HNE := Lib.hid (fun q hq => row_apart HG2.out HO2.out (by decide) q hq)
            go_wp2_with fail
            go_region_held3 (fun W => W.cell? ⟨g', off' + b, none⟩ = some (.slice (some ⟨gr, offr, none⟩) l' kc') ∧ W.cell? ⟨gA, b, none⟩ = some (.int .i64 (pb : Nat)) ∧ W.cell? ⟨gr, offr + pb * 3, none⟩ = some (.string (S c.key)) ∧ W.cell? ⟨gr, offr + pb * 3 + 1, none⟩ = some (.int .i64 c.seq) ∧ W.cell? ⟨gr, offr + pb * 3 + 2, none⟩ = some (.string (S c.val))) (go_keep) (first
              | (refine step_append_cls11 (by rfl) _ _ 22 (by rfl) w.heap.size i0 z0 Try.underlying22 hi0 hz0 hz1 hz2 hz3 (.slice ro A.length rc) A.length (cls A) (by rfl) HO2.out (some ⟨wr.heap.size, 0, none⟩) 1 [c] (by rfl) (clsAt_row HXX.out rfl) (by have e1 : [c].length = 1 := rfl; omega) HB2.out.size ?_; intro v' w5 ho5 hg5; obtain ⟨ao5, cap5, rfl⟩ := ownP_shape ho5; have HG5 := Lib.hid (show RowIn (intsV P) 3 w5 gA from row_kept10 (show RowIn (intsV P) 3 (wr.alloc (.cells (clA c) 38)).drew gA from HG2.out) hg5 (fun e => HNE.out gA e rfl)); have HB5 := Lib.hid (show Below w.heap.size w w5 from HB2.out.drew.grown hg5 HB2.out.size (fun q hq => (HO2.out.lt q hq).1)); have a5 : w5.cell? ⟨gA, b, none⟩ = some (.int .i64 (pb : Nat)) := (HG5.out.cell b).trans HBG.out; have f5 := HG5.out.free b; have HO5 := Lib.hid ho5; obtain ⟨s0, t0, t1, t2⟩ := HS5.out w5 HB5.out; clear ho5 hg5))
            all_goals
              go_wp2_with fail
              have HO6 := Lib.hid (ownsRow_setCell_other (a := ⟨gA, b, none⟩) HO5.out (fun e => row_apart HG5.out HO5.out (by decide) gA e rfl) (.int .i64 ((pb : Int) + 1)))
              have HG6 := Lib.hid (show RowIn (intsV P2) 3 (w5.setCell ⟨gA, b, none⟩ (.int .i64 ((pb : Int) + 1))) gA from by rw [← HPS.out]; exact HG5.out.set b _)
              have HB6 := Lib.hid (HB5.out.setCell (p := ⟨gA, b, none⟩) hgw (.int .i64 ((pb : Int) + 1)))
              have HLN := Lib.hid (show (A ++ [c]).length = A.length + 1 from by simp)
              have HO7 := Lib.hid (show (w5.setCell ⟨gA, b, none⟩ (.int .i64 ((pb : Int) + 1))).ownsRow w.heap.size 38 3 (.slice ao5 (A ++ [c]).length cap5) (A ++ [c]).length (cls (A ++ [c])) from by rw [HLN.out, cls_append]; exact HO6.out)
              clear HO6 a5 f5 s0 t0 t1 t2 r0 u0 u1 u2
              go_roundw
              case rel => exact ⟨A ++ [c], P2, ao5, cap5, by rw [HLN.out], hps, HE2, HO7, HG6, HB6⟩
              case measure => simp only [slLen]; omega

end Go.Proofs.Ythidmgnfdikppaa
