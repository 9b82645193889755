/- Layer 19: TabletsMerge. -/
import Derived.Test.YtnhljlmelbiljaaGreatTbltX
import Derived.Test.YtnhljlmelbiljaaGreatZR
import Derived.Deep.CutRange
import Derived.BigQuiet
import Derived.Test.YtnhljlmelbiljaaGreatTbltDm
import Derived.Test.YtnhljlmelbiljaaGreatTbltT
namespace Go.Proofs.YtnhljlmelbiljaaGreat
set_option linter.unusedVariables false
set_option linter.unusedSimpArgs false
open Go Go.RowKit
attribute [local go_sem ↓] run_index_S
attribute [local go_sem] S_append S_extract

theorem rws_tail19 {w : World} {gr og : Nat} {r0 : M.Rw} {Rt : List M.Rw} (h : RwsAt w (some ⟨gr, og, none⟩) (r0 :: Rt)) : RwsAt w (some ⟨gr, og + 1, none⟩) Rt := fun hn => by
  obtain ⟨g, off, e, hc⟩ := h (by simp)
  injection e with e
  injection e with e1 e2
  subst e1 e2
  refine ⟨gr, og + 1, rfl, fun j hj => ?_⟩
  have := hc (j + 1) (by simp; omega)
  rw [show og + 1 + j = og + (j + 1) from by omega]
  simpa [List.getD] using this
theorem rrange19_all (f t : List UInt8) (ro : Option Addr) (cap n : Nat) (Rs : List M.Rw) (w : World) (h : RwsAt w ro Rs) (hst : StR Rs) (hn : Rs.length ≤ 100) (hnl : ∀ r, r ∈ Rs → r.l.length ≤ 500) (he : Rs.length = n) :
    Calls Tryz.prog 18 #[.agg #[.string (S f), .string (S t), .slice ro n cap], .string ⟨#[]⟩, .string ⟨#[]⟩] w fun e w' => RangeR10 (M.refRange f t (M.rls Rs) [] []) w e w' := by
  subst he
  exact refRange19_any f t ro cap Rs [] [] w h hst hn hnl
set_option maxHeartbeats 8000000 in
set_option maxRecDepth 100000 in
theorem tabletsMerge_odd (W : World) (v0 : Value) (h0 : UDa W v0)  : Calls Tryz.prog 4 #[v0, .bool true] W fun e w' => e = .returned (.bool true) ∧ Below W.heap.size W w' := by
  obtain ⟨⟨f, t, L, Lo, Lk, R, Ro, Rk⟩, rfl, hin, hat⟩ := h0
  have hB0 : Below W.heap.size W (W.alloc (.cells #[.string (S f), .string (S t), .slice Lo L.length Lk, .slice Ro R.length Rk] 25)) := (Below.refl W.heap.size W).alloc (by simp) _
  have HB := Lib.hid hB0
  have HR0 := Lib.hid (show RowIn #[.string (S f), .string (S t), .slice Lo L.length Lk, .slice Ro R.length Rk] 25 (W.alloc (.cells #[.string (S f), .string (S t), .slice Lo L.length Lk, .slice Ro R.length Rk] 25)) W.heap.size from rowIn_new _ _ W)
  have HIN := Lib.hid hin
  have HAT := Lib.hid hat
  have CLV := Lib.hid lives19_any
  have CBy := Lib.hid (beyond19_use f t L Lo Lk R Ro Rk (W.alloc (.cells #[.string (S f), .string (S t), .slice Lo L.length Lk, .slice Ro R.length Rk] 25)) hin (hat.below hB0))
  clear hB0 hin hat
  unfold daV at *
  go_enter Tryz.func4, Tryz.ntmps4
  go_wp2_with fail
  generalize (W.alloc (.cells #[.string (S f), .string (S t), .slice Lo L.length Lk, .slice Ro R.length Rk] 25)) = W0 at *
  with_reducible refine (CBy.out).mono ?_
  rintro e w1 ⟨rfl | ⟨rfl, hsm⟩, hbq⟩
  · replace HB := Lib.hid (below_step HB.out hbq)
    go_wp2_with fail
    with_reducible refine (CLV.out _).mono ?_
    rintro e wl ⟨rfl, hbl⟩
    have HBl := Lib.hid (below_step HB.out hbl)
    go_wp2_with fail
    go_ret
    exact ⟨rfl, HBl.out⟩
  replace HB := Lib.hid (below_step HB.out hbq)
  replace HR0 := Lib.hid (HR0.out.below hbq)
  clear hbq CBy
  have hf := hsm.f
  have ht := hsm.t
  simp only at hf ht
  have r0 := HR0.out.cell 0
  have r1 := HR0.out.cell 1
  have r2 := HR0.out.cell 2
  have r3 := HR0.out.cell 3
  simp at r0 r1 r2 r3
  have CM := Lib.hid (made19_cap f t L Lo Lk R Ro Rk w1 HIN.out (HAT.out.below HB.out) hsm)
  go_wp2_with fail
  with_reducible refine (CM.out).mono ?_
  rintro e w2 ⟨b, ta, tc, Ts, ro, rc, Rs, rfl, hmk, hmq, hbq, hcap⟩
  replace HB := Lib.hid (below_step HB.out hbq)
  have HMK := Lib.hid hmk
  have HMQ := Lib.hid hmq
  clear hmk hmq hbq CM r0 r1 r2 r3 hsm HR0 HAT HIN
  generalize M.putsL [] L = K0 at *
  obtain ⟨r0, Rt, hRs, hRt⟩ : ∃ (r : M.Rw) (Rt : List M.Rw), Rs = r :: Rt ∧ M.rls Rt = M.tls Ts := by
    have h1 := HMQ.out.same
    cases Rs with
    | nil => simp [M.rls] at h1
    | cons r Rt => exact ⟨r, Rt, rfl, by simpa [M.rls] using (List.cons.inj h1).2⟩
  have HRS := Lib.hid hRs
  have HRT := Lib.hid hRt
  have hpos : 1 ≤ Rs.length := by rw [hRs]; simp
  obtain ⟨gr, og, hro, -⟩ := HMK.out.rr (by rw [hRs]; simp)
  clear hRs hRt
  subst hro
  have HRN := Lib.hid (show Rt.length = Rs.length - 1 from by rw [HRS.out]; simp)
  have hp1 : (1 : Int) ≤ (Rs.length : Int) := by omega
  have hp2 : (Rs.length : Int) ≤ (rc : Int) := by omega
  by_cases hrc : rc = 1
  · subst hrc
    have HRW := Lib.hid (show RwsAt w2 (some ⟨gr, og, none⟩) Rt from fun hn => absurd (List.eq_nil_of_length_eq_zero (by have := HRN.out; omega)) hn)
    go_upto_region 7 with fail
    have HBW := Lib.hid (((Below.refl w2.heap.size w2).alloc (Nat.le_refl _) (.cells #[.string (S f), .string (S t), .pointer (some ⟨b, 0, none⟩), .slice ta Ts.length tc] 32)).alloc (by rw [szA]; omega) (.cells #[.string (S f), .string (S t), .slice (some ⟨gr, og, none⟩) 0 0] 34))
    have HL := Lib.hid (show Tw19 W f t K0 w2.heap.size b ta tc Ts (some ⟨gr, og, none⟩) Rs ((w2.alloc (.cells #[.string (S f), .string (S t), .pointer (some ⟨b, 0, none⟩), .slice ta Ts.length tc] 32)).alloc (.cells #[.string (S f), .string (S t), .slice (some ⟨gr, og, none⟩) 0 0] 34)) from
      ⟨HMK.out.below HBW.out, (rowIn_new _ _ w2).more _, below_step HB.out HBW.out⟩)
    have HRb := Lib.hid (show RowIn #[.string (S f), .string (S t), .slice (some ⟨gr, og, none⟩) 0 0] 34 ((w2.alloc (.cells #[.string (S f), .string (S t), .pointer (some ⟨b, 0, none⟩), .slice ta Ts.length tc] 32)).alloc (.cells #[.string (S f), .string (S t), .slice (some ⟨gr, og, none⟩) 0 0] 34)) (w2.heap.size + 1) from rowIn_at _ _ _ _ (by rw [szA]))
    replace HRW := Lib.hid (HRW.out.below HBW.out)
    clear HBW
    generalize ((w2.alloc (.cells #[.string (S f), .string (S t), .pointer (some ⟨b, 0, none⟩), .slice ta Ts.length tc] 32)).alloc (.cells #[.string (S f), .string (S t), .slice (some ⟨gr, og, none⟩) 0 0] 34)) = W2 at *
    obtain ⟨b5, hb5⟩ : ∃ x, x = w2.heap.size := ⟨_, rfl⟩
    replace HL := Lib.hid (show Tw19 W f t K0 b5 b ta tc Ts (some ⟨gr, og, none⟩) Rs W2 from by rw [hb5]; exact HL.out)
    rw [← hb5] at HRb ⊢
    clear hb5 HMK HB
    have hA := HMQ.out.mlen f t [] []
    have CR := Lib.hid (rrange19_all f t (some ⟨gr, og, none⟩) 0 0 Rt W2 HRW.out (fun r hr => HMQ.out.st r (by rw [HRS.out]; exact List.mem_cons_of_mem _ hr)) (by have := HMQ.out.rn; have := HRN.out; omega) (fun r hr => by have := HMQ.out.lr r (by rw [HRS.out]; exact List.mem_cons_of_mem _ hr); omega) (by have := HRN.out; omega))
    unfold RangeR10 at CR
    rw [HRT.out, M.refRange_eq f t HMQ.out.pwt] at CR
    have CM := Lib.hid (fun V (h : TtAt V (.pointer (some ⟨b, 0, none⟩)) ta K0 Ts) => tmrg19 (f := f) (t := t) (tc := tc) h (by omega) (by omega))
    have CD := Lib.hid (fun V (h : TtAt V (.pointer (some ⟨b, 0, none⟩)) ta K0 Ts) => (show Calls Tryz.prog 19 #[.agg #[.string (S f), .string (S t), .pointer (some ⟨b, 0, none⟩), .slice ta Ts.length tc], (.func (.func 21) #[] #[])] V fun e w' => ∃ a c, e = .returned (.tuple #[.slice a ((M.rangeT f t (M.tls Ts) [] []).filter (fun c => !M.odd c)).length c, .int .i64 0]) ∧ ClsAt w' a ((M.rangeT f t (M.tls Ts) [] []).filter (fun c => !M.odd c)) ∧ Below V.heap.size V w' from merge19_odd f t _ ta tc K0 Ts V h (by omega) (by omega) (by omega)))
    unfold NewR19 at CM
    clear HMQ HRS HRT HRN HRW hp1 hp2 hpos hcap
    generalize M.rangeT f t (M.tls Ts) [] [] = A0 at *
    have r0' := HRb.out.cell 0
    have r1 := HRb.out.cell 1
    have r2 := HRb.out.cell 2
    simp at r0' r1 r2
    go_wp2_with fail
    with_reducible refine (CR.out).mono ?_
    rintro e v2 ⟨aA, cA, rfl, ho, hbq⟩
    replace HL := Lib.hid (HL.out.below hbq)
    have HCA := Lib.hid (clsAt_own ho rfl)
    clear hbq ho CR r0' r1 r2 HRb
    obtain ⟨i0, z0, hi0, hz0, hz1, hz2, hz3⟩ := infoCl_parts
    go_wp2_with fail
    go_loopw [9, 10] (fun v14 v15 wr => ∃ (k : Nat) (A : List M.Cl) (ro' : Option Addr) (rc' : Nat), k ≤ A0.length ∧ A.length ≤ k ∧ v15 = .int .i64 k ∧ v14 = .slice ro' A.length rc' ∧ Hid (A = (A0.take k).filter (fun c => !M.odd c)) ∧ Hid (wr.ownsRow v2.heap.size 38 3 (.slice ro' A.length rc') A.length (cls A)) ∧ Hid (Below v2.heap.size v2 wr)) (fun _ v _ => A0.length - (intOf v).toNat)
    case atStart => exact ⟨0, [], none, 0, Nat.zero_le _, Nat.le_refl _, rfl, rfl, Lib.hid rfl, Lib.hid (World.ownsRow_nil _ _ _ _), Lib.hid (Below.refl _ _)⟩
    case round =>
      obtain ⟨k, A, ro', rc', hk, hA2, rfl, rfl, HA, HO, HBr⟩ := hrel
      by_cases hlt : k < A0.length
      · have hd : decide ((k : Int) < (A0.length : Int)) = true := by simp; omega
        have hki : (k : Int) < (A0.length : Int) := by omega
        obtain ⟨g, off, rfl, hc⟩ := (HCA.out.below HBr.out).off k hlt
        obtain ⟨x0, x1, x2⟩ := hc
        have HTK := Lib.hid (takeC_snoc hlt)
        have HOD : Hid (M.odd (A0.getD k M.cl0) = !((A0.getD k M.cl0).seq.tmod 2 == 0)) := Lib.hid rfl
        generalize A0.getD k M.cl0 = c at *
        have HAPP := Lib.hid (fun (h : (fun c => !M.odd c) c = true) => (show A ++ [c] = (A0.take (k + 1)).filter (fun c => !M.odd c) from by rw [HTK.out, List.filter_append, ← HA.out]; have h2 := h; simp at h2; simp [h2]))
        have HSKP := Lib.hid (fun (h : (fun c => !M.odd c) c = false) => (show A = (A0.take (k + 1)).filter (fun c => !M.odd c) from by rw [HTK.out, List.filter_append, ← HA.out]; have h2 := h; simp at h2; simp [h2]))
        have e5 : (A ++ [c]).length = A.length + 1 := by simp
        have HE5 := Lib.hid e5
        clear e5
        by_cases hq : c.seq.tmod 2 = 0
        · have hqb : (c.seq.tmod 2 == 0) = true := by rw [hq]; rfl
          have HR := Lib.hid (HAPP.out (by show (!M.odd c) = true; rw [HOD.out, hqb]; rfl))
          have hqn : (c.seq.tmod 2 != 0) = false := by unfold bne; rw [hqb]; rfl
          clear hqb hq
          have HXX := Lib.hid (rowIn_new (clA c) 38 wr)
          have HO2 := carryA (w := wr) (.cells (clA c) 38) HO
          have HB2 := carryA (w := wr) (.cells (clA c) 38) HBr
          go_wp2_with (at_builtin; refine wpList_append_cls_at rfl _ _ 22 rfl v2.heap.size i0 z0 Tryz.underlying22 hi0 hz0 hz1 hz2 hz3 (.slice ro' A.length rc') A.length (cls A) rfl HO2.out (some ⟨wr.heap.size, 0, none⟩) 1 [c] rfl ?c1 ?c2 ?c3 ?_)
          case c1 => exact clsAt_row HXX.out rfl
          case c2 => have e1 : [c].length = 1 := rfl; omega
          case c3 => (first | exact HB2.out.size | (have h9 := HB2.out.size; rw [szA] at h9; exact h9))
          intro v' w5 ho5 hg5 hat5
          obtain ⟨ao5, cap5, rfl⟩ := ownP_shape ho5
          have HB5 := Lib.hid (HB2.out.grown hg5 HB2.out.size (fun q hq => (HO2.out.lt q hq).1))
          have HO5 := Lib.hid (show w5.ownsRow v2.heap.size 38 3 (.slice ao5 (A ++ [c]).length cap5) (A ++ [c]).length (cls (A ++ [c])) from by rw [HE5.out, cls_append]; exact ho5)
          clear ho5 hg5 hat5 x0 x1 x2
          go_wp2_with fail
          go_roundw
          case rel => exact ⟨k + 1, A ++ [c], ao5, cap5, by omega, by rw [HE5.out]; omega, by go_num, by rw [HE5.out], HR, HO5, HB5⟩
          case measure => simp [intOf]; omega
        · have hqb : (c.seq.tmod 2 == 0) = false := by simpa using hq
          have HR := Lib.hid (HSKP.out (by show (!M.odd c) = false; rw [HOD.out, hqb]; rfl))
          have hqn : (c.seq.tmod 2 != 0) = true := by unfold bne; rw [hqb]; rfl
          clear hqb hq
          go_wp2_with fail
          go_roundw
          case rel => exact ⟨k + 1, A, ro', rc', by omega, by omega, by go_num, rfl, HR, HO, HBr⟩
          case measure => simp [intOf]; omega
      · obtain rfl : k = A0.length := by omega
        have hd : decide ((A0.length : Int) < (A0.length : Int)) = false := by simp
        have HR := Lib.hid (show A = A0.filter (fun c => !M.odd c) from by have := HA.out; rwa [List.take_length] at this)
        replace HL := Lib.hid (HL.out.below HBr.out)
        replace HCA := Lib.hid (HCA.out.below HBr.out)
        have HCW := Lib.hid (clsAt_own HO.out rfl)
        clear HA HO HBr
        have hAl : A.length ≤ 200 := by rw [HR.out]; exact Nat.le_trans (List.length_filter_le _ _) hA
        rw [← HR.out] at CD
        obtain ⟨s0, s1, s2, s3⟩ := HL.out.s
        go_wp2_with fail
        with_reducible refine (CM.out _ HL.out.kit.tt).mono ?_
        rintro e v3 ⟨aM, cM, rfl, ho, hbq⟩
        replace HL := Lib.hid (HL.out.below hbq)
        replace HCA := Lib.hid (HCA.out.below hbq)
        replace HCW := Lib.hid (HCW.out.below hbq)
        have HCM := Lib.hid (clsAt_own ho rfl)
        clear hbq ho CM s0 s1 s2 s3
        obtain ⟨s0, s1, s2, s3⟩ := HL.out.s
        go_wp2_with fail
        with_reducible refine (CD.out _ HL.out.kit.tt).mono ?_
        rintro e v4 ⟨aD, cD, rfl, hcD, hbq⟩
        replace HL := Lib.hid (HL.out.below hbq)
        replace HCA := Lib.hid (HCA.out.below hbq)
        replace HCW := Lib.hid (HCW.out.below hbq)
        replace HCM := Lib.hid (HCM.out.below hbq)
        have HCD := Lib.hid hcD
        clear hbq hcD CD s0 s1 s2 s3
        have CS := Lib.hid (same19_yes A0 aM aA A0.length cM cA rfl (by omega) HCM.out HCA.out)
        go_wp2_with fail
        with_reducible refine (CS.out).mono ?_
        rintro e v5 ⟨rfl, hbq⟩
        replace HL := Lib.hid (HL.out.below hbq)
        replace HCW := Lib.hid (HCW.out.below hbq)
        replace HCD := Lib.hid (HCD.out.below hbq)
        clear hbq CS HCA HCM
        have CS := Lib.hid (same19_yes A aD ro' A.length cD rc' rfl (by omega) HCD.out HCW.out)
        go_wp2_with fail
        with_reducible refine (CS.out).mono ?_
        rintro e v6 ⟨rfl, hbq⟩
        replace HL := Lib.hid (HL.out.below hbq)
        clear hbq CS HCW HCD
        go_wp2_with fail
        with_reducible refine (CLV.out _).mono ?_
        rintro e vl ⟨rfl, hbq⟩
        have HBe := Lib.hid (below_step HL.out.bel hbq)
        go_wp2_with fail
        go_ret
        exact ⟨rfl, HBe.out⟩
  · have HRW := Lib.hid (show RwsAt w2 (some ⟨gr, og + 1, none⟩) Rt from by have := HMK.out.rr; rw [HRS.out] at this; exact rws_tail19 this)
    have hrc2 : 1 < rc := by omega
    go_upto_region 7 with fail
    have HBW := Lib.hid (((Below.refl w2.heap.size w2).alloc (Nat.le_refl _) (.cells #[.string (S f), .string (S t), .pointer (some ⟨b, 0, none⟩), .slice ta Ts.length tc] 32)).alloc (by rw [szA]; omega) (.cells #[.string (S f), .string (S t), .slice (some ⟨gr, og + 1, none⟩) (Rs.length - 1) (rc - 1)] 34))
    have HL := Lib.hid (show Tw19 W f t K0 w2.heap.size b ta tc Ts (some ⟨gr, og, none⟩) Rs ((w2.alloc (.cells #[.string (S f), .string (S t), .pointer (some ⟨b, 0, none⟩), .slice ta Ts.length tc] 32)).alloc (.cells #[.string (S f), .string (S t), .slice (some ⟨gr, og + 1, none⟩) (Rs.length - 1) (rc - 1)] 34)) from
      ⟨HMK.out.below HBW.out, (rowIn_new _ _ w2).more _, below_step HB.out HBW.out⟩)
    have HRb := Lib.hid (show RowIn #[.string (S f), .string (S t), .slice (some ⟨gr, og + 1, none⟩) (Rs.length - 1) (rc - 1)] 34 ((w2.alloc (.cells #[.string (S f), .string (S t), .pointer (some ⟨b, 0, none⟩), .slice ta Ts.length tc] 32)).alloc (.cells #[.string (S f), .string (S t), .slice (some ⟨gr, og + 1, none⟩) (Rs.length - 1) (rc - 1)] 34)) (w2.heap.size + 1) from rowIn_at _ _ _ _ (by rw [szA]))
    replace HRW := Lib.hid (HRW.out.below HBW.out)
    clear HBW
    generalize ((w2.alloc (.cells #[.string (S f), .string (S t), .pointer (some ⟨b, 0, none⟩), .slice ta Ts.length tc] 32)).alloc (.cells #[.string (S f), .string (S t), .slice (some ⟨gr, og + 1, none⟩) (Rs.length - 1) (rc - 1)] 34)) = W2 at *
    obtain ⟨b5, hb5⟩ : ∃ x, x = w2.heap.size := ⟨_, rfl⟩
    replace HL := Lib.hid (show Tw19 W f t K0 b5 b ta tc Ts (some ⟨gr, og, none⟩) Rs W2 from by rw [hb5]; exact HL.out)
    rw [← hb5] at HRb ⊢
    clear hb5 HMK HB
    have hA := HMQ.out.mlen f t [] []
    have CR := Lib.hid (rrange19_all f t (some ⟨gr, og + 1, none⟩) (rc - 1) (Rs.length - 1) Rt W2 HRW.out (fun r hr => HMQ.out.st r (by rw [HRS.out]; exact List.mem_cons_of_mem _ hr)) (by have := HMQ.out.rn; have := HRN.out; omega) (fun r hr => by have := HMQ.out.lr r (by rw [HRS.out]; exact List.mem_cons_of_mem _ hr); omega) (by have := HRN.out; omega))
    unfold RangeR10 at CR
    rw [HRT.out, M.refRange_eq f t HMQ.out.pwt] at CR
    have CM := Lib.hid (fun V (h : TtAt V (.pointer (some ⟨b, 0, none⟩)) ta K0 Ts) => tmrg19 (f := f) (t := t) (tc := tc) h (by omega) (by omega))
    have CD := Lib.hid (fun V (h : TtAt V (.pointer (some ⟨b, 0, none⟩)) ta K0 Ts) => (show Calls Tryz.prog 19 #[.agg #[.string (S f), .string (S t), .pointer (some ⟨b, 0, none⟩), .slice ta Ts.length tc], (.func (.func 21) #[] #[])] V fun e w' => ∃ a c, e = .returned (.tuple #[.slice a ((M.rangeT f t (M.tls Ts) [] []).filter (fun c => !M.odd c)).length c, .int .i64 0]) ∧ ClsAt w' a ((M.rangeT f t (M.tls Ts) [] []).filter (fun c => !M.odd c)) ∧ Below V.heap.size V w' from merge19_odd f t _ ta tc K0 Ts V h (by omega) (by omega) (by omega)))
    unfold NewR19 at CM
    clear HMQ HRS HRT HRN HRW hp1 hp2 hpos hcap
    generalize M.rangeT f t (M.tls Ts) [] [] = A0 at *
    have r0' := HRb.out.cell 0
    have r1 := HRb.out.cell 1
    have r2 := HRb.out.cell 2
    simp at r0' r1 r2
    go_wp2_with fail
    with_reducible refine (CR.out).mono ?_
    rintro e v2 ⟨aA, cA, rfl, ho, hbq⟩
    replace HL := Lib.hid (HL.out.below hbq)
    have HCA := Lib.hid (clsAt_own ho rfl)
    clear hbq ho CR r0' r1 r2 HRb
    obtain ⟨i0, z0, hi0, hz0, hz1, hz2, hz3⟩ := infoCl_parts
    go_wp2_with fail
    go_loopw [9, 10] (fun v14 v15 wr => ∃ (k : Nat) (A : List M.Cl) (ro' : Option Addr) (rc' : Nat), k ≤ A0.length ∧ A.length ≤ k ∧ v15 = .int .i64 k ∧ v14 = .slice ro' A.length rc' ∧ Hid (A = (A0.take k).filter (fun c => !M.odd c)) ∧ Hid (wr.ownsRow v2.heap.size 38 3 (.slice ro' A.length rc') A.length (cls A)) ∧ Hid (Below v2.heap.size v2 wr)) (fun _ v _ => A0.length - (intOf v).toNat)
    case atStart => exact ⟨0, [], none, 0, Nat.zero_le _, Nat.le_refl _, rfl, rfl, Lib.hid rfl, Lib.hid (World.ownsRow_nil _ _ _ _), Lib.hid (Below.refl _ _)⟩
    case round =>
      obtain ⟨k, A, ro', rc', hk, hA2, rfl, rfl, HA, HO, HBr⟩ := hrel
      by_cases hlt : k < A0.length
      · have hd : decide ((k : Int) < (A0.length : Int)) = true := by simp; omega
        have hki : (k : Int) < (A0.length : Int) := by omega
        obtain ⟨g, off, rfl, hc⟩ := (HCA.out.below HBr.out).off k hlt
        obtain ⟨x0, x1, x2⟩ := hc
        have HTK := Lib.hid (takeC_snoc hlt)
        have HOD : Hid (M.odd (A0.getD k M.cl0) = !((A0.getD k M.cl0).seq.tmod 2 == 0)) := Lib.hid rfl
        generalize A0.getD k M.cl0 = c at *
        have HAPP := Lib.hid (fun (h : (fun c => !M.odd c) c = true) => (show A ++ [c] = (A0.take (k + 1)).filter (fun c => !M.odd c) from by rw [HTK.out, List.filter_append, ← HA.out]; have h2 := h; simp at h2; simp [h2]))
        have HSKP := Lib.hid (fun (h : (fun c => !M.odd c) c = false) => (show A = (A0.take (k + 1)).filter (fun c => !M.odd c) from by rw [HTK.out, List.filter_append, ← HA.out]; have h2 := h; simp at h2; simp [h2]))
        have e5 : (A ++ [c]).length = A.length + 1 := by simp
        have HE5 := Lib.hid e5
        clear e5
        by_cases hq : c.seq.tmod 2 = 0
        · have hqb : (c.seq.tmod 2 == 0) = true := by rw [hq]; rfl
          have HR := Lib.hid (HAPP.out (by show (!M.odd c) = true; rw [HOD.out, hqb]; rfl))
          have hqn : (c.seq.tmod 2 != 0) = false := by unfold bne; rw [hqb]; rfl
          clear hqb hq
          have HXX := Lib.hid (rowIn_new (clA c) 38 wr)
          have HO2 := carryA (w := wr) (.cells (clA c) 38) HO
          have HB2 := carryA (w := wr) (.cells (clA c) 38) HBr
          go_wp2_with (at_builtin; refine wpList_append_cls_at rfl _ _ 22 rfl v2.heap.size i0 z0 Tryz.underlying22 hi0 hz0 hz1 hz2 hz3 (.slice ro' A.length rc') A.length (cls A) rfl HO2.out (some ⟨wr.heap.size, 0, none⟩) 1 [c] rfl ?c1 ?c2 ?c3 ?_)
          case c1 => exact clsAt_row HXX.out rfl
          case c2 => have e1 : [c].length = 1 := rfl; omega
          case c3 => (first | exact HB2.out.size | (have h9 := HB2.out.size; rw [szA] at h9; exact h9))
          intro v' w5 ho5 hg5 hat5
          obtain ⟨ao5, cap5, rfl⟩ := ownP_shape ho5
          have HB5 := Lib.hid (HB2.out.grown hg5 HB2.out.size (fun q hq => (HO2.out.lt q hq).1))
          have HO5 := Lib.hid (show w5.ownsRow v2.heap.size 38 3 (.slice ao5 (A ++ [c]).length cap5) (A ++ [c]).length (cls (A ++ [c])) from by rw [HE5.out, cls_append]; exact ho5)
          clear ho5 hg5 hat5 x0 x1 x2
          go_wp2_with fail
          go_roundw
          case rel => exact ⟨k + 1, A ++ [c], ao5, cap5, by omega, by rw [HE5.out]; omega, by go_num, by rw [HE5.out], HR, HO5, HB5⟩
          case measure => simp [intOf]; omega
        · have hqb : (c.seq.tmod 2 == 0) = false := by simpa using hq
          have HR := Lib.hid (HSKP.out (by show (!M.odd c) = false; rw [HOD.out, hqb]; rfl))
          have hqn : (c.seq.tmod 2 != 0) = true := by unfold bne; rw [hqb]; rfl
          clear hqb hq
          go_wp2_with fail
          go_roundw
          case rel => exact ⟨k + 1, A, ro', rc', by omega, by omega, by go_num, rfl, HR, HO, HBr⟩
          case measure => simp [intOf]; omega
      · obtain rfl : k = A0.length := by omega
        have hd : decide ((A0.length : Int) < (A0.length : Int)) = false := by simp
        have HR := Lib.hid (show A = A0.filter (fun c => !M.odd c) from by have := HA.out; rwa [List.take_length] at this)
        replace HL := Lib.hid (HL.out.below HBr.out)
        replace HCA := Lib.hid (HCA.out.below HBr.out)
        have HCW := Lib.hid (clsAt_own HO.out rfl)
        clear HA HO HBr
        have hAl : A.length ≤ 200 := by rw [HR.out]; exact Nat.le_trans (List.length_filter_le _ _) hA
        rw [← HR.out] at CD
        obtain ⟨s0, s1, s2, s3⟩ := HL.out.s
        go_wp2_with fail
        with_reducible refine (CM.out _ HL.out.kit.tt).mono ?_
        rintro e v3 ⟨aM, cM, rfl, ho, hbq⟩
        replace HL := Lib.hid (HL.out.below hbq)
        replace HCA := Lib.hid (HCA.out.below hbq)
        replace HCW := Lib.hid (HCW.out.below hbq)
        have HCM := Lib.hid (clsAt_own ho rfl)
        clear hbq ho CM s0 s1 s2 s3
        obtain ⟨s0, s1, s2, s3⟩ := HL.out.s
        go_wp2_with fail
        with_reducible refine (CD.out _ HL.out.kit.tt).mono ?_
        rintro e v4 ⟨aD, cD, rfl, hcD, hbq⟩
        replace HL := Lib.hid (HL.out.below hbq)
        replace HCA := Lib.hid (HCA.out.below hbq)
        replace HCW := Lib.hid (HCW.out.below hbq)
        replace HCM := Lib.hid (HCM.out.below hbq)
        have HCD := Lib.hid hcD
        clear hbq hcD CD s0 s1 s2 s3
        have CS := Lib.hid (same19_yes A0 aM aA A0.length cM cA rfl (by omega) HCM.out HCA.out)
        go_wp2_with fail
        with_reducible refine (CS.out).mono ?_
        rintro e v5 ⟨rfl, hbq⟩
        replace HL := Lib.hid (HL.out.below hbq)
        replace HCW := Lib.hid (HCW.out.below hbq)
        replace HCD := Lib.hid (HCD.out.below hbq)
        clear hbq CS HCA HCM
        have CS := Lib.hid (same19_yes A aD ro' A.length cD rc' rfl (by omega) HCD.out HCW.out)
        go_wp2_with fail
        with_reducible refine (CS.out).mono ?_
        rintro e v6 ⟨rfl, hbq⟩
        replace HL := Lib.hid (HL.out.below hbq)
        clear hbq CS HCW HCD
        go_wp2_with fail
        with_reducible refine (CLV.out _).mono ?_
        rintro e vl ⟨rfl, hbq⟩
        have HBe := Lib.hid (below_step HL.out.bel hbq)
        go_wp2_with fail
        go_ret
        exact ⟨rfl, HBe.out⟩
set_option maxHeartbeats 8000000 in
set_option maxRecDepth 100000 in
theorem tabletsMerge_even (W : World) (v0 : Value) (h0 : UDa W v0)  : Calls Tryz.prog 4 #[v0, .bool false] W fun e w' => e = .returned (.bool true) ∧ Below W.heap.size W w' := by
  obtain ⟨⟨f, t, L, Lo, Lk, R, Ro, Rk⟩, rfl, hin, hat⟩ := h0
  have hB0 : Below W.heap.size W (W.alloc (.cells #[.string (S f), .string (S t), .slice Lo L.length Lk, .slice Ro R.length Rk] 25)) := (Below.refl W.heap.size W).alloc (by simp) _
  have HB := Lib.hid hB0
  have HR0 := Lib.hid (show RowIn #[.string (S f), .string (S t), .slice Lo L.length Lk, .slice Ro R.length Rk] 25 (W.alloc (.cells #[.string (S f), .string (S t), .slice Lo L.length Lk, .slice Ro R.length Rk] 25)) W.heap.size from rowIn_new _ _ W)
  have HIN := Lib.hid hin
  have HAT := Lib.hid hat
  have CLV := Lib.hid lives19_any
  have CBy := Lib.hid (beyond19_use f t L Lo Lk R Ro Rk (W.alloc (.cells #[.string (S f), .string (S t), .slice Lo L.length Lk, .slice Ro R.length Rk] 25)) hin (hat.below hB0))
  clear hB0 hin hat
  unfold daV at *
  go_enter Tryz.func4, Tryz.ntmps4
  go_wp2_with fail
  generalize (W.alloc (.cells #[.string (S f), .string (S t), .slice Lo L.length Lk, .slice Ro R.length Rk] 25)) = W0 at *
  with_reducible refine (CBy.out).mono ?_
  rintro e w1 ⟨rfl | ⟨rfl, hsm⟩, hbq⟩
  · replace HB := Lib.hid (below_step HB.out hbq)
    go_wp2_with fail
    with_reducible refine (CLV.out _).mono ?_
    rintro e wl ⟨rfl, hbl⟩
    have HBl := Lib.hid (below_step HB.out hbl)
    go_wp2_with fail
    go_ret
    exact ⟨rfl, HBl.out⟩
  replace HB := Lib.hid (below_step HB.out hbq)
  replace HR0 := Lib.hid (HR0.out.below hbq)
  clear hbq CBy
  have hf := hsm.f
  have ht := hsm.t
  simp only at hf ht
  have r0 := HR0.out.cell 0
  have r1 := HR0.out.cell 1
  have r2 := HR0.out.cell 2
  have r3 := HR0.out.cell 3
  simp at r0 r1 r2 r3
  have CM := Lib.hid (made19_cap f t L Lo Lk R Ro Rk w1 HIN.out (HAT.out.below HB.out) hsm)
  go_wp2_with fail
  with_reducible refine (CM.out).mono ?_
  rintro e w2 ⟨b, ta, tc, Ts, ro, rc, Rs, rfl, hmk, hmq, hbq, hcap⟩
  replace HB := Lib.hid (below_step HB.out hbq)
  have HMK := Lib.hid hmk
  have HMQ := Lib.hid hmq
  clear hmk hmq hbq CM r0 r1 r2 r3 hsm HR0 HAT HIN
  generalize M.putsL [] L = K0 at *
  obtain ⟨r0, Rt, hRs, hRt⟩ : ∃ (r : M.Rw) (Rt : List M.Rw), Rs = r :: Rt ∧ M.rls Rt = M.tls Ts := by
    have h1 := HMQ.out.same
    cases Rs with
    | nil => simp [M.rls] at h1
    | cons r Rt => exact ⟨r, Rt, rfl, by simpa [M.rls] using (List.cons.inj h1).2⟩
  have HRS := Lib.hid hRs
  have HRT := Lib.hid hRt
  have hpos : 1 ≤ Rs.length := by rw [hRs]; simp
  obtain ⟨gr, og, hro, -⟩ := HMK.out.rr (by rw [hRs]; simp)
  clear hRs hRt
  subst hro
  have HRN := Lib.hid (show Rt.length = Rs.length - 1 from by rw [HRS.out]; simp)
  have hp1 : (1 : Int) ≤ (Rs.length : Int) := by omega
  have hp2 : (Rs.length : Int) ≤ (rc : Int) := by omega
  by_cases hrc : rc = 1
  · subst hrc
    have HRW := Lib.hid (show RwsAt w2 (some ⟨gr, og, none⟩) Rt from fun hn => absurd (List.eq_nil_of_length_eq_zero (by have := HRN.out; omega)) hn)
    go_upto_region 7 with fail
    have HBW := Lib.hid (((Below.refl w2.heap.size w2).alloc (Nat.le_refl _) (.cells #[.string (S f), .string (S t), .pointer (some ⟨b, 0, none⟩), .slice ta Ts.length tc] 32)).alloc (by rw [szA]; omega) (.cells #[.string (S f), .string (S t), .slice (some ⟨gr, og, none⟩) 0 0] 34))
    have HL := Lib.hid (show Tw19 W f t K0 w2.heap.size b ta tc Ts (some ⟨gr, og, none⟩) Rs ((w2.alloc (.cells #[.string (S f), .string (S t), .pointer (some ⟨b, 0, none⟩), .slice ta Ts.length tc] 32)).alloc (.cells #[.string (S f), .string (S t), .slice (some ⟨gr, og, none⟩) 0 0] 34)) from
      ⟨HMK.out.below HBW.out, (rowIn_new _ _ w2).more _, below_step HB.out HBW.out⟩)
    have HRb := Lib.hid (show RowIn #[.string (S f), .string (S t), .slice (some ⟨gr, og, none⟩) 0 0] 34 ((w2.alloc (.cells #[.string (S f), .string (S t), .pointer (some ⟨b, 0, none⟩), .slice ta Ts.length tc] 32)).alloc (.cells #[.string (S f), .string (S t), .slice (some ⟨gr, og, none⟩) 0 0] 34)) (w2.heap.size + 1) from rowIn_at _ _ _ _ (by rw [szA]))
    replace HRW := Lib.hid (HRW.out.below HBW.out)
    clear HBW
    generalize ((w2.alloc (.cells #[.string (S f), .string (S t), .pointer (some ⟨b, 0, none⟩), .slice ta Ts.length tc] 32)).alloc (.cells #[.string (S f), .string (S t), .slice (some ⟨gr, og, none⟩) 0 0] 34)) = W2 at *
    obtain ⟨b5, hb5⟩ : ∃ x, x = w2.heap.size := ⟨_, rfl⟩
    replace HL := Lib.hid (show Tw19 W f t K0 b5 b ta tc Ts (some ⟨gr, og, none⟩) Rs W2 from by rw [hb5]; exact HL.out)
    rw [← hb5] at HRb ⊢
    clear hb5 HMK HB
    have hA := HMQ.out.mlen f t [] []
    have CR := Lib.hid (rrange19_all f t (some ⟨gr, og, none⟩) 0 0 Rt W2 HRW.out (fun r hr => HMQ.out.st r (by rw [HRS.out]; exact List.mem_cons_of_mem _ hr)) (by have := HMQ.out.rn; have := HRN.out; omega) (fun r hr => by have := HMQ.out.lr r (by rw [HRS.out]; exact List.mem_cons_of_mem _ hr); omega) (by have := HRN.out; omega))
    unfold RangeR10 at CR
    rw [HRT.out, M.refRange_eq f t HMQ.out.pwt] at CR
    have CM := Lib.hid (fun V (h : TtAt V (.pointer (some ⟨b, 0, none⟩)) ta K0 Ts) => tmrg19 (f := f) (t := t) (tc := tc) h (by omega) (by omega))
    have CD := Lib.hid (fun V (h : TtAt V (.pointer (some ⟨b, 0, none⟩)) ta K0 Ts) => (show Calls Tryz.prog 19 #[.agg #[.string (S f), .string (S t), .pointer (some ⟨b, 0, none⟩), .slice ta Ts.length tc], (.func (.func 20) #[] #[])] V fun e w' => ∃ a c, e = .returned (.tuple #[.slice a ((M.rangeT f t (M.tls Ts) [] []).filter (fun c => M.odd c)).length c, .int .i64 0]) ∧ ClsAt w' a ((M.rangeT f t (M.tls Ts) [] []).filter (fun c => M.odd c)) ∧ Below V.heap.size V w' from merge19_even f t _ ta tc K0 Ts V h (by omega) (by omega) (by omega)))
    unfold NewR19 at CM
    clear HMQ HRS HRT HRN HRW hp1 hp2 hpos hcap
    generalize M.rangeT f t (M.tls Ts) [] [] = A0 at *
    have r0' := HRb.out.cell 0
    have r1 := HRb.out.cell 1
    have r2 := HRb.out.cell 2
    simp at r0' r1 r2
    go_wp2_with fail
    with_reducible refine (CR.out).mono ?_
    rintro e v2 ⟨aA, cA, rfl, ho, hbq⟩
    replace HL := Lib.hid (HL.out.below hbq)
    have HCA := Lib.hid (clsAt_own ho rfl)
    clear hbq ho CR r0' r1 r2 HRb
    obtain ⟨i0, z0, hi0, hz0, hz1, hz2, hz3⟩ := infoCl_parts
    go_wp2_with fail
    go_loopw [9, 10] (fun v14 v15 wr => ∃ (k : Nat) (A : List M.Cl) (ro' : Option Addr) (rc' : Nat), k ≤ A0.length ∧ A.length ≤ k ∧ v15 = .int .i64 k ∧ v14 = .slice ro' A.length rc' ∧ Hid (A = (A0.take k).filter (fun c => M.odd c)) ∧ Hid (wr.ownsRow v2.heap.size 38 3 (.slice ro' A.length rc') A.length (cls A)) ∧ Hid (Below v2.heap.size v2 wr)) (fun _ v _ => A0.length - (intOf v).toNat)
    case atStart => exact ⟨0, [], none, 0, Nat.zero_le _, Nat.le_refl _, rfl, rfl, Lib.hid rfl, Lib.hid (World.ownsRow_nil _ _ _ _), Lib.hid (Below.refl _ _)⟩
    case round =>
      obtain ⟨k, A, ro', rc', hk, hA2, rfl, rfl, HA, HO, HBr⟩ := hrel
      by_cases hlt : k < A0.length
      · have hd : decide ((k : Int) < (A0.length : Int)) = true := by simp; omega
        have hki : (k : Int) < (A0.length : Int) := by omega
        obtain ⟨g, off, rfl, hc⟩ := (HCA.out.below HBr.out).off k hlt
        obtain ⟨x0, x1, x2⟩ := hc
        have HTK := Lib.hid (takeC_snoc hlt)
        have HOD : Hid (M.odd (A0.getD k M.cl0) = !((A0.getD k M.cl0).seq.tmod 2 == 0)) := Lib.hid rfl
        generalize A0.getD k M.cl0 = c at *
        have HAPP := Lib.hid (fun (h : (fun c => M.odd c) c = true) => (show A ++ [c] = (A0.take (k + 1)).filter (fun c => M.odd c) from by rw [HTK.out, List.filter_append, ← HA.out]; have h2 := h; simp at h2; simp [h2]))
        have HSKP := Lib.hid (fun (h : (fun c => M.odd c) c = false) => (show A = (A0.take (k + 1)).filter (fun c => M.odd c) from by rw [HTK.out, List.filter_append, ← HA.out]; have h2 := h; simp at h2; simp [h2]))
        have e5 : (A ++ [c]).length = A.length + 1 := by simp
        have HE5 := Lib.hid e5
        clear e5
        by_cases hq : c.seq.tmod 2 = 0
        · have hqb : (c.seq.tmod 2 == 0) = true := by rw [hq]; rfl
          have HR := Lib.hid (HSKP.out (by show M.odd c = false; rw [HOD.out, hqb]; rfl))
          have hqn : (c.seq.tmod 2 != 0) = false := by unfold bne; rw [hqb]; rfl
          clear hqb hq
          go_wp2_with fail
          go_roundw
          case rel => exact ⟨k + 1, A, ro', rc', by omega, by omega, by go_num, rfl, HR, HO, HBr⟩
          case measure => simp [intOf]; omega
        · have hqb : (c.seq.tmod 2 == 0) = false := by simpa using hq
          have HR := Lib.hid (HAPP.out (by show M.odd c = true; rw [HOD.out, hqb]; rfl))
          have hqn : (c.seq.tmod 2 != 0) = true := by unfold bne; rw [hqb]; rfl
          clear hqb hq
          have HXX := Lib.hid (rowIn_new (clA c) 38 wr)
          have HO2 := carryA (w := wr) (.cells (clA c) 38) HO
          have HB2 := carryA (w := wr) (.cells (clA c) 38) HBr
          go_wp2_with (at_builtin; refine wpList_append_cls_at rfl _ _ 22 rfl v2.heap.size i0 z0 Tryz.underlying22 hi0 hz0 hz1 hz2 hz3 (.slice ro' A.length rc') A.length (cls A) rfl HO2.out (some ⟨wr.heap.size, 0, none⟩) 1 [c] rfl ?c1 ?c2 ?c3 ?_)
          case c1 => exact clsAt_row HXX.out rfl
          case c2 => have e1 : [c].length = 1 := rfl; omega
          case c3 => (first | exact HB2.out.size | (have h9 := HB2.out.size; rw [szA] at h9; exact h9))
          intro v' w5 ho5 hg5 hat5
          obtain ⟨ao5, cap5, rfl⟩ := ownP_shape ho5
          have HB5 := Lib.hid (HB2.out.grown hg5 HB2.out.size (fun q hq => (HO2.out.lt q hq).1))
          have HO5 := Lib.hid (show w5.ownsRow v2.heap.size 38 3 (.slice ao5 (A ++ [c]).length cap5) (A ++ [c]).length (cls (A ++ [c])) from by rw [HE5.out, cls_append]; exact ho5)
          clear ho5 hg5 hat5 x0 x1 x2
          go_wp2_with fail
          go_roundw
          case rel => exact ⟨k + 1, A ++ [c], ao5, cap5, by omega, by rw [HE5.out]; omega, by go_num, by rw [HE5.out], HR, HO5, HB5⟩
          case measure => simp [intOf]; omega
      · obtain rfl : k = A0.length := by omega
        have hd : decide ((A0.length : Int) < (A0.length : Int)) = false := by simp
        have HR := Lib.hid (show A = A0.filter (fun c => M.odd c) from by have := HA.out; rwa [List.take_length] at this)
        replace HL := Lib.hid (HL.out.below HBr.out)
        replace HCA := Lib.hid (HCA.out.below HBr.out)
        have HCW := Lib.hid (clsAt_own HO.out rfl)
        clear HA HO HBr
        have hAl : A.length ≤ 200 := by rw [HR.out]; exact Nat.le_trans (List.length_filter_le _ _) hA
        rw [← HR.out] at CD
        obtain ⟨s0, s1, s2, s3⟩ := HL.out.s
        go_wp2_with fail
        with_reducible refine (CM.out _ HL.out.kit.tt).mono ?_
        rintro e v3 ⟨aM, cM, rfl, ho, hbq⟩
        replace HL := Lib.hid (HL.out.below hbq)
        replace HCA := Lib.hid (HCA.out.below hbq)
        replace HCW := Lib.hid (HCW.out.below hbq)
        have HCM := Lib.hid (clsAt_own ho rfl)
        clear hbq ho CM s0 s1 s2 s3
        obtain ⟨s0, s1, s2, s3⟩ := HL.out.s
        go_wp2_with fail
        with_reducible refine (CD.out _ HL.out.kit.tt).mono ?_
        rintro e v4 ⟨aD, cD, rfl, hcD, hbq⟩
        replace HL := Lib.hid (HL.out.below hbq)
        replace HCA := Lib.hid (HCA.out.below hbq)
        replace HCW := Lib.hid (HCW.out.below hbq)
        replace HCM := Lib.hid (HCM.out.below hbq)
        have HCD := Lib.hid hcD
        clear hbq hcD CD s0 s1 s2 s3
        have CS := Lib.hid (same19_yes A0 aM aA A0.length cM cA rfl (by omega) HCM.out HCA.out)
        go_wp2_with fail
        with_reducible refine (CS.out).mono ?_
        rintro e v5 ⟨rfl, hbq⟩
        replace HL := Lib.hid (HL.out.below hbq)
        replace HCW := Lib.hid (HCW.out.below hbq)
        replace HCD := Lib.hid (HCD.out.below hbq)
        clear hbq CS HCA HCM
        have CS := Lib.hid (same19_yes A aD ro' A.length cD rc' rfl (by omega) HCD.out HCW.out)
        go_wp2_with fail
        with_reducible refine (CS.out).mono ?_
        rintro e v6 ⟨rfl, hbq⟩
        replace HL := Lib.hid (HL.out.below hbq)
        clear hbq CS HCW HCD
        go_wp2_with fail
        with_reducible refine (CLV.out _).mono ?_
        rintro e vl ⟨rfl, hbq⟩
        have HBe := Lib.hid (below_step HL.out.bel hbq)
        go_wp2_with fail
        go_ret
        exact ⟨rfl, HBe.out⟩
  · have HRW := Lib.hid (show RwsAt w2 (some ⟨gr, og + 1, none⟩) Rt from by have := HMK.out.rr; rw [HRS.out] at this; exact rws_tail19 this)
    have hrc2 : 1 < rc := by omega
    go_upto_region 7 with fail
    have HBW := Lib.hid (((Below.refl w2.heap.size w2).alloc (Nat.le_refl _) (.cells #[.string (S f), .string (S t), .pointer (some ⟨b, 0, none⟩), .slice ta Ts.length tc] 32)).alloc (by rw [szA]; omega) (.cells #[.string (S f), .string (S t), .slice (some ⟨gr, og + 1, none⟩) (Rs.length - 1) (rc - 1)] 34))
    have HL := Lib.hid (show Tw19 W f t K0 w2.heap.size b ta tc Ts (some ⟨gr, og, none⟩) Rs ((w2.alloc (.cells #[.string (S f), .string (S t), .pointer (some ⟨b, 0, none⟩), .slice ta Ts.length tc] 32)).alloc (.cells #[.string (S f), .string (S t), .slice (some ⟨gr, og + 1, none⟩) (Rs.length - 1) (rc - 1)] 34)) from
      ⟨HMK.out.below HBW.out, (rowIn_new _ _ w2).more _, below_step HB.out HBW.out⟩)
    have HRb := Lib.hid (show RowIn #[.string (S f), .string (S t), .slice (some ⟨gr, og + 1, none⟩) (Rs.length - 1) (rc - 1)] 34 ((w2.alloc (.cells #[.string (S f), .string (S t), .pointer (some ⟨b, 0, none⟩), .slice ta Ts.length tc] 32)).alloc (.cells #[.string (S f), .string (S t), .slice (some ⟨gr, og + 1, none⟩) (Rs.length - 1) (rc - 1)] 34)) (w2.heap.size + 1) from rowIn_at _ _ _ _ (by rw [szA]))
    replace HRW := Lib.hid (HRW.out.below HBW.out)
    clear HBW
    generalize ((w2.alloc (.cells #[.string (S f), .string (S t), .pointer (some ⟨b, 0, none⟩), .slice ta Ts.length tc] 32)).alloc (.cells #[.string (S f), .string (S t), .slice (some ⟨gr, og + 1, none⟩) (Rs.length - 1) (rc - 1)] 34)) = W2 at *
    obtain ⟨b5, hb5⟩ : ∃ x, x = w2.heap.size := ⟨_, rfl⟩
    replace HL := Lib.hid (show Tw19 W f t K0 b5 b ta tc Ts (some ⟨gr, og, none⟩) Rs W2 from by rw [hb5]; exact HL.out)
    rw [← hb5] at HRb ⊢
    clear hb5 HMK HB
    have hA := HMQ.out.mlen f t [] []
    have CR := Lib.hid (rrange19_all f t (some ⟨gr, og + 1, none⟩) (rc - 1) (Rs.length - 1) Rt W2 HRW.out (fun r hr => HMQ.out.st r (by rw [HRS.out]; exact List.mem_cons_of_mem _ hr)) (by have := HMQ.out.rn; have := HRN.out; omega) (fun r hr => by have := HMQ.out.lr r (by rw [HRS.out]; exact List.mem_cons_of_mem _ hr); omega) (by have := HRN.out; omega))
    unfold RangeR10 at CR
    rw [HRT.out, M.refRange_eq f t HMQ.out.pwt] at CR
    have CM := Lib.hid (fun V (h : TtAt V (.pointer (some ⟨b, 0, none⟩)) ta K0 Ts) => tmrg19 (f := f) (t := t) (tc := tc) h (by omega) (by omega))
    have CD := Lib.hid (fun V (h : TtAt V (.pointer (some ⟨b, 0, none⟩)) ta K0 Ts) => (show Calls Tryz.prog 19 #[.agg #[.string (S f), .string (S t), .pointer (some ⟨b, 0, none⟩), .slice ta Ts.length tc], (.func (.func 20) #[] #[])] V fun e w' => ∃ a c, e = .returned (.tuple #[.slice a ((M.rangeT f t (M.tls Ts) [] []).filter (fun c => M.odd c)).length c, .int .i64 0]) ∧ ClsAt w' a ((M.rangeT f t (M.tls Ts) [] []).filter (fun c => M.odd c)) ∧ Below V.heap.size V w' from merge19_even f t _ ta tc K0 Ts V h (by omega) (by omega) (by omega)))
    unfold NewR19 at CM
    clear HMQ HRS HRT HRN HRW hp1 hp2 hpos hcap
    generalize M.rangeT f t (M.tls Ts) [] [] = A0 at *
    have r0' := HRb.out.cell 0
    have r1 := HRb.out.cell 1
    have r2 := HRb.out.cell 2
    simp at r0' r1 r2
    go_wp2_with fail
    with_reducible refine (CR.out).mono ?_
    rintro e v2 ⟨aA, cA, rfl, ho, hbq⟩
    replace HL := Lib.hid (HL.out.below hbq)
    have HCA := Lib.hid (clsAt_own ho rfl)
    clear hbq ho CR r0' r1 r2 HRb
    obtain ⟨i0, z0, hi0, hz0, hz1, hz2, hz3⟩ := infoCl_parts
    go_wp2_with fail
    go_loopw [9, 10] (fun v14 v15 wr => ∃ (k : Nat) (A : List M.Cl) (ro' : Option Addr) (rc' : Nat), k ≤ A0.length ∧ A.length ≤ k ∧ v15 = .int .i64 k ∧ v14 = .slice ro' A.length rc' ∧ Hid (A = (A0.take k).filter (fun c => M.odd c)) ∧ Hid (wr.ownsRow v2.heap.size 38 3 (.slice ro' A.length rc') A.length (cls A)) ∧ Hid (Below v2.heap.size v2 wr)) (fun _ v _ => A0.length - (intOf v).toNat)
    case atStart => exact ⟨0, [], none, 0, Nat.zero_le _, Nat.le_refl _, rfl, rfl, Lib.hid rfl, Lib.hid (World.ownsRow_nil _ _ _ _), Lib.hid (Below.refl _ _)⟩
    case round =>
      obtain ⟨k, A, ro', rc', hk, hA2, rfl, rfl, HA, HO, HBr⟩ := hrel
      by_cases hlt : k < A0.length
      · have hd : decide ((k : Int) < (A0.length : Int)) = true := by simp; omega
        have hki : (k : Int) < (A0.length : Int) := by omega
        obtain ⟨g, off, rfl, hc⟩ := (HCA.out.below HBr.out).off k hlt
        obtain ⟨x0, x1, x2⟩ := hc
        have HTK := Lib.hid (takeC_snoc hlt)
        have HOD : Hid (M.odd (A0.getD k M.cl0) = !((A0.getD k M.cl0).seq.tmod 2 == 0)) := Lib.hid rfl
        generalize A0.getD k M.cl0 = c at *
        have HAPP := Lib.hid (fun (h : (fun c => M.odd c) c = true) => (show A ++ [c] = (A0.take (k + 1)).filter (fun c => M.odd c) from by rw [HTK.out, List.filter_append, ← HA.out]; have h2 := h; simp at h2; simp [h2]))
        have HSKP := Lib.hid (fun (h : (fun c => M.odd c) c = false) => (show A = (A0.take (k + 1)).filter (fun c => M.odd c) from by rw [HTK.out, List.filter_append, ← HA.out]; have h2 := h; simp at h2; simp [h2]))
        have e5 : (A ++ [c]).length = A.length + 1 := by simp
        have HE5 := Lib.hid e5
        clear e5
        by_cases hq : c.seq.tmod 2 = 0
        · have hqb : (c.seq.tmod 2 == 0) = true := by rw [hq]; rfl
          have HR := Lib.hid (HSKP.out (by show M.odd c = false; rw [HOD.out, hqb]; rfl))
          have hqn : (c.seq.tmod 2 != 0) = false := by unfold bne; rw [hqb]; rfl
          clear hqb hq
          go_wp2_with fail
          go_roundw
          case rel => exact ⟨k + 1, A, ro', rc', by omega, by omega, by go_num, rfl, HR, HO, HBr⟩
          case measure => simp [intOf]; omega
        · have hqb : (c.seq.tmod 2 == 0) = false := by simpa using hq
          have HR := Lib.hid (HAPP.out (by show M.odd c = true; rw [HOD.out, hqb]; rfl))
          have hqn : (c.seq.tmod 2 != 0) = true := by unfold bne; rw [hqb]; rfl
          clear hqb hq
          have HXX := Lib.hid (rowIn_new (clA c) 38 wr)
          have HO2 := carryA (w := wr) (.cells (clA c) 38) HO
          have HB2 := carryA (w := wr) (.cells (clA c) 38) HBr
          go_wp2_with (at_builtin; refine wpList_append_cls_at rfl _ _ 22 rfl v2.heap.size i0 z0 Tryz.underlying22 hi0 hz0 hz1 hz2 hz3 (.slice ro' A.length rc') A.length (cls A) rfl HO2.out (some ⟨wr.heap.size, 0, none⟩) 1 [c] rfl ?c1 ?c2 ?c3 ?_)
          case c1 => exact clsAt_row HXX.out rfl
          case c2 => have e1 : [c].length = 1 := rfl; omega
          case c3 => (first | exact HB2.out.size | (have h9 := HB2.out.size; rw [szA] at h9; exact h9))
          intro v' w5 ho5 hg5 hat5
          obtain ⟨ao5, cap5, rfl⟩ := ownP_shape ho5
          have HB5 := Lib.hid (HB2.out.grown hg5 HB2.out.size (fun q hq => (HO2.out.lt q hq).1))
          have HO5 := Lib.hid (show w5.ownsRow v2.heap.size 38 3 (.slice ao5 (A ++ [c]).length cap5) (A ++ [c]).length (cls (A ++ [c])) from by rw [HE5.out, cls_append]; exact ho5)
          clear ho5 hg5 hat5 x0 x1 x2
          go_wp2_with fail
          go_roundw
          case rel => exact ⟨k + 1, A ++ [c], ao5, cap5, by omega, by rw [HE5.out]; omega, by go_num, by rw [HE5.out], HR, HO5, HB5⟩
          case measure => simp [intOf]; omega
      · obtain rfl : k = A0.length := by omega
        have hd : decide ((A0.length : Int) < (A0.length : Int)) = false := by simp
        have HR := Lib.hid (show A = A0.filter (fun c => M.odd c) from by have := HA.out; rwa [List.take_length] at this)
        replace HL := Lib.hid (HL.out.below HBr.out)
        replace HCA := Lib.hid (HCA.out.below HBr.out)
        have HCW := Lib.hid (clsAt_own HO.out rfl)
        clear HA HO HBr
        have hAl : A.length ≤ 200 := by rw [HR.out]; exact Nat.le_trans (List.length_filter_le _ _) hA
        rw [← HR.out] at CD
        obtain ⟨s0, s1, s2, s3⟩ := HL.out.s
        go_wp2_with fail
        with_reducible refine (CM.out _ HL.out.kit.tt).mono ?_
        rintro e v3 ⟨aM, cM, rfl, ho, hbq⟩
        replace HL := Lib.hid (HL.out.below hbq)
        replace HCA := Lib.hid (HCA.out.below hbq)
        replace HCW := Lib.hid (HCW.out.below hbq)
        have HCM := Lib.hid (clsAt_own ho rfl)
        clear hbq ho CM s0 s1 s2 s3
        obtain ⟨s0, s1, s2, s3⟩ := HL.out.s
        go_wp2_with fail
        with_reducible refine (CD.out _ HL.out.kit.tt).mono ?_
        rintro e v4 ⟨aD, cD, rfl, hcD, hbq⟩
        replace HL := Lib.hid (HL.out.below hbq)
        replace HCA := Lib.hid (HCA.out.below hbq)
        replace HCW := Lib.hid (HCW.out.below hbq)
        replace HCM := Lib.hid (HCM.out.below hbq)
        have HCD := Lib.hid hcD
        clear hbq hcD CD s0 s1 s2 s3
        have CS := Lib.hid (same19_yes A0 aM aA A0.length cM cA rfl (by omega) HCM.out HCA.out)
        go_wp2_with fail
        with_reducible refine (CS.out).mono ?_
        rintro e v5 ⟨rfl, hbq⟩
        replace HL := Lib.hid (HL.out.below hbq)
        replace HCW := Lib.hid (HCW.out.below hbq)
        replace HCD := Lib.hid (HCD.out.below hbq)
        clear hbq CS HCA HCM
        have CS := Lib.hid (same19_yes A aD ro' A.length cD rc' rfl (by omega) HCD.out HCW.out)
        go_wp2_with fail
        with_reducible refine (CS.out).mono ?_
        rintro e v6 ⟨rfl, hbq⟩
        replace HL := Lib.hid (HL.out.below hbq)
        clear hbq CS HCW HCD
        go_wp2_with fail
        with_reducible refine (CLV.out _).mono ?_
        rintro e vl ⟨rfl, hbq⟩
        have HBe := Lib.hid (below_step HL.out.bel hbq)
        go_wp2_with fail
        go_ret
        exact ⟨rfl, HBe.out⟩
theorem tabletsMerge_calls (W : World) (v0 : Value) (h0 : UDa W v0) (odd : Bool) : Calls Tryz.prog 4 #[v0, .bool odd] W fun e w' => e = .returned (.bool true) ∧ Below W.heap.size W w' := by
  cases odd with
  | true => exact tabletsMerge_odd W v0 h0
  | false => exact tabletsMerge_even W v0 h0

end Go.Proofs.YtnhljlmelbiljaaGreat
