/- Layer 19: TabletsRead. -/
import Derived.Test.YtnhljlmelbiljaaGreatTbltX
import Derived.Test.YtnhljlmelbiljaaGreatZR
import Derived.Deep.CutRange
import Derived.BigQuiet
namespace Go.Proofs.YtnhljlmelbiljaaGreat
set_option linter.unusedVariables false
set_option linter.unusedSimpArgs false
open Go Go.RowKit
attribute [local go_sem ↓] run_index_S
attribute [local go_sem] S_append S_extract

set_option maxHeartbeats 8000000 in
set_option maxRecDepth 100000 in
theorem tabletsRead_calls (W : World) (v0 : Value) (h0 : UDa W v0) (v1 : Value) (h1 : U3s v1) : Calls Tryz.prog 3 #[v0, v1] W fun e w' => e = .returned (.bool true) ∧ Below W.heap.size W w' := by
  obtain ⟨⟨f, t, L, Lo, Lk, R, Ro, Rk⟩, rfl, hin, hat⟩ := h0
  obtain ⟨x, y, z, rfl⟩ := h1
  have hB0 : Below W.heap.size W ((W.alloc (.cells #[.string (S f), .string (S t), .slice Lo L.length Lk, .slice Ro R.length Rk] 25)).alloc (.cells #[.string (S x), .string (S y), .string (S z)] 26)) := ((Below.refl W.heap.size W).alloc (by simp) _).alloc (by simp) _
  have HB := Lib.hid hB0
  have HR0 := Lib.hid (show RowIn #[.string (S f), .string (S t), .slice Lo L.length Lk, .slice Ro R.length Rk] 25 ((W.alloc (.cells #[.string (S f), .string (S t), .slice Lo L.length Lk, .slice Ro R.length Rk] 25)).alloc (.cells #[.string (S x), .string (S y), .string (S z)] 26)) W.heap.size from (rowIn_new _ _ W).more _)
  have HIN := Lib.hid hin
  have HAT := Lib.hid hat
  have CLV := Lib.hid lives19_any
  have CBy := Lib.hid (beyond19_use f t L Lo Lk R Ro Rk ((W.alloc (.cells #[.string (S f), .string (S t), .slice Lo L.length Lk, .slice Ro R.length Rk] 25)).alloc (.cells #[.string (S x), .string (S y), .string (S z)] 26)) hin (hat.below hB0))
  clear hB0 hin hat
  unfold daV at *
  have HTX := Lib.hid (show RowIn #[.string (S x), .string (S y), .string (S z)] 26 ((W.alloc (.cells #[.string (S f), .string (S t), .slice Lo L.length Lk, .slice Ro R.length Rk] 25)).alloc (.cells #[.string (S x), .string (S y), .string (S z)] 26)) (W.heap.size + 1) from rowIn_at _ _ _ _ (by rw [szA]))
  go_enter Tryz.func3, Tryz.ntmps3
  go_wp2_with fail
  generalize ((W.alloc (.cells #[.string (S f), .string (S t), .slice Lo L.length Lk, .slice Ro R.length Rk] 25)).alloc (.cells #[.string (S x), .string (S y), .string (S z)] 26)) = W00 at *
  clear CBy
  have y0 := HTX.out.cell 0
  have y1 := HTX.out.cell 1
  have y2 := HTX.out.cell 2
  simp at y0 y1 y2
  clear HTX
  go_quiet (fail)
  have hbq : Below W00.heap.size W00 (W00.drewN nq) := below_drewN (Below.refl _ _) nq
  obtain ⟨W0, hwq⟩ : ∃ x, x = W00.drewN nq := ⟨_, rfl⟩
  rw [← hwq] at hbq ⊢
  replace HB := Lib.hid (below_step HB.out hbq)
  replace HR0 := Lib.hid (HR0.out.below hbq)
  clear y0 y1 y2
  have CBy := Lib.hid (beyond19_use f t L Lo Lk R Ro Rk W0 HIN.out (HAT.out.below HB.out))
  clear hwq hbq
  have r0 := HR0.out.cell 0
  have r1 := HR0.out.cell 1
  have r2 := HR0.out.cell 2
  have r3 := HR0.out.cell 3
  simp at r0 r1 r2 r3
  go_wp2_with fail
  with_reducible refine (CBy.out).mono ?_
  rintro e w1 ⟨rfl | ⟨rfl, hsm⟩, hbq⟩
  · replace HB := Lib.hid (below_step HB.out hbq)
    go_wp2_with fail
    with_reducible refine (CLV.out _).mono ?_
    rintro e wl ⟨rfl, hbl⟩
    have HBl := Lib.hid (below_step HB.out hbl)
    go_wp2_with fail
    go_ret
    exact ⟨rfl, HBl.out⟩
  replace HB := Lib.hid (below_step HB.out hbq)
  replace HR0 := Lib.hid (HR0.out.below hbq)
  clear hbq CBy
  by_cases hk0 : 100 < x.length
  · have e0 : decide ((100 : Int) < (x.length : Int)) = true := by simp; omega
    go_wp2_with fail
    with_reducible refine (CLV.out _).mono ?_
    rintro e wl ⟨rfl, hbl⟩
    have HBl := Lib.hid (below_step HB.out hbl)
    go_wp2_with fail
    go_ret
    exact ⟨rfl, HBl.out⟩
  have e0 : decide ((100 : Int) < (x.length : Int)) = false := by simp; omega
  by_cases hk1 : 100 < y.length
  · have e1 : decide ((100 : Int) < (y.length : Int)) = true := by simp; omega
    go_wp2_with fail
    with_reducible refine (CLV.out _).mono ?_
    rintro e wl ⟨rfl, hbl⟩
    have HBl := Lib.hid (below_step HB.out hbl)
    go_wp2_with fail
    go_ret
    exact ⟨rfl, HBl.out⟩
  have e1 : decide ((100 : Int) < (y.length : Int)) = false := by simp; omega
  by_cases hk2 : 100 < z.length
  · have e2 : decide ((100 : Int) < (z.length : Int)) = true := by simp; omega
    go_wp2_with fail
    with_reducible refine (CLV.out _).mono ?_
    rintro e wl ⟨rfl, hbl⟩
    have HBl := Lib.hid (below_step HB.out hbl)
    go_wp2_with fail
    go_ret
    exact ⟨rfl, HBl.out⟩
  have e2 : decide ((100 : Int) < (z.length : Int)) = false := by simp; omega
  have hf := hsm.f
  have ht := hsm.t
  simp only at hf ht
  have r0 := HR0.out.cell 0
  have r1 := HR0.out.cell 1
  have r2 := HR0.out.cell 2
  have r3 := HR0.out.cell 3
  simp at r0 r1 r2 r3
  have CM := Lib.hid (made19_use f t L Lo Lk R Ro Rk w1 HIN.out (HAT.out.below HB.out) hsm)
  go_wp2_with fail
  with_reducible refine (CM.out).mono ?_
  rintro e w2 ⟨b, ta, tc, Ts, ro, rc, Rs, rfl, hmk, hmq, hbq⟩
  replace HB := Lib.hid (below_step HB.out hbq)
  have HMK := Lib.hid hmk
  have HMQ := Lib.hid hmq
  clear hmk hmq hbq CM r0 r1 r2 r3 hsm HR0 HAT HIN
  generalize M.putsL [] L = K0 at *
  go_upto_region 7 with fail
  have HL := Lib.hid (show Tw19 W f t K0 w2.heap.size b ta tc Ts ro Rs ((w2.alloc (.cells #[.string (S f), .string (S t), .pointer (some ⟨b, 0, none⟩), .slice ta Ts.length tc] 32)).alloc (.cells #[.string (S f), .string (S t), .slice ro Rs.length rc] 34)) from by
    have hb : Below w2.heap.size w2 ((w2.alloc (.cells #[.string (S f), .string (S t), .pointer (some ⟨b, 0, none⟩), .slice ta Ts.length tc] 32)).alloc (.cells #[.string (S f), .string (S t), .slice ro Rs.length rc] 34)) := ((Below.refl _ _).alloc (Nat.le_refl _) _).alloc (by rw [szA]; omega) _
    exact ⟨HMK.out.below hb, (rowIn_new _ _ w2).more _, below_step HB.out hb⟩)
  have HRb := Lib.hid (show RowIn #[.string (S f), .string (S t), .slice ro Rs.length rc] 34 ((w2.alloc (.cells #[.string (S f), .string (S t), .pointer (some ⟨b, 0, none⟩), .slice ta Ts.length tc] 32)).alloc (.cells #[.string (S f), .string (S t), .slice ro Rs.length rc] 34)) (w2.heap.size + 1) from rowIn_at _ _ _ _ (by rw [szA]))
  generalize ((w2.alloc (.cells #[.string (S f), .string (S t), .pointer (some ⟨b, 0, none⟩), .slice ta Ts.length tc] 32)).alloc (.cells #[.string (S f), .string (S t), .slice ro Rs.length rc] 34)) = W2 at *
  obtain ⟨b5, hb5⟩ : ∃ x, x = w2.heap.size := ⟨_, rfl⟩
  replace HL := Lib.hid (show Tw19 W f t K0 b5 b ta tc Ts ro Rs W2 from by rw [hb5]; exact HL.out)
  rw [← hb5] at HRb ⊢
  clear hb5 HMK HB
  have hK0 : K0.length ≤ 4096 := by have := HMQ.out.l0; omega
  obtain ⟨s0, s1, s2, s3⟩ := HL.out.s
  clear s0 s1 s2 s3
  have CG := Lib.hid (fun V (h : TtAt V (.pointer (some ⟨b, 0, none⟩)) ta K0 Ts) => tget19 (f := f) (t := t) (tc := tc) h x (by omega))
  have CGr := Lib.hid (fun V (h : RwsAt V ro Rs) => (show Calls Tryz.prog 13 #[.agg #[.string (S f), .string (S t), .slice ro Rs.length rc], .string (S x)] V fun e w' => FindR9 (M.getT f t (K0 :: M.tls Ts) x) V e w' from by
    have h1 := refGet19_any f t ro rc Rs x V h HMQ.out.st (by have := HMQ.out.rn; omega) (fun r hr => by have := HMQ.out.lr r hr; omega)
    rw [HMQ.out.same] at h1
    exact h1))
  have CR := Lib.hid (fun V (h : TtAt V (.pointer (some ⟨b, 0, none⟩)) ta K0 Ts) => trng19 (f := f) (t := t) (tc := tc) h hK0 (by omega) (by omega) y z (by omega) (by omega))
  have CRr := Lib.hid (fun V (h : RwsAt V ro Rs) => (show Calls Tryz.prog 18 #[.agg #[.string (S f), .string (S t), .slice ro Rs.length rc], .string (S y), .string (S z)] V fun e w' => RangeR10 (M.rangeT f t (K0 :: M.tls Ts) y z) V e w' from by
    have h1 := refRange19_any f t ro rc Rs y z V h HMQ.out.st (by have := HMQ.out.rn; omega) (fun r hr => by have := HMQ.out.lr r hr; omega)
    rw [HMQ.out.same, M.refRange_eq f t HMQ.out.pw] at h1
    exact h1))
  have CMd := Lib.hid (fun V (h : TtAt V (.pointer (some ⟨b, 0, none⟩)) ta K0 Ts) => tmid19 (f := f) (t := t) (tc := tc) h hK0 (by omega) (by omega))
  have CMr := Lib.hid (fun V (h : RwsAt V ro Rs) => (show Calls Tryz.prog 16 #[.agg #[.string (S f), .string (S t), .slice ro Rs.length rc]] V fun e w' => MidR19 (M.midT f (M.rowsR (M.rangeT f t (K0 :: M.tls Ts) [] []))) V e w' from by
    have h1 := refMiddle19_any f t ro rc Rs V h HMQ.out.st (by have := HMQ.out.rn; omega) (fun r hr => by have := HMQ.out.lr r hr; omega) HMQ.out.okr
    rw [HMQ.out.same, M.refRange_eq f t HMQ.out.pw] at h1
    exact h1))
  have hA := HMQ.out.rlen f t y z
  unfold FindR9 at CG CGr
  unfold NewR19 at CR
  unfold RangeR10 at CRr
  unfold MidR19 at CMd CMr
  generalize M.getT f t (K0 :: M.tls Ts) x = q at *
  generalize M.rangeT f t (K0 :: M.tls Ts) y z = A at *
  generalize M.midT f (M.rowsR (M.rangeT f t (K0 :: M.tls Ts) [] [])) = md at *
  obtain ⟨s0, s1, s2, s3⟩ := HL.out.s
  go_wp2_with fail
  with_reducible refine (CG.out _ HL.out.kit.tt).mono ?_
  rintro e w3 ⟨rfl, hbq⟩
  have hal := (Below.refl w3.heap.size w3).alloc (Nat.le_refl _) (.cells (clA (q.getD M.cl0)) 38)
  replace HL := Lib.hid ((HL.out.below hbq).below hal)
  replace HRb := Lib.hid ((HRb.out.below hbq).below hal)
  have HX1 := Lib.hid (rowIn_new (clA (q.getD M.cl0)) 38 w3)
  clear hbq hal s0 s1 s2 s3 CG
  go_upto_region 8 with fail
  generalize w3.alloc (.cells (clA (q.getD M.cl0)) 38) = V3 at *
  have r0 := HRb.out.cell 0
  have r1 := HRb.out.cell 1
  have r2 := HRb.out.cell 2
  simp at r0 r1 r2
  go_wp2_with fail
  with_reducible refine (CGr.out _ HL.out.kit.rr).mono ?_
  rintro e w4 ⟨rfl, hbq⟩
  have hal := (Below.refl w4.heap.size w4).alloc (Nat.le_refl _) (.cells (clA (q.getD M.cl0)) 38)
  replace HL := Lib.hid ((HL.out.below hbq).below hal)
  replace HRb := Lib.hid ((HRb.out.below hbq).below hal)
  replace HX1 := Lib.hid ((HX1.out.below hbq).below hal)
  have HX2 := Lib.hid (rowIn_new (clA (q.getD M.cl0)) 38 w4)
  clear hbq hal r0 r1 r2 CGr
  go_upto_region 9 with fail
  generalize w4.alloc (.cells (clA (q.getD M.cl0)) 38) = V4 at *
  obtain ⟨s0, s1, s2, s3⟩ := HL.out.s
  go_wp2_with fail
  with_reducible refine (CR.out _ HL.out.kit.tt).mono ?_
  rintro e w5 ⟨aA, cA, rfl, hoA, hbq⟩
  replace HL := Lib.hid (HL.out.below hbq)
  replace HRb := Lib.hid (HRb.out.below hbq)
  replace HX1 := Lib.hid (HX1.out.below hbq)
  replace HX2 := Lib.hid (HX2.out.below hbq)
  have HCA := Lib.hid (clsAt_own hoA rfl)
  clear hbq hoA s0 s1 s2 s3 CR
  obtain ⟨s0, s1, s2, s3⟩ := HL.out.s
  go_wp2_with fail
  with_reducible refine (CMd.out _ HL.out.kit.tt).mono ?_
  rintro e w6 ⟨rfl, hbq⟩
  replace HL := Lib.hid (HL.out.below hbq)
  replace HRb := Lib.hid (HRb.out.below hbq)
  replace HX1 := Lib.hid (HX1.out.below hbq)
  replace HX2 := Lib.hid (HX2.out.below hbq)
  replace HCA := Lib.hid (HCA.out.below hbq)
  clear hbq s0 s1 s2 s3 CMd
  have r0 := HRb.out.cell 0
  have r1 := HRb.out.cell 1
  have r2 := HRb.out.cell 2
  simp at r0 r1 r2
  go_wp2_with fail
  with_reducible refine (CMr.out _ HL.out.kit.rr).mono ?_
  rintro e w7 ⟨rfl, hbq⟩
  replace HL := Lib.hid (HL.out.below hbq)
  replace HRb := Lib.hid (HRb.out.below hbq)
  replace HX1 := Lib.hid (HX1.out.below hbq)
  replace HX2 := Lib.hid (HX2.out.below hbq)
  replace HCA := Lib.hid (HCA.out.below hbq)
  clear hbq r0 r1 r2 CMr
  have x0 := HX1.out.cell 0
  have x1 := HX1.out.cell 1
  have x2 := HX1.out.cell 2
  have z0 := HX2.out.cell 0
  have z1 := HX2.out.cell 1
  have z2 := HX2.out.cell 2
  have r0 := HRb.out.cell 0
  have r1 := HRb.out.cell 1
  have r2 := HRb.out.cell 2
  simp at x0 x1 x2 z0 z1 z2 r0 r1 r2
  go_wp2_with fail
  with_reducible refine (CRr.out _ HL.out.kit.rr).mono ?_
  rintro e w8 ⟨aB, cB, rfl, hoB, hbq⟩
  replace HL := Lib.hid (HL.out.below hbq)
  replace HCA := Lib.hid (HCA.out.below hbq)
  have HCB := Lib.hid (clsAt_own hoB rfl)
  have CS := Lib.hid (same19_yes A aA aB A.length cA cB rfl (by omega) HCA.out HCB.out)
  clear hbq x0 x1 x2 z0 z1 z2 r0 r1 r2 CRr hoB HX1 HX2 HRb
  go_wp2_with fail
  with_reducible refine (CS.out).mono ?_
  rintro e w9 ⟨rfl, hbq⟩
  replace HL := Lib.hid (HL.out.below hbq)
  clear hbq CS
  go_wp2_with fail
  with_reducible refine (CLV.out _).mono ?_
  rintro e v6 ⟨rfl, hbq⟩
  have HBe := Lib.hid (below_step HL.out.bel hbq)
  go_wp2_with fail
  go_ret
  exact ⟨rfl, HBe.out⟩

end Go.Proofs.YtnhljlmelbiljaaGreat
