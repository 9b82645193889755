/- Layer 19: TabletsCompact. -/
import Derived.Test.YtnhljlmelbiljaaGreatTbltX
import Derived.Test.YtnhljlmelbiljaaGreatZR
import Derived.Deep.CutRange
import Derived.BigQuiet
namespace Go.Proofs.YtnhljlmelbiljaaGreat
set_option linter.unusedVariables false
set_option linter.unusedSimpArgs false
open Go Go.RowKit
attribute [local go_sem ↓] run_index_S
attribute [local go_sem] S_append S_extract

set_option maxHeartbeats 8000000 in
set_option maxRecDepth 100000 in
theorem tabletsCompact_calls (W : World) (v0 : Value) (h0 : UDa W v0) (key : List UInt8) (hk : key.length ≤ 140737488351232) : Calls Tryz.prog 6 #[v0, .string (S key)] W fun e w' => e = .returned (.bool true) ∧ Below W.heap.size W w' := by
  obtain ⟨⟨f, t, L, Lo, Lk, R, Ro, Rk⟩, rfl, hin, hat⟩ := h0
  have hB0 : Below W.heap.size W (W.alloc (.cells #[.string (S f), .string (S t), .slice Lo L.length Lk, .slice Ro R.length Rk] 25)) := (Below.refl W.heap.size W).alloc (by simp) _
  have HB := Lib.hid hB0
  have HR0 := Lib.hid (show RowIn #[.string (S f), .string (S t), .slice Lo L.length Lk, .slice Ro R.length Rk] 25 (W.alloc (.cells #[.string (S f), .string (S t), .slice Lo L.length Lk, .slice Ro R.length Rk] 25)) W.heap.size from rowIn_new _ _ W)
  have HIN := Lib.hid hin
  have HAT := Lib.hid hat
  have CLV := Lib.hid lives19_any
  have CBy := Lib.hid (beyond19_use f t L Lo Lk R Ro Rk (W.alloc (.cells #[.string (S f), .string (S t), .slice Lo L.length Lk, .slice Ro R.length Rk] 25)) hin (hat.below hB0))
  clear hB0 hin hat
  unfold daV at *
  go_enter Tryz.func6, Tryz.ntmps6
  go_wp2_with fail
  generalize (W.alloc (.cells #[.string (S f), .string (S t), .slice Lo L.length Lk, .slice Ro R.length Rk] 25)) = W0 at *
  with_reducible refine (CBy.out).mono ?_
  rintro e w1 ⟨rfl | ⟨rfl, hsm⟩, hbq⟩
  · replace HB := Lib.hid (below_step HB.out hbq)
    go_wp2_with fail
    with_reducible refine (CLV.out _).mono ?_
    rintro e wl ⟨rfl, hbl⟩
    have HBl := Lib.hid (below_step HB.out hbl)
    go_wp2_with fail
    go_ret
    exact ⟨rfl, HBl.out⟩
  replace HB := Lib.hid (below_step HB.out hbq)
  replace HR0 := Lib.hid (HR0.out.below hbq)
  clear hbq CBy
  by_cases hk0 : 100 < key.length
  · have e0 : decide ((100 : Int) < (key.length : Int)) = true := by simp; omega
    go_wp2_with fail
    with_reducible refine (CLV.out _).mono ?_
    rintro e wl ⟨rfl, hbl⟩
    have HBl := Lib.hid (below_step HB.out hbl)
    go_wp2_with fail
    go_ret
    exact ⟨rfl, HBl.out⟩
  have e0 : decide ((100 : Int) < (key.length : Int)) = false := by simp; omega
  have hf := hsm.f
  have ht := hsm.t
  simp only at hf ht
  have r0 := HR0.out.cell 0
  have r1 := HR0.out.cell 1
  have r2 := HR0.out.cell 2
  have r3 := HR0.out.cell 3
  simp at r0 r1 r2 r3
  have CM := Lib.hid (made19_use f t L Lo Lk R Ro Rk w1 HIN.out (HAT.out.below HB.out) hsm)
  go_wp2_with fail
  with_reducible refine (CM.out).mono ?_
  rintro e w2 ⟨b, ta, tc, Ts, ro, rc, Rs, rfl, hmk, hmq, hbq⟩
  replace HB := Lib.hid (below_step HB.out hbq)
  have HMK := Lib.hid hmk
  have HMQ := Lib.hid hmq
  clear hmk hmq hbq CM r0 r1 r2 r3 hsm HR0 HAT HIN
  generalize M.putsL [] L = K0 at *
  go_upto_region 6 with fail
  have HL := Lib.hid (show Tw19 W f t K0 w2.heap.size b ta tc Ts ro Rs ((w2.alloc (.cells #[.string (S f), .string (S t), .pointer (some ⟨b, 0, none⟩), .slice ta Ts.length tc] 32)).alloc (.cells #[.string (S f), .string (S t), .slice ro Rs.length rc] 34)) from by
    have hb : Below w2.heap.size w2 ((w2.alloc (.cells #[.string (S f), .string (S t), .pointer (some ⟨b, 0, none⟩), .slice ta Ts.length tc] 32)).alloc (.cells #[.string (S f), .string (S t), .slice ro Rs.length rc] 34)) := ((Below.refl _ _).alloc (Nat.le_refl _) _).alloc (by rw [szA]; omega) _
    exact ⟨HMK.out.below hb, (rowIn_new _ _ w2).more _, below_step HB.out hb⟩)
  generalize ((w2.alloc (.cells #[.string (S f), .string (S t), .pointer (some ⟨b, 0, none⟩), .slice ta Ts.length tc] 32)).alloc (.cells #[.string (S f), .string (S t), .slice ro Rs.length rc] 34)) = W2 at *
  obtain ⟨b5, hb5⟩ : ∃ x, x = w2.heap.size := ⟨_, rfl⟩
  replace HL := Lib.hid (show Tw19 W f t K0 b5 b ta tc Ts ro Rs W2 from by rw [hb5]; exact HL.out)
  rw [← hb5]
  clear hb5 HMK HB
  have hK0 : K0.length ≤ 4096 := by have := HMQ.out.l0; omega
  obtain ⟨s0, s1, s2, s3⟩ := HL.out.s
  have CE := Lib.hid (tmrg19 (f := f) (t := t) (tc := tc) HL.out.kit.tt (by omega) (by omega))
  unfold NewR19 at CE
  go_wp2_with fail
  with_reducible refine (CE.out).mono ?_
  rintro e w3 ⟨a8, c8, rfl, ho8, hbq⟩
  replace HL := Lib.hid (HL.out.below hbq)
  have HO8 := Lib.hid ho8
  clear hbq ho8 CE s0 s1 s2 s3
  have HCP := Lib.hid (fun K hK => M.compact19 (f := f) (t := t) HMQ.out.pw HMQ.out.pwt K hK)
  have hl200 := HMQ.out.mlen f t [] []
  have HA240 := Lib.hid (HMQ.out.rlen f t [] [])
  have HLok := Lib.hid (show OkL (M.rangeT f t (M.tls Ts) [] []) from ⟨M.srt_of _ none (fun c hc => by
      obtain ⟨l, h1, h2⟩ := M.newR_mem hc
      obtain ⟨m, hm, rfl⟩ := List.mem_map.1 h1
      exact M.srt_may (HMQ.out.ok m (List.mem_cons_of_mem _ hm)).1 c (List.mem_filter.1 h2).1) (fun q e => by cases e) (M.less_strict (M.rangeT_pwk f t HMQ.out.pwt [] [])), by omega, fun c hc => by
      obtain ⟨l, h1, h2⟩ := M.newR_mem hc
      obtain ⟨m, hm, rfl⟩ := List.mem_map.1 h1
      exact (HMQ.out.ok m (List.mem_cons_of_mem _ hm)).2.2 c (List.mem_filter.1 h2).1⟩)
  generalize M.rangeT f t (M.tls Ts) [] [] = l at *
  obtain ⟨s0, s1, s2, s3⟩ := HL.out.s
  go_upto_region 11 with fail
  clear s0 s1 s2 s3
  have hal := (Below.refl w3.heap.size w3).alloc (Nat.le_refl _) (.cells #[.string (S f), .string (S t), .pointer (some ⟨b, 0, none⟩), .slice none 0 0] 32)
  have HBX := Lib.hid (rowIn_new #[.string (S f), .string (S t), .pointer (some ⟨b, 0, none⟩), .slice none 0 0] 32 w3)
  have HBw := Lib.hid hal
  have HO9 := Lib.hid (ownP_below HO8.out hal)
  clear hal
  generalize (w3.alloc (.cells #[.string (S f), .string (S t), .pointer (some ⟨b, 0, none⟩), .slice none 0 0] 32)) = W3 at *
  obtain ⟨b10, hb10⟩ : ∃ x, x = w3.heap.size := ⟨_, rfl⟩
  have HB10 := Lib.hid hb10
  replace HBX := Lib.hid (show RowIn #[.string (S f), .string (S t), .pointer (some ⟨b, 0, none⟩), .slice none 0 0] 32 W3 b10 from by rw [hb10]; exact HBX.out)
  rw [← hb10]
  clear hb10
  by_cases hl0 : l.length = 0
  · have HKc := Lib.hid (show (([] : List (List M.Cl)) = [] ∧ l = []) ∨ ([] : List (List M.Cl)) = [l] from .inl ⟨rfl, List.eq_nil_of_length_eq_zero hl0⟩)
    have d2 : decide ((0 : Int) < (l.length : Int)) = false := by rw [hl0]; rfl
    have d3 : decide (0 < l.length) = false := by rw [hl0]; rfl
    obtain ⟨tn, htn⟩ : ∃ n, n = 0 := ⟨_, rfl⟩
    obtain ⟨Tn, hTn⟩ : ∃ T : List M.Tp, T = [] := ⟨_, rfl⟩
    have HTn := Lib.hid (show M.tls Tn = ([] : List (List M.Cl)) from by rw [hTn]; rfl)
    replace HL := Lib.hid (HL.out.below HBw.out)
    have HN := Lib.hid (show Tw19 W f t K0 b10 b none tn Tn ro Rs W3 from by rw [hTn, htn]; exact ⟨⟨⟨HL.out.kit.tt.mem, fun h => absurd rfl h, by simp⟩, HL.out.kit.mx, HL.out.kit.rr⟩, HBX.out, HL.out.bel⟩)
    clear htn hTn hl0 HBX HBw HO8 HO9 HLok HB10
    have HG := Lib.hid (HCP.out _ HKc.out)
    clear HCP HKc
    obtain ⟨s0, s1, s2, s3⟩ := HL.out.s
    have CA := Lib.hid (trng19_all (f := f) (t := t) (tc := tc) HL.out.kit.tt hK0 (by omega) (by omega))
    unfold NewR19 at CA
    go_wp2_with fail
    with_reducible refine (CA.out).mono ?_
    rintro e v1 ⟨aA, cA, rfl, hoA, hbq⟩
    replace HL := Lib.hid (HL.out.below hbq)
    replace HN := Lib.hid (HN.out.below hbq)
    have HCA := Lib.hid (clsAt_own hoA rfl)
    clear hbq hoA CA s0 s1 s2 s3
    have CBn := Lib.hid (trng19_all (f := f) (t := t) (tc := tn) HN.out.kit.tt hK0 (by omega) (by omega))
    unfold NewR19 at CBn
    rw [HTn.out, HG.out.2] at CBn
    have hA240 := HA240.out
    generalize M.rangeT f t (K0 :: M.tls Ts) [] [] = A at *
    obtain ⟨s0, s1, s2, s3⟩ := HN.out.s
    go_wp2_with fail
    with_reducible refine (CBn.out).mono ?_
    rintro e v2 ⟨aB, cB, rfl, hoB, hbq⟩
    replace HL := Lib.hid (HL.out.below hbq)
    replace HN := Lib.hid (HN.out.below hbq)
    replace HCA := Lib.hid (HCA.out.below hbq)
    have HCB := Lib.hid (clsAt_own hoB rfl)
    clear hbq hoB CBn s0 s1 s2 s3
    have CG := Lib.hid (tget19 (f := f) (t := t) (tc := tc) HL.out.kit.tt key (by omega))
    unfold FindR9 at CG
    have HGK := Lib.hid (HG.out.1 key)
    generalize M.getT f t (K0 :: M.tls Ts) key = r at *
    obtain ⟨s0, s1, s2, s3⟩ := HL.out.s
    go_wp2_with fail
    with_reducible refine (CG.out).mono ?_
    rintro e v3 ⟨rfl, hbq⟩
    have hal := (Below.refl v3.heap.size v3).alloc (Nat.le_refl _) (.cells (clA (r.getD M.cl0)) 38)
    replace HL := Lib.hid ((HL.out.below hbq).below hal)
    replace HN := Lib.hid ((HN.out.below hbq).below hal)
    replace HCA := Lib.hid ((HCA.out.below hbq).below hal)
    replace HCB := Lib.hid ((HCB.out.below hbq).below hal)
    have HX1 := Lib.hid (rowIn_new (clA (r.getD M.cl0)) 38 v3)
    clear hbq hal CG s0 s1 s2 s3
    obtain ⟨s0, s1, s2, s3⟩ := HN.out.s
    go_upto_region 20 with fail
    generalize v3.alloc (.cells (clA (r.getD M.cl0)) 38) = V3 at *
    have CGn := Lib.hid (tget19 (f := f) (t := t) (tc := tn) HN.out.kit.tt key (by omega))
    unfold FindR9 at CGn
    rw [HTn.out, HGK.out] at CGn
    go_wp2_with fail
    with_reducible refine (CGn.out).mono ?_
    rintro e v4 ⟨rfl, hbq⟩
    have hal := (Below.refl v4.heap.size v4).alloc (Nat.le_refl _) (.cells (clA (r.getD M.cl0)) 38)
    replace HL := Lib.hid ((HL.out.below hbq).below hal)
    replace HCA := Lib.hid ((HCA.out.below hbq).below hal)
    replace HCB := Lib.hid ((HCB.out.below hbq).below hal)
    replace HX1 := Lib.hid ((HX1.out.below hbq).below hal)
    have HX2 := Lib.hid (rowIn_new (clA (r.getD M.cl0)) 38 v4)
    clear hbq hal CGn s0 s1 s2 s3 HN
    go_upto_region 21 with fail
    generalize v4.alloc (.cells (clA (r.getD M.cl0)) 38) = V4 at *
    have CS := Lib.hid (same19_yes A aA aB A.length cA cB rfl (by omega) HCA.out HCB.out)
    go_wp2_with fail
    with_reducible refine (CS.out).mono ?_
    rintro e v5 ⟨rfl, hbq⟩
    replace HL := Lib.hid (HL.out.below hbq)
    replace HX1 := Lib.hid (HX1.out.below hbq)
    replace HX2 := Lib.hid (HX2.out.below hbq)
    clear hbq CS
    have x0 := HX1.out.cell 0
    have x1 := HX1.out.cell 1
    have x2 := HX1.out.cell 2
    have z0 := HX2.out.cell 0
    have z1 := HX2.out.cell 1
    have z2 := HX2.out.cell 2
    simp at x0 x1 x2 z0 z1 z2
    go_wp2_with fail
    with_reducible refine (CLV.out _).mono ?_
    rintro e v6 ⟨rfl, hbq⟩
    have HBe := Lib.hid (below_step HL.out.bel hbq)
    go_wp2_with fail
    go_ret
    exact ⟨rfl, HBe.out⟩
  · have d2 : decide ((0 : Int) < (l.length : Int)) = true := by simp; omega
    have d3 : decide (0 < l.length) = true := by simp; omega
    clear hl0
    have CB := Lib.hid (buildOk19 l HLok.out.1 (by omega) a8 c8 (own_capT HO9.out) W3 (clsAt_own HO9.out rfl) HLok.out.2.2)
    go_wp2_with fail
    with_reducible refine (CB.out).mono ?_
    rintro e w4 ⟨rfl, hbq⟩
    replace HBX := Lib.hid (HBX.out.below hbq)
    replace HBw := Lib.hid (below_step HBw.out hbq)
    have CO := Lib.hid (openOk19 l HLok.out.1 (by omega) w4 HLok.out.2.2)
    clear hbq CB
    generalize M.tableT l = tx at *
    go_wp2_with fail
    with_reducible refine (CO.out).mono ?_
    rintro e w5 ⟨p, rfl, hok, hbq⟩
    have hal := (Below.refl w5.heap.size w5).alloc (Nat.le_refl _) (.cells #[.pointer (some ⟨p, 0, none⟩)] 59)
    replace HBX := Lib.hid ((HBX.out.below hbq).below hal)
    replace HBw := Lib.hid (below_step (below_step HBw.out hbq) hal)
    have HOK := Lib.hid (hok.below hal)
    have HPT := Lib.hid (rowIn_new #[.pointer (some ⟨p, 0, none⟩)] 59 w5)
    clear hbq hal CO hok
    have x3 := HBX.out.cell 3
    have f3 := HBX.out.free 3
    simp at x3
    go_upto_region 17 with fail
    clear x3 f3
    have HNX := Lib.hid (show RowIn #[.string (S f), .string (S t), .pointer (some ⟨b, 0, none⟩), .slice (some ⟨w5.heap.size, 0, none⟩) 1 1] 32 ((w5.alloc (.cells #[.pointer (some ⟨p, 0, none⟩)] 59)).setCell ⟨b10, 3, none⟩ (.slice (some ⟨w5.heap.size, 0, none⟩) 1 1)) b10 from HBX.out.set 3 _)
    have hne : w5.heap.size ≠ b10 := fun e => by
      have h1 := HPT.out
      rw [e] at h1
      have := h1.symm.trans HBX.out
      injection this with this
      injection this with _ this
      exact absurd this (by decide)
    replace HPT := Lib.hid (HPT.out.other hne 3 (.slice (some ⟨w5.heap.size, 0, none⟩) 1 1))
    replace HOK := Lib.hid (HOK.out.map19 (fun q hq => hq.set19 HBX.out (by decide) (by decide) 3 (.slice (some ⟨w5.heap.size, 0, none⟩) 1 1)))
    replace HBw := Lib.hid (show Below w3.heap.size w3 ((w5.alloc (.cells #[.pointer (some ⟨p, 0, none⟩)] 59)).setCell ⟨b10, 3, none⟩ (.slice (some ⟨w5.heap.size, 0, none⟩) 1 1)) from HBw.out.setCell (by rw [HB10.out]; exact Nat.le_refl _) _)
    generalize ((w5.alloc (.cells #[.pointer (some ⟨p, 0, none⟩)] 59)).setCell ⟨b10, 3, none⟩ (.slice (some ⟨w5.heap.size, 0, none⟩) 1 1)) = W6 at *
    generalize w5.heap.size = bp at *
    clear hne
    replace HL := Lib.hid (HL.out.below HBw.out)
    obtain ⟨tn, htn⟩ : ∃ n, n = 1 := ⟨_, rfl⟩
    obtain ⟨Tn, hTn⟩ : ∃ T : List M.Tp, T = [⟨some p, l⟩] := ⟨_, rfl⟩
    have HTn := Lib.hid (show M.tls Tn = [l] from by rw [hTn]; rfl)
    have HN := Lib.hid (show Tw19 W f t K0 b10 b (some ⟨bp, 0, none⟩) tn Tn ro Rs W6 from by rw [hTn, htn]; exact ⟨⟨⟨HL.out.kit.tt.mem, fun _ => ⟨bp, 0, rfl, fun j hj => by
      match j, hj with
      | 0, _ => exact ⟨HPT.out.cell 0, HOK.out⟩
      | j + 1, hj => simp at hj⟩, by simp⟩, HL.out.kit.mx, HL.out.kit.rr⟩, HNX.out, HL.out.bel⟩)
    clear htn hTn HBX HBw HO8 HO9 HLok HB10 HNX HPT HOK
    have HKc := Lib.hid (show ([l] = [] ∧ l = []) ∨ [l] = [l] from .inr rfl)
    have HG := Lib.hid (HCP.out _ HKc.out)
    clear HCP HKc
    obtain ⟨s0, s1, s2, s3⟩ := HL.out.s
    have CA := Lib.hid (trng19_all (f := f) (t := t) (tc := tc) HL.out.kit.tt hK0 (by omega) (by omega))
    unfold NewR19 at CA
    go_wp2_with fail
    with_reducible refine (CA.out).mono ?_
    rintro e v1 ⟨aA, cA, rfl, hoA, hbq⟩
    replace HL := Lib.hid (HL.out.below hbq)
    replace HN := Lib.hid (HN.out.below hbq)
    have HCA := Lib.hid (clsAt_own hoA rfl)
    clear hbq hoA CA s0 s1 s2 s3
    have CBn := Lib.hid (trng19_all (f := f) (t := t) (tc := tn) HN.out.kit.tt hK0 (by omega) (by omega))
    unfold NewR19 at CBn
    rw [HTn.out, HG.out.2] at CBn
    have hA240 := HA240.out
    generalize M.rangeT f t (K0 :: M.tls Ts) [] [] = A at *
    obtain ⟨s0, s1, s2, s3⟩ := HN.out.s
    go_wp2_with fail
    with_reducible refine (CBn.out).mono ?_
    rintro e v2 ⟨aB, cB, rfl, hoB, hbq⟩
    replace HL := Lib.hid (HL.out.below hbq)
    replace HN := Lib.hid (HN.out.below hbq)
    replace HCA := Lib.hid (HCA.out.below hbq)
    have HCB := Lib.hid (clsAt_own hoB rfl)
    clear hbq hoB CBn s0 s1 s2 s3
    have CG := Lib.hid (tget19 (f := f) (t := t) (tc := tc) HL.out.kit.tt key (by omega))
    unfold FindR9 at CG
    have HGK := Lib.hid (HG.out.1 key)
    generalize M.getT f t (K0 :: M.tls Ts) key = r at *
    obtain ⟨s0, s1, s2, s3⟩ := HL.out.s
    go_wp2_with fail
    with_reducible refine (CG.out).mono ?_
    rintro e v3 ⟨rfl, hbq⟩
    have hal := (Below.refl v3.heap.size v3).alloc (Nat.le_refl _) (.cells (clA (r.getD M.cl0)) 38)
    replace HL := Lib.hid ((HL.out.below hbq).below hal)
    replace HN := Lib.hid ((HN.out.below hbq).below hal)
    replace HCA := Lib.hid ((HCA.out.below hbq).below hal)
    replace HCB := Lib.hid ((HCB.out.below hbq).below hal)
    have HX1 := Lib.hid (rowIn_new (clA (r.getD M.cl0)) 38 v3)
    clear hbq hal CG s0 s1 s2 s3
    obtain ⟨s0, s1, s2, s3⟩ := HN.out.s
    go_upto_region 20 with fail
    generalize v3.alloc (.cells (clA (r.getD M.cl0)) 38) = V3 at *
    have CGn := Lib.hid (tget19 (f := f) (t := t) (tc := tn) HN.out.kit.tt key (by omega))
    unfold FindR9 at CGn
    rw [HTn.out, HGK.out] at CGn
    go_wp2_with fail
    with_reducible refine (CGn.out).mono ?_
    rintro e v4 ⟨rfl, hbq⟩
    have hal := (Below.refl v4.heap.size v4).alloc (Nat.le_refl _) (.cells (clA (r.getD M.cl0)) 38)
    replace HL := Lib.hid ((HL.out.below hbq).below hal)
    replace HCA := Lib.hid ((HCA.out.below hbq).below hal)
    replace HCB := Lib.hid ((HCB.out.below hbq).below hal)
    replace HX1 := Lib.hid ((HX1.out.below hbq).below hal)
    have HX2 := Lib.hid (rowIn_new (clA (r.getD M.cl0)) 38 v4)
    clear hbq hal CGn s0 s1 s2 s3 HN
    go_upto_region 21 with fail
    generalize v4.alloc (.cells (clA (r.getD M.cl0)) 38) = V4 at *
    have CS := Lib.hid (same19_yes A aA aB A.length cA cB rfl (by omega) HCA.out HCB.out)
    go_wp2_with fail
    with_reducible refine (CS.out).mono ?_
    rintro e v5 ⟨rfl, hbq⟩
    replace HL := Lib.hid (HL.out.below hbq)
    replace HX1 := Lib.hid (HX1.out.below hbq)
    replace HX2 := Lib.hid (HX2.out.below hbq)
    clear hbq CS
    have x0 := HX1.out.cell 0
    have x1 := HX1.out.cell 1
    have x2 := HX1.out.cell 2
    have z0 := HX2.out.cell 0
    have z1 := HX2.out.cell 1
    have z2 := HX2.out.cell 2
    simp at x0 x1 x2 z0 z1 z2
    go_wp2_with fail
    with_reducible refine (CLV.out _).mono ?_
    rintro e v6 ⟨rfl, hbq⟩
    have HBe := Lib.hid (below_step HL.out.bel hbq)
    go_wp2_with fail
    go_ret
    exact ⟨rfl, HBe.out⟩

end Go.Proofs.YtnhljlmelbiljaaGreat
