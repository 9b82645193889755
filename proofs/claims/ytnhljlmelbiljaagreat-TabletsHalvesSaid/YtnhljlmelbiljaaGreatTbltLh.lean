/- Layer 19: TabletsHalves. -/
import Derived.Test.YtnhljlmelbiljaaGreatTbltX
import Derived.Test.YtnhljlmelbiljaaGreatZR
import Derived.Deep.CutRange
import Derived.BigQuiet
import Derived.Test.YtnhljlmelbiljaaGreatTbltMh
import Derived.Test.YtnhljlmelbiljaaGreatZMOv
namespace Go.Proofs.YtnhljlmelbiljaaGreat
set_option linter.unusedVariables false
set_option linter.unusedSimpArgs false
open Go Go.RowKit
attribute [local go_sem ↓] run_index_S
attribute [local go_sem] S_append S_extract

theorem memX_tab19 {X : Nat → Prop} {B b rb : Nat} {L : List M.Cl} {C : Array Value} {w : World} (h : MemX X B b L w) (hr : RowIn C 32 w rb) (i : Nat) (v : Value) : MemX X B b L (w.setCell ⟨rb, i, none⟩ v) := by
  obtain ⟨pa, pc, Ps, h1, h2, h3⟩ := h
  refine ⟨pa, pc, Ps, h1.only (onlyS_set (A := fun k => k = rb) w rb i v rfl) (fun k hk e => ?_), h2, h3⟩
  subst e
  rcases hk with rfl | ⟨o, rfl⟩ | ⟨p, hp, rfl⟩
  · exact rowIn_ne h1.row hr (by decide) rfl
  · exact row_apart hr h1.pgs.row (by decide) k rfl rfl
  · obtain ⟨_, ⟨C', hC⟩, _⟩ := h1.blk p hp
    exact rowIn_ne hC hr (by decide) rfl
theorem wpList_append_cls_on19 {w : World} {ops : Array Oper} {rest : List Oper} {o : Oper} {a : Act} {Q : Exit → Act → World → Prop} (hgd : Region.wanted o (yielded ops a.tmps) = true) (s x : Operand) (t : TypeId)
    (hop : o.op = .call { callee := .builtin .append, args := #[s, x], argTypes := #[t, t] })
    (base : Nat) (i : TypeInfo) (z : Value) (ht : Tryz.prog.underlying t = some (.slice 38)) (hi : Tryz.prog.info? 38 = some i) (hz : i.zero = some z) (h1 : i.size = 3) (h2 : i.bytes = 40) (h3 : z.cells.size = 3)
    (v : Value) (n : Nat) (xs : List Value) (hv : a.eval s = v) (ho : w.ownsRow base 38 3 v n xs) (ao : Option Addr) (c : Nat) (L : List M.Cl) (hx : a.eval x = .slice ao L.length c) (hs : ClsAt w ao L) (h63 : n + L.length ≤ 1000000) (hbase : base ≤ w.heap.size)
    (h : ∀ v' w', w'.ownsRow base 38 3 v' (n + L.length) (xs ++ cls L) → w.grownBy w' v.ownBlock → (v'.ownBlock = v.ownBlock ∨ v'.ownBlock = some w.heap.size) → wpList Tryz.prog ops Q rest (a.put o.dst v') w') :
    wpList Tryz.prog ops Q (o :: rest) a w := by
  unfold wpList
  rw [if_pos hgd]
  refine Or.inl ?_
  obtain ⟨v', w', hrun, h5, h6, h7⟩ := append_cls_at w base t o.type i z ht hi hz h1 h2 h3 v n xs ho ao c L hs h63 hbase
  unfold Oper.wp execOp
  simp only [hop, resolve, invoke, builtin, Sem.run_bind, Sem.run_pure, Result.andThen_ok, List.map_toArray, List.map_cons, List.map_nil, hv, hx, hrun]
  exact h v' w' h5 h6 h7
set_option maxHeartbeats 8000000 in
set_option maxRecDepth 100000 in
theorem tabletsHalves_calls (W : World) (v0 : Value) (h0 : UDa W v0) (at_ : List UInt8) (hat0 : at_.length ≤ 140737488351232) (key : List UInt8) (hk : key.length ≤ 140737488351232) : Calls Tryz.prog 5 #[v0, .string (S at_), .string (S key)] W fun e w' => e = .returned (.bool true) ∧ Below W.heap.size W w' := by
  obtain ⟨⟨f, t, L, Lo, Lk, R, Ro, Rk⟩, rfl, hin, hat⟩ := h0
  have hB0 : Below W.heap.size W (W.alloc (.cells #[.string (S f), .string (S t), .slice Lo L.length Lk, .slice Ro R.length Rk] 25)) := (Below.refl W.heap.size W).alloc (by simp) _
  have HB := Lib.hid hB0
  have HR0 := Lib.hid (show RowIn #[.string (S f), .string (S t), .slice Lo L.length Lk, .slice Ro R.length Rk] 25 (W.alloc (.cells #[.string (S f), .string (S t), .slice Lo L.length Lk, .slice Ro R.length Rk] 25)) W.heap.size from rowIn_new _ _ W)
  have HIN := Lib.hid hin
  have HAT := Lib.hid hat
  have CLV := Lib.hid lives19_any
  have CBy := Lib.hid (beyond19_use f t L Lo Lk R Ro Rk (W.alloc (.cells #[.string (S f), .string (S t), .slice Lo L.length Lk, .slice Ro R.length Rk] 25)) hin (hat.below hB0))
  clear hB0 hin hat
  unfold daV at *
  go_enter Tryz.func5, Tryz.ntmps5
  go_wp2_with fail
  generalize (W.alloc (.cells #[.string (S f), .string (S t), .slice Lo L.length Lk, .slice Ro R.length Rk] 25)) = W0 at *
  with_reducible refine (CBy.out).mono ?_
  rintro e w1 ⟨rfl | ⟨rfl, hsm⟩, hbq⟩
  · replace HB := Lib.hid (below_step HB.out hbq)
    go_wp2_with fail
    with_reducible refine (CLV.out _).mono ?_
    rintro e wl ⟨rfl, hbl⟩
    have HBl := Lib.hid (below_step HB.out hbl)
    go_wp2_with fail
    go_ret
    exact ⟨rfl, HBl.out⟩
  replace HB := Lib.hid (below_step HB.out hbq)
  replace HR0 := Lib.hid (HR0.out.below hbq)
  clear hbq CBy
  by_cases hk0 : 100 < at_.length
  · have e0 : decide ((100 : Int) < (at_.length : Int)) = true := by simp; omega
    go_wp2_with fail
    with_reducible refine (CLV.out _).mono ?_
    rintro e wl ⟨rfl, hbl⟩
    have HBl := Lib.hid (below_step HB.out hbl)
    go_wp2_with fail
    go_ret
    exact ⟨rfl, HBl.out⟩
  have e0 : decide ((100 : Int) < (at_.length : Int)) = false := by simp; omega
  by_cases hk1 : 100 < key.length
  · have e1 : decide ((100 : Int) < (key.length : Int)) = true := by simp; omega
    go_wp2_with fail
    with_reducible refine (CLV.out _).mono ?_
    rintro e wl ⟨rfl, hbl⟩
    have HBl := Lib.hid (below_step HB.out hbl)
    go_wp2_with fail
    go_ret
    exact ⟨rfl, HBl.out⟩
  have e1 : decide ((100 : Int) < (key.length : Int)) = false := by simp; omega
  have hf := hsm.f
  have ht := hsm.t
  simp only at hf ht
  have r0 := HR0.out.cell 0
  have r1 := HR0.out.cell 1
  have r2 := HR0.out.cell 2
  have r3 := HR0.out.cell 3
  simp at r0 r1 r2 r3
  have CM := Lib.hid (made19_use f t L Lo Lk R Ro Rk w1 HIN.out (HAT.out.below HB.out) hsm)
  go_wp2_with fail
  with_reducible refine (CM.out).mono ?_
  rintro e w2 ⟨b, ta, tc, Ts, ro, rc, Rs, rfl, hmk, hmq, hbq⟩
  replace HB := Lib.hid (below_step HB.out hbq)
  have HMK := Lib.hid hmk
  have HMQ := Lib.hid hmq
  replace HR0 := Lib.hid (HR0.out.below hbq)
  clear hmk hmq hbq CM r0 r1 r2 r3 hsm HAT HIN
  generalize M.putsL [] L = K0 at *
  go_upto_region 6 with fail
  have HL := Lib.hid (show Tw19 W f t K0 w2.heap.size b ta tc Ts ro Rs ((w2.alloc (.cells #[.string (S f), .string (S t), .pointer (some ⟨b, 0, none⟩), .slice ta Ts.length tc] 32)).alloc (.cells #[.string (S f), .string (S t), .slice ro Rs.length rc] 34)) from by
    have hb : Below w2.heap.size w2 ((w2.alloc (.cells #[.string (S f), .string (S t), .pointer (some ⟨b, 0, none⟩), .slice ta Ts.length tc] 32)).alloc (.cells #[.string (S f), .string (S t), .slice ro Rs.length rc] 34)) := ((Below.refl _ _).alloc (Nat.le_refl _) _).alloc (by rw [szA]; omega) _
    exact ⟨HMK.out.below hb, (rowIn_new _ _ w2).more _, below_step HB.out hb⟩)
  replace HR0 := Lib.hid (HR0.out.below (show Below w2.heap.size w2 ((w2.alloc (.cells #[.string (S f), .string (S t), .pointer (some ⟨b, 0, none⟩), .slice ta Ts.length tc] 32)).alloc (.cells #[.string (S f), .string (S t), .slice ro Rs.length rc] 34)) from ((Below.refl _ _).alloc (Nat.le_refl _) _).alloc (by rw [szA]; omega) _))
  generalize ((w2.alloc (.cells #[.string (S f), .string (S t), .pointer (some ⟨b, 0, none⟩), .slice ta Ts.length tc] 32)).alloc (.cells #[.string (S f), .string (S t), .slice ro Rs.length rc] 34)) = W2 at *
  obtain ⟨b5, hb5⟩ : ∃ x, x = w2.heap.size := ⟨_, rfl⟩
  replace HL := Lib.hid (show Tw19 W f t K0 b5 b ta tc Ts ro Rs W2 from by rw [hb5]; exact HL.out)
  rw [← hb5]
  clear hb5 HMK HB
  have hK0 : K0.length ≤ 4096 := by have := HMQ.out.l0; omega
  obtain ⟨s0, s1, s2, s3⟩ := HL.out.s
  have r0 := HR0.out.cell 0
  have r1 := HR0.out.cell 1
  simp at r0 r1
  clear s0 s1 s2 s3 HR0
  go_cut [57] from 43 to 57 (fun c wx => wx = W2 ∧ (c = .bool true ∨ (c = .bool false ∧ Hid (Op.bytesLess f at_ = true ∧ (t = [] ∨ Op.bytesLess at_ t = true)))))
  case first =>
    clear HL HMQ
    cases q1 : Op.bytesLess f at_ with
    | false =>
      rcases M.not_less q1 with e | e
      · subst e
        have e1 : Op.bytesLess f f = false := M.less_irr _
        go_wp2_with fail
        go_meet
        case rel => exact ⟨rfl, .inl rfl⟩
      · have e1 : Op.bytesLess at_ f = true := e
        go_wp2_with fail
        go_meet
        case rel => exact ⟨rfl, .inl rfl⟩
    | true =>
      have e1 : Op.bytesLess at_ f = false := M.less_asym19 q1
      have e2 : (at_ == f) = false := by
        cases q : (at_ == f) with
        | false => rfl
        | true => rw [eq_of_beq q, M.less_irr] at q1; cases q1
      cases t with
      | nil =>
        have q1' := Lib.hid q1
        clear q1
        go_wp2_with fail
        go_meet
        case rel => exact ⟨rfl, .inr ⟨rfl, Lib.hid ⟨q1'.out, by simp⟩⟩⟩
      | cons x l =>
        have q1' := Lib.hid q1
        clear q1
        have e3 : (x :: l).isEmpty = false := rfl
        generalize x :: l = t at *
        cases q2 : Op.bytesLess at_ t with
        | false =>
          go_wp2_with fail
          go_meet
          case rel => exact ⟨rfl, .inl rfl⟩
        | true =>
          have q2' := Lib.hid q2
          go_wp2_with fail
          go_meet
          case rel => exact ⟨rfl, .inr ⟨rfl, Lib.hid ⟨q1'.out, .inr q2'.out⟩⟩⟩
  case rest =>
  obtain ⟨rfl, rfl | ⟨rfl, HQ⟩⟩ := hcut
  · have HB := Lib.hid HL.out.bel
    go_wp2_with fail
    with_reducible refine (CLV.out _).mono ?_
    rintro e wl ⟨rfl, hbl⟩
    have HBl := Lib.hid (below_step HB.out hbl)
    go_wp2_with fail
    go_ret
    exact ⟨rfl, HBl.out⟩
  clear r0 r1
  have HH := Lib.hid (M.halves19 (f := f) (t := t) HMQ.out.pw HQ.out.1 HQ.out.2)
  have hA := Lib.hid (HMQ.out.rlen f t [] [])
  obtain ⟨s0, s1, s2, s3⟩ := HL.out.s
  have CA := Lib.hid (trng19_all (f := f) (t := t) (tc := tc) HL.out.kit.tt hK0 (by omega) (by omega))
  unfold NewR19 at CA
  generalize M.rangeT f t (K0 :: M.tls Ts) [] [] = A0 at *
  go_wp2_with fail
  with_reducible refine (CA.out).mono ?_
  rintro e v1 ⟨aA, cA, rfl, hoA, hbq⟩
  replace HL := Lib.hid (HL.out.below hbq)
  have HCA := Lib.hid (clsAt_own hoA rfl)
  clear hbq hoA CA s0 s1 s2 s3
  have CG := Lib.hid (tget19 (f := f) (t := t) (tc := tc) HL.out.kit.tt key (by omega))
  unfold FindR9 at CG
  have HGK := Lib.hid (HH.out.1 key)
  have HAA := Lib.hid (HH.out.2)
  clear HH
  generalize M.getT f t (K0 :: M.tls Ts) key = g at *
  obtain ⟨s0, s1, s2, s3⟩ := HL.out.s
  go_wp2_with fail
  with_reducible refine (CG.out).mono ?_
  rintro e v2 ⟨rfl, hbq⟩
  have hal := (Below.refl v2.heap.size v2).alloc (Nat.le_refl _) (.cells (clA (g.getD M.cl0)) 38)
  replace HL := Lib.hid ((HL.out.below hbq).below hal)
  replace HCA := Lib.hid ((HCA.out.below hbq).below hal)
  have HX1 := Lib.hid (rowIn_new (clA (g.getD M.cl0)) 38 v2)
  clear hbq hal CG s0 s1 s2 s3
  go_upto_region 10 with fail
  generalize v2.alloc (.cells (clA (g.getD M.cl0)) 38) = V2 at *
  obtain ⟨s0, s1, s2, s3⟩ := HL.out.s
  have HB0 := Lib.hid (Below.refl V2.heap.size V2)
  go_cut [14, 15] from 70 to 71 (fun p q wx => ∃ bp bq, p = .pointer (some ⟨bp, 0, none⟩) ∧ q = .pointer (some ⟨bq, 0, none⟩) ∧ Hid (RowIn #[.string (S f), .string (S t), .pointer (some ⟨b, 0, none⟩), .slice ta Ts.length tc] 32 wx bp) ∧ Hid (RowIn #[.string (S f), .string (S t), .pointer (some ⟨b, 0, none⟩), .slice ta Ts.length tc] 32 wx bq) ∧ Hid (bp ≠ bq ∧ V2.heap.size ≤ bp ∧ V2.heap.size ≤ bq) ∧ Hid (Below V2.heap.size V2 wx))
  case first =>
    have hlt := HL.out.bx.lt
    have HBB := Lib.hid ((((Below.refl V2.heap.size V2).alloc (Nat.le_refl _) (.cells #[.string (S f), .string (S t), .pointer (some ⟨b, 0, none⟩), .slice ta Ts.length tc] 32)).alloc (by rw [szA]; omega) (.cells #[.string (S f), .string (S t), .pointer (some ⟨b, 0, none⟩), .slice ta Ts.length tc] 32)).drew)
    have HR1 := Lib.hid ((((rowIn_new #[.string (S f), .string (S t), .pointer (some ⟨b, 0, none⟩), .slice ta Ts.length tc] 32 V2).more (.cells #[.string (S f), .string (S t), .pointer (some ⟨b, 0, none⟩), .slice ta Ts.length tc] 32))).below (Below.refl _ _).drew)
    have HR2 := Lib.hid (((rowIn_at #[.string (S f), .string (S t), .pointer (some ⟨b, 0, none⟩), .slice ta Ts.length tc] 32 (V2.alloc (.cells #[.string (S f), .string (S t), .pointer (some ⟨b, 0, none⟩), .slice ta Ts.length tc] 32)) (V2.heap.size + 1) (by rw [szA]))).below (Below.refl _ _).drew)
    go_region
    all_goals go_wp2_with fail
    all_goals go_meet
    · exact ⟨_, _, rfl, rfl, HR1, HR2, Lib.hid ⟨by omega, Nat.le_refl _, Nat.le_succ _⟩, HBB⟩
    · exact ⟨_, _, rfl, rfl, HR2, HR1, Lib.hid ⟨by omega, Nat.le_succ _, Nat.le_refl _⟩, HBB⟩
  case rest =>
  obtain ⟨bp, bq, rfl, rfl, HP, HQb, HN, HBx⟩ := hcut
  clear s0 s1 s2 s3 HB0
  have hne := HN.out.1
  have x1 := HP.out.cell 1
  have f1 := HP.out.free 1
  have x0 := HQb.out.cell 0
  have f0 := HQb.out.free 0
  simp at x1 x0
  go_upto_region 12 with fail
  clear x1 f1 x0 f0
  replace HBx := Lib.hid ((HBx.out.setCell HN.out.2.1 (p := ⟨bp, 1, none⟩) (.string (S at_))).setCell HN.out.2.2 (p := ⟨bq, 0, none⟩) (.string (S at_)))
  have HP2 := Lib.hid ((HP.out.set 1 (.string (S at_))).other hne 0 (.string (S at_)))
  have HQ2 := Lib.hid ((HQb.out.other hne.symm 1 (.string (S at_))).set 0 (.string (S at_)))
  replace HP := Lib.hid (show RowIn #[.string (S f), .string (S at_), .pointer (some ⟨b, 0, none⟩), .slice ta Ts.length tc] 32 ((wc.setCell ⟨bp, 1, none⟩ (.string (S at_))).setCell ⟨bq, 0, none⟩ (.string (S at_))) bp from HP2.out)
  replace HQb := Lib.hid (show RowIn #[.string (S at_), .string (S t), .pointer (some ⟨b, 0, none⟩), .slice ta Ts.length tc] 32 ((wc.setCell ⟨bp, 1, none⟩ (.string (S at_))).setCell ⟨bq, 0, none⟩ (.string (S at_))) bq from HQ2.out)
  clear HP2 HQ2
  generalize ((wc.setCell ⟨bp, 1, none⟩ (.string (S at_))).setCell ⟨bq, 0, none⟩ (.string (S at_))) = W4 at *
  obtain ⟨B, hmx⟩ := HL.out.kit.mx
  have CC := Lib.hid (cutX15 at_ (hmx.below HBx.out))
  unfold CutX at CC
  clear hmx
  obtain ⟨s0, s1, s2, s3⟩ := (HL.out.below HBx.out).s
  go_wp2_with fail
  with_reducible refine (CC.out).mono ?_
  rintro e w6 ⟨b1, b2, rfl, hm1, hm2, hbq⟩
  replace HP := Lib.hid (HP.out.below hbq)
  replace HQb := Lib.hid (HQb.out.below hbq)
  replace HBx := Lib.hid (below_step HBx.out hbq)
  have HM1 := Lib.hid hm1
  have HM2 := Lib.hid hm2
  clear hbq hm1 hm2 CC s0 s1 s2 s3
  have x1 := HP.out.cell 2
  have f1 := HP.out.free 2
  have x0 := HQb.out.cell 2
  have f0 := HQb.out.free 2
  simp at x1 x0
  go_upto_region 13 with fail
  clear x1 f1 x0 f0
  replace HBx := Lib.hid ((HBx.out.setCell HN.out.2.1 (p := ⟨bp, 2, none⟩) (.pointer (some ⟨b1, 0, none⟩))).setCell HN.out.2.2 (p := ⟨bq, 2, none⟩) (.pointer (some ⟨b2, 0, none⟩)))
  have HQ3 := Lib.hid (HQb.out.other hne.symm 2 (.pointer (some ⟨b1, 0, none⟩)))
  replace HM1 := Lib.hid (memX_tab19 (memX_tab19 HM1.out HP.out 2 (.pointer (some ⟨b1, 0, none⟩))) HQ3.out 2 (.pointer (some ⟨b2, 0, none⟩)))
  replace HM2 := Lib.hid (memX_tab19 (memX_tab19 HM2.out HP.out 2 (.pointer (some ⟨b1, 0, none⟩))) HQ3.out 2 (.pointer (some ⟨b2, 0, none⟩)))
  have HP2 := Lib.hid ((HP.out.set 2 (.pointer (some ⟨b1, 0, none⟩))).other hne 2 (.pointer (some ⟨b2, 0, none⟩)))
  have HQ2 := Lib.hid (HQ3.out.set 2 (.pointer (some ⟨b2, 0, none⟩)))
  replace HP := Lib.hid (show RowIn #[.string (S f), .string (S at_), .pointer (some ⟨b1, 0, none⟩), .slice ta Ts.length tc] 32 ((w6.setCell ⟨bp, 2, none⟩ (.pointer (some ⟨b1, 0, none⟩))).setCell ⟨bq, 2, none⟩ (.pointer (some ⟨b2, 0, none⟩))) bp from HP2.out)
  replace HQb := Lib.hid (show RowIn #[.string (S at_), .string (S t), .pointer (some ⟨b2, 0, none⟩), .slice ta Ts.length tc] 32 ((w6.setCell ⟨bp, 2, none⟩ (.pointer (some ⟨b1, 0, none⟩))).setCell ⟨bq, 2, none⟩ (.pointer (some ⟨b2, 0, none⟩))) bq from HQ2.out)
  clear HP2 HQ2 HQ3
  generalize ((w6.setCell ⟨bp, 2, none⟩ (.pointer (some ⟨b1, 0, none⟩))).setCell ⟨bq, 2, none⟩ (.pointer (some ⟨b2, 0, none⟩))) = W7 at *
  have hl1 : (K0.filter (M.below at_)).length ≤ 4096 := Nat.le_trans (List.length_filter_le _ _) hK0
  have hl2 : (K0.filter (fun c => !M.below at_ c)).length ≤ 4096 := Nat.le_trans (List.length_filter_le _ _) hK0
  replace HL := Lib.hid (HL.out.below HBx.out)
  replace HCA := Lib.hid (HCA.out.below HBx.out)
  replace HX1 := Lib.hid (HX1.out.below HBx.out)
  clear HBx HN
  generalize K0.filter (M.below at_) = Ka at *
  generalize K0.filter (fun c => !M.below at_ c) = Kb at *
  have HPa := Lib.hid (show Tw19 W f at_ Ka bp b1 ta tc Ts ro Rs W7 from ⟨⟨⟨.inr ⟨_, b1, rfl, HM1.out⟩, HL.out.kit.tt.tabs, HL.out.kit.tt.n⟩, ⟨_, HM1.out⟩, HL.out.kit.rr⟩, HP.out, HL.out.bel⟩)
  have HPb := Lib.hid (show Tw19 W at_ t Kb bq b2 ta tc Ts ro Rs W7 from ⟨⟨⟨.inr ⟨_, b2, rfl, HM2.out⟩, HL.out.kit.tt.tabs, HL.out.kit.tt.n⟩, ⟨_, HM2.out⟩, HL.out.kit.rr⟩, HQb.out, HL.out.bel⟩)
  clear HM1 HM2 HP HQb hne HQ HL HMQ
  have CR1 := Lib.hid (trng19_all (f := f) (t := at_) (tc := tc) HPa.out.kit.tt (by omega) (by omega) (by omega))
  unfold NewR19 at CR1
  generalize M.rangeT f at_ (Ka :: M.tls Ts) [] [] = A1 at *
  obtain ⟨s0, s1, s2, s3⟩ := HPa.out.s
  go_wp2_with fail
  with_reducible refine (CR1.out).mono ?_
  rintro e v3 ⟨aB, cB, rfl, ho, hbq⟩
  replace HPa := Lib.hid (HPa.out.below hbq)
  replace HPb := Lib.hid (HPb.out.below hbq)
  replace HCA := Lib.hid (HCA.out.below hbq)
  replace HX1 := Lib.hid (HX1.out.below hbq)
  have HCA1 := Lib.hid (clsAt_own ho rfl)
  clear hbq ho CR1 s0 s1 s2 s3
  have CR2 := Lib.hid (trng19_all (f := at_) (t := t) (tc := tc) HPb.out.kit.tt (by omega) (by omega) (by omega))
  unfold NewR19 at CR2
  generalize M.rangeT at_ t (Kb :: M.tls Ts) [] [] = A2 at *
  obtain ⟨s0, s1, s2, s3⟩ := HPb.out.s
  go_wp2_with fail
  with_reducible refine (CR2.out).mono ?_
  rintro e v4 ⟨aC, cC, rfl, ho, hbq⟩
  replace HPa := Lib.hid (HPa.out.below hbq)
  replace HPb := Lib.hid (HPb.out.below hbq)
  replace HCA := Lib.hid (HCA.out.below hbq)
  replace HX1 := Lib.hid (HX1.out.below hbq)
  replace HCA1 := Lib.hid (HCA1.out.below hbq)
  have HCA2 := Lib.hid (clsAt_own ho rfl)
  clear hbq ho CR2 s0 s1 s2 s3
  have hA := hA.out
  have hlen : A1.length + A2.length = A0.length := by rw [← HAA.out, List.length_append]
  obtain ⟨i0, y0, hi0, hy0, hy1, hy2, hy3⟩ := infoCl_parts
  go_wp2_with (at_builtin; refine wpList_append_cls_on19 (by simp [Region.wanted, yielded]) _ _ 22 rfl v4.heap.size i0 y0 Tryz.underlying22 hi0 hy0 hy1 hy2 hy3 (.slice none 0 0) 0 [] rfl (World.ownsRow_nil _ _ _ _) aB cB A1 rfl HCA1.out ?c2 ?c3 ?_)
  case c2 => omega
  case c3 => exact Nat.le_refl _
  intro v' w8 ho8 hg8 hat8
  try simp only [Nat.zero_add, List.nil_append] at ho8
  obtain ⟨a8, c8, rfl⟩ := ownP_shape ho8
  have HB8 := Lib.hid ((Below.refl v4.heap.size v4).grown hg8 (Nat.le_refl _) (fun k hk => by cases hk))
  have HO8 := Lib.hid ho8
  have HC2 := Lib.hid (HCA2.out.below HB8.out)
  clear ho8 hg8 hat8
  go_wp2_with (at_builtin; refine wpList_append_cls_on19 (by simp [Region.wanted, yielded]) _ _ 22 rfl v4.heap.size i0 y0 Tryz.underlying22 hi0 hy0 hy1 hy2 hy3 (.slice a8 A1.length c8) A1.length (cls A1) rfl HO8.out aC cC A2 rfl HC2.out ?c4 ?c5 ?_)
  case c4 => omega
  case c5 => exact HB8.out.size
  intro v' w9 ho9 hg9 hat9
  try rw [hlen] at ho9
  rw [← cls_append, HAA.out] at ho9
  obtain ⟨a9, c9, rfl⟩ := ownP_shape ho9
  have HB9 := Lib.hid (HB8.out.grown hg9 HB8.out.size (fun k hk => (HO8.out.lt k hk).1))
  have HC9 := Lib.hid (clsAt_own ho9 rfl)
  clear ho9 hg9 hat9
  replace HPa := Lib.hid (HPa.out.below HB9.out)
  replace HPb := Lib.hid (HPb.out.below HB9.out)
  replace HCA := Lib.hid (HCA.out.below HB9.out)
  replace HX1 := Lib.hid (HX1.out.below HB9.out)
  clear HB8 HO8 HC2 HB9 HCA1 HCA2 hi0 hy0 hy1 hy2 hy3
  have CS := Lib.hid (same19_yes A0 aA a9 A0.length cA c9 rfl (by omega) HCA.out HC9.out)
  go_wp2_with fail
  with_reducible refine (CS.out).mono ?_
  rintro e w10 ⟨rfl, hbq⟩
  replace HPa := Lib.hid (HPa.out.below hbq)
  replace HPb := Lib.hid (HPb.out.below hbq)
  replace HX1 := Lib.hid (HX1.out.below hbq)
  clear hbq CS HCA HC9
  have CGa := Lib.hid (tget19 (f := f) (t := at_) (tc := tc) HPa.out.kit.tt key (by omega))
  unfold FindR9 at CGa
  cases q3 : Op.bytesLess key at_ with
  | true =>
    have HK := Lib.hid (show M.getT f at_ (Ka :: M.tls Ts) key = g from by have := HGK.out; rwa [if_pos q3] at this)
    rw [HK.out] at CGa
    obtain ⟨s0, s1, s2, s3⟩ := HPa.out.s
    go_wp2_with fail
    with_reducible refine (CGa.out).mono ?_
    rintro e v5 ⟨rfl, hbq⟩
    have hal := (Below.refl v5.heap.size v5).alloc (Nat.le_refl _) (.cells (clA (g.getD M.cl0)) 38)
    replace HPa := Lib.hid ((HPa.out.below hbq).below hal)
    replace HX1 := Lib.hid ((HX1.out.below hbq).below hal)
    have HX2 := Lib.hid (rowIn_new (clA (g.getD M.cl0)) 38 v5)
    clear hbq hal s0 s1 s2 s3 CGa HK
    go_upto_region 18 with fail
    generalize v5.alloc (.cells (clA (g.getD M.cl0)) 38) = V5 at *
    have x0 := HX1.out.cell 0
    have x1 := HX1.out.cell 1
    have x2 := HX1.out.cell 2
    have z0 := HX2.out.cell 0
    have z1 := HX2.out.cell 1
    have z2 := HX2.out.cell 2
    simp at x0 x1 x2 z0 z1 z2
    go_wp2_with fail
    with_reducible refine (CLV.out _).mono ?_
    rintro e vl ⟨rfl, hbq⟩
    have HBe := Lib.hid (below_step HPa.out.bel hbq)
    go_wp2_with fail
    go_ret
    exact ⟨rfl, HBe.out⟩
  | false =>
    have HK := Lib.hid (show M.getT at_ t (Kb :: M.tls Ts) key = g from by have := HGK.out; rwa [if_neg (by rw [q3]; decide)] at this)
    generalize M.getT f at_ (Ka :: M.tls Ts) key = g2 at *
    obtain ⟨s0, s1, s2, s3⟩ := HPa.out.s
    go_wp2_with fail
    with_reducible refine (CGa.out).mono ?_
    rintro e v5 ⟨rfl, hbq⟩
    have hal := (Below.refl v5.heap.size v5).alloc (Nat.le_refl _) (.cells (clA (g2.getD M.cl0)) 38)
    replace HPb := Lib.hid (HPb.out.below hbq)
    replace HX1 := Lib.hid (HX1.out.below hbq)
    have HX2 := Lib.hid (rowIn_new (clA (g2.getD M.cl0)) 38 v5)
    have HBv := Lib.hid hal
    clear hbq hal s0 s1 s2 s3 CGa HPa
    go_upto_region 18 with fail
    generalize v5.alloc (.cells (clA (g2.getD M.cl0)) 38) = V5 at *
    have CGb := Lib.hid (tget19 (f := at_) (t := t) (tc := tc) (HPb.out.below HBv.out).kit.tt key (by omega))
    unfold FindR9 at CGb
    rw [HK.out] at CGb
    obtain ⟨s0, s1, s2, s3⟩ := (HPb.out.below HBv.out).s
    go_wp2_with fail
    with_reducible refine (CGb.out).mono ?_
    rintro e v6 ⟨rfl, hbq⟩
    replace HBv := Lib.hid (below_step HBv.out hbq)
    replace HX2 := Lib.hid (HX2.out.below hbq)
    clear hbq s0 s1 s2 s3 CGb HK
    go_upto_region 20 with ((refine wpList_store_hid rfl 38 _ _ rfl v5.heap.size _ rfl rfl 38 _ HX2.out ?_ rfl ?_ ?_; kernel_rfl; (first | rfl | simp [Value.oneCell']); intro w3 hrQ hbelQ hothQ hszQ; have HXE := Lib.hid hrQ; have HBE := Lib.hid (hbelQ v5.heap.size v5 (Nat.le_refl _) HBv.out); clear hrQ hbelQ hothQ hszQ))
    replace HPb := Lib.hid (HPb.out.below HBE.out)
    replace HX1 := Lib.hid (HX1.out.below HBE.out)
    clear HBE HBv HX2
    have x0 := HX1.out.cell 0
    have x1 := HX1.out.cell 1
    have x2 := HX1.out.cell 2
    have z0 := HXE.out.cell 0
    have z1 := HXE.out.cell 1
    have z2 := HXE.out.cell 2
    simp at x0 x1 x2 z0 z1 z2
    go_wp2_with fail
    with_reducible refine (CLV.out _).mono ?_
    rintro e vl ⟨rfl, hbq⟩
    have HBe := Lib.hid (below_step HPb.out.bel hbq)
    go_wp2_with fail
    go_ret
    exact ⟨rfl, HBe.out⟩

end Go.Proofs.YtnhljlmelbiljaaGreat
