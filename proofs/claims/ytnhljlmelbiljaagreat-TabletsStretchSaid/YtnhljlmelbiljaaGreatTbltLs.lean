/- Layer 19: TabletsStretch. -/
import Derived.Test.YtnhljlmelbiljaaGreatTbltX
import Derived.Test.YtnhljlmelbiljaaGreatZR
import Derived.Deep.CutRange
import Derived.BigQuiet
import Derived.Test.YtnhljlmelbiljaaGreatTbltMs
import Derived.Test.YtnhljlmelbiljaaGreatLast
import Derived.Test.YtnhljlmelbiljaaGreatZM
import Derived.Test.YtnhljlmelbiljaaGreatZMOv
namespace Go.Proofs.YtnhljlmelbiljaaGreat
set_option linter.unusedVariables false
set_option linter.unusedSimpArgs false
open Go Go.RowKit
attribute [local go_sem ↓] run_index_S
attribute [local go_sem] S_append S_extract

theorem tpsAt_own19 {B : Nat} {ao : Option Addr} {c : Nat} {D : List M.Tp} {W : World} (h : W.ownsRow B 59 1 (.slice ao D.length c) D.length (ptsV D)) (hok : ∀ x, x ∈ D → TpOk W x) : TpsAt W ao D := fun hn => by
  have hl : 0 < D.length := List.length_pos_iff.2 hn
  obtain ⟨g, cap', e, _, hc⟩ := own_slice10 h hl
  injection e with e1 e2 e3
  refine ⟨g, 0, e1, fun j hj => ⟨?_, hok _ ?_⟩⟩
  · rw [Nat.zero_add]; exact hc j _ (ptsV_get hj)
  · have e : D.getD j M.tp0 = D[j] := by simp [List.getD, hj]
    rw [e]; exact List.getElem_mem hj
/-- A tablet whose tables are laid anew, in the other order. -/
structure Tv19 (V : World) (f t : List UInt8) (b b10 : Nat) (D : List M.Tp) (ao : Option Addr) (c : Nat) (W : World) : Prop where
  row : RowIn #[.string (S f), .string (S t), .pointer (some ⟨b, 0, none⟩), .slice ao D.length c] 32 W b10
  own : W.ownsRow V.heap.size 59 1 (.slice ao D.length c) D.length (ptsV D)
  bel : Below V.heap.size V W
  b0 : V.heap.size ≤ b10
section
variable {V W W' : World} {f t : List UInt8} {b b10 : Nat} {D : List M.Tp} {ao ao' : Option Addr} {c c' : Nat}
theorem Tv19.below (h : Tv19 V f t b b10 D ao c W) (hb : Below W.heap.size W W') : Tv19 V f t b b10 D ao c W' := ⟨h.row.below hb, ownP_below h.own hb, below_step h.bel hb, h.b0⟩
theorem Tv19.add (h : Tv19 V f t b b10 D ao c W) {x : M.Tp} (ho : W'.ownsRow V.heap.size 59 1 (.slice ao' (D.length + 1) c') (D.length + 1) (ptsV D ++ [ptrT x.p])) (hg : W.grownBy W' (Value.slice ao D.length c).ownBlock) :
    Tv19 V f t b b10 (D ++ [x]) ao' c' (W'.setCell ⟨b10, 3, none⟩ (.slice ao' (D.length + 1) c')) ∧ RowIn #[.string (S f), .string (S t), .pointer (some ⟨b, 0, none⟩), .slice ao D.length c] 32 W' b10 := by
  have k7 : RowIn #[.string (S f), .string (S t), .pointer (some ⟨b, 0, none⟩), .slice ao D.length c] 32 W' b10 := h.row.grownP hg (fun q hq => row_apart h.row h.own (by decide) q hq)
  have hl : (D ++ [x]).length = D.length + 1 := by simp
  refine ⟨⟨?_, ?_, (h.bel.grown hg h.bel.size (fun q hq => (h.own.lt q hq).1)).setCell h.b0 _, h.b0⟩, k7⟩
  · have := k7.set 3 (.slice ao' (D.length + 1) c')
    rw [hl]
    exact this
  · have e : ptsV (D ++ [x]) = ptsV D ++ [ptrT x.p] := by simp [ptsV]
    rw [hl, e]
    exact own_off19 ho k7 (by decide) _ _
end
theorem tpok_mem19 {W : World} {ta : Option Addr} {Ts : List M.Tp} (h : TpsAt W ta Ts) {x : M.Tp} (hx : x ∈ Ts) : TpOk W x := by
  obtain ⟨i, hi, rfl⟩ := List.getElem_of_mem hx
  obtain ⟨_, _, _, _, hok⟩ := h.off i hi
  have e : Ts.getD i M.tp0 = Ts[i] := by simp [List.getD, hi]
  rw [e] at hok
  exact hok
theorem drop_rev19 {Ts : List M.Tp} {k : Nat} (h : k < Ts.length) : (Ts.drop k).reverse = (Ts.drop (k + 1)).reverse ++ [Ts.getD k M.tp0] := by
  rw [List.drop_eq_getElem_cons h, List.reverse_cons]
  simp [List.getD, h]
set_option maxHeartbeats 8000000 in
set_option maxRecDepth 100000 in
theorem tabletsStretch_calls (W : World) (v0 : Value) (h0 : UDa W v0) (lo : List UInt8) (hlo0 : lo.length ≤ 140737488351232) (hi : List UInt8) (hhi0 : hi.length ≤ 140737488351232) : Calls Tryz.prog 7 #[v0, .string (S lo), .string (S hi)] W fun e w' => e = .returned (.bool true) ∧ Below W.heap.size W w' := by
  obtain ⟨⟨f, t, L, Lo, Lk, R, Ro, Rk⟩, rfl, hin, hat⟩ := h0
  have hB0 : Below W.heap.size W (W.alloc (.cells #[.string (S f), .string (S t), .slice Lo L.length Lk, .slice Ro R.length Rk] 25)) := (Below.refl W.heap.size W).alloc (by simp) _
  have HB := Lib.hid hB0
  have HR0 := Lib.hid (show RowIn #[.string (S f), .string (S t), .slice Lo L.length Lk, .slice Ro R.length Rk] 25 (W.alloc (.cells #[.string (S f), .string (S t), .slice Lo L.length Lk, .slice Ro R.length Rk] 25)) W.heap.size from rowIn_new _ _ W)
  have HIN := Lib.hid hin
  have HAT := Lib.hid hat
  have CLV := Lib.hid lives19_any
  have CBy := Lib.hid (beyond19_use f t L Lo Lk R Ro Rk (W.alloc (.cells #[.string (S f), .string (S t), .slice Lo L.length Lk, .slice Ro R.length Rk] 25)) hin (hat.below hB0))
  clear hB0 hin hat
  unfold daV at *
  go_enter Tryz.func7, Tryz.ntmps7
  go_wp2_with fail
  generalize (W.alloc (.cells #[.string (S f), .string (S t), .slice Lo L.length Lk, .slice Ro R.length Rk] 25)) = W0 at *
  with_reducible refine (CBy.out).mono ?_
  rintro e w1 ⟨rfl | ⟨rfl, hsm⟩, hbq⟩
  · replace HB := Lib.hid (below_step HB.out hbq)
    go_wp2_with fail
    with_reducible refine (CLV.out _).mono ?_
    rintro e wl ⟨rfl, hbl⟩
    have HBl := Lib.hid (below_step HB.out hbl)
    go_wp2_with fail
    go_ret
    exact ⟨rfl, HBl.out⟩
  replace HB := Lib.hid (below_step HB.out hbq)
  replace HR0 := Lib.hid (HR0.out.below hbq)
  clear hbq CBy
  by_cases hk0 : 100 < lo.length
  · have e0 : decide ((100 : Int) < (lo.length : Int)) = true := by simp; omega
    go_wp2_with fail
    with_reducible refine (CLV.out _).mono ?_
    rintro e wl ⟨rfl, hbl⟩
    have HBl := Lib.hid (below_step HB.out hbl)
    go_wp2_with fail
    go_ret
    exact ⟨rfl, HBl.out⟩
  have e0 : decide ((100 : Int) < (lo.length : Int)) = false := by simp; omega
  by_cases hk1 : 100 < hi.length
  · have e1 : decide ((100 : Int) < (hi.length : Int)) = true := by simp; omega
    go_wp2_with fail
    with_reducible refine (CLV.out _).mono ?_
    rintro e wl ⟨rfl, hbl⟩
    have HBl := Lib.hid (below_step HB.out hbl)
    go_wp2_with fail
    go_ret
    exact ⟨rfl, HBl.out⟩
  have e1 : decide ((100 : Int) < (hi.length : Int)) = false := by simp; omega
  have hf := hsm.f
  have ht := hsm.t
  simp only at hf ht
  have r0 := HR0.out.cell 0
  have r1 := HR0.out.cell 1
  have r2 := HR0.out.cell 2
  have r3 := HR0.out.cell 3
  simp at r0 r1 r2 r3
  have CM := Lib.hid (made19_use f t L Lo Lk R Ro Rk w1 HIN.out (HAT.out.below HB.out) hsm)
  go_wp2_with fail
  with_reducible refine (CM.out).mono ?_
  rintro e w2 ⟨b, ta, tc, Ts, ro, rc, Rs, rfl, hmk, hmq, hbq⟩
  replace HB := Lib.hid (below_step HB.out hbq)
  have HMK := Lib.hid hmk
  have HMQ := Lib.hid hmq
  clear hmk hmq hbq CM r0 r1 r2 r3 hsm HR0 HAT HIN
  generalize M.putsL [] L = K0 at *
  go_upto_region 6 with fail
  have HL := Lib.hid (show Tw19 W f t K0 w2.heap.size b ta tc Ts ro Rs ((w2.alloc (.cells #[.string (S f), .string (S t), .pointer (some ⟨b, 0, none⟩), .slice ta Ts.length tc] 32)).alloc (.cells #[.string (S f), .string (S t), .slice ro Rs.length rc] 34)) from by
    have hb : Below w2.heap.size w2 ((w2.alloc (.cells #[.string (S f), .string (S t), .pointer (some ⟨b, 0, none⟩), .slice ta Ts.length tc] 32)).alloc (.cells #[.string (S f), .string (S t), .slice ro Rs.length rc] 34)) := ((Below.refl _ _).alloc (Nat.le_refl _) _).alloc (by rw [szA]; omega) _
    exact ⟨HMK.out.below hb, (rowIn_new _ _ w2).more _, below_step HB.out hb⟩)
  generalize ((w2.alloc (.cells #[.string (S f), .string (S t), .pointer (some ⟨b, 0, none⟩), .slice ta Ts.length tc] 32)).alloc (.cells #[.string (S f), .string (S t), .slice ro Rs.length rc] 34)) = W2 at *
  obtain ⟨b5, hb5⟩ : ∃ x, x = w2.heap.size := ⟨_, rfl⟩
  replace HL := Lib.hid (show Tw19 W f t K0 b5 b ta tc Ts ro Rs W2 from by rw [hb5]; exact HL.out)
  rw [← hb5]
  clear hb5 HMK HB
  have hK0 : K0.length ≤ 4096 := by have := HMQ.out.l0; omega
  obtain ⟨s0, s1, s2, s3⟩ := HL.out.s
  clear s0 s1 s2 s3
  have hT5 : Ts.length ≤ 5 := HMQ.out.n
  have hA := HMQ.out.rlen f t [] []
  have hB := HMQ.out.rlen f t lo hi
  have HST := Lib.hid (M.stretch19 (f := f) (t := t) HMQ.out.pw lo hi)
  have HTN := Lib.hid (M.turned19 (f := f) (t := t) (mem := K0) (tabs := M.tls Ts) HMQ.out.pw (okL_pw (fun l hl => HMQ.out.ok l (by simpa using hl))) lo hi)
  have CA := Lib.hid (fun V (h : TtAt V (.pointer (some ⟨b, 0, none⟩)) ta K0 Ts) => trng19_all (f := f) (t := t) (tc := tc) h hK0 (by omega) (by omega))
  have CB := Lib.hid (fun V (h : TtAt V (.pointer (some ⟨b, 0, none⟩)) ta K0 Ts) => trng19 (f := f) (t := t) (tc := tc) h hK0 (by omega) (by omega) lo hi (by omega) (by omega))
  unfold NewR19 at CA CB
  clear HMQ
  generalize M.rangeT f t (K0 :: M.tls Ts) [] [] = A0 at *
  generalize M.rangeT f t (K0 :: M.tls Ts) lo hi = B0 at *
  obtain ⟨s0, s1, s2, s3⟩ := HL.out.s
  go_wp2_with fail
  with_reducible refine (CA.out _ HL.out.kit.tt).mono ?_
  rintro e v1 ⟨aA, cA, rfl, ho, hbq⟩
  replace HL := Lib.hid (HL.out.below hbq)
  have HCA := Lib.hid (clsAt_own ho rfl)
  clear hbq ho CA s0 s1 s2 s3
  obtain ⟨s0, s1, s2, s3⟩ := HL.out.s
  go_wp2_with fail
  with_reducible refine (CB.out _ HL.out.kit.tt).mono ?_
  rintro e v2 ⟨aB, cB, rfl, ho, hbq⟩
  replace HL := Lib.hid (HL.out.below hbq)
  replace HCA := Lib.hid (HCA.out.below hbq)
  have HCB := Lib.hid (clsAt_own ho rfl)
  clear hbq ho CB s0 s1 s2 s3
  obtain ⟨i0, z0, hi0, hz0, hz1, hz2, hz3⟩ := infoCl_parts
  go_wp2_with fail
  generalize (hi.length : Int) = nh
  go_loopw [14, 15] (fun v14 v15 wr => ∃ (k : Nat) (A : List M.Cl) (ro' : Option Addr) (rc' : Nat), k ≤ A0.length ∧ A.length ≤ k ∧ v15 = .int .i64 k ∧ v14 = .slice ro' A.length rc' ∧ Hid (A = M.rangeL lo hi (A0.take k)) ∧ Hid (wr.ownsRow v2.heap.size 38 3 (.slice ro' A.length rc') A.length (cls A)) ∧ Hid (Below v2.heap.size v2 wr)) (fun _ v _ => A0.length - (intOf v).toNat)
  case atStart => exact ⟨0, [], none, 0, Nat.zero_le _, Nat.le_refl _, rfl, rfl, Lib.hid rfl, Lib.hid (World.ownsRow_nil _ _ _ _), Lib.hid (Below.refl _ _)⟩
  case round =>
    obtain ⟨k, A, ro', rc', hk, hA2, rfl, rfl, HA, HO, HBr⟩ := hrel
    by_cases hlt : k < A0.length
    · have hd : decide ((k : Int) < (A0.length : Int)) = true := by simp; omega
      have hki : (k : Int) < (A0.length : Int) := by omega
      obtain ⟨g, off, rfl, hc⟩ := (HCA.out.below HBr.out).off k hlt
      obtain ⟨x0, x1, x2⟩ := hc
      have HTK := Lib.hid (M.range_take lo hi hlt)
      have HIN : Hid (M.inR lo hi (A0.getD k M.cl0) = (!Op.bytesLess (A0.getD k M.cl0).key lo && (hi.isEmpty || Op.bytesLess (A0.getD k M.cl0).key hi))) := Lib.hid rfl
      generalize A0.getD k M.cl0 = c at *
      have HAPP := Lib.hid (fun (h : M.inR lo hi c = true) => (show A ++ [c] = M.rangeL lo hi (A0.take (k + 1)) from by rw [HTK.out, if_pos h, HA.out]))
      have HSKP := Lib.hid (fun (h : M.inR lo hi c = false) => (show A = M.rangeL lo hi (A0.take (k + 1)) from by rw [HTK.out, if_neg (by rw [h]; decide), HA.out, List.append_nil]))
      have e5 : (A ++ [c]).length = A.length + 1 := by simp
      have HE5 := Lib.hid e5
      clear e5
      cases hq1 : Op.bytesLess c.key lo with
      | true =>
        have HR := Lib.hid (HSKP.out (by rw [HIN.out, hq1]; rfl))
        go_wp2_with fail
        go_roundw
        case rel => exact ⟨k + 1, A, ro', rc', by omega, by omega, by go_num, rfl, HR, HO, HBr⟩
        case measure => simp [intOf]; omega
      | false =>
        cases he : hi.isEmpty with
        | true =>
          obtain rfl : hi = [] := by simpa using he
          have HR := Lib.hid (HAPP.out (by rw [HIN.out, hq1]; rfl))
          have HXX := Lib.hid (rowIn_new (clA c) 38 wr)
          have HO2 := carryA (w := wr) (.cells (clA c) 38) HO
          have HB2 := carryA (w := wr) (.cells (clA c) 38) HBr
          go_wp2_with (at_builtin; refine wpList_append_cls_at rfl _ _ 22 rfl v2.heap.size i0 z0 Tryz.underlying22 hi0 hz0 hz1 hz2 hz3 (.slice ro' A.length rc') A.length (cls A) rfl HO2.out (some ⟨wr.heap.size, 0, none⟩) 1 [c] rfl ?c1 ?c2 ?c3 ?_)
          case c1 => exact clsAt_row HXX.out rfl
          case c2 => have e1 : [c].length = 1 := rfl; omega
          case c3 => exact HB2.out.size
          intro v' w5 ho5 hg5 hat5
          obtain ⟨ao5, cap5, rfl⟩ := ownP_shape ho5
          have HB5 := Lib.hid (HB2.out.grown hg5 HB2.out.size (fun q hq => (HO2.out.lt q hq).1))
          have HO5 := Lib.hid (show w5.ownsRow v2.heap.size 38 3 (.slice ao5 (A ++ [c]).length cap5) (A ++ [c]).length (cls (A ++ [c])) from by rw [HE5.out, cls_append]; exact ho5)
          clear ho5 hg5 hat5 x0 x1 x2
          go_wp2_with fail
          go_roundw
          case rel => exact ⟨k + 1, A ++ [c], ao5, cap5, by omega, by rw [HE5.out]; omega, by go_num, by rw [HE5.out], HR, HO5, HB5⟩
          case measure => simp [intOf]; omega
        | false =>
          cases hq2 : Op.bytesLess c.key hi with
          | true =>
            have HR := Lib.hid (HAPP.out (by rw [HIN.out, hq1, hq2, he]; rfl))
            have HXX := Lib.hid (rowIn_new (clA c) 38 wr)
            have HO2 := carryA (w := wr) (.cells (clA c) 38) HO
            have HB2 := carryA (w := wr) (.cells (clA c) 38) HBr
            go_wp2_with (at_builtin; refine wpList_append_cls_at rfl _ _ 22 rfl v2.heap.size i0 z0 Tryz.underlying22 hi0 hz0 hz1 hz2 hz3 (.slice ro' A.length rc') A.length (cls A) rfl HO2.out (some ⟨wr.heap.size, 0, none⟩) 1 [c] rfl ?c1 ?c2 ?c3 ?_)
            case c1 => exact clsAt_row HXX.out rfl
            case c2 => have e1 : [c].length = 1 := rfl; omega
            case c3 => exact HB2.out.size
            intro v' w5 ho5 hg5 hat5
            obtain ⟨ao5, cap5, rfl⟩ := ownP_shape ho5
            have HB5 := Lib.hid (HB2.out.grown hg5 HB2.out.size (fun q hq => (HO2.out.lt q hq).1))
            have HO5 := Lib.hid (show w5.ownsRow v2.heap.size 38 3 (.slice ao5 (A ++ [c]).length cap5) (A ++ [c]).length (cls (A ++ [c])) from by rw [HE5.out, cls_append]; exact ho5)
            clear ho5 hg5 hat5 x0 x1 x2
            go_wp2_with fail
            go_roundw
            case rel => exact ⟨k + 1, A ++ [c], ao5, cap5, by omega, by rw [HE5.out]; omega, by go_num, by rw [HE5.out], HR, HO5, HB5⟩
            case measure => simp [intOf]; omega
          | false =>
            have HR := Lib.hid (HSKP.out (by rw [HIN.out, hq1, hq2, he]; rfl))
            go_wp2_with fail
            go_roundw
            case rel => exact ⟨k + 1, A, ro', rc', by omega, by omega, by go_num, rfl, HR, HO, HBr⟩
            case measure => simp [intOf]; omega
    · obtain rfl : k = A0.length := by omega
      have hd : decide ((A0.length : Int) < (A0.length : Int)) = false := by simp
      have HR := Lib.hid (show A = B0 from by have := HA.out; rw [List.take_length] at this; rw [this, HST.out])
      replace HL := Lib.hid (HL.out.below HBr.out)
      replace HCB := Lib.hid (HCB.out.below HBr.out)
      have HCW := Lib.hid (show ClsAt wr ro' B0 from by rw [← HR.out]; exact clsAt_own HO.out rfl)
      have hAl : A.length = B0.length := by rw [HR.out]
      clear HA HO HBr HST HCA hA2 hk
      obtain ⟨s0, s1, s2, s3⟩ := HL.out.s
      rw [hAl]
      clear hAl HR
      go_upto_region 16 with fail
      clear s0 s1 s2 s3
      obtain ⟨V0, rfl⟩ : ∃ x, x = wr := ⟨_, rfl⟩
      have HTv := Lib.hid (show Tv19 V0 f t b V0.heap.size [] none 0 (V0.alloc (.cells #[.string (S f), .string (S t), .pointer (some ⟨b, 0, none⟩), .slice none 0 0] 32)) from ⟨rowIn_new _ _ _, World.ownsRow_nil _ _ _ _, (Below.refl V0.heap.size V0).alloc (Nat.le_refl _) _, Nat.le_refl _⟩)
      have HT3 := Lib.hid (HL.out.below ((Below.refl V0.heap.size V0).alloc (Nat.le_refl _) (.cells #[.string (S f), .string (S t), .pointer (some ⟨b, 0, none⟩), .slice none 0 0] 32)))
      obtain ⟨b10, hb10⟩ : ∃ x, x = V0.heap.size := ⟨_, rfl⟩
      replace HTv := Lib.hid (show Tv19 V0 f t b b10 [] none 0 (V0.alloc (.cells #[.string (S f), .string (S t), .pointer (some ⟨b, 0, none⟩), .slice none 0 0] 32)) from by rw [hb10]; exact HTv.out)
      rw [← hb10]
      clear hb10
      generalize V0.alloc (.cells #[.string (S f), .string (S t), .pointer (some ⟨b, 0, none⟩), .slice none 0 0] 32) = W3 at *
      obtain ⟨s0, s1, s2, s3⟩ := HT3.out.s
      go_wp2_with fail
      clear s0 s1 s2 s3 HT3
      obtain ⟨i1, z1, hi1, hy1, h11, h12, h13⟩ := infoPt_parts
      go_loopw [17] (fun v17 wr => ∃ (k : Nat) (D : List M.Tp) (ao : Option Addr) (c : Nat), k ≤ Ts.length ∧ v17 = .int .i64 ((k : Int) - 1) ∧ Hid (D = (Ts.drop k).reverse) ∧ Hid (Tv19 V0 f t b b10 D ao c wr)) (fun v _ => (intOf v + 1).toNat)
      case atStart => exact ⟨Ts.length, [], none, 0, Nat.le_refl _, rfl, Lib.hid (by simp), HTv⟩
      case round =>
        clear HTv
        obtain ⟨k, D, ao, c, hk, rfl, HD, HTv⟩ := hrel
        by_cases hk0 : k = 0
        · subst hk0
          have HDr := Lib.hid (show D = Ts.reverse from by rw [HD.out, List.drop_zero])
          replace HL := Lib.hid (HL.out.below HTv.out.bel)
          replace HCB := Lib.hid (HCB.out.below HTv.out.bel)
          replace HCW := Lib.hid (HCW.out.below HTv.out.bel)
          have HNt := Lib.hid (show Tw19 W f t K0 b10 b ao c D ro Rs wr from ⟨⟨⟨HL.out.kit.tt.mem, tpsAt_own19 HTv.out.own (fun x hx => tpok_mem19 HL.out.kit.tt.tabs (by rw [HDr.out] at hx; simpa using hx)), (by rw [HDr.out, List.length_reverse]; omega)⟩, HL.out.kit.mx, HL.out.kit.rr⟩, HTv.out.row, HL.out.bel⟩)
          have HKS := Lib.hid (show (M.rangeT f t (K0 :: M.tls D) lo hi).map M.ks = B0.map M.ks from by
            have e : M.tls D = (M.tls Ts).reverse := by rw [HDr.out]; simp [M.tls, List.map_reverse]
            rw [e]; exact HTN.out)
          have CC := Lib.hid (trng19 (f := f) (t := t) (tc := c) HNt.out.kit.tt hK0 (by omega) (by omega) lo hi (by omega) (by omega))
          unfold NewR19 at CC
          clear HTN HD HTv HL HDr
          generalize M.rangeT f t (K0 :: M.tls D) lo hi = Mm at *
          have hML : Mm.length = B0.length := by have := congrArg List.length HKS.out; simpa using this
          obtain ⟨s0, s1, s2, s3⟩ := HNt.out.s
          go_wp2_with fail
          with_reducible refine (CC.out).mono ?_
          rintro e v3 ⟨aM, cM, rfl, ho, hbq⟩
          replace HNt := Lib.hid (HNt.out.below hbq)
          replace HCB := Lib.hid (HCB.out.below hbq)
          replace HCW := Lib.hid (HCW.out.below hbq)
          have HCM := Lib.hid (clsAt_own ho rfl)
          clear hbq ho CC s0 s1 s2 s3
          have CS := Lib.hid (same19_yes B0 aB ro' B0.length cB rc' rfl (by omega) HCB.out HCW.out)
          go_wp2_with fail
          with_reducible refine (CS.out).mono ?_
          rintro e v4 ⟨rfl, hbq⟩
          replace HNt := Lib.hid (HNt.out.below hbq)
          replace HCB := Lib.hid (HCB.out.below hbq)
          replace HCM := Lib.hid (HCM.out.below hbq)
          clear hbq CS HCW
          go_wp2_with fail
          have HB4 := Lib.hid (Below.refl v4.heap.size v4)
          go_loopw [20] (fun v20 wr => ∃ k : Nat, k ≤ B0.length ∧ v20 = .int .i64 k ∧ Hid (Below v4.heap.size v4 wr)) (fun v _ => B0.length - (intOf v).toNat)
          case atStart => exact ⟨0, Nat.zero_le _, rfl, HB4⟩
          case round =>
            clear HB4
            obtain ⟨k, hk3, rfl, HBr⟩ := hrel
            by_cases hlt : k < B0.length
            · have hd : decide ((k : Int) < (B0.length : Int)) = true := by simp; omega
              have hki : (k : Int) < (B0.length : Int) := by omega
              have hlm : k < Mm.length := by omega
              obtain ⟨g, off, rfl, x0, x1, x2⟩ := (HCB.out.below HBr.out).off k hlt
              obtain ⟨g2, off2, rfl, y0, y1, y2⟩ := (HCM.out.below HBr.out).off k hlm
              have hks : M.ks (Mm.getD k M.cl0) = M.ks (B0.getD k M.cl0) := by
                have h1 := congrArg (fun l => l[k]?) HKS.out
                simp only [List.getElem?_map] at h1
                rw [List.getElem?_eq_getElem hlm, List.getElem?_eq_getElem hlt] at h1
                simpa [List.getD, hlm, hlt] using h1
              generalize B0.getD k M.cl0 = c1 at *
              generalize Mm.getD k M.cl0 = d1 at *
              unfold M.ks at hks
              injection hks with e1 e2
              rw [e1] at y0
              rw [e2] at y1
              clear e1 e2 hML
              go_wp2_with fail
              go_quiet (fail)
              have hbq : Below wr.heap.size wr (wr.drewN nq) := below_drewN (Below.refl _ _) nq
              obtain ⟨wq, hwq⟩ : ∃ x, x = wr.drewN nq := ⟨_, rfl⟩
              rw [← hwq] at hbq ⊢
              replace HBr := Lib.hid (below_step HBr.out hbq)
              clear hwq hbq x0 x1 x2 y0 y1 y2
              go_wp2_with fail
              go_roundw
              case rel => exact ⟨k + 1, by omega, by go_num, HBr⟩
              case measure => simp [intOf]; omega
            · obtain rfl : k = B0.length := by omega
              have hd : decide ((B0.length : Int) < (B0.length : Int)) = false := by simp
              have HBe0 := Lib.hid (below_step HNt.out.bel HBr.out)
              go_wp2_with fail
              with_reducible refine (CLV.out _).mono ?_
              rintro e vl ⟨rfl, hbq⟩
              have HBe := Lib.hid (below_step HBe0.out hbq)
              go_wp2_with fail
              go_ret
              exact ⟨rfl, HBe.out⟩
        · obtain ⟨j, rfl⟩ : ∃ j, k = j + 1 := ⟨k - 1, by omega⟩
          rw [show (((j + 1 : Nat) : Int) - 1) = (j : Int) from by omega]
          have hj : j < Ts.length := by omega
          have hji : (j : Int) < (Ts.length : Int) := by omega
          obtain ⟨gt, ot, rfl, hcell, -⟩ := HL.out.kit.tt.tabs.off j hj
          have HDD := Lib.hid (show (Ts.drop j).reverse = D ++ [Ts.getD j M.tp0] from by rw [HD.out]; exact drop_rev19 hj)
          have HDL := Lib.hid (show D.length ≤ 5 from by rw [HD.out]; simp; omega)
          clear HD hk0
          generalize Ts.getD j M.tp0 = x at *
          obtain ⟨q, hq⟩ : ∃ q, q = x.p.map (fun b => (⟨b, 0, none⟩ : Addr)) := ⟨_, rfl⟩
          have HQ := Lib.hid (show ptrT x.p = .pointer q from by rw [hq]; rfl)
          rw [HQ.out] at hcell
          have HE := Lib.hid hcell
          clear hcell hq
          have HRw := Lib.hid HTv.out.row
          have HBx := Lib.hid HTv.out.bel
          go_upto_region 19 with fail
          refine wp_region_Z (S := fun V => V.cell? ⟨b10, 3, none⟩ = some (.slice ao D.length c) ∧ V.cell? ⟨b5, 3, none⟩ = some (.slice (some ⟨gt, ot, none⟩) Ts.length tc) ∧ V.cell? ⟨gt, ot + j, none⟩ = some (Value.pointer q)) 10 (by kernel_rfl) ?_ (fun hHeld => ?_)
          · exact ⟨(HRw.out.below (Below.refl _ wr).drew).cell 3, (HL.out.below (below_step HBx.out (Below.refl _ wr).drew)).bx.cell 3, ((below_step HBx.out (Below.refl _ wr).drew).cell (p := ⟨gt, ot + j, none⟩) (block_lt_of_cell HE.out)).trans HE.out⟩
          replace HTv := Lib.hid (HTv.out.below (Below.refl _ wr).drew)
          replace HRw := Lib.hid (HRw.out.below (Below.refl _ wr).drew)
          replace HBx := Lib.hid (below_step HBx.out (Below.refl _ wr).drew)
          obtain ⟨wd, hwd⟩ : ∃ x, x = World.drew wr := ⟨_, rfl⟩
          rw [← hwd] at HTv HRw HBx hHeld ⊢
          clear hwd
          refine wpAnyZ_takeY (i := 0) (oi := { dst := some 97, op := Op.fieldAddr 32 (Operand.tmp 16) 3, type := 0, pos := "outright.go:103", after := #[], guard := none }) (v := ?_) rfl (by kernel_rfl) (by kernel_rfl) (by kernel_rfl) (by rfl) (fun _ _ _ h => h) (Or.inl ⟨by rfl, ?_⟩) (by assumption) ?_
          rotate_left
          · (intro w; go_simp); (first | done | with_reducible rfl)
          try simp only [Act.put, List.setIfInBounds_toArray, List.set_cons_zero, List.set_cons_succ]
          refine wpAnyZ_take (i := 1) (oi := { dst := some 98, op := Op.load 30 (Operand.tmp 97), type := 30, pos := "outright.go:103", after := #[{ on := 0, ground := Ground.data }], guard := none }) (v := ?_) [8, 9, 10] rfl (by kernel_rfl) (by kernel_rfl) (by kernel_rfl) (by kernel_rfl) (fun _ _ _ h => h) (Or.inl ⟨by rfl, ?_⟩) (by assumption) ?_
          rotate_left
          · (intro w hSw; (try dsimp only at hSw); go_simp); (first | done | with_reducible rfl)
          try simp only [Act.put, List.setIfInBounds_toArray, List.set_cons_zero, List.set_cons_succ]
          refine wpAnyZ_takeY (i := 2) (oi := { dst := some 99, op := Op.fieldAddr 32 (Operand.tmp 7) 3, type := 0, pos := "outright.go:103", after := #[], guard := none }) (v := ?_) rfl (by kernel_rfl) (by kernel_rfl) (by kernel_rfl) (by rfl) (fun _ _ _ h => h) (Or.inl ⟨by rfl, ?_⟩) (by assumption) ?_
          rotate_left
          · (intro w; go_simp); (first | done | with_reducible rfl)
          try simp only [Act.put, List.setIfInBounds_toArray, List.set_cons_zero, List.set_cons_succ]
          refine wpAnyZ_take (i := 3) (oi := { dst := some 100, op := Op.load 30 (Operand.tmp 99), type := 30, pos := "outright.go:103", after := #[{ on := 2, ground := Ground.data }], guard := none }) (v := ?_) [5, 6, 7, 8, 9, 10] rfl (by kernel_rfl) (by kernel_rfl) (by kernel_rfl) (by kernel_rfl) (fun _ _ _ h => h) (Or.inl ⟨by rfl, ?_⟩) (by assumption) ?_
          rotate_left
          · (intro w hSw; (try dsimp only at hSw); go_simp); (first | done | with_reducible rfl)
          try simp only [Act.put, List.setIfInBounds_toArray, List.set_cons_zero, List.set_cons_succ]
          refine wpAnyZ_takeY (i := 4) (oi := { dst := some 101, op := Op.move (Operand.tmp 17), type := 3, pos := "outright.go:103", after := #[], guard := none }) (v := ?_) rfl (by kernel_rfl) (by kernel_rfl) (by kernel_rfl) (by rfl) (fun _ _ _ h => h) (Or.inl ⟨by rfl, ?_⟩) (by assumption) ?_
          rotate_left
          · (intro w; go_simp); (first | done | with_reducible rfl)
          try simp only [Act.put, List.setIfInBounds_toArray, List.set_cons_zero, List.set_cons_succ]
          refine wpAnyZ_takeY (i := 5) (oi := { dst := some 102, op := Op.indexAddr 30 (Operand.tmp 100) (Operand.tmp 101), type := 0, pos := "outright.go:103", after := #[{ on := 3, ground := Ground.data }, { on := 4, ground := Ground.data }], guard := none }) (v := ?_) rfl (by kernel_rfl) (by kernel_rfl) (by kernel_rfl) (by rfl) (fun _ _ _ h => h) (Or.inl ⟨by rfl, ?_⟩) (by assumption) ?_
          rotate_left
          · (intro w; go_simp); (first | done | with_reducible rfl)
          try simp only [Act.put, List.setIfInBounds_toArray, List.set_cons_zero, List.set_cons_succ]
          refine wpAnyZ_take (i := 6) (oi := { dst := some 103, op := Op.load 59 (Operand.tmp 102), type := 59, pos := "outright.go:103", after := #[{ on := 5, ground := Ground.data }], guard := none }) (v := ?_) [7, 8, 9, 10] rfl (by kernel_rfl) (by kernel_rfl) (by kernel_rfl) (by kernel_rfl) (fun _ _ _ h => h) (Or.inl ⟨by rfl, ?_⟩) (by assumption) ?_
          rotate_left
          · (intro w hSw; (try dsimp only at hSw); go_simp); (first | done | with_reducible rfl)
          try simp only [Act.put, List.setIfInBounds_toArray, List.set_cons_zero, List.set_cons_succ]
          refine wpAnyZ_ready (rs := [7]) (by kernel_rfl) (by simp) ?_
          refine AllReadyZ.cons (o := { dst := some 104, op := Op.buildSlice 30 1 #[(0, Operand.tmp 103)], type := 30, pos := "outright.go:103", after := #[{ on := 6, ground := Ground.data }], guard := none }) rfl (by rfl) (fun K hK => ?_) (AllReadyZ.nil)
          go_simp
          have hb6 := (Below.refl wd.heap.size wd).alloc (Nat.le_refl _) (.cells #[Value.pointer q] 59)
          have HX1 := Lib.hid (one_cell15 wd (Value.pointer q) 59)
          replace HTv := Lib.hid (HTv.out.below hb6)
          replace HRw := Lib.hid (HRw.out.below hb6)
          replace HBx := Lib.hid (below_step HBx.out hb6)
          clear hb6
          generalize wd.alloc (.cells #[Value.pointer q] 59) = w6 at *
          refine hK.out _ _ ?_ (fun hHeld => ?_)
          · exact ⟨HRw.out.cell 3, (HL.out.below HBx.out).bx.cell 3, (HBx.out.cell (p := ⟨gt, ot + j, none⟩) (block_lt_of_cell HE.out)).trans HE.out⟩
          clear hK K
          try simp only [Act.put, List.setIfInBounds_toArray, List.set_cons_zero, List.set_cons_succ]
          refine wpAnyZ_ready (rs := [8]) (by kernel_rfl) (by simp) ?_
          refine AllReadyZ.cons (o := { dst := some 105, op := Op.call { callee := Callee.builtin Builtin.append, args := #[Operand.tmp 98, Operand.tmp 104], argTypes := #[30, 30] }, type := 30, pos := "outright.go:103", after := #[{ on := 1, ground := Ground.data }, { on := 7, ground := Ground.data }], guard := none }) rfl (by rfl) (fun K hK => ?_) (AllReadyZ.nil)
          refine step_append_own15 (by rfl) _ _ 30 (by rfl) V0.heap.size 59 i1 z1 1 8 Tryz.underlying30 hi1 hy1 h11 h12 h13 (by decide) (.slice ao D.length c) D.length (ptsV D) (by rfl) HTv.out.own ⟨wd.heap.size, 0, none⟩ 1 1 [Value.pointer q] (by rfl) rfl HX1.out (fun u hu => by simp at hu; subst hu; rfl) (by unfold maxLen; have := HDL.out; omega) (by have := HDL.out; omega) HTv.out.bel.size ?_
          intro v7 w7 ho7 hg7 hn7
          obtain ⟨a7, c7, rfl⟩ := ownP_shape ho7
          rw [show ([Value.pointer q] : List Value) = [ptrT x.p] from by rw [HQ.out]] at ho7
          have HN := Lib.hid (HTv.out.add (x := x) ho7 hg7)
          replace HBx := Lib.hid (HTv.out.bel.grown hg7 HTv.out.bel.size (fun q hq => (HTv.out.own.lt q hq).1))
          replace HRw := Lib.hid HN.out.2
          clear ho7 hg7 hn7
          refine hK.out _ _ ?_ (fun hHeld => ?_)
          · exact ⟨HRw.out.cell 3, (HL.out.below HBx.out).bx.cell 3, (HBx.out.cell (p := ⟨gt, ot + j, none⟩) (block_lt_of_cell HE.out)).trans HE.out⟩
          clear hK K
          try simp only [Act.put, List.setIfInBounds_toArray, List.set_cons_zero, List.set_cons_succ]
          refine wpAnyZ_takeY (i := 9) (oi := { dst := some 106, op := Op.fieldAddr 32 (Operand.tmp 16) 3, type := 0, pos := "outright.go:103", after := #[{ on := 0, ground := Ground.phase }, { on := 1, ground := Ground.phase }, { on := 2, ground := Ground.phase }, { on := 3, ground := Ground.phase }, { on := 4, ground := Ground.phase }, { on := 5, ground := Ground.phase }, { on := 6, ground := Ground.phase }, { on := 7, ground := Ground.phase }, { on := 8, ground := Ground.phase }], guard := none }) (v := ?_) rfl (by kernel_rfl) (by kernel_rfl) (by kernel_rfl) (by rfl) (fun _ _ _ h => h) (Or.inl ⟨by rfl, ?_⟩) (by assumption) ?_
          rotate_left
          · (intro w; go_simp); (first | done | with_reducible rfl)
          try simp only [Act.put, List.setIfInBounds_toArray, List.set_cons_zero, List.set_cons_succ]
          refine wpAnyZ_ready (rs := [10]) (by kernel_rfl) (by simp) ?_
          refine AllReadyZ.last (o := { dst := none, op := Op.store 30 (Operand.tmp 106) (Operand.tmp 105), type := 0, pos := "outright.go:103", after := #[{ on := 9, ground := Ground.data }, { on := 8, ground := Ground.data }, { on := 8, ground := Ground.chain }, { on := 0, ground := Ground.phase }, { on := 1, ground := Ground.phase }, { on := 2, ground := Ground.phase }, { on := 3, ground := Ground.phase }, { on := 4, ground := Ground.phase }, { on := 5, ground := Ground.phase }, { on := 6, ground := Ground.phase }, { on := 7, ground := Ground.phase }, { on := 8, ground := Ground.phase }], guard := none }) rfl (fun K hK => ?_) AllReadyZ.nil
          have f9 := HRw.out.free 3
          have m9 := HRw.out.cell 3
          simp at m9
          go_simp
          refine hK.out _ _ ?_
          clear hK K
          refine wpAny_done (by kernel_rfl) ?_ _
          have HN2 := Lib.hid HN.out.1
          clear HN HTv HRw HBx HX1
          generalize w7.setCell ⟨b10, 3, none⟩ (.slice a7 (D.length + 1) c7) = w8 at *
          go_wp2_with fail
          go_roundw
          case rel => exact ⟨j, D ++ [x], a7, c7, by omega, by go_num, Lib.hid HDD.out.symm, HN2⟩
          case measure => simp [intOf] <;> omega

end Go.Proofs.YtnhljlmelbiljaaGreat
