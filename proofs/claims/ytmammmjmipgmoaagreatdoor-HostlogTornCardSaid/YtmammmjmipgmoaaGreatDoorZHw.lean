/- Texts of lower layers, as one. -/
import Derived.Test.YtmammmjmipgmoaaGreatDoorZHt
import Derived.Test.YtmammmjmipgmoaaGreatDoorZHu
/- Layer 6: HostlogTorn. By wip/tools/genhltorn.py. -/
namespace Go.Proofs.YtmammmjmipgmoaaGreatDoor
set_option linter.unusedVariables false
open Go Go.RowKit Go.Maps

theorem own_capT {w : World} {B sz n cap : Nat} {e : TypeId} {ao : Option Addr} {xs : List Value} (h : w.ownsRow B e sz (.slice ao n cap) n xs) : n ≤ cap := by
  rcases h.2 with ⟨q, _⟩ | ⟨g, c, cur, q, q1, q2, q3, q4⟩
  · simp only [Value.slice.injEq] at q
    omega
  · simp only [Value.slice.injEq] at q
    omega
open Hl in
set_option maxHeartbeats 16000000 in
set_option maxRecDepth 100000 in
theorem hostlogTorn_y (w : World) (hv : Vr w) (L : List M.Sp) (ao : Option Addr) (cap : Nat) (hLl : L.length ≤ 9223372036854775807) (hfit : ∀ x ∈ L, x.fits) (hA : SpsAt w ao L) (L2 : List M.Sp) (bo : Option Addr) (bc : Nat) (hLl2 : L2.length ≤ 9223372036854775807) (hfit2 : ∀ x ∈ L2, x.fits) (hA2 : SpsAt w bo L2)
    (ks : List Int) (ko : Option Addr) (kc : Nat) (hks : NsI5 ks) (hkA : NsA5 w ko ks) :
    Calls Tryz.prog 7 #[.slice ao L.length cap, .slice bo L2.length bc, .slice ko ks.length kc] w fun e w' => e = .returned (.bool true) ∧ Below w.heap.size w w' := by
  have hkn := hks.n
  by_cases h60 : 60 < L.length
  · have d0 : decide (60 < (L.length : Int)) = true := by simp; omega
    go_enter Tryz.func7, Tryz.ntmps7
    go_wp2_with fail
    go_ret
    exact ⟨rfl, Below.refl _ _⟩
  have d0 : decide (60 < (L.length : Int)) = false := by simp; omega
  by_cases h61 : 60 < L2.length
  · have d01 : decide (60 < (L2.length : Int)) = true := by simp; omega
    go_enter Tryz.func7, Tryz.ntmps7
    go_wp2_with fail
    go_ret
    exact ⟨rfl, Below.refl _ _⟩
  have d01 : decide (60 < (L2.length : Int)) = false := by simp; omega
  by_cases h62 : 100 < ks.length
  · have d02 : decide (100 < (ks.length : Int)) = true := by simp; omega
    go_enter Tryz.func7, Tryz.ntmps7
    go_wp2_with fail
    go_ret
    exact ⟨rfl, Below.refl _ _⟩
  have d02 : decide (100 < (ks.length : Int)) = false := by simp; omega
  have CO := Lib.hid (show Calls Tryz.prog 28 #[.int .i64 1048576] w (Opd6 1048576 w) from opened6 1048576 (by decide) (by decide) hv)
  have HA := Lib.hid hA
  have HA2 := Lib.hid hA2
  have HF := Lib.hid hfit
  have HF2 := Lib.hid hfit2
  have HKA := Lib.hid hkA
  have HKS := Lib.hid (hks.ks (by omega))
  obtain ⟨i0, z0, hi0, hz0, h01, h02, h03⟩ := infoSp_parts
  clear hv hA hA2 hfit hfit2 hkA hks hkn
  go_enter Tryz.func7, Tryz.ntmps7
  go_wp2_with fail
  with_reducible refine CO.out.mono ?_
  rintro e w1 ⟨d, b, rfl, hg, hb, -, -⟩
  have HK0 := Lib.hid (show Kept6 w b d [(.slice none 0 0, [])] (Dk.new 1048576) ⟨0, false, []⟩ w1 from Kept6.row ⟨fun _ => False, hg, fun k q => q.elim, hb, fun r hr => (by cases hr), List.Pairwise.nil⟩)
  clear hg hb CO
  go_wp2_with fail
  go_loopw [9, 10] (fun u i wr => ∃ (k : Nat) (D : Dk.St) (G : Lg) (Z : List Sg), k ≤ L.length ∧ i = .int .i64 k ∧ Hid (Kept6 w b d [(u, [] ++ kt6 L k)] D G wr ∧ BkP ([] ++ kt6 L k) (0 + 98 * k) Z G D ∧ 0 ≤ sureN Z D.L)) (fun _ i _ => L.length - (intOf i).toNat)
  case atStart => exact ⟨0, _, _, [], Nat.zero_le _, rfl, Lib.hid (by rw [kt6_zero]; exact ⟨HK0.out, bkP_new, Nat.zero_le _⟩)⟩
  case round =>
  clear HK0
  obtain ⟨w2, rfl⟩ : ∃ x, x = wr := ⟨_, rfl⟩
  obtain ⟨k, D, G, Z, hk, rfl, HH⟩ := hrel
  obtain ⟨au, cu, rfl⟩ := row_shape5 (HH.out.1.own (List.mem_cons_self ..))
  by_cases hlt : k < L.length
  · have d1 : decide ((k : Int) < (L.length : Int)) = true := by simp; omega
    have d1' : decide (k < L.length) = true := by simpa using hlt
    have hwi : IntKind.i64.wrap ((k : Int) + 1) = (k : Int) + 1 := IntWalk.i64_in _ (by omega)
    have HKL := Lib.hid (show ([] ++ kt6 L k).length ≤ 0 + k from by rw [List.length_append]; have := kt6_len L k; simp only [List.length_nil]; omega)
    have hfx : (L.getD k M.sp0).fits := HF.out _ (by rw [show L.getD k M.sp0 = L[k] from by simp [List.getD, hlt]]; exact List.getElem_mem hlt)
    obtain ⟨g, off, rfl, -⟩ := HA.out.off k hlt
    have SP := Lib.hid (show ∀ W, Below w.heap.size w W → SpOff (L.getD k M.sp0) W g (off + k * 8) from fun W hb => by
      obtain ⟨g', off', e, hc⟩ := (HA.out.below hb).off k hlt
      injection e with e
      injection e with e1 e2
      subst e1; subst e2
      exact hc)
    have HKY := Lib.hid (fun h => show [] ++ kt6 L (k + 1) = [] ++ kt6 L k ++ [L.getD k M.sp0] from by rw [kt6_yes (L := L) hlt h, List.append_assoc])
    have HKN2 := Lib.hid (fun h => show [] ++ kt6 L (k + 1) = [] ++ kt6 L k from by rw [kt6_no (L := L) hlt h])
    have HFX := Lib.hid hfx
    clear hfx
    generalize L.getD k M.sp0 = x at *
    generalize hKK : [] ++ kt6 L k = K at *
    have hSZ : 0 + 98 * k + 98 = 0 + 98 * (k + 1) := by omega
    cases hm : M.mayB x with
    | true =>
      have HE := HKY.out hm
      obtain ⟨Z1, r1, hb1, hs1⟩ := HH.out.2.1.app2 hm HFX.out (by have := HKL.out; omega) (by omega)
      have CA := Lib.hid (show Calls Tryz.prog 19 #[.pointer (some ⟨b, 0, none⟩), .agg #[.int .i64 x.trace, .int .i64 x.id, .int .i64 x.parent, .string (S x.svc), .string (S x.host), .int .i64 x.start, .int .i64 x.dur, .string (S x.note)]] w2 fun e w' => e = .returned (.int .i64 0) ∧ Kept6 w b d [(.slice au K.length cu, K)] (append6 x G D).2.1 (append6 x G D).2.2 w' from by
        have := HH.out.1.call (fun X h1 h2 h3 => append6_any h1 h2 h3 x HFX.out (by rw [HH.out.2.1.en]; have := HKL.out; omega) HH.out.2.1.lv.fewS)
        rw [r1] at this
        exact this)
      have HB1 := Lib.hid (show BkP (K ++ [x]) (0 + 98 * k + 98) Z1 (append6 x G D).2.2 (append6 x G D).2.1 ∧ 0 ≤ sureN Z1 (append6 x G D).2.1.L from ⟨hb1, Nat.le_trans HH.out.2.2 hs1⟩)
      have HE1 := Lib.hid HE
      have HHK := Lib.hid HH.out.1
      clear hb1 hs1 HE r1 HKY HKN2 hKK hm HH
      obtain ⟨D1, hD1⟩ : ∃ y, y = (append6 x G D).2.1 := ⟨_, rfl⟩
      obtain ⟨G1, hG1⟩ : ∃ y, y = (append6 x G D).2.2 := ⟨_, rfl⟩
      rw [← hD1, ← hG1] at HB1 CA
      clear hD1 hG1
      obtain ⟨x0, x1, x2, x3, x4, x5, x6, x7⟩ := SP.out _ (HHK.out.bel)
      go_wp2_with fail
      with_reducible refine CA.out.mono ?_
      rintro e w3 ⟨rfl, hk3⟩
      have HK3 := Lib.hid hk3
      clear hk3 x0 x1 x2 x3 x4 x5 x6 x7 HHK CA
      obtain ⟨x0, x1, x2, x3, x4, x5, x6, x7⟩ := SP.out _ (HK3.out.bel)
      have hown := HK3.out.own (List.mem_cons_self ..)
      have hwl := HK3.out.bel.size
      go_wp2_with (at_builtin; go_loud (refine wpList_append_own_at _ rfl _ _ 52 rfl w.heap.size 39 i0 z0 8 88 Tryz.underlying52 hi0 hz0 h01 h02 h03 (by decide) (.slice au K.length cu) K.length (sps K) rfl (hown.alloc _) ⟨w3.heap.size, 0, none⟩ 1 1 (spL x) rfl rfl (sp_new w3 x _) (spL_one x) (by have := HKL.out; unfold maxLen; omega) (by have := HKL.out; omega) (by rw [World.size_alloc]; omega) ?_; intro v4 w4 ho4 hg4 _ h4; obtain ⟨a4, c4, rfl⟩ := ownP_shape ho4; have HK4 := Lib.hid (show Kept6 w b d [(.slice a4 (K.length + 1) c4, K ++ [x])] D1 G1 w4 from Kept6.grow (K := K) (HK3.out.below ((Below.refl _ _).alloc (Nat.le_refl _) _)) (by rw [List.length_append, List.length_singleton, sps_append, sps_one]; exact ho4) hg4 (h4.elim .inl fun q => .inr ⟨_, q, Nat.le_refl _⟩)); clear ho4 hg4 h4 hown hwl x0 x1 x2 x3 x4 x5 x6 x7))
      go_roundw
      case rel => exact ⟨k + 1, D1, G1, Z1, hlt, by go_num, Lib.hid (by rw [HE1.out, ← hSZ]; exact ⟨HK4.out, HB1.out.1, HB1.out.2⟩)⟩
      case measure => simp [intOf]; omega
    | false =>
      have HE := HKN2.out hm
      have CA := Lib.hid (show Calls Tryz.prog 19 #[.pointer (some ⟨b, 0, none⟩), .agg #[.int .i64 x.trace, .int .i64 x.id, .int .i64 x.parent, .string (S x.svc), .string (S x.host), .int .i64 x.start, .int .i64 x.dur, .string (S x.note)]] w2 fun e w' => e = .returned (.int .i64 2) ∧ Kept6 w b d [(.slice au K.length cu, K)] D G w' from by
        have := HH.out.1.call (fun X h1 h2 h3 => append6_any h1 h2 h3 x HFX.out (by rw [HH.out.2.1.en]; have := HKL.out; omega) HH.out.2.1.lv.fewS)
        rw [append_no HH.out.2.1.lv hm] at this
        exact this)
      have HB1 := Lib.hid (show BkP K (0 + 98 * k + 98) Z G D ∧ 0 ≤ sureN Z D.L from ⟨HH.out.2.1.more, HH.out.2.2⟩)
      have HE1 := Lib.hid HE
      have HHK := Lib.hid HH.out.1
      clear HE HKY HKN2 hKK hm HH
      obtain ⟨x0, x1, x2, x3, x4, x5, x6, x7⟩ := SP.out _ (HHK.out.bel)
      go_wp2_with fail
      with_reducible refine CA.out.mono ?_
      rintro e w3 ⟨rfl, hk3⟩
      have HK3 := Lib.hid hk3
      clear hk3 x0 x1 x2 x3 x4 x5 x6 x7 HHK CA
      go_wp2_with fail
      go_roundw
      case rel => exact ⟨k + 1, D, G, Z, hlt, by go_num, Lib.hid (by rw [HE1.out, ← hSZ]; exact ⟨HK3.out, HB1.out.1, HB1.out.2⟩)⟩
      case measure => simp [intOf]; omega
  obtain rfl : k = L.length := by omega
  have d1 : decide ((L.length : Int) < (L.length : Int)) = false := by simp
  clear hlt hk
  have HKN := Lib.hid (show ([] ++ kt6 L L.length).length ≤ 60 from by rw [List.length_append]; have := kt6_len L L.length; simp only [List.length_nil]; omega)
  generalize [] ++ kt6 L L.length = K1 at *
  obtain ⟨Z1, r1, hb1, hsf, hz1⟩ := HH.out.2.1.syn
  have CS := Lib.hid (show Calls Tryz.prog 20 #[.pointer (some ⟨b, 0, none⟩)] w2 fun e w' => e = .returned (.int .i64 0) ∧ Kept6 w b d [(.slice au K1.length cu, K1)] (sync G D).2.1 (sync G D).2.2 w' from by
    have := HH.out.1.call (fun X h1 h2 h3 => sync6_any h1 h2 h3)
    rw [r1] at this
    exact this)
  have HB1 := Lib.hid (show BkP K1 (0 + 98 * L.length + 98) Z1 (sync G D).2.2 (sync G D).2.1 ∧ SafeZ Z1 (sync G D).2.1.L from ⟨hb1, hsf⟩)
  clear hb1 hsf r1 hz1 HH
  obtain ⟨D1, hD1⟩ : ∃ y, y = (sync G D).2.1 := ⟨_, rfl⟩
  obtain ⟨G1, hG1⟩ : ∃ y, y = (sync G D).2.2 := ⟨_, rfl⟩
  rw [← hD1, ← hG1] at HB1 CS
  clear hD1 hG1
  go_wp2_with fail
  with_reducible refine CS.out.mono ?_
  rintro e w3 ⟨rfl, hk3⟩
  have HK3 := Lib.hid hk3
  clear hk3 CS
  have CU := Lib.hid (show Calls Tryz.prog 24 #[.pointer (some ⟨b, 0, none⟩)] w3 fun e w' => e = .returned (.int .i64 (K1.length : Nat)) ∧ Below w3.heap.size w3 w' from by
    obtain ⟨X, h⟩ := HK3.out.hg
    have := sure6_any h (srt_of HB1.out.1.lv.gs)
    rw [HB1.out.1.lv.sure, HB1.out.1.sn HB1.out.2, Nat.zero_add] at this
    exact this)
  go_wp2_with fail
  with_reducible refine CU.out.mono ?_
  rintro e w4 ⟨rfl, hb⟩
  have HK0 := Lib.hid (show Kept6 w b d [(.slice au K1.length cu, K1 ++ kt6 L2 0)] D1 G1 w4 ∧ BkP (K1 ++ kt6 L2 0) (10000 + 98 * 0) Z1 G1 D1 ∧ K1.length ≤ sureN Z1 D1.L from by
    rw [kt6_zero, List.append_nil]
    exact ⟨HK3.out.below hb, ⟨HB1.out.1.lv, HB1.out.1.set, HB1.out.1.room, HB1.out.1.fl, by have := HB1.out.1.sz; omega, HB1.out.1.st0⟩, Nat.le_of_eq (HB1.out.1.sn HB1.out.2).symm⟩)
  clear hb CU HK3 HB1
  clear d1
  go_wp2_with fail
  go_loopw [9, 12] (fun u i wr => ∃ (k : Nat) (D : Dk.St) (G : Lg) (Z : List Sg), k ≤ L2.length ∧ i = .int .i64 k ∧ Hid (Kept6 w b d [(u, K1 ++ kt6 L2 k)] D G wr ∧ BkP (K1 ++ kt6 L2 k) (10000 + 98 * k) Z G D ∧ K1.length ≤ sureN Z D.L)) (fun _ i _ => L2.length - (intOf i).toNat)
  case atStart => exact ⟨0, D1, G1, Z1, Nat.zero_le _, rfl, HK0⟩
  case round =>
  clear HK0
  obtain ⟨w2, rfl⟩ : ∃ x, x = wr := ⟨_, rfl⟩
  obtain ⟨k, D, G, Z, hk, rfl, HH⟩ := hrel
  obtain ⟨au, cu, rfl⟩ := row_shape5 (HH.out.1.own (List.mem_cons_self ..))
  by_cases hlt : k < L2.length
  · have d1 : decide ((k : Int) < (L2.length : Int)) = true := by simp; omega
    have d1' : decide (k < L2.length) = true := by simpa using hlt
    have hwi : IntKind.i64.wrap ((k : Int) + 1) = (k : Int) + 1 := IntWalk.i64_in _ (by omega)
    have HKL := Lib.hid (show (K1 ++ kt6 L2 k).length ≤ 60 + k from by rw [List.length_append]; have := kt6_len L2 k; have := HKN.out; omega)
    have hfx : (L2.getD k M.sp0).fits := HF2.out _ (by rw [show L2.getD k M.sp0 = L2[k] from by simp [List.getD, hlt]]; exact List.getElem_mem hlt)
    obtain ⟨g, off, rfl, -⟩ := HA2.out.off k hlt
    have SP := Lib.hid (show ∀ W, Below w.heap.size w W → SpOff (L2.getD k M.sp0) W g (off + k * 8) from fun W hb => by
      obtain ⟨g', off', e, hc⟩ := (HA2.out.below hb).off k hlt
      injection e with e
      injection e with e1 e2
      subst e1; subst e2
      exact hc)
    have HKY := Lib.hid (fun h => show K1 ++ kt6 L2 (k + 1) = K1 ++ kt6 L2 k ++ [L2.getD k M.sp0] from by rw [kt6_yes (L := L2) hlt h, List.append_assoc])
    have HKN2 := Lib.hid (fun h => show K1 ++ kt6 L2 (k + 1) = K1 ++ kt6 L2 k from by rw [kt6_no (L := L2) hlt h])
    have HFX := Lib.hid hfx
    clear hfx
    generalize L2.getD k M.sp0 = x at *
    generalize hKK : K1 ++ kt6 L2 k = K at *
    have hSZ : 10000 + 98 * k + 98 = 10000 + 98 * (k + 1) := by omega
    cases hm : M.mayB x with
    | true =>
      have HE := HKY.out hm
      obtain ⟨Z1, r1, hb1, hs1⟩ := HH.out.2.1.app2 hm HFX.out (by have := HKL.out; omega) (by omega)
      have CA := Lib.hid (show Calls Tryz.prog 19 #[.pointer (some ⟨b, 0, none⟩), .agg #[.int .i64 x.trace, .int .i64 x.id, .int .i64 x.parent, .string (S x.svc), .string (S x.host), .int .i64 x.start, .int .i64 x.dur, .string (S x.note)]] w2 fun e w' => e = .returned (.int .i64 0) ∧ Kept6 w b d [(.slice au K.length cu, K)] (append6 x G D).2.1 (append6 x G D).2.2 w' from by
        have := HH.out.1.call (fun X h1 h2 h3 => append6_any h1 h2 h3 x HFX.out (by rw [HH.out.2.1.en]; have := HKL.out; omega) HH.out.2.1.lv.fewS)
        rw [r1] at this
        exact this)
      have HB1 := Lib.hid (show BkP (K ++ [x]) (10000 + 98 * k + 98) Z1 (append6 x G D).2.2 (append6 x G D).2.1 ∧ K1.length ≤ sureN Z1 (append6 x G D).2.1.L from ⟨hb1, Nat.le_trans HH.out.2.2 hs1⟩)
      have HE1 := Lib.hid HE
      have HHK := Lib.hid HH.out.1
      clear hb1 hs1 HE r1 HKY HKN2 hKK hm HH
      obtain ⟨D1, hD1⟩ : ∃ y, y = (append6 x G D).2.1 := ⟨_, rfl⟩
      obtain ⟨G1, hG1⟩ : ∃ y, y = (append6 x G D).2.2 := ⟨_, rfl⟩
      rw [← hD1, ← hG1] at HB1 CA
      clear hD1 hG1
      obtain ⟨x0, x1, x2, x3, x4, x5, x6, x7⟩ := SP.out _ (HHK.out.bel)
      go_wp2_with fail
      with_reducible refine CA.out.mono ?_
      rintro e w3 ⟨rfl, hk3⟩
      have HK3 := Lib.hid hk3
      clear hk3 x0 x1 x2 x3 x4 x5 x6 x7 HHK CA
      obtain ⟨x0, x1, x2, x3, x4, x5, x6, x7⟩ := SP.out _ (HK3.out.bel)
      have hown := HK3.out.own (List.mem_cons_self ..)
      have hwl := HK3.out.bel.size
      go_wp2_with (at_builtin; go_loud (refine wpList_append_own_at _ rfl _ _ 52 rfl w.heap.size 39 i0 z0 8 88 Tryz.underlying52 hi0 hz0 h01 h02 h03 (by decide) (.slice au K.length cu) K.length (sps K) rfl (hown.alloc _) ⟨w3.heap.size, 0, none⟩ 1 1 (spL x) rfl rfl (sp_new w3 x _) (spL_one x) (by have := HKL.out; unfold maxLen; omega) (by have := HKL.out; omega) (by rw [World.size_alloc]; omega) ?_; intro v4 w4 ho4 hg4 _ h4; obtain ⟨a4, c4, rfl⟩ := ownP_shape ho4; have HK4 := Lib.hid (show Kept6 w b d [(.slice a4 (K.length + 1) c4, K ++ [x])] D1 G1 w4 from Kept6.grow (K := K) (HK3.out.below ((Below.refl _ _).alloc (Nat.le_refl _) _)) (by rw [List.length_append, List.length_singleton, sps_append, sps_one]; exact ho4) hg4 (h4.elim .inl fun q => .inr ⟨_, q, Nat.le_refl _⟩)); clear ho4 hg4 h4 hown hwl x0 x1 x2 x3 x4 x5 x6 x7))
      go_roundw
      case rel => exact ⟨k + 1, D1, G1, Z1, hlt, by go_num, Lib.hid (by rw [HE1.out, ← hSZ]; exact ⟨HK4.out, HB1.out.1, HB1.out.2⟩)⟩
      case measure => simp [intOf]; omega
    | false =>
      have HE := HKN2.out hm
      have CA := Lib.hid (show Calls Tryz.prog 19 #[.pointer (some ⟨b, 0, none⟩), .agg #[.int .i64 x.trace, .int .i64 x.id, .int .i64 x.parent, .string (S x.svc), .string (S x.host), .int .i64 x.start, .int .i64 x.dur, .string (S x.note)]] w2 fun e w' => e = .returned (.int .i64 2) ∧ Kept6 w b d [(.slice au K.length cu, K)] D G w' from by
        have := HH.out.1.call (fun X h1 h2 h3 => append6_any h1 h2 h3 x HFX.out (by rw [HH.out.2.1.en]; have := HKL.out; omega) HH.out.2.1.lv.fewS)
        rw [append_no HH.out.2.1.lv hm] at this
        exact this)
      have HB1 := Lib.hid (show BkP K (10000 + 98 * k + 98) Z G D ∧ K1.length ≤ sureN Z D.L from ⟨HH.out.2.1.more, HH.out.2.2⟩)
      have HE1 := Lib.hid HE
      have HHK := Lib.hid HH.out.1
      clear HE HKY HKN2 hKK hm HH
      obtain ⟨x0, x1, x2, x3, x4, x5, x6, x7⟩ := SP.out _ (HHK.out.bel)
      go_wp2_with fail
      with_reducible refine CA.out.mono ?_
      rintro e w3 ⟨rfl, hk3⟩
      have HK3 := Lib.hid hk3
      clear hk3 x0 x1 x2 x3 x4 x5 x6 x7 HHK CA
      go_wp2_with fail
      go_roundw
      case rel => exact ⟨k + 1, D, G, Z, hlt, by go_num, Lib.hid (by rw [HE1.out, ← hSZ]; exact ⟨HK3.out, HB1.out.1, HB1.out.2⟩)⟩
      case measure => simp [intOf]; omega
  obtain rfl : k = L2.length := by omega
  have d1 : decide ((L2.length : Int) < (L2.length : Int)) = false := by simp
  clear hlt hk
  have HK2N := Lib.hid (show (K1 ++ kt6 L2 L2.length).length ≤ 120 from by rw [List.length_append]; have := kt6_len L2 L2.length; have := HKN.out; omega)
  generalize K1 ++ kt6 L2 L2.length = K at *
  obtain ⟨Z2, tl, hfe, hp1, hp2, hsn⟩ := fell_of HH.out.2.1.lv.hz HH.out.2.1.lv.f0 HH.out.2.1.lv.len ks
  rw [HH.out.2.1.fl] at hp1 hp2
  have hge : K1.length ≤ cnt Z2 := by
    have h1 := hp2.length_le
    rw [List.length_take, cnt_flat] at h1
    have h2 := HH.out.2.2
    have h3 := sureN_le Z D.L
    rw [HH.out.2.1.cnt] at h3
    omega
  have hle : cnt Z2 ≤ K.length := hp1.length_le
  have hsz : Dk.size (Dk.fall ks D).L ≤ Dk.size D.L := size_fall HH.out.2.1.lv.ok ks
  obtain ⟨L', e1, e2, e3, e4⟩ := hfe.open (by have h1 := HH.out.2.1.sz; have h2 : (Dk.fall ks D).room = 1048576 := HH.out.2.1.room; omega)
  have hfin : flat Z2 = K.take (cnt Z2) := List.prefix_iff_eq_take.1 hp1
  have hcr : Dk.crash ks D = (0, Dk.fall ks D) := by unfold Dk.crash; rw [if_neg (by rw [HH.out.2.1.lv.up]; simp)]
  have hst0 : (Dk.fall ks D).starts = 0 := HH.out.2.1.st0
  have hgst : G.st = 0 := by rw [← HH.out.2.1.lv.st]; exact HH.out.2.1.st0
  obtain ⟨D4, hD4⟩ : ∃ y, y = { up6 (Dk.fall ks D) with set := none, L := L' } := ⟨_, rfl⟩
  obtain ⟨G4, hG4⟩ : ∃ y : Lg, y = ⟨(Dk.fall ks D).starts + 1, false, Z2.map smOf⟩ := ⟨_, rfl⟩
  have HL := Lib.hid (show Lv 0 Z2 G4 D4 ∧ SafeZ Z2 D4.L ∧ D4.set = none ∧ D4.room = 1048576 ∧ Dk.size D4.L ≤ 50000 ∧ flat Z2 = K.take (cnt Z2) from by
    rw [hD4, hG4]
    exact ⟨e2, e3, rfl, HH.out.2.1.room, by have h1 := HH.out.2.1.sz; show Dk.size L' ≤ _; omega, hfin⟩)
  have HP := Lib.hid (show K1.length ≤ cnt Z2 ∧ cnt Z2 ≤ K.length from ⟨hge, hle⟩)
  rw [← hD4] at e1
  obtain ⟨D3, hD3⟩ : ∃ y, y = Dk.fall ks D := ⟨_, rfl⟩
  rw [← hD3] at e1 hcr hst0 hG4
  have HZ3 := Lib.hid (show HasS 0 Z2 tl D3.L ∧ D3.up = false from by rw [hD3]; exact ⟨hfe.hz, rfl⟩)
  have HG4 := Lib.hid hG4
  have HE1 := Lib.hid e1
  have HS0 := Lib.hid (show D3.starts = 0 ∧ G.st = 0 ∧ G.over = false from ⟨hst0, hgst, HH.out.2.1.lv.ov⟩)
  have HHK := Lib.hid HH.out.1
  have CE := Lib.hid (show Calls Tryz.prog 25 #[.pointer (some ⟨b, 0, none⟩)] w2 fun e w' => e = .returned (.int .i64 (K.length : Nat)) ∧ Below w2.heap.size w2 w' from by
    obtain ⟨X, h⟩ := HH.out.1.hg
    have := end6_any h
    rw [HH.out.2.1.lv.end_, HH.out.2.1.cnt, Nat.zero_add] at this
    exact this)
  have CC := Lib.hid (show ∀ W, Kept6 w b d [(.slice au K.length cu, K)] D G W → Calls Tryz.prog 27 #[.pointer (some ⟨d, 0, none⟩), .slice ko ks.length kc] W fun e w' => e = .returned (.int .i64 0) ∧ Kept6 w b d [(.slice au K.length cu, K)] D3 G w' from fun W h => by
    have := h.disk (fun X hd hX hB => crashX hd hX hB ks ko kc HKS.out (HKA.out.below h.bel) (fun a hne e => .inr (nsA_lt6 HKA.out a hne e)))
    rw [hcr] at this
    exact this)
  clear hfe hp1 hp2 hsn hge hle hsz e1 e2 e3 e4 hfin hcr hst0 hgst hG4 hD4 hD3 HH
  have g1 : ((K.length : Int) != (K.length : Int)) = false := by simp
  go_wp2_with fail
  with_reducible refine CE.out.mono ?_
  rintro e w3 ⟨rfl, hb⟩
  have HK3 := Lib.hid (HHK.out.below hb)
  clear hb CE HHK
  go_wp2_with fail
  with_reducible refine (CC.out _ HK3.out).mono ?_
  rintro e w4 ⟨rfl, hk4⟩
  have HK4 := Lib.hid hk4
  clear hk4 CC HK3
  have hs51 : Hl.state D3 G = 51 := by unfold Hl.state; rw [if_pos (.inr (.inl HZ3.out.2))]
  have CS := Lib.hid (show Calls Tryz.prog 20 #[.pointer (some ⟨b, 0, none⟩)] w4 fun e w' => e = .returned (.int .i64 51) ∧ Kept6 w b d [(.slice au K.length cu, K)] D3 G w' from by
    have := HK4.out.call (fun X h1 h2 h3 => sync6_any h1 h2 h3)
    unfold Hl.sync at this
    rw [hs51, if_pos (by decide)] at this
    exact this)
  clear hs51
  go_wp2_with fail
  with_reducible refine CS.out.mono ?_
  rintro e w5 ⟨rfl, hk5⟩
  have HK5 := Lib.hid hk5
  clear hk5 CS HK4
  have CT := Lib.hid (show Calls Tryz.prog 31 #[.pointer (some ⟨d, 0, none⟩)] w5 fun e w' => e = .returned (.int .i64 0) ∧ Kept6 w b d [(.slice au K.length cu, K)] (up6 D3) G w' from by
    have := HK5.out.disk (fun X hd hX hB => startX hd hX hB (by rw [HS0.out.1]; omega))
    rw [start_up HZ3.out.2] at this
    exact this)
  go_wp2_with fail
  with_reducible refine CT.out.mono ?_
  rintro e w6 ⟨rfl, hk6⟩
  have HK6 := Lib.hid hk6
  clear hk6 CT HK5
  have CE := Lib.hid (show Calls Tryz.prog 25 #[.pointer (some ⟨b, 0, none⟩)] w6 fun e w' => e = .returned (.int .i64 0) ∧ Below w6.heap.size w6 w' from by
    obtain ⟨X, h⟩ := HK6.out.hg
    have := end6_any h
    have e0 : endL (up6 D3) G = 0 := by
      unfold endL
      rw [if_neg]
      unfold Hl.state
      rw [if_pos (.inr (.inr (by show D3.starts + 1 ≠ G.st; rw [HS0.out.1, HS0.out.2.1]; decide)))]
      decide
    rw [e0] at this
    exact this)
  go_wp2_with fail
  with_reducible refine CE.out.mono ?_
  rintro e w7 ⟨rfl, hb⟩
  have HK7 := Lib.hid (HK6.out.below hb)
  clear hb CE HK6
  have CO := Lib.hid (HK7.out.open (by show D3.starts + 1 ≤ _; rw [HS0.out.1]; omega) HZ3.out.1 rfl)
  rw [HE1.out] at CO
  clear HE1
  go_wp2_with fail
  with_reducible refine CO.out.mono ?_
  rintro e w8 (⟨h0, _⟩ | ⟨-, b2, rfl, hk8⟩)
  · exact absurd rfl h0
  rw [show (⟨(up6 D3).starts, false, Z2.map smOf⟩ : Lg) = G4 from HG4.out.symm] at hk8
  have HK8 := Lib.hid (fun W (hb : Below w8.heap.size w8 W) => hk8.below hb)
  clear hk8 CO HK7 HG4
  obtain ⟨n, hn⟩ : ∃ n, n = cnt Z2 := ⟨_, rfl⟩
  rw [← hn] at HP
  have CE := Lib.hid (show ∀ W, Below w8.heap.size w8 W → Calls Tryz.prog 25 #[.pointer (some ⟨b2, 0, none⟩)] W fun e w' => e = .returned (.int .i64 (n : Nat)) ∧ Below W.heap.size W w' from fun W hb => by
    obtain ⟨X, h⟩ := (HK8.out W hb).hg
    have := end6_any h
    rw [HL.out.1.end_, ← hn, Nat.zero_add] at this
    exact this)
  have CU := Lib.hid (show ∀ W, Below w8.heap.size w8 W → Calls Tryz.prog 24 #[.pointer (some ⟨b2, 0, none⟩)] W fun e w' => e = .returned (.int .i64 (n : Nat)) ∧ Below W.heap.size W w' from fun W hb => by
    obtain ⟨X, h⟩ := (HK8.out W hb).hg
    have := sure6_any h (srt_of HL.out.1.gs)
    rw [HL.out.1.sure, sureN_safe HL.out.1.hz HL.out.2.1, ← hn, Nat.zero_add] at this
    exact this)
  have CA := Lib.hid (show ∀ W, Below w8.heap.size w8 W → Calls Tryz.prog 32 #[.pointer (some ⟨b2, 0, none⟩)] W (AllR6 (K.take n) W) from fun W hb => by
    obtain ⟨X, h⟩ := (HK8.out W hb).hg
    have := all6_any h HL.out.1
    rw [sureN_safe HL.out.1.hz HL.out.2.1, List.take_of_length_le (by rw [cnt_flat]; exact Nat.le_refl _), HL.out.2.2.2.2.2, ← hn] at this
    exact this)
  have HN := Lib.hid hn
  clear hn
  have hpn := HP.out
  have t1 : decide ((n : Int) < (K1.length : Int)) = false := by simp; omega
  have t1' : decide (n < K1.length) = false := by simp; omega
  have t2 : decide ((K.length : Int) < (n : Int)) = false := by simp; omega
  have t2' : decide (K.length < n) = false := by simp; omega
  have t3 : ((n : Int) != (n : Int)) = false := by simp
  have hkt : (K.take n).length = n := by rw [List.length_take]; omega
  have HKT := Lib.hid hkt
  clear hpn hkt
  go_wp2_with fail
  with_reducible refine (CE.out _ (Below.refl _ _)).mono ?_
  rintro e w9 ⟨rfl, hb⟩
  have HB := Lib.hid hb
  clear hb
  go_wp2_with fail
  with_reducible refine (CE.out _ HB.out).mono ?_
  rintro e w10 ⟨rfl, hb⟩
  replace HB := Lib.hid (below_step HB.out hb)
  clear hb
  go_wp2_with fail
  with_reducible refine (CU.out _ HB.out).mono ?_
  rintro e w11 ⟨rfl, hb⟩
  replace HB := Lib.hid (below_step HB.out hb)
  clear hb CU
  go_wp2_with fail
  with_reducible refine (CE.out _ HB.out).mono ?_
  rintro e w12 ⟨rfl, hb⟩
  replace HB := Lib.hid (below_step HB.out hb)
  clear hb
  go_wp2_with fail
  with_reducible refine (CA.out _ HB.out).mono ?_
  rintro e w13 ⟨ax, cx, rfl, hr, hb⟩
  rw [HKT.out] at hr ⊢
  have HK13 := Lib.hid (show Kept6 w b2 d [(.slice ax n cx, K.take n), (.slice au K.length cu, K)] D4 G4 w13 from (HK8.out _ HB.out).add hb (by rw [HKT.out]; exact hr))
  replace HB := Lib.hid (below_step HB.out hb)
  clear hb hr CA
  have hcw := own_capT (HK13.out.own (v := .slice au K.length cu) (K := K) (by simp))
  have hnc : n ≤ cu := by have := HP.out; omega
  have CQ := Lib.hid (show Calls Tryz.prog 34 #[.slice ax n cx, .slice au n cu] w13 fun e w' => e = .returned (.bool true) ∧ Below w13.heap.size w13 w' from by
    have hx0 := HK13.out.own (v := .slice ax n cx) (K := K.take n) (by simp)
    rw [HKT.out] at hx0
    have hx := spsAt_own (L := K.take n) hx0 HKT.out.symm
    have hy := spsAt_take6 (spsAt_own (HK13.out.own (v := .slice au K.length cu) (K := K) (by simp)) rfl) n
    have := sameSpans_any (ao := ax) (bo := au) (L := K.take n) (K := K.take n) cx cu hx hy (by rw [HKT.out]; have := HP.out; have := HK2N.out; omega) (by rw [HKT.out]; have := HP.out; have := HK2N.out; omega)
    rw [HKT.out] at this
    exact this.mono fun e w' ⟨h1, _, h2⟩ => ⟨h1 rfl, h2⟩)
  go_wp2_with fail
  with_reducible refine CQ.out.mono ?_
  rintro e w14 ⟨rfl, hb⟩
  have HK14 := Lib.hid (HK13.out.below hb)
  replace HB := Lib.hid (below_step HB.out hb)
  clear hb CQ HK13 hcw hnc
  obtain ⟨F3, Z3, L3, q1, q2, q3, q4, rfl, q6⟩ := (append_lv HL.out.1 (ex_may ⟨3, by decide⟩) (spX_fits (n := 3) (by decide)) (by rw [← HN.out]; have := HP.out; have := HK2N.out; omega)).done HL.out.2.2.1 (by have h1 := HL.out.2.2.2.1; have h2 := HL.out.2.2.2.2.1; omega)
  have hc3 : cnt Z3 = n + 1 := by rw [← cnt_flat, q6, List.length_append, cnt_flat, ← HN.out]; rfl
  have CP := Lib.hid (show ∀ W, Kept6 w b2 d [(.slice ax n cx, K.take n), (.slice au K.length cu, K)] D4 G4 W → Calls Tryz.prog 19 #[.pointer (some ⟨b2, 0, none⟩), spA6 (spX 3)] W fun e w' => e = .returned (.int .i64 0) ∧ Kept6 w b2 d [(.slice ax n cx, K.take n), (.slice au K.length cu, K)] (append6 (spX 3) G4 D4).2.1 (append6 (spX 3) G4 D4).2.2 w' from fun W h => by
    have := h.call (fun X h1 h2 h3 => append6_any h1 h2 h3 (spX 3) (spX_fits (by decide)) (by rw [HL.out.1.endN, ← HN.out]; have := HP.out; have := HK2N.out; omega) HL.out.1.fewS)
    rw [q1] at this
    exact this)
  have HL3 := Lib.hid (show Lv 0 Z3 (append6 (spX 3) G4 D4).2.2 (append6 (spX 3) G4 D4).2.1 ∧ cnt Z3 = n + 1 from ⟨q3, hc3⟩)
  clear q1 q2 q3 q4 q6 hc3
  obtain ⟨D5, hD5⟩ : ∃ y, y = (append6 (spX 3) G4 D4).2.1 := ⟨_, rfl⟩
  obtain ⟨G5, hG5⟩ : ∃ y, y = (append6 (spX 3) G4 D4).2.2 := ⟨_, rfl⟩
  rw [← hD5, ← hG5] at CP HL3
  clear hD5 hG5
  have CX := Lib.hid (fun W => show Calls Tryz.prog 35 #[.int .i64 3] W fun e w' => e = .returned (spA6 (spX 3)) ∧ Below W.heap.size W w' from span6_any 3 (by decide) W)
  obtain ⟨np, hnp⟩ : ∃ np, np = n + 1 := ⟨_, rfl⟩
  have t4 : IntKind.i64.wrap ((n : Int) + 1) = (np : Int) := by rw [IntWalk.i64_in _ (by have := HP.out; have := HK2N.out; omega)]; omega
  have t5 : ((np : Int) == (np : Int)) = true := by simp
  have HNP := Lib.hid hnp
  clear hnp
  obtain ⟨X3, hX3⟩ : ∃ y, y = spX 3 := ⟨_, rfl⟩
  rw [← hX3] at CX CP
  clear hX3
  go_wp2_with fail
  with_reducible refine (CE.out _ HB.out).mono ?_
  rintro e w15 ⟨rfl, hb⟩
  have HK15 := Lib.hid (HK14.out.below hb)
  clear hb CE HB HK14 HK8
  go_wp2_with fail
  with_reducible refine (CX.out _).mono ?_
  rintro e w16 ⟨rfl, hb⟩
  have HK16 := Lib.hid (HK15.out.below hb)
  clear hb CX HK15
  go_wp2_with fail
  with_reducible refine (CP.out _ HK16.out).mono ?_
  rintro e w17 ⟨rfl, hk17⟩
  have HK17 := Lib.hid hk17
  clear hk17 CP HK16
  have CE := Lib.hid (show Calls Tryz.prog 25 #[.pointer (some ⟨b2, 0, none⟩)] w17 fun e w' => e = .returned (.int .i64 (np : Nat)) ∧ Below w17.heap.size w17 w' from by
    obtain ⟨X, h⟩ := HK17.out.hg
    have := end6_any h
    rw [HL3.out.1.end_, HL3.out.2, Nat.zero_add, ← HNP.out] at this
    exact this)
  go_wp2_with fail
  with_reducible refine CE.out.mono ?_
  rintro e w18 ⟨rfl, hb⟩
  have HK18 := Lib.hid (HK17.out.below hb)
  clear hb CE HK17
  go_wp2_with fail
  with_reducible refine (does6 w18 HK18.out.vr).mono ?_
  rintro e w19 ⟨rfl, hb⟩
  have HBE := Lib.hid (below_step HK18.out.bel hb)
  clear hb HK18
  go_wp2_with fail
  go_ret
  exact ⟨rfl, HBE.out⟩
/-- The law, for any opened arguments. -/
theorem hostlogTorn_calls (w : World) (hv : Vr w) (u : Value) (hu : USf6 w u) (t : Value) (ht : USf6 w t) (k : Value) (hk : UNs5 w k) : Calls Tryz.prog 7 #[u, t, k] w fun e w' => e = .returned (.bool true) ∧ Below w.heap.size w w' := by
  obtain ⟨L, ao, cap, rfl, hl, hf, hA⟩ := hu
  obtain ⟨L2, bo, bc, rfl, hl2, hf2, hA2⟩ := ht
  obtain ⟨ks, ko, kc, rfl, h1, h2⟩ := hk
  exact hostlogTorn_y w hv L ao cap hl hf hA L2 bo bc hl2 hf2 hA2 ks ko kc h1 h2

end Go.Proofs.YtmammmjmipgmoaaGreatDoor
