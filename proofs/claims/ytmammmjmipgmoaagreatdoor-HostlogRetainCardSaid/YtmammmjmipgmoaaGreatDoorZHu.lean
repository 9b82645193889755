/- Texts of lower layers, as one. -/
import Derived.Test.YtmammmjmipgmoaaGreatDoorZHt
import Derived.Test.YtmammmjmipgmoaaGreatDoorZHr
/- Layer 6: HostlogBack. By wip/tools/genhlback.py. -/
namespace Go.Proofs.YtmammmjmipgmoaaGreatDoor
set_option linter.unusedVariables false
open Go Go.RowKit Go.Maps

namespace Hl
def kt6 (L : List M.Sp) (k : Nat) : List M.Sp := (L.take k).filter M.mayB
theorem kt6_zero (L : List M.Sp) : kt6 L 0 = [] := by unfold kt6; rw [List.take_zero]; rfl
theorem kt6_len (L : List M.Sp) (k : Nat) : (kt6 L k).length ≤ k := by
  unfold kt6
  have h1 := List.length_filter_le M.mayB (L.take k)
  rw [List.length_take] at h1
  omega
theorem kt6_yes {L : List M.Sp} {k : Nat} (h : k < L.length) (hm : M.mayB (L.getD k M.sp0) = true) : kt6 L (k + 1) = kt6 L k ++ [L.getD k M.sp0] := by
  have e : L.getD k M.sp0 = L[k] := by simp [List.getD, h]
  rw [e] at hm ⊢
  unfold kt6
  rw [List.take_succ_eq_append_getElem h, List.filter_append, List.filter_cons, if_pos hm]
  rfl
theorem kt6_no {L : List M.Sp} {k : Nat} (h : k < L.length) (hm : M.mayB (L.getD k M.sp0) = false) : kt6 L (k + 1) = kt6 L k := by
  have e : L.getD k M.sp0 = L[k] := by simp [List.getD, h]
  rw [e] at hm
  unfold kt6
  rw [List.take_succ_eq_append_getElem h, List.filter_append, List.filter_cons, if_neg (by rw [hm]; simp)]
  simp
end Hl
open Hl in
set_option maxHeartbeats 8000000 in
set_option maxRecDepth 100000 in
theorem hostlogBack_y (w : World) (hv : Vr w) (L : List M.Sp) (ao : Option Addr) (cap : Nat) (hLl : L.length ≤ 9223372036854775807) (hfit : ∀ x ∈ L, x.fits) (hA : SpsAt w ao L) (T : List Bool) (bo : Option Addr) (bc : Nat) (hT : T.length ≤ 9223372036854775807) (hTA : BsA6 w bo T) (mo : Int) (hmo : 0 ≤ mo ∧ mo ≤ 255) :
    Calls Tryz.prog 6 #[.slice ao L.length cap, .slice bo T.length bc, .int .u8 mo] w fun e w' => e = .returned (.bool true) ∧ Below w.heap.size w w' := by
  by_cases h100 : 100 < L.length
  · have d0 : decide (100 < (L.length : Int)) = true := by simp; omega
    go_enter Tryz.func6, Tryz.ntmps6
    go_wp2_with fail
    go_ret
    exact ⟨rfl, Below.refl _ _⟩
  have d0 : decide (100 < (L.length : Int)) = false := by simp; omega
  have CO := Lib.hid (show Calls Tryz.prog 28 #[.int .i64 1048576] w (Opd6 1048576 w) from opened6 1048576 (by decide) (by decide) hv)
  have HA := Lib.hid hA
  have HT := Lib.hid hTA
  have HF := Lib.hid hfit
  obtain ⟨i0, z0, hi0, hz0, h01, h02, h03⟩ := infoSp_parts
  clear hv hA hTA hfit
  go_enter Tryz.func6, Tryz.ntmps6
  go_wp2_with fail
  with_reducible refine CO.out.mono ?_
  rintro e w1 ⟨d, b, rfl, hg, hb, -, -⟩
  have HK0 := Lib.hid (show Kept6 w b d [(.slice none 0 0, [])] (Dk.new 1048576) ⟨0, false, []⟩ w1 from Kept6.row ⟨fun _ => False, hg, fun k q => q.elim, hb, fun r hr => (by cases hr), List.Pairwise.nil⟩)
  clear hg hb CO
  go_wp2_with fail
  go_loopw [9, 10] (fun u i wr => ∃ (k : Nat) (D : Dk.St) (G : Lg) (Z : List Sg), k ≤ L.length ∧ i = .int .i64 k ∧ Hid (Kept6 w b d [(u, kt6 L k)] D G wr ∧ BkP (kt6 L k) (196 * k) Z G D)) (fun _ i _ => L.length - (intOf i).toNat)
  case atStart => exact ⟨0, _, _, [], Nat.zero_le _, rfl, Lib.hid (by rw [kt6_zero]; exact ⟨HK0.out, bkP_new⟩)⟩
  case round =>
  clear HK0
  obtain ⟨w2, rfl⟩ : ∃ x, x = wr := ⟨_, rfl⟩
  obtain ⟨k, D, G, Z, hk, rfl, HH⟩ := hrel
  obtain ⟨au, cu, rfl⟩ := row_shape5 (HH.out.1.own (List.mem_cons_self ..))
  by_cases hlt : k < L.length
  · have d1 : decide ((k : Int) < (L.length : Int)) = true := by simp; omega
    have d1' : decide (k < L.length) = true := by simpa using hlt
    have hwi : IntKind.i64.wrap ((k : Int) + 1) = (k : Int) + 1 := IntWalk.i64_in _ (by omega)
    have HKL := Lib.hid (kt6_len L k)
    have hfx : (L.getD k M.sp0).fits := HF.out _ (by rw [show L.getD k M.sp0 = L[k] from by simp [List.getD, hlt]]; exact List.getElem_mem hlt)
    obtain ⟨g, off, rfl, -⟩ := HA.out.off k hlt
    have SP := Lib.hid (show ∀ W, Below w.heap.size w W → SpOff (L.getD k M.sp0) W g (off + k * 8) from fun W hb => by
      obtain ⟨g', off', e, hc⟩ := (HA.out.below hb).off k hlt
      injection e with e
      injection e with e1 e2
      subst e1; subst e2
      exact hc)
    have HCH := Lib.hid (fun W => check_any (L.getD k M.sp0) hfx W)
    have HKY := Lib.hid (fun h => kt6_yes (L := L) hlt h)
    have HKN := Lib.hid (fun h => kt6_no (L := L) hlt h)
    have HFX := Lib.hid hfx
    clear hfx
    generalize L.getD k M.sp0 = x at *
    generalize hKK : kt6 L k = K at *
    cases hm : M.mayB x with
    | true =>
      have HC := Lib.hid (show ∀ W, Calls Tryz.prog 33 #[.agg #[.int .i64 x.trace, .int .i64 x.id, .int .i64 x.parent, .string (S x.svc), .string (S x.host), .int .i64 x.start, .int .i64 x.dur, .string (S x.note)]] W fun e w' => e = .returned (.int .i64 0) ∧ Below W.heap.size W w' from fun W => by
        have := HCH.out W; rw [hm] at this; exact this)
      have HE : kt6 L (k + 1) = K ++ [x] := HKY.out hm
      obtain ⟨Z1, r1, hb1⟩ := HH.out.2.app hm HFX.out (by have := HKL.out; omega) (by omega)
      have CA := Lib.hid (show ∀ (W : World) (R : List (Value × List M.Sp)), Kept6 w b d R D G W → Calls Tryz.prog 19 #[.pointer (some ⟨b, 0, none⟩), .agg #[.int .i64 x.trace, .int .i64 x.id, .int .i64 x.parent, .string (S x.svc), .string (S x.host), .int .i64 x.start, .int .i64 x.dur, .string (S x.note)]] W fun e w' => e = .returned (.int .i64 0) ∧ Kept6 w b d R (append6 x G D).2.1 (append6 x G D).2.2 w' from fun W R h => by
        have := h.call (fun X h1 h2 h3 => append6_any h1 h2 h3 x HFX.out (by rw [HH.out.2.en]; have := HKL.out; omega) HH.out.2.lv.fewS)
        rw [r1] at this
        exact this)
      have HK1 : (K ++ [x]).length ≤ k + 1 := by rw [← HE]; exact kt6_len L (k + 1)
      have HB1 := Lib.hid hb1
      have HE1 := Lib.hid HE
      have HKL1 := Lib.hid HK1
      have HKK := Lib.hid hKK
      have HHK := Lib.hid HH.out.1
      have HOK := Lib.hid (show BkP K (196 * k) Z G D from HH.out.2)
      clear hb1 HE HK1 r1 HCH HKY HKN hKK hm HH
      obtain ⟨D1, hD1⟩ : ∃ y, y = (append6 x G D).2.1 := ⟨_, rfl⟩
      obtain ⟨G1, hG1⟩ : ∃ y, y = (append6 x G D).2.2 := ⟨_, rfl⟩
      rw [← hD1, ← hG1] at HB1 CA
      clear hD1 hG1
      obtain ⟨x0, x1, x2, x3, x4, x5, x6, x7⟩ := SP.out _ (HHK.out.bel)
      go_wp2_with fail
      with_reducible refine (HC.out _).mono ?_
      rintro e w3 ⟨rfl, hb3⟩
      replace HHK := Lib.hid (HHK.out.below hb3)
      clear hb3 x0 x1 x2 x3 x4 x5 x6 x7
      obtain ⟨x0, x1, x2, x3, x4, x5, x6, x7⟩ := SP.out _ (HHK.out.bel)
      have hown := HHK.out.own (List.mem_cons_self ..)
      have hwl := HHK.out.bel.size
      go_wp2_with (at_builtin; go_loud (refine wpList_append_own_at _ rfl _ _ 52 rfl w.heap.size 39 i0 z0 8 88 Tryz.underlying52 hi0 hz0 h01 h02 h03 (by decide) (.slice au K.length cu) K.length (sps K) rfl (hown.alloc _) ⟨w3.heap.size, 0, none⟩ 1 1 (spL x) rfl rfl (sp_new w3 x _) (spL_one x) (by have := HKL.out; unfold maxLen; omega) (by have := HKL.out; omega) (by rw [World.size_alloc]; omega) ?_; intro v4 w4 ho4 hg4 _ h4; obtain ⟨a4, c4, rfl⟩ := ownP_shape ho4; have HK4 := Lib.hid (show Kept6 w b d [(.slice a4 (K.length + 1) c4, K ++ [x])] D G w4 from Kept6.grow (K := K) (HHK.out.below ((Below.refl _ _).alloc (Nat.le_refl _) _)) (by rw [List.length_append, List.length_singleton, sps_append, sps_one]; exact ho4) hg4 (h4.elim .inl fun q => .inr ⟨_, q, Nat.le_refl _⟩)); clear ho4 hg4 h4 hown hwl x0 x1 x2 x3 x4 x5 x6 x7))
      clear HHK
      have HK4f := Lib.hid (fun W (hb : Below w4.heap.size w4 W) => HK4.out.below hb)
      clear HK4
      obtain ⟨x0, x1, x2, x3, x4, x5, x6, x7⟩ := SP.out _ ((HK4f.out _ (Below.refl _ _)).bel)
      go_region_held3 (fun W => W.cell? ⟨g, off + k * 8, none⟩ = some (.int .i64 x.trace) ∧ W.cell? ⟨g, off + k * 8 + 1, none⟩ = some (.int .i64 x.id) ∧ W.cell? ⟨g, off + k * 8 + 2, none⟩ = some (.int .i64 x.parent) ∧ W.cell? ⟨g, off + k * 8 + 3, none⟩ = some (.string (S x.svc)) ∧ W.cell? ⟨g, off + k * 8 + 4, none⟩ = some (.string (S x.host)) ∧ W.cell? ⟨g, off + k * 8 + 5, none⟩ = some (.int .i64 x.start) ∧ W.cell? ⟨g, off + k * 8 + 6, none⟩ = some (.int .i64 x.dur) ∧ W.cell? ⟨g, off + k * 8 + 7, none⟩ = some (.string (S x.note))) (go_keep) (first
        | (go_at_call 19; refine (CA.out _ _ (HK4f.out _ HBC.out)).mono ?_; rintro e w6 ⟨rfl, hk6⟩; have HK6 := Lib.hid hk6; clear hk6; obtain ⟨y0, y1, y2, y3, y4, y5, y6, y7⟩ := SP.out _ (HK6.out.bel))
        | (go_at_call 19; refine (CA.out _ _ (HK4f.out _ ((Below.refl _ w4).drew))).mono ?_; rintro e w6 ⟨rfl, hk6⟩; have HK6 := Lib.hid hk6; clear hk6; obtain ⟨y0, y1, y2, y3, y4, y5, y6, y7⟩ := SP.out _ (HK6.out.bel))
        | (go_at_call 33; refine (HC.out _).mono ?_; rintro e w5 ⟨rfl, hb5⟩; replace HK6 := Lib.hid (HK6.out.below hb5); clear hb5; obtain ⟨z0, z1, z2, z3, z4, z5, z6, z7⟩ := SP.out _ (HK6.out.bel))
        | (go_at_call 33; refine (HC.out _).mono ?_; rintro e w5 ⟨rfl, hb5⟩; have HBC := Lib.hid (below_step ((Below.refl w4.heap.size w4).drew) hb5); clear hb5; obtain ⟨z0, z1, z2, z3, z4, z5, z6, z7⟩ := SP.out _ ((HK4f.out _ HBC.out).bel)))
      all_goals
        clear CA HC HK4f
        have hSZ : 196 * k + 98 + 98 = 196 * (k + 1) := by omega
        by_cases ht : k < T.length
        · obtain ⟨g2, off2, rfl, hc2⟩ := (HT.out.below HK6.out.bel) (fun e => by rw [e] at ht; simp at ht)
          have c9 := hc2 k ht
          clear hc2
          have d2 : decide ((k : Int) < (T.length : Int)) = true := by simp; omega
          have d2' : decide (k < T.length) = true := by simpa using ht
          cases hb : T.getD k false with
          | false =>
            rw [hb] at c9
            go_wp2_with fail
            go_roundw
            case rel => exact ⟨k + 1, D1, G1, Z1, hlt, by go_num, Lib.hid (by rw [HE1.out, ← hSZ]; exact ⟨HK6.out, HB1.out.more⟩)⟩
            case measure => simp [intOf]; omega
          | true =>
            rw [hb] at c9
            obtain ⟨Z2, r2, hb2⟩ := HB1.out.rot (by have := HKL1.out; omega) (by omega)
            have CR := Lib.hid (show Calls Tryz.prog 21 #[.pointer (some ⟨b, 0, none⟩)] _ fun e w' => e = .returned (.int .i64 0) ∧ Kept6 w b d [(.slice a4 (K.length + 1) c4, K ++ [x])] (rotate6 G1 D1).2.1 (rotate6 G1 D1).2.2 w' from by
              have := HK6.out.call (fun X h1 h2 h3 => rotate6_any h1 h2 h3 (by rw [HB1.out.en]; have := HKL1.out; omega) HB1.out.lv.fewS)
              rw [r2] at this
              exact this)
            have HB2 := Lib.hid hb2
            clear hb2 r2
            go_wp2_with fail
            with_reducible refine CR.out.mono ?_
            rintro e w7 ⟨rfl, hk7⟩
            have HK7 := Lib.hid hk7
            clear hk7 CR
            go_wp2_with fail
            go_roundw
            case rel => exact ⟨k + 1, _, _, Z2, hlt, by go_num, Lib.hid (by rw [HE1.out, ← hSZ]; exact ⟨HK7.out, HB2.out⟩)⟩
            case measure => simp [intOf]; omega
        · have d2 : decide ((k : Int) < (T.length : Int)) = false := by simp; omega
          have d2' : decide (k < T.length) = false := by simp; omega
          go_wp2_with fail
          go_roundw
          case rel => exact ⟨k + 1, D1, G1, Z1, hlt, by go_num, Lib.hid (by rw [HE1.out, ← hSZ]; exact ⟨HK6.out, HB1.out.more⟩)⟩
          case measure => simp [intOf]; omega
    | false =>
      have HC := Lib.hid (show ∀ W, Calls Tryz.prog 33 #[.agg #[.int .i64 x.trace, .int .i64 x.id, .int .i64 x.parent, .string (S x.svc), .string (S x.host), .int .i64 x.start, .int .i64 x.dur, .string (S x.note)]] W fun e w' => e = .returned (.int .i64 2) ∧ Below W.heap.size W w' from fun W => by
        have := HCH.out W; rw [hm] at this; exact this)
      have HE : kt6 L (k + 1) = K := HKN.out hm
      have r1 := append_no HH.out.2.lv hm
      have hb1 : BkP K (196 * k + 98) Z G D := ⟨HH.out.2.lv, HH.out.2.set, HH.out.2.room, HH.out.2.fl, by have := HH.out.2.sz; omega, HH.out.2.st0⟩
      have CA := Lib.hid (show ∀ (W : World) (R : List (Value × List M.Sp)), Kept6 w b d R D G W → Calls Tryz.prog 19 #[.pointer (some ⟨b, 0, none⟩), .agg #[.int .i64 x.trace, .int .i64 x.id, .int .i64 x.parent, .string (S x.svc), .string (S x.host), .int .i64 x.start, .int .i64 x.dur, .string (S x.note)]] W fun e w' => e = .returned (.int .i64 2) ∧ Kept6 w b d R D G w' from fun W R h => by
        have := h.call (fun X h1 h2 h3 => append6_any h1 h2 h3 x HFX.out (by rw [HH.out.2.en]; have := HKL.out; omega) HH.out.2.lv.fewS)
        rw [r1] at this
        exact this)
      have HK1 : K.length ≤ k + 1 := by rw [← HE]; exact kt6_len L (k + 1)
      have HB1 := Lib.hid hb1
      have HE1 := Lib.hid HE
      have HKL1 := Lib.hid HK1
      have HKK := Lib.hid hKK
      have HHK := Lib.hid HH.out.1
      have HOK := Lib.hid (show BkP K (196 * k) Z G D from HH.out.2)
      clear hb1 HE HK1 r1 HCH HKY HKN hKK hm HH
      obtain ⟨x0, x1, x2, x3, x4, x5, x6, x7⟩ := SP.out _ (HHK.out.bel)
      go_wp2_with fail
      with_reducible refine (HC.out _).mono ?_
      rintro e w3 ⟨rfl, hb3⟩
      replace HHK := Lib.hid (HHK.out.below hb3)
      clear hb3 x0 x1 x2 x3 x4 x5 x6 x7
      have HK4 := HHK
      obtain ⟨w4, rfl⟩ : ∃ x, x = w3 := ⟨_, rfl⟩
      clear HHK
      go_wp2_with fail
      have HK4f := Lib.hid (fun W (hb : Below w4.heap.size w4 W) => HK4.out.below hb)
      clear HK4
      obtain ⟨x0, x1, x2, x3, x4, x5, x6, x7⟩ := SP.out _ ((HK4f.out _ (Below.refl _ _)).bel)
      go_region_held3 (fun W => W.cell? ⟨g, off + k * 8, none⟩ = some (.int .i64 x.trace) ∧ W.cell? ⟨g, off + k * 8 + 1, none⟩ = some (.int .i64 x.id) ∧ W.cell? ⟨g, off + k * 8 + 2, none⟩ = some (.int .i64 x.parent) ∧ W.cell? ⟨g, off + k * 8 + 3, none⟩ = some (.string (S x.svc)) ∧ W.cell? ⟨g, off + k * 8 + 4, none⟩ = some (.string (S x.host)) ∧ W.cell? ⟨g, off + k * 8 + 5, none⟩ = some (.int .i64 x.start) ∧ W.cell? ⟨g, off + k * 8 + 6, none⟩ = some (.int .i64 x.dur) ∧ W.cell? ⟨g, off + k * 8 + 7, none⟩ = some (.string (S x.note))) (go_keep) (first
        | (go_at_call 19; refine (CA.out _ _ (HK4f.out _ HBC.out)).mono ?_; rintro e w6 ⟨rfl, hk6⟩; have HK6 := Lib.hid hk6; clear hk6; obtain ⟨y0, y1, y2, y3, y4, y5, y6, y7⟩ := SP.out _ (HK6.out.bel))
        | (go_at_call 19; refine (CA.out _ _ (HK4f.out _ ((Below.refl _ w4).drew))).mono ?_; rintro e w6 ⟨rfl, hk6⟩; have HK6 := Lib.hid hk6; clear hk6; obtain ⟨y0, y1, y2, y3, y4, y5, y6, y7⟩ := SP.out _ (HK6.out.bel))
        | (go_at_call 33; refine (HC.out _).mono ?_; rintro e w5 ⟨rfl, hb5⟩; replace HK6 := Lib.hid (HK6.out.below hb5); clear hb5; obtain ⟨z0, z1, z2, z3, z4, z5, z6, z7⟩ := SP.out _ (HK6.out.bel))
        | (go_at_call 33; refine (HC.out _).mono ?_; rintro e w5 ⟨rfl, hb5⟩; have HBC := Lib.hid (below_step ((Below.refl w4.heap.size w4).drew) hb5); clear hb5; obtain ⟨z0, z1, z2, z3, z4, z5, z6, z7⟩ := SP.out _ ((HK4f.out _ HBC.out).bel)))
      all_goals
        clear CA HC HK4f
        have hSZ : 196 * k + 98 + 98 = 196 * (k + 1) := by omega
        by_cases ht : k < T.length
        · obtain ⟨g2, off2, rfl, hc2⟩ := (HT.out.below HK6.out.bel) (fun e => by rw [e] at ht; simp at ht)
          have c9 := hc2 k ht
          clear hc2
          have d2 : decide ((k : Int) < (T.length : Int)) = true := by simp; omega
          have d2' : decide (k < T.length) = true := by simpa using ht
          cases hb : T.getD k false with
          | false =>
            rw [hb] at c9
            go_wp2_with fail
            go_roundw
            case rel => exact ⟨k + 1, D, G, Z, hlt, by go_num, Lib.hid (by rw [HE1.out, ← hSZ]; exact ⟨HK6.out, HB1.out.more⟩)⟩
            case measure => simp [intOf]; omega
          | true =>
            rw [hb] at c9
            obtain ⟨Z2, r2, hb2⟩ := HB1.out.rot (by have := HKL1.out; omega) (by omega)
            have CR := Lib.hid (show Calls Tryz.prog 21 #[.pointer (some ⟨b, 0, none⟩)] _ fun e w' => e = .returned (.int .i64 0) ∧ Kept6 w b d [(.slice au K.length cu, K)] (rotate6 G D).2.1 (rotate6 G D).2.2 w' from by
              have := HK6.out.call (fun X h1 h2 h3 => rotate6_any h1 h2 h3 (by rw [HB1.out.en]; have := HKL1.out; omega) HB1.out.lv.fewS)
              rw [r2] at this
              exact this)
            have HB2 := Lib.hid hb2
            clear hb2 r2
            go_wp2_with fail
            with_reducible refine CR.out.mono ?_
            rintro e w7 ⟨rfl, hk7⟩
            have HK7 := Lib.hid hk7
            clear hk7 CR
            go_wp2_with fail
            go_roundw
            case rel => exact ⟨k + 1, _, _, Z2, hlt, by go_num, Lib.hid (by rw [HE1.out, ← hSZ]; exact ⟨HK7.out, HB2.out⟩)⟩
            case measure => simp [intOf]; omega
        · have d2 : decide ((k : Int) < (T.length : Int)) = false := by simp; omega
          have d2' : decide (k < T.length) = false := by simp; omega
          go_wp2_with fail
          go_roundw
          case rel => exact ⟨k + 1, D, G, Z, hlt, by go_num, Lib.hid (by rw [HE1.out, ← hSZ]; exact ⟨HK6.out, HB1.out.more⟩)⟩
          case measure => simp [intOf]; omega
  · obtain rfl : k = L.length := by omega
    have d1 : decide ((L.length : Int) < (L.length : Int)) = false := by simp
    have HKL := Lib.hid (kt6_len L L.length)
    generalize kt6 L L.length = K at *
    have hKn : K.length ≤ 100 := by have := HKL.out; omega
    obtain ⟨Z1, r1, hb1, hsf, hz1⟩ := HH.out.2.syn
    have CS := Lib.hid (show Calls Tryz.prog 20 #[.pointer (some ⟨b, 0, none⟩)] w2 fun e w' => e = .returned (.int .i64 0) ∧ Kept6 w b d [(.slice au K.length cu, K)] (sync G D).2.1 (sync G D).2.2 w' from by
      have := HH.out.1.call (fun X h1 h2 h3 => sync6_any h1 h2 h3)
      rw [r1] at this
      exact this)
    have HB1 := Lib.hid (show BkP K (196 * L.length + 98) Z1 (sync G D).2.2 (sync G D).2.1 ∧ SafeZ Z1 (sync G D).2.1.L from ⟨hb1, hsf⟩)
    clear hb1 hsf r1 hz1 HH HKL
    obtain ⟨D1, hD1⟩ : ∃ y, y = (sync G D).2.1 := ⟨_, rfl⟩
    obtain ⟨G1, hG1⟩ : ∃ y, y = (sync G D).2.2 := ⟨_, rfl⟩
    rw [← hD1, ← hG1] at HB1 CS
    clear hD1 hG1
    go_wp2_with fail
    with_reducible refine CS.out.mono ?_
    rintro e w3 ⟨rfl, hk3⟩
    have HK3 := Lib.hid (fun W (hb : Below w3.heap.size w3 W) => hk3.below hb)
    clear hk3 CS
    have CU := Lib.hid (show ∀ W, Below w3.heap.size w3 W → Calls Tryz.prog 24 #[.pointer (some ⟨b, 0, none⟩)] W fun e w' => e = .returned (.int .i64 (K.length : Nat)) ∧ Below W.heap.size W w' from fun W hb => by
      obtain ⟨X, h⟩ := (HK3.out W hb).hg
      have := sure6_any h (srt_of HB1.out.1.lv.gs)
      rw [HB1.out.1.lv.sure, HB1.out.1.sn HB1.out.2, Nat.zero_add] at this
      exact this)
    have CE := Lib.hid (show ∀ W, Below w3.heap.size w3 W → Calls Tryz.prog 25 #[.pointer (some ⟨b, 0, none⟩)] W fun e w' => e = .returned (.int .i64 (K.length : Nat)) ∧ Below W.heap.size W w' from fun W hb => by
      obtain ⟨X, h⟩ := (HK3.out W hb).hg
      have := end6_any h
      rw [HB1.out.1.lv.end_, HB1.out.1.cnt, Nat.zero_add] at this
      exact this)
    have CF := Lib.hid (show ∀ W, Below w3.heap.size w3 W → Calls Tryz.prog 23 #[.pointer (some ⟨b, 0, none⟩)] W fun e w' => e = .returned (.int .i64 0) ∧ Below W.heap.size W w' from fun W hb => by
      obtain ⟨X, h⟩ := (HK3.out W hb).hg
      have := first6_any h
      rw [HB1.out.1.lv.first] at this
      exact this)
    obtain ⟨m, rfl⟩ : ∃ m : Nat, mo = (m : Int) := ⟨mo.toNat, by omega⟩
    obtain ⟨q, hq⟩ : ∃ q, q = m % 40 := ⟨_, rfl⟩
    obtain ⟨st, hst⟩ : ∃ st, st = q + 1 := ⟨_, rfl⟩
    have ht0 : IntKind.i64.wrap (m : Int) = (m : Int) := IntWalk.i64_in _ (by omega)
    have ht1 : Int.tmod (m : Int) 40 = (q : Int) := by rw [Int.tmod_eq_emod_of_nonneg (by omega)]; omega
    have ht2 : IntKind.i64.wrap (q : Int) = (q : Int) := IntWalk.i64_in _ (by omega)
    have ht3 : IntKind.i64.wrap (1 + (q : Int)) = (st : Int) := by rw [IntWalk.i64_in _ (by omega)]; omega
    have HST := Lib.hid (show 1 ≤ st ∧ st ≤ 40 from by omega)
    have e1 : ((K.length : Int) != (K.length : Int)) = false := by simp
    clear hq hst
    go_wp2_with fail
    with_reducible refine (CU.out _ (Below.refl _ _)).mono ?_
    rintro e w4 ⟨rfl, hb⟩
    have HB := Lib.hid hb
    clear hb CU
    go_wp2_with fail
    with_reducible refine (CE.out _ HB.out).mono ?_
    rintro e w5 ⟨rfl, hb⟩
    replace HB := Lib.hid (below_step HB.out hb)
    clear hb CE
    go_wp2_with fail
    with_reducible refine (CF.out _ HB.out).mono ?_
    rintro e w6 ⟨rfl, hb⟩
    replace HB := Lib.hid (below_step HB.out hb)
    clear hb CF
    have HK6 := Lib.hid (HK3.out _ HB.out).row
    clear HK3 HB
    go_wp2_with fail
    clear ht0 ht1 ht2 ht3
    go_loopw [11, 12] (fun u i wr => ∃ a : Nat, a ≤ K.length ∧ i = .int .i64 a ∧ Hid (Kept6 w b d [(u, K.take a), (.slice au K.length cu, K)] D1 G1 wr)) (fun _ i _ => K.length - (intOf i).toNat)
    case atStart => exact ⟨0, Nat.zero_le _, rfl, HK6⟩
    case round =>
    clear HK6
    obtain ⟨w7, rfl⟩ : ∃ x, x = wr := ⟨_, rfl⟩
    obtain ⟨a, ha, rfl, HH⟩ := hrel
    have hta : (K.take a).length = a := by rw [List.length_take]; omega
    obtain ⟨ag, cg, rfl⟩ := row_shape5 (HH.out.own (List.mem_cons_self ..))
    rw [hta] at HH ⊢
    have CP := Lib.hid (show Calls Tryz.prog 17 #[.pointer (some ⟨b, 0, none⟩), .int .i64 (a : Nat), .int .i64 (st : Nat)] w7 (ReadR ((K.take (a + min st (K.length - a))).drop a) (a + min st (K.length - a)) 0 w7) from by
      obtain ⟨X, h⟩ := HH.out.hg
      exact HB1.out.1.lv.page h HB1.out.1.fl (HB1.out.1.sn HB1.out.2) a st ha (by have := HST.out; omega))
    by_cases hlt : a < K.length
    · have d2 : decide ((a : Int) < (K.length : Int)) = true := by simp; omega
      have d2' : decide (a < K.length) = true := by simpa using hlt
      obtain ⟨c, hc⟩ : ∃ c, c = a + min st (K.length - a) := ⟨_, rfl⟩
      rw [← hc] at CP
      have hst := HST.out
      obtain ⟨pn, hpn⟩ : ∃ pn, pn = c - a := ⟨_, rfl⟩
      have hcN : c ≤ K.length := by omega
      have hpl : ((K.take c).drop a).length = pn := by rw [List.length_drop, List.length_take]; omega
      have hsp : sps (K.take a) ++ sps ((K.take c).drop a) = sps (K.take c) := by
        rw [← sps_append]
        congr 1
        have h1 := List.take_append_drop a (K.take c)
        rw [List.take_take, Nat.min_eq_left (by omega)] at h1
        exact h1
      have hcl : (K.take c).length = a + pn := by rw [List.length_take]; omega
      have f1 : decide ((pn : Int) < 1) = false := by simp; omega
      have f2 : decide ((st : Int) < (pn : Int)) = false := by simp; omega
      have f2' : decide (st < pn) = false := by simp; omega
      have f3 : IntKind.i64.wrap ((a : Int) + (pn : Int)) = (c : Int) := by rw [IntWalk.i64_in _ (by omega)]; omega
      have f4 : ((c : Int) != (c : Int)) = false := by simp
      have HSP := Lib.hid hsp
      have HCL := Lib.hid hcl
      have HPN := Lib.hid (show a < c ∧ c ≤ K.length ∧ c = a + pn ∧ pn ≤ 40 from by omega)
      have HTA := Lib.hid hta
      have HPL := Lib.hid (sps_one6 ((K.take c).drop a))
      clear hsp hcl hc hpn hst hta hcN
      generalize (K.take c).drop a = PG at *
      go_wp2_with fail
      with_reducible refine CP.out.mono ?_
      rintro e w8 ⟨ap, cs, rfl, hr, hb⟩
      rw [hpl] at hr ⊢
      have HR := Lib.hid hr
      have HK8 := Lib.hid (HH.out.below hb)
      clear hr hb CP HH hpl
      have hown := HK8.out.own (List.mem_cons_self ..)
      rw [HTA.out] at hown
      have hwl := HK8.out.bel.size
      go_wp2_with (at_builtin; go_loud (refine wpList_append_rows6_at w8 rfl _ _ 52 rfl w.heap.size 39 i0 z0 8 88 Tryz.underlying52 hi0 hz0 h01 h02 h03 (by decide) (.slice ag a cg) a (sps (K.take a)) rfl hown w7.heap.size (.slice ap pn cs) pn (sps PG) rfl HR.out HPL.out (by have := HPN.out; unfold maxLen; omega) (by have := HPN.out; omega) hwl ?_; intro v9 w9 ho9 hg9 h9; rw [HSP.out, ← HCL.out] at ho9; have HK9 := Lib.hid (show Kept6 w b d [(v9, K.take c), (.slice au K.length cu, K)] D1 G1 w9 from Kept6.grow (K := K.take a) HK8.out ho9 hg9 h9); clear ho9 hg9 h9 hown hwl))
      go_roundw
      case rel => exact ⟨c, HPN.out.2.1, rfl, HK9⟩
      case measure => have := HPN.out; simp [intOf]; omega
    · obtain rfl : a = K.length := by omega
      have d2 : decide ((K.length : Int) < (K.length : Int)) = false := by simp
      rw [show K.length + min st (K.length - K.length) = K.length by omega, show (K.take K.length).drop K.length = [] from by simp] at CP
      rw [List.take_length] at HH
      have f4 : ((K.length : Int) == (K.length : Int)) = true := by simp
      clear hta
      go_wp2_with fail
      with_reducible refine CP.out.mono ?_
      rintro e w8 ⟨ap, cs, rfl, hr, hb⟩
      have HK8 := Lib.hid (HH.out.below hb)
      clear hr hb CP HH
      have CQ := Lib.hid (sameSpans_any cg cu (spsAt_own (HK8.out.own (List.mem_cons_self ..)) rfl) (spsAt_own (HK8.out.own (List.mem_cons_of_mem _ (List.mem_cons_self ..))) rfl) (by omega) (by omega))
      go_wp2_with fail
      with_reducible refine CQ.out.mono ?_
      rintro e w9 ⟨hs, -, hb⟩
      obtain rfl := hs (by trivial)
      have HK9 := Lib.hid (HK8.out.below hb)
      clear hs hb CQ HK8
      go_wp2_with fail
      with_reducible refine (does6 w9 HK9.out.vr).mono ?_
      rintro e w10 ⟨rfl, hb⟩
      have HBE := Lib.hid (below_step HK9.out.bel hb)
      clear hb HK9
      go_wp2_with fail
      go_ret
      exact ⟨rfl, HBE.out⟩
/-- The law, for any opened arguments. -/
theorem hostlogBack_calls (w : World) (hv : Vr w) (u : Value) (hu : USf6 w u) (t : Value) (ht : UBs6 w t) (mo : Int) (wn : (Lit.int .u8 mo).wf = true) : Calls Tryz.prog 6 #[u, t, .int .u8 mo] w fun e w' => e = .returned (.bool true) ∧ Below w.heap.size w w' := by
  obtain ⟨L, ao, cap, rfl, hl, hf, hA⟩ := hu
  obtain ⟨T, bo, bc, rfl, hT, hTA⟩ := ht
  exact hostlogBack_y w hv L ao cap hl hf hA T bo bc hT hTA mo (u8_wf5 wn)

end Go.Proofs.YtmammmjmipgmoaaGreatDoor
