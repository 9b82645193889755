/- Texts of lower layers, as one. -/
import Derived.Test.YtmammmjmipgmoaaGreatDoorZHu
/- Layer 6: HostlogRetain. By wip/tools/genhlretain.py. -/
namespace Go.Proofs.YtmammmjmipgmoaaGreatDoor
set_option linter.unusedVariables false
open Go Go.RowKit Go.Maps

theorem own_cap6 {w : World} {B sz n cap : Nat} {e : TypeId} {ao : Option Addr} {xs : List Value} (h : w.ownsRow B e sz (.slice ao n cap) n xs) : n ≤ cap := by
  rcases h.2 with ⟨q, _⟩ | ⟨g, c, cur, q, q1, q2, q3, q4⟩
  · simp only [Value.slice.injEq] at q
    omega
  · simp only [Value.slice.injEq] at q
    omega
theorem spsAt_drop6 {w : World} {ao : Option Addr} {K : List M.Sp} (h : SpsAt w ao K) (f : Nat) : SpsAt w (ao.map fun x => x.add (f * 8)) (K.drop f) := fun hne => by
  obtain ⟨g, off, rfl, hc⟩ := h (fun e => hne (by rw [e]; simp))
  refine ⟨g, off + f * 8, by simp [Addr.add_lit], fun j hj => ?_⟩
  have := hc (f + j) (by rw [List.length_drop] at hj; omega)
  rw [show off + f * 8 + j * 8 = off + (f + j) * 8 by omega, show (K.drop f).getD j M.sp0 = K.getD (f + j) M.sp0 from by simp [List.getD, List.getElem?_drop]]
  exact this
open Hl in
set_option maxHeartbeats 8000000 in
set_option maxRecDepth 100000 in
theorem hostlogRetain_y (w : World) (hv : Vr w) (L : List M.Sp) (ao : Option Addr) (cap : Nat) (hLl : L.length ≤ 9223372036854775807) (hfit : ∀ x ∈ L, x.fits) (hA : SpsAt w ao L) (T : List Bool) (bo : Option Addr) (bc : Nat) (hT : T.length ≤ 9223372036854775807) (hTA : BsA6 w bo T) (n : Int) (hn : -9223372036854775808 ≤ n ∧ n ≤ 9223372036854775807) :
    Calls Tryz.prog 8 #[.slice ao L.length cap, .slice bo T.length bc, .int .i64 n] w fun e w' => e = .returned (.bool true) ∧ Below w.heap.size w w' := by
  by_cases h100 : 100 < L.length
  · have d0 : decide (100 < (L.length : Int)) = true := by simp; omega
    go_enter Tryz.func8, Tryz.ntmps8
    go_wp2_with fail
    go_ret
    exact ⟨rfl, Below.refl _ _⟩
  have d0 : decide (100 < (L.length : Int)) = false := by simp; omega
  have CO := Lib.hid (show Calls Tryz.prog 28 #[.int .i64 1048576] w (Opd6 1048576 w) from opened6 1048576 (by decide) (by decide) hv)
  have HA := Lib.hid hA
  have HT := Lib.hid hTA
  have HF := Lib.hid hfit
  clear hv hA hTA hfit
  go_enter Tryz.func8, Tryz.ntmps8
  go_wp2_with fail
  with_reducible refine CO.out.mono ?_
  rintro e w1 ⟨d, b, rfl, hg, hb, -, -⟩
  have HK0 := Lib.hid (show Kept6 w b d [] (Dk.new 1048576) ⟨0, false, []⟩ w1 from ⟨fun _ => False, hg, fun k q => q.elim, hb, fun r hr => (by cases hr), List.Pairwise.nil⟩)
  clear hg hb CO
  go_wp2_with fail
  go_loopw [9] (fun i wr => ∃ (k : Nat) (D : Dk.St) (G : Lg) (Z : List Sg), k ≤ L.length ∧ i = .int .i64 k ∧ Hid (Kept6 w b d [] D G wr ∧ BkP (kt6 L k) (196 * k) Z G D)) (fun i _ => L.length - (intOf i).toNat)
  case atStart => exact ⟨0, _, _, [], Nat.zero_le _, rfl, Lib.hid (by rw [kt6_zero]; exact ⟨HK0.out, bkP_new⟩)⟩
  case round =>
  clear HK0
  obtain ⟨w2, rfl⟩ : ∃ x, x = wr := ⟨_, rfl⟩
  obtain ⟨k, D, G, Z, hk, rfl, HH⟩ := hrel
  by_cases hlt : k < L.length
  · have d1 : decide ((k : Int) < (L.length : Int)) = true := by simp; omega
    have d1' : decide (k < L.length) = true := by simpa using hlt
    have hwi : IntKind.i64.wrap ((k : Int) + 1) = (k : Int) + 1 := IntWalk.i64_in _ (by omega)
    have HKL := Lib.hid (kt6_len L k)
    have hfx : (L.getD k M.sp0).fits := HF.out _ (by rw [show L.getD k M.sp0 = L[k] from by simp [List.getD, hlt]]; exact List.getElem_mem hlt)
    obtain ⟨g, off, rfl, hc⟩ := (HA.out.below HH.out.1.bel).off k hlt
    have HKY := Lib.hid (fun h => kt6_yes (L := L) hlt h)
    have HKN := Lib.hid (fun h => kt6_no (L := L) hlt h)
    have HFX := Lib.hid hfx
    clear hfx
    generalize L.getD k M.sp0 = x at *
    obtain ⟨x0, x1, x2, x3, x4, x5, x6, x7⟩ := hc
    generalize hKK : kt6 L k = K at *
    -- whatever Append answers: the next state
    obtain ⟨r, D1, G1, Z1, CA, HB1⟩ : ∃ (r : Int) (D1 : Dk.St) (G1 : Lg) (Z1 : List Sg), Hid (Calls Tryz.prog 19 #[.pointer (some ⟨b, 0, none⟩), .agg #[.int .i64 x.trace, .int .i64 x.id, .int .i64 x.parent, .string (S x.svc), .string (S x.host), .int .i64 x.start, .int .i64 x.dur, .string (S x.note)]] w2 fun e w' => e = .returned (.int .i64 r) ∧ Kept6 w b d [] D1 G1 w') ∧ Hid (BkP (kt6 L (k + 1)) (196 * k + 98) Z1 G1 D1) := by
      have key := HH.out.1.call (fun X h1 h2 h3 => append6_any h1 h2 h3 x HFX.out (by rw [HH.out.2.en]; have := HKL.out; omega) HH.out.2.lv.fewS)
      cases hm : M.mayB x with
      | true =>
        obtain ⟨Z1, r1, hb1⟩ := HH.out.2.app hm HFX.out (by have := HKL.out; omega) (by omega)
        exact ⟨_, _, _, Z1, Lib.hid key, Lib.hid (by rw [HKY.out hm]; exact hb1)⟩
      | false =>
        rw [append_no HH.out.2.lv hm] at key
        exact ⟨_, _, _, Z, Lib.hid key, Lib.hid (by rw [HKN.out hm]; exact HH.out.2.more)⟩
    have HKL1 := Lib.hid (kt6_len L (k + 1))
    have hSZ : 196 * k + 98 + 98 = 196 * (k + 1) := by omega
    clear HKY HKN HFX hKK HKL HH
    go_wp2_with fail
    with_reducible refine CA.out.mono ?_
    rintro e w3 ⟨rfl, hk3⟩
    have HK3 := Lib.hid hk3
    clear hk3 CA x0 x1 x2 x3 x4 x5 x6 x7
    by_cases ht : k < T.length
    · obtain ⟨g2, off2, rfl, hc2⟩ := (HT.out.below HK3.out.bel) (fun e => by rw [e] at ht; simp at ht)
      have c9 := hc2 k ht
      clear hc2
      have d2 : decide ((k : Int) < (T.length : Int)) = true := by simp; omega
      have d2' : decide (k < T.length) = true := by simpa using ht
      cases hb : T.getD k false with
      | false =>
        rw [hb] at c9
        go_wp2_with fail
        go_roundw
        case rel => exact ⟨k + 1, D1, G1, Z1, hlt, by go_num, Lib.hid (by rw [← hSZ]; exact ⟨HK3.out, HB1.out.more⟩)⟩
        case measure => simp [intOf]; omega
      | true =>
        rw [hb] at c9
        obtain ⟨Z2, r2, hb2⟩ := HB1.out.rot (by have := HKL1.out; omega) (by omega)
        have CR := Lib.hid (show Calls Tryz.prog 21 #[.pointer (some ⟨b, 0, none⟩)] _ fun e w' => e = .returned (.int .i64 0) ∧ Kept6 w b d [] (rotate6 G1 D1).2.1 (rotate6 G1 D1).2.2 w' from by
          have := HK3.out.call (fun X h1 h2 h3 => rotate6_any h1 h2 h3 (by rw [HB1.out.en]; have := HKL1.out; omega) HB1.out.lv.fewS)
          rw [r2] at this
          exact this)
        have HB2 := Lib.hid hb2
        clear hb2 r2
        go_wp2_with fail
        with_reducible refine CR.out.mono ?_
        rintro e w7 ⟨rfl, hk7⟩
        have HK7 := Lib.hid hk7
        clear hk7 CR
        go_wp2_with fail
        go_roundw
        case rel => exact ⟨k + 1, _, _, Z2, hlt, by go_num, Lib.hid (by rw [← hSZ]; exact ⟨HK7.out, HB2.out⟩)⟩
        case measure => simp [intOf]; omega
    · have d2 : decide ((k : Int) < (T.length : Int)) = false := by simp; omega
      have d2' : decide (k < T.length) = false := by simp; omega
      go_wp2_with fail
      go_roundw
      case rel => exact ⟨k + 1, D1, G1, Z1, hlt, by go_num, Lib.hid (by rw [← hSZ]; exact ⟨HK3.out, HB1.out.more⟩)⟩
      case measure => simp [intOf]; omega
  · obtain rfl : k = L.length := by omega
    have d1 : decide ((L.length : Int) < (L.length : Int)) = false := by simp
    have HKL := Lib.hid (kt6_len L L.length)
    generalize kt6 L L.length = K at *
    have hKn : K.length ≤ 100 := by have := HKL.out; omega
    obtain ⟨Z1, r1, hb1, hsf, hz1⟩ := HH.out.2.syn
    have CS := Lib.hid (show Calls Tryz.prog 20 #[.pointer (some ⟨b, 0, none⟩)] w2 fun e w' => e = .returned (.int .i64 0) ∧ Kept6 w b d [] (sync G D).2.1 (sync G D).2.2 w' from by
      have := HH.out.1.call (fun X h1 h2 h3 => sync6_any h1 h2 h3)
      rw [r1] at this
      exact this)
    have HB1 := Lib.hid (show BkP K (196 * L.length + 98) Z1 (sync G D).2.2 (sync G D).2.1 ∧ SafeZ Z1 (sync G D).2.1.L from ⟨hb1, hsf⟩)
    clear hb1 hsf r1 hz1 HH HKL
    obtain ⟨D1, hD1⟩ : ∃ y, y = (sync G D).2.1 := ⟨_, rfl⟩
    obtain ⟨G1, hG1⟩ : ∃ y, y = (sync G D).2.2 := ⟨_, rfl⟩
    rw [← hD1, ← hG1] at HB1 CS
    clear hD1 hG1
    go_wp2_with fail
    with_reducible refine CS.out.mono ?_
    rintro e w3 ⟨rfl, hk3⟩
    have HK3 := Lib.hid hk3
    have CA := Lib.hid (show ∀ W, Below w3.heap.size w3 W → Calls Tryz.prog 32 #[.pointer (some ⟨b, 0, none⟩)] W (AllR6 K W) from fun W hb => by
      obtain ⟨X, h⟩ := (HK3.out.below hb).hg
      have := all6_any h HB1.out.1.lv
      rw [HB1.out.1.sn HB1.out.2, HB1.out.1.fl, List.take_length] at this
      exact this)
    clear hk3 CS
    go_wp2_with fail
    with_reducible refine (CA.out _ (Below.refl _ _)).mono ?_
    rintro e w4 ⟨aw, cw, rfl, hr, hb⟩
    have HK4 := Lib.hid (HK3.out.add hb hr)
    clear hr hb HK3 CA
    have CM := Lib.hid (show ∀ W, Below w4.heap.size w4 W → Calls Tryz.prog 26 #[.pointer (some ⟨b, 0, none⟩)] W fun e w' => e = .returned (.int .i64 (Z1.length : Nat)) ∧ Below W.heap.size W w' from fun W hb => by
      obtain ⟨X, h⟩ := (HK4.out.below hb).hg
      have := segments6_any h
      rw [HB1.out.1.lv.segments] at this
      exact this)
    have CE := Lib.hid (show ∀ W, Below w4.heap.size w4 W → Calls Tryz.prog 25 #[.pointer (some ⟨b, 0, none⟩)] W fun e w' => e = .returned (.int .i64 (K.length : Nat)) ∧ Below W.heap.size W w' from fun W hb => by
      obtain ⟨X, h⟩ := (HK4.out.below hb).hg
      have := end6_any h
      rw [HB1.out.1.lv.end_, HB1.out.1.cnt, Nat.zero_add] at this
      exact this)
    go_wp2_with fail
    with_reducible refine (CM.out _ (Below.refl _ _)).mono ?_
    rintro e w5 ⟨rfl, hb⟩
    have HB := Lib.hid hb
    clear hb CM
    go_wp2_with fail
    with_reducible refine (CE.out _ HB.out).mono ?_
    rintro e w6 ⟨rfl, hb⟩
    have HK6 := Lib.hid (HK4.out.below (below_step HB.out hb))
    clear hb CE HB HK4
    by_cases hn1 : n < 1
    · have CR := Lib.hid (show Calls Tryz.prog 22 #[.pointer (some ⟨b, 0, none⟩), .int .i64 n] w6 fun e w' => e = .returned (.int .i64 2) ∧ Kept6 w b d [(.slice aw K.length cw, K)] D1 G1 w' from by
        have := HK6.out.call (fun X h1 h2 h3 => retain6_any h1 h2 h3 n hn.2)
        unfold retain6 at this
        rw [if_neg (by rw [HB1.out.1.lv.state]; simp), if_pos hn1] at this
        exact this)
      have d2 : decide (n < 1) = true := by simpa using hn1
      have e1 : ((Z1.length : Int) == (Z1.length : Int)) = true := by simp
      go_wp2_with fail
      with_reducible refine CR.out.mono ?_
      rintro e w7 ⟨rfl, hk7⟩
      have HK7 := Lib.hid hk7
      have CA := Lib.hid (show Calls Tryz.prog 32 #[.pointer (some ⟨b, 0, none⟩)] w7 (AllR6 K w7) from by
        obtain ⟨X, h⟩ := HK7.out.hg
        have := all6_any h HB1.out.1.lv
        rw [HB1.out.1.sn HB1.out.2, HB1.out.1.fl, List.take_length] at this
        exact this)
      clear hk7 CR HK6
      go_wp2_with fail
      with_reducible refine CA.out.mono ?_
      rintro e w8 ⟨ax, cx, rfl, -, hb⟩
      have HK8 := Lib.hid (HK7.out.below hb)
      have CM := Lib.hid (show Calls Tryz.prog 26 #[.pointer (some ⟨b, 0, none⟩)] w8 fun e w' => e = .returned (.int .i64 (Z1.length : Nat)) ∧ Below w8.heap.size w8 w' from by
        obtain ⟨X, h⟩ := HK8.out.hg
        have := segments6_any h
        rw [HB1.out.1.lv.segments] at this
        exact this)
      clear hb CA HK7
      go_wp2_with fail
      with_reducible refine CM.out.mono ?_
      rintro e w9 ⟨rfl, hb⟩
      have HK9 := Lib.hid (HK8.out.below hb)
      clear hb CM HK8
      go_wp2_with fail
      with_reducible refine (does6 w9 HK9.out.vr).mono ?_
      rintro e w10 ⟨rfl, hb⟩
      have HBE := Lib.hid (below_step HK9.out.bel hb)
      clear hb HK9
      go_wp2_with fail
      go_ret
      exact ⟨rfl, HBE.out⟩
    · obtain ⟨m, rfl⟩ : ∃ m : Nat, n = (m : Int) := ⟨n.toNat, by omega⟩
      rcases retain_lv m (by omega) Z1 0 G1 D1 HB1.out.1.lv with ⟨F', Z', s, L', q1, q2, q3, q4, q5, q6, q7⟩ | ⟨q, _⟩
      rotate_left
      · exact absurd HB1.out.1.set q
      have CR := Lib.hid (show Calls Tryz.prog 22 #[.pointer (some ⟨b, 0, none⟩), .int .i64 (m : Int)] w6 fun e w' => e = .returned (.int .i64 0) ∧ Kept6 w b d [(.slice aw K.length cw, K)] (retainL m (Z1.map smOf) G1 D1).2.1 (retainL m (Z1.map smOf) G1 D1).2.2 w' from by
        have := HK6.out.call (fun X h1 h2 h3 => retain6_any h1 h2 h3 (m : Int) hn.2)
        unfold retain6 at this
        rw [if_neg (by rw [HB1.out.1.lv.state]; simp), if_neg hn1, Int.toNat_natCast, HB1.out.1.lv.gs, q1] at this
        exact this)
      have hsn : SafeZ Z' (retainL m (Z1.map smOf) G1 D1).2.1.L := by rw [q2]; exact q7 HB1.out.2
      obtain ⟨D2, hD2⟩ : ∃ y, y = (retainL m (Z1.map smOf) G1 D1).2.1 := ⟨_, rfl⟩
      obtain ⟨G2, hG2⟩ : ∃ y, y = (retainL m (Z1.map smOf) G1 D1).2.2 := ⟨_, rfl⟩
      rw [← hD2, ← hG2] at CR q4
      rw [← hD2] at hsn
      have hfl : flat Z' = K.drop F' := by rw [q5.fl, HB1.out.1.fl, Nat.sub_zero]
      have hnum : F' + cnt Z' = K.length := by rw [q5.num, HB1.out.1.cnt, Nat.zero_add]
      have HL := Lib.hid (show Lv F' Z' G2 D2 ∧ sureN Z' D2.L = cnt Z' ∧ flat Z' = K.drop F' ∧ F' + cnt Z' = K.length from ⟨q4, sureN_safe q4.hz hsn, hfl, hnum⟩)
      have hmn : min (m : Int) (Z1.length : Int) = (Z'.length : Int) := by rw [q6]; omega
      have hFK : F' ≤ K.length := by omega
      clear q1 q2 q3 q4 q5 q6 q7 hsn hD2 hG2 hfl hnum HB1
      have d2 : decide ((m : Int) < 1) = false := by simpa using hn1
      go_wp2_with fail
      with_reducible refine CR.out.mono ?_
      rintro e w7 ⟨rfl, hk7⟩
      have HK7 := Lib.hid hk7
      clear hk7 CR HK6
      have CA := Lib.hid (show Calls Tryz.prog 32 #[.pointer (some ⟨b, 0, none⟩)] w7 (AllR6 (K.drop F') w7) from by
        obtain ⟨X, h⟩ := HK7.out.hg
        have := all6_any h HL.out.1
        rw [HL.out.2.1, List.take_of_length_le (by rw [cnt_flat]; exact Nat.le_refl _), HL.out.2.2.1] at this
        exact this)
      go_wp2_with fail
      with_reducible refine CA.out.mono ?_
      rintro e w8 ⟨ax, cx, rfl, hr, hb⟩
      have HK8 := Lib.hid (fun W (hb2 : Below w8.heap.size w8 W) => (HK7.out.add hb hr).below hb2)
      clear hr hb CA HK7
      have CF := Lib.hid (show ∀ W, Below w8.heap.size w8 W → Calls Tryz.prog 23 #[.pointer (some ⟨b, 0, none⟩)] W fun e w' => e = .returned (.int .i64 (F' : Nat)) ∧ Below W.heap.size W w' from fun W hb => by
        obtain ⟨X, h⟩ := (HK8.out W hb).hg
        have := first6_any h
        rw [HL.out.1.first] at this
        exact this)
      have CM := Lib.hid (show ∀ W, Below w8.heap.size w8 W → Calls Tryz.prog 26 #[.pointer (some ⟨b, 0, none⟩)] W fun e w' => e = .returned (.int .i64 (Z'.length : Nat)) ∧ Below W.heap.size W w' from fun W hb => by
        obtain ⟨X, h⟩ := (HK8.out W hb).hg
        have := segments6_any h
        rw [HL.out.1.segments] at this
        exact this)
      have CE := Lib.hid (show ∀ W, Below w8.heap.size w8 W → Calls Tryz.prog 25 #[.pointer (some ⟨b, 0, none⟩)] W fun e w' => e = .returned (.int .i64 (K.length : Nat)) ∧ Below W.heap.size W w' from fun W hb => by
        obtain ⟨X, h⟩ := (HK8.out W hb).hg
        have := end6_any h
        rw [HL.out.1.end_, HL.out.2.2.2] at this
        exact this)
      have CU := Lib.hid (show ∀ W, Below w8.heap.size w8 W → Calls Tryz.prog 24 #[.pointer (some ⟨b, 0, none⟩)] W fun e w' => e = .returned (.int .i64 (K.length : Nat)) ∧ Below W.heap.size W w' from fun W hb => by
        obtain ⟨X, h⟩ := (HK8.out W hb).hg
        have := sure6_any h (srt_of HL.out.1.gs)
        rw [HL.out.1.sure, HL.out.2.1, HL.out.2.2.2] at this
        exact this)
      have CN := Lib.hid (show ∀ W, Below w8.heap.size w8 W → Calls Tryz.prog 36 #[.pointer (some ⟨d, 0, none⟩)] W (RowT (Dk.names D2.L) W) from fun W hb => by
        obtain ⟨X, h⟩ := (HK8.out W hb).dk
        exact namesX h)
      have hnl : (Dk.names D2.L).length = Z'.length := by unfold Dk.names; rw [List.length_map]; exact HL.out.1.len
      have CP := Lib.hid (show ∀ W, Below w8.heap.size w8 W → Calls Tryz.prog 17 #[.pointer (some ⟨b, 0, none⟩), .int .i64 ((F' : Int) - 1), .int .i64 1] W (ReadR [] 0 4 W) from fun W hb => by
        obtain ⟨X, h⟩ := (HK8.out W hb).hg
        have e4 : readE D2 G2 ((F' : Int) - 1) 1 = 4 := by
          unfold readE
          rw [if_neg (by rw [HL.out.1.state]; simp), if_neg (by decide), if_pos (.inl (by rw [HL.out.1.first]; omega))]
        have key := readAll6_any h Z' HL.out.1.gs HL.out.1.rd ((F' : Int) - 1) 1 ⟨by omega, by omega⟩ ⟨by decide, by decide⟩ (by rw [HL.out.1.sure]; have := HL.out.1.small; have := sureN_le Z' D2.L; omega)
        unfold readS readNb at key
        rw [e4, if_neg (by decide), if_neg (by decide)] at key
        exact key)
      go_wp2_with fail
      with_reducible refine (CF.out _ (Below.refl _ _)).mono ?_
      rintro e w9 ⟨rfl, hb⟩
      have HB := Lib.hid hb
      have hw1 : IntKind.i64.wrap ((F' : Int) - 1) = (F' : Int) - 1 := IntWalk.i64_in _ (by omega)
      clear hb CF
      go_wp2_with fail
      with_reducible refine (CP.out _ HB.out).mono ?_
      rintro e w10 ⟨ap, cp, rfl, -, hb⟩
      replace HB := Lib.hid (below_step HB.out hb)
      clear hb CP hw1
      have f1 : ((Z'.length : Int) == (Z'.length : Int)) = true := by simp
      have f2 : ((K.length : Int) == (K.length : Int)) = true := by simp
      have f3 : decide ((F' : Int) ≤ (K.length : Int)) = true := by simpa using hFK
      go_wp2_with fail
      with_reducible refine (CM.out _ HB.out).mono ?_
      rintro e w11 ⟨rfl, hb⟩
      replace HB := Lib.hid (below_step HB.out hb)
      clear hb
      go_wp2_with fail
      with_reducible refine (CN.out _ HB.out).mono ?_
      rintro e w12 ⟨an, cn, rfl, -, hb⟩
      rw [hnl]
      replace HB := Lib.hid (below_step HB.out hb)
      clear hb CN hnl
      go_wp2_with fail
      with_reducible refine (CM.out _ HB.out).mono ?_
      rintro e w13 ⟨rfl, hb⟩
      replace HB := Lib.hid (below_step HB.out hb)
      clear hb CM
      go_wp2_with fail
      with_reducible refine (CE.out _ HB.out).mono ?_
      rintro e w14 ⟨rfl, hb⟩
      replace HB := Lib.hid (below_step HB.out hb)
      clear hb CE
      go_wp2_with fail
      with_reducible refine (CU.out _ HB.out).mono ?_
      rintro e w15 ⟨rfl, hb⟩
      replace HB := Lib.hid (below_step HB.out hb)
      clear hb CU
      have HK15 := Lib.hid (HK8.out _ HB.out)
      clear HB HK8
      have CQ := Lib.hid (show ∀ (bo' : Option Addr) (c' : Nat), SpsAt w15 bo' (K.drop F') → Calls Tryz.prog 34 #[.slice ax (K.length - F') cx, .slice bo' (K.length - F') c'] w15 fun e w' => e = .returned (.bool true) ∧ Below w15.heap.size w15 w' from fun bo' c' h => by
        have := sameSpans_any (ao := ax) (bo := bo') (L := K.drop F') (K := K.drop F') cx c' (spsAt_own (HK15.out.own (List.mem_cons_self ..)) rfl) h (by rw [List.length_drop]; omega) (by rw [List.length_drop]; omega)
        rw [List.length_drop] at this
        exact this.mono fun e w' ⟨h1, _, h2⟩ => ⟨h1 rfl, h2⟩)
      have hcw := own_cap6 (HK15.out.own (v := .slice aw K.length cw) (K := K) (by simp))
      have HW := Lib.hid (show SpsAt w15 aw K from spsAt_own (HK15.out.own (v := .slice aw K.length cw) (K := K) (by simp)) rfl)
      go_wp2_with fail
      · rename_i hcf
        have hnl2 : K.drop F' = [] := List.drop_eq_nil_of_le (by omega)
        have HN2 := Lib.hid (show SpsAt w15 aw (K.drop F') from fun hne => absurd hnl2 hne)
        clear hnl2
        with_reducible refine (CQ.out _ _ HN2.out).mono ?_
        rintro e w16 ⟨rfl, hb⟩
        have HK16 := Lib.hid (HK15.out.below hb)
        clear hb CQ HK15
        go_wp2_with fail
        with_reducible refine (does6 w16 HK16.out.vr).mono ?_
        rintro e w17 ⟨rfl, hb⟩
        have HBE := Lib.hid (below_step HK16.out.bel hb)
        clear hb HK16
        go_wp2_with fail
        go_ret
        exact ⟨rfl, HBE.out⟩
      · with_reducible refine (CQ.out _ _ (spsAt_drop6 HW.out F')).mono ?_
        rintro e w16 ⟨rfl, hb⟩
        have HK16 := Lib.hid (HK15.out.below hb)
        clear hb CQ HK15
        go_wp2_with fail
        with_reducible refine (does6 w16 HK16.out.vr).mono ?_
        rintro e w17 ⟨rfl, hb⟩
        have HBE := Lib.hid (below_step HK16.out.bel hb)
        clear hb HK16
        go_wp2_with fail
        go_ret
        exact ⟨rfl, HBE.out⟩
/-- The law, for any opened arguments. -/
theorem hostlogRetain_calls (w : World) (hv : Vr w) (u : Value) (hu : USf6 w u) (t : Value) (ht : UBs6 w t) (n : Int) (wn : (Lit.int .i64 n).wf = true) : Calls Tryz.prog 8 #[u, t, .int .i64 n] w fun e w' => e = .returned (.bool true) ∧ Below w.heap.size w w' := by
  obtain ⟨L, ao, cap, rfl, hl, hf, hA⟩ := hu
  obtain ⟨T, bo, bc, rfl, hT, hTA⟩ := ht
  exact hostlogRetain_y w hv L ao cap hl hf hA T bo bc hT hTA n (i64_wf5 wn)

end Go.Proofs.YtmammmjmipgmoaaGreatDoor
