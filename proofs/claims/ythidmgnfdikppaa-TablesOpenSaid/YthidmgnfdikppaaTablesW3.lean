/- Layer 10: TablesBack, walked. -/
import Derived.Test.YthidmgnfdikppaaTablesW2
namespace Go.Proofs.Ythidmgnfdikppaa
set_option linter.unusedVariables false
open Go Go.RowKit
attribute [local go_sem ↓] run_index_S
attribute [local go_sem] S_append S_extract

theorem isT_oks {t : List UInt8} {L : List M.Cl} (h : M.IsT t L) : ∀ c ∈ L, ClOk c := fun c hc => by
  have h1 := M.mayC_true.1 (M.srt_may h.s c hc)
  have h2 := h.q c hc
  exact ⟨by omega, by omega, ⟨by omega, by omega⟩⟩
theorem own_cap10 {B : Nat} {w : World} {ao : Option Addr} {n cap sz : Nat} {T : TypeId} {xs : List Value} (h : w.ownsRow B T sz (.slice ao n cap) n xs) : n ≤ cap := by
  rcases h.2 with ⟨e, h0⟩ | ⟨g, cap', cur, e, _, _, hc, _⟩
  · rw [h0]; exact Nat.zero_le _
  · injection e with e1 e2 e3; omega
set_option maxHeartbeats 8000000 in
set_option maxRecDepth 100000 in
theorem tablesBack_calls (W : World) (v : Value) (hv : UCs W v) (text : List UInt8) (hml : text.length ≤ 140737488351232) :
    Calls Try.prog 6 #[v, .string (S text)] W fun e w' => e = .returned (.bool true) ∧ Below W.heap.size W w' := by
  obtain ⟨L, ao, cap, rfl, hl, hi, hc, hL⟩ := hv
  have CG := Lib.hid (show Calls Try.prog 22 #[.slice ao L.length cap, .int .i64 300] W fun e w' => GreatR9 L 300 W e w' from great9_any L cap 300 (by omega) hL hl)
  unfold GreatR9 at CG
  have CB := Lib.hid (fun (h : SmallCs9 L 300) V (h1 : ClsAt V ao L) => build10_any L (by have := h.1; omega) ao cap hc V h1 (h.oks hi))
  unfold BuildR at CB
  have CS := Lib.hid (fun (h : SmallCs9 L 300) V (h1 : ClsAt V ao L) => sorted9_any L (by have := h.1; omega) ao cap V h1 (h.oks hi))
  have CD := Lib.hid does10
  have HLw := Lib.hid hL
  have HB := Lib.hid (Below.refl W.heap.size W)
  have HI := Lib.hid hi
  clear hL hi
  go_enter Try.func6, Try.ntmps6
  go_wp2_with fail
  with_reducible refine CG.out.mono ?_
  rintro e w0 ⟨rfl | ⟨rfl, hsm⟩, rfl⟩
  · go_wp2_with fail
    go_ret
    exact ⟨rfl, HB.out⟩
  by_cases hm : 20000 < text.length
  · have q0 : decide ((20000 : Int) < (text.length : Int)) = true := by simp; omega
    go_wp2_with fail
    go_ret
    exact ⟨rfl, HB.out⟩
  have q0 : decide ((20000 : Int) < (text.length : Int)) = false := by simp; omega
  replace CB := Lib.hid (CB.out hsm)
  replace CS := Lib.hid (CS.out hsm)
  rw [bE_few (by have := hsm.1; omega)] at CB
  have hl2 : L.length ≤ 300 := hsm.1
  have CO := Lib.hid (fun V => open10_any text (by omega) V)
  unfold OpenR10 at CO
  clear hsm CG hl
  go_wp2_with fail
  cases hs : M.srt none L
  case false =>
    rw [bN_no hs, bS_no hs] at CB
    rw [hs] at CS
    clear hs
    with_reducible refine (CB.out _ HLw.out).mono ?_
    rintro e w1 ⟨rfl, hbq⟩
    replace HB := carry hbq HB
    replace HLw := carry hbq HLw
    clear hbq
    go_wp2_with fail
    with_reducible refine (CS.out _ HLw.out).mono ?_
    rintro e w2 ⟨rfl, hbq⟩
    replace HB := carry hbq HB
    clear hbq
    go_wp2_with fail
    cases hk : M.openT text with
    | none =>
      rw [hk] at CO
      simp only at CO
      clear hk
      with_reducible refine (CO.out _).mono ?_
      rintro e w7 ⟨rfl, hbq⟩
      replace HB := carry hbq HB
      clear hbq
      go_wp2_with fail
      with_reducible refine (CD.out _).mono ?_
      rintro e w8 ⟨rfl, hbq⟩
      replace HB := carry hbq HB
      clear hbq
      go_wp2_with fail
      go_ret
      exact ⟨rfl, HB.out⟩
    | some K =>
      have HTK := Lib.hid (M.openT_is hk)
      rw [hk] at CO
      simp only at CO
      clear hk
      have CAK := Lib.hid (fun V p (h : TabAt K p V) => all10_any K p V h HTK.out.s HTK.out.n HTK.out.q)
      unfold RangeR10 at CAK
      have CBK := Lib.hid (fun V a c (hc : K.length ≤ c) (h1 : ClsAt V a K) => build10_any K (by have := HTK.out.n; omega) a c hc V h1 (isT_oks HTK.out))
      unfold BuildR at CBK
      rw [bE_ok HTK.out.s (by have := HTK.out.n; omega), HTK.out.t] at CBK
      have hkn := HTK.out.n
      have qt : (text == text) = true := by simp
      with_reducible refine (CO.out _).mono ?_
      rintro e w7 ⟨⟨p2, rfl, ht⟩, hbq⟩
      replace HB := carry hbq HB
      have HTA2 := Lib.hid ht
      clear hbq ht
      go_wp2_with fail
      with_reducible refine (CAK.out _ p2 HTA2.out).mono ?_
      rintro e w8 ⟨ak, ck, rfl, ho, hbq⟩
      replace HB := carry hbq HB
      have HKC := Lib.hid (clsAt_own ho rfl)
      have hkc := own_cap10 ho
      clear hbq ho
      go_wp2_with fail
      with_reducible refine (CBK.out _ _ _ hkc HKC.out).mono ?_
      rintro e w9 ⟨rfl, hbq⟩
      replace HB := carry hbq HB
      clear hbq
      go_wp2_with fail
      with_reducible refine (CD.out _).mono ?_
      rintro e w10 ⟨rfl, hbq⟩
      replace HB := carry hbq HB
      clear hbq
      go_wp2_with fail
      go_ret
      exact ⟨rfl, HB.out⟩
  case true =>
    have HT := Lib.hid (isT_self hs (by omega) HI.out)
    have htl := tab_len10 hs (by omega)
    rw [bN_ok hs, bS_ok hs] at CB
    rw [hs] at CS
    have CO3 := Lib.hid (fun V => by
      have := open10_any (M.tableT L) (by omega) V
      unfold OpenR10 at this
      rw [M.openT_some HT.out] at this
      exact this)
    have CAL := Lib.hid (fun V p (h : TabAt L p V) => all10_any L p V h HT.out.s HT.out.n HT.out.q)
    have CLN := Lib.hid (fun V p (h : TabAt L p V) => len10_any L p V h HT.out.n)
    have CSM := Lib.hid (fun V a c (h1 : ClsAt V a L) (h2 : ClsAt V ao L) => sameCells9_yes L L.length rfl a ao c cap (by omega) (w := V) h1 h2)
    unfold RangeR10 at CAL
    simp only at CO3
    generalize M.tableT L = t at *
    clear hs HT
    with_reducible refine (CB.out _ HLw.out).mono ?_
    rintro e w1 ⟨rfl, hbq⟩
    replace HB := carry hbq HB
    replace HLw := carry hbq HLw
    clear hbq CB
    go_wp2_with fail
    with_reducible refine (CS.out _ HLw.out).mono ?_
    rintro e w2 ⟨rfl, hbq⟩
    replace HB := carry hbq HB
    replace HLw := carry hbq HLw
    clear hbq
    go_wp2_with fail
    with_reducible refine (CO3.out w2).mono ?_
    rintro e w3 ⟨⟨p, rfl, ht⟩, hbq⟩
    replace HB := carry hbq HB
    replace HLw := carry hbq HLw
    have HTA := Lib.hid ht
    clear hbq ht
    go_wp2_with fail
    with_reducible refine (CAL.out w3 p HTA.out).mono ?_
    rintro e w4 ⟨aa, ca, rfl, ho, hbq⟩
    replace HB := carry hbq HB
    replace HLw := carry hbq HLw
    replace HTA := carry hbq HTA
    have HAA := Lib.hid (clsAt_own ho rfl)
    clear hbq ho
    go_wp2_with fail
    with_reducible refine (CSM.out w4 _ _ HAA.out HLw.out).mono ?_
    rintro e w5 ⟨rfl, hbq⟩
    replace HB := carry hbq HB
    replace HTA := carry hbq HTA
    clear hbq HAA
    go_wp2_with fail
    with_reducible refine (CLN.out w5 p HTA.out).mono ?_
    rintro e w6 ⟨rfl, rfl⟩
    clear HTA CAL CLN CSM CO3
    go_wp2_with fail
    cases hk : M.openT text with
    | none =>
      rw [hk] at CO
      simp only at CO
      clear hk
      with_reducible refine (CO.out _).mono ?_
      rintro e w7 ⟨rfl, hbq⟩
      replace HB := carry hbq HB
      clear hbq
      go_wp2_with fail
      with_reducible refine (CD.out _).mono ?_
      rintro e w8 ⟨rfl, hbq⟩
      replace HB := carry hbq HB
      clear hbq
      go_wp2_with fail
      go_ret
      exact ⟨rfl, HB.out⟩
    | some K =>
      have HTK := Lib.hid (M.openT_is hk)
      rw [hk] at CO
      simp only at CO
      clear hk
      have CAK := Lib.hid (fun V p (h : TabAt K p V) => all10_any K p V h HTK.out.s HTK.out.n HTK.out.q)
      unfold RangeR10 at CAK
      have CBK := Lib.hid (fun V a c (hc : K.length ≤ c) (h1 : ClsAt V a K) => build10_any K (by have := HTK.out.n; omega) a c hc V h1 (isT_oks HTK.out))
      unfold BuildR at CBK
      rw [bE_ok HTK.out.s (by have := HTK.out.n; omega), HTK.out.t] at CBK
      have hkn := HTK.out.n
      have qt : (text == text) = true := by simp
      with_reducible refine (CO.out _).mono ?_
      rintro e w7 ⟨⟨p2, rfl, ht⟩, hbq⟩
      replace HB := carry hbq HB
      have HTA2 := Lib.hid ht
      clear hbq ht
      go_wp2_with fail
      with_reducible refine (CAK.out _ p2 HTA2.out).mono ?_
      rintro e w8 ⟨ak, ck, rfl, ho, hbq⟩
      replace HB := carry hbq HB
      have HKC := Lib.hid (clsAt_own ho rfl)
      have hkc := own_cap10 ho
      clear hbq ho
      go_wp2_with fail
      with_reducible refine (CBK.out _ _ _ hkc HKC.out).mono ?_
      rintro e w9 ⟨rfl, hbq⟩
      replace HB := carry hbq HB
      clear hbq
      go_wp2_with fail
      with_reducible refine (CD.out _).mono ?_
      rintro e w10 ⟨rfl, hbq⟩
      replace HB := carry hbq HB
      clear hbq
      go_wp2_with fail
      go_ret
      exact ⟨rfl, HB.out⟩

end Go.Proofs.Ythidmgnfdikppaa
