/- Layer 9: BlocksBack, walked. -/
import Derived.Test.YtppkecilbkgbdaaBlocksY
namespace Go.Proofs.Ytppkecilbkgbdaa
set_option linter.unusedVariables false
open Go Go.RowKit
attribute [local go_sem ↓] run_index_S
attribute [local go_sem] S_append S_extract

theorem SmallCs9.oks {L : List M.Cl} {n : Nat} (h : SmallCs9 L n) (hi : ∀ x ∈ L, x.ints) : ∀ c ∈ L, ClOk c := fun c hc => (h.2 c hc).ok (hi c hc)
theorem M.encCs_len {L : List M.Cl} {n : Nat} (h : M.srt none L = true) (hl : L.length ≤ n) : (M.encCs L).length ≤ 10 + 240 * n := by
  have h1 := M.encL_len (k := []) (M.srt_may h)
  have h2 := (M.putN_length L.length).2
  simp only [M.encCs, List.length_append]
  omega
theorem M.dec_enc_small {L : List M.Cl} {n : Nat} (h : M.srt none L = true) (hl : SmallCs9 L n) (hn : n ≤ 1000) (hi : ∀ x ∈ L, x.ints) : M.decC (M.encCs L) = some L :=
  M.dec_encC h (fun c hc => (hi c hc).2) (by have := hl.1; omega)
theorem decC_oks {s : List UInt8} {K : List M.Cl} (h : M.decC s = some K) : (∀ c ∈ K, ClOk c) ∧ M.srt none K = true ∧ M.encCs K = s := by
  obtain ⟨h1, h2, h3⟩ := M.decC_enc h
  refine ⟨fun c hc => ?_, h2, h1⟩
  obtain ⟨q1, q2, q3, q4⟩ := M.mayC_true.1 (M.srt_may h2 c hc)
  exact ⟨by omega, by omega, by have := (h3 c hc); exact ⟨by omega, by omega⟩⟩

set_option maxHeartbeats 4000000 in
set_option maxRecDepth 100000 in
theorem bback_none (W : World) (L : List M.Cl) (ao : Option Addr) (cap : Nat) (hl : L.length ≤ 9223372036854775807) (hi : ∀ x ∈ L, x.ints) (hL : ClsAt W ao L) (s : List UInt8) (h : s.length ≤ 5000) (hr : M.decC s = none) :
    Calls Try.prog 6 #[.slice ao L.length cap, .string (S s)] W fun e w' => e = .returned (.bool true) ∧ Below W.heap.size W w' := by
  have CD := Lib.hid (fun W => does9 W)
  have CG := Lib.hid (show Calls Try.prog 10 #[.slice ao L.length cap, .int .i64 200] W fun e w' => GreatR9 L 200 W e w' from great9_any L cap 200 (by omega) hL hl)
  have CE := Lib.hid (fun (h : SmallCs9 L 200) W h1 => encode9_any L (by have := h.1; omega) ao cap W h1 (h.oks hi))
  have CS := Lib.hid (fun (h : SmallCs9 L 200) W h1 => sorted9_any L (by have := h.1; omega) ao cap W h1 (h.oks hi))
  have CDE := Lib.hid (fun (hs : M.srt none L = true) (h : SmallCs9 L 200) W => by have := decode9_any (M.encCs L) (by have := M.encCs_len hs h.1; omega) W; unfold DecR9 at this; rw [M.dec_enc_small hs h (by omega) hi] at this; exact this)
  have CM := Lib.hid (fun (hh : SmallCs9 L 200) W a b c1 c2 h1 h2 => sameCells9_yes L L.length rfl a b c1 c2 (by have := hh.1; omega) (w := W) h1 h2)
  unfold EncR at CE
  unfold GreatR9 at CG
  have CN := Lib.hid (fun W => by have := decode9_any s (by omega) W; unfold DecR9 at this; rw [hr] at this; exact this)
  simp only at CDE CN
  have d0 : decide ((5000 : Int) < (s.length : Int)) = false := by simp; omega
  have HL := Lib.hid hL
  have HB := Lib.hid (Below.refl W.heap.size W)
  clear hL hi hr h
  go_enter Try.func6, Try.ntmps6
  go_wp2_with fail
  with_reducible refine CG.out.mono ?_
  rintro e w0 ⟨rfl | ⟨rfl, hsm⟩, rfl⟩
  · go_wp2_with fail
    go_ret
    exact ⟨rfl, HB.out⟩
  · replace CE := Lib.hid (CE.out hsm)
    replace CS := Lib.hid (CS.out hsm)
    replace CM := Lib.hid (CM.out hsm)
    have CDE2 := Lib.hid (fun hs => CDE.out hs hsm)
    clear hsm CDE CG
    go_wp2_with fail
    cases hb : M.srt none L with
    | true =>
      have CD3 := Lib.hid (CDE2.out hb)
      rw [hb] at CE CS
      simp only [if_true] at CE
      generalize M.encCs L = t at *
      clear hb CDE2
      with_reducible refine (CE.out _ HL.out).mono ?_
      rintro e w1 ⟨rfl, hbq⟩
      replace HB := carry hbq HB
      replace HL := carry hbq HL
      clear hbq
      go_wp2_with fail
      with_reducible refine (CS.out _ HL.out).mono ?_
      rintro e w2 ⟨rfl, hbq⟩
      replace HB := carry hbq HB
      replace HL := carry hbq HL
      clear hbq
      go_wp2_with fail
      with_reducible refine (CD3.out _).mono ?_
      rintro e w3 ⟨⟨a3, q3, rfl, ho⟩, hbq⟩
      replace HB := carry hbq HB
      replace HL := carry hbq HL
      have HM := Lib.hid (clsAt_own ho rfl)
      clear hbq ho
      go_wp2_with fail
      with_reducible refine (CM.out _ _ _ _ _ HM.out HL.out).mono ?_
      rintro e w4 ⟨rfl, hbq⟩
      replace HB := carry hbq HB
      clear hbq
      go_wp2_with fail
      with_reducible refine (CN.out _).mono ?_
      rintro e t1 ⟨rfl, hbq⟩
      replace HB := carry hbq HB
      clear hbq
      go_wp2_with fail
      with_reducible refine (CD.out _).mono ?_
      rintro e t2 ⟨rfl, hbq⟩
      replace HB := carry hbq HB
      clear hbq
      go_wp2_with fail
      go_ret
      exact ⟨rfl, HB.out⟩
    | false =>
      rw [hb] at CE CS
      simp only [Bool.false_eq_true, if_false] at CE
      clear hb CDE2
      with_reducible refine (CE.out _ HL.out).mono ?_
      rintro e w1 ⟨rfl, hbq⟩
      replace HB := carry hbq HB
      replace HL := carry hbq HL
      clear hbq
      go_wp2_with fail
      with_reducible refine (CS.out _ HL.out).mono ?_
      rintro e w2 ⟨rfl, hbq⟩
      replace HB := carry hbq HB
      clear hbq
      go_wp2_with fail
      with_reducible refine (CN.out _).mono ?_
      rintro e t1 ⟨rfl, hbq⟩
      replace HB := carry hbq HB
      clear hbq
      go_wp2_with fail
      with_reducible refine (CD.out _).mono ?_
      rintro e t2 ⟨rfl, hbq⟩
      replace HB := carry hbq HB
      clear hbq
      go_wp2_with fail
      go_ret
      exact ⟨rfl, HB.out⟩

set_option maxHeartbeats 4000000 in
set_option maxRecDepth 100000 in
theorem bback_some (W : World) (L : List M.Cl) (ao : Option Addr) (cap : Nat) (hl : L.length ≤ 9223372036854775807) (hi : ∀ x ∈ L, x.ints) (hL : ClsAt W ao L) (s : List UInt8) (h : s.length ≤ 5000) (K : List M.Cl) (hr : M.decC s = some K) :
    Calls Try.prog 6 #[.slice ao L.length cap, .string (S s)] W fun e w' => e = .returned (.bool true) ∧ Below W.heap.size W w' := by
  have CD := Lib.hid (fun W => does9 W)
  have CG := Lib.hid (show Calls Try.prog 10 #[.slice ao L.length cap, .int .i64 200] W fun e w' => GreatR9 L 200 W e w' from great9_any L cap 200 (by omega) hL hl)
  have CE := Lib.hid (fun (h : SmallCs9 L 200) W h1 => encode9_any L (by have := h.1; omega) ao cap W h1 (h.oks hi))
  have CS := Lib.hid (fun (h : SmallCs9 L 200) W h1 => sorted9_any L (by have := h.1; omega) ao cap W h1 (h.oks hi))
  have CDE := Lib.hid (fun (hs : M.srt none L = true) (h : SmallCs9 L 200) W => by have := decode9_any (M.encCs L) (by have := M.encCs_len hs h.1; omega) W; unfold DecR9 at this; rw [M.dec_enc_small hs h (by omega) hi] at this; exact this)
  have CM := Lib.hid (fun (hh : SmallCs9 L 200) W a b c1 c2 h1 h2 => sameCells9_yes L L.length rfl a b c1 c2 (by have := hh.1; omega) (w := W) h1 h2)
  unfold EncR at CE
  unfold GreatR9 at CG
  have CN := Lib.hid (fun W => by have := decode9_any s (by omega) W; unfold DecR9 at this; rw [hr] at this; exact this)
  have hk : K.length ≤ 5000 := Nat.le_trans (M.decC_len hr) h
  have hok := decC_oks hr
  have CEK := Lib.hid (fun W a c h1 => by have := encode9_any K (by omega) a c W h1 hok.1; unfold EncR at this; rw [hok.2.1, hok.2.2] at this; simp only [if_true] at this; exact this)
  have CSK := Lib.hid (fun W a c h1 => by have := sorted9_any K (by omega) a c W h1 hok.1; rw [hok.2.1] at this; exact this)
  clear hok
  simp only at CDE CN
  have d0 : decide ((5000 : Int) < (s.length : Int)) = false := by simp; omega
  have HL := Lib.hid hL
  have HB := Lib.hid (Below.refl W.heap.size W)
  clear hL hi hr h
  go_enter Try.func6, Try.ntmps6
  go_wp2_with fail
  with_reducible refine CG.out.mono ?_
  rintro e w0 ⟨rfl | ⟨rfl, hsm⟩, rfl⟩
  · go_wp2_with fail
    go_ret
    exact ⟨rfl, HB.out⟩
  · replace CE := Lib.hid (CE.out hsm)
    replace CS := Lib.hid (CS.out hsm)
    replace CM := Lib.hid (CM.out hsm)
    have CDE2 := Lib.hid (fun hs => CDE.out hs hsm)
    clear hsm CDE CG
    go_wp2_with fail
    cases hb : M.srt none L with
    | true =>
      have CD3 := Lib.hid (CDE2.out hb)
      rw [hb] at CE CS
      simp only [if_true] at CE
      generalize M.encCs L = t at *
      clear hb CDE2
      with_reducible refine (CE.out _ HL.out).mono ?_
      rintro e w1 ⟨rfl, hbq⟩
      replace HB := carry hbq HB
      replace HL := carry hbq HL
      clear hbq
      go_wp2_with fail
      with_reducible refine (CS.out _ HL.out).mono ?_
      rintro e w2 ⟨rfl, hbq⟩
      replace HB := carry hbq HB
      replace HL := carry hbq HL
      clear hbq
      go_wp2_with fail
      with_reducible refine (CD3.out _).mono ?_
      rintro e w3 ⟨⟨a3, q3, rfl, ho⟩, hbq⟩
      replace HB := carry hbq HB
      replace HL := carry hbq HL
      have HM := Lib.hid (clsAt_own ho rfl)
      clear hbq ho
      go_wp2_with fail
      with_reducible refine (CM.out _ _ _ _ _ HM.out HL.out).mono ?_
      rintro e w4 ⟨rfl, hbq⟩
      replace HB := carry hbq HB
      clear hbq
      go_wp2_with fail
      with_reducible refine (CN.out _).mono ?_
      rintro e t1 ⟨⟨a1, q1, rfl, ho⟩, hbq⟩
      replace HB := carry hbq HB
      have HK := Lib.hid (clsAt_own ho rfl)
      clear hbq ho
      go_wp2_with fail
      with_reducible refine (CEK.out _ _ _ HK.out).mono ?_
      rintro e t2 ⟨rfl, hbq⟩
      replace HB := carry hbq HB
      replace HK := carry hbq HK
      clear hbq
      go_wp2_with fail
      with_reducible refine (CSK.out _ _ _ HK.out).mono ?_
      rintro e t3 ⟨rfl, hbq⟩
      replace HB := carry hbq HB
      clear hbq
      go_wp2_with fail
      with_reducible refine (CD.out _).mono ?_
      rintro e t4 ⟨rfl, hbq⟩
      replace HB := carry hbq HB
      clear hbq
      go_wp2_with fail
      go_ret
      exact ⟨rfl, HB.out⟩
    | false =>
      rw [hb] at CE CS
      simp only [Bool.false_eq_true, if_false] at CE
      clear hb CDE2
      with_reducible refine (CE.out _ HL.out).mono ?_
      rintro e w1 ⟨rfl, hbq⟩
      replace HB := carry hbq HB
      replace HL := carry hbq HL
      clear hbq
      go_wp2_with fail
      with_reducible refine (CS.out _ HL.out).mono ?_
      rintro e w2 ⟨rfl, hbq⟩
      replace HB := carry hbq HB
      clear hbq
      go_wp2_with fail
      with_reducible refine (CN.out _).mono ?_
      rintro e t1 ⟨⟨a1, q1, rfl, ho⟩, hbq⟩
      replace HB := carry hbq HB
      have HK := Lib.hid (clsAt_own ho rfl)
      clear hbq ho
      go_wp2_with fail
      with_reducible refine (CEK.out _ _ _ HK.out).mono ?_
      rintro e t2 ⟨rfl, hbq⟩
      replace HB := carry hbq HB
      replace HK := carry hbq HK
      clear hbq
      go_wp2_with fail
      with_reducible refine (CSK.out _ _ _ HK.out).mono ?_
      rintro e t3 ⟨rfl, hbq⟩
      replace HB := carry hbq HB
      clear hbq
      go_wp2_with fail
      with_reducible refine (CD.out _).mono ?_
      rintro e t4 ⟨rfl, hbq⟩
      replace HB := carry hbq HB
      clear hbq
      go_wp2_with fail
      go_ret
      exact ⟨rfl, HB.out⟩

set_option maxHeartbeats 1000000 in
theorem blocksBack_calls (W : World) (v : Value) (hv : UCs W v) (s : List UInt8) (hsl : s.length ≤ 140737488351232) :
    Calls Try.prog 6 #[v, .string (S s)] W fun e w' => e = .returned (.bool true) ∧ Below W.heap.size W w' := by
  obtain ⟨L, ao, cap, rfl, hl, hi, hc, hL⟩ := hv
  by_cases h : s.length ≤ 5000
  · cases hr : M.decC s with
    | none => exact bback_none W L ao cap hl hi hL s h hr
    | some K => exact bback_some W L ao cap hl hi hL s h K hr
  · have d0 : decide ((5000 : Int) < (s.length : Int)) = true := by simp; omega
    have CG := Lib.hid (show Calls Try.prog 10 #[.slice ao L.length cap, .int .i64 200] W fun e w' => GreatR9 L 200 W e w' from great9_any L cap 200 (by omega) hL hl)
    unfold GreatR9 at CG
    go_enter Try.func6, Try.ntmps6
    go_wp2_with fail
    with_reducible refine CG.out.mono ?_
    rintro e w0 ⟨rfl | ⟨rfl, hsm⟩, rfl⟩
    all_goals
      go_wp2_with fail
      go_ret
      exact ⟨rfl, Below.refl _ _⟩

end Go.Proofs.Ytppkecilbkgbdaa
