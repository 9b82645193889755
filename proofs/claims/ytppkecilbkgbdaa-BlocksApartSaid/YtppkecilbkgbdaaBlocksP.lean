/- Layer 9: BlocksApart, walked. -/
import Derived.Test.YtppkecilbkgbdaaBlocksZ
namespace Go.Proofs.Ytppkecilbkgbdaa
set_option linter.unusedVariables false
open Go Go.RowKit
attribute [local go_sem ↓] run_index_S
attribute [local go_sem] S_append S_extract

theorem M.decC_pre {L K : List M.Cl} {s z : List UInt8} (h : M.srt none L = true) (hi : ∀ x ∈ L, x.ints) (hl : (M.encCs L).length ≤ 1000000) (hK : M.decC s = some K) (hs : M.encCs L = s ++ z) : z = [] := by
  obtain ⟨k1, k2, k3⟩ := M.decC_enc hK
  have hkl := M.encL_ge (k := []) K
  have hll := M.encL_ge (k := []) L
  have hl1 : L.length ≤ 1000000 := by simp only [M.encCs, List.length_append] at hl; omega
  have hk1 : K.length ≤ 1000000 := by
    have e := congrArg List.length hs
    rw [← k1] at e
    simp only [M.encCs, List.length_append] at e hl
    omega
  have okP : ∀ {J : List M.Cl}, M.srt none J = true → (∀ c ∈ J, c.seq ≤ 9223372036854775807) → ∀ c ∈ J, 0 ≤ c.seq ∧ c.seq ≤ 9223372036854775807 ∧ c.key.length ≤ 9223372036854775807 ∧ c.val.length ≤ 9223372036854775807 := fun hJ hq c hc => by
    have h1 := M.mayC_true.1 (M.srt_may hJ c hc)
    exact ⟨h1.2.2.1, hq c hc, by omega, by omega⟩
  have hs2 : M.encCs L = M.putN K.length ++ M.encL [] K ++ z := by rw [hs, ← k1]; rfl
  have e1 := M.getsP (s := M.encCs L) (a := []) (c := M.encL [] L) (n := L.length) (i := 0) (by omega) (by simp [M.encCs]) rfl
  have e2 := M.getsP (s := M.encCs L) (a := []) (c := M.encL [] K ++ z) (n := K.length) (i := 0) (by omega) (by rw [hs2]; simp) rfl
  rw [e1] at e2
  injection e2 with e2
  injection e2 with e3 e4
  have r1 := M.rd_enc true L (M.putN L.length) [] [] (okP h (fun c hc => (hi c hc).2)) (by simp)
  have r2 := M.rd_enc true K (M.putN K.length) [] z (okP k2 (fun c hc => (k3 c hc).2)) (by simp)
  rw [← hs2, ← e3] at r2
  rw [List.append_nil, show M.putN L.length ++ M.encL [] L = M.encCs L from rfl, r2] at r1
  injection r1 with r1
  injection r1 with r3 r4
  have e5 := congrArg List.length hs2
  rw [← e3] at e5
  simp only [List.length_append] at e5 r4
  exact List.eq_nil_of_length_eq_zero (by omega)
theorem M.decC_cut {L : List M.Cl} (h : M.srt none L = true) (hi : ∀ x ∈ L, x.ints) (hl : (M.encCs L).length ≤ 1000000) {n : Nat} (hn : n < (M.encCs L).length) : M.decC ((M.encCs L).take n) = none := by
  cases hd : M.decC ((M.encCs L).take n) with
  | none => rfl
  | some K =>
    have := congrArg List.length (M.decC_pre h hi hl hd (List.take_append_drop n _).symm)
    simp only [List.length_drop, List.length_nil] at this
    omega
theorem u16_range9 {n : Int} (h : (Lit.int .u16 n).wf = true) : 0 ≤ n ∧ n < 65536 := by
  simp [Lit.wf, IntKind.min, IntKind.max, IntKind.signed, IntKind.bits] at h
  omega
theorem M.encCs_pos (L : List M.Cl) : 0 < (M.encCs L).length := by
  have := (M.putN_length L.length).1
  simp only [M.encCs, List.length_append]
  omega

set_option maxHeartbeats 8000000 in
set_option maxRecDepth 100000 in
theorem blocksApart_calls (W : World) (v : Value) (hv : UCs W v) (u : Value) (hu : UCs W u) (y : Int) (wy : (Lit.int .u16 y).wf = true) :
    Calls Try.prog 9 #[v, u, .int .u16 y] W fun e w' => e = .returned (.bool true) ∧ Below W.heap.size W w' := by
  obtain ⟨L, ao, cap, rfl, hl, hi, hc, hL⟩ := hv
  obtain ⟨K, bo, cbp, rfl, hl2, hi2, hc2, hK⟩ := hu
  have hy := u16_range9 wy
  have CG := Lib.hid (show Calls Try.prog 10 #[.slice ao L.length cap, .int .i64 100] W fun e w' => GreatR9 L 100 W e w' from great9_any L cap 100 (by omega) hL hl)
  have CG2 := Lib.hid (show Calls Try.prog 10 #[.slice bo K.length cbp, .int .i64 100] W fun e w' => GreatR9 K 100 W e w' from great9_any K cbp 100 (by omega) hK hl2)
  unfold GreatR9 at CG CG2
  have CD := Lib.hid (fun W => does9 W)
  have CE := Lib.hid (fun (h : SmallCs9 L 100) W h1 => encode9_any L (by have := h.1; omega) ao cap W h1 (h.oks hi))
  have CE2 := Lib.hid (fun (h : SmallCs9 K 100) W h1 => encode9_any K (by have := h.1; omega) bo cbp W h1 (h.oks hi2))
  have CMy := Lib.hid (fun (hLK : L = K) (h : SmallCs9 L 100) (h' : SmallCs9 K 100) V (h1 : ClsAt V ao L) (h2 : ClsAt V bo K) => (sameCells9_any (w := V) (L := L) (K := K) cap cbp h1 h2 (by have := h.1; omega) (by have := h'.1; omega)).mono fun e w' (k : SameR (L = K) V e w') => (⟨k.1 hLK, k.2.2⟩ : e = .returned (.bool true) ∧ Below V.heap.size V w'))
  have CMn := Lib.hid (fun (hLK : ¬ L = K) (h : SmallCs9 L 100) (h' : SmallCs9 K 100) V (h1 : ClsAt V ao L) (h2 : ClsAt V bo K) => (sameCells9_any (w := V) (L := L) (K := K) cap cbp h1 h2 (by have := h.1; omega) (by have := h'.1; omega)).mono fun e w' (k : SameR (L = K) V e w') => (⟨k.2.1 hLK, k.2.2⟩ : e = .returned (.bool false) ∧ Below V.heap.size V w'))
  unfold EncR at CE CE2
  have HLw := Lib.hid hL
  have HKw := Lib.hid hK
  have HB := Lib.hid (Below.refl W.heap.size W)
  have HI := Lib.hid hi
  have HI2 := Lib.hid hi2
  clear hL hK hi hi2 wy
  go_enter Try.func9, Try.ntmps9
  go_wp2_with fail
  with_reducible refine CG.out.mono ?_
  rintro e w0 ⟨rfl | ⟨rfl, hsm⟩, rfl⟩
  · go_wp2_with fail
    go_ret
    exact ⟨rfl, HB.out⟩
  go_wp2_with fail
  with_reducible refine CG2.out.mono ?_
  rintro e w0 ⟨rfl | ⟨rfl, hsm2⟩, rfl⟩
  · go_wp2_with fail
    go_ret
    exact ⟨rfl, HB.out⟩
  replace CE := Lib.hid (CE.out hsm)
  replace CE2 := Lib.hid (CE2.out hsm2)
  replace CMy := Lib.hid (fun q => CMy.out q hsm hsm2)
  replace CMn := Lib.hid (fun q => CMn.out q hsm hsm2)
  have HS := Lib.hid hsm
  have HS2 := Lib.hid hsm2
  clear hsm hsm2 CG CG2 hl hl2
  go_wp2_with fail
  cases hb : M.srt none L with
  | false =>
    rw [hb] at CE
    simp only [Bool.false_eq_true, if_false] at CE
    cases hb2 : M.srt none K with
    | false =>
      rw [hb2] at CE2
      simp only [Bool.false_eq_true, if_false] at CE2
      clear hb hb2
      with_reducible refine (CE.out _ HLw.out).mono ?_
      rintro e w1 ⟨rfl, hbq⟩
      replace HB := carry hbq HB
      replace HLw := carry hbq HLw
      replace HKw := carry hbq HKw
      clear hbq
      go_wp2_with fail
      with_reducible refine (CE2.out _ HKw.out).mono ?_
      rintro e w2 ⟨rfl, hbq⟩
      replace HB := carry hbq HB
      clear hbq
      go_wp2_with fail
      with_reducible refine (CD.out _).mono ?_
      rintro e w3 ⟨rfl, hbq⟩
      replace HB := carry hbq HB
      clear hbq
      go_wp2_with fail
      go_ret
      exact ⟨rfl, HB.out⟩
    | true =>
      rw [hb2] at CE2
      simp only [if_true] at CE2
      clear hb hb2
      with_reducible refine (CE.out _ HLw.out).mono ?_
      rintro e w1 ⟨rfl, hbq⟩
      replace HB := carry hbq HB
      replace HLw := carry hbq HLw
      replace HKw := carry hbq HKw
      clear hbq
      go_wp2_with fail
      with_reducible refine (CE2.out _ HKw.out).mono ?_
      rintro e w2 ⟨rfl, hbq⟩
      replace HB := carry hbq HB
      clear hbq
      go_wp2_with fail
      with_reducible refine (CD.out _).mono ?_
      rintro e w3 ⟨rfl, hbq⟩
      replace HB := carry hbq HB
      clear hbq
      go_wp2_with fail
      go_ret
      exact ⟨rfl, HB.out⟩
  | true =>
    rw [hb] at CE
    simp only [if_true] at CE
    cases hb2 : M.srt none K with
    | false =>
      rw [hb2] at CE2
      simp only [Bool.false_eq_true, if_false] at CE2
      clear hb hb2
      with_reducible refine (CE.out _ HLw.out).mono ?_
      rintro e w1 ⟨rfl, hbq⟩
      replace HB := carry hbq HB
      replace HLw := carry hbq HLw
      replace HKw := carry hbq HKw
      clear hbq
      go_wp2_with fail
      with_reducible refine (CE2.out _ HKw.out).mono ?_
      rintro e w2 ⟨rfl, hbq⟩
      replace HB := carry hbq HB
      clear hbq
      go_wp2_with fail
      with_reducible refine (CD.out _).mono ?_
      rintro e w3 ⟨rfl, hbq⟩
      replace HB := carry hbq HB
      clear hbq
      go_wp2_with fail
      go_ret
      exact ⟨rfl, HB.out⟩
    | true =>
      rw [hb2] at CE2
      simp only [if_true] at CE2
      have hpos := M.encCs_pos L
      have hlen := M.encCs_len hb HS.out.1
      have HQ : Hid ((L = K → (M.encCs L == M.encCs K) = true) ∧ (¬ L = K → (M.encCs L == M.encCs K) = false)) := Lib.hid ⟨fun h => by rw [h]; simp, fun h => by
        simp only [beq_eq_false_iff_ne, ne_eq]
        intro e
        have d1 := M.dec_enc_small hb HS.out (by omega) HI.out
        have d2 := M.dec_enc_small hb2 HS2.out (by omega) HI2.out
        rw [e, d2] at d1
        injection d1 with d1
        exact h d1.symm⟩
      obtain ⟨c, hc⟩ : ∃ c : Nat, (c : Int) = y % ((M.encCs L).length : Int) := ⟨(y % ((M.encCs L).length : Int)).toNat, by have := Int.emod_nonneg y (show ((M.encCs L).length : Int) ≠ 0 by omega); omega⟩
      have hcl : c < (M.encCs L).length := by have := Int.emod_lt_of_pos y (show 0 < ((M.encCs L).length : Int) by omega); omega
      have hcut := M.decC_cut hb HI.out (by omega) hcl
      have CN := Lib.hid (fun W => by have := decode9_any ((M.encCs L).take c) (by rw [List.length_take]; omega) W; unfold DecR9 at this; rw [hcut] at this; exact this)
      simp only at CN
      clear hb hb2 hcut
      generalize M.encCs L = ta at *
      generalize M.encCs K = tb at *
      have hpt := fun W k => run_piece_to (P := Try.prog) 9 Try.underlying9 ta (y % (ta.length : Int)) c hc.symm (by omega) W k
      have hne : (ta == []) = false := by cases ta with
        | nil => simp at hpos
        | cons x r => rfl
      have hne2 : (ta.length : Int) ≠ 0 := by omega
      generalize ta.take c = tc at *
      clear hc hcl
      with_reducible refine (CE.out _ HLw.out).mono ?_
      rintro e w1 ⟨rfl, hbq⟩
      replace HB := carry hbq HB
      replace HLw := carry hbq HLw
      replace HKw := carry hbq HKw
      clear hbq
      go_wp2_with fail
      with_reducible refine (CE2.out _ HKw.out).mono ?_
      rintro e w2 ⟨rfl, hbq⟩
      replace HB := carry hbq HB
      replace HLw := carry hbq HLw
      replace HKw := carry hbq HKw
      clear hbq
      go_wp2_with fail
      with_reducible refine (CN.out _).mono ?_
      rintro e w3 ⟨rfl, hbq⟩
      replace HB := carry hbq HB
      replace HLw := carry hbq HLw
      replace HKw := carry hbq HKw
      clear hbq
      go_wp2_with fail
      rcases Classical.em (L = K) with hLK | hLK
      · have hq := (HQ.out).1 hLK
        with_reducible refine (CMy.out hLK _ HLw.out HKw.out).mono ?_
        rintro e w4 ⟨rfl, hbq⟩
        replace HB := carry hbq HB
        clear hbq hLK
        go_wp2_with fail
        with_reducible refine (CD.out _).mono ?_
        rintro e w5 ⟨rfl, hbq⟩
        replace HB := carry hbq HB
        clear hbq
        go_wp2_with fail
        go_ret
        exact ⟨rfl, HB.out⟩
      · have hq := (HQ.out).2 hLK
        with_reducible refine (CMn.out hLK _ HLw.out HKw.out).mono ?_
        rintro e w4 ⟨rfl, hbq⟩
        replace HB := carry hbq HB
        clear hbq hLK
        go_wp2_with fail
        with_reducible refine (CD.out _).mono ?_
        rintro e w5 ⟨rfl, hbq⟩
        replace HB := carry hbq HB
        clear hbq
        go_wp2_with fail
        go_ret
        exact ⟨rfl, HB.out⟩

end Go.Proofs.Ytppkecilbkgbdaa
