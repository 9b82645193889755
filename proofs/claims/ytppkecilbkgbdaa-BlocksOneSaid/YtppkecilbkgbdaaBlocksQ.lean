/- Layer 9: BlocksEncode, walked. -/
import Derived.Test.YtppkecilbkgbdaaBlocksO
namespace Go.Proofs.Ytppkecilbkgbdaa
set_option linter.unusedVariables false
open Go Go.RowKit
attribute [local go_sem ↓] run_index_S
attribute [local go_sem] S_append S_extract

theorem clsAt_pre9 {w : World} {ao : Option Addr} {L : List M.Cl} {x : M.Cl} (h : ClsAt w ao (L ++ [x])) : ClsAt w ao L := by
  obtain ⟨g, off, rfl, h1, h2⟩ := clsAt_take9 h
  exact h1

set_option maxHeartbeats 4000000 in
set_option maxRecDepth 100000 in
theorem left9_any (L : List M.Cl) (ao : Option Addr) (cap : Nat) (hl : L.length ≤ 200) (w : World) (g q : Nat) (hq : L.length + 1 ≤ q) (h : ClsAt w (some ⟨g, 0, none⟩) (L ++ [c70])) (k : ClsAt w ao L) :
    Calls Try.prog 16 #[.slice (some ⟨g, 0, none⟩) L.length q, .slice ao L.length cap] w fun e w' => e = .returned (.bool true) ∧ Below w.heap.size w w' := by
  have CM := Lib.hid (sameCells9_yes L L.length rfl (some ⟨g, 0, none⟩) ao q cap (by omega) (clsAt_pre9 h) k)
  have H7 : Hid (ClOff c70 w g (L.length * 3)) := by
    obtain ⟨g', off, e, h1, h2⟩ := clsAt_take9 h
    injection e with e
    injection e with e1 e2
    subst e1 e2
    rw [Nat.zero_add] at h2
    exact Lib.hid h2
  have d0 : decide ((L.length : Int) < (q : Int)) = true := by simp; omega
  have ew : IntKind.i64.wrap ((L.length : Int) + 1) = (L.length : Int) + 1 := IntWalk.i64_in _ (by omega)
  have b1 : (0 : Int) ≤ (L.length : Int) + 1 := by omega
  have b2 : (L.length : Int) + 1 ≤ (q : Int) := by omega
  have b3 : (L.length : Int) < (L.length : Int) + 1 := by omega
  have b4 : ((L.length : Int) + 1).toNat = L.length + 1 := by omega
  clear h k
  go_enter Try.func16, Try.ntmps16
  go_wp2_with fail
  with_reducible refine CM.out.mono ?_
  rintro e w1 ⟨rfl, hb⟩
  have HB := Lib.hid hb
  obtain ⟨z0, z1, z2⟩ := H7.out.below hb
  have z1 : w1.cell? ⟨g, L.length * 3 + 1, none⟩ = some (.int .i64 (-70)) := z1
  clear hb z0 z2
  go_wp2_with fail
  go_ret
  exact ⟨rfl, HB.out⟩

set_option maxHeartbeats 8000000 in
set_option maxRecDepth 100000 in
theorem blocksEncode_calls (W : World) (v : Value) (hv : UCs W v) :
    Calls Try.prog 3 #[v] W fun e w' => e = .returned (.bool true) ∧ Below W.heap.size W w' := by
  obtain ⟨L, ao, cap, rfl, hl, hi, hc, hL⟩ := hv
  have CG := Lib.hid (show Calls Try.prog 10 #[.slice ao L.length cap, .int .i64 200] W fun e w' => GreatR9 L 200 W e w' from great9_any L cap 200 (by omega) hL hl)
  unfold GreatR9 at CG
  have CE := Lib.hid (fun (h : SmallCs9 L 200) V a c (h1 : ClsAt V a L) => encode9_any L (by have := h.1; omega) a c V h1 (h.oks hi))
  have CRE := Lib.hid (fun (h : SmallCs9 L 200) V a c (h1 : ClsAt V a L) => refEncode9_any L (by have := h.1; omega) a c V h1 (h.oks hi))
  have CS := Lib.hid (fun (h : SmallCs9 L 200) V a c (h1 : ClsAt V a L) => sorted9_any L (by have := h.1; omega) a c V h1 (h.oks hi))
  have CRS := Lib.hid (fun (h : SmallCs9 L 200) V a c (h1 : ClsAt V a L) => refSorted9_any L (by have := h.1; omega) a c V h1 (h.oks hi))
  have CT9 := Lib.hid (fun (h : SmallCs9 L 200) V (h1 : ClsAt V ao L) => twin9_any L ao cap h.1 V h1)
  have CL := Lib.hid (fun (h : SmallCs9 L 200) V g q hq (h1 : ClsAt V (some ⟨g, 0, none⟩) (L ++ [c70])) (h2 : ClsAt V ao L) => left9_any L ao cap h.1 V g q hq h1 h2)
  unfold EncR at CE CRE
  unfold TwinR9 at CT9
  have HLw := Lib.hid hL
  have HB := Lib.hid (Below.refl W.heap.size W)
  have HI := Lib.hid hi
  clear hL hi
  go_enter Try.func3, Try.ntmps3
  go_wp2_with fail
  with_reducible refine CG.out.mono ?_
  rintro e w0 ⟨rfl | ⟨rfl, hsm⟩, rfl⟩
  · go_wp2_with fail
    go_ret
    exact ⟨rfl, HB.out⟩
  replace CE := Lib.hid (CE.out hsm)
  replace CRE := Lib.hid (CRE.out hsm)
  replace CS := Lib.hid (CS.out hsm)
  replace CRS := Lib.hid (CRS.out hsm)
  replace CT9 := Lib.hid (CT9.out hsm)
  replace CL := Lib.hid (CL.out hsm)
  have HOK := Lib.hid (hsm.oks HI.out)
  have hl2 : L.length ≤ 200 := hsm.1
  clear hsm CG hl
  go_wp2_with fail
  cases hb : M.srt none L
  all_goals
    rw [hb] at CE CRE CS CRS
    simp only [Bool.false_eq_true, if_false, if_true] at CE CRE
    clear hb
    generalize M.encCs L = t at *
    with_reducible refine (CT9.out _ HLw.out).mono ?_
    rintro e w1 ⟨g, q, rfl, hgq, hc, hbq⟩
    replace HB := carry hbq HB
    replace HLw := carry hbq HLw
    have HTw := Lib.hid hc
    clear hbq hc
    go_wp2_with fail
    with_reducible refine (CE.out _ _ _ (clsAt_pre9 HTw.out)).mono ?_
    rintro e w2 ⟨rfl, hbq⟩
    replace HB := carry hbq HB
    replace HLw := carry hbq HLw
    replace HTw := carry hbq HTw
    clear hbq
    go_wp2_with fail
    with_reducible refine (CRE.out _ _ _ HLw.out).mono ?_
    rintro e w3 ⟨rfl, hbq⟩
    replace HB := carry hbq HB
    replace HLw := carry hbq HLw
    replace HTw := carry hbq HTw
    clear hbq
    go_wp2_with fail
    with_reducible refine (CS.out _ _ _ (clsAt_pre9 HTw.out)).mono ?_
    rintro e w4 ⟨rfl, hbq⟩
    replace HB := carry hbq HB
    replace HLw := carry hbq HLw
    replace HTw := carry hbq HTw
    clear hbq
    go_wp2_with fail
    with_reducible refine (CRS.out _ _ _ HLw.out).mono ?_
    rintro e w5 ⟨rfl, hbq⟩
    replace HB := carry hbq HB
    replace HLw := carry hbq HLw
    replace HTw := carry hbq HTw
    clear hbq
    go_wp2_with fail
    with_reducible refine (CL.out _ g q hgq HTw.out HLw.out).mono ?_
    rintro e w6 ⟨rfl, hbq⟩
    replace HB := carry hbq HB
    replace HLw := carry hbq HLw
    clear hbq
    go_wp2_with fail
    by_cases h0 : L.length = 0
    · have d0 : ((L.length : Int) == 0) = true := by rw [h0]; rfl
      refine wp_region_quiet_below (by kernel_rfl) (by kernel_rfl) ?_
      repeat (any_goals (first | go_big_quiet_step ((go_at_call 19; exact Calls.regrown_of (does9 _))) | quiet_step ((go_at_call 19; exact Calls.regrown_of (does9 _)))))
      refine wpQuiet_nil ?_
      intro _ hw1
      obtain ⟨⟨dd, oo⟩, hw1⟩ := hw1
      subst hw1
      replace HB := carry (below_regrown w6 dd oo) HB
      go_wp2_with fail
      go_ret
      exact ⟨rfl, HB.out⟩
    · have d0 : ((L.length : Int) == 0) = false := by simp only [beq_eq_false_iff_ne, ne_eq]; omega
      have d1 : (0 : Int) < (L.length : Int) := by omega
      have CK := Lib.hid (fun V => check9_any (L.getD 0 M.cl0) (HOK.out _ (M.getD_memC (by omega))) V)
      have CRK := Lib.hid (fun V => refCheck9_any (L.getD 0 M.cl0) (HOK.out _ (M.getD_memC (by omega))) V)
      obtain ⟨g2, off, rfl, x0, x1, x2⟩ := HLw.out.off 0 (by omega)
      rw [Nat.zero_mul, Nat.add_zero] at x0 x1 x2
      generalize L.getD 0 M.cl0 = c at *
      unfold clA at CK CRK
      generalize (if M.mayC c = true then (0 : Int) else 2) = zz at *
      replace x0 := fun d os => cell_regrown x0 d os
      replace x1 := fun d os => cell_regrown x1 d os
      replace x2 := fun d os => cell_regrown x2 d os
      refine wp_region_quiet_below (by kernel_rfl) (by kernel_rfl) ?_
      repeat (any_goals (first | go_big_quiet_step ((first | (go_at_call 17; exact Calls.regrown_of (CK.out _)) | (go_at_call 18; exact Calls.regrown_of (CRK.out _)) | (go_at_call 19; exact Calls.regrown_of (does9 _)))) | quiet_step ((first | (go_at_call 17; exact Calls.regrown_of (CK.out _)) | (go_at_call 18; exact Calls.regrown_of (CRK.out _)) | (go_at_call 19; exact Calls.regrown_of (does9 _))))))
      refine wpQuiet_nil ?_
      intro _ hw1
      obtain ⟨⟨dd, oo⟩, hw1⟩ := hw1
      subst hw1
      replace HB := carry (below_regrown w6 dd oo) HB
      go_wp2_with fail
      go_ret
      exact ⟨rfl, HB.out⟩

end Go.Proofs.Ytppkecilbkgbdaa
