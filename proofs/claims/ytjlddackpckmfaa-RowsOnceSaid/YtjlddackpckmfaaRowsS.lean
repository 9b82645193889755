/- Layer 21: RowsTake, walked. -/
import Derived.Test.YtjlddackpckmfaaRowsR
namespace Go.Proofs.Ytjlddackpckmfaa
set_option linter.unusedVariables false
open Go Go.RowKit Go.Maps
attribute [local go_sem ↓] run_index_S
attribute [local go_sem] S_append S_extract

instance car_clOff {w w' : World} {c : M.Cl} {g o : Nat} : Car w w' (ClOff c w g o) (ClOff c w' g o) := ⟨fun hb h => h.below hb⟩
theorem getL_has {cs : List M.Cl} {c : M.Cl} (hc : c ∈ cs) : ∃ s v, M.getL cs c.key = some ⟨c.key, s, v⟩ := by
  cases h : M.getL cs c.key with
  | none =>
    rw [M.getL, List.find?_eq_none] at h
    exact absurd (h c (by simpa using hc)) (by simp)
  | some d =>
    have := (M.getL_some h).2
    exact ⟨d.seq, d.val, by rw [← this]⟩
theorem flat_len (P : List M.Sp) : (P.flatMap M.cls2).length = 2 * P.length := by
  induction P with
  | nil => rfl
  | cons x P ih => simp only [List.flatMap_cons, List.length_append, ih, M.cls2, List.length_cons, List.length_nil]; omega
theorem last_step (cs : List M.Cl) {k : Nat} (h : k < cs.length) : (cs.take (k + 1)).filterMap (M.lastF cs) = (cs.take k).filterMap (M.lastF cs) ++ (M.lastF cs (cs.getD k M.cl0)).toList := by
  rw [take_snocC h, List.filterMap_append]
  congr 1
theorem flat_step {P : List M.Sp} {k : Nat} (h : k < P.length) : (P.take (k + 1)).flatMap M.cls2 = (P.take k).flatMap M.cls2 ++ M.cls2 (P.getD k M.sp0) := by
  rw [take_snocK h, List.flatMap_append, List.flatMap_singleton]
theorem sameSpans_yes (L : List M.Sp) (a b : Option Addr) (c1 c2 : Nat) (hl : L.length ≤ 1000) {w : World} (ha : SpsAt w a L) (hb : SpsAt w b L) :
    Calls Try.prog 24 #[.slice a L.length c1, .slice b L.length c2] w fun e w' => e = .returned (.bool true) ∧ Below w.heap.size w w' :=
  (sameSpans21_any (L := L) (K := L) c1 c2 ha hb (by omega) (by omega)).mono fun _ _ h => h.is rfl
theorem sameCells_yes2 (L : List M.Cl) (n : Nat) (hn : L.length = n) (a b : Option Addr) (c1 c2 : Nat) (hl : n ≤ 1000) {w : World} (ha : ClsAt w a L) (hb : ClsAt w b L) :
    Calls Try.prog 16 #[.slice a n c1, .slice b n c2] w fun e w' => e = .returned (.bool true) ∧ Below w.heap.size w w' := by
  subst hn; exact sameCells_yes L a b c1 c2 hl ha hb
theorem beyL (L : List M.Sp) (ao : Option Addr) (cap n : Nat) (hn : n ≤ 1000) (hl : L.length ≤ 9223372036854775807) (W' : World) (hs : SpsAt W' ao L) : Calls Try.prog 8 #[.slice ao L.length cap, .int .i64 n] W' fun e w' => (e = .returned (.bool true) ∨ (e = .returned (.bool false) ∧ SmallL L n)) ∧ W' = w' :=
  (beyond21_any L cap n hn hs hl).mono fun e w' h => h
theorem shelv_cells {L : List M.Sp} (hf : ∀ x ∈ L, x.fits) : ∀ c ∈ M.shelv L, c.key.length ≤ 140737488351232 ∧ c.val.length ≤ 140737488351232 := by
  intro c hc
  obtain ⟨x, hx, hm, h⟩ := M.shelv_mem hc
  exact late_cls hm c (by simpa using h)

set_option maxHeartbeats 16000000 in
set_option maxRecDepth 100000 in
theorem rowsTake_calls (W : World) (v : Value) (hv : USs W v) (u : Value) (hu : USs W u) (n : Int) (wn : (Lit.int .i64 n).wf = true) :
    Calls Try.prog 4 #[v, u, .int .i64 n] W fun e w' => e = .returned (.bool true) ∧ Below W.heap.size W w' := by
  obtain ⟨L, lo, lcap, rfl, hl64, hli, hlc, hL⟩ := hv
  obtain ⟨K, ko, kcap, rfl, hk64, hki, hkc, hK⟩ := hu
  obtain ⟨hn1, hn2⟩ := i64_wfP wn
  obtain ⟨i0, z0, hi, hz0, hz1, hz2, hz3⟩ := infoSp_parts
  obtain ⟨j0, y0, hj, hy0, hy1, hy2, hy3⟩ := infoCl_parts
  have CL := Lib.hid lives21
  have CB : Hid (∀ W', SpsAt W' lo L → Calls Try.prog 8 #[.slice lo L.length lcap, .int .i64 30] W' fun e w' => (e = .returned (.bool true) ∨ (e = .returned (.bool false) ∧ SmallL L 30)) ∧ W' = w') := Lib.hid (beyL L lo lcap 30 (by omega) hl64)
  have CC : Hid (∀ W', SpsAt W' ko K → Calls Try.prog 8 #[.slice ko K.length kcap, .int .i64 20] W' fun e w' => (e = .returned (.bool true) ∨ (e = .returned (.bool false) ∧ SmallL K 20)) ∧ W' = w') := Lib.hid (beyL K ko kcap 20 (by omega) hk64)
  have HL := Lib.hid hL
  have HK := Lib.hid hK
  have HLI := Lib.hid hli
  have HKI := Lib.hid hki
  have HB := Lib.hid (Below.refl W.heap.size W)
  clear hL hK hli hki wn hl64 hk64 hlc hkc
  go_enter Try.func4, Try.ntmps4
  go_wp2_with fail
  with_reducible refine (CB.out _ HL.out).mono ?_
  rintro e w1 ⟨hr, rfl⟩
  rcases hr with rfl | ⟨rfl, hsm⟩
  · go_wp2_with fail
    with_reducible refine (CL.out _).mono ?_
    rintro e w2 ⟨rfl, hbq⟩
    replace HB := carry hbq HB
    clear hbq
    go_wp2_with fail
    go_ret
    exact ⟨rfl, HB.out⟩
  go_wp2_with fail
  with_reducible refine (CC.out _ HK.out).mono ?_
  rintro e w1 ⟨hr, rfl⟩
  rcases hr with rfl | ⟨rfl, hsk⟩
  · go_wp2_with fail
    with_reducible refine (CL.out _).mono ?_
    rintro e w2 ⟨rfl, hbq⟩
    replace HB := carry hbq HB
    clear hbq
    go_wp2_with fail
    go_ret
    exact ⟨rfl, HB.out⟩
  have hL30 : L.length ≤ 30 := hsm.1
  have hK20 : K.length ≤ 20 := hsk.1
  have HFL := Lib.hid (show ∀ x ∈ L, x.fits from fun x hx => (hsm.2 x hx).fits (HLI.out x hx))
  have HFK := Lib.hid (show ∀ x ∈ K, x.fits from fun x hx => (hsk.2 x hx).fits (HKI.out x hx))
  clear hsm hsk HLI HKI CB CC
  have CSH := Lib.hid (fun W hs => shelved_any L lo lcap W (by omega) HFL.out hs)
  go_wp2_with fail
  with_reducible refine (CSH.out _ HL.out).mono ?_
  rintro e w1 ⟨rfl, hsh, hb1⟩
  replace HK := carry hb1 HK
  replace HB := carry hb1 HB
  have HBL := Lib.hid (show W.heap.size < w1.heap.size from by obtain ⟨_, _, h, -⟩ := hsh.sh; exact h.lt)
  have hcl : (M.shelv L).length ≤ 60 := by have := M.shelv_len L; omega
  have HCV := Lib.hid (shelv_cells HFL.out)
  have HTK := Lib.hid (M.tk_tkR HFL.out n K)
  obtain ⟨co, ccap, hsr, hsc⟩ := hsh.sh
  have HSR := Lib.hid hsr
  have HSC := Lib.hid hsc
  clear hb1 hsh hsr hsc HL CSH
  generalize M.shelv L = cs at *
  have hmf : ∀ (fn : Fn) (first cap : Array Value) (w : World), (Instr.makeFunc fn first cap).run Try.prog w = .ok (.func fn first cap) w := fun _ _ _ _ => rfl
  go_wp2_with fail
  go_loopw [8, 9] (fun v8 i wr => ∃ (k : Nat) (T : List M.Sp) (a1 : Option Addr) (c1 : Nat), k ≤ cs.length ∧ i = .int .i64 k ∧ v8 = .slice a1 T.length c1 ∧ Hid (T = (cs.take k).filterMap (M.lastF cs)) ∧
      Hid (wr.ownsRow w1.heap.size 23 8 (.slice a1 T.length c1) T.length (sps T) ∧ Below w1.heap.size w1 wr)) (fun _ i _ => cs.length - (intOf i).toNat)
  case atStart =>
    exact ⟨0, [], none, 0, Nat.zero_le _, rfl, rfl, Lib.hid rfl, Lib.hid ⟨World.ownsRow_nil _ _ _ _, Below.refl _ _⟩⟩
  case round =>
    rename_i wr
    obtain ⟨k, T, a1, c1, hk, rfl, rfl, HT, HH⟩ := hrel
    by_cases hlt : k < cs.length
    · have hd : decide ((k : Int) < (cs.length : Int)) = true := by simp; omega
      obtain ⟨g, off, rfl, hc⟩ := HSC.out.off k hlt
      have HC := Lib.hid hc
      clear hc
      obtain ⟨x0, x1, x2⟩ := HC.out.below HH.out.2
      have s0 := (HSR.out.below HH.out.2).cell 0
      have HST := Lib.hid (last_step cs hlt)
      rw [← HT.out] at HST
      have hTl : T.length ≤ k := by rw [HT.out]; exact Nat.le_trans (List.length_filterMap_le _ _) (List.length_take_le _ _)
      have hcv := cl_mem HCV.out hlt
      obtain ⟨ds, dv, hg⟩ := getL_has (cl_mem (P := fun c => c ∈ cs) (fun c h => h) hlt)
      generalize cs.getD k M.cl0 = c at *
      have CS := Lib.hid (fun W => span_any c hcv.2 W)
      have CG : Hid (∀ W', ShelfAt W' W.heap.size cs → Calls Try.prog 20 #[.pointer (some ⟨W.heap.size, 0, none⟩), .string (S c.key)] W' fun e w' => e = .returned (.tuple #[.agg #[.string (S c.key), .int .i64 ds, .string (S dv)], .bool true]) ∧ Below W'.heap.size W' w') := Lib.hid (fun W' hs => by
        have := shelfGet_any W.heap.size cs (by omega) c.key W' hs
        unfold GetR at this
        rw [hg] at this; exact this)
      unfold SpanR at CS
      have HG := Lib.hid hg
      clear hcv hg
      cases hsp : M.spanC c with
      | none =>
        rw [hsp] at CS
        simp only [decX, Option.isSome] at CS
        have HF := Lib.hid (show M.lastF cs c = none from by simp [M.lastF, hsp])
        clear hsp
        go_wp2_with fail
        with_reducible refine (CS.out _).mono ?_
        rintro e w2 ⟨rfl, hb2⟩
        replace HH := carry hb2 HH
        clear hb2 x0 x1 x2 s0
        go_wp2_with (refine wpList_store_hid rfl 23 _ _ rfl w2.heap.size _ rfl rfl 23 (spC M.sp0) (spIn_new w2) ?_ rfl (spC_one M.sp0) ?_; kernel_rfl; intro w3 hrQ hbelQ hothQ hszQ; have hbQ := hbelQ w2.heap.size w2 (Nat.le_refl _) ((Below.refl _ _).alloc (Nat.le_refl _) _); replace HH := carry hbQ HH; have HX := Lib.hid (show RowIn (spA M.sp0) 23 w3 w2.heap.size from hrQ); obtain ⟨x0, x1, x2⟩ := HC.out.below HH.out.2; have s0 := (HSR.out.below HH.out.2).cell 0; clear hrQ hbelQ hothQ hszQ hbQ)
        with_reducible refine (CG.out _ ⟨_, _, HSR.out.below HH.out.2, HSC.out.below HH.out.2⟩).mono ?_
        rintro e w4 ⟨rfl, hb4⟩
        replace HH := carry hb4 HH
        replace HX := carry hb4 HX
        clear hb4 x0 x1 x2 s0
        go_wp2_with (refine wpList_store_hid rfl 25 _ _ rfl w4.heap.size _ rfl rfl 25 clZ (rowIn_new clZ 25 w4) ?_ rfl (by simp [Value.oneCell']) ?_; kernel_rfl; intro w5 hrQ hbelQ hothQ hszQ; have hbQ := hbelQ w4.heap.size w4 (Nat.le_refl _) ((Below.refl _ _).alloc (Nat.le_refl _) _); replace HH := carry hbQ HH; replace HX := carry hbQ HX; have HD := Lib.hid (show RowIn #[.string (S c.key), .int .i64 ds, .string (S dv)] 25 w5 w4.heap.size from hrQ); obtain ⟨x0, x1, x2⟩ := HC.out.below HH.out.2; have s0 := (HSR.out.below HH.out.2).cell 0; clear hrQ hbelQ hothQ hszQ hbQ)
        refine wp_region_quiet_below (by kernel_rfl) (by kernel_rfl) ?_
        repeat (any_goals (first | go_big_quiet_step ((fail)) | quiet_step ((fail))))
        refine wpQuiet_nil ?_
        intro _ hw1
        obtain ⟨⟨d1, d1o⟩, hw1⟩ := hw1
        subst hw1
        replace HH := carry (below_regrown w5 d1 d1o) HH
        go_wp2_with fail
        go_roundw
        case rel => exact ⟨k + 1, T, a1, c1, by omega, by go_num, rfl, Lib.hid (by rw [HST.out, HF.out]; simp), HH⟩
        case measure => simp [intOf]; omega
      | some x =>
        rw [hsp] at CS
        simp only [decX, Option.isSome] at CS
        have HSP := Lib.hid hsp
        clear hsp
        by_cases heq : (⟨c.key, ds, dv⟩ : M.Cl) = c
        · have HF := Lib.hid (show M.lastF cs c = some x from by rw [M.lastF, HSP.out, HG.out]; exact if_pos (congrArg some heq))
          obtain ⟨-, e1, e2⟩ : c.key = c.key ∧ ds = c.seq ∧ dv = c.val := by rw [← heq]; exact ⟨rfl, rfl, rfl⟩
          subst e1 e2
          clear heq
          go_wp2_with fail
          with_reducible refine (CS.out _).mono ?_
          rintro e w2 ⟨rfl, hb2⟩
          replace HH := carry hb2 HH
          clear hb2 x0 x1 x2 s0
          go_wp2_with (refine wpList_store_hid rfl 23 _ _ rfl w2.heap.size _ rfl rfl 23 (spC M.sp0) (spIn_new w2) ?_ rfl (spC_one x) ?_; kernel_rfl; intro w3 hrQ hbelQ hothQ hszQ; have hbQ := hbelQ w2.heap.size w2 (Nat.le_refl _) ((Below.refl _ _).alloc (Nat.le_refl _) _); replace HH := carry hbQ HH; have HX := Lib.hid (show RowIn (spA x) 23 w3 w2.heap.size from hrQ); obtain ⟨x0, x1, x2⟩ := HC.out.below HH.out.2; have s0 := (HSR.out.below HH.out.2).cell 0; clear hrQ hbelQ hothQ hszQ hbQ)
          with_reducible refine (CG.out _ ⟨_, _, HSR.out.below HH.out.2, HSC.out.below HH.out.2⟩).mono ?_
          rintro e w4 ⟨rfl, hb4⟩
          replace HH := carry hb4 HH
          replace HX := carry hb4 HX
          clear hb4 x0 x1 x2 s0
          go_wp2_with (refine wpList_store_hid rfl 25 _ _ rfl w4.heap.size _ rfl rfl 25 clZ (rowIn_new clZ 25 w4) ?_ rfl (by simp [Value.oneCell']) ?_; kernel_rfl; intro w5 hrQ hbelQ hothQ hszQ; have hbQ := hbelQ w4.heap.size w4 (Nat.le_refl _) ((Below.refl _ _).alloc (Nat.le_refl _) _); replace HH := carry hbQ HH; replace HX := carry hbQ HX; have HD := Lib.hid (show RowIn #[.string (S c.key), .int .i64 c.seq, .string (S c.val)] 25 w5 w4.heap.size from hrQ); obtain ⟨x0, x1, x2⟩ := HC.out.below HH.out.2; have s0 := (HSR.out.below HH.out.2).cell 0; clear hrQ hbelQ hothQ hszQ hbQ)
          have hd0 := HD.out.gcell 0 rfl
          have hd1 := HD.out.gcell 1 rfl
          have hd2 := HD.out.gcell 2 rfl
          have g0 := fun d os => cell_regrown x0 d os
          have g1 := fun d os => cell_regrown x1 d os
          have g2 := fun d os => cell_regrown x2 d os
          have gs := (HSR.out.below HH.out.2).gcell 0 rfl
          clear x0 x1 x2 s0
          refine wp_region_quiet_below (by kernel_rfl) (by kernel_rfl) ?_
          repeat (any_goals (first | go_big_quiet_step ((fail)) | quiet_step ((fail))))
          refine wpQuiet_nil ?_
          intro _ hw1
          obtain ⟨⟨d1, d1o⟩, hw1⟩ := hw1
          subst hw1
          clear hd0 hd1 hd2 g0 g1 g2 gs
          replace HH := carry (below_regrown w5 d1 d1o) HH
          replace HX := carry (below_regrown w5 d1 d1o) HX
          generalize Sort.grow (redrawn w5 d1) d1o = w6 at *
          go_wp2_with (first
            | (refine wpList_load_row rfl 23 _ rfl w2.heap.size rfl 23 _ (0, 0) _ HX.out Try.underlying23 rfl ?_ ?_; kernel_rfl)
            | (at_builtin; refine wpList_append_own _ rfl _ _ 27 rfl w1.heap.size 23 i0 z0 8 88 Try.underlying27 hi hz0 hz1 hz2 hz3 (by decide) (.slice a1 T.length c1) T.length (sps T) rfl (HH.out.1.alloc _) ⟨w6.heap.size, 0, none⟩ 1 1 (spL x) rfl rfl (sp_new _ _ _) (spL_one x) (by unfold maxLen; omega) (by omega) (by have := HH.out.2.size; rw [szA]; omega) ?_; intro v8 w8 ho8 hg8 hn8; obtain ⟨a8, c8, rfl⟩ := ownP_shape ho8; have HO8 := Lib.hid (show w8.ownsRow w1.heap.size 23 8 (.slice a8 (T.length + 1) c8) (T.length + 1) (sps (T ++ [x])) from by rw [sps_append, sps_one]; exact ho8); have HB8 := Lib.hid ((HH.out.2.alloc HH.out.2.size _).grown hg8 (by have := HH.out.2.size; rw [szA]; omega) (fun q hq => (HH.out.1.lt q hq).1)); clear ho8 hg8 hn8))
          go_roundw
          case rel =>
            have hl : (T ++ [x]).length = T.length + 1 := by simp
            exact ⟨k + 1, T ++ [x], a8, c8, by omega, by go_num, by rw [hl], Lib.hid (by rw [HST.out, HF.out]; rfl), Lib.hid ⟨by rw [hl]; exact HO8.out, HB8.out⟩⟩
          case measure => simp [intOf]; omega
        · have HF := Lib.hid (show M.lastF cs c = none from by rw [M.lastF, HSP.out, HG.out]; exact if_neg (fun h => heq (Option.some.inj h)))
          have hdf := M.Cl.diff heq
          clear heq
          rcases hdf with hdf | ⟨-, hdf⟩ | ⟨-, hdq, hdf⟩
          · exact absurd rfl hdf
          · have e1 : (ds == c.seq) = false := by simpa using hdf
            clear hdf
            go_wp2_with fail
            with_reducible refine (CS.out _).mono ?_
            rintro e w2 ⟨rfl, hb2⟩
            replace HH := carry hb2 HH
            clear hb2 x0 x1 x2 s0
            go_wp2_with (refine wpList_store_hid rfl 23 _ _ rfl w2.heap.size _ rfl rfl 23 (spC M.sp0) (spIn_new w2) ?_ rfl (spC_one x) ?_; kernel_rfl; intro w3 hrQ hbelQ hothQ hszQ; have hbQ := hbelQ w2.heap.size w2 (Nat.le_refl _) ((Below.refl _ _).alloc (Nat.le_refl _) _); replace HH := carry hbQ HH; have HX := Lib.hid (show RowIn (spA x) 23 w3 w2.heap.size from hrQ); obtain ⟨x0, x1, x2⟩ := HC.out.below HH.out.2; have s0 := (HSR.out.below HH.out.2).cell 0; clear hrQ hbelQ hothQ hszQ hbQ)
            with_reducible refine (CG.out _ ⟨_, _, HSR.out.below HH.out.2, HSC.out.below HH.out.2⟩).mono ?_
            rintro e w4 ⟨rfl, hb4⟩
            replace HH := carry hb4 HH
            replace HX := carry hb4 HX
            clear hb4 x0 x1 x2 s0
            go_wp2_with (refine wpList_store_hid rfl 25 _ _ rfl w4.heap.size _ rfl rfl 25 clZ (rowIn_new clZ 25 w4) ?_ rfl (by simp [Value.oneCell']) ?_; kernel_rfl; intro w5 hrQ hbelQ hothQ hszQ; have hbQ := hbelQ w4.heap.size w4 (Nat.le_refl _) ((Below.refl _ _).alloc (Nat.le_refl _) _); replace HH := carry hbQ HH; replace HX := carry hbQ HX; have HD := Lib.hid (show RowIn #[.string (S c.key), .int .i64 ds, .string (S dv)] 25 w5 w4.heap.size from hrQ); obtain ⟨x0, x1, x2⟩ := HC.out.below HH.out.2; have s0 := (HSR.out.below HH.out.2).cell 0; clear hrQ hbelQ hothQ hszQ hbQ)
            have hd0 := HD.out.gcell 0 rfl
            have hd1 := HD.out.gcell 1 rfl
            have hd2 := HD.out.gcell 2 rfl
            have g0 := fun d os => cell_regrown x0 d os
            have g1 := fun d os => cell_regrown x1 d os
            have g2 := fun d os => cell_regrown x2 d os
            have gs := (HSR.out.below HH.out.2).gcell 0 rfl
            clear x0 x1 x2 s0
            refine wp_region_quiet_below (by kernel_rfl) (by kernel_rfl) ?_
            repeat (any_goals (first | go_big_quiet_step ((fail)) | quiet_step ((fail))))
            refine wpQuiet_nil ?_
            intro _ hw1
            obtain ⟨⟨d1, d1o⟩, hw1⟩ := hw1
            subst hw1
            clear hd0 hd1 hd2 g0 g1 g2 gs
            replace HH := carry (below_regrown w5 d1 d1o) HH
            go_wp2_with fail
            go_roundw
            case rel => exact ⟨k + 1, T, a1, c1, by omega, by go_num, rfl, Lib.hid (by rw [HST.out, HF.out]; simp), HH⟩
            case measure => simp [intOf]; omega
          · have hdq2 : ds = c.seq := hdq
            subst hdq2
            have e1 : (dv == c.val) = false := by simpa using hdf
            clear hdq
            clear hdf
            go_wp2_with fail
            with_reducible refine (CS.out _).mono ?_
            rintro e w2 ⟨rfl, hb2⟩
            replace HH := carry hb2 HH
            clear hb2 x0 x1 x2 s0
            go_wp2_with (refine wpList_store_hid rfl 23 _ _ rfl w2.heap.size _ rfl rfl 23 (spC M.sp0) (spIn_new w2) ?_ rfl (spC_one x) ?_; kernel_rfl; intro w3 hrQ hbelQ hothQ hszQ; have hbQ := hbelQ w2.heap.size w2 (Nat.le_refl _) ((Below.refl _ _).alloc (Nat.le_refl _) _); replace HH := carry hbQ HH; have HX := Lib.hid (show RowIn (spA x) 23 w3 w2.heap.size from hrQ); obtain ⟨x0, x1, x2⟩ := HC.out.below HH.out.2; have s0 := (HSR.out.below HH.out.2).cell 0; clear hrQ hbelQ hothQ hszQ hbQ)
            with_reducible refine (CG.out _ ⟨_, _, HSR.out.below HH.out.2, HSC.out.below HH.out.2⟩).mono ?_
            rintro e w4 ⟨rfl, hb4⟩
            replace HH := carry hb4 HH
            replace HX := carry hb4 HX
            clear hb4 x0 x1 x2 s0
            go_wp2_with (refine wpList_store_hid rfl 25 _ _ rfl w4.heap.size _ rfl rfl 25 clZ (rowIn_new clZ 25 w4) ?_ rfl (by simp [Value.oneCell']) ?_; kernel_rfl; intro w5 hrQ hbelQ hothQ hszQ; have hbQ := hbelQ w4.heap.size w4 (Nat.le_refl _) ((Below.refl _ _).alloc (Nat.le_refl _) _); replace HH := carry hbQ HH; replace HX := carry hbQ HX; have HD := Lib.hid (show RowIn #[.string (S c.key), .int .i64 c.seq, .string (S dv)] 25 w5 w4.heap.size from hrQ); obtain ⟨x0, x1, x2⟩ := HC.out.below HH.out.2; have s0 := (HSR.out.below HH.out.2).cell 0; clear hrQ hbelQ hothQ hszQ hbQ)
            have hd0 := HD.out.gcell 0 rfl
            have hd1 := HD.out.gcell 1 rfl
            have hd2 := HD.out.gcell 2 rfl
            have g0 := fun d os => cell_regrown x0 d os
            have g1 := fun d os => cell_regrown x1 d os
            have g2 := fun d os => cell_regrown x2 d os
            have gs := (HSR.out.below HH.out.2).gcell 0 rfl
            clear x0 x1 x2 s0
            refine wp_region_quiet_below (by kernel_rfl) (by kernel_rfl) ?_
            repeat (any_goals (first | go_big_quiet_step ((fail)) | quiet_step ((fail))))
            refine wpQuiet_nil ?_
            intro _ hw1
            obtain ⟨⟨d1, d1o⟩, hw1⟩ := hw1
            subst hw1
            clear hd0 hd1 hd2 g0 g1 g2 gs
            replace HH := carry (below_regrown w5 d1 d1o) HH
            go_wp2_with fail
            go_roundw
            case rel => exact ⟨k + 1, T, a1, c1, by omega, by go_num, rfl, Lib.hid (by rw [HST.out, HF.out]; simp), HH⟩
            case measure => simp [intOf]; omega
    · obtain rfl : k = cs.length := by omega
      have hd : decide ((cs.length : Int) < (cs.length : Int)) = false := by simp
      have HE := Lib.hid (show T = M.lastL cs from by rw [HT.out, List.take_length]; rfl)
      have HTL := Lib.hid (show T.length ≤ 60 from by rw [HE.out]; exact Nat.le_trans (List.length_filterMap_le _ _) hcl)
      have HTF := Lib.hid (show ∀ x ∈ T, x.fits from fun x hx => by
        rw [HE.out] at hx
        obtain ⟨c, hc, h1, -⟩ := M.lastL_mem.1 hx
        exact spanC_fits (HCV.out c hc).2 h1)
      have CT : Hid (∀ W', ShelfAt W' W.heap.size cs → SpsAt W' ko K → Calls Try.prog 21 #[.func (Fn.func 20) #[.pointer (some ⟨W.heap.size, 0, none⟩)] #[], .slice ko K.length kcap, .int .i64 n] W' fun e w' => TakeR (M.tk (M.getL cs) n K) W' e w') := Lib.hid (fun W' hs hl => take_any K ko kcap cs W.heap.size n hn1 hn2 W' (by omega) HFK.out hl (by omega) HCV.out hs)
      have HTM := Lib.hid (show ∀ x ∈ M.tk (M.getL cs) n K, x.fits ∧ M.mayB x = true ∧ M.pastB x.start n = false from fun x hx => ⟨HFK.out x (M.tk_mem hx).1, (M.tk_mem hx).2⟩)
      have hT2l : (M.tk (M.getL cs) n K).length ≤ 20 := by have := M.tk_len (M.getL cs) n K; omega
      have CR : Hid (∀ W', SpsAt W' a1 T → SpsAt W' ko K → Calls Try.prog 22 #[.slice a1 T.length c1, .slice ko K.length kcap, .int .i64 n] W' fun e w' => SpsR (M.tk (M.getL cs) n K) W' e w') := Lib.hid (fun W' h1 h2 => by
        have := refTake_rows T K ko a1 kcap c1 n hn1 hn2 W' (by omega) (by have := HTL.out; omega) HFK.out HTF.out h2 h1
        have e : M.tkR T n K = M.tk (M.getL cs) n K := by rw [HE.out, HTK.out]
        rw [e] at this; exact this)
      unfold TakeR at CT
      unfold SpsR at CR
      clear HTK HT HE HTL HTF
      generalize M.tk (M.getL cs) n K = T2 at *
      have s0 := (HSR.out.below HH.out.2).cell 0
      go_wp2_with fail
      with_reducible refine (CT.out _ ⟨co, ccap, HSR.out.below HH.out.2, HSC.out.below HH.out.2⟩ (HK.out.below HH.out.2)).mono ?_
      rintro e w2 ⟨aa, ca, ba, cb, rfl, hoa, hob, hb2⟩
      have HOA := Lib.hid (spsAt_own hoa rfl)
      have HOB := Lib.hid (clsAt_own hob (flat_len T2).symm)
      replace HH := carry hb2 HH
      clear hb2 hoa hob CT s0
      go_wp2_with fail
      with_reducible refine (CR.out _ (spsAt_own HH.out.1 rfl) (HK.out.below HH.out.2)).mono ?_
      rintro e w3 ⟨aw, cw, rfl, how, hb3⟩
      replace HOA := carry hb3 HOA
      replace HOB := carry hb3 HOB
      have HB3 := Lib.hid (below_step HB.out (HH.out.2.trans (hb3.mono HH.out.2.size)))
      have HOW := Lib.hid (spsAt_own how rfl)
      clear hb3 how CR HH HSR HSC HK
      have CV : Hid (∀ W', ClsAt W' ba (T2.flatMap M.cls2) → Calls Try.prog 23 #[.slice ba (2 * T2.length) cb, .int .i64 n] W' fun e w' => SpsR T2 W' e w') := Lib.hid (fun W' h => by
        have := live_any (T2.flatMap M.cls2) ba cb n hn1 hn2 W' (by rw [flat_len]; omega) (fun c hc => by
          obtain ⟨x, hx, h⟩ := List.mem_flatMap.1 hc
          exact (late_cls (HTM.out x hx).2.1 c (by simpa [M.cls2] using h)).2) h
        rwa [M.live_cls HTM.out, flat_len] at this)
      unfold SpsR at CV
      have HOL := Lib.hid (show (T2.flatMap M.cls2).length = 2 * T2.length from flat_len T2)
      go_wp2_with fail
      go_loopw [17, 18] (fun v17 i wq => ∃ (k : Nat) (a5 : Option Addr) (c5 : Nat), k ≤ T2.length ∧ i = .int .i64 k ∧ v17 = .slice a5 (2 * k) c5 ∧ Hid (wq.ownsRow w3.heap.size 25 3 (.slice a5 (2 * k) c5) (2 * k) (cls ((T2.take k).flatMap M.cls2)) ∧ Below w3.heap.size w3 wq)) (fun _ i _ => T2.length - (intOf i).toNat)
      case atStart => exact ⟨0, none, 0, Nat.zero_le _, rfl, rfl, Lib.hid ⟨World.ownsRow_nil _ _ _ _, Below.refl _ _⟩⟩
      case round =>
        rename_i wq
        obtain ⟨k, a5, c5, hk, rfl, rfl, HH⟩ := hrel
        by_cases hlt : k < T2.length
        · have hd : decide ((k : Int) < (T2.length : Int)) = true := by simp; omega
          have hki : (k : Int) < (T2.length : Int) := by omega
          obtain ⟨g, off, rfl, hc⟩ := (HOW.out.below HH.out.2).off k hlt
          obtain ⟨x0, x1, x2, x3, x4, x5, x6, x7⟩ := hc
          have hm := sp_mem HTM.out hlt
          have HST := Lib.hid (flat_step hlt)
          generalize T2.getD k M.sp0 = x at *
          have HM := Lib.hid hm.2.1
          have hf := hm.1
          clear hm
          go_wp2_with fail
          with_reducible refine (refCells_any x hf _).mono ?_
          rintro e w5 (⟨-, g2, rfl, hg2, hr2, hb5⟩ | ⟨hno, -, -⟩)
          case inr => rw [HM.out] at hno; cases hno
          have HC := Lib.hid hr2
          replace HH := carry hb5 HH
          clear hb5 hr2 hg2 x0 x1 x2 x3 x4 x5 x6 x7 hf
          go_wp2_with (at_builtin; refine wpList_append_own _ rfl _ _ 29 rfl w3.heap.size 25 j0 y0 3 40 Try.underlying29 hj hy0 hy1 hy2 hy3 (by decide) (.slice a5 (2 * k) c5) (2 * k) (cls ((T2.take k).flatMap M.cls2)) rfl HH.out.1 ⟨g2, 0, none⟩ 2 2 (cls (M.cls2 x)) rfl rfl (add_row HC.out rfl) (cls_oneC _) (by unfold maxLen; omega) (by omega) HH.out.2.size ?_; intro v9 w9 ho9 hg9 hn9; obtain ⟨a9, c9, rfl⟩ := ownP_shape ho9; have HP9 := Lib.hid (show w9.ownsRow w3.heap.size 25 3 (.slice a9 (2 * k + 2) c9) (2 * k + 2) (cls ((T2.take k).flatMap M.cls2 ++ M.cls2 x)) from by rw [cls_append]; exact ho9); have HB9 := Lib.hid (HH.out.2.grown hg9 HH.out.2.size (fun q hq => (HH.out.1.lt q hq).1)); clear ho9 hg9 hn9)
          go_roundw
          case rel => exact ⟨k + 1, a9, c9, by omega, by go_num, by rw [show 2 * (k + 1) = 2 * k + 2 from by omega], Lib.hid ⟨by rw [HST.out, show 2 * (k + 1) = 2 * k + 2 from by omega]; exact HP9.out, HB9.out⟩⟩
          case measure => simp [intOf]; omega
        · obtain rfl : k = T2.length := by omega
          have hd : decide ((T2.length : Int) < (T2.length : Int)) = false := by simp
          have hown := HH.out.1
          rw [List.take_length] at hown
          have HAL := Lib.hid (clsAt_own hown HOL.out.symm)
          have HB4 := Lib.hid (below_step HB3.out HH.out.2)
          replace HOA := carry HH.out.2 HOA
          replace HOB := carry HH.out.2 HOB
          replace HOW := carry HH.out.2 HOW
          clear HH hown
          go_wp2_with fail
          with_reducible refine (CV.out _ HOB.out).mono ?_
          rintro e w6 ⟨av, cv, rfl, hov, hb6⟩
          have HV := Lib.hid (spsAt_own hov rfl)
          replace HAL := carry hb6 HAL
          replace HB4 := carry hb6 HB4
          replace HOA := carry hb6 HOA
          replace HOB := carry hb6 HOB
          replace HOW := carry hb6 HOW
          clear hb6 hov CV
          go_wp2_with fail
          with_reducible refine (sameSpans_yes T2 aa aw ca cw (by omega) HOA.out HOW.out).mono ?_
          rintro e w7 ⟨rfl, hb7⟩
          replace HAL := carry hb7 HAL
          replace HB4 := carry hb7 HB4
          replace HV := carry hb7 HV
          replace HOB := carry hb7 HOB
          replace HOW := carry hb7 HOW
          clear hb7
          go_wp2_with fail
          with_reducible refine (sameCells_yes2 (T2.flatMap M.cls2) (2 * T2.length) HOL.out ba a5 cb c5 (by omega) HOB.out HAL.out).mono ?_
          rintro e w8 ⟨rfl, hb8⟩
          replace HB4 := carry hb8 HB4
          replace HV := carry hb8 HV
          replace HOW := carry hb8 HOW
          clear hb8
          go_wp2_with fail
          with_reducible refine (sameSpans_yes T2 av aw cv cw (by omega) HV.out HOW.out).mono ?_
          rintro e w9 ⟨rfl, hb9⟩
          replace HB4 := carry hb9 HB4
          clear hb9
          go_wp2_with fail
          with_reducible refine (CL.out _).mono ?_
          rintro e w10 ⟨rfl, hb10⟩
          replace HB4 := carry hb10 HB4
          clear hb10
          go_wp2_with fail
          go_ret
          exact ⟨rfl, HB4.out⟩

end Go.Proofs.Ytjlddackpckmfaa
