/- Layer 9: BlocksAsk, walked. -/
import Derived.Test.YtppkecilbkgbdaaBlocksN
import Derived.Test.YtppkecilbkgbdaaBlocksZ
import Derived.BigQuiet
namespace Go.Proofs.Ytppkecilbkgbdaa
set_option linter.unusedVariables false
open Go Go.RowKit
attribute [local go_sem ↓] run_index_S
attribute [local go_sem] S_append S_extract

set_option maxHeartbeats 8000000 in
set_option maxRecDepth 100000 in
theorem blocksAsk_calls (W : World) (v : Value) (hv : UCs W v) (key : List UInt8) (hkl : key.length ≤ 140737488351232) :
    Calls Try.prog 8 #[v, .string (S key)] W fun e w' => e = .returned (.bool true) ∧ Below W.heap.size W w' := by
  obtain ⟨L, ao, cap, rfl, hl, hi, hc, hL⟩ := hv
  have CG := Lib.hid (show Calls Try.prog 10 #[.slice ao L.length cap, .int .i64 200] W fun e w' => GreatR9 L 200 W e w' from great9_any L cap 200 (by omega) hL hl)
  unfold GreatR9 at CG
  by_cases h : key.length ≤ 1000
  · have d0 : decide ((1000 : Int) < (key.length : Int)) = false := by simp; omega
    have CD := Lib.hid (fun W => does9 W)
    have CE := Lib.hid (fun (h : SmallCs9 L 200) W h1 => encode9_any L (by have := h.1; omega) ao cap W h1 (h.oks hi))
    have CF := Lib.hid (fun (hs : M.srt none L = true) (h : SmallCs9 L 200) k W => by have := find9_any (M.encCs L) k (by have := M.encCs_len hs h.1; omega) W; unfold FindR9 at this; rw [show M.findC (M.encCs L) k = M.findL k L from by rw [M.findC, M.dec_enc_small hs h (by omega) hi]] at this; exact this)
    unfold EncR at CE
    have HL := Lib.hid hL
    have HB := Lib.hid (Below.refl W.heap.size W)
    clear hL hi
    go_enter Try.func8, Try.ntmps8
    go_wp2_with fail
    with_reducible refine CG.out.mono ?_
    rintro e w0 ⟨rfl | ⟨rfl, hsm⟩, rfl⟩
    · go_wp2_with fail
      go_ret
      exact ⟨rfl, HB.out⟩
    replace CE := Lib.hid (CE.out hsm)
    have CF2 := Lib.hid (fun hs => CF.out hs hsm)
    have hl200 := hsm.1
    clear hsm CF CG hl
    go_wp2_with fail
    cases hb : M.srt none L with
    | false =>
      rw [hb] at CE
      simp only [Bool.false_eq_true, if_false] at CE
      clear hb CF2
      with_reducible refine (CE.out _ HL.out).mono ?_
      rintro e w1 ⟨rfl, hbq⟩
      replace HB := carry hbq HB
      clear hbq
      go_wp2_with fail
      with_reducible refine (CD.out _).mono ?_
      rintro e w2 ⟨rfl, hbq⟩
      replace HB := carry hbq HB
      clear hbq
      go_wp2_with fail
      go_ret
      exact ⟨rfl, HB.out⟩
    | true =>
      have CF3 := Lib.hid (CF2.out hb)
      rw [hb] at CE
      simp only [if_true] at CE
      generalize M.encCs L = t at *
      have HS := Lib.hid hb
      clear hb CF2
      with_reducible refine (CE.out _ HL.out).mono ?_
      rintro e w1 ⟨rfl, hbq⟩
      replace HB := carry hbq HB
      replace HL := carry hbq HL
      clear hbq CE
      go_wp2_with fail
      go_loopw [7, 8] (fun b i wr => ∃ k : Nat, k ≤ L.length ∧ b = .bool ((L.take k).any (fun c => c.key == key)) ∧ i = .int .i64 k ∧ Hid (ClsAt wr ao L) ∧ Hid (Below W.heap.size W wr)) (fun b i _ => L.length - (intOf i).toNat)
      case atStart => exact ⟨0, Nat.zero_le _, rfl, rfl, HL, HB⟩
      case round =>
        obtain ⟨k, hk, rfl, rfl, HLr, HBr⟩ := hrel
        clear HL HB
        by_cases hlt : k < L.length
        · have hd : decide ((k : Int) < (L.length : Int)) = true := by simp; omega
          have hki : (k : Int) < (L.length : Int) := by omega
          obtain ⟨d, hf, hdk, hds⟩ := M.findL_at HS.out hlt
          have CFd := Lib.hid (CF3.out (L.getD k M.cl0).key)
          rw [hf] at CFd
          simp only [Option.getD_some, Option.isSome_some] at CFd
          have HN := Lib.hid (M.any_take key L hlt)
          have HLo := Lib.hid (fun (w' : World) (h : ClsAt w' ao L) => h.off k hlt)
          obtain ⟨g, off, rfl, hc⟩ := HLr.out.off k hlt
          have HLp := Lib.hid (fun (w' : World) (h : ClsAt w' (some ⟨g, off, none⟩) L) => by
            obtain ⟨g', o', e, hc'⟩ := h.off k hlt
            cases e
            exact hc')
          obtain ⟨x0, x1, x2⟩ := hc
          clear HLo hf
          generalize (L.take k).any (fun c => c.key == key) = b at *
          generalize L.getD k M.cl0 = c at *
          cases b
          all_goals
            go_wp2_with fail
            clear x0 x1 x2
            with_reducible refine (CFd.out _).mono ?_
            rintro e w2 ⟨rfl, hbq⟩
            replace HBr := carry hbq HBr
            replace HLr := carry hbq HLr
            clear hbq
            rcases hds with rfl | hds
          all_goals
            go_wp2_with (refine wpList_store_hid rfl 32 _ _ rfl w2.heap.size _ rfl rfl 32 clZ9 (rowIn_new clZ9 32 w2) ?_ rfl (by simp [Value.oneCell']) ?_; kernel_rfl; intro w3 hrQ hbelQ hothQ hszQ; have hbQ := hbelQ w2.heap.size w2 (Nat.le_refl _) ((Below.refl _ _).alloc (Nat.le_refl _) _); replace HBr := carry hbQ HBr; replace HLr := carry hbQ HLr; have HD := Lib.hid (show RowIn (clA d) 32 w3 w2.heap.size from hrQ); clear hrQ hbelQ hothQ hszQ hbQ)
            obtain ⟨x0, x1, x2⟩ := HLp.out _ HLr.out
            have y0 : w3.cell? ⟨w2.heap.size, 0, none⟩ = some (.string (S d.key)) := HD.out.cell 0
            have y1 : w3.cell? ⟨w2.heap.size, 1, none⟩ = some (.int .i64 d.seq) := HD.out.cell 1
            have y2 : w3.cell? ⟨w2.heap.size, 2, none⟩ = some (.string (S d.val)) := HD.out.cell 2
            try rw [← hdk] at x0
            try have q1 : decide (d.seq < c.seq) = false := by simp; omega
            try have q2 : (d.seq == c.seq) = false := by simp; omega
            clear hdk
            try clear hds
            go_quiet (fail)
            go_wp2_with fail
            go_roundw
            case rel => exact ⟨k + 1, by omega, by simp [HN.out], by go_num, Lib.hid (HLr.out.same rfl), Lib.hid (below_drewN HBr.out _)⟩
            case measure => simp [intOf]; omega
        · obtain rfl : k = L.length := by omega
          have hd : decide ((L.length : Int) < (L.length : Int)) = false := by simp
          have CFk := Lib.hid (CF3.out key)
          rw [show (L.take L.length).any (fun c => c.key == key) = (M.findL key L).isSome from by rw [List.take_length, M.findL_is]]
          cases hr : M.findL key L with
          | none =>
            rw [hr] at CFk
            simp only [Option.getD_none, Option.isSome_none] at CFk ⊢
            clear hr
            go_wp2_with fail
            with_reducible refine (CFk.out _).mono ?_
            rintro e w2 ⟨rfl, hbq⟩
            replace HBr := carry hbq HBr
            clear hbq
            go_wp2_with (refine wpList_store_hid rfl 32 _ _ rfl w2.heap.size _ rfl rfl 32 clZ9 (rowIn_new clZ9 32 w2) ?_ rfl (by simp [Value.oneCell']) ?_; kernel_rfl; intro w3 hrQ hbelQ hothQ hszQ; have hbQ := hbelQ w2.heap.size w2 (Nat.le_refl _) ((Below.refl _ _).alloc (Nat.le_refl _) _); replace HBr := carry hbQ HBr; have HD := Lib.hid (show RowIn (clZ9) 32 w3 w2.heap.size from hrQ); clear hrQ hbelQ hothQ hszQ hbQ; have y0 : w3.cell? ⟨w2.heap.size, 0, none⟩ = some (.string ⟨#[]⟩) := HD.out.cell 0; have y1 : w3.cell? ⟨w2.heap.size, 1, none⟩ = some (.int .i64 0) := HD.out.cell 1; have y2 : w3.cell? ⟨w2.heap.size, 2, none⟩ = some (.string ⟨#[]⟩) := HD.out.cell 2)
            with_reducible refine (CD.out _).mono ?_
            rintro e w4 ⟨rfl, hbq⟩
            replace HBr := carry hbq HBr
            clear hbq
            go_wp2_with fail
            go_ret
            exact ⟨rfl, HBr.out⟩
          | some d =>
            rw [hr] at CFk
            simp only [Option.getD_some, Option.isSome_some] at CFk ⊢
            clear hr
            go_wp2_with fail
            with_reducible refine (CFk.out _).mono ?_
            rintro e w2 ⟨rfl, hbq⟩
            replace HBr := carry hbq HBr
            clear hbq
            go_wp2_with (refine wpList_store_hid rfl 32 _ _ rfl w2.heap.size _ rfl rfl 32 clZ9 (rowIn_new clZ9 32 w2) ?_ rfl (by simp [Value.oneCell']) ?_; kernel_rfl; intro w3 hrQ hbelQ hothQ hszQ; have hbQ := hbelQ w2.heap.size w2 (Nat.le_refl _) ((Below.refl _ _).alloc (Nat.le_refl _) _); replace HBr := carry hbQ HBr; have HD := Lib.hid (show RowIn (clA d) 32 w3 w2.heap.size from hrQ); clear hrQ hbelQ hothQ hszQ hbQ)
            with_reducible refine (CD.out _).mono ?_
            rintro e w4 ⟨rfl, hbq⟩
            replace HBr := carry hbq HBr
            clear hbq
            go_wp2_with fail
            go_ret
            exact ⟨rfl, HBr.out⟩
  · have d0 : decide ((1000 : Int) < (key.length : Int)) = true := by simp; omega
    go_enter Try.func8, Try.ntmps8
    go_wp2_with fail
    with_reducible refine CG.out.mono ?_
    rintro e w0 ⟨rfl | ⟨rfl, hsm⟩, rfl⟩
    all_goals
      go_wp2_with fail
      go_ret
      exact ⟨rfl, Below.refl _ _⟩

end Go.Proofs.Ytppkecilbkgbdaa
