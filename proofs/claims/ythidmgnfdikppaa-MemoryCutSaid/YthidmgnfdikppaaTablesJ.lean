/- Layer 10: what is asked of a table, by contracts. -/
import Derived.Test.YthidmgnfdikppaaTablesI
import Derived.BigQuiet
namespace Go.Proofs.Ythidmgnfdikppaa
set_option linter.unusedVariables false
open Go Go.RowKit
attribute [local go_sem ↓] run_index_S
attribute [local go_sem] S_append S_extract

set_option maxHeartbeats 1000000 in
theorem all10_any (L : List M.Cl) (p : Nat) (w : World) (h : TabAt L p w) (hs : M.srt none L = true) (hl : L.length ≤ 4096) (hq : ∀ c ∈ L, c.seq ≤ 9223372036854775807) :
    Calls Try.prog 33 #[.pointer (some ⟨p, 0, none⟩)] w fun e w' => RangeR10 L w e w' := by
  have CR := Lib.hid (range10_any L p [] [] w h hs hl hq (by simp) (by simp))
  rw [M.range_nil] at CR
  go_enter Try.func33, Try.ntmps33
  go_wp2_with fail
  with_reducible refine (CR.out).mono ?_
  rintro e w1 ⟨ao, cap, rfl, ho, hb⟩
  have HO := Lib.hid ho
  have HB := Lib.hid hb
  clear ho hb CR
  go_wp2_with fail
  go_ret
  exact ⟨ao, cap, rfl, HO.out, HB.out⟩
set_option maxHeartbeats 1000000 in
theorem len10_any (L : List M.Cl) (p : Nat) (w : World) (h : TabAt L p w) (hl : L.length ≤ 4096) :
    Calls Try.prog 34 #[.pointer (some ⟨p, 0, none⟩)] w fun e w' => e = .returned (.int .i64 L.length) ∧ w = w' := by
  obtain ⟨bo, bc, fo, fc, -, -, x2, -⟩ := tabAt_blk h hl
  go_enter Try.func34, Try.ntmps34
  go_wp2_with fail
  go_ret
  exact ⟨rfl, rfl⟩
set_option maxHeartbeats 1000000 in
theorem len10_nil (w : World) : Calls Try.prog 34 #[.pointer none] w fun e w' => e = .returned (.int .i64 0) ∧ w = w' := by
  go_enter Try.func34, Try.ntmps34
  go_wp2_with fail
  go_ret
  exact ⟨rfl, rfl⟩
set_option maxHeartbeats 1000000 in
theorem range10_nil (lo hi : List UInt8) (w : World) : Calls Try.prog 32 #[.pointer none, .string (S lo), .string (S hi)] w fun e w' => e = .returned (.slice none 0 0) ∧ w = w' := by
  go_enter Try.func32, Try.ntmps32
  go_wp2_with fail
  go_ret
  exact ⟨rfl, rfl⟩
set_option maxHeartbeats 1000000 in
theorem all10_nil (w : World) : Calls Try.prog 33 #[.pointer none] w fun e w' => e = .returned (.slice none 0 0) ∧ w = w' := by
  have CR := Lib.hid (range10_nil [] [] w)
  go_enter Try.func33, Try.ntmps33
  go_wp2_with fail
  with_reducible refine (CR.out).mono ?_
  rintro e w1 ⟨rfl, rfl⟩
  go_wp2_with fail
  go_ret
  exact ⟨rfl, rfl⟩
set_option maxHeartbeats 2000000 in
set_option maxRecDepth 100000 in
theorem get10_nil (key : List UInt8) (w : World) : Calls Try.prog 30 #[.pointer none, .string (S key)] w fun e w' => FindR9 none w e w' := by
  have HB := Lib.hid ((Below.refl w.heap.size w).alloc (Nat.le_refl _) (.cells clZ9 38))
  have HR := Lib.hid (rowIn_new clZ9 38 w)
  go_enter Try.func30, Try.ntmps30
  go_wp2_with ((refine wpList_store_hid rfl 38 _ _ rfl w.heap.size _ rfl rfl 38 clZ9 HR.out ?_ rfl (by simp [Value.oneCell']) ?_; kernel_rfl; intro w3 hrQ hbelQ hothQ hszQ; have HXE := Lib.hid hrQ; have HBE := Lib.hid (hbelQ w.heap.size w (Nat.le_refl _) HB.out); clear hrQ hbelQ hothQ hszQ))
  try simp only [Exit.inBlock, Exit.then]
  exact bodyPost_ret (ret_rowP2 rfl _ _ w.heap.size rfl (load_struct Try.underlying38 (by kernel_rfl) HXE.out)) rfl (show FindR9 none w _ _ from ⟨rfl, HBE.out⟩)
set_option maxHeartbeats 8000000 in
set_option maxRecDepth 100000 in
theorem get10_any (L : List M.Cl) (p : Nat) (key : List UInt8) (w : World) (h : TabAt L p w) (hs : M.srt none L = true) (hl : L.length ≤ 4096) (hq : ∀ c ∈ L, c.seq ≤ 9223372036854775807) (h1 : key.length ≤ 140737488351232) :
    Calls Try.prog 30 #[.pointer (some ⟨p, 0, none⟩), .string (S key)] w fun e w' => FindR9 (M.findL key L) w e w' := by
  have hm : M.many L ≤ 1024 := by unfold M.many; omega
  have HB0 := (Below.refl w.heap.size w).alloc (Nat.le_refl _) (.cells clZ9 38)
  have HR0 := rowIn_new clZ9 38 w
  have CS := Lib.hid (start10_any L p key _ (h.below HB0) hs hl)
  have HB := Lib.hid HB0
  have HR := Lib.hid HR0
  clear HB0 HR0
  have HT := Lib.hid h
  have HS := Lib.hid hs
  have CF := Lib.hid (fun k W => by
    have := find9_any (M.encCs (M.blk L k)) key (by have := M.encCs_len (M.srt_blk hs k) (M.blk_len4 L k); omega) W
    rw [show M.findC (M.encCs (M.blk L k)) key = M.findL key (M.blk L k) from by rw [M.findC, M.dec_encC (M.srt_blk hs k) (fun c hc => hq c (M.blk_mem hc)) (by have := M.blk_len4 L k; omega)]] at this
    exact this)
  unfold FindR9 at CF
  clear h hs hq
  go_enter Try.func30, Try.ntmps30
  go_wp2_with fail
  with_reducible refine (CS.out).mono ?_
  rintro e w1 ⟨s, rfl, ⟨hs1, hs2⟩, hb⟩
  replace HB := carry hb HB
  replace HR := carry hb HR
  have HS2 := Lib.hid (M.find_start HS.out hs2)
  clear hb hs2 CS
  go_wp2_with fail
  go_loopw [6] (fun v6 wr => ∃ k : Nat, k ≤ M.many L ∧ v6 = .int .i64 k ∧ Hid (M.findL key (L.take (4 * k)) = none) ∧ Hid (RowIn clZ9 38 wr w.heap.size) ∧ Hid (Below w.heap.size w wr)) (fun v _ => M.many L - (intOf v).toNat)
  case atStart => exact ⟨s, hs1, rfl, HS2, HR, HB⟩
  case round =>
    clear HB HR HS2 hs1
    obtain ⟨k, hk, rfl, HF, HR, HBr⟩ := hrel
    obtain ⟨bo, bc, fo, fc, x0, x1, -, hblk⟩ := tabAt_blk (HT.out.below HBr.out) hl
    by_cases hlt : k < M.many L
    · have d1 : decide ((k : Int) < (M.many L : Int)) = true := by simp; omega
      have d2 : decide (k < M.many L) = true := by simp; omega
      have hki : (k : Int) < (M.many L : Int) := by omega
      obtain ⟨bg, fg, rfl, rfl, x2, x3⟩ := hblk k hlt
      obtain ⟨fk, hfk⟩ : ∃ fk, (L.getD (4 * k) M.cl0).key = fk := ⟨_, rfl⟩
      rw [hfk] at x3
      have HFK := Lib.hid hfk
      clear hfk hblk
      cases hf : Op.bytesLess key fk with
      | true =>
        have q1 : Op.bytesLess fk key = false := by
          cases q : Op.bytesLess fk key with
          | false => rfl
          | true => have := M.less_trans _ _ _ hf q; rw [M.less_irr] at this; cases this
        have q2 : (fk == key) = false := by
          simp only [beq_eq_false_iff_ne]
          rintro rfl
          rw [M.less_irr] at hf; cases hf
        have HE := Lib.hid (M.find_end HS.out (show Op.bytesLess key (L.getD (4 * k) M.cl0).key = true from by rw [HFK.out]; exact hf) HF.out)
        go_wp2_with ((refine wpList_store_hid rfl 38 _ _ rfl w.heap.size _ rfl rfl 38 clZ9 HR.out ?_ rfl (by simp [Value.oneCell']) ?_; kernel_rfl; intro w3 hrQ hbelQ hothQ hszQ; have HXE := Lib.hid hrQ; have HBE := Lib.hid (hbelQ w.heap.size w (Nat.le_refl _) HBr.out); clear hrQ hbelQ hothQ hszQ))
        try simp only [Exit.inBlock, Exit.then]
        exact bodyPost_ret (ret_rowP2 rfl _ _ w.heap.size rfl (load_struct Try.underlying38 (by kernel_rfl) HXE.out)) rfl (show FindR9 (M.findL key L) w _ _ from by rw [HE.out]; exact ⟨rfl, HBE.out⟩)
      | false =>
        have HSN := Lib.hid (M.find_snoc L key k HF.out)
        have CF1 := Lib.hid (CF.out k wr)
        have qq : (Op.bytesLess fk key = true ∧ (fk == key) = false) ∨ (Op.bytesLess fk key = false ∧ (fk == key) = true) := by
          by_cases e : fk = key
          · subst e; exact .inr ⟨M.less_irr _, by simp⟩
          · have := M.less_flip fk key e
            rw [hf] at this
            exact .inl ⟨by simpa using this.symm, by simpa using e⟩
        clear hf
        rcases qq with ⟨q1, q2⟩ | ⟨q1, q2⟩
        all_goals
          go_wp2_with fail
          cases hd : M.findL key (M.blk L k) with
          | none =>
            have HN := Lib.hid (HSN.out.trans hd)
            rw [hd] at CF1
            with_reducible refine (CF1.out).mono ?_
            rintro e w2 ⟨rfl, hb⟩
            replace HR := carry hb HR
            replace HBr := carry hb HBr
            clear hb hd CF1 x0 x1 x2 x3
            replace HR := carryA (w := w2) (.cells (clA M.cl0) 38) HR
            replace HBr := carryA (w := w2) (.cells (clA M.cl0) 38) HBr
            go_wp2_with fail
            go_roundw
            case rel => exact ⟨k + 1, by omega, by go_num, HN, HR, HBr⟩
            case measure => simp [intOf]; omega
          | some d =>
            have HN := Lib.hid (M.find_hit L key (4 * (k + 1)) (HSN.out.trans hd))
            rw [hd] at CF1
            with_reducible refine (CF1.out).mono ?_
            rintro e w2 ⟨rfl, hb⟩
            replace HR := carry hb HR
            replace HBr := carry hb HBr
            clear hb hd CF1 x0 x1 x2 x3
            have HX := Lib.hid (rowIn_new (clA d) 38 w2)
            replace HR := carryA (w := w2) (.cells (clA d) 38) HR
            replace HBr := carryA (w := w2) (.cells (clA d) 38) HBr
            go_wp2_with (first | (refine wpList_load_row rfl 38 _ rfl w2.heap.size rfl 38 _ (0, 0) _ HX.out Try.underlying38 rfl ?_ ?_; kernel_rfl) | (refine wpList_store_hid rfl 38 _ _ rfl w.heap.size _ rfl rfl 38 clZ9 HR.out ?_ rfl (by simp [Value.oneCell']) ?_; kernel_rfl; intro w3 hrQ hbelQ hothQ hszQ; have HXE := Lib.hid hrQ; have HBE := Lib.hid (hbelQ w.heap.size w (Nat.le_refl _) HBr.out); clear hrQ hbelQ hothQ hszQ))
            try simp only [Exit.inBlock, Exit.then]
            exact bodyPost_ret (ret_rowP2 rfl _ _ w.heap.size rfl (load_struct Try.underlying38 (by kernel_rfl) HXE.out)) rfl (show FindR9 (M.findL key L) w _ _ from by rw [HN.out]; exact ⟨rfl, HBE.out⟩)
    · obtain rfl : k = M.many L := by omega
      have d1 : decide ((M.many L : Int) < (M.many L : Int)) = false := by simp
      have d2 : decide (M.many L < M.many L) = false := by simp
      have HE := HF
      rw [M.take_many] at HE
      go_wp2_with ((refine wpList_store_hid rfl 38 _ _ rfl w.heap.size _ rfl rfl 38 clZ9 HR.out ?_ rfl (by simp [Value.oneCell']) ?_; kernel_rfl; intro w3 hrQ hbelQ hothQ hszQ; have HXE := Lib.hid hrQ; have HBE := Lib.hid (hbelQ w.heap.size w (Nat.le_refl _) HBr.out); clear hrQ hbelQ hothQ hszQ))
      try simp only [Exit.inBlock, Exit.then]
      exact bodyPost_ret (ret_rowP2 rfl _ _ w.heap.size rfl (load_struct Try.underlying38 (by kernel_rfl) HXE.out)) rfl (show FindR9 (M.findL key L) w _ _ from by rw [HE.out]; exact ⟨rfl, HBE.out⟩)

end Go.Proofs.Ythidmgnfdikppaa
