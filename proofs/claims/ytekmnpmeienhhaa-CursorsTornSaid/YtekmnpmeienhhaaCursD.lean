/- Layer 13: Save, Load: the program's, by contracts. -/
import Derived.Test.YtekmnpmeienhhaaCursC
import Derived.Test.YtekmnpmeienhhaaFilesC
namespace Go.Proofs.Ytekmnpmeienhhaa
set_option linter.unusedVariables false
open Go Go.RowKit Go.Maps

section
variable {X : Nat → Prop} {B d : Nat} {D : Dk.St} {w w' : World}
def loadV13 (r : Int × Cu.C) : Ending := .returned (.tuple #[.agg #[.int .i64 r.2.next, .int .i64 r.2.gap], .int .i64 r.1])
set_option maxRecDepth 100000 in
set_option maxHeartbeats 1000000 in
theorem load13_any (h : DkX X B d D w) : Calls Try.prog 50 #[.pointer (some ⟨d, 0, none⟩)] w fun e w' => e = loadV13 (Cu.load D) ∧ Below w.heap.size w w' := by
  have hb := (Below.refl w.heap.size w).alloc (Nat.le_refl _) (.cells #[.int .i64 0, .int .i64 0] 71)
  have CR := Lib.hid (show Calls Try.prog 26 #[.pointer (some ⟨d, 0, none⟩), .string { data := #[99, 117, 114, 115, 111, 114] }] (w.alloc (.cells #[.int .i64 0, .int .i64 0] 71)) fun e w' => e = .returned (.tuple #[.string (S (Dk.read Cu.nC D).2), .int .i64 (Dk.read Cu.nC D).1]) ∧ Below (w.alloc (.cells #[.int .i64 0, .int .i64 0] 71)).heap.size (w.alloc (.cells #[.int .i64 0, .int .i64 0] 71)) w' from readX (h.below hb) Cu.nC (by simp))
  have hi : (Try.prog.info? 71).map (·.size) = some 2 := by kernel_rfl
  have HI := Lib.hid hi
  have HB := Lib.hid hb
  have hbox := bk_new #[.int .i64 0, .int .i64 0] 71 w
  have HX := Lib.hid hbox
  have hsz := Dk.get_size h.ok.l Cu.nC
  have hrm := h.ok.room
  have hmo := h.ok.most
  have HLE := Lib.hid (show (Dk.get Cu.nC D.L).dat.length ≤ 140737488351232 from by omega)
  clear h hi hb hbox hsz hrm hmo
  by_cases hu : D.up = false
  · have e1 : Dk.read Cu.nC D = (51, []) := by unfold Dk.read; rw [if_pos hu]
    have HF := Lib.hid (show loadV13 (51, Cu.c0) = loadV13 (Cu.load D) from by unfold Cu.load; rw [if_pos hu])
    rw [e1] at CR
    clear e1 hu HLE
    go_enter Try.func50, Try.ntmps50
    go_wp2_with fail
    with_reducible refine CR.out.mono ?_
    rintro e w1 ⟨rfl, hb1⟩
    replace HX := Lib.hid (HX.out.below hb1)
    replace HB := Lib.hid (below_step HB.out hb1)
    clear hb1 CR
    go_wp2_with (refine wpList_store13 rfl 71 _ _ rfl w.heap.size #[.int .i64 0, .int .i64 0] rfl rfl 71 _ HX.out HI.out rfl (by simp [Value.oneCell']) ?_; intro w5 h5 hw5; have HR5 := Lib.hid h5; have HW5 := Lib.hid hw5; clear h5 hw5)
    exact bodyPost_ret (v := .tuple #[.agg #[.int .i64 0, .int .i64 0], .int .i64 51]) (ret_cell2 (p := 2) (q := 3) (C := #[.int .i64 0, .int .i64 0]) Try.underlying71 HI.out rfl _ _ w.heap.size rfl HR5.out) rfl ⟨HF.out, HB.out.trans (HW5.out.below (fun k hk => by omega) HB.out.size)⟩
  by_cases hh : Dk.has Cu.nC D.L = false
  · have e1 : Dk.read Cu.nC D = (4, []) := by unfold Dk.read; rw [if_neg hu, if_pos hh]
    have HF := Lib.hid (show loadV13 (0, Cu.c0) = loadV13 (Cu.load D) from by unfold Cu.load; rw [if_neg hu, if_pos hh])
    rw [e1] at CR
    clear e1 hu hh HLE
    go_enter Try.func50, Try.ntmps50
    go_wp2_with fail
    with_reducible refine CR.out.mono ?_
    rintro e w1 ⟨rfl, hb1⟩
    replace HX := Lib.hid (HX.out.below hb1)
    replace HB := Lib.hid (below_step HB.out hb1)
    clear hb1 CR
    go_wp2_with (refine wpList_store13 rfl 71 _ _ rfl w.heap.size #[.int .i64 0, .int .i64 0] rfl rfl 71 _ HX.out HI.out rfl (by simp [Value.oneCell']) ?_; intro w5 h5 hw5; have HR5 := Lib.hid h5; have HW5 := Lib.hid hw5; clear h5 hw5)
    exact bodyPost_ret (v := .tuple #[.agg #[.int .i64 0, .int .i64 0], .int .i64 0]) (ret_cell2 (p := 2) (q := 3) (C := #[.int .i64 0, .int .i64 0]) Try.underlying71 HI.out rfl _ _ w.heap.size rfl HR5.out) rfl ⟨HF.out, HB.out.trans (HW5.out.below (fun k hk => by omega) HB.out.size)⟩
  have e1 : Dk.read Cu.nC D = (0, (Dk.get Cu.nC D.L).dat) := by unfold Dk.read; rw [if_neg hu, if_neg hh]
  have HF := Lib.hid (show Cu.load D = match Cu.dec (Dk.get Cu.nC D.L).dat with | none => (60, Cu.c0) | some c => (0, c) from by unfold Cu.load; rw [if_neg hu, if_neg hh]; rfl)
  rw [e1] at CR
  clear e1 hu hh
  have CD := Lib.hid (fun W => dec13_any (Dk.get Cu.nC D.L).dat HLE.out W)
  generalize (Dk.get Cu.nC D.L).dat = t at *
  cases hd : Cu.dec t with
  | none =>
    rw [hd] at CD HF
    have HF2 := Lib.hid (show loadV13 (60, Cu.c0) = loadV13 (Cu.load D) from by rw [HF.out])
    clear HF hd
    go_enter Try.func50, Try.ntmps50
    go_wp2_with fail
    with_reducible refine CR.out.mono ?_
    rintro e w1 ⟨rfl, hb1⟩
    replace HX := Lib.hid (HX.out.below hb1)
    replace HB := Lib.hid (below_step HB.out hb1)
    clear hb1 CR
    go_wp2_with fail
    with_reducible refine (CD.out _).mono ?_
    rintro e w1 ⟨rfl, hb1⟩
    replace HX := Lib.hid (HX.out.below hb1)
    replace HB := Lib.hid (below_step HB.out hb1)
    clear hb1 CD
    unfold Cu.decV cuC
    simp only [Option.getD, if_true, Cu.c0]
    replace HX := Lib.hid (HX.out.more (.cells #[.int .i64 0, .int .i64 0] 71))
    replace HB := Lib.hid (HB.out.alloc HB.out.size (.cells #[.int .i64 0, .int .i64 0] 71))
    go_wp2_with (refine wpList_store13 rfl 71 _ _ rfl w.heap.size #[.int .i64 0, .int .i64 0] rfl rfl 71 _ HX.out HI.out rfl (by simp [Value.oneCell']) ?_; intro w5 h5 hw5; have HR5 := Lib.hid h5; have HW5 := Lib.hid hw5; clear h5 hw5)
    exact bodyPost_ret (v := .tuple #[.agg #[.int .i64 0, .int .i64 0], .int .i64 60]) (ret_cell2 (p := 2) (q := 3) (C := #[.int .i64 0, .int .i64 0]) Try.underlying71 HI.out rfl _ _ w.heap.size rfl HR5.out) rfl ⟨HF2.out, HB.out.trans (HW5.out.below (fun k hk => by omega) HB.out.size)⟩
  | some c =>
    rw [hd] at CD HF
    have HF2 := Lib.hid (show loadV13 (0, c) = loadV13 (Cu.load D) from by rw [HF.out])
    clear HF hd
    go_enter Try.func50, Try.ntmps50
    go_wp2_with fail
    with_reducible refine CR.out.mono ?_
    rintro e w1 ⟨rfl, hb1⟩
    replace HX := Lib.hid (HX.out.below hb1)
    replace HB := Lib.hid (below_step HB.out hb1)
    clear hb1 CR
    go_wp2_with fail
    with_reducible refine (CD.out _).mono ?_
    rintro e w1 ⟨rfl, hb1⟩
    replace HX := Lib.hid (HX.out.below hb1)
    replace HB := Lib.hid (below_step HB.out hb1)
    clear hb1 CD
    obtain ⟨a, b⟩ := c
    unfold Cu.decV cuC
    simp only [Option.getD, reduceCtorEq, if_false]
    replace HX := Lib.hid (HX.out.more (.cells #[.int .i64 a, .int .i64 b] 71))
    have HY := Lib.hid (bk_new #[.int .i64 a, .int .i64 b] 71 w1)
    replace HB := Lib.hid (HB.out.alloc HB.out.size (.cells #[.int .i64 a, .int .i64 b] 71))
    go_wp2_with (first | (refine wpList_load_row rfl 71 _ rfl w1.heap.size rfl 71 _ (0, 0) _ HY.out Try.underlying71 rfl ?_ ?_; exact HI.out) | (refine wpList_store13 rfl 71 _ _ rfl w.heap.size #[.int .i64 a, .int .i64 b] rfl rfl 71 _ HX.out HI.out rfl (by simp [Value.oneCell']) ?_; intro w5 h5 hw5; have HR5 := Lib.hid h5; have HW5 := Lib.hid hw5; clear h5 hw5))
    exact bodyPost_ret (v := .tuple #[.agg #[.int .i64 a, .int .i64 b], .int .i64 0]) (ret_cell2 (p := 2) (q := 3) (C := #[.int .i64 a, .int .i64 b]) Try.underlying71 HI.out rfl _ _ w.heap.size rfl HR5.out) rfl ⟨HF2.out, HB.out.trans (HW5.out.below (fun k hk => by omega) HB.out.size)⟩
set_option maxRecDepth 100000 in
set_option maxHeartbeats 1000000 in
theorem save13_any (h : DkX X B d D w) (hX : ∀ k, X k → k < w.heap.size) (hB : B ≤ w.heap.size) (c : Cu.C) :
    Calls Try.prog 56 #[.pointer (some ⟨d, 0, none⟩), .agg #[.int .i64 c.next, .int .i64 c.gap]] w (OpX X B d (Cu.save c D) w) := by
  obtain ⟨a, b⟩ := c
  have hb := (Below.refl w.heap.size w).alloc (Nat.le_refl _) (.cells #[.int .i64 a, .int .i64 b] 71)
  have CS := Lib.hid (filesState_any (h.below hb))
  have CE := Lib.hid (fun W => enc13_any ⟨a, b⟩ W)
  have HD := Lib.hid (h.below hb)
  have HB := Lib.hid hb
  have hbox := bk_new #[.int .i64 a, .int .i64 b] 71 w
  have HX := Lib.hid hbox
  have HXX := Lib.hid hX
  have HBB := Lib.hid hB
  have hi : (Try.prog.info? 71).map (·.size) = some 2 := by kernel_rfl
  have HI := Lib.hid hi
  clear h hX hB hb hbox hi
  by_cases hu : D.up = false
  · have HF := Lib.hid (show Cu.save ⟨a, b⟩ D = (51, D) from by unfold Cu.save; rw [if_pos hu])
    rw [hu] at CS
    simp only [Bool.false_eq_true, if_false] at CS
    go_enter Try.func56, Try.ntmps56
    go_wp2_with fail
    with_reducible refine CS.out.mono ?_
    rintro e w1 ⟨rfl, hb1⟩
    have HF2 := Lib.hid (show OpX X B d (Cu.save ⟨a, b⟩ D) w (.returned (.int .i64 51)) w1 from by
      rw [HF.out]
      exact ⟨rfl, HD.out.below hb1, wr_below (below_step HB.out hb1)⟩)
    clear hb1 CS HD
    go_wp2_with fail
    go_ret
    exact HF2.out
  have hu' : D.up = true := by simpa using hu
  rw [hu'] at CS
  simp only [if_true] at CS
  unfold Cu.encR at CE
  cases hm : Cu.may ⟨a, b⟩ with
  | false =>
    have HF := Lib.hid (show Cu.save ⟨a, b⟩ D = (2, D) from by unfold Cu.save; rw [if_neg hu, if_pos hm])
    rw [hm] at CE
    simp only [Bool.false_eq_true, if_false] at CE
    clear hm hu hu'
    go_enter Try.func56, Try.ntmps56
    go_wp2_with fail
    with_reducible refine CS.out.mono ?_
    rintro e w1 ⟨rfl, hb1⟩
    replace HD := Lib.hid (HD.out.below hb1)
    replace HX := Lib.hid (HX.out.below hb1)
    replace HB := Lib.hid (below_step HB.out hb1)
    clear hb1 CS
    go_wp2_with (refine wpList_load_row rfl 71 _ rfl w.heap.size rfl 71 _ (0, 0) _ HX.out Try.underlying71 rfl ?_ ?_; exact HI.out)
    with_reducible refine (CE.out _).mono ?_
    rintro e w2 ⟨rfl, hb1⟩
    have HF2 := Lib.hid (show OpX X B d (Cu.save ⟨a, b⟩ D) w (.returned (.int .i64 2)) w2 from by
      rw [HF.out]
      exact ⟨rfl, HD.out.below hb1, wr_below (below_step HB.out hb1)⟩)
    clear hb1 CE HD
    go_wp2_with fail
    go_ret
    exact HF2.out
  | true =>
    have HF := Lib.hid (show Cu.save ⟨a, b⟩ D = Dk.renew Cu.nD Cu.nC (Cu.enc ⟨a, b⟩) D from by unfold Cu.save; rw [if_neg hu, if_neg (by rw [hm]; simp)])
    have HEL := Lib.hid (show (Cu.enc ⟨a, b⟩).length ≤ 140737488351232 from by have := Cu.enc_len hm; omega)
    rw [hm] at CE
    simp only [if_true] at CE
    clear hm hu hu'
    generalize Cu.enc ⟨a, b⟩ = t at *
    go_enter Try.func56, Try.ntmps56
    go_wp2_with fail
    with_reducible refine CS.out.mono ?_
    rintro e w1 ⟨rfl, hb1⟩
    replace HD := Lib.hid (HD.out.below hb1)
    replace HX := Lib.hid (HX.out.below hb1)
    replace HB := Lib.hid (below_step HB.out hb1)
    clear hb1 CS
    go_wp2_with (refine wpList_load_row rfl 71 _ rfl w.heap.size rfl 71 _ (0, 0) _ HX.out Try.underlying71 rfl ?_ ?_; exact HI.out)
    with_reducible refine (CE.out _).mono ?_
    rintro e w2 ⟨rfl, hb1⟩
    replace HD := Lib.hid (HD.out.below hb1)
    replace HB := Lib.hid (below_step HB.out hb1)
    clear hb1 CE
    have CN := Lib.hid (show Calls Try.prog 87 #[.pointer (some ⟨d, 0, none⟩), .string { data := #[99, 117, 114, 115, 111, 114, 43] }, .string { data := #[99, 117, 114, 115, 111, 114] }, .string (S t)] w2 (OpX X B d (Dk.renew Cu.nD Cu.nC t D) w2) from filesRenew_any HD.out (fun k hk => Nat.lt_of_lt_of_le (HXX.out k hk) HB.out.size) (Nat.le_trans HBB.out HB.out.size) Cu.nD Cu.nC t (by simp) (by simp) HEL.out)
    go_wp2_with fail
    with_reducible refine CN.out.mono ?_
    rintro e w3 ⟨rfl, hd, hw⟩
    have HF2 := Lib.hid (show OpX X B d (Cu.save ⟨a, b⟩ D) w (.returned (.int .i64 (Dk.renew Cu.nD Cu.nC t D).1)) w3 from by
      rw [HF.out]
      exact ⟨rfl, hd, (wr_below HB.out).trans hw⟩)
    clear hd hw CN HD
    go_wp2_with fail
    go_ret
    exact HF2.out
end

end Go.Proofs.Ytekmnpmeienhhaa
