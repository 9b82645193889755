/- Layer 13: CursorsBack, walked. -/
import Derived.Test.YtekmnpmeienhhaaCursQ
import Derived.Test.YtekmnpmeienhhaaCursO
namespace Go.Proofs.Ytekmnpmeienhhaa
set_option linter.unusedVariables false
open Go Go.RowKit Go.Maps

theorem i64_self (a : Int) : ((a : Int) != a) = false := by simp
set_option maxRecDepth 100000 in
set_option maxHeartbeats 16000000 in
theorem cursorsBack_false (W : World) (a b : Int) (hm : Cu.may ⟨a, b⟩ = false) (l : List UInt8) (hl : l.length ≤ 140737488351232) (ks : List Int) (ko : Option Addr) (kc : Nat) (hKI : NsI5 ks) (hKA : NsA5 W ko ks) : Calls Try.prog 14 #[.agg #[.int .i64 a, .int .i64 b], .string (S l), .slice ko ks.length kc] W fun e w' => e = .returned (.bool true) ∧ Below W.heap.size W w' := by
  have hkn := hKI.n
  have CD := Lib.hid (fun w => does13 w)
  have HKI := Lib.hid hKI
  have HKA := Lib.hid hKA
  have HKB := Lib.hid (show ∀ a, ks ≠ [] → ko = some a → a.block < W.heap.size from fun a hn ha => by
    obtain ⟨g, off, e, hc⟩ := hKA hn
    rw [ha] at e
    cases e
    exact cell_lt5 (hc 0 (List.length_pos_iff.2 hn)))
  have hi : (Try.prog.info? 71).map (·.size) = some 2 := by kernel_rfl
  have HI := Lib.hid hi
  have C1 := Lib.hid (fun w => enc13_any ⟨a, b⟩ w)
  unfold Cu.encR at C1
  rw [hm] at C1
  simp only [Bool.false_eq_true, if_false, if_true] at C1
  have C3 := Lib.hid (fun w => dec13_any l hl w)
  rw [Cu.decV_out] at C3
  have HB := Lib.hid ((Below.refl W.heap.size W).alloc (Nat.le_refl _) (.cells #[.int .i64 a, .int .i64 b] 71))
  have HX := Lib.hid (bk_new #[.int .i64 a, .int .i64 b] 71 W)
  clear hi hl hKI hKA
  by_cases hk100 : 100 < ks.length
  · have d3 : decide ((100 : Int) < (ks.length : Int)) = true := by simp; omega
    go_enter Try.func14, Try.ntmps14
    go_wp2_with fail
    go_ret
    exact ⟨rfl, HB.out⟩
  have d3 : decide ((100 : Int) < (ks.length : Int)) = false := by simp; omega
  have HKS := Lib.hid (HKI.out.ks (by omega))
  clear HKI hk100 hkn
  have HDS := Lib.hid (fun x (h : Cu.dec l = some x) => Cu.dec_some h)
  have HNO := Lib.hid (show Cu.save ⟨a, b⟩ (Dk.new 100) = (2, Dk.new 100) from Cu.save_no rfl hm)
  clear hm
  go_enter Try.func14, Try.ntmps14
  go_upto_region 1 with fail
  obtain ⟨xb, hxb⟩ : ∃ x, x = W.heap.size := ⟨_, rfl⟩
  obtain ⟨w0, hw0⟩ : ∃ x, x = W.alloc (.cells #[.int .i64 a, .int .i64 b] 71) := ⟨_, rfl⟩
  rw [← hw0] at HB HX
  rw [← hxb] at HX
  simp only [← hw0, ← hxb]
  have HXW := Lib.hid (Nat.le_of_eq hxb.symm)
  clear hw0 hxb
  go_wp2_with (refine wpList_load_row rfl 71 _ rfl xb rfl 71 _ (0, 0) _ HX.out Try.underlying71 rfl ?_ ?_; exact HI.out)
  with_reducible refine (C1.out _).mono ?_
  rintro e w1 ⟨rfl, hb⟩
  replace HX := Lib.hid (HX.out.below hb)
  replace HB := Lib.hid (below_step HB.out hb)
  clear hb C1
  cases hd : Cu.dec l with
  | none =>
    rw [hd] at C3
    simp only [Option.getD, if_true, Cu.c0] at C3
    clear HDS hd
    go_wp2_with fail
    with_reducible refine (C3.out _).mono ?_
    rintro e w2 ⟨rfl, hb⟩
    replace HX := Lib.hid ((HX.out.below hb).more (.cells #[.int .i64 0, .int .i64 0] 71))
    replace HB := Lib.hid ((below_step HB.out hb).alloc (below_step HB.out hb).size (.cells #[.int .i64 0, .int .i64 0] 71))
    clear hb C3
    go_upto_region 9 with fail
    obtain ⟨w4, hw4⟩ : ∃ x, x = w2.alloc (.cells #[.int .i64 0, .int .i64 0] 71) := ⟨_, rfl⟩
    rw [← hw4] at HX HB
    simp only [← hw4]
    clear hw4
    have CN := Lib.hid (show Calls Try.prog 17 #[.int .i64 100] w4 _ from newDB 100 w4 (by decide) (by decide) (W := W) HB.out)
    go_wp2_with fail
    with_reducible refine CN.out.mono ?_
    rintro e w5 ⟨d, rfl, hd5, hb⟩
    have HD := Lib.hid (hd5.add (HX.out.below hb) HX.out.lt)
    clear hd5 hb CN HX HB
    obtain ⟨B0, hB0⟩ : ∃ x, x = w4.heap.size := ⟨_, rfl⟩
    rw [← hB0] at HD
    clear hB0

    have CL := Lib.hid HD.out.load
    rw [show Cu.load (Dk.new 100) = (0, Cu.c0) from rfl] at CL
    go_wp2_with fail
    with_reducible refine CL.out.mono ?_
    rintro e w6 ⟨rfl, hd5⟩
    replace HD := Lib.hid (hd5.box #[.int .i64 0, .int .i64 0] 71)
    clear hd5 CL
    unfold loadV13 Cu.c0
    simp only
    go_upto_region 14 with fail
    obtain ⟨yb, hyb⟩ : ∃ x, x = w6.heap.size := ⟨_, rfl⟩
    obtain ⟨w7, hw7⟩ : ∃ x, x = w6.alloc (.cells #[.int .i64 0, .int .i64 0] 71) := ⟨_, rfl⟩
    rw [← hw7, ← hyb] at HD
    simp only [← hw7, ← hyb]
    clear hw7 hyb

    have q2 := HD.out.bx _ (List.mem_cons_of_mem _ (List.mem_cons_self ..))
    have CS := Lib.hid (HD.out.save ⟨a, b⟩)
    rw [HNO.out] at CS
    have c0 : w7.cell? ⟨xb, 0, none⟩ = some (.int .i64 a) := q2.cell 0
    have c1 : w7.cell? ⟨xb, 1, none⟩ = some (.int .i64 b) := q2.cell 1
    go_wp2_with fail
    with_reducible refine CS.out.mono ?_
    rintro e w8 ⟨rfl, hd5⟩
    replace HD := Lib.hid hd5
    clear hd5 CS c0 c1 q2
    have q1 := HD.out.bx _ (List.mem_cons_self ..)
    have c0 : w8.cell? ⟨yb, 0, none⟩ = some (.int .i64 0) := q1.cell 0
    have c1 : w8.cell? ⟨yb, 1, none⟩ = some (.int .i64 0) := q1.cell 1
    go_wp2_with fail

    with_reducible refine (CD.out _).mono ?_
    rintro e wz ⟨rfl, hb⟩
    have HB := Lib.hid (below_step HD.out.bel hb)
    clear hb CD
    go_wp2_with fail
    go_ret
    exact ⟨rfl, HB.out⟩
  | some y =>
    obtain ⟨hmy, hey⟩ := HDS.out y hd
    have C5 := Lib.hid (fun w => enc13_any y w)
    unfold Cu.encR at C5
    rw [hmy, if_pos rfl, hey] at C5
    rw [hd] at C3
    simp only [Option.getD, reduceCtorEq, if_false] at C3
    clear HDS hd hmy hey
    obtain ⟨y1, y2⟩ := y
    simp only at C3 C5
    go_wp2_with fail
    with_reducible refine (C3.out _).mono ?_
    rintro e w2 ⟨rfl, hb⟩
    replace HX := Lib.hid ((HX.out.below hb).more (.cells #[.int .i64 y1, .int .i64 y2] 71))
    replace HB := Lib.hid ((below_step HB.out hb).alloc (below_step HB.out hb).size (.cells #[.int .i64 y1, .int .i64 y2] 71))
    have HY := Lib.hid (bk_new #[.int .i64 y1, .int .i64 y2] 71 w2)
    clear hb C3
    go_wp2_with (refine wpList_load_row rfl 71 _ rfl w2.heap.size rfl 71 _ (0, 0) _ HY.out Try.underlying71 rfl ?_ ?_; exact HI.out)
    with_reducible refine (C5.out _).mono ?_
    rintro e w4 ⟨rfl, hb⟩
    replace HX := Lib.hid (HX.out.below hb)
    replace HB := Lib.hid (below_step HB.out hb)
    clear hb C5 HY
    have dl : (l != l) = false := by simp
    go_upto_region 9 with fail
    have CN := Lib.hid (show Calls Try.prog 17 #[.int .i64 100] w4 _ from newDB 100 w4 (by decide) (by decide) (W := W) HB.out)
    go_wp2_with fail
    with_reducible refine CN.out.mono ?_
    rintro e w5 ⟨d, rfl, hd5, hb⟩
    have HD := Lib.hid (hd5.add (HX.out.below hb) HX.out.lt)
    clear hd5 hb CN HX HB
    obtain ⟨B0, hB0⟩ : ∃ x, x = w4.heap.size := ⟨_, rfl⟩
    rw [← hB0] at HD
    clear hB0

    have CL := Lib.hid HD.out.load
    rw [show Cu.load (Dk.new 100) = (0, Cu.c0) from rfl] at CL
    go_wp2_with fail
    with_reducible refine CL.out.mono ?_
    rintro e w6 ⟨rfl, hd5⟩
    replace HD := Lib.hid (hd5.box #[.int .i64 0, .int .i64 0] 71)
    clear hd5 CL
    unfold loadV13 Cu.c0
    simp only
    go_upto_region 14 with fail
    obtain ⟨yb, hyb⟩ : ∃ x, x = w6.heap.size := ⟨_, rfl⟩
    obtain ⟨w7, hw7⟩ : ∃ x, x = w6.alloc (.cells #[.int .i64 0, .int .i64 0] 71) := ⟨_, rfl⟩
    rw [← hw7, ← hyb] at HD
    simp only [← hw7, ← hyb]
    clear hw7 hyb

    have q2 := HD.out.bx _ (List.mem_cons_of_mem _ (List.mem_cons_self ..))
    have CS := Lib.hid (HD.out.save ⟨a, b⟩)
    rw [HNO.out] at CS
    have c0 : w7.cell? ⟨xb, 0, none⟩ = some (.int .i64 a) := q2.cell 0
    have c1 : w7.cell? ⟨xb, 1, none⟩ = some (.int .i64 b) := q2.cell 1
    go_wp2_with fail
    with_reducible refine CS.out.mono ?_
    rintro e w8 ⟨rfl, hd5⟩
    replace HD := Lib.hid hd5
    clear hd5 CS c0 c1 q2
    have q1 := HD.out.bx _ (List.mem_cons_self ..)
    have c0 : w8.cell? ⟨yb, 0, none⟩ = some (.int .i64 0) := q1.cell 0
    have c1 : w8.cell? ⟨yb, 1, none⟩ = some (.int .i64 0) := q1.cell 1
    go_wp2_with fail

    with_reducible refine (CD.out _).mono ?_
    rintro e wz ⟨rfl, hb⟩
    have HB := Lib.hid (below_step HD.out.bel hb)
    clear hb CD
    go_wp2_with fail
    go_ret
    exact ⟨rfl, HB.out⟩
set_option maxRecDepth 100000 in
set_option maxHeartbeats 16000000 in
theorem cursorsBack_true (W : World) (a b : Int) (hm : Cu.may ⟨a, b⟩ = true) (l : List UInt8) (hl : l.length ≤ 140737488351232) (ks : List Int) (ko : Option Addr) (kc : Nat) (hKI : NsI5 ks) (hKA : NsA5 W ko ks) : Calls Try.prog 14 #[.agg #[.int .i64 a, .int .i64 b], .string (S l), .slice ko ks.length kc] W fun e w' => e = .returned (.bool true) ∧ Below W.heap.size W w' := by
  have hkn := hKI.n
  have CD := Lib.hid (fun w => does13 w)
  have HKI := Lib.hid hKI
  have HKA := Lib.hid hKA
  have HKB := Lib.hid (show ∀ a, ks ≠ [] → ko = some a → a.block < W.heap.size from fun a hn ha => by
    obtain ⟨g, off, e, hc⟩ := hKA hn
    rw [ha] at e
    cases e
    exact cell_lt5 (hc 0 (List.length_pos_iff.2 hn)))
  have hi : (Try.prog.info? 71).map (·.size) = some 2 := by kernel_rfl
  have HI := Lib.hid hi
  have C1 := Lib.hid (fun w => enc13_any ⟨a, b⟩ w)
  unfold Cu.encR at C1
  rw [hm] at C1
  simp only [Bool.false_eq_true, if_false, if_true] at C1
  have C3 := Lib.hid (fun w => dec13_any l hl w)
  rw [Cu.decV_out] at C3
  have HB := Lib.hid ((Below.refl W.heap.size W).alloc (Nat.le_refl _) (.cells #[.int .i64 a, .int .i64 b] 71))
  have HX := Lib.hid (bk_new #[.int .i64 a, .int .i64 b] 71 W)
  clear hi hl hKI hKA
  by_cases hk100 : 100 < ks.length
  · have d3 : decide ((100 : Int) < (ks.length : Int)) = true := by simp; omega
    go_enter Try.func14, Try.ntmps14
    go_wp2_with fail
    go_ret
    exact ⟨rfl, HB.out⟩
  have d3 : decide ((100 : Int) < (ks.length : Int)) = false := by simp; omega
  have HKS := Lib.hid (HKI.out.ks (by omega))
  clear HKI hk100 hkn
  have HDS := Lib.hid (fun x (h : Cu.dec l = some x) => Cu.dec_some h)
  have HSV := Lib.hid (show ∃ L', Cu.save ⟨a, b⟩ (Dk.new 100) = (0, ⟨100, 0, true, none, L'⟩) ∧ Cu.Q [] L' ⟨a, b⟩ from by
    rcases Cu.save_two (Cu.q_new 100) rfl (.inl rfl) (Nat.zero_le _) (by show 0 + 22 ≤ 100; decide) hm with ⟨s, L', h1, h2, h3⟩ | ⟨h, _⟩
    · rw [h3 rfl] at h1
      exact ⟨L', h1, h2⟩
    · exact absurd rfl h)
  have C6 := Lib.hid (fun w => show Calls Try.prog 46 #[.string (S (Cu.enc ⟨a, b⟩))] w fun e w' => e = .returned (.tuple #[.agg #[.int .i64 a, .int .i64 b], .int .i64 0]) ∧ Below w.heap.size w w' from by
    have := dec13_any (Cu.enc ⟨a, b⟩) (by have := Cu.enc_len hm; omega) w
    rw [Cu.dec_enc hm] at this
    exact this)
  clear hm
  generalize Cu.enc ⟨a, b⟩ = t at *
  go_enter Try.func14, Try.ntmps14
  go_upto_region 1 with fail
  obtain ⟨xb, hxb⟩ : ∃ x, x = W.heap.size := ⟨_, rfl⟩
  obtain ⟨w0, hw0⟩ : ∃ x, x = W.alloc (.cells #[.int .i64 a, .int .i64 b] 71) := ⟨_, rfl⟩
  rw [← hw0] at HB HX
  rw [← hxb] at HX
  simp only [← hw0, ← hxb]
  have HXW := Lib.hid (Nat.le_of_eq hxb.symm)
  clear hw0 hxb
  go_wp2_with (refine wpList_load_row rfl 71 _ rfl xb rfl 71 _ (0, 0) _ HX.out Try.underlying71 rfl ?_ ?_; exact HI.out)
  with_reducible refine (C1.out _).mono ?_
  rintro e w1 ⟨rfl, hb⟩
  replace HX := Lib.hid (HX.out.below hb)
  replace HB := Lib.hid (below_step HB.out hb)
  clear hb C1
  cases hd : Cu.dec l with
  | none =>
    rw [hd] at C3
    simp only [Option.getD, if_true, Cu.c0] at C3
    clear HDS hd
    go_wp2_with fail
    with_reducible refine (C3.out _).mono ?_
    rintro e w2 ⟨rfl, hb⟩
    replace HX := Lib.hid ((HX.out.below hb).more (.cells #[.int .i64 0, .int .i64 0] 71))
    replace HB := Lib.hid ((below_step HB.out hb).alloc (below_step HB.out hb).size (.cells #[.int .i64 0, .int .i64 0] 71))
    clear hb C3
    go_upto_region 9 with fail
    obtain ⟨w4, hw4⟩ : ∃ x, x = w2.alloc (.cells #[.int .i64 0, .int .i64 0] 71) := ⟨_, rfl⟩
    rw [← hw4] at HX HB
    simp only [← hw4]
    clear hw4
    have CN := Lib.hid (show Calls Try.prog 17 #[.int .i64 100] w4 _ from newDB 100 w4 (by decide) (by decide) (W := W) HB.out)
    go_wp2_with fail
    with_reducible refine CN.out.mono ?_
    rintro e w5 ⟨d, rfl, hd5, hb⟩
    have HD := Lib.hid (hd5.add (HX.out.below hb) HX.out.lt)
    clear hd5 hb CN HX HB
    obtain ⟨B0, hB0⟩ : ∃ x, x = w4.heap.size := ⟨_, rfl⟩
    rw [← hB0] at HD
    clear hB0

    go_wp2_with fail
    with_reducible refine (C6.out _).mono ?_
    rintro e w6 ⟨rfl, hb⟩
    replace HD := Lib.hid ((HD.out.below hb).box #[.int .i64 a, .int .i64 b] 71)
    clear hb C6
    go_upto_region 16 with fail
    obtain ⟨yb, hyb⟩ : ∃ x, x = w6.heap.size := ⟨_, rfl⟩
    obtain ⟨w7, hw7⟩ : ∃ x, x = w6.alloc (.cells #[.int .i64 a, .int .i64 b] 71) := ⟨_, rfl⟩
    rw [← hw7, ← hyb] at HD
    simp only [← hw7, ← hyb]
    clear hw7 hyb

    have q1 := HD.out.bx _ (List.mem_cons_self ..)
    have q2 := HD.out.bx _ (List.mem_cons_of_mem _ (List.mem_cons_self ..))
    have CS := Lib.hid (HD.out.save ⟨a, b⟩)
    obtain ⟨L1, hL1, hQ1⟩ := HSV.out
    have HQ1 := Lib.hid hQ1
    rw [hL1] at CS
    clear hL1 hQ1 HSV
    have c0 : w7.cell? ⟨xb, 0, none⟩ = some (.int .i64 a) := q2.cell 0
    have c1 : w7.cell? ⟨xb, 1, none⟩ = some (.int .i64 b) := q2.cell 1
    have c2 : w7.cell? ⟨yb, 0, none⟩ = some (.int .i64 a) := q1.cell 0
    have c3 : w7.cell? ⟨yb, 1, none⟩ = some (.int .i64 b) := q1.cell 1
    have da : (a == a) = true := by simp
    have db : (b == b) = true := by simp
    go_wp2_with fail
    with_reducible refine CS.out.mono ?_
    rintro e w8 ⟨rfl, hd5⟩
    replace HD := Lib.hid hd5
    clear hd5 CS c0 c1 c2 c3 q1 q2
    have CC := Lib.hid (HD.out.crash ks ko kc HKS.out (HKA.out.below HD.out.bel) (fun x hn hx => .inr (Nat.lt_of_lt_of_le (HKB.out x hn hx) HD.out.hW)))
    rw [show Dk.crash ks ⟨100, 0, true, none, L1⟩ = (0, ⟨100, 0, false, none, Dk.cut ks L1⟩) from rfl] at CC
    go_wp2_with fail
    with_reducible refine CC.out.mono ?_
    rintro e w9 ⟨rfl, hd5⟩
    replace HD := Lib.hid hd5
    clear hd5 CC
    have CT := Lib.hid (HD.out.start (Nat.zero_le _))
    rw [show Dk.start ⟨100, 0, false, none, Dk.cut ks L1⟩ = (0, ⟨100, 1, true, none, Dk.cut ks L1⟩) from rfl] at CT
    go_wp2_with fail
    with_reducible refine CT.out.mono ?_
    rintro e w10 ⟨rfl, hd5⟩
    replace HD := Lib.hid hd5
    clear hd5 CT
    have CL := Lib.hid HD.out.load
    rw [show Cu.load ⟨100, 1, true, none, Dk.cut ks L1⟩ = (0, ⟨a, b⟩) from Cu.load_q (E := []) (HQ1.out.cut ks) rfl] at CL
    go_wp2_with fail
    with_reducible refine CL.out.mono ?_
    rintro e w11 ⟨rfl, hd5⟩
    replace HD := Lib.hid (hd5.box #[.int .i64 a, .int .i64 b] 71)
    clear hd5 CL
    unfold loadV13
    simp only
    go_upto_region 19 with fail
    obtain ⟨zb, hzb⟩ : ∃ x, x = w11.heap.size := ⟨_, rfl⟩
    obtain ⟨w12, hw12⟩ : ∃ x, x = w11.alloc (.cells #[.int .i64 a, .int .i64 b] 71) := ⟨_, rfl⟩
    rw [← hw12, ← hzb] at HD
    simp only [← hw12, ← hzb]
    clear hw12 hzb

    have q1 := HD.out.bx _ (List.mem_cons_self ..)
    have q2 := HD.out.bx _ (List.mem_cons_of_mem _ (List.mem_cons_of_mem _ (List.mem_cons_self ..)))
    have c0 : w12.cell? ⟨xb, 0, none⟩ = some (.int .i64 a) := q2.cell 0
    have c1 : w12.cell? ⟨xb, 1, none⟩ = some (.int .i64 b) := q2.cell 1
    have c2 : w12.cell? ⟨zb, 0, none⟩ = some (.int .i64 a) := q1.cell 0
    have c3 : w12.cell? ⟨zb, 1, none⟩ = some (.int .i64 b) := q1.cell 1
    go_wp2_with fail

    with_reducible refine (CD.out _).mono ?_
    rintro e wz ⟨rfl, hb⟩
    have HB := Lib.hid (below_step HD.out.bel hb)
    clear hb CD
    go_wp2_with fail
    go_ret
    exact ⟨rfl, HB.out⟩
  | some y =>
    obtain ⟨hmy, hey⟩ := HDS.out y hd
    have C5 := Lib.hid (fun w => enc13_any y w)
    unfold Cu.encR at C5
    rw [hmy, if_pos rfl, hey] at C5
    rw [hd] at C3
    simp only [Option.getD, reduceCtorEq, if_false] at C3
    clear HDS hd hmy hey
    obtain ⟨y1, y2⟩ := y
    simp only at C3 C5
    go_wp2_with fail
    with_reducible refine (C3.out _).mono ?_
    rintro e w2 ⟨rfl, hb⟩
    replace HX := Lib.hid ((HX.out.below hb).more (.cells #[.int .i64 y1, .int .i64 y2] 71))
    replace HB := Lib.hid ((below_step HB.out hb).alloc (below_step HB.out hb).size (.cells #[.int .i64 y1, .int .i64 y2] 71))
    have HY := Lib.hid (bk_new #[.int .i64 y1, .int .i64 y2] 71 w2)
    clear hb C3
    go_wp2_with (refine wpList_load_row rfl 71 _ rfl w2.heap.size rfl 71 _ (0, 0) _ HY.out Try.underlying71 rfl ?_ ?_; exact HI.out)
    with_reducible refine (C5.out _).mono ?_
    rintro e w4 ⟨rfl, hb⟩
    replace HX := Lib.hid (HX.out.below hb)
    replace HB := Lib.hid (below_step HB.out hb)
    clear hb C5 HY
    have dl : (l != l) = false := by simp
    go_upto_region 9 with fail
    have CN := Lib.hid (show Calls Try.prog 17 #[.int .i64 100] w4 _ from newDB 100 w4 (by decide) (by decide) (W := W) HB.out)
    go_wp2_with fail
    with_reducible refine CN.out.mono ?_
    rintro e w5 ⟨d, rfl, hd5, hb⟩
    have HD := Lib.hid (hd5.add (HX.out.below hb) HX.out.lt)
    clear hd5 hb CN HX HB
    obtain ⟨B0, hB0⟩ : ∃ x, x = w4.heap.size := ⟨_, rfl⟩
    rw [← hB0] at HD
    clear hB0

    go_wp2_with fail
    with_reducible refine (C6.out _).mono ?_
    rintro e w6 ⟨rfl, hb⟩
    replace HD := Lib.hid ((HD.out.below hb).box #[.int .i64 a, .int .i64 b] 71)
    clear hb C6
    go_upto_region 16 with fail
    obtain ⟨yb, hyb⟩ : ∃ x, x = w6.heap.size := ⟨_, rfl⟩
    obtain ⟨w7, hw7⟩ : ∃ x, x = w6.alloc (.cells #[.int .i64 a, .int .i64 b] 71) := ⟨_, rfl⟩
    rw [← hw7, ← hyb] at HD
    simp only [← hw7, ← hyb]
    clear hw7 hyb

    have q1 := HD.out.bx _ (List.mem_cons_self ..)
    have q2 := HD.out.bx _ (List.mem_cons_of_mem _ (List.mem_cons_self ..))
    have CS := Lib.hid (HD.out.save ⟨a, b⟩)
    obtain ⟨L1, hL1, hQ1⟩ := HSV.out
    have HQ1 := Lib.hid hQ1
    rw [hL1] at CS
    clear hL1 hQ1 HSV
    have c0 : w7.cell? ⟨xb, 0, none⟩ = some (.int .i64 a) := q2.cell 0
    have c1 : w7.cell? ⟨xb, 1, none⟩ = some (.int .i64 b) := q2.cell 1
    have c2 : w7.cell? ⟨yb, 0, none⟩ = some (.int .i64 a) := q1.cell 0
    have c3 : w7.cell? ⟨yb, 1, none⟩ = some (.int .i64 b) := q1.cell 1
    have da : (a == a) = true := by simp
    have db : (b == b) = true := by simp
    go_wp2_with fail
    with_reducible refine CS.out.mono ?_
    rintro e w8 ⟨rfl, hd5⟩
    replace HD := Lib.hid hd5
    clear hd5 CS c0 c1 c2 c3 q1 q2
    have CC := Lib.hid (HD.out.crash ks ko kc HKS.out (HKA.out.below HD.out.bel) (fun x hn hx => .inr (Nat.lt_of_lt_of_le (HKB.out x hn hx) HD.out.hW)))
    rw [show Dk.crash ks ⟨100, 0, true, none, L1⟩ = (0, ⟨100, 0, false, none, Dk.cut ks L1⟩) from rfl] at CC
    go_wp2_with fail
    with_reducible refine CC.out.mono ?_
    rintro e w9 ⟨rfl, hd5⟩
    replace HD := Lib.hid hd5
    clear hd5 CC
    have CT := Lib.hid (HD.out.start (Nat.zero_le _))
    rw [show Dk.start ⟨100, 0, false, none, Dk.cut ks L1⟩ = (0, ⟨100, 1, true, none, Dk.cut ks L1⟩) from rfl] at CT
    go_wp2_with fail
    with_reducible refine CT.out.mono ?_
    rintro e w10 ⟨rfl, hd5⟩
    replace HD := Lib.hid hd5
    clear hd5 CT
    have CL := Lib.hid HD.out.load
    rw [show Cu.load ⟨100, 1, true, none, Dk.cut ks L1⟩ = (0, ⟨a, b⟩) from Cu.load_q (E := []) (HQ1.out.cut ks) rfl] at CL
    go_wp2_with fail
    with_reducible refine CL.out.mono ?_
    rintro e w11 ⟨rfl, hd5⟩
    replace HD := Lib.hid (hd5.box #[.int .i64 a, .int .i64 b] 71)
    clear hd5 CL
    unfold loadV13
    simp only
    go_upto_region 19 with fail
    obtain ⟨zb, hzb⟩ : ∃ x, x = w11.heap.size := ⟨_, rfl⟩
    obtain ⟨w12, hw12⟩ : ∃ x, x = w11.alloc (.cells #[.int .i64 a, .int .i64 b] 71) := ⟨_, rfl⟩
    rw [← hw12, ← hzb] at HD
    simp only [← hw12, ← hzb]
    clear hw12 hzb

    have q1 := HD.out.bx _ (List.mem_cons_self ..)
    have q2 := HD.out.bx _ (List.mem_cons_of_mem _ (List.mem_cons_of_mem _ (List.mem_cons_self ..)))
    have c0 : w12.cell? ⟨xb, 0, none⟩ = some (.int .i64 a) := q2.cell 0
    have c1 : w12.cell? ⟨xb, 1, none⟩ = some (.int .i64 b) := q2.cell 1
    have c2 : w12.cell? ⟨zb, 0, none⟩ = some (.int .i64 a) := q1.cell 0
    have c3 : w12.cell? ⟨zb, 1, none⟩ = some (.int .i64 b) := q1.cell 1
    go_wp2_with fail

    with_reducible refine (CD.out _).mono ?_
    rintro e wz ⟨rfl, hb⟩
    have HB := Lib.hid (below_step HD.out.bel hb)
    clear hb CD
    go_wp2_with fail
    go_ret
    exact ⟨rfl, HB.out⟩
theorem cursorsBack_calls (W : World) (v : Value) (hv : UCu v) (l : List UInt8) (hl : l.length ≤ 140737488351232) (u : Value) (hu : UNs5 W u) : Calls Try.prog 14 #[v, .string (S l), u] W fun e w' => e = .returned (.bool true) ∧ Below W.heap.size W w' := by
  obtain ⟨⟨a, b⟩, rfl, -⟩ := hv
  obtain ⟨ks, ko, kc, rfl, hKI, hKA⟩ := hu
  cases hm : Cu.may ⟨a, b⟩ with
  | false => exact cursorsBack_false W a b hm l hl ks ko kc hKI hKA
  | true => exact cursorsBack_true W a b hm l hl ks ko kc hKI hKA

end Go.Proofs.Ytekmnpmeienhhaa
