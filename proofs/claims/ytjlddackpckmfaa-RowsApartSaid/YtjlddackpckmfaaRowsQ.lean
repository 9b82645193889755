/- Layer 21: RowsApart, walked. -/
import Derived.Test.YtjlddackpckmfaaRowsP
import Derived.Deep.RegionHeld3
import Derived.Deep.CutRange
namespace Go.Proofs.Ytjlddackpckmfaa
set_option linter.unusedVariables false
open Go Go.RowKit
attribute [local go_sem ↓] run_index_S
attribute [local go_sem] S_append S_extract

theorem beyTwo (x y : M.Sp) (W' : World) (g : Nat) (hs : SpsAt W' (some ⟨g, 0, none⟩) [x, y]) : Calls Try.prog 8 #[.slice (some ⟨g, 0, none⟩) 2 2, .int .i64 2] W' fun e w' => (e = .returned (.bool true) ∨ (e = .returned (.bool false) ∧ SmallT x ∧ SmallT y)) ∧ W' = w' :=
  (beyond21_any [x, y] 2 2 (by omega) hs (by simp)).mono fun e w' h => ⟨h.1.imp id (fun k => ⟨k.1, k.2.2 x (by simp), k.2.2 y (by simp)⟩), h.2⟩
abbrev spB (x y : M.Sp) : Array Value := #[.int .i64 x.trace, .int .i64 x.id, .int .i64 x.parent, .string (S x.svc), .string (S x.host), .int .i64 x.start, .int .i64 x.dur, .string (S x.note), .int .i64 y.trace, .int .i64 y.id, .int .i64 y.parent, .string (S y.svc), .string (S y.host), .int .i64 y.start, .int .i64 y.dur, .string (S y.note)]

theorem M.swap {x y : M.Sp} (hx : M.mayB x = true) (hy : M.mayB y = true) (hf : y.fits) : (M.spanC ⟨M.keyB x, 0, M.enc y⟩).isSome = M.same x y := by
  rw [M.spanC, M.dec_enc hf hy]
  simp only
  by_cases h : M.keyB y = M.keyB x
  · rw [if_pos h, (M.keyB_inj hx hy).1 h.symm]; rfl
  · rw [if_neg h]
    cases hs : M.same x y with
    | false => rfl
    | true => exact absurd ((M.keyB_inj hx hy).2 hs).symm h
theorem M.key_same {x y : M.Sp} (hx : M.mayB x = true) (hy : M.mayB y = true) : (M.keyB x == M.keyB y) = M.same x y := by
  rw [Bool.eq_iff_iff, ← M.keyB_inj hx hy, beq_iff_eq]
theorem M.idx_same {x y : M.Sp} (hx : M.mayB x = true) (hy : M.mayB y = true) : (M.idxK x == M.idxK y) = (M.same x y && (x.svc == y.svc) && (x.host == y.host) && (x.start == y.start)) := by
  rw [Bool.eq_iff_iff, beq_iff_eq, M.idxK_inj hx hy]
  simp only [M.same, Bool.and_eq_true, decide_eq_true_eq, beq_iff_eq]
  exact ⟨fun ⟨a, b, c, d, e⟩ => ⟨⟨⟨⟨a, b⟩, c⟩, d⟩, e⟩, fun ⟨⟨⟨⟨a, b⟩, c⟩, d⟩, e⟩ => ⟨a, b, c, d, e⟩⟩

set_option maxHeartbeats 16000000 in
set_option maxRecDepth 100000 in
theorem rowsApart_calls (W : World) (v : Value) (hv : USp v) (u : Value) (hu : USp u) :
    Calls Try.prog 7 #[v, u] W fun e w' => e = .returned (.bool true) ∧ Below W.heap.size W w' := by
  obtain ⟨x, rfl, hxi⟩ := hv
  obtain ⟨y, rfl, hyi⟩ := hu
  have CL := Lib.hid lives21
  have HX := Lib.hid ((rowIn_new (spA x) 23 W).more (.cells (spA y) 23))
  have HY := Lib.hid (rowIn_at (spA y) 23 (W.alloc (.cells (spA x) 23)) (W.heap.size + 1) (by rw [szA]))
  have HB := Lib.hid (((Below.refl W.heap.size W).alloc (Nat.le_refl _) (.cells (spA x) 23)).alloc (by rw [szA]; omega) (.cells (spA y) 23))
  have hs1 : SpsAt (((W.alloc (.cells (spA x) 23)).alloc (.cells (spA y) 23)).alloc (.cells (spB x y) 23)) (some ⟨W.heap.size + 1 + 1, 0, none⟩) [x, y] := spsAt_row (rowIn_at _ _ _ _ (by rw [szA, szA])) rfl
  have HS1 := Lib.hid hs1
  have HXI := Lib.hid hxi
  have HYI := Lib.hid hyi
  clear hxi hyi hs1
  go_enter Try.func7, Try.ntmps7
  go_wp2_with (first | (refine wpList_load_row rfl 23 _ rfl W.heap.size rfl 23 _ (0, 0) _ HX.out Try.underlying23 rfl ?_ ?_; kernel_rfl) | (refine wpList_load_row rfl 23 _ rfl (W.heap.size + 1) rfl 23 _ (0, 0) _ HY.out Try.underlying23 rfl ?_ ?_; kernel_rfl))
  with_reducible refine (beyTwo x y _ _ HS1.out).mono ?_
  replace HX := carryA (w := (W.alloc (.cells (spA x) 23)).alloc (.cells (spA y) 23)) (.cells (spB x y) 23) HX
  replace HY := carryA (w := (W.alloc (.cells (spA x) 23)).alloc (.cells (spA y) 23)) (.cells (spB x y) 23) HY
  replace HB := carryA (w := (W.alloc (.cells (spA x) 23)).alloc (.cells (spA y) 23)) (.cells (spB x y) 23) HB
  clear HS1
  rintro e w1 ⟨hr, rfl⟩
  generalize ((W.alloc (.cells (spA x) 23)).alloc (.cells (spA y) 23)).alloc (.cells (spB x y) 23) = w1 at *
  rcases hr with rfl | ⟨rfl, hsm, hsn⟩
  · go_wp2_with fail
    with_reducible refine (CL.out _).mono ?_
    rintro e w2 ⟨rfl, hbq⟩
    replace HB := carry hbq HB
    clear hbq
    go_wp2_with fail
    go_ret
    exact ⟨rfl, HB.out⟩
  have HFX := Lib.hid (hsm.fits HXI.out)
  have HFY := Lib.hid (hsn.fits HYI.out)
  have CX := Lib.hid (fun W => check_any x HFX.out W)
  have CY := Lib.hid (fun W => check_any y HFY.out W)
  clear hsm hsn HXI HYI
  obtain ⟨q0, q1, q2, q3, q4, q5, q6, q7, -⟩ := HX.out.spAt
  go_wp2_with fail
  with_reducible refine (CX.out _).mono ?_
  rintro e w2 ⟨rfl, hbq⟩
  replace HX := carry hbq HX
  replace HY := carry hbq HY
  replace HB := carry hbq HB
  clear hbq q0 q1 q2 q3 q4 q5 q6 q7
  cases hmx : M.mayB x with
  | false =>
    go_wp2_with fail
    with_reducible refine (CL.out _).mono ?_
    rintro e w3 ⟨rfl, hbq⟩
    replace HB := carry hbq HB
    clear hbq
    go_wp2_with fail
    go_ret
    exact ⟨rfl, HB.out⟩
  | true =>
    have HMX := Lib.hid hmx
    clear hmx
    obtain ⟨q0, q1, q2, q3, q4, q5, q6, q7, -⟩ := HY.out.spAt
    go_wp2_with fail
    with_reducible refine (CY.out _).mono ?_
    rintro e w3 ⟨rfl, hbq⟩
    replace HX := carry hbq HX
    replace HY := carry hbq HY
    replace HB := carry hbq HB
    clear hbq q0 q1 q2 q3 q4 q5 q6 q7
    cases hmy : M.mayB y with
    | false =>
      go_wp2_with fail
      with_reducible refine (CL.out _).mono ?_
      rintro e w4 ⟨rfl, hbq⟩
      replace HB := carry hbq HB
      clear hbq
      go_wp2_with fail
      go_ret
      exact ⟨rfl, HB.out⟩
    | true =>
      have HMY := Lib.hid hmy
      clear hmy
      have CA := Lib.hid (fun W => cells_yes x HFX.out HMX.out W)
      have CB := Lib.hid (fun W => cells_yes y HFY.out HMY.out W)
      go_wp2_with (refine wpList_load_row rfl 23 _ rfl W.heap.size rfl 23 _ (0, 0) _ HX.out Try.underlying23 rfl ?_ ?_; kernel_rfl)
      with_reducible refine (CA.out _).mono ?_
      rintro e w4 (⟨-, g2, rfl, hg2, hr2, hb4⟩ | ⟨hno, -, -⟩)
      case inr => rw [HMX.out] at hno; cases hno
      have HA := Lib.hid hr2
      replace HX := carry hb4 HX
      replace HY := carry hb4 HY
      replace HB := carry hb4 HB
      clear hb4 hr2
      go_wp2_with (refine wpList_load_row rfl 23 _ rfl (W.heap.size + 1) rfl 23 _ (0, 0) _ HY.out Try.underlying23 rfl ?_ ?_; kernel_rfl)
      with_reducible refine (CB.out _).mono ?_
      rintro e w5 (⟨-, g3, rfl, hg3, hr3, hb5⟩ | ⟨hno, -, -⟩)
      case inr => rw [HMY.out] at hno; cases hno
      have HC := Lib.hid hr3
      replace HX := carry hb5 HX
      replace HY := carry hb5 HY
      replace HB := carry hb5 HB
      replace HA := carry hb5 HA
      clear hb5 hr3 hg2 hg3 CA CB CX CY
      replace HA : Hid (RowIn #[.string (S (M.keyB x)), .int .i64 0, .string (S (M.enc x)), .string (S (M.idxK x)), .int .i64 0, .string (S [])] 25 w5 g2) := Lib.hid HA.out
      replace HC : Hid (RowIn #[.string (S (M.keyB y)), .int .i64 0, .string (S (M.enc y)), .string (S (M.idxK y)), .int .i64 0, .string (S [])] 25 w5 g3) := Lib.hid HC.out
      have x0 : w5.cell? ⟨W.heap.size, 0, none⟩ = some ((.int .i64 x.trace)) := HX.out.cell 0
      have x1 : w5.cell? ⟨W.heap.size, 1, none⟩ = some ((.int .i64 x.id)) := HX.out.cell 1
      have x3 : w5.cell? ⟨W.heap.size, 3, none⟩ = some ((.string (S x.svc))) := HX.out.cell 3
      have x4 : w5.cell? ⟨W.heap.size, 4, none⟩ = some ((.string (S x.host))) := HX.out.cell 4
      have x5 : w5.cell? ⟨W.heap.size, 5, none⟩ = some ((.int .i64 x.start)) := HX.out.cell 5
      have y0 : w5.cell? ⟨W.heap.size + 1, 0, none⟩ = some ((.int .i64 y.trace)) := HY.out.cell 0
      have y1 : w5.cell? ⟨W.heap.size + 1, 1, none⟩ = some ((.int .i64 y.id)) := HY.out.cell 1
      have y3 : w5.cell? ⟨W.heap.size + 1, 3, none⟩ = some ((.string (S y.svc))) := HY.out.cell 3
      have y4 : w5.cell? ⟨W.heap.size + 1, 4, none⟩ = some ((.string (S y.host))) := HY.out.cell 4
      have y5 : w5.cell? ⟨W.heap.size + 1, 5, none⟩ = some ((.int .i64 y.start)) := HY.out.cell 5
      have hk := M.key_same HMX.out HMY.out
      have hi := M.idx_same HMX.out HMY.out
      have hn : (M.keyB x == M.idxK y) = false := by simpa using M.key_idx HMX.out HMY.out
      have CS : Hid (∀ W, Calls Try.prog 13 #[.agg #[.string (S (M.keyB x)), .int .i64 0, .string (S (M.enc y))]] W fun e w' => SpanR (M.spanC ⟨M.keyB x, 0, M.enc y⟩) W e w') := Lib.hid (fun W => span_any ⟨M.keyB x, 0, M.enc y⟩ (by have := M.enc_len HMY.out; dsimp only; omega) W)
      unfold SpanR at CS
      rw [(M.swap HMX.out HMY.out HFY.out)] at CS
      generalize decX (M.spanC ⟨M.keyB x, 0, M.enc y⟩) = z at *
      have hBdef := Lib.hid (show M.same x y = (decide (x.trace = y.trace) && decide (x.id = y.id)) from rfl)
      generalize M.same x y = B at *
      generalize hAdef : (B && (x.svc == y.svc) && (x.host == y.host) && (x.start == y.start)) = A at *
      have HAD := Lib.hid hAdef
      have HK := Lib.hid hk
      have HI := Lib.hid hi
      have HN := Lib.hid hn
      clear hk hi hn hAdef
      generalize M.keyB y = ky at *
      generalize M.keyB x = kx at *
      generalize M.idxK y = iy at *
      generalize M.idxK x = ix at *
      generalize M.enc x = ex at *
      generalize M.enc y = ey at *
      go_upto_region 7 with (fail)
      go_cut [9] from 54 to 65 (fun c wx => c = .bool B ∧ w5 = wx)
      case first =>
        have hB := hBdef.out
        by_cases e1 : x.trace = y.trace
        · have f1 : (x.trace == y.trace) = true := by simpa using e1
          rw [decide_eq_true e1, Bool.true_and] at hB
          clear e1
          by_cases e2 : x.id = y.id
          · have f2 : (x.id == y.id) = true := by simpa using e2
            rw [decide_eq_true e2] at hB
            clear e2
            have HBB := Lib.hid hB
            clear hB
            go_wp2_with fail
            go_meet
            exact ⟨congrArg Value.bool HBB.out.symm, rfl⟩
          · have f2 : (x.id == y.id) = false := by simpa using e2
            rw [decide_eq_false e2] at hB
            clear e2
            have HBB := Lib.hid hB
            clear hB
            go_wp2_with fail
            go_meet
            exact ⟨congrArg Value.bool HBB.out.symm, rfl⟩
        · have f1 : (x.trace == y.trace) = false := by simpa using e1
          rw [decide_eq_false e1, Bool.false_and] at hB
          clear e1
          have HBB := Lib.hid hB
          clear hB
          go_wp2_with fail
          go_meet
          exact ⟨congrArg Value.bool HBB.out.symm, rfl⟩
      case rest =>
      obtain ⟨rfl, rfl⟩ := hcut
      clear x0 x1 x3 x4 x5 y0 y1 y3 y4 y5
      go_upto_region 8 with (fail)
      go_cut [10, 11] from 66 to 78 (fun p c wx => c = .bool B ∧ RowIn #[.string (S kx), .int .i64 0, .string (S ex), .string (S ix), .int .i64 0, .string (S [])] 25 wx g2 ∧ RowIn #[.string (S ky), .int .i64 0, .string (S ey), .string (S iy), .int .i64 0, .string (S [])] 25 wx g3 ∧ RowIn (spA x) 23 wx W.heap.size ∧ RowIn (spA y) 23 wx (W.heap.size + 1) ∧ Below W.heap.size W wx)
      case first =>
        have k0 : w5.cell? ⟨g2, 0, none⟩ = some (.string (S kx)) := HA.out.cell 0
        have k1 : w5.cell? ⟨g3, 2, none⟩ = some (.string (S ey)) := HC.out.cell 2
        have m1 : ¬ (g2 = w5.heap.size) := by (have := HA.out.lt; omega)
        have m2 : ¬ (w5.heap.size = g2) := by (have := HA.out.lt; omega)
        have m3 : ¬ (g3 = w5.heap.size) := by (have := HC.out.lt; omega)
        have m4 : ¬ (w5.heap.size = g3) := by (have := HC.out.lt; omega)
        have HM5 := Lib.hid (show W.heap.size ≠ w5.heap.size from by have := HX.out.lt; omega)
        have HM6 := Lib.hid (show W.heap.size + 1 ≠ w5.heap.size from by have := HY.out.lt; omega)
        have HBS := Lib.hid HB.out.size
        go_region_held3 (fun W => W.cell? ⟨g2, 0, none⟩ = some (.string (S kx)) ∧ W.cell? ⟨g3, 2, none⟩ = some (.string (S ey))) (go_keep) (first | (go_at_call 13; refine (CS.out _).mono ?_; rintro e w6 ⟨rfl, hb6⟩; have HA6 : Hid (RowIn _ _ w6 g2) := Lib.hid (RowIn.below (show RowIn _ _ w5.drew g2 from HA.out) hb6); have HC6 : Hid (RowIn _ _ w6 g3) := Lib.hid (RowIn.below (show RowIn _ _ w5.drew g3 from HC.out) hb6); have HX6 : Hid (RowIn _ _ w6 W.heap.size) := Lib.hid (RowIn.below (show RowIn _ _ w5.drew W.heap.size from HX.out) hb6); have HY6 : Hid (RowIn _ _ w6 (W.heap.size + 1)) := Lib.hid (RowIn.below (show RowIn _ _ w5.drew (W.heap.size + 1) from HY.out) hb6); have HB6 : Hid (Below W.heap.size W w6) := Lib.hid (below_step (show Below W.heap.size W w5.drew from HB.out.drew) hb6); clear hb6 k0 k1; have k0 : w6.cell? ⟨g2, 0, none⟩ = some (.string (S (kx))) := HA6.out.cell 0; have k1 : w6.cell? ⟨g3, 2, none⟩ = some (.string (S (ey))) := HC6.out.cell 2; have n1 : ¬ (g2 = w6.heap.size) := (by have := HA6.out.lt; omega); have n2 : ¬ (w6.heap.size = g2) := (by have := HA6.out.lt; omega); have n3 : ¬ (g3 = w6.heap.size) := (by have := HC6.out.lt; omega); have n4 : ¬ (w6.heap.size = g3) := (by have := HC6.out.lt; omega)) | (go_at_call 13; refine (CS.out _).mono ?_; rintro e w6 ⟨rfl, hb6⟩; have HA6 : Hid (RowIn _ _ w6 g2) := Lib.hid (RowIn.below (show RowIn _ _ (w5.alloc (.cells (spC M.sp0) 23)).drew g2 from HA.out.more _) hb6); have HC6 : Hid (RowIn _ _ w6 g3) := Lib.hid (RowIn.below (show RowIn _ _ (w5.alloc (.cells (spC M.sp0) 23)).drew g3 from HC.out.more _) hb6); have HX6 : Hid (RowIn _ _ w6 W.heap.size) := Lib.hid (RowIn.below (show RowIn _ _ (w5.alloc (.cells (spC M.sp0) 23)).drew W.heap.size from HX.out.more _) hb6); have HY6 : Hid (RowIn _ _ w6 (W.heap.size + 1)) := Lib.hid (RowIn.below (show RowIn _ _ (w5.alloc (.cells (spC M.sp0) 23)).drew (W.heap.size + 1) from HY.out.more _) hb6); have HB6 : Hid (Below W.heap.size W w6) := Lib.hid (below_step (show Below W.heap.size W (w5.alloc (.cells (spC M.sp0) 23)).drew from (HB.out.alloc HB.out.size _).drew) hb6); have HZ6 : Hid (RowIn _ _ w6 w5.heap.size) := Lib.hid (RowIn.below (show RowIn (spC M.sp0) _ (w5.alloc (.cells (spC M.sp0) 23)).drew w5.heap.size from rowIn_new _ _ _) hb6); have z0 : w6.cell? ⟨w5.heap.size, 0, none⟩ = some (.int .i64 0) := HZ6.out.cell 0; have y0' := HZ6.out.free 0; have z1 : w6.cell? ⟨w5.heap.size, 1, none⟩ = some (.int .i64 0) := HZ6.out.cell 1; have y1' := HZ6.out.free 1; have z2 : w6.cell? ⟨w5.heap.size, 2, none⟩ = some (.int .i64 0) := HZ6.out.cell 2; have y2' := HZ6.out.free 2; have z3 : w6.cell? ⟨w5.heap.size, 3, none⟩ = some (.string ⟨#[]⟩) := HZ6.out.cell 3; have y3' := HZ6.out.free 3; have z4 : w6.cell? ⟨w5.heap.size, 4, none⟩ = some (.string ⟨#[]⟩) := HZ6.out.cell 4; have y4' := HZ6.out.free 4; have z5 : w6.cell? ⟨w5.heap.size, 5, none⟩ = some (.int .i64 0) := HZ6.out.cell 5; have y5' := HZ6.out.free 5; have z6 : w6.cell? ⟨w5.heap.size, 6, none⟩ = some (.int .i64 0) := HZ6.out.cell 6; have y6' := HZ6.out.free 6; have z7 : w6.cell? ⟨w5.heap.size, 7, none⟩ = some (.string ⟨#[]⟩) := HZ6.out.cell 7; have y7' := HZ6.out.free 7; clear hb6 k0 k1; have k0 : w6.cell? ⟨g2, 0, none⟩ = some (.string (S (kx))) := HA6.out.cell 0; have k1 : w6.cell? ⟨g3, 2, none⟩ = some (.string (S (ey))) := HC6.out.cell 2; have n1 : ¬ (g2 = w6.heap.size) := (by have := HA6.out.lt; omega); have n2 : ¬ (w6.heap.size = g2) := (by have := HA6.out.lt; omega); have n3 : ¬ (g3 = w6.heap.size) := (by have := HC6.out.lt; omega); have n4 : ¬ (w6.heap.size = g3) := (by have := HC6.out.lt; omega)))
        · have HA7 := Lib.hid (HA6.out.more (.cells (spA z) 23))
          have HC7 := Lib.hid (HC6.out.more (.cells (spA z) 23))
          have HX7 := Lib.hid (HX6.out.more (.cells (spA z) 23))
          have HY7 := Lib.hid (HY6.out.more (.cells (spA z) 23))
          have HB7 := Lib.hid (HB6.out.alloc HB6.out.size (.cells (spA z) 23))
          go_wp2_with fail
          go_meet
          exact ⟨rfl, HA7.out, HC7.out, HX7.out, HY7.out, HB7.out⟩
        · have HA7 := Lib.hid (show RowIn _ _ ((((((((w6.setCell ⟨w5.heap.size, 0, none⟩ (.int .i64 z.trace)).setCell ⟨w5.heap.size, 1, none⟩ (.int .i64 z.id)).setCell ⟨w5.heap.size, 2, none⟩ (.int .i64 z.parent)).setCell ⟨w5.heap.size, 3, none⟩ (.string (S z.svc))).setCell ⟨w5.heap.size, 4, none⟩ (.string (S z.host))).setCell ⟨w5.heap.size, 5, none⟩ (.int .i64 z.start)).setCell ⟨w5.heap.size, 6, none⟩ (.int .i64 z.dur)).setCell ⟨w5.heap.size, 7, none⟩ (.string (S z.note))) g2 from ((((((((HA6.out.other m1 0 _).other m1 1 _).other m1 2 _).other m1 3 _).other m1 4 _).other m1 5 _).other m1 6 _).other m1 7 _)); have HC7 := Lib.hid (show RowIn _ _ ((((((((w6.setCell ⟨w5.heap.size, 0, none⟩ (.int .i64 z.trace)).setCell ⟨w5.heap.size, 1, none⟩ (.int .i64 z.id)).setCell ⟨w5.heap.size, 2, none⟩ (.int .i64 z.parent)).setCell ⟨w5.heap.size, 3, none⟩ (.string (S z.svc))).setCell ⟨w5.heap.size, 4, none⟩ (.string (S z.host))).setCell ⟨w5.heap.size, 5, none⟩ (.int .i64 z.start)).setCell ⟨w5.heap.size, 6, none⟩ (.int .i64 z.dur)).setCell ⟨w5.heap.size, 7, none⟩ (.string (S z.note))) g3 from ((((((((HC6.out.other m3 0 _).other m3 1 _).other m3 2 _).other m3 3 _).other m3 4 _).other m3 5 _).other m3 6 _).other m3 7 _)); have HX7 := Lib.hid (show RowIn _ _ ((((((((w6.setCell ⟨w5.heap.size, 0, none⟩ (.int .i64 z.trace)).setCell ⟨w5.heap.size, 1, none⟩ (.int .i64 z.id)).setCell ⟨w5.heap.size, 2, none⟩ (.int .i64 z.parent)).setCell ⟨w5.heap.size, 3, none⟩ (.string (S z.svc))).setCell ⟨w5.heap.size, 4, none⟩ (.string (S z.host))).setCell ⟨w5.heap.size, 5, none⟩ (.int .i64 z.start)).setCell ⟨w5.heap.size, 6, none⟩ (.int .i64 z.dur)).setCell ⟨w5.heap.size, 7, none⟩ (.string (S z.note))) W.heap.size from ((((((((HX6.out.other HM5.out 0 _).other HM5.out 1 _).other HM5.out 2 _).other HM5.out 3 _).other HM5.out 4 _).other HM5.out 5 _).other HM5.out 6 _).other HM5.out 7 _)); have HY7 := Lib.hid (show RowIn _ _ ((((((((w6.setCell ⟨w5.heap.size, 0, none⟩ (.int .i64 z.trace)).setCell ⟨w5.heap.size, 1, none⟩ (.int .i64 z.id)).setCell ⟨w5.heap.size, 2, none⟩ (.int .i64 z.parent)).setCell ⟨w5.heap.size, 3, none⟩ (.string (S z.svc))).setCell ⟨w5.heap.size, 4, none⟩ (.string (S z.host))).setCell ⟨w5.heap.size, 5, none⟩ (.int .i64 z.start)).setCell ⟨w5.heap.size, 6, none⟩ (.int .i64 z.dur)).setCell ⟨w5.heap.size, 7, none⟩ (.string (S z.note))) (W.heap.size + 1) from ((((((((HY6.out.other HM6.out 0 _).other HM6.out 1 _).other HM6.out 2 _).other HM6.out 3 _).other HM6.out 4 _).other HM6.out 5 _).other HM6.out 6 _).other HM6.out 7 _)); have HB7 := Lib.hid (show Below W.heap.size W ((((((((w6.setCell ⟨w5.heap.size, 0, none⟩ (.int .i64 z.trace)).setCell ⟨w5.heap.size, 1, none⟩ (.int .i64 z.id)).setCell ⟨w5.heap.size, 2, none⟩ (.int .i64 z.parent)).setCell ⟨w5.heap.size, 3, none⟩ (.string (S z.svc))).setCell ⟨w5.heap.size, 4, none⟩ (.string (S z.host))).setCell ⟨w5.heap.size, 5, none⟩ (.int .i64 z.start)).setCell ⟨w5.heap.size, 6, none⟩ (.int .i64 z.dur)).setCell ⟨w5.heap.size, 7, none⟩ (.string (S z.note))) from ((((((((HB6.out.setCell (by have := HBS.out; simp; omega) _).setCell (by have := HBS.out; simp; omega) _).setCell (by have := HBS.out; simp; omega) _).setCell (by have := HBS.out; simp; omega) _).setCell (by have := HBS.out; simp; omega) _).setCell (by have := HBS.out; simp; omega) _).setCell (by have := HBS.out; simp; omega) _).setCell (by have := HBS.out; simp; omega) _))
          go_wp2_with fail
          go_meet
          exact ⟨rfl, HA7.out, HC7.out, HX7.out, HY7.out, HB7.out⟩
      case rest =>
      obtain ⟨rfl, h1, h2, h3, h4, h5⟩ := hcut
      replace HA := Lib.hid h1
      replace HC := Lib.hid h2
      replace HX := Lib.hid h3
      replace HY := Lib.hid h4
      replace HB := Lib.hid h5
      clear h1 h2 h3 h4 h5
      have x3 := HX.out.cell 3
      have x4 := HX.out.cell 4
      have x5 := HX.out.cell 5
      have y3 := HY.out.cell 3
      have y4 := HY.out.cell 4
      have y5 := HY.out.cell 5
      go_upto_region 9 with (fail)
      go_cut [12] from 79 to 101 (fun c wx => c = .bool A ∧ RowIn #[.string (S kx), .int .i64 0, .string (S ex), .string (S ix), .int .i64 0, .string (S [])] 25 wx g2 ∧ RowIn #[.string (S ky), .int .i64 0, .string (S ey), .string (S iy), .int .i64 0, .string (S [])] 25 wx g3 ∧ Below W.heap.size W wx)
      case first =>
        cases B with
        | false =>
          have hA : A = false := by rw [← HAD.out]; simp [*]
          have HAA := Lib.hid hA
          clear hA
          go_wp2_with fail
          go_meet
          exact ⟨congrArg Value.bool HAA.out.symm, HA.out, HC.out, HB.out⟩
        | true =>
          cases h3 : x.svc == y.svc with
          | false =>
            have hA : A = false := by rw [← HAD.out]; simp [*]
            have HAA := Lib.hid hA
            clear hA
            go_wp2_with fail
            go_meet
            exact ⟨congrArg Value.bool HAA.out.symm, HA.out, HC.out, HB.out⟩
          | true =>
            cases h4 : x.host == y.host with
            | false =>
              have hA : A = false := by rw [← HAD.out]; simp [*]
              have HAA := Lib.hid hA
              clear hA
              go_wp2_with fail
              go_meet
              exact ⟨congrArg Value.bool HAA.out.symm, HA.out, HC.out, HB.out⟩
            | true =>
              cases h5 : x.start == y.start with
              | false =>
                have hA : A = false := by rw [← HAD.out]; simp [*]
                have HAA := Lib.hid hA
                clear hA
                go_wp2_with fail
                go_meet
                exact ⟨congrArg Value.bool HAA.out.symm, HA.out, HC.out, HB.out⟩
              | true =>
                have hA : A = true := by rw [← HAD.out]; simp [*]
                have HAA := Lib.hid hA
                clear hA
                go_wp2_with fail
                go_meet
                exact ⟨congrArg Value.bool HAA.out.symm, HA.out, HC.out, HB.out⟩
      case rest =>
      obtain ⟨rfl, h1, h2, h5⟩ := hcut
      replace HA := Lib.hid h1
      replace HC := Lib.hid h2
      replace HB := Lib.hid h5
      clear h1 h2 h5 x3 x4 x5 y3 y4 y5
      have k0 := HA.out.gcell 0 rfl
      have k3 := HA.out.gcell 3 rfl
      have l0 := HC.out.gcell 0 rfl
      have l3 := HC.out.gcell 3 rfl
      have hk := HK.out
      have hi := HI.out
      have hn := HN.out
      go_wp2_with fail
      refine wp_region_quiet_below (by kernel_rfl) (by kernel_rfl) ?_
      repeat (any_goals (first | go_big_quiet_step ((go_at_call 10; with_reducible exact Calls.regrown_of (CL.out _))) | quiet_step ((go_at_call 10; with_reducible exact Calls.regrown_of (CL.out _)))))
      refine wpQuiet_nil ?_
      intro _ hw1
      obtain ⟨⟨d1, d1o⟩, hw1⟩ := hw1
      subst hw1
      replace HB := carry (below_regrown wc d1 d1o) HB
      go_wp2_with fail
      go_ret
      exact ⟨rfl, HB.out⟩

end Go.Proofs.Ytjlddackpckmfaa
