/- Layer 6: HostlogNone. -/
import Derived.Test.YtmammmjmipgmoaaGreatDoorHlAi
import Derived.Test.YtmammmjmipgmoaaGreatDoorHlAj
import Derived.Test.YtmammmjmipgmoaaGreatDoorHlAh
namespace Go.Proofs.YtmammmjmipgmoaaGreatDoor
set_option linter.unusedVariables false
open Go Go.RowKit Go.Maps

open Hl in
theorem ld_crash (n : Nat) : LdOk (Dk.crash [] (Dk.new n)).2 [] [] := ⟨Has0.nums ⟨⟨List.Pairwise.nil, (fun f hf => by cases hf), (fun f hf => by cases hf)⟩, (fun f hf => by cases hf)⟩, (fun i hi => by simp at hi), (fun s hs => by cases hs), tail_nil, (fun i hi => by simp at hi), by simp, (fun s hs => by cases hs), fun _ => rfl⟩
open Hl in
theorem open_crash (n : Nat) : openR [] [] (Dk.crash [] (Dk.new n)).2 = (51, (Dk.crash [] (Dk.new n)).2) := by
  unfold openR
  rw [if_pos (by simp [Dk.crash, Dk.new, Dk.fall])]
theorem one_act6 {w : World} {y : Ra6} {T : TypeId} {b : Nat} (h : Bk (raA6 y) T w b) (hk : NsA5 w y.o y.keep) : RasAt6 w (some ⟨b, 0, none⟩) [y] := fun _ => ⟨b, 0, rfl, fun j hj => by
  obtain rfl : j = 0 := by simpa using hj
  exact ⟨⟨h.cell 0, h.cell 1, h.cell 2, h.cell 3, h.cell 4, h.cell 5, h.cell 6, h.cell 7, h.cell 8, h.cell 9, h.cell 10, h.cell 11⟩, hk⟩⟩
open Hl in
set_option maxHeartbeats 8000000 in
set_option maxRecDepth 100000 in
theorem hostlogNone_y (w : World) (hv : Vr w) (y : Ra6) (hI : RaW6 y) (hk : NsA5 w y.o y.keep) : Calls Tryz.prog 4 #[.agg (raA6 y)] w fun e w' => e = .returned (.bool true) ∧ Below w.heap.size w w' := by
  have hb2 := below_two5 w (.cells (raA6 y) 42) (.cells (raA6 y) 42)
  have k1 := (bk_new (raA6 y) 42 w).more (.cells (raA6 y) 42)
  have k2 := bk_new (raA6 y) 42 (w.alloc (.cells (raA6 y) 42))
  rw [World.size_alloc] at k2
  have CG := Lib.hid (show Calls Tryz.prog 10 #[.slice (some ⟨w.heap.size + 1, 0, none⟩) 1 1] _ (GreatR6 [y] _) from great6 [y] (some ⟨w.heap.size + 1, 0, none⟩) 1 _ ⟨by simp, fun r hr => by rw [List.mem_singleton.1 hr]; exact hI⟩ (one_act6 k2 (hk.below hb2)))
  have HV := Lib.hid hv
  have HB2 := Lib.hid hb2
  have K1 := Lib.hid k1
  clear hv hI hk hb2 k1 k2
  unfold raA6 at CG K1 HB2
  show Calls Tryz.prog 4 #[.agg #[.int .u8 y.kind, .int .i64 y.s.trace, .int .i64 y.s.id, .int .i64 y.s.parent, .string (S y.s.svc), .string (S y.s.host), .int .i64 y.s.start, .int .i64 y.s.dur, .string (S y.s.note), .int .i64 y.n, .int .i64 y.m, .slice y.o y.keep.length y.k]] w _
  go_enter Tryz.func4, Tryz.ntmps4
  go_wp2_with fail
  with_reducible refine CG.out.mono ?_
  rintro e w2 (⟨rfl, rfl⟩ | ⟨rfl, hfew, rfl⟩)
  · go_wp2_with fail
    go_ret
    exact ⟨rfl, HB2.out⟩
  have HF := Lib.hid (hfew.each 0 (by simp))
  clear hfew CG
  obtain ⟨bx, hbx⟩ : ∃ x, x = w.heap.size := ⟨_, rfl⟩
  rw [← hbx] at K1 ⊢
  clear hbx
  generalize (w.alloc (.cells #[.int .u8 y.kind, .int .i64 y.s.trace, .int .i64 y.s.id, .int .i64 y.s.parent, .string (S y.s.svc), .string (S y.s.host), .int .i64 y.s.start, .int .i64 y.s.dur, .string (S y.s.note), .int .i64 y.n, .int .i64 y.m, .slice y.o y.keep.length y.k] 42)).alloc (.cells #[.int .u8 y.kind, .int .i64 y.s.trace, .int .i64 y.s.id, .int .i64 y.s.parent, .string (S y.s.svc), .string (S y.s.host), .int .i64 y.s.start, .int .i64 y.s.dur, .string (S y.s.note), .int .i64 y.n, .int .i64 y.m, .slice y.o y.keep.length y.k] 42) = w1 at *
  have HI0 := Lib.hid (show Below w.heap.size w w1 ∧ Bk (raA6 y) 42 w1 bx from ⟨HB2.out, K1.out⟩)
  clear HB2 K1
  go_wp2_with fail
  go_loopw [3] (fun v wr => ∃ iv : Int, v = .int .i64 iv ∧ (iv = 0 ∨ iv = 1 ∨ iv = 2) ∧ Hid (Below w.heap.size w wr ∧ Bk (raA6 y) 42 wr bx)) (fun v _ => 2 - (intOf v).toNat)
  case atStart => exact ⟨0, rfl, .inl rfl, HI0⟩
  case round =>
  clear HI0
  obtain ⟨w3, rfl⟩ : ∃ x, x = wr := ⟨_, rfl⟩
  obtain ⟨iv, rfl, hiv, HH⟩ := hrel
  rcases hiv with rfl | rfl | rfl
  · have HNL := Lib.hid (show ∀ W, Below w3.heap.size w3 W → NoLg W (none) from fun W k => (.inl rfl))
    have HND := Lib.hid (show ∀ W, Below w3.heap.size w3 W → NoDk W (none) from fun W k => (.inl rfl))
    have HBK2 := Lib.hid (show ∀ W, Below w3.heap.size w3 W → Bk (raA6 y) 42 W bx from fun W k => (HH.out.2.below k))
    have HBW := Lib.hid (show ∀ W, Below w3.heap.size w3 W → Below w.heap.size w W from fun W k => below_step (HH.out.1) k)
    have x9 : w3.cell? ⟨bx, 9, none⟩ = some (.int .i64 y.n) := (HBK2.out _ (Below.refl _ _)).cell 9
    have x10 : w3.cell? ⟨bx, 10, none⟩ = some (.int .i64 y.m) := (HBK2.out _ (Below.refl _ _)).cell 10
    go_wp2_with fail
    with_reducible refine (readN6 (HNL.out _ (Below.refl _ _)) y.n y.m).mono ?_
    rintro e wa ⟨rfl, hb⟩
    have HB := Lib.hid hb
    clear hb x9 x10
    go_wp2_with fail
    with_reducible refine (openN6 (HND.out _ HB.out)).mono ?_
    rintro e wb ⟨rfl, hb⟩
    replace HB := Lib.hid (below_step HB.out hb)
    clear hb
    have hbk := HBK2.out _ HB.out
    have y1 := hbk.cell 1
    have y2 := hbk.cell 2
    have y3 := hbk.cell 3
    have y4 := hbk.cell 4
    have y5 := hbk.cell 5
    have y6 := hbk.cell 6
    have y7 := hbk.cell 7
    have y8 := hbk.cell 8
    simp only [raA6, List.getElem?_toArray, List.getElem?_cons_succ, List.getElem?_cons_zero] at y1 y2 y3 y4 y5 y6 y7 y8
    clear hbk
    go_wp2_with fail
    with_reducible refine (appendN6 (HNL.out _ HB.out) y.s).mono ?_
    rintro e wc0 ⟨rfl, hb⟩
    replace HB := Lib.hid (below_step HB.out hb)
    clear hb
    go_wp2_with fail
    with_reducible refine (syncN6 (HNL.out _ HB.out)).mono ?_
    rintro e wc1 ⟨rfl, hb⟩
    replace HB := Lib.hid (below_step HB.out hb)
    clear hb
    go_wp2_with fail
    with_reducible refine (rotateN6 (HNL.out _ HB.out)).mono ?_
    rintro e wc2 ⟨rfl, hb⟩
    replace HB := Lib.hid (below_step HB.out hb)
    clear hb
    have z9 := (HBK2.out _ HB.out).cell 9
    simp only [raA6, List.getElem?_toArray, List.getElem?_cons_succ, List.getElem?_cons_zero] at z9
    go_wp2_with fail
    with_reducible refine (retainN6 (HNL.out _ HB.out) y.n).mono ?_
    rintro e wc3 ⟨rfl, hb⟩
    replace HB := Lib.hid (below_step HB.out hb)
    clear hb
    go_wp2_with fail
    with_reducible refine (firstN6 (HNL.out _ HB.out)).mono ?_
    rintro e wc4 ⟨rfl, hb⟩
    replace HB := Lib.hid (below_step HB.out hb)
    clear hb
    go_wp2_with fail
    with_reducible refine (sureN6 (HNL.out _ HB.out)).mono ?_
    rintro e wc5 ⟨rfl, hb⟩
    replace HB := Lib.hid (below_step HB.out hb)
    clear hb
    go_wp2_with fail
    with_reducible refine (endN6 (HNL.out _ HB.out)).mono ?_
    rintro e wc6 ⟨rfl, hb⟩
    replace HB := Lib.hid (below_step HB.out hb)
    clear hb
    go_wp2_with fail
    with_reducible refine (segmentsN6 (HNL.out _ HB.out)).mono ?_
    rintro e wc7 ⟨rfl, hb⟩
    replace HB := Lib.hid (below_step HB.out hb)
    clear hb
    go_wp2_with fail
    go_roundw
    case rel => exact ⟨1, rfl, by simp, Lib.hid ⟨HBW.out _ HB.out, HBK2.out _ HB.out⟩⟩
    case measure => simp [intOf]
  · have hz := below_two5 w3 (.cells #[.pointer none, .int .i64 0, .bool false, .slice none 0 0] 48) (.cells #[.int .i64 0, .int .i64 0, .map none, .bool false, .int .i64 0, .nilFunc] 51)
    have q1 := (bk_new #[.pointer none, .int .i64 0, .bool false, .slice none 0 0] 48 w3).more (.cells #[.int .i64 0, .int .i64 0, .map none, .bool false, .int .i64 0, .nilFunc] 51)
    have q2 := bk_new #[.int .i64 0, .int .i64 0, .map none, .bool false, .int .i64 0, .nilFunc] 51 (w3.alloc (.cells #[.pointer none, .int .i64 0, .bool false, .slice none 0 0] 48))
    rw [World.size_alloc] at q2
    have HZ := Lib.hid hz
    have Q1 := Lib.hid q1
    have Q2 := Lib.hid q2
    clear hz q1 q2
    go_upto_region 11 with fail
    generalize (w3.alloc (.cells #[.pointer none, .int .i64 0, .bool false, .slice none 0 0] 48)).alloc (.cells #[.int .i64 0, .int .i64 0, .map none, .bool false, .int .i64 0, .nilFunc] 51) = w5 at *
    have HNL := Lib.hid (show ∀ W, Below w5.heap.size w5 W → NoLg W (some ⟨w3.heap.size, 0, none⟩) from fun W k => (.inr ⟨_, rfl, Q1.out.below k⟩))
    have HND := Lib.hid (show ∀ W, Below w5.heap.size w5 W → NoDk W (some ⟨w3.heap.size + 1, 0, none⟩) from fun W k => (.inr ⟨_, rfl, Q2.out.below k⟩))
    have HBK2 := Lib.hid (show ∀ W, Below w5.heap.size w5 W → Bk (raA6 y) 42 W bx from fun W k => ((HH.out.2.below HZ.out).below k))
    have HBW := Lib.hid (show ∀ W, Below w5.heap.size w5 W → Below w.heap.size w W from fun W k => below_step (below_step HH.out.1 HZ.out) k)
    have x9 : w5.cell? ⟨bx, 9, none⟩ = some (.int .i64 y.n) := (HBK2.out _ (Below.refl _ _)).cell 9
    have x10 : w5.cell? ⟨bx, 10, none⟩ = some (.int .i64 y.m) := (HBK2.out _ (Below.refl _ _)).cell 10
    go_wp2_with fail
    with_reducible refine (readN6 (HNL.out _ (Below.refl _ _)) y.n y.m).mono ?_
    rintro e wa ⟨rfl, hb⟩
    have HB := Lib.hid hb
    clear hb x9 x10
    go_wp2_with fail
    with_reducible refine (openN6 (HND.out _ HB.out)).mono ?_
    rintro e wb ⟨rfl, hb⟩
    replace HB := Lib.hid (below_step HB.out hb)
    clear hb
    have hbk := HBK2.out _ HB.out
    have y1 := hbk.cell 1
    have y2 := hbk.cell 2
    have y3 := hbk.cell 3
    have y4 := hbk.cell 4
    have y5 := hbk.cell 5
    have y6 := hbk.cell 6
    have y7 := hbk.cell 7
    have y8 := hbk.cell 8
    simp only [raA6, List.getElem?_toArray, List.getElem?_cons_succ, List.getElem?_cons_zero] at y1 y2 y3 y4 y5 y6 y7 y8
    clear hbk
    go_wp2_with fail
    with_reducible refine (appendN6 (HNL.out _ HB.out) y.s).mono ?_
    rintro e wc0 ⟨rfl, hb⟩
    replace HB := Lib.hid (below_step HB.out hb)
    clear hb
    go_wp2_with fail
    with_reducible refine (syncN6 (HNL.out _ HB.out)).mono ?_
    rintro e wc1 ⟨rfl, hb⟩
    replace HB := Lib.hid (below_step HB.out hb)
    clear hb
    go_wp2_with fail
    with_reducible refine (rotateN6 (HNL.out _ HB.out)).mono ?_
    rintro e wc2 ⟨rfl, hb⟩
    replace HB := Lib.hid (below_step HB.out hb)
    clear hb
    have z9 := (HBK2.out _ HB.out).cell 9
    simp only [raA6, List.getElem?_toArray, List.getElem?_cons_succ, List.getElem?_cons_zero] at z9
    go_wp2_with fail
    with_reducible refine (retainN6 (HNL.out _ HB.out) y.n).mono ?_
    rintro e wc3 ⟨rfl, hb⟩
    replace HB := Lib.hid (below_step HB.out hb)
    clear hb
    go_wp2_with fail
    with_reducible refine (firstN6 (HNL.out _ HB.out)).mono ?_
    rintro e wc4 ⟨rfl, hb⟩
    replace HB := Lib.hid (below_step HB.out hb)
    clear hb
    go_wp2_with fail
    with_reducible refine (sureN6 (HNL.out _ HB.out)).mono ?_
    rintro e wc5 ⟨rfl, hb⟩
    replace HB := Lib.hid (below_step HB.out hb)
    clear hb
    go_wp2_with fail
    with_reducible refine (endN6 (HNL.out _ HB.out)).mono ?_
    rintro e wc6 ⟨rfl, hb⟩
    replace HB := Lib.hid (below_step HB.out hb)
    clear hb
    go_wp2_with fail
    with_reducible refine (segmentsN6 (HNL.out _ HB.out)).mono ?_
    rintro e wc7 ⟨rfl, hb⟩
    replace HB := Lib.hid (below_step HB.out hb)
    clear hb
    go_wp2_with fail
    go_roundw
    case rel => exact ⟨2, rfl, by simp, Lib.hid ⟨HBW.out _ HB.out, HBK2.out _ HB.out⟩⟩
    case measure => simp [intOf]
  · have CN := Lib.hid (fun W => show Calls Tryz.prog 11 #[.int .i64 100] W (NewXd5 100 W) from newXd5 100 W (by decide) (by decide))
    have HW := Lib.hid HH.out.1
    clear HH
    go_wp2_with fail
    with_reducible refine (CN.out _).mono ?_
    rintro e w4 ⟨d, rfl, hd, hb, -⟩
    have HD := Lib.hid hd
    have HB4 := Lib.hid hb
    have HW4 := Lib.hid (below_step HW.out hb)
    clear hd hb CN
    have CC := Lib.hid (show Calls Tryz.prog 27 #[.pointer (some ⟨d, 0, none⟩), .slice none 0 0] w4 (OpX (fun _ => False) w3.heap.size d (Dk.crash [] (Dk.new 100)) w4) from crashX HD.out (fun k hk => hk.elim) HB4.out.size [] none 0 ⟨by decide, fun x hx => (by cases hx)⟩ (fun q => absurd rfl q) (fun a q => absurd rfl q))
    go_wp2_with fail
    with_reducible refine CC.out.mono ?_
    rintro e w5 ⟨rfl, hd, hw⟩
    have HB5 := Lib.hid (show Below w.heap.size w w5 from HW4.out.trans (hw.below (fun k hk => Nat.le_trans HW.out.size hk.1) HW4.out.size))
    have h3 := HV.out.sz
    have CO := Lib.hid (open6_any (X := fun _ => False) hd (fun k hk => hk.elim) (Nat.le_trans HB4.out.size hw.size) (HV.out.below HB5.out) (Nat.le_trans h3 HW.out.size) (by show (0 : Nat) ≤ _; omega) [] [] (ld_crash 100) (fun q => absurd rfl q))
    rw [open_crash] at CO
    clear hd hw h3 CC
    go_wp2_with fail
    with_reducible refine CO.out.mono ?_
    rintro e w6 ⟨hw, (⟨-, rfl, hd, hv6⟩ | ⟨h0, _⟩)⟩
    rotate_left
    · cases h0
    have HB6 := Lib.hid (show Below w.heap.size w w6 from HB5.out.trans (hw.below (fun k hk => Nat.le_trans HW.out.size hk.1) HB5.out.size))
    have CD := Lib.hid (does6 w6 hv6)
    clear hw hd hv6 CO
    go_wp2_with fail
    with_reducible refine CD.out.mono ?_
    rintro e w7 ⟨rfl, hb7⟩
    have HB7 := Lib.hid (below_step HB6.out hb7)
    clear hb7 CD
    go_wp2_with fail
    go_ret
    exact ⟨rfl, HB7.out⟩

/-- The law, for any opened argument. -/
theorem hostlogNone_calls (w : World) (hv : Vr w) (v : Value) (h : URa6 w v) : Calls Tryz.prog 4 #[v] w fun e w' => e = .returned (.bool true) ∧ Below w.heap.size w w' := by
  obtain ⟨y, rfl, hI, hk⟩ := h
  exact hostlogNone_y w hv y hI hk

end Go.Proofs.YtmammmjmipgmoaaGreatDoor
