/- Texts of lower layers, as one. -/
import Derived.Test.YtmammmjmipgmoaaGreatDoorZHg
/- Layer 6: does. By wip/tools/genhldoes.py. -/
namespace Go.Proofs.YtmammmjmipgmoaaGreatDoor
set_option linter.unusedVariables false
open Go Go.RowKit Go.Maps

open Hl in
theorem span6_any (n : Nat) (hn : n ≤ 1000) (w : World) : Calls Tryz.prog 35 #[.int .i64 (n : Nat)] w fun e w' => e = .returned (spA6 (spX n)) ∧ Below w.heap.size w w' := by
  have h1 : IntKind.i64.wrap (1 + (n : Int) % 7) = 1 + (n : Int) % 7 := IntWalk.i64_in _ (by omega)
  have h2 : IntKind.i64.wrap (1 + (n : Int)) = 1 + (n : Int) := IntWalk.i64_in _ (by omega)
  have h3 : Int.tmod (n : Int) 7 = (n : Int) % 7 := Int.tmod_eq_emod_of_nonneg (by omega)
  have h4 : IntKind.i64.wrap ((n : Int) % 7) = (n : Int) % 7 := IntWalk.i64_in _ (by omega)
  go_enter Tryz.func35, Tryz.ntmps35
  go_wp2_with fail
  have hk := bk_new #[.int .i64 (1 + (n : Int) % 7), .int .i64 (1 + (n : Int)), .int .i64 0, .string (S [115]), .string (S [104]), .int .i64 (n : Int), .int .i64 0, .string (S [])] 39 w
  refine bodyPost_ret (ret_sp1 rfl _ _ w.heap.size (spX n) rfl hk) rfl ⟨rfl, (Below.refl _ _).alloc (Nat.le_refl _) _⟩
theorem two_bk6 {w : World} {p q : List UInt8} {g : Nat} (h : Bk #[.string (S p), .string (S q)] 9 w g) : TsA5 w (some ⟨g, 0, none⟩) [p, q] := fun _ => ⟨g, 0, rfl, fun j hj => by
  have hj2 : j = 0 ∨ j = 1 := by simp at hj; omega
  rcases hj2 with rfl | rfl
  · exact h.cell 0
  · exact h.cell 1⟩
open Hl in
set_option maxHeartbeats 8000000 in
set_option maxRecDepth 100000 in
theorem does6 (w : World) (hv : Vr w) : Calls Tryz.prog 13 #[] w fun e w' => e = .returned (.bool true) ∧ Below w.heap.size w w' := by
  have CN := Lib.hid (show Calls Tryz.prog 11 #[.int .i64 5000] w (NewXd5 5000 w) from newXd5 5000 w (by decide) (by decide))
  have HV := Lib.hid hv
  clear hv
  go_enter Tryz.func13, Tryz.ntmps13
  go_wp2_with fail
  with_reducible refine CN.out.mono ?_
  rintro e w1 ⟨d, rfl, hd, hb, -⟩
  have h3 := HV.out.sz
  have CO := Lib.hid (open6_any (X := fun _ => False) hd (fun k hk => hk.elim) hb.size (HV.out.below hb) h3 (by show (0 : Nat) ≤ _; omega) [] [] (ld_new 5000) (fun q => absurd rfl q))
  rw [open_new] at CO
  have HB := Lib.hid hb
  have H3 := Lib.hid h3
  clear hd hb h3 CN
  go_wp2_with fail
  with_reducible refine CO.out.mono ?_
  rintro e w2 ⟨hw, (⟨h0, _⟩ | ⟨-, b, rfl, hbl, hg⟩)⟩
  · exact absurd rfl h0
  have HH := Lib.hid (show HgX (fun _ => False) w.heap.size b d (exI 0).1 (exI 0).2 w2 ∧ Below w.heap.size w w2 from ⟨hg, HB.out.trans (hw.below (fun k hk => hk.1) HB.out.size)⟩)
  clear hw hg HB CO
  go_wp2_with fail
  go_loopw [5] (fun v wr => ∃ i : Nat, i ≤ 17 ∧ v = .int .i64 i ∧ Hid (HgX (fun _ => False) w.heap.size b d (exI i).1 (exI i).2 wr ∧ Below w.heap.size w wr)) (fun v _ => 17 - (intOf v).toNat)
  case atStart => exact ⟨0, Nat.zero_le _, rfl, HH⟩
  case round =>
  clear HH
  obtain ⟨w3, rfl⟩ : ∃ x, x = wr := ⟨_, rfl⟩
  obtain ⟨i, hi, rfl, HH⟩ := hrel
  by_cases hlt : i < 17
  · have d1 : decide ((i : Int) < 17) = true := by simp; omega
    have d1' : decide (i < 17) = true := by simpa using hlt
    obtain ⟨x1, x2, x3⟩ := ex_okN hlt
    have CS := Lib.hid (fun W => span6_any i (by omega) W)
    have CA := Lib.hid (fun W (k : Below w3.heap.size w3 W) => append6_any (HH.out.1.below k) (fun k hk => hk.elim) (Nat.le_trans HH.out.2.size k.size) (spX i) (spX_fits (by omega)) x2 x3)
    have HEX := Lib.hid (show exI (i + 1) = ((append6 (spX i) (exI i).2 (exI i).1).2.1, (append6 (spX i) (exI i).2 (exI i).1).2.2) from rfl)
    have HX1 := Lib.hid x1
    have hwi : IntKind.i64.wrap ((i : Int) + 1) = (i : Int) + 1 := IntWalk.i64_in _ (by omega)
    clear x1 x2 x3
    generalize append6 (spX i) (exI i).2 (exI i).1 = r at *
    generalize spA6 (spX i) = sv at *
    go_wp2_with fail
    with_reducible refine (CS.out _).mono ?_
    rintro e w4 ⟨rfl, hb4⟩
    have HB4 := Lib.hid hb4
    clear hb4 CS
    go_wp2_with fail
    with_reducible refine (CA.out _ HB4.out).mono ?_
    rintro e w5 ⟨rfl, hg, hw⟩
    have HH5 := Lib.hid (show HgX (fun _ => False) w.heap.size b d (exI (i + 1)).1 (exI (i + 1)).2 w5 ∧ Below w.heap.size w w5 from by
      rw [HEX.out]
      exact ⟨hg, (below_step HH.out.2 HB4.out).trans (hw.below (fun k hk => hk.1) (Nat.le_trans HH.out.2.size HB4.out.size))⟩)
    have dx := HX1.out
    clear hg hw CA
    rw [dx]
    clear dx
    go_wp2_with fail
    go_roundw
    case rel => exact ⟨i + 1, by omega, by go_num, HH5⟩
    case measure => simp [intOf]; omega
  · have d1 : decide ((i : Int) < 17) = false := by simp; omega
    have d1' : decide (i < 17) = false := by simpa using hlt
    obtain rfl : i = 17 := by omega
    have HE2 := Lib.hid (show sureL ex17.1 ex17.2 ≤ 1000 from by rw [ex_sure]; decide)
    have CR1 := Lib.hid (fun W (k : Below w3.heap.size w3 W) => show Calls Tryz.prog 17 #[.pointer (some ⟨b, 0, none⟩), .int .i64 15, .int .i64 9] W fun e w' => ∃ ao cap, e = .returned (.tuple #[.slice ao 1 cap, .int .i64 16, .int .i64 0]) ∧ w'.ownsRow W.heap.size 39 8 (.slice ao 1 cap) 1 (sps [spX 15]) ∧ Below W.heap.size W w' from by
      have := readAll6_any (HH.out.1.below k) exZ ex_seg ex_rd 15 9 (by decide) (by decide) HE2.out
      rw [show readS exZ (exI 17).1 (exI 17).2 15 9 = [spX 15] from ex_s1, show readNb (exI 17).1 (exI 17).2 15 9 = 16 from ex_n1, show readE (exI 17).1 (exI 17).2 15 9 = 0 from ex_e1] at this
      exact this)
    have CR2 := Lib.hid (fun W (k : Below w3.heap.size w3 W) => show Calls Tryz.prog 17 #[.pointer (some ⟨b, 0, none⟩), .int .i64 17, .int .i64 1] W fun e w' => ∃ ao cap, e = .returned (.tuple #[.slice ao 0 cap, .int .i64 0, .int .i64 4]) ∧ Below W.heap.size W w' from by
      have := readAll6_any (HH.out.1.below k) exZ ex_seg ex_rd 17 1 (by decide) (by decide) HE2.out
      have e1 : readE (exI 17).1 (exI 17).2 17 1 = 4 := ex_e2
      have e2 : readS exZ (exI 17).1 (exI 17).2 17 1 = [] := by unfold readS; rw [e1]; rfl
      have e3 : readNb (exI 17).1 (exI 17).2 17 1 = 0 := by unfold readNb; rw [e1]; rfl
      rw [e1, e2, e3] at this
      exact this.mono fun e w' ⟨ao, cap, h1, _, h2⟩ => ⟨ao, cap, h1, h2⟩)
    have CNm0 := Lib.hid (fun W (k : Below w3.heap.size w3 W) => show Calls Tryz.prog 36 #[.pointer (some ⟨d, 0, none⟩)] W (RowT [[108, 48], [108, 49, 54]] W) from by
      obtain ⟨vs, P, h1, h2, h3, h4, h5⟩ := HH.out.1.below k
      have := namesX h2
      rw [show Dk.names (exI 17).1.L = [[108, 48], [108, 49, 54]] from ex_names] at this
      exact this)
    have CSu0 := Lib.hid (fun W (k : Below w3.heap.size w3 W) => show Calls Tryz.prog 24 #[.pointer (some ⟨b, 0, none⟩)] W fun e w' => e = .returned (.int .i64 16) ∧ Below W.heap.size W w' from by
      have := sure6_any (HH.out.1.below k) (srt_of ex_seg)
      rw [show sureL (exI 17).1 (exI 17).2 = 16 from ex_sure] at this
      exact this)
    have CEn0 := Lib.hid (fun W (k : Below w3.heap.size w3 W) => show Calls Tryz.prog 25 #[.pointer (some ⟨b, 0, none⟩)] W fun e w' => e = .returned (.int .i64 17) ∧ Below W.heap.size W w' from by
      have := end6_any (HH.out.1.below k)
      rw [show endL (exI 17).1 (exI 17).2 = 17 from ex_end] at this
      exact this)
    have CSp := Lib.hid (fun W => show Calls Tryz.prog 35 #[.int .i64 15] W fun e w' => e = .returned (.agg #[.int .i64 2, .int .i64 16, .int .i64 0, .string (S [115]), .string (S [104]), .int .i64 15, .int .i64 0, .string (S [])]) ∧ Below W.heap.size W w' from span6_any 15 (by decide) W)
    have CTx := Lib.hid (fun (V : World) (an : Option Addr) (cn bq : Nat) (h1 : TsA5 V an [[108, 48], [108, 49, 54]]) (h2 : Bk #[.string (S [108, 48]), .string (S [108, 49, 54])] 9 V bq) => show Calls Tryz.prog 39 #[.slice an 2 cn, .slice (some ⟨bq, 0, none⟩) 2 2] V fun e w' => e = .returned (.bool true) ∧ Below V.heap.size V w' from
      sameTexts5_any [[108, 48], [108, 49, 54]] [[108, 48], [108, 49, 54]] (by decide) (by decide) an _ cn 2 V h1 (two_bk6 h2))
    have HHX := Lib.hid (show HgX (fun _ => False) w.heap.size b d ex17.1 ex17.2 w3 ∧ Below w.heap.size w w3 from HH.out)
    clear HE2 HH
    go_wp2_with fail
    with_reducible refine (CR1.out _ (Below.refl _ _)).mono ?_
    rintro e w4 ⟨ao, cap, rfl, hr, hb4⟩
    have HR4 := Lib.hid hr
    have HB4 := Lib.hid hb4
    clear hr hb4 CR1
    go_wp2_with fail
    with_reducible refine (CR2.out _ HB4.out).mono ?_
    rintro e w5 ⟨ao2, cap2, rfl, hb5⟩
    have HB5 := Lib.hid (below_step HB4.out hb5)
    have HR5 := Lib.hid (row_below5 HR4.out hb5)
    clear hb5 CR2 HR4
    go_upto_region 12 with fail
    obtain ⟨gs, os, cs, hsl, -, -, k3, -, -, k6⟩ := (ofr_own HR5.out).shape (by decide)
    simp only [Value.slice.injEq, true_and] at hsl
    obtain ⟨rfl, rfl⟩ := hsl
    have HS := Lib.hid (show ∀ V, Below w5.heap.size w5 V → V.cell? ⟨gs, os, none⟩ = some (.int .i64 2) ∧ V.cell? ⟨gs, os + 1, none⟩ = some (.int .i64 16) ∧ V.cell? ⟨gs, os + 2, none⟩ = some (.int .i64 0) ∧ V.cell? ⟨gs, os + 3, none⟩ = some (.string (S [115])) ∧ V.cell? ⟨gs, os + 4, none⟩ = some (.string (S [104])) ∧ V.cell? ⟨gs, os + 5, none⟩ = some (.int .i64 15) ∧ V.cell? ⟨gs, os + 6, none⟩ = some (.int .i64 0) ∧ V.cell? ⟨gs, os + 7, none⟩ = some (.string (S [])) from fun V hV =>
      ⟨cell_below6 (k3 0 (by decide)) hV, cell_below6 (k3 1 (by decide)) hV, cell_below6 (k3 2 (by decide)) hV, cell_below6 (k3 3 (by decide)) hV, cell_below6 (k3 4 (by decide)) hV, cell_below6 (k3 5 (by decide)) hV, cell_below6 (k3 6 (by decide)) hV, cell_below6 (k3 7 (by decide)) hV⟩)
    have CNm := Lib.hid (fun W (k : Below w5.heap.size w5 W) => CNm0.out W (below_step HB5.out k))
    have CSu := Lib.hid (fun W (k : Below w5.heap.size w5 W) => CSu0.out W (below_step HB5.out k))
    have CEn := Lib.hid (fun W (k : Below w5.heap.size w5 W) => CEn0.out W (below_step HB5.out k))
    have HHY := Lib.hid (fun W (k : Below w5.heap.size w5 W) => (⟨HHX.out.1.below (below_step HB5.out k), below_step HHX.out.2 (below_step HB5.out k)⟩ : HgX (fun _ => False) w.heap.size b d ex17.1 ex17.2 W ∧ Below w.heap.size w W))
    clear k3 k6 CNm0 CSu0 CEn0 HHX HB4 HB5 HR5
    have HE := Lib.hid (Below.refl w5.heap.size w5).drew
    refine wp_region_held_drew (S := fun V => V.cell? ⟨gs, os, none⟩ = some (.int .i64 2) ∧ V.cell? ⟨gs, os + 1, none⟩ = some (.int .i64 16) ∧ V.cell? ⟨gs, os + 2, none⟩ = some (.int .i64 0) ∧ V.cell? ⟨gs, os + 3, none⟩ = some (.string (S [115])) ∧ V.cell? ⟨gs, os + 4, none⟩ = some (.string (S [104])) ∧ V.cell? ⟨gs, os + 5, none⟩ = some (.int .i64 15) ∧ V.cell? ⟨gs, os + 6, none⟩ = some (.int .i64 0) ∧ V.cell? ⟨gs, os + 7, none⟩ = some (.string (S []))) (by kernel_rfl) ?_ (fun hHeld => ?_)
    · exact HS.out _ HE.out
    obtain ⟨wq, hwq⟩ : ∃ x, x = World.drew w5 := ⟨_, rfl⟩
    rw [← hwq] at HE hHeld ⊢
    clear hwq
    refine wpAnyH_take (i := 0) (oi := { dst := some 56, op := Op.move (Operand.tmp 1), type := 24, pos := "law.go:33", after := #[], guard := none }) (v := ?_) rfl (by kernel_rfl) (by kernel_rfl) (by kernel_rfl) (fun _ _ _ h => h) (Or.inl ⟨by rfl, ?_⟩) (by assumption) ?_
    rotate_left
    · (intro w hSw; (try dsimp only at hSw); go_simp); (first | done | with_reducible rfl)
    try simp only [Act.put, List.setIfInBounds_toArray, List.set_cons_zero, List.set_cons_succ]
    refine wpAnyH_ready (rs := [1, 2]) (by kernel_rfl) (by simp) ?_
    refine AllReadyH.cons (o := { dst := some 57, op := Op.call { callee := Callee.value (Operand.func 36), args := #[Operand.tmp 56], argTypes := #[24] }, type := 74, pos := "law.go:33", after := #[{ on := 0, ground := Ground.data }], guard := none }) rfl (fun K hK => ?_) (AllReadyH.cons (o := { dst := some 58, op := Op.buildSlice 74 2 #[(0, Operand.const (Value.string { data := #[108, 48] })), (1, Operand.const (Value.string { data := #[108, 49, 54] }))], type := 74, pos := "law.go:33", after := #[], guard := none }) rfl (fun K hK => ?_) (AllReadyH.nil))
    · go_simp
      go_at_call 36
      with_reducible refine (CNm.out _ HE.out).mono ?_
      rintro e wq ⟨an, cn, rfl, hrn, hbn⟩
      have HN := Lib.hid (tsA_row5 hrn)
      replace HE := Lib.hid (below_step HE.out hbn)
      clear hrn hbn CNm
      go_wp2_with fail
      refine hK.out _ _ ?_ (fun hHeld => ?_)
      · exact HS.out _ HE.out
      clear hK K
      try simp only [Act.put, List.setIfInBounds_toArray, List.set_cons_zero, List.set_cons_succ]
      refine wpAnyH_ready (rs := [2]) (by kernel_rfl) (by simp) ?_
      refine AllReadyH.cons (o := { dst := some 58, op := Op.buildSlice 74 2 #[(0, Operand.const (Value.string { data := #[108, 48] })), (1, Operand.const (Value.string { data := #[108, 49, 54] }))], type := 74, pos := "law.go:33", after := #[], guard := none }) rfl (fun K hK => ?_) (AllReadyH.nil)
      go_simp
      have HQ := Lib.hid (bk_new #[.string (S [108, 48]), .string (S [108, 49, 54])] 9 wq)
      replace HE := Lib.hid (HE.out.alloc HE.out.size (.cells #[.string (S [108, 48]), .string (S [108, 49, 54])] 9))
      replace HN := Lib.hid (HN.out.below ((Below.refl wq.heap.size wq).alloc (Nat.le_refl _) (.cells #[.string (S [108, 48]), .string (S [108, 49, 54])] 9)))
      obtain ⟨bq, hbq⟩ : ∃ x, x = wq.heap.size := ⟨_, rfl⟩
      rw [← hbq] at HQ ⊢
      clear hbq
      generalize wq.alloc (.cells #[.string (S [108, 48]), .string (S [108, 49, 54])] 9) = wq2 at *
      refine hK.out _ _ ?_ (fun hHeld => ?_)
      · exact HS.out _ HE.out
      clear hK K
      try simp only [Act.put, List.setIfInBounds_toArray, List.set_cons_zero, List.set_cons_succ]
      refine wpAnyH_ready (rs := [3]) (by kernel_rfl) (by simp) ?_
      refine AllReadyH.cons (o := { dst := some 59, op := Op.call { callee := Callee.value (Operand.func 39), args := #[Operand.tmp 57, Operand.tmp 58], argTypes := #[74, 74] }, type := 4, pos := "law.go:33", after := #[{ on := 1, ground := Ground.data }, { on := 2, ground := Ground.data }, { on := 1, ground := Ground.chain }], guard := none }) rfl (fun K hK => ?_) (AllReadyH.nil)
      go_simp
      go_at_call 39
      with_reducible refine (CTx.out _ an cn bq HN.out HQ.out).mono ?_
      rintro e wt ⟨rfl, hbt⟩
      replace HE := Lib.hid (below_step HE.out hbt)
      clear hbt CTx HN HQ
      go_wp2_with fail
      refine hK.out _ _ ?_ (fun hHeld => ?_)
      · exact HS.out _ HE.out
      clear hK K
      try simp only [Act.put, List.setIfInBounds_toArray, List.set_cons_zero, List.set_cons_succ]
      refine wpAnyH_take (i := 4) (oi := { dst := some 60, op := Op.unOp UnOp.not 4 (Operand.tmp 59), type := 4, pos := "law.go:33", after := #[{ on := 3, ground := Ground.data }], guard := none }) (v := ?_) rfl (by kernel_rfl) (by kernel_rfl) (by kernel_rfl) (fun _ _ _ h => h) (Or.inl ⟨by rfl, ?_⟩) (by assumption) ?_
      rotate_left
      · (intro w hSw; (try dsimp only at hSw); go_simp); (first | done | with_reducible rfl)
      try simp only [Act.put, List.setIfInBounds_toArray, List.set_cons_zero, List.set_cons_succ]
      refine wpAnyH_take (i := 5) (oi := { dst := some 61, op := Op.move (Operand.tmp 60), type := 4, pos := "law.go:33", after := #[{ on := 4, ground := Ground.data }, { on := 3, ground := Ground.chain }], guard := none }) (v := ?_) rfl (by kernel_rfl) (by kernel_rfl) (by kernel_rfl) (fun _ _ _ h => h) (Or.inl ⟨by rfl, ?_⟩) (by assumption) ?_
      rotate_left
      · (intro w hSw; (try dsimp only at hSw); go_simp); (first | done | with_reducible rfl)
      try simp only [Act.put, List.setIfInBounds_toArray, List.set_cons_zero, List.set_cons_succ]
      refine wpAnyH_take (i := 6) (oi := { dst := some 62, op := Op.move (Operand.tmp 3), type := 33, pos := "law.go:33", after := #[{ on := 5, ground := Ground.guard }], guard := some (5, false) }) (v := ?_) rfl (by kernel_rfl) (by kernel_rfl) (by kernel_rfl) (fun _ _ _ h => h) (Or.inl ⟨by rfl, ?_⟩) (by assumption) ?_
      rotate_left
      · (intro w hSw; (try dsimp only at hSw); go_simp); (first | done | with_reducible rfl)
      try simp only [Act.put, List.setIfInBounds_toArray, List.set_cons_zero, List.set_cons_succ]
      refine wpAnyH_ready (rs := [7]) (by kernel_rfl) (by simp) ?_
      refine AllReadyH.cons (o := { dst := some 63, op := Op.call { callee := Callee.value (Operand.func 24), args := #[Operand.tmp 62], argTypes := #[33] }, type := 3, pos := "law.go:33", after := #[{ on := 6, ground := Ground.data }, { on := 5, ground := Ground.chain }, { on := 5, ground := Ground.guard }], guard := some (5, false) }) rfl (fun K hK => ?_) (AllReadyH.nil)
      go_simp
      go_at_call 24
      with_reducible refine (CSu.out _ HE.out).mono ?_
      rintro e wu ⟨rfl, hbt⟩
      replace HE := Lib.hid (below_step HE.out hbt)
      clear hbt CSu
      go_wp2_with fail
      refine hK.out _ _ ?_ (fun hHeld => ?_)
      · exact HS.out _ HE.out
      clear hK K
      try simp only [Act.put, List.setIfInBounds_toArray, List.set_cons_zero, List.set_cons_succ]
      refine wpAnyH_take (i := 8) (oi := { dst := some 64, op := Op.binOp BinOp.neq 3 (Operand.tmp 63) (Operand.const (Value.int IntKind.i64 16)) 3, type := 4, pos := "law.go:33", after := #[{ on := 7, ground := Ground.data }, { on := 5, ground := Ground.guard }], guard := some (5, false) }) (v := ?_) rfl (by kernel_rfl) (by kernel_rfl) (by kernel_rfl) (fun _ _ _ h => h) (Or.inl ⟨by rfl, ?_⟩) (by assumption) ?_
      rotate_left
      · (intro w hSw; (try dsimp only at hSw); go_simp); (first | done | with_reducible rfl)
      try simp only [Act.put, List.setIfInBounds_toArray, List.set_cons_zero, List.set_cons_succ]
      refine wpAnyH_take (i := 9) (oi := { dst := some 65, op := Op.pick (Operand.tmp 61) (Operand.const (Value.bool true)) (Operand.tmp 64), type := 4, pos := "law.go:33", after := #[{ on := 5, ground := Ground.data }, { on := 8, ground := Ground.data }], guard := none }) (v := ?_) rfl (by kernel_rfl) (by kernel_rfl) (by kernel_rfl) (fun _ _ _ h => h) (Or.inl ⟨by rfl, ?_⟩) (by assumption) ?_
      rotate_left
      · (intro w hSw; (try dsimp only at hSw); go_simp); (first | done | with_reducible rfl)
      try simp only [Act.put, List.setIfInBounds_toArray, List.set_cons_zero, List.set_cons_succ]
      refine wpAnyH_take (i := 10) (oi := { dst := some 66, op := Op.move (Operand.tmp 65), type := 4, pos := "law.go:33", after := #[{ on := 9, ground := Ground.data }, { on := 7, ground := Ground.chain }], guard := none }) (v := ?_) rfl (by kernel_rfl) (by kernel_rfl) (by kernel_rfl) (fun _ _ _ h => h) (Or.inl ⟨by rfl, ?_⟩) (by assumption) ?_
      rotate_left
      · (intro w hSw; (try dsimp only at hSw); go_simp); (first | done | with_reducible rfl)
      try simp only [Act.put, List.setIfInBounds_toArray, List.set_cons_zero, List.set_cons_succ]
      refine wpAnyH_take (i := 11) (oi := { dst := some 67, op := Op.move (Operand.tmp 3), type := 33, pos := "law.go:33", after := #[{ on := 10, ground := Ground.guard }], guard := some (10, false) }) (v := ?_) rfl (by kernel_rfl) (by kernel_rfl) (by kernel_rfl) (fun _ _ _ h => h) (Or.inl ⟨by rfl, ?_⟩) (by assumption) ?_
      rotate_left
      · (intro w hSw; (try dsimp only at hSw); go_simp); (first | done | with_reducible rfl)
      try simp only [Act.put, List.setIfInBounds_toArray, List.set_cons_zero, List.set_cons_succ]
      refine wpAnyH_ready (rs := [12]) (by kernel_rfl) (by simp) ?_
      refine AllReadyH.cons (o := { dst := some 68, op := Op.call { callee := Callee.value (Operand.func 25), args := #[Operand.tmp 67], argTypes := #[33] }, type := 3, pos := "law.go:33", after := #[{ on := 11, ground := Ground.data }, { on := 10, ground := Ground.chain }, { on := 10, ground := Ground.guard }], guard := some (10, false) }) rfl (fun K hK => ?_) (AllReadyH.nil)
      go_simp
      go_at_call 25
      with_reducible refine (CEn.out _ HE.out).mono ?_
      rintro e we ⟨rfl, hbt⟩
      replace HE := Lib.hid (below_step HE.out hbt)
      clear hbt CEn
      go_wp2_with fail
      refine hK.out _ _ ?_ (fun hHeld => ?_)
      · exact HS.out _ HE.out
      clear hK K
      try simp only [Act.put, List.setIfInBounds_toArray, List.set_cons_zero, List.set_cons_succ]
      refine wpAnyH_take (i := 13) (oi := { dst := some 69, op := Op.binOp BinOp.neq 3 (Operand.tmp 68) (Operand.const (Value.int IntKind.i64 17)) 3, type := 4, pos := "law.go:33", after := #[{ on := 12, ground := Ground.data }, { on := 10, ground := Ground.guard }], guard := some (10, false) }) (v := ?_) rfl (by kernel_rfl) (by kernel_rfl) (by kernel_rfl) (fun _ _ _ h => h) (Or.inl ⟨by rfl, ?_⟩) (by assumption) ?_
      rotate_left
      · (intro w hSw; (try dsimp only at hSw); go_simp); (first | done | with_reducible rfl)
      try simp only [Act.put, List.setIfInBounds_toArray, List.set_cons_zero, List.set_cons_succ]
      refine wpAnyH_take (i := 14) (oi := { dst := some 70, op := Op.pick (Operand.tmp 66) (Operand.const (Value.bool true)) (Operand.tmp 69), type := 4, pos := "law.go:33", after := #[{ on := 10, ground := Ground.data }, { on := 13, ground := Ground.data }], guard := none }) (v := ?_) rfl (by kernel_rfl) (by kernel_rfl) (by kernel_rfl) (fun _ _ _ h => h) (Or.inl ⟨by rfl, ?_⟩) (by assumption) ?_
      rotate_left
      · (intro w hSw; (try dsimp only at hSw); go_simp); (first | done | with_reducible rfl)
      try simp only [Act.put, List.setIfInBounds_toArray, List.set_cons_zero, List.set_cons_succ]
      refine wpAnyH_take (i := 15) (oi := { dst := some 71, op := Op.move (Operand.tmp 70), type := 4, pos := "law.go:33", after := #[{ on := 14, ground := Ground.data }, { on := 12, ground := Ground.chain }], guard := none }) (v := ?_) rfl (by kernel_rfl) (by kernel_rfl) (by kernel_rfl) (fun _ _ _ h => h) (Or.inl ⟨by rfl, ?_⟩) (by assumption) ?_
      rotate_left
      · (intro w hSw; (try dsimp only at hSw); go_simp); (first | done | with_reducible rfl)
      try simp only [Act.put, List.setIfInBounds_toArray, List.set_cons_zero, List.set_cons_succ]
      refine wpAnyH_take (i := 16) (oi := { dst := some 72, op := Op.move (Operand.tmp 8), type := 25, pos := "law.go:33", after := #[{ on := 15, ground := Ground.guard }], guard := some (15, false) }) (v := ?_) rfl (by kernel_rfl) (by kernel_rfl) (by kernel_rfl) (fun _ _ _ h => h) (Or.inl ⟨by rfl, ?_⟩) (by assumption) ?_
      rotate_left
      · (intro w hSw; (try dsimp only at hSw); go_simp); (first | done | with_reducible rfl)
      try simp only [Act.put, List.setIfInBounds_toArray, List.set_cons_zero, List.set_cons_succ]
      refine wpAnyH_take (i := 17) (oi := { dst := some 73, op := Op.binOp BinOp.neq 25 (Operand.tmp 72) (Operand.const (Value.int IntKind.i64 0)) 25, type := 4, pos := "law.go:33", after := #[{ on := 16, ground := Ground.data }, { on := 15, ground := Ground.guard }], guard := some (15, false) }) (v := ?_) rfl (by kernel_rfl) (by kernel_rfl) (by kernel_rfl) (fun _ _ _ h => h) (Or.inl ⟨by rfl, ?_⟩) (by assumption) ?_
      rotate_left
      · (intro w hSw; (try dsimp only at hSw); go_simp); (first | done | with_reducible rfl)
      try simp only [Act.put, List.setIfInBounds_toArray, List.set_cons_zero, List.set_cons_succ]
      refine wpAnyH_take (i := 18) (oi := { dst := some 74, op := Op.pick (Operand.tmp 71) (Operand.const (Value.bool true)) (Operand.tmp 73), type := 4, pos := "law.go:33", after := #[{ on := 15, ground := Ground.data }, { on := 17, ground := Ground.data }], guard := none }) (v := ?_) rfl (by kernel_rfl) (by kernel_rfl) (by kernel_rfl) (fun _ _ _ h => h) (Or.inl ⟨by rfl, ?_⟩) (by assumption) ?_
      rotate_left
      · (intro w hSw; (try dsimp only at hSw); go_simp); (first | done | with_reducible rfl)
      try simp only [Act.put, List.setIfInBounds_toArray, List.set_cons_zero, List.set_cons_succ]
      refine wpAnyH_take (i := 19) (oi := { dst := some 75, op := Op.move (Operand.tmp 74), type := 4, pos := "law.go:33", after := #[{ on := 18, ground := Ground.data }, { on := 15, ground := Ground.chain }], guard := none }) (v := ?_) rfl (by kernel_rfl) (by kernel_rfl) (by kernel_rfl) (fun _ _ _ h => h) (Or.inl ⟨by rfl, ?_⟩) (by assumption) ?_
      rotate_left
      · (intro w hSw; (try dsimp only at hSw); go_simp); (first | done | with_reducible rfl)
      try simp only [Act.put, List.setIfInBounds_toArray, List.set_cons_zero, List.set_cons_succ]
      refine wpAnyH_take (i := 20) (oi := { dst := some 76, op := Op.move (Operand.tmp 6), type := 52, pos := "law.go:33", after := #[{ on := 19, ground := Ground.guard }], guard := some (19, false) }) (v := ?_) rfl (by kernel_rfl) (by kernel_rfl) (by kernel_rfl) (fun _ _ _ h => h) (Or.inl ⟨by rfl, ?_⟩) (by assumption) ?_
      rotate_left
      · (intro w hSw; (try dsimp only at hSw); go_simp); (first | done | with_reducible rfl)
      try simp only [Act.put, List.setIfInBounds_toArray, List.set_cons_zero, List.set_cons_succ]
      refine wpAnyH_take (i := 21) (oi := { dst := some 77, op := Op.call { callee := Callee.builtin Builtin.len, args := #[Operand.tmp 76], argTypes := #[52] }, type := 3, pos := "law.go:33", after := #[{ on := 20, ground := Ground.data }, { on := 19, ground := Ground.guard }], guard := some (19, false) }) (v := ?_) rfl (by kernel_rfl) (by kernel_rfl) (by kernel_rfl) (fun _ _ _ h => h) (Or.inl ⟨by rfl, ?_⟩) (by assumption) ?_
      rotate_left
      · (intro w hSw; (try dsimp only at hSw); go_simp); (first | done | with_reducible rfl)
      try simp only [Act.put, List.setIfInBounds_toArray, List.set_cons_zero, List.set_cons_succ]
      refine wpAnyH_take (i := 22) (oi := { dst := some 78, op := Op.binOp BinOp.neq 3 (Operand.tmp 77) (Operand.const (Value.int IntKind.i64 1)) 3, type := 4, pos := "law.go:33", after := #[{ on := 21, ground := Ground.data }, { on := 19, ground := Ground.guard }], guard := some (19, false) }) (v := ?_) rfl (by kernel_rfl) (by kernel_rfl) (by kernel_rfl) (fun _ _ _ h => h) (Or.inl ⟨by rfl, ?_⟩) (by assumption) ?_
      rotate_left
      · (intro w hSw; (try dsimp only at hSw); go_simp); (first | done | with_reducible rfl)
      try simp only [Act.put, List.setIfInBounds_toArray, List.set_cons_zero, List.set_cons_succ]
      refine wpAnyH_take (i := 23) (oi := { dst := some 79, op := Op.pick (Operand.tmp 75) (Operand.const (Value.bool true)) (Operand.tmp 78), type := 4, pos := "law.go:33", after := #[{ on := 19, ground := Ground.data }, { on := 22, ground := Ground.data }], guard := none }) (v := ?_) rfl (by kernel_rfl) (by kernel_rfl) (by kernel_rfl) (fun _ _ _ h => h) (Or.inl ⟨by rfl, ?_⟩) (by assumption) ?_
      rotate_left
      · (intro w hSw; (try dsimp only at hSw); go_simp); (first | done | with_reducible rfl)
      try simp only [Act.put, List.setIfInBounds_toArray, List.set_cons_zero, List.set_cons_succ]
      refine wpAnyH_take (i := 24) (oi := { dst := some 80, op := Op.move (Operand.tmp 79), type := 4, pos := "law.go:33", after := #[{ on := 23, ground := Ground.data }, { on := 19, ground := Ground.chain }], guard := none }) (v := ?_) rfl (by kernel_rfl) (by kernel_rfl) (by kernel_rfl) (fun _ _ _ h => h) (Or.inl ⟨by rfl, ?_⟩) (by assumption) ?_
      rotate_left
      · (intro w hSw; (try dsimp only at hSw); go_simp); (first | done | with_reducible rfl)
      try simp only [Act.put, List.setIfInBounds_toArray, List.set_cons_zero, List.set_cons_succ]
      refine wpAnyH_take (i := 25) (oi := { dst := some 81, op := Op.move (Operand.tmp 6), type := 52, pos := "law.go:33", after := #[{ on := 24, ground := Ground.guard }], guard := some (24, false) }) (v := ?_) rfl (by kernel_rfl) (by kernel_rfl) (by kernel_rfl) (fun _ _ _ h => h) (Or.inl ⟨by rfl, ?_⟩) (by assumption) ?_
      rotate_left
      · (intro w hSw; (try dsimp only at hSw); go_simp); (first | done | with_reducible rfl)
      try simp only [Act.put, List.setIfInBounds_toArray, List.set_cons_zero, List.set_cons_succ]
      refine wpAnyH_take (i := 26) (oi := { dst := some 82, op := Op.indexAddr 52 (Operand.tmp 81) (Operand.const (Value.int IntKind.i64 0)), type := 0, pos := "law.go:33", after := #[{ on := 25, ground := Ground.data }, { on := 24, ground := Ground.guard }], guard := some (24, false) }) (v := ?_) rfl (by kernel_rfl) (by kernel_rfl) (by kernel_rfl) (fun _ _ _ h => h) (Or.inl ⟨by rfl, ?_⟩) (by assumption) ?_
      rotate_left
      · (intro w hSw; (try dsimp only at hSw); go_simp); (first | done | with_reducible rfl)
      try simp only [Act.put, List.setIfInBounds_toArray, List.set_cons_zero, List.set_cons_succ]
      refine wpAnyH_take (i := 27) (oi := { dst := some 83, op := Op.load 39 (Operand.tmp 82), type := 39, pos := "law.go:33", after := #[{ on := 26, ground := Ground.data }, { on := 24, ground := Ground.guard }], guard := some (24, false) }) (v := ?_) rfl (by kernel_rfl) (by kernel_rfl) (by kernel_rfl) (fun _ _ _ h => h) (Or.inl ⟨by rfl, ?_⟩) (by assumption) ?_
      rotate_left
      · (intro w hSw; (try dsimp only at hSw); go_simp); (first | done | with_reducible rfl)
      try simp only [Act.put, List.setIfInBounds_toArray, List.set_cons_zero, List.set_cons_succ]
      refine wpAnyH_ready (rs := [28]) (by kernel_rfl) (by simp) ?_
      refine AllReadyH.cons (o := { dst := some 84, op := Op.call { callee := Callee.value (Operand.func 35), args := #[Operand.const (Value.int IntKind.i64 15)], argTypes := #[3] }, type := 39, pos := "law.go:33", after := #[{ on := 24, ground := Ground.chain }, { on := 24, ground := Ground.guard }], guard := some (24, false) }) rfl (fun K hK => ?_) (AllReadyH.nil)
      go_simp
      go_at_call 35
      with_reducible refine (CSp.out _).mono ?_
      rintro e wz ⟨rfl, hbt⟩
      replace HE := Lib.hid (below_step HE.out hbt)
      clear hbt CSp
      go_wp2_with fail
      refine hK.out _ _ ?_ (fun hHeld => ?_)
      · exact HS.out _ HE.out
      clear hK K
      try simp only [Act.put, List.setIfInBounds_toArray, List.set_cons_zero, List.set_cons_succ]
      refine wpAnyH_take (i := 29) (oi := { dst := some 85, op := Op.binOp BinOp.neq 39 (Operand.tmp 83) (Operand.tmp 84) 39, type := 4, pos := "law.go:33", after := #[{ on := 27, ground := Ground.data }, { on := 28, ground := Ground.data }, { on := 24, ground := Ground.guard }], guard := some (24, false) }) (v := ?_) rfl (by kernel_rfl) (by kernel_rfl) (by kernel_rfl) (fun _ _ _ h => h) (Or.inl ⟨by rfl, ?_⟩) (by assumption) ?_
      rotate_left
      · (intro w hSw; (try dsimp only at hSw); go_simp); (first | done | with_reducible rfl)
      try simp only [Act.put, List.setIfInBounds_toArray, List.set_cons_zero, List.set_cons_succ]
      refine wpAnyH_take (i := 30) (oi := { dst := some 86, op := Op.pick (Operand.tmp 80) (Operand.const (Value.bool true)) (Operand.tmp 85), type := 4, pos := "law.go:33", after := #[{ on := 24, ground := Ground.data }, { on := 29, ground := Ground.data }], guard := none }) (v := ?_) rfl (by kernel_rfl) (by kernel_rfl) (by kernel_rfl) (fun _ _ _ h => h) (Or.inl ⟨by rfl, ?_⟩) (by assumption) ?_
      rotate_left
      · (intro w hSw; (try dsimp only at hSw); go_simp); (first | done | with_reducible rfl)
      try simp only [Act.put, List.setIfInBounds_toArray, List.set_cons_zero, List.set_cons_succ]
      refine wpAnyH_take (i := 31) (oi := { dst := some 87, op := Op.move (Operand.tmp 86), type := 4, pos := "law.go:33", after := #[{ on := 30, ground := Ground.data }, { on := 28, ground := Ground.chain }], guard := none }) (v := ?_) rfl (by kernel_rfl) (by kernel_rfl) (by kernel_rfl) (fun _ _ _ h => h) (Or.inl ⟨by rfl, ?_⟩) (by assumption) ?_
      rotate_left
      · (intro w hSw; (try dsimp only at hSw); go_simp); (first | done | with_reducible rfl)
      try simp only [Act.put, List.setIfInBounds_toArray, List.set_cons_zero, List.set_cons_succ]
      refine wpAnyH_take (i := 32) (oi := { dst := some 88, op := Op.move (Operand.tmp 7), type := 3, pos := "law.go:33", after := #[{ on := 31, ground := Ground.guard }], guard := some (31, false) }) (v := ?_) rfl (by kernel_rfl) (by kernel_rfl) (by kernel_rfl) (fun _ _ _ h => h) (Or.inl ⟨by rfl, ?_⟩) (by assumption) ?_
      rotate_left
      · (intro w hSw; (try dsimp only at hSw); go_simp); (first | done | with_reducible rfl)
      try simp only [Act.put, List.setIfInBounds_toArray, List.set_cons_zero, List.set_cons_succ]
      refine wpAnyH_take (i := 33) (oi := { dst := some 89, op := Op.binOp BinOp.neq 3 (Operand.tmp 88) (Operand.const (Value.int IntKind.i64 16)) 3, type := 4, pos := "law.go:33", after := #[{ on := 32, ground := Ground.data }, { on := 31, ground := Ground.guard }], guard := some (31, false) }) (v := ?_) rfl (by kernel_rfl) (by kernel_rfl) (by kernel_rfl) (fun _ _ _ h => h) (Or.inl ⟨by rfl, ?_⟩) (by assumption) ?_
      rotate_left
      · (intro w hSw; (try dsimp only at hSw); go_simp); (first | done | with_reducible rfl)
      try simp only [Act.put, List.setIfInBounds_toArray, List.set_cons_zero, List.set_cons_succ]
      refine wpAnyH_take (i := 34) (oi := { dst := some 90, op := Op.pick (Operand.tmp 87) (Operand.const (Value.bool true)) (Operand.tmp 89), type := 4, pos := "law.go:33", after := #[{ on := 31, ground := Ground.data }, { on := 33, ground := Ground.data }], guard := none }) (v := ?_) rfl (by kernel_rfl) (by kernel_rfl) (by kernel_rfl) (fun _ _ _ h => h) (Or.inl ⟨by rfl, ?_⟩) (by assumption) ?_
      rotate_left
      · (intro w hSw; (try dsimp only at hSw); go_simp); (first | done | with_reducible rfl)
      try simp only [Act.put, List.setIfInBounds_toArray, List.set_cons_zero, List.set_cons_succ]
      refine wpAnyH_take (i := 35) (oi := { dst := some 91, op := Op.move (Operand.tmp 90), type := 4, pos := "law.go:33", after := #[{ on := 34, ground := Ground.data }, { on := 31, ground := Ground.chain }], guard := none }) (v := ?_) rfl (by kernel_rfl) (by kernel_rfl) (by kernel_rfl) (fun _ _ _ h => h) (Or.inl ⟨by rfl, ?_⟩) (by assumption) ?_
      rotate_left
      · (intro w hSw; (try dsimp only at hSw); go_simp); (first | done | with_reducible rfl)
      try simp only [Act.put, List.setIfInBounds_toArray, List.set_cons_zero, List.set_cons_succ]
      refine wpAnyH_take (i := 36) (oi := { dst := some 92, op := Op.move (Operand.tmp 11), type := 25, pos := "law.go:33", after := #[{ on := 35, ground := Ground.guard }], guard := some (35, false) }) (v := ?_) rfl (by kernel_rfl) (by kernel_rfl) (by kernel_rfl) (fun _ _ _ h => h) (Or.inl ⟨by rfl, ?_⟩) (by assumption) ?_
      rotate_left
      · (intro w hSw; (try dsimp only at hSw); go_simp); (first | done | with_reducible rfl)
      try simp only [Act.put, List.setIfInBounds_toArray, List.set_cons_zero, List.set_cons_succ]
      refine wpAnyH_take (i := 37) (oi := { dst := some 93, op := Op.binOp BinOp.neq 25 (Operand.tmp 92) (Operand.const (Value.int IntKind.i64 4)) 25, type := 4, pos := "law.go:33", after := #[{ on := 36, ground := Ground.data }, { on := 35, ground := Ground.guard }], guard := some (35, false) }) (v := ?_) rfl (by kernel_rfl) (by kernel_rfl) (by kernel_rfl) (fun _ _ _ h => h) (Or.inl ⟨by rfl, ?_⟩) (by assumption) ?_
      rotate_left
      · (intro w hSw; (try dsimp only at hSw); go_simp); (first | done | with_reducible rfl)
      try simp only [Act.put, List.setIfInBounds_toArray, List.set_cons_zero, List.set_cons_succ]
      refine wpAnyH_take (i := 38) (oi := { dst := some 94, op := Op.pick (Operand.tmp 91) (Operand.const (Value.bool true)) (Operand.tmp 93), type := 4, pos := "law.go:33", after := #[{ on := 35, ground := Ground.data }, { on := 37, ground := Ground.data }], guard := none }) (v := ?_) rfl (by kernel_rfl) (by kernel_rfl) (by kernel_rfl) (fun _ _ _ h => h) (Or.inl ⟨by rfl, ?_⟩) (by assumption) ?_
      rotate_left
      · (intro w hSw; (try dsimp only at hSw); go_simp); (first | done | with_reducible rfl)
      refine wpAnyH_done (by kernel_rfl) ?_ _
      have HH := Lib.hid (HHY.out _ HE.out)
      clear hHeld HHY HS HE
      go_wp2_with fail
      have CF := Lib.hid (fun W (q : HgX (fun _ => False) w.heap.size b d ex17.1 ex17.2 W ∧ Below w.heap.size w W) => show Calls Tryz.prog 20 #[.pointer (some ⟨b, 0, none⟩)] W fun e w' => e = .returned (.int .i64 0) ∧ HgX (fun _ => False) w.heap.size b d exA.2.1 exA.2.2 w' ∧ Below w.heap.size w w' from (sync6_any q.1 (fun k hk => hk.elim) q.2.size).mono fun e w' ⟨h1, h2, h3⟩ => ⟨h1.trans (congrArg (fun z => Ending.returned (.int .i64 z)) ex_four.1), h2, q.2.trans (h3.below (fun k hk => hk.1) q.2.size)⟩)
      with_reducible refine (CF.out _ HH.out).mono ?_
      rintro e wf0 ⟨rfl, hf⟩
      replace HH := Lib.hid hf
      clear hf CF
      go_wp2_with fail
      have CF := Lib.hid (fun W (q : HgX (fun _ => False) w.heap.size b d exA.2.1 exA.2.2 W ∧ Below w.heap.size w W) => show Calls Tryz.prog 21 #[.pointer (some ⟨b, 0, none⟩)] W fun e w' => e = .returned (.int .i64 0) ∧ HgX (fun _ => False) w.heap.size b d exB.2.1 exB.2.2 w' ∧ Below w.heap.size w w' from (rotate6_any q.1 (fun k hk => hk.elim) q.2.size ex_small.1 ex_small.2.1).mono fun e w' ⟨h1, h2, h3⟩ => ⟨h1.trans (congrArg (fun z => Ending.returned (.int .i64 z)) ex_four.2.1), h2, q.2.trans (h3.below (fun k hk => hk.1) q.2.size)⟩)
      with_reducible refine (CF.out _ HH.out).mono ?_
      rintro e wf1 ⟨rfl, hf⟩
      replace HH := Lib.hid hf
      clear hf CF
      go_wp2_with fail
      have CF := Lib.hid (fun W (q : HgX (fun _ => False) w.heap.size b d exB.2.1 exB.2.2 W ∧ Below w.heap.size w W) => show Calls Tryz.prog 21 #[.pointer (some ⟨b, 0, none⟩)] W fun e w' => e = .returned (.int .i64 0) ∧ HgX (fun _ => False) w.heap.size b d exC.2.1 exC.2.2 w' ∧ Below w.heap.size w w' from (rotate6_any q.1 (fun k hk => hk.elim) q.2.size ex_small.2.2.1 ex_small.2.2.2).mono fun e w' ⟨h1, h2, h3⟩ => ⟨h1.trans (congrArg (fun z => Ending.returned (.int .i64 z)) ex_four.2.2.1), h2, q.2.trans (h3.below (fun k hk => hk.1) q.2.size)⟩)
      with_reducible refine (CF.out _ HH.out).mono ?_
      rintro e wf2 ⟨rfl, hf⟩
      replace HH := Lib.hid hf
      clear hf CF
      go_wp2_with fail
      have CF := Lib.hid (fun W (q : HgX (fun _ => False) w.heap.size b d exC.2.1 exC.2.2 W ∧ Below w.heap.size w W) => show Calls Tryz.prog 22 #[.pointer (some ⟨b, 0, none⟩), .int .i64 2] W fun e w' => e = .returned (.int .i64 0) ∧ HgX (fun _ => False) w.heap.size b d exD.2.1 exD.2.2 w' ∧ Below w.heap.size w w' from (retain6_any q.1 (fun k hk => hk.elim) q.2.size 2 (by decide)).mono fun e w' ⟨h1, h2, h3⟩ => ⟨h1.trans (congrArg (fun z => Ending.returned (.int .i64 z)) ex_four.2.2.2), h2, q.2.trans (h3.below (fun k hk => hk.1) q.2.size)⟩)
      with_reducible refine (CF.out _ HH.out).mono ?_
      rintro e wf3 ⟨rfl, hf⟩
      replace HH := Lib.hid hf
      clear hf CF
      go_wp2_with fail
      have CM := Lib.hid (fun W (q : HgX (fun _ => False) w.heap.size b d exD.2.1 exD.2.2 W ∧ Below w.heap.size w W) => show Calls Tryz.prog 36 #[.pointer (some ⟨d, 0, none⟩)] W (RowT [[108, 49, 54], [108, 49, 55]] W) from by
        obtain ⟨vs, P, h1, h2, h3, h4, h5⟩ := q.1
        have := namesX h2
        rw [ex_names2] at this
        exact this)
      with_reducible refine (CM.out _ HH.out).mono ?_
      rintro e wm ⟨am, cm, rfl, hrm, hbm⟩
      have hx := (Below.refl wm.heap.size wm).alloc (Nat.le_refl _) (.cells #[.string (S [108, 49, 54]), .string (S [108, 49, 55])] 9)
      have CT := Lib.hid (show Calls Tryz.prog 39 #[.slice am 2 cm, .slice (some ⟨wm.heap.size, 0, none⟩) 2 2] (wm.alloc (.cells #[.string (S [108, 49, 54]), .string (S [108, 49, 55])] 9)) (fun e w' => e = .returned (.bool true) ∧ Below (wm.alloc (.cells #[.string (S [108, 49, 54]), .string (S [108, 49, 55])] 9)).heap.size (wm.alloc (.cells #[.string (S [108, 49, 54]), .string (S [108, 49, 55])] 9)) w') from sameTexts5_any [[108, 49, 54], [108, 49, 55]] [[108, 49, 54], [108, 49, 55]] (by decide) (by decide) am _ cm 2 _ (TsA5.below (tsA_row5 hrm) hx) (two_bk6 (bk_new #[.string (S [108, 49, 54]), .string (S [108, 49, 55])] 9 wm)))
      replace HH := Lib.hid (show HgX (fun _ => False) w.heap.size b d exD.2.1 exD.2.2 (wm.alloc (.cells #[.string (S [108, 49, 54]), .string (S [108, 49, 55])] 9)) ∧ Below w.heap.size w (wm.alloc (.cells #[.string (S [108, 49, 54]), .string (S [108, 49, 55])] 9)) from ⟨(HH.out.1.below hbm).below hx, below_step (below_step HH.out.2 hbm) hx⟩)
      clear hrm hbm hx CM
      go_wp2_with fail
      with_reducible refine CT.out.mono ?_
      rintro e wt ⟨rfl, hbt⟩
      replace HH := Lib.hid (⟨HH.out.1.below hbt, below_step HH.out.2 hbt⟩ : HgX (fun _ => False) w.heap.size b d exD.2.1 exD.2.2 wt ∧ Below w.heap.size w wt)
      clear hbt CT
      have CI := Lib.hid (show Calls Tryz.prog 23 #[.pointer (some ⟨b, 0, none⟩)] wt fun e w' => e = .returned (.int .i64 16) ∧ Below wt.heap.size wt w' from by
        have := first6_any HH.out.1
        rw [ex_first] at this
        exact this)
      go_wp2_with fail
      with_reducible refine CI.out.mono ?_
      rintro e wi ⟨rfl, hbi⟩
      have HF := Lib.hid (below_step HH.out.2 hbi)
      clear hbi CI
      go_wp2_with fail
      go_ret
      exact ⟨rfl, HF.out⟩
    · go_simp
      have HQ := Lib.hid (bk_new #[.string (S [108, 48]), .string (S [108, 49, 54])] 9 wq)
      replace HE := Lib.hid (HE.out.alloc HE.out.size (.cells #[.string (S [108, 48]), .string (S [108, 49, 54])] 9))
      obtain ⟨bq, hbq⟩ : ∃ x, x = wq.heap.size := ⟨_, rfl⟩
      rw [← hbq] at HQ ⊢
      clear hbq
      generalize wq.alloc (.cells #[.string (S [108, 48]), .string (S [108, 49, 54])] 9) = wq2 at *
      refine hK.out _ _ ?_ (fun hHeld => ?_)
      · exact HS.out _ HE.out
      clear hK K
      try simp only [Act.put, List.setIfInBounds_toArray, List.set_cons_zero, List.set_cons_succ]
      refine wpAnyH_ready (rs := [1]) (by kernel_rfl) (by simp) ?_
      refine AllReadyH.cons (o := { dst := some 57, op := Op.call { callee := Callee.value (Operand.func 36), args := #[Operand.tmp 56], argTypes := #[24] }, type := 74, pos := "law.go:33", after := #[{ on := 0, ground := Ground.data }], guard := none }) rfl (fun K hK => ?_) (AllReadyH.nil)
      go_simp
      go_at_call 36
      with_reducible refine (CNm.out _ HE.out).mono ?_
      rintro e wq2 ⟨an, cn, rfl, hrn, hbn⟩
      have HN := Lib.hid (tsA_row5 hrn)
      replace HE := Lib.hid (below_step HE.out hbn)
      replace HQ := Lib.hid (HQ.out.below hbn)
      clear hrn hbn CNm
      go_wp2_with fail
      refine hK.out _ _ ?_ (fun hHeld => ?_)
      · exact HS.out _ HE.out
      clear hK K
      try simp only [Act.put, List.setIfInBounds_toArray, List.set_cons_zero, List.set_cons_succ]
      refine wpAnyH_ready (rs := [3]) (by kernel_rfl) (by simp) ?_
      refine AllReadyH.cons (o := { dst := some 59, op := Op.call { callee := Callee.value (Operand.func 39), args := #[Operand.tmp 57, Operand.tmp 58], argTypes := #[74, 74] }, type := 4, pos := "law.go:33", after := #[{ on := 1, ground := Ground.data }, { on := 2, ground := Ground.data }, { on := 1, ground := Ground.chain }], guard := none }) rfl (fun K hK => ?_) (AllReadyH.nil)
      go_simp
      go_at_call 39
      with_reducible refine (CTx.out _ an cn bq HN.out HQ.out).mono ?_
      rintro e wt ⟨rfl, hbt⟩
      replace HE := Lib.hid (below_step HE.out hbt)
      clear hbt CTx HN HQ
      go_wp2_with fail
      refine hK.out _ _ ?_ (fun hHeld => ?_)
      · exact HS.out _ HE.out
      clear hK K
      try simp only [Act.put, List.setIfInBounds_toArray, List.set_cons_zero, List.set_cons_succ]
      refine wpAnyH_take (i := 4) (oi := { dst := some 60, op := Op.unOp UnOp.not 4 (Operand.tmp 59), type := 4, pos := "law.go:33", after := #[{ on := 3, ground := Ground.data }], guard := none }) (v := ?_) rfl (by kernel_rfl) (by kernel_rfl) (by kernel_rfl) (fun _ _ _ h => h) (Or.inl ⟨by rfl, ?_⟩) (by assumption) ?_
      rotate_left
      · (intro w hSw; (try dsimp only at hSw); go_simp); (first | done | with_reducible rfl)
      try simp only [Act.put, List.setIfInBounds_toArray, List.set_cons_zero, List.set_cons_succ]
      refine wpAnyH_take (i := 5) (oi := { dst := some 61, op := Op.move (Operand.tmp 60), type := 4, pos := "law.go:33", after := #[{ on := 4, ground := Ground.data }, { on := 3, ground := Ground.chain }], guard := none }) (v := ?_) rfl (by kernel_rfl) (by kernel_rfl) (by kernel_rfl) (fun _ _ _ h => h) (Or.inl ⟨by rfl, ?_⟩) (by assumption) ?_
      rotate_left
      · (intro w hSw; (try dsimp only at hSw); go_simp); (first | done | with_reducible rfl)
      try simp only [Act.put, List.setIfInBounds_toArray, List.set_cons_zero, List.set_cons_succ]
      refine wpAnyH_take (i := 6) (oi := { dst := some 62, op := Op.move (Operand.tmp 3), type := 33, pos := "law.go:33", after := #[{ on := 5, ground := Ground.guard }], guard := some (5, false) }) (v := ?_) rfl (by kernel_rfl) (by kernel_rfl) (by kernel_rfl) (fun _ _ _ h => h) (Or.inl ⟨by rfl, ?_⟩) (by assumption) ?_
      rotate_left
      · (intro w hSw; (try dsimp only at hSw); go_simp); (first | done | with_reducible rfl)
      try simp only [Act.put, List.setIfInBounds_toArray, List.set_cons_zero, List.set_cons_succ]
      refine wpAnyH_ready (rs := [7]) (by kernel_rfl) (by simp) ?_
      refine AllReadyH.cons (o := { dst := some 63, op := Op.call { callee := Callee.value (Operand.func 24), args := #[Operand.tmp 62], argTypes := #[33] }, type := 3, pos := "law.go:33", after := #[{ on := 6, ground := Ground.data }, { on := 5, ground := Ground.chain }, { on := 5, ground := Ground.guard }], guard := some (5, false) }) rfl (fun K hK => ?_) (AllReadyH.nil)
      go_simp
      go_at_call 24
      with_reducible refine (CSu.out _ HE.out).mono ?_
      rintro e wu ⟨rfl, hbt⟩
      replace HE := Lib.hid (below_step HE.out hbt)
      clear hbt CSu
      go_wp2_with fail
      refine hK.out _ _ ?_ (fun hHeld => ?_)
      · exact HS.out _ HE.out
      clear hK K
      try simp only [Act.put, List.setIfInBounds_toArray, List.set_cons_zero, List.set_cons_succ]
      refine wpAnyH_take (i := 8) (oi := { dst := some 64, op := Op.binOp BinOp.neq 3 (Operand.tmp 63) (Operand.const (Value.int IntKind.i64 16)) 3, type := 4, pos := "law.go:33", after := #[{ on := 7, ground := Ground.data }, { on := 5, ground := Ground.guard }], guard := some (5, false) }) (v := ?_) rfl (by kernel_rfl) (by kernel_rfl) (by kernel_rfl) (fun _ _ _ h => h) (Or.inl ⟨by rfl, ?_⟩) (by assumption) ?_
      rotate_left
      · (intro w hSw; (try dsimp only at hSw); go_simp); (first | done | with_reducible rfl)
      try simp only [Act.put, List.setIfInBounds_toArray, List.set_cons_zero, List.set_cons_succ]
      refine wpAnyH_take (i := 9) (oi := { dst := some 65, op := Op.pick (Operand.tmp 61) (Operand.const (Value.bool true)) (Operand.tmp 64), type := 4, pos := "law.go:33", after := #[{ on := 5, ground := Ground.data }, { on := 8, ground := Ground.data }], guard := none }) (v := ?_) rfl (by kernel_rfl) (by kernel_rfl) (by kernel_rfl) (fun _ _ _ h => h) (Or.inl ⟨by rfl, ?_⟩) (by assumption) ?_
      rotate_left
      · (intro w hSw; (try dsimp only at hSw); go_simp); (first | done | with_reducible rfl)
      try simp only [Act.put, List.setIfInBounds_toArray, List.set_cons_zero, List.set_cons_succ]
      refine wpAnyH_take (i := 10) (oi := { dst := some 66, op := Op.move (Operand.tmp 65), type := 4, pos := "law.go:33", after := #[{ on := 9, ground := Ground.data }, { on := 7, ground := Ground.chain }], guard := none }) (v := ?_) rfl (by kernel_rfl) (by kernel_rfl) (by kernel_rfl) (fun _ _ _ h => h) (Or.inl ⟨by rfl, ?_⟩) (by assumption) ?_
      rotate_left
      · (intro w hSw; (try dsimp only at hSw); go_simp); (first | done | with_reducible rfl)
      try simp only [Act.put, List.setIfInBounds_toArray, List.set_cons_zero, List.set_cons_succ]
      refine wpAnyH_take (i := 11) (oi := { dst := some 67, op := Op.move (Operand.tmp 3), type := 33, pos := "law.go:33", after := #[{ on := 10, ground := Ground.guard }], guard := some (10, false) }) (v := ?_) rfl (by kernel_rfl) (by kernel_rfl) (by kernel_rfl) (fun _ _ _ h => h) (Or.inl ⟨by rfl, ?_⟩) (by assumption) ?_
      rotate_left
      · (intro w hSw; (try dsimp only at hSw); go_simp); (first | done | with_reducible rfl)
      try simp only [Act.put, List.setIfInBounds_toArray, List.set_cons_zero, List.set_cons_succ]
      refine wpAnyH_ready (rs := [12]) (by kernel_rfl) (by simp) ?_
      refine AllReadyH.cons (o := { dst := some 68, op := Op.call { callee := Callee.value (Operand.func 25), args := #[Operand.tmp 67], argTypes := #[33] }, type := 3, pos := "law.go:33", after := #[{ on := 11, ground := Ground.data }, { on := 10, ground := Ground.chain }, { on := 10, ground := Ground.guard }], guard := some (10, false) }) rfl (fun K hK => ?_) (AllReadyH.nil)
      go_simp
      go_at_call 25
      with_reducible refine (CEn.out _ HE.out).mono ?_
      rintro e we ⟨rfl, hbt⟩
      replace HE := Lib.hid (below_step HE.out hbt)
      clear hbt CEn
      go_wp2_with fail
      refine hK.out _ _ ?_ (fun hHeld => ?_)
      · exact HS.out _ HE.out
      clear hK K
      try simp only [Act.put, List.setIfInBounds_toArray, List.set_cons_zero, List.set_cons_succ]
      refine wpAnyH_take (i := 13) (oi := { dst := some 69, op := Op.binOp BinOp.neq 3 (Operand.tmp 68) (Operand.const (Value.int IntKind.i64 17)) 3, type := 4, pos := "law.go:33", after := #[{ on := 12, ground := Ground.data }, { on := 10, ground := Ground.guard }], guard := some (10, false) }) (v := ?_) rfl (by kernel_rfl) (by kernel_rfl) (by kernel_rfl) (fun _ _ _ h => h) (Or.inl ⟨by rfl, ?_⟩) (by assumption) ?_
      rotate_left
      · (intro w hSw; (try dsimp only at hSw); go_simp); (first | done | with_reducible rfl)
      try simp only [Act.put, List.setIfInBounds_toArray, List.set_cons_zero, List.set_cons_succ]
      refine wpAnyH_take (i := 14) (oi := { dst := some 70, op := Op.pick (Operand.tmp 66) (Operand.const (Value.bool true)) (Operand.tmp 69), type := 4, pos := "law.go:33", after := #[{ on := 10, ground := Ground.data }, { on := 13, ground := Ground.data }], guard := none }) (v := ?_) rfl (by kernel_rfl) (by kernel_rfl) (by kernel_rfl) (fun _ _ _ h => h) (Or.inl ⟨by rfl, ?_⟩) (by assumption) ?_
      rotate_left
      · (intro w hSw; (try dsimp only at hSw); go_simp); (first | done | with_reducible rfl)
      try simp only [Act.put, List.setIfInBounds_toArray, List.set_cons_zero, List.set_cons_succ]
      refine wpAnyH_take (i := 15) (oi := { dst := some 71, op := Op.move (Operand.tmp 70), type := 4, pos := "law.go:33", after := #[{ on := 14, ground := Ground.data }, { on := 12, ground := Ground.chain }], guard := none }) (v := ?_) rfl (by kernel_rfl) (by kernel_rfl) (by kernel_rfl) (fun _ _ _ h => h) (Or.inl ⟨by rfl, ?_⟩) (by assumption) ?_
      rotate_left
      · (intro w hSw; (try dsimp only at hSw); go_simp); (first | done | with_reducible rfl)
      try simp only [Act.put, List.setIfInBounds_toArray, List.set_cons_zero, List.set_cons_succ]
      refine wpAnyH_take (i := 16) (oi := { dst := some 72, op := Op.move (Operand.tmp 8), type := 25, pos := "law.go:33", after := #[{ on := 15, ground := Ground.guard }], guard := some (15, false) }) (v := ?_) rfl (by kernel_rfl) (by kernel_rfl) (by kernel_rfl) (fun _ _ _ h => h) (Or.inl ⟨by rfl, ?_⟩) (by assumption) ?_
      rotate_left
      · (intro w hSw; (try dsimp only at hSw); go_simp); (first | done | with_reducible rfl)
      try simp only [Act.put, List.setIfInBounds_toArray, List.set_cons_zero, List.set_cons_succ]
      refine wpAnyH_take (i := 17) (oi := { dst := some 73, op := Op.binOp BinOp.neq 25 (Operand.tmp 72) (Operand.const (Value.int IntKind.i64 0)) 25, type := 4, pos := "law.go:33", after := #[{ on := 16, ground := Ground.data }, { on := 15, ground := Ground.guard }], guard := some (15, false) }) (v := ?_) rfl (by kernel_rfl) (by kernel_rfl) (by kernel_rfl) (fun _ _ _ h => h) (Or.inl ⟨by rfl, ?_⟩) (by assumption) ?_
      rotate_left
      · (intro w hSw; (try dsimp only at hSw); go_simp); (first | done | with_reducible rfl)
      try simp only [Act.put, List.setIfInBounds_toArray, List.set_cons_zero, List.set_cons_succ]
      refine wpAnyH_take (i := 18) (oi := { dst := some 74, op := Op.pick (Operand.tmp 71) (Operand.const (Value.bool true)) (Operand.tmp 73), type := 4, pos := "law.go:33", after := #[{ on := 15, ground := Ground.data }, { on := 17, ground := Ground.data }], guard := none }) (v := ?_) rfl (by kernel_rfl) (by kernel_rfl) (by kernel_rfl) (fun _ _ _ h => h) (Or.inl ⟨by rfl, ?_⟩) (by assumption) ?_
      rotate_left
      · (intro w hSw; (try dsimp only at hSw); go_simp); (first | done | with_reducible rfl)
      try simp only [Act.put, List.setIfInBounds_toArray, List.set_cons_zero, List.set_cons_succ]
      refine wpAnyH_take (i := 19) (oi := { dst := some 75, op := Op.move (Operand.tmp 74), type := 4, pos := "law.go:33", after := #[{ on := 18, ground := Ground.data }, { on := 15, ground := Ground.chain }], guard := none }) (v := ?_) rfl (by kernel_rfl) (by kernel_rfl) (by kernel_rfl) (fun _ _ _ h => h) (Or.inl ⟨by rfl, ?_⟩) (by assumption) ?_
      rotate_left
      · (intro w hSw; (try dsimp only at hSw); go_simp); (first | done | with_reducible rfl)
      try simp only [Act.put, List.setIfInBounds_toArray, List.set_cons_zero, List.set_cons_succ]
      refine wpAnyH_take (i := 20) (oi := { dst := some 76, op := Op.move (Operand.tmp 6), type := 52, pos := "law.go:33", after := #[{ on := 19, ground := Ground.guard }], guard := some (19, false) }) (v := ?_) rfl (by kernel_rfl) (by kernel_rfl) (by kernel_rfl) (fun _ _ _ h => h) (Or.inl ⟨by rfl, ?_⟩) (by assumption) ?_
      rotate_left
      · (intro w hSw; (try dsimp only at hSw); go_simp); (first | done | with_reducible rfl)
      try simp only [Act.put, List.setIfInBounds_toArray, List.set_cons_zero, List.set_cons_succ]
      refine wpAnyH_take (i := 21) (oi := { dst := some 77, op := Op.call { callee := Callee.builtin Builtin.len, args := #[Operand.tmp 76], argTypes := #[52] }, type := 3, pos := "law.go:33", after := #[{ on := 20, ground := Ground.data }, { on := 19, ground := Ground.guard }], guard := some (19, false) }) (v := ?_) rfl (by kernel_rfl) (by kernel_rfl) (by kernel_rfl) (fun _ _ _ h => h) (Or.inl ⟨by rfl, ?_⟩) (by assumption) ?_
      rotate_left
      · (intro w hSw; (try dsimp only at hSw); go_simp); (first | done | with_reducible rfl)
      try simp only [Act.put, List.setIfInBounds_toArray, List.set_cons_zero, List.set_cons_succ]
      refine wpAnyH_take (i := 22) (oi := { dst := some 78, op := Op.binOp BinOp.neq 3 (Operand.tmp 77) (Operand.const (Value.int IntKind.i64 1)) 3, type := 4, pos := "law.go:33", after := #[{ on := 21, ground := Ground.data }, { on := 19, ground := Ground.guard }], guard := some (19, false) }) (v := ?_) rfl (by kernel_rfl) (by kernel_rfl) (by kernel_rfl) (fun _ _ _ h => h) (Or.inl ⟨by rfl, ?_⟩) (by assumption) ?_
      rotate_left
      · (intro w hSw; (try dsimp only at hSw); go_simp); (first | done | with_reducible rfl)
      try simp only [Act.put, List.setIfInBounds_toArray, List.set_cons_zero, List.set_cons_succ]
      refine wpAnyH_take (i := 23) (oi := { dst := some 79, op := Op.pick (Operand.tmp 75) (Operand.const (Value.bool true)) (Operand.tmp 78), type := 4, pos := "law.go:33", after := #[{ on := 19, ground := Ground.data }, { on := 22, ground := Ground.data }], guard := none }) (v := ?_) rfl (by kernel_rfl) (by kernel_rfl) (by kernel_rfl) (fun _ _ _ h => h) (Or.inl ⟨by rfl, ?_⟩) (by assumption) ?_
      rotate_left
      · (intro w hSw; (try dsimp only at hSw); go_simp); (first | done | with_reducible rfl)
      try simp only [Act.put, List.setIfInBounds_toArray, List.set_cons_zero, List.set_cons_succ]
      refine wpAnyH_take (i := 24) (oi := { dst := some 80, op := Op.move (Operand.tmp 79), type := 4, pos := "law.go:33", after := #[{ on := 23, ground := Ground.data }, { on := 19, ground := Ground.chain }], guard := none }) (v := ?_) rfl (by kernel_rfl) (by kernel_rfl) (by kernel_rfl) (fun _ _ _ h => h) (Or.inl ⟨by rfl, ?_⟩) (by assumption) ?_
      rotate_left
      · (intro w hSw; (try dsimp only at hSw); go_simp); (first | done | with_reducible rfl)
      try simp only [Act.put, List.setIfInBounds_toArray, List.set_cons_zero, List.set_cons_succ]
      refine wpAnyH_take (i := 25) (oi := { dst := some 81, op := Op.move (Operand.tmp 6), type := 52, pos := "law.go:33", after := #[{ on := 24, ground := Ground.guard }], guard := some (24, false) }) (v := ?_) rfl (by kernel_rfl) (by kernel_rfl) (by kernel_rfl) (fun _ _ _ h => h) (Or.inl ⟨by rfl, ?_⟩) (by assumption) ?_
      rotate_left
      · (intro w hSw; (try dsimp only at hSw); go_simp); (first | done | with_reducible rfl)
      try simp only [Act.put, List.setIfInBounds_toArray, List.set_cons_zero, List.set_cons_succ]
      refine wpAnyH_take (i := 26) (oi := { dst := some 82, op := Op.indexAddr 52 (Operand.tmp 81) (Operand.const (Value.int IntKind.i64 0)), type := 0, pos := "law.go:33", after := #[{ on := 25, ground := Ground.data }, { on := 24, ground := Ground.guard }], guard := some (24, false) }) (v := ?_) rfl (by kernel_rfl) (by kernel_rfl) (by kernel_rfl) (fun _ _ _ h => h) (Or.inl ⟨by rfl, ?_⟩) (by assumption) ?_
      rotate_left
      · (intro w hSw; (try dsimp only at hSw); go_simp); (first | done | with_reducible rfl)
      try simp only [Act.put, List.setIfInBounds_toArray, List.set_cons_zero, List.set_cons_succ]
      refine wpAnyH_take (i := 27) (oi := { dst := some 83, op := Op.load 39 (Operand.tmp 82), type := 39, pos := "law.go:33", after := #[{ on := 26, ground := Ground.data }, { on := 24, ground := Ground.guard }], guard := some (24, false) }) (v := ?_) rfl (by kernel_rfl) (by kernel_rfl) (by kernel_rfl) (fun _ _ _ h => h) (Or.inl ⟨by rfl, ?_⟩) (by assumption) ?_
      rotate_left
      · (intro w hSw; (try dsimp only at hSw); go_simp); (first | done | with_reducible rfl)
      try simp only [Act.put, List.setIfInBounds_toArray, List.set_cons_zero, List.set_cons_succ]
      refine wpAnyH_ready (rs := [28]) (by kernel_rfl) (by simp) ?_
      refine AllReadyH.cons (o := { dst := some 84, op := Op.call { callee := Callee.value (Operand.func 35), args := #[Operand.const (Value.int IntKind.i64 15)], argTypes := #[3] }, type := 39, pos := "law.go:33", after := #[{ on := 24, ground := Ground.chain }, { on := 24, ground := Ground.guard }], guard := some (24, false) }) rfl (fun K hK => ?_) (AllReadyH.nil)
      go_simp
      go_at_call 35
      with_reducible refine (CSp.out _).mono ?_
      rintro e wz ⟨rfl, hbt⟩
      replace HE := Lib.hid (below_step HE.out hbt)
      clear hbt CSp
      go_wp2_with fail
      refine hK.out _ _ ?_ (fun hHeld => ?_)
      · exact HS.out _ HE.out
      clear hK K
      try simp only [Act.put, List.setIfInBounds_toArray, List.set_cons_zero, List.set_cons_succ]
      refine wpAnyH_take (i := 29) (oi := { dst := some 85, op := Op.binOp BinOp.neq 39 (Operand.tmp 83) (Operand.tmp 84) 39, type := 4, pos := "law.go:33", after := #[{ on := 27, ground := Ground.data }, { on := 28, ground := Ground.data }, { on := 24, ground := Ground.guard }], guard := some (24, false) }) (v := ?_) rfl (by kernel_rfl) (by kernel_rfl) (by kernel_rfl) (fun _ _ _ h => h) (Or.inl ⟨by rfl, ?_⟩) (by assumption) ?_
      rotate_left
      · (intro w hSw; (try dsimp only at hSw); go_simp); (first | done | with_reducible rfl)
      try simp only [Act.put, List.setIfInBounds_toArray, List.set_cons_zero, List.set_cons_succ]
      refine wpAnyH_take (i := 30) (oi := { dst := some 86, op := Op.pick (Operand.tmp 80) (Operand.const (Value.bool true)) (Operand.tmp 85), type := 4, pos := "law.go:33", after := #[{ on := 24, ground := Ground.data }, { on := 29, ground := Ground.data }], guard := none }) (v := ?_) rfl (by kernel_rfl) (by kernel_rfl) (by kernel_rfl) (fun _ _ _ h => h) (Or.inl ⟨by rfl, ?_⟩) (by assumption) ?_
      rotate_left
      · (intro w hSw; (try dsimp only at hSw); go_simp); (first | done | with_reducible rfl)
      try simp only [Act.put, List.setIfInBounds_toArray, List.set_cons_zero, List.set_cons_succ]
      refine wpAnyH_take (i := 31) (oi := { dst := some 87, op := Op.move (Operand.tmp 86), type := 4, pos := "law.go:33", after := #[{ on := 30, ground := Ground.data }, { on := 28, ground := Ground.chain }], guard := none }) (v := ?_) rfl (by kernel_rfl) (by kernel_rfl) (by kernel_rfl) (fun _ _ _ h => h) (Or.inl ⟨by rfl, ?_⟩) (by assumption) ?_
      rotate_left
      · (intro w hSw; (try dsimp only at hSw); go_simp); (first | done | with_reducible rfl)
      try simp only [Act.put, List.setIfInBounds_toArray, List.set_cons_zero, List.set_cons_succ]
      refine wpAnyH_take (i := 32) (oi := { dst := some 88, op := Op.move (Operand.tmp 7), type := 3, pos := "law.go:33", after := #[{ on := 31, ground := Ground.guard }], guard := some (31, false) }) (v := ?_) rfl (by kernel_rfl) (by kernel_rfl) (by kernel_rfl) (fun _ _ _ h => h) (Or.inl ⟨by rfl, ?_⟩) (by assumption) ?_
      rotate_left
      · (intro w hSw; (try dsimp only at hSw); go_simp); (first | done | with_reducible rfl)
      try simp only [Act.put, List.setIfInBounds_toArray, List.set_cons_zero, List.set_cons_succ]
      refine wpAnyH_take (i := 33) (oi := { dst := some 89, op := Op.binOp BinOp.neq 3 (Operand.tmp 88) (Operand.const (Value.int IntKind.i64 16)) 3, type := 4, pos := "law.go:33", after := #[{ on := 32, ground := Ground.data }, { on := 31, ground := Ground.guard }], guard := some (31, false) }) (v := ?_) rfl (by kernel_rfl) (by kernel_rfl) (by kernel_rfl) (fun _ _ _ h => h) (Or.inl ⟨by rfl, ?_⟩) (by assumption) ?_
      rotate_left
      · (intro w hSw; (try dsimp only at hSw); go_simp); (first | done | with_reducible rfl)
      try simp only [Act.put, List.setIfInBounds_toArray, List.set_cons_zero, List.set_cons_succ]
      refine wpAnyH_take (i := 34) (oi := { dst := some 90, op := Op.pick (Operand.tmp 87) (Operand.const (Value.bool true)) (Operand.tmp 89), type := 4, pos := "law.go:33", after := #[{ on := 31, ground := Ground.data }, { on := 33, ground := Ground.data }], guard := none }) (v := ?_) rfl (by kernel_rfl) (by kernel_rfl) (by kernel_rfl) (fun _ _ _ h => h) (Or.inl ⟨by rfl, ?_⟩) (by assumption) ?_
      rotate_left
      · (intro w hSw; (try dsimp only at hSw); go_simp); (first | done | with_reducible rfl)
      try simp only [Act.put, List.setIfInBounds_toArray, List.set_cons_zero, List.set_cons_succ]
      refine wpAnyH_take (i := 35) (oi := { dst := some 91, op := Op.move (Operand.tmp 90), type := 4, pos := "law.go:33", after := #[{ on := 34, ground := Ground.data }, { on := 31, ground := Ground.chain }], guard := none }) (v := ?_) rfl (by kernel_rfl) (by kernel_rfl) (by kernel_rfl) (fun _ _ _ h => h) (Or.inl ⟨by rfl, ?_⟩) (by assumption) ?_
      rotate_left
      · (intro w hSw; (try dsimp only at hSw); go_simp); (first | done | with_reducible rfl)
      try simp only [Act.put, List.setIfInBounds_toArray, List.set_cons_zero, List.set_cons_succ]
      refine wpAnyH_take (i := 36) (oi := { dst := some 92, op := Op.move (Operand.tmp 11), type := 25, pos := "law.go:33", after := #[{ on := 35, ground := Ground.guard }], guard := some (35, false) }) (v := ?_) rfl (by kernel_rfl) (by kernel_rfl) (by kernel_rfl) (fun _ _ _ h => h) (Or.inl ⟨by rfl, ?_⟩) (by assumption) ?_
      rotate_left
      · (intro w hSw; (try dsimp only at hSw); go_simp); (first | done | with_reducible rfl)
      try simp only [Act.put, List.setIfInBounds_toArray, List.set_cons_zero, List.set_cons_succ]
      refine wpAnyH_take (i := 37) (oi := { dst := some 93, op := Op.binOp BinOp.neq 25 (Operand.tmp 92) (Operand.const (Value.int IntKind.i64 4)) 25, type := 4, pos := "law.go:33", after := #[{ on := 36, ground := Ground.data }, { on := 35, ground := Ground.guard }], guard := some (35, false) }) (v := ?_) rfl (by kernel_rfl) (by kernel_rfl) (by kernel_rfl) (fun _ _ _ h => h) (Or.inl ⟨by rfl, ?_⟩) (by assumption) ?_
      rotate_left
      · (intro w hSw; (try dsimp only at hSw); go_simp); (first | done | with_reducible rfl)
      try simp only [Act.put, List.setIfInBounds_toArray, List.set_cons_zero, List.set_cons_succ]
      refine wpAnyH_take (i := 38) (oi := { dst := some 94, op := Op.pick (Operand.tmp 91) (Operand.const (Value.bool true)) (Operand.tmp 93), type := 4, pos := "law.go:33", after := #[{ on := 35, ground := Ground.data }, { on := 37, ground := Ground.data }], guard := none }) (v := ?_) rfl (by kernel_rfl) (by kernel_rfl) (by kernel_rfl) (fun _ _ _ h => h) (Or.inl ⟨by rfl, ?_⟩) (by assumption) ?_
      rotate_left
      · (intro w hSw; (try dsimp only at hSw); go_simp); (first | done | with_reducible rfl)
      refine wpAnyH_done (by kernel_rfl) ?_ _
      have HH := Lib.hid (HHY.out _ HE.out)
      clear hHeld HHY HS HE
      go_wp2_with fail
      have CF := Lib.hid (fun W (q : HgX (fun _ => False) w.heap.size b d ex17.1 ex17.2 W ∧ Below w.heap.size w W) => show Calls Tryz.prog 20 #[.pointer (some ⟨b, 0, none⟩)] W fun e w' => e = .returned (.int .i64 0) ∧ HgX (fun _ => False) w.heap.size b d exA.2.1 exA.2.2 w' ∧ Below w.heap.size w w' from (sync6_any q.1 (fun k hk => hk.elim) q.2.size).mono fun e w' ⟨h1, h2, h3⟩ => ⟨h1.trans (congrArg (fun z => Ending.returned (.int .i64 z)) ex_four.1), h2, q.2.trans (h3.below (fun k hk => hk.1) q.2.size)⟩)
      with_reducible refine (CF.out _ HH.out).mono ?_
      rintro e wf0 ⟨rfl, hf⟩
      replace HH := Lib.hid hf
      clear hf CF
      go_wp2_with fail
      have CF := Lib.hid (fun W (q : HgX (fun _ => False) w.heap.size b d exA.2.1 exA.2.2 W ∧ Below w.heap.size w W) => show Calls Tryz.prog 21 #[.pointer (some ⟨b, 0, none⟩)] W fun e w' => e = .returned (.int .i64 0) ∧ HgX (fun _ => False) w.heap.size b d exB.2.1 exB.2.2 w' ∧ Below w.heap.size w w' from (rotate6_any q.1 (fun k hk => hk.elim) q.2.size ex_small.1 ex_small.2.1).mono fun e w' ⟨h1, h2, h3⟩ => ⟨h1.trans (congrArg (fun z => Ending.returned (.int .i64 z)) ex_four.2.1), h2, q.2.trans (h3.below (fun k hk => hk.1) q.2.size)⟩)
      with_reducible refine (CF.out _ HH.out).mono ?_
      rintro e wf1 ⟨rfl, hf⟩
      replace HH := Lib.hid hf
      clear hf CF
      go_wp2_with fail
      have CF := Lib.hid (fun W (q : HgX (fun _ => False) w.heap.size b d exB.2.1 exB.2.2 W ∧ Below w.heap.size w W) => show Calls Tryz.prog 21 #[.pointer (some ⟨b, 0, none⟩)] W fun e w' => e = .returned (.int .i64 0) ∧ HgX (fun _ => False) w.heap.size b d exC.2.1 exC.2.2 w' ∧ Below w.heap.size w w' from (rotate6_any q.1 (fun k hk => hk.elim) q.2.size ex_small.2.2.1 ex_small.2.2.2).mono fun e w' ⟨h1, h2, h3⟩ => ⟨h1.trans (congrArg (fun z => Ending.returned (.int .i64 z)) ex_four.2.2.1), h2, q.2.trans (h3.below (fun k hk => hk.1) q.2.size)⟩)
      with_reducible refine (CF.out _ HH.out).mono ?_
      rintro e wf2 ⟨rfl, hf⟩
      replace HH := Lib.hid hf
      clear hf CF
      go_wp2_with fail
      have CF := Lib.hid (fun W (q : HgX (fun _ => False) w.heap.size b d exC.2.1 exC.2.2 W ∧ Below w.heap.size w W) => show Calls Tryz.prog 22 #[.pointer (some ⟨b, 0, none⟩), .int .i64 2] W fun e w' => e = .returned (.int .i64 0) ∧ HgX (fun _ => False) w.heap.size b d exD.2.1 exD.2.2 w' ∧ Below w.heap.size w w' from (retain6_any q.1 (fun k hk => hk.elim) q.2.size 2 (by decide)).mono fun e w' ⟨h1, h2, h3⟩ => ⟨h1.trans (congrArg (fun z => Ending.returned (.int .i64 z)) ex_four.2.2.2), h2, q.2.trans (h3.below (fun k hk => hk.1) q.2.size)⟩)
      with_reducible refine (CF.out _ HH.out).mono ?_
      rintro e wf3 ⟨rfl, hf⟩
      replace HH := Lib.hid hf
      clear hf CF
      go_wp2_with fail
      have CM := Lib.hid (fun W (q : HgX (fun _ => False) w.heap.size b d exD.2.1 exD.2.2 W ∧ Below w.heap.size w W) => show Calls Tryz.prog 36 #[.pointer (some ⟨d, 0, none⟩)] W (RowT [[108, 49, 54], [108, 49, 55]] W) from by
        obtain ⟨vs, P, h1, h2, h3, h4, h5⟩ := q.1
        have := namesX h2
        rw [ex_names2] at this
        exact this)
      with_reducible refine (CM.out _ HH.out).mono ?_
      rintro e wm ⟨am, cm, rfl, hrm, hbm⟩
      have hx := (Below.refl wm.heap.size wm).alloc (Nat.le_refl _) (.cells #[.string (S [108, 49, 54]), .string (S [108, 49, 55])] 9)
      have CT := Lib.hid (show Calls Tryz.prog 39 #[.slice am 2 cm, .slice (some ⟨wm.heap.size, 0, none⟩) 2 2] (wm.alloc (.cells #[.string (S [108, 49, 54]), .string (S [108, 49, 55])] 9)) (fun e w' => e = .returned (.bool true) ∧ Below (wm.alloc (.cells #[.string (S [108, 49, 54]), .string (S [108, 49, 55])] 9)).heap.size (wm.alloc (.cells #[.string (S [108, 49, 54]), .string (S [108, 49, 55])] 9)) w') from sameTexts5_any [[108, 49, 54], [108, 49, 55]] [[108, 49, 54], [108, 49, 55]] (by decide) (by decide) am _ cm 2 _ (TsA5.below (tsA_row5 hrm) hx) (two_bk6 (bk_new #[.string (S [108, 49, 54]), .string (S [108, 49, 55])] 9 wm)))
      replace HH := Lib.hid (show HgX (fun _ => False) w.heap.size b d exD.2.1 exD.2.2 (wm.alloc (.cells #[.string (S [108, 49, 54]), .string (S [108, 49, 55])] 9)) ∧ Below w.heap.size w (wm.alloc (.cells #[.string (S [108, 49, 54]), .string (S [108, 49, 55])] 9)) from ⟨(HH.out.1.below hbm).below hx, below_step (below_step HH.out.2 hbm) hx⟩)
      clear hrm hbm hx CM
      go_wp2_with fail
      with_reducible refine CT.out.mono ?_
      rintro e wt ⟨rfl, hbt⟩
      replace HH := Lib.hid (⟨HH.out.1.below hbt, below_step HH.out.2 hbt⟩ : HgX (fun _ => False) w.heap.size b d exD.2.1 exD.2.2 wt ∧ Below w.heap.size w wt)
      clear hbt CT
      have CI := Lib.hid (show Calls Tryz.prog 23 #[.pointer (some ⟨b, 0, none⟩)] wt fun e w' => e = .returned (.int .i64 16) ∧ Below wt.heap.size wt w' from by
        have := first6_any HH.out.1
        rw [ex_first] at this
        exact this)
      go_wp2_with fail
      with_reducible refine CI.out.mono ?_
      rintro e wi ⟨rfl, hbi⟩
      have HF := Lib.hid (below_step HH.out.2 hbi)
      clear hbi CI
      go_wp2_with fail
      go_ret
      exact ⟨rfl, HF.out⟩

end Go.Proofs.YtmammmjmipgmoaaGreatDoor
