/- Layer 15: MemoryCut. -/
import Derived.Test.YthidmgnfdikppaaMemYe
import Derived.Test.YthidmgnfdikppaaMemU
import Derived.Test.YthidmgnfdikppaaMemYp
import Derived.Deep.RegionHeld
namespace Go.Proofs.Ythidmgnfdikppaa
set_option linter.unusedVariables false
set_option linter.unusedSimpArgs false
open Go Go.RowKit
attribute [local go_sem ↓] run_index_S
attribute [local go_sem] S_append S_extract

theorem ok77 {c : M.Cl} (h : ClOk c) : ClOk ⟨c.key, 77, []⟩ := ⟨h.1, Nat.zero_le _, by constructor <;> simp⟩
set_option maxHeartbeats 8000000 in
set_option maxRecDepth 100000 in
theorem memoryCut_calls (W : World) (v : Value) (hv : UCs W v) (v2 : Value) (hv2 : UCs W v2) (key : List UInt8) (hkl : key.length ≤ 140737488351232) :
    Calls Try.prog 18 #[v, v2, .string (S key)] W fun e w' => e = .returned (.bool true) ∧ Below W.heap.size W w' := by
  obtain ⟨L, ao, cap, rfl, hl, hi, hc, hL⟩ := hv
  obtain ⟨K, bo, cbp, rfl, hl2, hi2, hc2, hK⟩ := hv2
  have CG := Lib.hid (show Calls Try.prog 22 #[.slice ao L.length cap, .int .i64 100] W fun e w' => GreatR9 L 100 W e w' from great9_any L cap 100 (by omega) hL hl)
  have CG2 := Lib.hid (show Calls Try.prog 22 #[.slice bo K.length cbp, .int .i64 100] W fun e w' => GreatR9 K 100 W e w' from great9_any K cbp 100 (by omega) hK hl2)
  unfold GreatR9 at CG CG2
  have CD := Lib.hid does15_any
  have HL := Lib.hid hL
  have HK := Lib.hid hK
  have HI := Lib.hid hi
  have HI2 := Lib.hid hi2
  clear hL hi hK hi2
  go_enter Try.func18, Try.ntmps18
  go_wp2_with fail
  with_reducible refine CG.out.mono ?_
  rintro e w0 ⟨rfl | ⟨rfl, hsm⟩, rfl⟩
  · go_wp2_with fail
    go_ret
    exact ⟨rfl, Below.refl _ _⟩
  go_wp2_with fail
  with_reducible refine CG2.out.mono ?_
  rintro e w0 ⟨rfl | ⟨rfl, hsm2⟩, rfl⟩
  · go_wp2_with fail
    go_ret
    exact ⟨rfl, Below.refl _ _⟩
  by_cases q1 : 1000 < key.length
  · have d1 : decide ((1000 : Int) < (key.length : Int)) = true := by simp; omega
    go_wp2_with fail
    go_ret
    exact ⟨rfl, Below.refl _ _⟩
  have d1 : decide ((1000 : Int) < (key.length : Int)) = false := by simp; omega
  have h100 : L.length ≤ 100 := hsm.1
  have h102 : K.length ≤ 100 := hsm2.1
  have HOK := Lib.hid (hsm.oks HI.out)
  have HOK2 := Lib.hid (hsm2.oks HI2.out)
  have CL1 := Lib.hid (laid15_any ao cap L W HL.out HOK.out (by omega))
  have CL2 := Lib.hid (fun V (h : ClsAt V bo K) => laid15_any bo cbp K V h HOK2.out (by omega))
  have HAM := Lib.hid (M.puts_may L (A := []) (fun c hc => by cases hc))
  have HKM := Lib.hid (M.puts_may K (A := []) (fun c hc => by cases hc))
  have HAO := Lib.hid (M.puts_ok HOK.out (A := []) (fun c hc => by cases hc))
  have HKO := Lib.hid (M.puts_ok HOK2.out (A := []) (fun c hc => by cases hc))
  have hAl : (M.putsL [] L).length ≤ 100 := by
    have h1 := M.puts_len L []
    simp at h1
    omega
  have hKl : (M.putsL [] K).length ≤ 100 := by
    have h1 := M.puts_len K []
    simp at h1
    omega
  have HJE := Lib.hid (show M.putsL (M.putsL [] L) (M.putsL [] K) = M.joinL (M.putsL [] L) (M.putsL [] K) from M.puts_join _ HKM.out)
  unfold LaidR at CL1 CL2
  clear hsm hsm2 CG CG2 hl hl2 HI HI2 HAM HKM
  generalize M.putsL [] L = A at *
  generalize M.putsL [] K = C at *
  go_wp2_with fail
  with_reducible refine (CL1.out).mono ?_
  rintro e w1 ⟨b, rb, rfl, hp, hb⟩
  have HP1 := Lib.hid hp
  have HB1 := Lib.hid hb
  clear hp hb CL1
  go_wp2_with fail
  with_reducible refine (CL2.out _ (HK.out.below HB1.out)).mono ?_
  rintro e w2 ⟨b2, rb2, rfl, hp, hb⟩
  have HP2 := Lib.hid hp
  replace HP1 := carry hb HP1
  have HBW := Lib.hid (below_step HB1.out hb)
  have HL2 := Lib.hid (HL.out.below HBW.out)
  have HK2 := Lib.hid (HK.out.below HBW.out)
  generalize W.heap.size = B1 at HP1
  generalize w1.heap.size = B2 at HP2
  clear hp hb CL2 HB1 HL HK
  have CC := Lib.hid (HP1.out.cut key)
  unfold CutR at CC
  go_wp2_with fail
  with_reducible refine (CC.out).mono ?_
  rintro e w3 ⟨c1, pa1, pc1, P1, c2, pa2, pc2, P2, rfl, m1, m2, s1, s2, x1, x2, hb⟩
  have HS := Lib.hid ((SysL.nil (Nat.le_refl w2.heap.size)).moreC hb m1 m2 s1 s2 x1 x2)
  have HB := Lib.hid hb
  clear CC m1 m2 s1 s2 x1 x2 hb
  have CC := Lib.hid (Pl.rcut key (HP1.out.below HB.out) (by omega))
  unfold RCutR at CC
  have hF1 : (A.filter (M.below key)).length ≤ 100 := Nat.le_trans (List.length_filter_le _ _) hAl
  have hF2 : (A.filter (fun c => !M.below key c)).length ≤ 100 := Nat.le_trans (List.length_filter_le _ _) hAl
  generalize A.filter (M.below key) = A1 at *
  generalize A.filter (fun c => !M.below key c) = A2 at *
  go_wp2_with fail
  with_reducible refine (CC.out).mono ?_
  rintro e w4 ⟨rc, rd, aA, cA, aB, cB, rfl, m1, m2, x1, x2, x3, x4, x5, x6, x7, hb⟩
  replace HS := Lib.hid (HS.out.moreR2 hb m1 m2 x1 x2 x3 x4 x5 x6 x7)
  replace HB := carry hb HB
  clear CC m1 m2 x1 x2 x3 x4 x5 x6 x7 hb
  have CC := Lib.hid (pl_join (HP1.out.below HB.out) (HP2.out.below HB.out) (by omega))
  unfold JoinX at CC
  go_wp2_with fail
  with_reducible refine (CC.out).mono ?_
  rintro e w5 ⟨bj, rfl, hm, hb⟩
  replace HS := Lib.hid (HS.out.moreM hb hm)
  replace HB := carry hb HB
  clear CC hm hb
  have CC := Lib.hid (pl_rjoin (HP1.out.below HB.out) (HP2.out.below HB.out) HKO.out (by omega))
  unfold RJoinR at CC
  rw [HJE.out] at CC
  have hJl : (M.joinL A C).length ≤ 200 := by have := M.join_len A C; omega
  generalize M.joinL A C = J at *
  go_wp2_with fail
  with_reducible refine (CC.out).mono ?_
  rintro e w6 ⟨rj, aJ, cJ, rfl, hm, _, _, hb⟩
  replace HS := carry hb HS
  replace HB := carry hb HB
  have HRJ := Lib.hid hm.row
  have HCJ := Lib.hid hm.cls
  clear CC hm hb HJE
  have h1 := HS.out.front 1 (by simp)
  have HSc := Lib.hid (show SysL w2.heap.size [(false, rc, A1), (true, bj, J), (false, rd, A2), (true, c1, A1), (true, c2, A2)] w6 from h1)
  have h2 := HS.out.front 2 (by simp)
  have HSd := Lib.hid (show SysL w2.heap.size [(false, rd, A2), (true, bj, J), (false, rc, A1), (true, c1, A1), (true, c2, A2)] w6 from h2)
  have h3 := HS.out.front 3 (by simp)
  have HSa := Lib.hid (show SysL w2.heap.size [(true, c1, A1), (true, bj, J), (false, rc, A1), (false, rd, A2), (true, c2, A2)] w6 from h3)
  have h4 := HS.out.front 4 (by simp)
  have HSb := Lib.hid (show SysL w2.heap.size [(true, c2, A2), (true, bj, J), (false, rc, A1), (false, rd, A2), (true, c1, A1)] w6 from h4)
  clear h1 h2 h3 h4
  obtain ⟨aC, kC, hrC, hcC⟩ := HSc.out.rrow
  obtain ⟨aD, kD, hrD, hcD⟩ := HSd.out.rrow
  have HRC := Lib.hid hrC
  have HCC := Lib.hid hcC
  have HRD := Lib.hid hrD
  have HCD := Lib.hid hcD
  clear hrC hcC hrD hcD HSc HSd
  have CS := Lib.hid (fun (X : List M.Cl) V a1 a2 c1 c2 (hX : X.length ≤ 1000) h1 h2 => sameCells9_yes (w := V) X X.length rfl a1 a2 c1 c2 (by omega) h1 h2)
  have HBX := Lib.hid (Below.refl w6.heap.size w6)
  go_upto_region 9 with (fail)
  refine wp_region_held_drew (S := fun V => V.cell? ⟨rc, 0, none⟩ = some (.slice aC A1.length kC) ∧ V.cell? ⟨rd, 0, none⟩ = some (.slice aD A2.length kD) ∧ V.cell? ⟨rj, 0, none⟩ = some (.slice aJ J.length cJ)) (by kernel_rfl) ?_ (fun hHeld => ?_)
  · exact ⟨(HRC.out.below HBX.out.drew).cell 0, (HRD.out.below HBX.out.drew).cell 0, (HRJ.out.below HBX.out.drew).cell 0⟩
  replace HBX := Lib.hid HBX.out.drew
  obtain ⟨wd, hwd⟩ : ∃ x, x = World.drew w6 := ⟨_, rfl⟩
  rw [← hwd] at HBX hHeld ⊢
  clear hwd
  refine wpAnyH_take (i := 0) (oi := { dst := some 58, op := Op.move (Operand.tmp 11), type := 74, pos := "law.go:76", after := #[], guard := none }) (v := ?_) rfl (by kernel_rfl) (by kernel_rfl) (by kernel_rfl) (fun _ _ _ h => h) (Or.inl ⟨by rfl, ?_⟩) (by assumption) ?_
  rotate_left
  · (intro w hSw; (try dsimp only at hSw); go_simp); (first | done | with_reducible rfl)
  try simp only [Act.put, List.setIfInBounds_toArray, List.set_cons_zero, List.set_cons_succ]
  refine wpAnyH_take (i := 2) (oi := { dst := some 60, op := Op.move (Operand.tmp 13), type := 76, pos := "law.go:76", after := #[], guard := none }) (v := ?_) rfl (by kernel_rfl) (by kernel_rfl) (by kernel_rfl) (fun _ _ _ h => h) (Or.inl ⟨by rfl, ?_⟩) (by assumption) ?_
  rotate_left
  · (intro w hSw; (try dsimp only at hSw); go_simp); (first | done | with_reducible rfl)
  try simp only [Act.put, List.setIfInBounds_toArray, List.set_cons_zero, List.set_cons_succ]
  refine wpAnyH_take (i := 3) (oi := { dst := some 61, op := Op.nilCheck (Operand.tmp 60), type := 0, pos := "law.go:76", after := #[{ on := 2, ground := Ground.data }], guard := none }) (v := ?_) rfl (by kernel_rfl) (by kernel_rfl) (by kernel_rfl) (fun _ _ _ h => h) (Or.inl ⟨by rfl, ?_⟩) (by assumption) ?_
  rotate_left
  · (intro w hSw; (try dsimp only at hSw); go_simp); (first | done | with_reducible rfl)
  try simp only [Act.put, List.setIfInBounds_toArray, List.set_cons_zero, List.set_cons_succ]
  refine wpAnyH_take (i := 4) (oi := { dst := some 62, op := Op.fieldAddr 78 (Operand.tmp 61) 0, type := 0, pos := "law.go:76", after := #[{ on := 3, ground := Ground.data }], guard := none }) (v := ?_) rfl (by kernel_rfl) (by kernel_rfl) (by kernel_rfl) (fun _ _ _ h => h) (Or.inl ⟨by rfl, ?_⟩) (by assumption) ?_
  rotate_left
  · (intro w hSw; (try dsimp only at hSw); go_simp); (first | done | with_reducible rfl)
  try simp only [Act.put, List.setIfInBounds_toArray, List.set_cons_zero, List.set_cons_succ]
  refine wpAnyH_take (i := 5) (oi := { dst := some 63, op := Op.load 22 (Operand.tmp 62), type := 22, pos := "law.go:76", after := #[{ on := 4, ground := Ground.data }], guard := none }) (v := ?_) rfl (by kernel_rfl) (by kernel_rfl) (by kernel_rfl) (fun _ _ _ h => h) (Or.inl ⟨by rfl, ?_⟩) (by assumption) ?_
  rotate_left
  · (intro w hSw; (try dsimp only at hSw); go_simp); (first | done | with_reducible rfl)
  try simp only [Act.put, List.setIfInBounds_toArray, List.set_cons_zero, List.set_cons_succ]
  refine wpAnyH_ready (rs := [1]) (by kernel_rfl) (by simp) ?_
  refine AllReadyH.cons (o := { dst := some 59, op := Op.call { callee := Callee.value (Operand.func 56), args := #[Operand.tmp 58, Operand.const (Value.string { data := #[] }), Operand.const (Value.string { data := #[] })], argTypes := #[74, 9, 9] }, type := 22, pos := "law.go:76", after := #[{ on := 0, ground := Ground.data }], guard := none }) rfl (fun K hK => ?_) (AllReadyH.nil)
  have CR := Lib.hid ((HSa.out.below HBX.out).mrng)
  unfold RangeR10 at CR
  go_simp
  go_at_call 56
  with_reducible refine (CR.out).mono ?_
  rintro e wr1 ⟨ar1, cr1, rfl, ho, hbq⟩
  replace HBX := carry hbq HBX
  have HR1 := Lib.hid (clsAt_own ho rfl)
  clear hbq ho CR
  go_wp2_with fail
  refine hK.out _ _ ?_ (fun hHeld => ?_)
  · exact ⟨(HRC.out.below HBX.out).cell 0, (HRD.out.below HBX.out).cell 0, (HRJ.out.below HBX.out).cell 0⟩
  clear hK K
  try simp only [Act.put, List.setIfInBounds_toArray, List.set_cons_zero, List.set_cons_succ]
  refine wpAnyH_ready (rs := [6]) (by kernel_rfl) (by simp) ?_
  refine AllReadyH.cons (o := { dst := some 64, op := Op.call { callee := Callee.value (Operand.func 35), args := #[Operand.tmp 59, Operand.tmp 63], argTypes := #[22, 22] }, type := 4, pos := "law.go:76", after := #[{ on := 1, ground := Ground.data }, { on := 5, ground := Ground.data }, { on := 1, ground := Ground.chain }], guard := none }) rfl (fun K hK => ?_) (AllReadyH.nil)
  go_simp
  go_at_call 35
  with_reducible refine (CS.out A1 _ _ _ _ _ (by omega) HR1.out (HCC.out.below HBX.out)).mono ?_
  rintro e ws1 ⟨rfl, hbq⟩
  replace HBX := carry hbq HBX
  clear hbq
  go_wp2_with fail
  refine hK.out _ _ ?_ (fun hHeld => ?_)
  · exact ⟨(HRC.out.below HBX.out).cell 0, (HRD.out.below HBX.out).cell 0, (HRJ.out.below HBX.out).cell 0⟩
  clear hK K
  try simp only [Act.put, List.setIfInBounds_toArray, List.set_cons_zero, List.set_cons_succ]
  refine wpAnyH_take (i := 7) (oi := { dst := some 65, op := Op.unOp UnOp.not 4 (Operand.tmp 64), type := 4, pos := "law.go:76", after := #[{ on := 6, ground := Ground.data }], guard := none }) (v := ?_) rfl (by kernel_rfl) (by kernel_rfl) (by kernel_rfl) (fun _ _ _ h => h) (Or.inl ⟨by rfl, ?_⟩) (by assumption) ?_
  rotate_left
  · (intro w hSw; (try dsimp only at hSw); go_simp); (first | done | with_reducible rfl)
  try simp only [Act.put, List.setIfInBounds_toArray, List.set_cons_zero, List.set_cons_succ]
  refine wpAnyH_take (i := 8) (oi := { dst := some 66, op := Op.move (Operand.tmp 65), type := 4, pos := "law.go:76", after := #[{ on := 7, ground := Ground.data }, { on := 6, ground := Ground.chain }], guard := none }) (v := ?_) rfl (by kernel_rfl) (by kernel_rfl) (by kernel_rfl) (fun _ _ _ h => h) (Or.inl ⟨by rfl, ?_⟩) (by assumption) ?_
  rotate_left
  · (intro w hSw; (try dsimp only at hSw); go_simp); (first | done | with_reducible rfl)
  try simp only [Act.put, List.setIfInBounds_toArray, List.set_cons_zero, List.set_cons_succ]
  refine wpAnyH_take (i := 9) (oi := { dst := some 67, op := Op.move (Operand.tmp 12), type := 74, pos := "law.go:76", after := #[{ on := 8, ground := Ground.guard }], guard := some (8, false) }) (v := ?_) rfl (by kernel_rfl) (by kernel_rfl) (by kernel_rfl) (fun _ _ _ h => h) (Or.inl ⟨by rfl, ?_⟩) (by assumption) ?_
  rotate_left
  · (intro w hSw; (try dsimp only at hSw); go_simp); (first | done | with_reducible rfl)
  try simp only [Act.put, List.setIfInBounds_toArray, List.set_cons_zero, List.set_cons_succ]
  refine wpAnyH_take (i := 11) (oi := { dst := some 69, op := Op.move (Operand.tmp 14), type := 76, pos := "law.go:76", after := #[{ on := 8, ground := Ground.guard }], guard := some (8, false) }) (v := ?_) rfl (by kernel_rfl) (by kernel_rfl) (by kernel_rfl) (fun _ _ _ h => h) (Or.inl ⟨by rfl, ?_⟩) (by assumption) ?_
  rotate_left
  · (intro w hSw; (try dsimp only at hSw); go_simp); (first | done | with_reducible rfl)
  try simp only [Act.put, List.setIfInBounds_toArray, List.set_cons_zero, List.set_cons_succ]
  refine wpAnyH_take (i := 12) (oi := { dst := some 70, op := Op.nilCheck (Operand.tmp 69), type := 0, pos := "law.go:76", after := #[{ on := 11, ground := Ground.data }, { on := 8, ground := Ground.guard }], guard := some (8, false) }) (v := ?_) rfl (by kernel_rfl) (by kernel_rfl) (by kernel_rfl) (fun _ _ _ h => h) (Or.inl ⟨by rfl, ?_⟩) (by assumption) ?_
  rotate_left
  · (intro w hSw; (try dsimp only at hSw); go_simp); (first | done | with_reducible rfl)
  try simp only [Act.put, List.setIfInBounds_toArray, List.set_cons_zero, List.set_cons_succ]
  refine wpAnyH_take (i := 13) (oi := { dst := some 71, op := Op.fieldAddr 78 (Operand.tmp 70) 0, type := 0, pos := "law.go:76", after := #[{ on := 12, ground := Ground.data }, { on := 8, ground := Ground.guard }], guard := some (8, false) }) (v := ?_) rfl (by kernel_rfl) (by kernel_rfl) (by kernel_rfl) (fun _ _ _ h => h) (Or.inl ⟨by rfl, ?_⟩) (by assumption) ?_
  rotate_left
  · (intro w hSw; (try dsimp only at hSw); go_simp); (first | done | with_reducible rfl)
  try simp only [Act.put, List.setIfInBounds_toArray, List.set_cons_zero, List.set_cons_succ]
  refine wpAnyH_take (i := 14) (oi := { dst := some 72, op := Op.load 22 (Operand.tmp 71), type := 22, pos := "law.go:76", after := #[{ on := 13, ground := Ground.data }, { on := 8, ground := Ground.guard }], guard := some (8, false) }) (v := ?_) rfl (by kernel_rfl) (by kernel_rfl) (by kernel_rfl) (fun _ _ _ h => h) (Or.inl ⟨by rfl, ?_⟩) (by assumption) ?_
  rotate_left
  · (intro w hSw; (try dsimp only at hSw); go_simp); (first | done | with_reducible rfl)
  try simp only [Act.put, List.setIfInBounds_toArray, List.set_cons_zero, List.set_cons_succ]
  refine wpAnyH_ready (rs := [10]) (by kernel_rfl) (by simp) ?_
  refine AllReadyH.cons (o := { dst := some 68, op := Op.call { callee := Callee.value (Operand.func 56), args := #[Operand.tmp 67, Operand.const (Value.string { data := #[] }), Operand.const (Value.string { data := #[] })], argTypes := #[74, 9, 9] }, type := 22, pos := "law.go:76", after := #[{ on := 9, ground := Ground.data }, { on := 8, ground := Ground.chain }, { on := 8, ground := Ground.guard }], guard := some (8, false) }) rfl (fun K hK => ?_) (AllReadyH.nil)
  have CR := Lib.hid ((HSb.out.below HBX.out).mrng)
  unfold RangeR10 at CR
  go_simp
  go_at_call 56
  with_reducible refine (CR.out).mono ?_
  rintro e wr2 ⟨ar2, cr2, rfl, ho, hbq⟩
  replace HBX := carry hbq HBX
  have HR2 := Lib.hid (clsAt_own ho rfl)
  clear hbq ho CR
  go_wp2_with fail
  refine hK.out _ _ ?_ (fun hHeld => ?_)
  · exact ⟨(HRC.out.below HBX.out).cell 0, (HRD.out.below HBX.out).cell 0, (HRJ.out.below HBX.out).cell 0⟩
  clear hK K
  try simp only [Act.put, List.setIfInBounds_toArray, List.set_cons_zero, List.set_cons_succ]
  refine wpAnyH_ready (rs := [15]) (by kernel_rfl) (by simp) ?_
  refine AllReadyH.cons (o := { dst := some 73, op := Op.call { callee := Callee.value (Operand.func 35), args := #[Operand.tmp 68, Operand.tmp 72], argTypes := #[22, 22] }, type := 4, pos := "law.go:76", after := #[{ on := 10, ground := Ground.data }, { on := 14, ground := Ground.data }, { on := 10, ground := Ground.chain }, { on := 8, ground := Ground.guard }], guard := some (8, false) }) rfl (fun K hK => ?_) (AllReadyH.nil)
  go_simp
  go_at_call 35
  with_reducible refine (CS.out A2 _ _ _ _ _ (by omega) HR2.out (HCD.out.below HBX.out)).mono ?_
  rintro e ws2 ⟨rfl, hbq⟩
  replace HBX := carry hbq HBX
  clear hbq
  go_wp2_with fail
  refine hK.out _ _ ?_ (fun hHeld => ?_)
  · exact ⟨(HRC.out.below HBX.out).cell 0, (HRD.out.below HBX.out).cell 0, (HRJ.out.below HBX.out).cell 0⟩
  clear hK K
  try simp only [Act.put, List.setIfInBounds_toArray, List.set_cons_zero, List.set_cons_succ]
  refine wpAnyH_take (i := 16) (oi := { dst := some 74, op := Op.unOp UnOp.not 4 (Operand.tmp 73), type := 4, pos := "law.go:76", after := #[{ on := 15, ground := Ground.data }, { on := 8, ground := Ground.guard }], guard := some (8, false) }) (v := ?_) rfl (by kernel_rfl) (by kernel_rfl) (by kernel_rfl) (fun _ _ _ h => h) (Or.inl ⟨by rfl, ?_⟩) (by assumption) ?_
  rotate_left
  · (intro w hSw; (try dsimp only at hSw); go_simp); (first | done | with_reducible rfl)
  try simp only [Act.put, List.setIfInBounds_toArray, List.set_cons_zero, List.set_cons_succ]
  refine wpAnyH_take (i := 17) (oi := { dst := some 75, op := Op.pick (Operand.tmp 66) (Operand.const (Value.bool true)) (Operand.tmp 74), type := 4, pos := "law.go:76", after := #[{ on := 8, ground := Ground.data }, { on := 16, ground := Ground.data }], guard := none }) (v := ?_) rfl (by kernel_rfl) (by kernel_rfl) (by kernel_rfl) (fun _ _ _ h => h) (Or.inl ⟨by rfl, ?_⟩) (by assumption) ?_
  rotate_left
  · (intro w hSw; (try dsimp only at hSw); go_simp); (first | done | with_reducible rfl)
  try simp only [Act.put, List.setIfInBounds_toArray, List.set_cons_zero, List.set_cons_succ]
  refine wpAnyH_take (i := 18) (oi := { dst := some 76, op := Op.move (Operand.tmp 75), type := 4, pos := "law.go:76", after := #[{ on := 17, ground := Ground.data }, { on := 15, ground := Ground.chain }], guard := none }) (v := ?_) rfl (by kernel_rfl) (by kernel_rfl) (by kernel_rfl) (fun _ _ _ h => h) (Or.inl ⟨by rfl, ?_⟩) (by assumption) ?_
  rotate_left
  · (intro w hSw; (try dsimp only at hSw); go_simp); (first | done | with_reducible rfl)
  try simp only [Act.put, List.setIfInBounds_toArray, List.set_cons_zero, List.set_cons_succ]
  refine wpAnyH_take (i := 19) (oi := { dst := some 77, op := Op.move (Operand.tmp 15), type := 74, pos := "law.go:76", after := #[{ on := 18, ground := Ground.guard }], guard := some (18, false) }) (v := ?_) rfl (by kernel_rfl) (by kernel_rfl) (by kernel_rfl) (fun _ _ _ h => h) (Or.inl ⟨by rfl, ?_⟩) (by assumption) ?_
  rotate_left
  · (intro w hSw; (try dsimp only at hSw); go_simp); (first | done | with_reducible rfl)
  try simp only [Act.put, List.setIfInBounds_toArray, List.set_cons_zero, List.set_cons_succ]
  refine wpAnyH_take (i := 21) (oi := { dst := some 79, op := Op.move (Operand.tmp 16), type := 76, pos := "law.go:76", after := #[{ on := 18, ground := Ground.guard }], guard := some (18, false) }) (v := ?_) rfl (by kernel_rfl) (by kernel_rfl) (by kernel_rfl) (fun _ _ _ h => h) (Or.inl ⟨by rfl, ?_⟩) (by assumption) ?_
  rotate_left
  · (intro w hSw; (try dsimp only at hSw); go_simp); (first | done | with_reducible rfl)
  try simp only [Act.put, List.setIfInBounds_toArray, List.set_cons_zero, List.set_cons_succ]
  refine wpAnyH_take (i := 22) (oi := { dst := some 80, op := Op.nilCheck (Operand.tmp 79), type := 0, pos := "law.go:76", after := #[{ on := 21, ground := Ground.data }, { on := 18, ground := Ground.guard }], guard := some (18, false) }) (v := ?_) rfl (by kernel_rfl) (by kernel_rfl) (by kernel_rfl) (fun _ _ _ h => h) (Or.inl ⟨by rfl, ?_⟩) (by assumption) ?_
  rotate_left
  · (intro w hSw; (try dsimp only at hSw); go_simp); (first | done | with_reducible rfl)
  try simp only [Act.put, List.setIfInBounds_toArray, List.set_cons_zero, List.set_cons_succ]
  refine wpAnyH_take (i := 23) (oi := { dst := some 81, op := Op.fieldAddr 78 (Operand.tmp 80) 0, type := 0, pos := "law.go:76", after := #[{ on := 22, ground := Ground.data }, { on := 18, ground := Ground.guard }], guard := some (18, false) }) (v := ?_) rfl (by kernel_rfl) (by kernel_rfl) (by kernel_rfl) (fun _ _ _ h => h) (Or.inl ⟨by rfl, ?_⟩) (by assumption) ?_
  rotate_left
  · (intro w hSw; (try dsimp only at hSw); go_simp); (first | done | with_reducible rfl)
  try simp only [Act.put, List.setIfInBounds_toArray, List.set_cons_zero, List.set_cons_succ]
  refine wpAnyH_take (i := 24) (oi := { dst := some 82, op := Op.load 22 (Operand.tmp 81), type := 22, pos := "law.go:76", after := #[{ on := 23, ground := Ground.data }, { on := 18, ground := Ground.guard }], guard := some (18, false) }) (v := ?_) rfl (by kernel_rfl) (by kernel_rfl) (by kernel_rfl) (fun _ _ _ h => h) (Or.inl ⟨by rfl, ?_⟩) (by assumption) ?_
  rotate_left
  · (intro w hSw; (try dsimp only at hSw); go_simp); (first | done | with_reducible rfl)
  try simp only [Act.put, List.setIfInBounds_toArray, List.set_cons_zero, List.set_cons_succ]
  refine wpAnyH_ready (rs := [20]) (by kernel_rfl) (by simp) ?_
  refine AllReadyH.cons (o := { dst := some 78, op := Op.call { callee := Callee.value (Operand.func 56), args := #[Operand.tmp 77, Operand.const (Value.string { data := #[] }), Operand.const (Value.string { data := #[] })], argTypes := #[74, 9, 9] }, type := 22, pos := "law.go:76", after := #[{ on := 19, ground := Ground.data }, { on := 18, ground := Ground.chain }, { on := 18, ground := Ground.guard }], guard := some (18, false) }) rfl (fun K hK => ?_) (AllReadyH.nil)
  have CR := Lib.hid ((HS.out.below HBX.out).mrng)
  unfold RangeR10 at CR
  go_simp
  go_at_call 56
  with_reducible refine (CR.out).mono ?_
  rintro e wr3 ⟨ar3, cr3, rfl, ho, hbq⟩
  replace HBX := carry hbq HBX
  have HR3 := Lib.hid (clsAt_own ho rfl)
  clear hbq ho CR
  go_wp2_with fail
  refine hK.out _ _ ?_ (fun hHeld => ?_)
  · exact ⟨(HRC.out.below HBX.out).cell 0, (HRD.out.below HBX.out).cell 0, (HRJ.out.below HBX.out).cell 0⟩
  clear hK K
  try simp only [Act.put, List.setIfInBounds_toArray, List.set_cons_zero, List.set_cons_succ]
  refine wpAnyH_ready (rs := [25]) (by kernel_rfl) (by simp) ?_
  refine AllReadyH.cons (o := { dst := some 83, op := Op.call { callee := Callee.value (Operand.func 35), args := #[Operand.tmp 78, Operand.tmp 82], argTypes := #[22, 22] }, type := 4, pos := "law.go:76", after := #[{ on := 20, ground := Ground.data }, { on := 24, ground := Ground.data }, { on := 20, ground := Ground.chain }, { on := 18, ground := Ground.guard }], guard := some (18, false) }) rfl (fun K hK => ?_) (AllReadyH.nil)
  go_simp
  go_at_call 35
  with_reducible refine (CS.out J _ _ _ _ _ (by omega) HR3.out (HCJ.out.below HBX.out)).mono ?_
  rintro e ws3 ⟨rfl, hbq⟩
  replace HBX := carry hbq HBX
  clear hbq
  go_wp2_with fail
  refine hK.out _ _ ?_ (fun hHeld => ?_)
  · exact ⟨(HRC.out.below HBX.out).cell 0, (HRD.out.below HBX.out).cell 0, (HRJ.out.below HBX.out).cell 0⟩
  clear hK K
  try simp only [Act.put, List.setIfInBounds_toArray, List.set_cons_zero, List.set_cons_succ]
  refine wpAnyH_take (i := 26) (oi := { dst := some 84, op := Op.unOp UnOp.not 4 (Operand.tmp 83), type := 4, pos := "law.go:76", after := #[{ on := 25, ground := Ground.data }, { on := 18, ground := Ground.guard }], guard := some (18, false) }) (v := ?_) rfl (by kernel_rfl) (by kernel_rfl) (by kernel_rfl) (fun _ _ _ h => h) (Or.inl ⟨by rfl, ?_⟩) (by assumption) ?_
  rotate_left
  · (intro w hSw; (try dsimp only at hSw); go_simp); (first | done | with_reducible rfl)
  try simp only [Act.put, List.setIfInBounds_toArray, List.set_cons_zero, List.set_cons_succ]
  refine wpAnyH_take (i := 27) (oi := { dst := some 85, op := Op.pick (Operand.tmp 76) (Operand.const (Value.bool true)) (Operand.tmp 84), type := 4, pos := "law.go:76", after := #[{ on := 18, ground := Ground.data }, { on := 26, ground := Ground.data }], guard := none }) (v := ?_) rfl (by kernel_rfl) (by kernel_rfl) (by kernel_rfl) (fun _ _ _ h => h) (Or.inl ⟨by rfl, ?_⟩) (by assumption) ?_
  rotate_left
  · (intro w hSw; (try dsimp only at hSw); go_simp); (first | done | with_reducible rfl)
  refine wpAnyH_done (by kernel_rfl) ?_ _
  clear hHeld HRC HCC HRD HCD HRJ HCJ HSa HSb
  replace HB := Lib.hid (below_step HB.out HBX.out)
  replace HS := Lib.hid (HS.out.below HBX.out)
  clear HBX
  have h1 := HS.out.front 3 (by simp)
  have h2 := (show SysL w2.heap.size [(true, c1, A1), (true, bj, J), (false, rc, A1), (false, rd, A2), (true, c2, A2)] _ from h1).front 4 (by simp)
  have h3 := (show SysL w2.heap.size [(true, c2, A2), (true, c1, A1), (true, bj, J), (false, rc, A1), (false, rd, A2)] _ from h2).front 1 (by simp)
  have h4 := (show SysL w2.heap.size [(true, c1, A1), (true, c2, A2), (true, bj, J), (false, rc, A1), (false, rd, A2)] _ from h3).front 1 (by simp)
  have h5 := (show SysL w2.heap.size [(true, c2, A2), (true, c1, A1), (true, bj, J), (false, rc, A1), (false, rd, A2)] _ from h4).front 3 (by simp)
  have h6 := (show SysL w2.heap.size [(false, rc, A1), (true, c2, A2), (true, c1, A1), (true, bj, J), (false, rd, A2)] _ from h5).front 4 (by simp)
  replace HS := Lib.hid (show SysL w2.heap.size [(false, rd, A2), (false, rc, A1), (true, c2, A2), (true, c1, A1), (true, bj, J)] _ from h6)
  clear h1 h2 h3 h4 h5 h6
  go_wp2_with fail
  go_loopw [17] (fun v17 wr => ∃ (i : Nat), i ≤ K.length ∧ v17 = .int .i64 i ∧ Hid (SysL w2.heap.size [(false, rd, M.putsL A2 (K.take i)), (false, rc, M.putsL A1 (K.take i)), (true, c2, M.putsL A2 (K.take i)), (true, c1, M.putsL A1 (K.take i)), (true, bj, J)] wr) ∧ Hid (Below w2.heap.size w2 wr)) (fun v _ => K.length - (intOf v).toNat)
  case atStart => exact ⟨0, Nat.zero_le _, rfl, HS, HB⟩
  case round =>
    clear HS HB
    obtain ⟨i, hi, rfl, HS, HB⟩ := hrel
    by_cases hlt : i < K.length
    · have e1 : decide ((i : Int) < (K.length : Int)) = true := by simp; omega
      have e2 : decide (i < K.length) = true := by simp; omega
      have hii : (i : Int) < (K.length : Int) := by omega
      obtain ⟨g, o, rfl, hcw⟩ := HK2.out.off i hlt
      have HCW := Lib.hid hcw
      have HN1 := Lib.hid (M.puts_snoc A1 hlt)
      have HN2 := Lib.hid (M.puts_snoc A2 hlt)
      have HCK := Lib.hid (HOK2.out _ (M.getD_memC hlt))
      have hl1 : (M.putsL A1 (K.take i)).length ≤ 1000 := by
        have h1 := M.puts_len (K.take i) A1
        rw [List.length_take] at h1
        omega
      have hl2 : (M.putsL A2 (K.take i)).length ≤ 1000 := by
        have h1 := M.puts_len (K.take i) A2
        rw [List.length_take] at h1
        omega
      generalize hcc : K.getD i M.cl0 = c at *
      clear hcw hcc
      generalize M.putsL A1 (K.take i) = X1 at *
      generalize M.putsL A2 (K.take i) = X2 at *
      have h1 := HS.out.front 3 (by simp)
      have CP := Lib.hid ((show SysL w2.heap.size [(true, c1, X1), (false, rd, X2), (false, rc, X1), (true, c2, X2), (true, bj, J)] _ from h1).mput c HCK.out (by omega))
      clear h1
      generalize (if M.mayC c = true then (0 : Int) else 2) = rv0 at CP
      unfold clA at CP
      obtain ⟨y0, y1, y2⟩ := HCW.out.below HB.out
      go_wp2_with fail
      with_reducible refine (CP.out).mono ?_
      rintro e wp0 ⟨rfl, hs, hb⟩
      replace HS := Lib.hid hs
      replace HB := Lib.hid (HB.out.trans hb)
      clear hs hb CP y0 y1 y2
      have h1 := HS.out.front 3 (by simp)
      have CP := Lib.hid ((show SysL w2.heap.size [(true, c2, X2), (true, c1, (M.putL c X1)), (false, rd, X2), (false, rc, X1), (true, bj, J)] _ from h1).mput c HCK.out (by omega))
      clear h1
      generalize (if M.mayC c = true then (0 : Int) else 2) = rv1 at CP
      unfold clA at CP
      obtain ⟨y0, y1, y2⟩ := HCW.out.below HB.out
      go_wp2_with fail
      with_reducible refine (CP.out).mono ?_
      rintro e wp1 ⟨rfl, hs, hb⟩
      replace HS := Lib.hid hs
      replace HB := Lib.hid (HB.out.trans hb)
      clear hs hb CP y0 y1 y2
      have h1 := HS.out.front 3 (by simp)
      have CP := Lib.hid ((show SysL w2.heap.size [(false, rc, X1), (true, c2, (M.putL c X2)), (true, c1, (M.putL c X1)), (false, rd, X2), (true, bj, J)] _ from h1).rput c HCK.out (by omega))
      clear h1
      generalize (if M.mayC c = true then (0 : Int) else 2) = rv2 at CP
      unfold clA at CP
      obtain ⟨y0, y1, y2⟩ := HCW.out.below HB.out
      go_wp2_with fail
      with_reducible refine (CP.out).mono ?_
      rintro e wp2 ⟨rfl, hs, hb⟩
      replace HS := Lib.hid hs
      replace HB := Lib.hid (HB.out.trans hb)
      clear hs hb CP y0 y1 y2
      have h1 := HS.out.front 3 (by simp)
      have CP := Lib.hid ((show SysL w2.heap.size [(false, rd, X2), (false, rc, (M.putL c X1)), (true, c2, (M.putL c X2)), (true, c1, (M.putL c X1)), (true, bj, J)] _ from h1).rput c HCK.out (by omega))
      clear h1
      generalize (if M.mayC c = true then (0 : Int) else 2) = rv3 at CP
      unfold clA at CP
      obtain ⟨y0, y1, y2⟩ := HCW.out.below HB.out
      go_wp2_with fail
      with_reducible refine (CP.out).mono ?_
      rintro e wp3 ⟨rfl, hs, hb⟩
      replace HS := Lib.hid hs
      replace HB := Lib.hid (HB.out.trans hb)
      clear hs hb CP y0 y1 y2
      rw [← HN1.out, ← HN2.out] at HS
      go_wp2_with fail
      go_roundw
      case rel => exact ⟨i + 1, by omega, by go_num, HS, HB⟩
      case measure => simp [intOf]; omega
    · obtain rfl : i = K.length := by omega
      have e1 : decide ((K.length : Int) < (K.length : Int)) = false := by simp
      have e2 : decide (K.length < K.length) = false := by simp
      rw [List.take_length] at HS
      have hl1 : (M.putsL A1 K).length ≤ 1000 := by
        have h1 := M.puts_len K A1
        omega
      have hl2 : (M.putsL A2 K).length ≤ 1000 := by
        have h1 := M.puts_len K A2
        omega
      generalize M.putsL A1 K = X1 at *
      generalize M.putsL A2 K = X2 at *
      have h1 := HS.out.front 4 (by simp)
      replace HS := Lib.hid (show SysL w2.heap.size [(true, bj, J), (false, rd, X2), (false, rc, X1), (true, c2, X2), (true, c1, X1)] _ from h1)
      clear h1
      go_wp2_with fail
      go_loopw [18] (fun v18 wr => ∃ (i : Nat) (J : List M.Cl), i ≤ L.length ∧ J.length ≤ 200 + i ∧ v18 = .int .i64 i ∧ Hid (SysL w2.heap.size [(true, bj, J), (false, rd, X2), (false, rc, X1), (true, c2, X2), (true, c1, X1)] wr) ∧ Hid (Below w2.heap.size w2 wr)) (fun v _ => L.length - (intOf v).toNat)
      case atStart => exact ⟨0, J, Nat.zero_le _, hJl, rfl, HS, HB⟩
      case round =>
        clear HS HB hJl
        obtain ⟨i, J, hi, hJl, rfl, HS, HB⟩ := hrel
        by_cases hlt : i < L.length
        · have e1 : decide ((i : Int) < (L.length : Int)) = true := by simp; omega
          have e2 : decide (i < L.length) = true := by simp; omega
          have hii : (i : Int) < (L.length : Int) := by omega
          obtain ⟨g, o, rfl, hcw⟩ := HL2.out.off i hlt
          obtain ⟨y0, y1, y2⟩ := hcw.below HB.out
          have HCK := Lib.hid (HOK.out _ (M.getD_memC hlt))
          generalize hcc : L.getD i M.cl0 = c at *
          clear hcw hcc y1 y2
          have HC77 := Lib.hid (show ClOk ⟨c.key, 77, []⟩ from ok77 HCK.out)
          have hpl := M.putL_len ⟨c.key, 77, []⟩ J
          have CP := Lib.hid (HS.out.mput ⟨c.key, 77, []⟩ HC77.out (by omega))
          generalize M.putL ⟨c.key, 77, []⟩ J = J2 at *
          generalize (if M.mayC ⟨c.key, 77, []⟩ = true then (0 : Int) else 2) = rv at *
          unfold clA at CP
          simp only at CP
          go_wp2_with fail
          with_reducible refine (CP.out).mono ?_
          rintro e wp ⟨rfl, hs, hb⟩
          replace HS := Lib.hid hs
          replace HB := Lib.hid (HB.out.trans hb)
          clear hs hb CP y0
          go_wp2_with fail
          go_roundw
          case rel => exact ⟨i + 1, J2, by omega, by omega, by go_num, HS, HB⟩
          case measure => simp [intOf]; omega
        · obtain rfl : i = L.length := by omega
          have e1 : decide ((L.length : Int) < (L.length : Int)) = false := by simp
          have e2 : decide (L.length < L.length) = false := by simp
          have h1 := HS.out.front 1 (by simp)
          have HSd := Lib.hid (show SysL w2.heap.size [(false, rd, X2), (true, bj, J), (false, rc, X1), (true, c2, X2), (true, c1, X1)] _ from h1)
          have h2 := HS.out.front 2 (by simp)
          have HSc := Lib.hid (show SysL w2.heap.size [(false, rc, X1), (true, bj, J), (false, rd, X2), (true, c2, X2), (true, c1, X1)] _ from h2)
          have h3 := HS.out.front 3 (by simp)
          have HSb := Lib.hid (show SysL w2.heap.size [(true, c2, X2), (true, bj, J), (false, rd, X2), (false, rc, X1), (true, c1, X1)] _ from h3)
          have h4 := HS.out.front 4 (by simp)
          have HSa := Lib.hid (show SysL w2.heap.size [(true, c1, X1), (true, bj, J), (false, rd, X2), (false, rc, X1), (true, c2, X2)] _ from h4)
          clear h1 h2 h3 h4
          obtain ⟨aC, kC, hrC, hcC⟩ := HSc.out.rrow
          obtain ⟨aD, kD, hrD, hcD⟩ := HSd.out.rrow
          obtain ⟨aM, kM, hrM, hcM⟩ := (HP1.out.below HB.out).rowr
          obtain ⟨aN, kN, hrN, hcN⟩ := (HP2.out.below HB.out).rowr
          have HRC := Lib.hid hrC
          have HCC := Lib.hid hcC
          have HRD := Lib.hid hrD
          have HCD := Lib.hid hcD
          have HRM := Lib.hid hrM
          have HCM := Lib.hid hcM
          have HRN := Lib.hid hrN
          have HCN := Lib.hid hcN
          have HPM := Lib.hid (HP1.out.below HB.out)
          have HPN := Lib.hid (HP2.out.below HB.out)
          clear hrC hcC hrD hcD hrM hcM hrN hcN HSc HSd HS
          have HBX := Lib.hid (Below.refl wr.heap.size wr)
          go_wp2_with fail
          refine wp_region_held_drew (S := fun V => V.cell? ⟨rb, 0, none⟩ = some (.slice aM A.length kM) ∧ V.cell? ⟨rb2, 0, none⟩ = some (.slice aN C.length kN) ∧ V.cell? ⟨rc, 0, none⟩ = some (.slice aC X1.length kC) ∧ V.cell? ⟨rd, 0, none⟩ = some (.slice aD X2.length kD)) (by kernel_rfl) ?_ (fun hHeld => ?_)
          · exact ⟨(HRM.out.below HBX.out.drew).cell 0, (HRN.out.below HBX.out.drew).cell 0, (HRC.out.below HBX.out.drew).cell 0, (HRD.out.below HBX.out.drew).cell 0⟩
          replace HBX := Lib.hid HBX.out.drew
          obtain ⟨wd, hwd⟩ : ∃ x, x = World.drew wr := ⟨_, rfl⟩
          rw [← hwd] at HBX hHeld ⊢
          clear hwd
          refine wpAnyH_take (i := 0) (oi := { dst := some 130, op := Op.move (Operand.tmp 7), type := 74, pos := "law.go:88", after := #[], guard := none }) (v := ?_) rfl (by kernel_rfl) (by kernel_rfl) (by kernel_rfl) (fun _ _ _ h => h) (Or.inl ⟨by rfl, ?_⟩) (by assumption) ?_
          rotate_left
          · (intro w hSw; (try dsimp only at hSw); go_simp); (first | done | with_reducible rfl)
          try simp only [Act.put, List.setIfInBounds_toArray, List.set_cons_zero, List.set_cons_succ]
          refine wpAnyH_take (i := 2) (oi := { dst := some 132, op := Op.move (Operand.tmp 8), type := 76, pos := "law.go:88", after := #[], guard := none }) (v := ?_) rfl (by kernel_rfl) (by kernel_rfl) (by kernel_rfl) (fun _ _ _ h => h) (Or.inl ⟨by rfl, ?_⟩) (by assumption) ?_
          rotate_left
          · (intro w hSw; (try dsimp only at hSw); go_simp); (first | done | with_reducible rfl)
          try simp only [Act.put, List.setIfInBounds_toArray, List.set_cons_zero, List.set_cons_succ]
          refine wpAnyH_take (i := 3) (oi := { dst := some 133, op := Op.nilCheck (Operand.tmp 132), type := 0, pos := "law.go:88", after := #[{ on := 2, ground := Ground.data }], guard := none }) (v := ?_) rfl (by kernel_rfl) (by kernel_rfl) (by kernel_rfl) (fun _ _ _ h => h) (Or.inl ⟨by rfl, ?_⟩) (by assumption) ?_
          rotate_left
          · (intro w hSw; (try dsimp only at hSw); go_simp); (first | done | with_reducible rfl)
          try simp only [Act.put, List.setIfInBounds_toArray, List.set_cons_zero, List.set_cons_succ]
          refine wpAnyH_take (i := 4) (oi := { dst := some 134, op := Op.fieldAddr 78 (Operand.tmp 133) 0, type := 0, pos := "law.go:88", after := #[{ on := 3, ground := Ground.data }], guard := none }) (v := ?_) rfl (by kernel_rfl) (by kernel_rfl) (by kernel_rfl) (fun _ _ _ h => h) (Or.inl ⟨by rfl, ?_⟩) (by assumption) ?_
          rotate_left
          · (intro w hSw; (try dsimp only at hSw); go_simp); (first | done | with_reducible rfl)
          try simp only [Act.put, List.setIfInBounds_toArray, List.set_cons_zero, List.set_cons_succ]
          refine wpAnyH_take (i := 5) (oi := { dst := some 135, op := Op.load 22 (Operand.tmp 134), type := 22, pos := "law.go:88", after := #[{ on := 4, ground := Ground.data }], guard := none }) (v := ?_) rfl (by kernel_rfl) (by kernel_rfl) (by kernel_rfl) (fun _ _ _ h => h) (Or.inl ⟨by rfl, ?_⟩) (by assumption) ?_
          rotate_left
          · (intro w hSw; (try dsimp only at hSw); go_simp); (first | done | with_reducible rfl)
          try simp only [Act.put, List.setIfInBounds_toArray, List.set_cons_zero, List.set_cons_succ]
          refine wpAnyH_ready (rs := [1]) (by kernel_rfl) (by simp) ?_
          refine AllReadyH.cons (o := { dst := some 131, op := Op.call { callee := Callee.value (Operand.func 56), args := #[Operand.tmp 130, Operand.const (Value.string { data := #[] }), Operand.const (Value.string { data := #[] })], argTypes := #[74, 9, 9] }, type := 22, pos := "law.go:88", after := #[{ on := 0, ground := Ground.data }], guard := none }) rfl (fun K hK => ?_) (AllReadyH.nil)
          have CR := Lib.hid (Pl.mrng (HPM.out.below HBX.out))
          unfold RangeR10 at CR
          go_simp
          go_at_call 56
          with_reducible refine (CR.out).mono ?_
          rintro e wr1 ⟨ar1, cr1, rfl, ho, hbq⟩
          replace HBX := carry hbq HBX
          have HR1 := Lib.hid (clsAt_own ho rfl)
          clear hbq ho CR
          go_wp2_with fail
          refine hK.out _ _ ?_ (fun hHeld => ?_)
          · exact ⟨(HRM.out.below HBX.out).cell 0, (HRN.out.below HBX.out).cell 0, (HRC.out.below HBX.out).cell 0, (HRD.out.below HBX.out).cell 0⟩
          clear hK K
          try simp only [Act.put, List.setIfInBounds_toArray, List.set_cons_zero, List.set_cons_succ]
          refine wpAnyH_ready (rs := [6]) (by kernel_rfl) (by simp) ?_
          refine AllReadyH.cons (o := { dst := some 136, op := Op.call { callee := Callee.value (Operand.func 35), args := #[Operand.tmp 131, Operand.tmp 135], argTypes := #[22, 22] }, type := 4, pos := "law.go:88", after := #[{ on := 1, ground := Ground.data }, { on := 5, ground := Ground.data }, { on := 1, ground := Ground.chain }], guard := none }) rfl (fun K hK => ?_) (AllReadyH.nil)
          go_simp
          go_at_call 35
          with_reducible refine (CS.out A _ _ _ _ _ (by omega) HR1.out (HCM.out.below HBX.out)).mono ?_
          rintro e ws1 ⟨rfl, hbq⟩
          replace HBX := carry hbq HBX
          clear hbq
          go_wp2_with fail
          refine hK.out _ _ ?_ (fun hHeld => ?_)
          · exact ⟨(HRM.out.below HBX.out).cell 0, (HRN.out.below HBX.out).cell 0, (HRC.out.below HBX.out).cell 0, (HRD.out.below HBX.out).cell 0⟩
          clear hK K
          try simp only [Act.put, List.setIfInBounds_toArray, List.set_cons_zero, List.set_cons_succ]
          refine wpAnyH_take (i := 7) (oi := { dst := some 137, op := Op.move (Operand.tmp 136), type := 4, pos := "law.go:88", after := #[{ on := 6, ground := Ground.data }, { on := 6, ground := Ground.chain }], guard := none }) (v := ?_) rfl (by kernel_rfl) (by kernel_rfl) (by kernel_rfl) (fun _ _ _ h => h) (Or.inl ⟨by rfl, ?_⟩) (by assumption) ?_
          rotate_left
          · (intro w hSw; (try dsimp only at hSw); go_simp); (first | done | with_reducible rfl)
          try simp only [Act.put, List.setIfInBounds_toArray, List.set_cons_zero, List.set_cons_succ]
          refine wpAnyH_take (i := 8) (oi := { dst := some 138, op := Op.move (Operand.tmp 9), type := 74, pos := "law.go:88", after := #[{ on := 7, ground := Ground.guard }], guard := some (7, true) }) (v := ?_) rfl (by kernel_rfl) (by kernel_rfl) (by kernel_rfl) (fun _ _ _ h => h) (Or.inl ⟨by rfl, ?_⟩) (by assumption) ?_
          rotate_left
          · (intro w hSw; (try dsimp only at hSw); go_simp); (first | done | with_reducible rfl)
          try simp only [Act.put, List.setIfInBounds_toArray, List.set_cons_zero, List.set_cons_succ]
          refine wpAnyH_take (i := 10) (oi := { dst := some 140, op := Op.move (Operand.tmp 10), type := 76, pos := "law.go:88", after := #[{ on := 7, ground := Ground.guard }], guard := some (7, true) }) (v := ?_) rfl (by kernel_rfl) (by kernel_rfl) (by kernel_rfl) (fun _ _ _ h => h) (Or.inl ⟨by rfl, ?_⟩) (by assumption) ?_
          rotate_left
          · (intro w hSw; (try dsimp only at hSw); go_simp); (first | done | with_reducible rfl)
          try simp only [Act.put, List.setIfInBounds_toArray, List.set_cons_zero, List.set_cons_succ]
          refine wpAnyH_take (i := 11) (oi := { dst := some 141, op := Op.nilCheck (Operand.tmp 140), type := 0, pos := "law.go:88", after := #[{ on := 10, ground := Ground.data }, { on := 7, ground := Ground.guard }], guard := some (7, true) }) (v := ?_) rfl (by kernel_rfl) (by kernel_rfl) (by kernel_rfl) (fun _ _ _ h => h) (Or.inl ⟨by rfl, ?_⟩) (by assumption) ?_
          rotate_left
          · (intro w hSw; (try dsimp only at hSw); go_simp); (first | done | with_reducible rfl)
          try simp only [Act.put, List.setIfInBounds_toArray, List.set_cons_zero, List.set_cons_succ]
          refine wpAnyH_take (i := 12) (oi := { dst := some 142, op := Op.fieldAddr 78 (Operand.tmp 141) 0, type := 0, pos := "law.go:88", after := #[{ on := 11, ground := Ground.data }, { on := 7, ground := Ground.guard }], guard := some (7, true) }) (v := ?_) rfl (by kernel_rfl) (by kernel_rfl) (by kernel_rfl) (fun _ _ _ h => h) (Or.inl ⟨by rfl, ?_⟩) (by assumption) ?_
          rotate_left
          · (intro w hSw; (try dsimp only at hSw); go_simp); (first | done | with_reducible rfl)
          try simp only [Act.put, List.setIfInBounds_toArray, List.set_cons_zero, List.set_cons_succ]
          refine wpAnyH_take (i := 13) (oi := { dst := some 143, op := Op.load 22 (Operand.tmp 142), type := 22, pos := "law.go:88", after := #[{ on := 12, ground := Ground.data }, { on := 7, ground := Ground.guard }], guard := some (7, true) }) (v := ?_) rfl (by kernel_rfl) (by kernel_rfl) (by kernel_rfl) (fun _ _ _ h => h) (Or.inl ⟨by rfl, ?_⟩) (by assumption) ?_
          rotate_left
          · (intro w hSw; (try dsimp only at hSw); go_simp); (first | done | with_reducible rfl)
          try simp only [Act.put, List.setIfInBounds_toArray, List.set_cons_zero, List.set_cons_succ]
          refine wpAnyH_ready (rs := [9]) (by kernel_rfl) (by simp) ?_
          refine AllReadyH.cons (o := { dst := some 139, op := Op.call { callee := Callee.value (Operand.func 56), args := #[Operand.tmp 138, Operand.const (Value.string { data := #[] }), Operand.const (Value.string { data := #[] })], argTypes := #[74, 9, 9] }, type := 22, pos := "law.go:88", after := #[{ on := 8, ground := Ground.data }, { on := 7, ground := Ground.chain }, { on := 7, ground := Ground.guard }], guard := some (7, true) }) rfl (fun K hK => ?_) (AllReadyH.nil)
          have CR := Lib.hid (Pl.mrng (HPN.out.below HBX.out))
          unfold RangeR10 at CR
          go_simp
          go_at_call 56
          with_reducible refine (CR.out).mono ?_
          rintro e wr2 ⟨ar2, cr2, rfl, ho, hbq⟩
          replace HBX := carry hbq HBX
          have HR2 := Lib.hid (clsAt_own ho rfl)
          clear hbq ho CR
          go_wp2_with fail
          refine hK.out _ _ ?_ (fun hHeld => ?_)
          · exact ⟨(HRM.out.below HBX.out).cell 0, (HRN.out.below HBX.out).cell 0, (HRC.out.below HBX.out).cell 0, (HRD.out.below HBX.out).cell 0⟩
          clear hK K
          try simp only [Act.put, List.setIfInBounds_toArray, List.set_cons_zero, List.set_cons_succ]
          refine wpAnyH_ready (rs := [14]) (by kernel_rfl) (by simp) ?_
          refine AllReadyH.cons (o := { dst := some 144, op := Op.call { callee := Callee.value (Operand.func 35), args := #[Operand.tmp 139, Operand.tmp 143], argTypes := #[22, 22] }, type := 4, pos := "law.go:88", after := #[{ on := 9, ground := Ground.data }, { on := 13, ground := Ground.data }, { on := 9, ground := Ground.chain }, { on := 7, ground := Ground.guard }], guard := some (7, true) }) rfl (fun K hK => ?_) (AllReadyH.nil)
          go_simp
          go_at_call 35
          with_reducible refine (CS.out C _ _ _ _ _ (by omega) HR2.out (HCN.out.below HBX.out)).mono ?_
          rintro e ws2 ⟨rfl, hbq⟩
          replace HBX := carry hbq HBX
          clear hbq
          go_wp2_with fail
          refine hK.out _ _ ?_ (fun hHeld => ?_)
          · exact ⟨(HRM.out.below HBX.out).cell 0, (HRN.out.below HBX.out).cell 0, (HRC.out.below HBX.out).cell 0, (HRD.out.below HBX.out).cell 0⟩
          clear hK K
          try simp only [Act.put, List.setIfInBounds_toArray, List.set_cons_zero, List.set_cons_succ]
          refine wpAnyH_take (i := 15) (oi := { dst := some 145, op := Op.pick (Operand.tmp 137) (Operand.tmp 144) (Operand.const (Value.bool false)), type := 4, pos := "law.go:88", after := #[{ on := 7, ground := Ground.data }, { on := 14, ground := Ground.data }], guard := none }) (v := ?_) rfl (by kernel_rfl) (by kernel_rfl) (by kernel_rfl) (fun _ _ _ h => h) (Or.inl ⟨by rfl, ?_⟩) (by assumption) ?_
          rotate_left
          · (intro w hSw; (try dsimp only at hSw); go_simp); (first | done | with_reducible rfl)
          try simp only [Act.put, List.setIfInBounds_toArray, List.set_cons_zero, List.set_cons_succ]
          refine wpAnyH_take (i := 16) (oi := { dst := some 146, op := Op.move (Operand.tmp 145), type := 4, pos := "law.go:88", after := #[{ on := 15, ground := Ground.data }, { on := 14, ground := Ground.chain }], guard := none }) (v := ?_) rfl (by kernel_rfl) (by kernel_rfl) (by kernel_rfl) (fun _ _ _ h => h) (Or.inl ⟨by rfl, ?_⟩) (by assumption) ?_
          rotate_left
          · (intro w hSw; (try dsimp only at hSw); go_simp); (first | done | with_reducible rfl)
          try simp only [Act.put, List.setIfInBounds_toArray, List.set_cons_zero, List.set_cons_succ]
          refine wpAnyH_take (i := 17) (oi := { dst := some 147, op := Op.move (Operand.tmp 11), type := 74, pos := "law.go:88", after := #[{ on := 16, ground := Ground.guard }], guard := some (16, true) }) (v := ?_) rfl (by kernel_rfl) (by kernel_rfl) (by kernel_rfl) (fun _ _ _ h => h) (Or.inl ⟨by rfl, ?_⟩) (by assumption) ?_
          rotate_left
          · (intro w hSw; (try dsimp only at hSw); go_simp); (first | done | with_reducible rfl)
          try simp only [Act.put, List.setIfInBounds_toArray, List.set_cons_zero, List.set_cons_succ]
          refine wpAnyH_take (i := 19) (oi := { dst := some 149, op := Op.move (Operand.tmp 13), type := 76, pos := "law.go:88", after := #[{ on := 16, ground := Ground.guard }], guard := some (16, true) }) (v := ?_) rfl (by kernel_rfl) (by kernel_rfl) (by kernel_rfl) (fun _ _ _ h => h) (Or.inl ⟨by rfl, ?_⟩) (by assumption) ?_
          rotate_left
          · (intro w hSw; (try dsimp only at hSw); go_simp); (first | done | with_reducible rfl)
          try simp only [Act.put, List.setIfInBounds_toArray, List.set_cons_zero, List.set_cons_succ]
          refine wpAnyH_take (i := 20) (oi := { dst := some 150, op := Op.nilCheck (Operand.tmp 149), type := 0, pos := "law.go:88", after := #[{ on := 19, ground := Ground.data }, { on := 16, ground := Ground.guard }], guard := some (16, true) }) (v := ?_) rfl (by kernel_rfl) (by kernel_rfl) (by kernel_rfl) (fun _ _ _ h => h) (Or.inl ⟨by rfl, ?_⟩) (by assumption) ?_
          rotate_left
          · (intro w hSw; (try dsimp only at hSw); go_simp); (first | done | with_reducible rfl)
          try simp only [Act.put, List.setIfInBounds_toArray, List.set_cons_zero, List.set_cons_succ]
          refine wpAnyH_take (i := 21) (oi := { dst := some 151, op := Op.fieldAddr 78 (Operand.tmp 150) 0, type := 0, pos := "law.go:88", after := #[{ on := 20, ground := Ground.data }, { on := 16, ground := Ground.guard }], guard := some (16, true) }) (v := ?_) rfl (by kernel_rfl) (by kernel_rfl) (by kernel_rfl) (fun _ _ _ h => h) (Or.inl ⟨by rfl, ?_⟩) (by assumption) ?_
          rotate_left
          · (intro w hSw; (try dsimp only at hSw); go_simp); (first | done | with_reducible rfl)
          try simp only [Act.put, List.setIfInBounds_toArray, List.set_cons_zero, List.set_cons_succ]
          refine wpAnyH_take (i := 22) (oi := { dst := some 152, op := Op.load 22 (Operand.tmp 151), type := 22, pos := "law.go:88", after := #[{ on := 21, ground := Ground.data }, { on := 16, ground := Ground.guard }], guard := some (16, true) }) (v := ?_) rfl (by kernel_rfl) (by kernel_rfl) (by kernel_rfl) (fun _ _ _ h => h) (Or.inl ⟨by rfl, ?_⟩) (by assumption) ?_
          rotate_left
          · (intro w hSw; (try dsimp only at hSw); go_simp); (first | done | with_reducible rfl)
          try simp only [Act.put, List.setIfInBounds_toArray, List.set_cons_zero, List.set_cons_succ]
          refine wpAnyH_ready (rs := [18]) (by kernel_rfl) (by simp) ?_
          refine AllReadyH.cons (o := { dst := some 148, op := Op.call { callee := Callee.value (Operand.func 56), args := #[Operand.tmp 147, Operand.const (Value.string { data := #[] }), Operand.const (Value.string { data := #[] })], argTypes := #[74, 9, 9] }, type := 22, pos := "law.go:88", after := #[{ on := 17, ground := Ground.data }, { on := 16, ground := Ground.chain }, { on := 16, ground := Ground.guard }], guard := some (16, true) }) rfl (fun K hK => ?_) (AllReadyH.nil)
          have CR := Lib.hid ((HSa.out.below HBX.out).mrng)
          unfold RangeR10 at CR
          go_simp
          go_at_call 56
          with_reducible refine (CR.out).mono ?_
          rintro e wr3 ⟨ar3, cr3, rfl, ho, hbq⟩
          replace HBX := carry hbq HBX
          have HR3 := Lib.hid (clsAt_own ho rfl)
          clear hbq ho CR
          go_wp2_with fail
          refine hK.out _ _ ?_ (fun hHeld => ?_)
          · exact ⟨(HRM.out.below HBX.out).cell 0, (HRN.out.below HBX.out).cell 0, (HRC.out.below HBX.out).cell 0, (HRD.out.below HBX.out).cell 0⟩
          clear hK K
          try simp only [Act.put, List.setIfInBounds_toArray, List.set_cons_zero, List.set_cons_succ]
          refine wpAnyH_ready (rs := [23]) (by kernel_rfl) (by simp) ?_
          refine AllReadyH.cons (o := { dst := some 153, op := Op.call { callee := Callee.value (Operand.func 35), args := #[Operand.tmp 148, Operand.tmp 152], argTypes := #[22, 22] }, type := 4, pos := "law.go:88", after := #[{ on := 18, ground := Ground.data }, { on := 22, ground := Ground.data }, { on := 18, ground := Ground.chain }, { on := 16, ground := Ground.guard }], guard := some (16, true) }) rfl (fun K hK => ?_) (AllReadyH.nil)
          go_simp
          go_at_call 35
          with_reducible refine (CS.out X1 _ _ _ _ _ (by omega) HR3.out (HCC.out.below HBX.out)).mono ?_
          rintro e ws3 ⟨rfl, hbq⟩
          replace HBX := carry hbq HBX
          clear hbq
          go_wp2_with fail
          refine hK.out _ _ ?_ (fun hHeld => ?_)
          · exact ⟨(HRM.out.below HBX.out).cell 0, (HRN.out.below HBX.out).cell 0, (HRC.out.below HBX.out).cell 0, (HRD.out.below HBX.out).cell 0⟩
          clear hK K
          try simp only [Act.put, List.setIfInBounds_toArray, List.set_cons_zero, List.set_cons_succ]
          refine wpAnyH_take (i := 24) (oi := { dst := some 154, op := Op.pick (Operand.tmp 146) (Operand.tmp 153) (Operand.const (Value.bool false)), type := 4, pos := "law.go:88", after := #[{ on := 16, ground := Ground.data }, { on := 23, ground := Ground.data }], guard := none }) (v := ?_) rfl (by kernel_rfl) (by kernel_rfl) (by kernel_rfl) (fun _ _ _ h => h) (Or.inl ⟨by rfl, ?_⟩) (by assumption) ?_
          rotate_left
          · (intro w hSw; (try dsimp only at hSw); go_simp); (first | done | with_reducible rfl)
          try simp only [Act.put, List.setIfInBounds_toArray, List.set_cons_zero, List.set_cons_succ]
          refine wpAnyH_take (i := 25) (oi := { dst := some 155, op := Op.move (Operand.tmp 154), type := 4, pos := "law.go:88", after := #[{ on := 24, ground := Ground.data }, { on := 23, ground := Ground.chain }], guard := none }) (v := ?_) rfl (by kernel_rfl) (by kernel_rfl) (by kernel_rfl) (fun _ _ _ h => h) (Or.inl ⟨by rfl, ?_⟩) (by assumption) ?_
          rotate_left
          · (intro w hSw; (try dsimp only at hSw); go_simp); (first | done | with_reducible rfl)
          try simp only [Act.put, List.setIfInBounds_toArray, List.set_cons_zero, List.set_cons_succ]
          refine wpAnyH_take (i := 26) (oi := { dst := some 156, op := Op.move (Operand.tmp 12), type := 74, pos := "law.go:88", after := #[{ on := 25, ground := Ground.guard }], guard := some (25, true) }) (v := ?_) rfl (by kernel_rfl) (by kernel_rfl) (by kernel_rfl) (fun _ _ _ h => h) (Or.inl ⟨by rfl, ?_⟩) (by assumption) ?_
          rotate_left
          · (intro w hSw; (try dsimp only at hSw); go_simp); (first | done | with_reducible rfl)
          try simp only [Act.put, List.setIfInBounds_toArray, List.set_cons_zero, List.set_cons_succ]
          refine wpAnyH_take (i := 28) (oi := { dst := some 158, op := Op.move (Operand.tmp 14), type := 76, pos := "law.go:88", after := #[{ on := 25, ground := Ground.guard }], guard := some (25, true) }) (v := ?_) rfl (by kernel_rfl) (by kernel_rfl) (by kernel_rfl) (fun _ _ _ h => h) (Or.inl ⟨by rfl, ?_⟩) (by assumption) ?_
          rotate_left
          · (intro w hSw; (try dsimp only at hSw); go_simp); (first | done | with_reducible rfl)
          try simp only [Act.put, List.setIfInBounds_toArray, List.set_cons_zero, List.set_cons_succ]
          refine wpAnyH_take (i := 29) (oi := { dst := some 159, op := Op.nilCheck (Operand.tmp 158), type := 0, pos := "law.go:88", after := #[{ on := 28, ground := Ground.data }, { on := 25, ground := Ground.guard }], guard := some (25, true) }) (v := ?_) rfl (by kernel_rfl) (by kernel_rfl) (by kernel_rfl) (fun _ _ _ h => h) (Or.inl ⟨by rfl, ?_⟩) (by assumption) ?_
          rotate_left
          · (intro w hSw; (try dsimp only at hSw); go_simp); (first | done | with_reducible rfl)
          try simp only [Act.put, List.setIfInBounds_toArray, List.set_cons_zero, List.set_cons_succ]
          refine wpAnyH_take (i := 30) (oi := { dst := some 160, op := Op.fieldAddr 78 (Operand.tmp 159) 0, type := 0, pos := "law.go:88", after := #[{ on := 29, ground := Ground.data }, { on := 25, ground := Ground.guard }], guard := some (25, true) }) (v := ?_) rfl (by kernel_rfl) (by kernel_rfl) (by kernel_rfl) (fun _ _ _ h => h) (Or.inl ⟨by rfl, ?_⟩) (by assumption) ?_
          rotate_left
          · (intro w hSw; (try dsimp only at hSw); go_simp); (first | done | with_reducible rfl)
          try simp only [Act.put, List.setIfInBounds_toArray, List.set_cons_zero, List.set_cons_succ]
          refine wpAnyH_take (i := 31) (oi := { dst := some 161, op := Op.load 22 (Operand.tmp 160), type := 22, pos := "law.go:88", after := #[{ on := 30, ground := Ground.data }, { on := 25, ground := Ground.guard }], guard := some (25, true) }) (v := ?_) rfl (by kernel_rfl) (by kernel_rfl) (by kernel_rfl) (fun _ _ _ h => h) (Or.inl ⟨by rfl, ?_⟩) (by assumption) ?_
          rotate_left
          · (intro w hSw; (try dsimp only at hSw); go_simp); (first | done | with_reducible rfl)
          try simp only [Act.put, List.setIfInBounds_toArray, List.set_cons_zero, List.set_cons_succ]
          refine wpAnyH_ready (rs := [27]) (by kernel_rfl) (by simp) ?_
          refine AllReadyH.cons (o := { dst := some 157, op := Op.call { callee := Callee.value (Operand.func 56), args := #[Operand.tmp 156, Operand.const (Value.string { data := #[] }), Operand.const (Value.string { data := #[] })], argTypes := #[74, 9, 9] }, type := 22, pos := "law.go:88", after := #[{ on := 26, ground := Ground.data }, { on := 25, ground := Ground.chain }, { on := 25, ground := Ground.guard }], guard := some (25, true) }) rfl (fun K hK => ?_) (AllReadyH.nil)
          have CR := Lib.hid ((HSb.out.below HBX.out).mrng)
          unfold RangeR10 at CR
          go_simp
          go_at_call 56
          with_reducible refine (CR.out).mono ?_
          rintro e wr4 ⟨ar4, cr4, rfl, ho, hbq⟩
          replace HBX := carry hbq HBX
          have HR4 := Lib.hid (clsAt_own ho rfl)
          clear hbq ho CR
          go_wp2_with fail
          refine hK.out _ _ ?_ (fun hHeld => ?_)
          · exact ⟨(HRM.out.below HBX.out).cell 0, (HRN.out.below HBX.out).cell 0, (HRC.out.below HBX.out).cell 0, (HRD.out.below HBX.out).cell 0⟩
          clear hK K
          try simp only [Act.put, List.setIfInBounds_toArray, List.set_cons_zero, List.set_cons_succ]
          refine wpAnyH_ready (rs := [32]) (by kernel_rfl) (by simp) ?_
          refine AllReadyH.cons (o := { dst := some 162, op := Op.call { callee := Callee.value (Operand.func 35), args := #[Operand.tmp 157, Operand.tmp 161], argTypes := #[22, 22] }, type := 4, pos := "law.go:88", after := #[{ on := 27, ground := Ground.data }, { on := 31, ground := Ground.data }, { on := 27, ground := Ground.chain }, { on := 25, ground := Ground.guard }], guard := some (25, true) }) rfl (fun K hK => ?_) (AllReadyH.nil)
          go_simp
          go_at_call 35
          with_reducible refine (CS.out X2 _ _ _ _ _ (by omega) HR4.out (HCD.out.below HBX.out)).mono ?_
          rintro e ws4 ⟨rfl, hbq⟩
          replace HBX := carry hbq HBX
          clear hbq
          go_wp2_with fail
          refine hK.out _ _ ?_ (fun hHeld => ?_)
          · exact ⟨(HRM.out.below HBX.out).cell 0, (HRN.out.below HBX.out).cell 0, (HRC.out.below HBX.out).cell 0, (HRD.out.below HBX.out).cell 0⟩
          clear hK K
          try simp only [Act.put, List.setIfInBounds_toArray, List.set_cons_zero, List.set_cons_succ]
          refine wpAnyH_take (i := 33) (oi := { dst := some 163, op := Op.pick (Operand.tmp 155) (Operand.tmp 162) (Operand.const (Value.bool false)), type := 4, pos := "law.go:88", after := #[{ on := 25, ground := Ground.data }, { on := 32, ground := Ground.data }], guard := none }) (v := ?_) rfl (by kernel_rfl) (by kernel_rfl) (by kernel_rfl) (fun _ _ _ h => h) (Or.inl ⟨by rfl, ?_⟩) (by assumption) ?_
          rotate_left
          · (intro w hSw; (try dsimp only at hSw); go_simp); (first | done | with_reducible rfl)
          try simp only [Act.put, List.setIfInBounds_toArray, List.set_cons_zero, List.set_cons_succ]
          refine wpAnyH_take (i := 34) (oi := { dst := some 164, op := Op.move (Operand.tmp 163), type := 4, pos := "law.go:88", after := #[{ on := 33, ground := Ground.data }, { on := 32, ground := Ground.chain }], guard := none }) (v := ?_) rfl (by kernel_rfl) (by kernel_rfl) (by kernel_rfl) (fun _ _ _ h => h) (Or.inl ⟨by rfl, ?_⟩) (by assumption) ?_
          rotate_left
          · (intro w hSw; (try dsimp only at hSw); go_simp); (first | done | with_reducible rfl)
          try simp only [Act.put, List.setIfInBounds_toArray, List.set_cons_zero, List.set_cons_succ]
          refine wpAnyH_ready (rs := [35]) (by kernel_rfl) (by simp) ?_
          refine AllReadyH.cons (o := { dst := some 165, op := Op.call { callee := Callee.value (Operand.func 58), args := #[], argTypes := #[] }, type := 4, pos := "law.go:88", after := #[{ on := 34, ground := Ground.chain }, { on := 34, ground := Ground.guard }], guard := some (34, true) }) rfl (fun K hK => ?_) (AllReadyH.nil)
          go_simp
          go_at_call 58
          with_reducible refine (CD.out _).mono ?_
          rintro e wD ⟨rfl, hbq⟩
          replace HBX := carry hbq HBX
          clear hbq
          go_wp2_with fail
          refine hK.out _ _ ?_ (fun hHeld => ?_)
          · exact ⟨(HRM.out.below HBX.out).cell 0, (HRN.out.below HBX.out).cell 0, (HRC.out.below HBX.out).cell 0, (HRD.out.below HBX.out).cell 0⟩
          clear hK K
          try simp only [Act.put, List.setIfInBounds_toArray, List.set_cons_zero, List.set_cons_succ]
          refine wpAnyH_take (i := 36) (oi := { dst := some 166, op := Op.pick (Operand.tmp 164) (Operand.tmp 165) (Operand.const (Value.bool false)), type := 4, pos := "law.go:88", after := #[{ on := 34, ground := Ground.data }, { on := 35, ground := Ground.data }], guard := none }) (v := ?_) rfl (by kernel_rfl) (by kernel_rfl) (by kernel_rfl) (fun _ _ _ h => h) (Or.inl ⟨by rfl, ?_⟩) (by assumption) ?_
          rotate_left
          · (intro w hSw; (try dsimp only at hSw); go_simp); (first | done | with_reducible rfl)
          try simp only [Act.put, List.setIfInBounds_toArray, List.set_cons_zero, List.set_cons_succ]
          refine wpAnyH_take (i := 37) (oi := { dst := some 6, op := Op.assign (Operand.tmp 166), type := 4, pos := "law.go:88", after := #[{ on := 36, ground := Ground.data }, { on := 35, ground := Ground.chain }, { on := 0, ground := Ground.phase }, { on := 1, ground := Ground.phase }, { on := 2, ground := Ground.phase }, { on := 3, ground := Ground.phase }, { on := 4, ground := Ground.phase }, { on := 5, ground := Ground.phase }, { on := 6, ground := Ground.phase }, { on := 7, ground := Ground.phase }, { on := 8, ground := Ground.phase }, { on := 9, ground := Ground.phase }, { on := 10, ground := Ground.phase }, { on := 11, ground := Ground.phase }, { on := 12, ground := Ground.phase }, { on := 13, ground := Ground.phase }, { on := 14, ground := Ground.phase }, { on := 15, ground := Ground.phase }, { on := 16, ground := Ground.phase }, { on := 17, ground := Ground.phase }, { on := 18, ground := Ground.phase }, { on := 19, ground := Ground.phase }, { on := 20, ground := Ground.phase }, { on := 21, ground := Ground.phase }, { on := 22, ground := Ground.phase }, { on := 23, ground := Ground.phase }, { on := 24, ground := Ground.phase }, { on := 25, ground := Ground.phase }, { on := 26, ground := Ground.phase }, { on := 27, ground := Ground.phase }, { on := 28, ground := Ground.phase }, { on := 29, ground := Ground.phase }, { on := 30, ground := Ground.phase }, { on := 31, ground := Ground.phase }, { on := 32, ground := Ground.phase }, { on := 33, ground := Ground.phase }, { on := 34, ground := Ground.phase }, { on := 35, ground := Ground.phase }, { on := 36, ground := Ground.phase }], guard := none }) (v := ?_) rfl (by kernel_rfl) (by kernel_rfl) (by kernel_rfl) (fun _ _ _ h => h) (Or.inl ⟨by rfl, ?_⟩) (by assumption) ?_
          rotate_left
          · (intro w hSw; (try dsimp only at hSw); go_simp); (first | done | with_reducible rfl)
          refine wpAnyH_done (by kernel_rfl) ?_ _
          clear hHeld
          go_wp2_with fail
          go_ret
          exact ⟨rfl, below_step (below_step HBW.out HB.out) HBX.out⟩

end Go.Proofs.Ythidmgnfdikppaa
