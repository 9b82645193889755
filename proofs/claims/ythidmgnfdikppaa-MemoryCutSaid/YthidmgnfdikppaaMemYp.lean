/- Layer 15: MemoryPlays. -/
import Derived.Test.YthidmgnfdikppaaMemYc
import Derived.Test.YthidmgnfdikppaaMemU
import Derived.Test.YthidmgnfdikppaaTablesP
import Derived.Deep.RegionHeld
namespace Go.Proofs.Ythidmgnfdikppaa
set_option linter.unusedVariables false
set_option linter.unusedSimpArgs false
open Go Go.RowKit
attribute [local go_sem ↓] run_index_S
attribute [local go_sem] S_append S_extract

theorem M.puts_ok {L : List M.Cl} (h : ∀ c, c ∈ L → ClOk c) : ∀ {A : List M.Cl}, (∀ c, c ∈ A → ClOk c) → ∀ c, c ∈ M.putsL A L → ClOk c := by
  induction L with
  | nil => exact fun hA => hA
  | cons x t ih =>
    intro A hA
    refine ih (fun c hc => h c (List.mem_cons_of_mem _ hc)) (A := M.putL x A) (fun c hc => ?_)
    unfold M.putL at hc
    split at hc
    · rcases M.insC_mem hc with rfl | hc
      · exact h _ (by simp)
      · exact hA c hc
    · exact hA c hc

set_option maxHeartbeats 8000000 in
set_option maxRecDepth 100000 in
theorem memoryPlays_calls (W : World) (v : Value) (hv : UCs W v) (key : List UInt8) (hkl : key.length ≤ 140737488351232) (v2 : Value) (hv2 : U2s v2) :
    Calls Try.prog 17 #[v, .string (S key), v2] W fun e w' => e = .returned (.bool true) ∧ Below W.heap.size W w' := by
  obtain ⟨L, ao, cap, rfl, hl, hi, hc, hL⟩ := hv
  obtain ⟨x, y, rfl⟩ := hv2
  have CG := Lib.hid (fun V (h : ClsAt V ao L) => (show Calls Try.prog 22 #[.slice ao L.length cap, .int .i64 200] V fun e w' => GreatR9 L 200 V e w' from great9_any L cap 200 (by omega) h hl))
  unfold GreatR9 at CG
  have CD := Lib.hid does15_any
  have HL := Lib.hid hL
  have HLw := Lib.hid (hL.below ((Below.refl _ _).alloc (Nat.le_refl _) (.cells #[.string (S x), .string (S y)] 31)))
  have HB := Lib.hid ((Below.refl W.heap.size W).alloc (Nat.le_refl _) (.cells #[.string (S x), .string (S y)] 31))
  have HX := Lib.hid (rowIn_new #[.string (S x), .string (S y)] 31 W)
  have HI := Lib.hid hi
  have z0 := HX.out.cell 0
  have z1 := HX.out.cell 1
  clear hL hi
  go_enter Try.func17, Try.ntmps17
  go_wp2_with fail
  with_reducible refine (CG.out _ HLw.out).mono ?_
  rintro e w0 ⟨rfl | ⟨rfl, hsm⟩, rfl⟩
  · go_wp2_with fail
    go_ret
    exact ⟨rfl, HB.out⟩
  by_cases q1 : 1000 < key.length
  · have d1 : decide ((1000 : Int) < (key.length : Int)) = true := by simp; omega
    go_wp2_with fail
    go_ret
    exact ⟨rfl, HB.out⟩
  have d1 : decide ((1000 : Int) < (key.length : Int)) = false := by simp; omega
  by_cases q2 : 1000 < x.length
  · have d2 : decide ((1000 : Int) < (x.length : Int)) = true := by simp; omega
    go_wp2_with fail
    go_ret
    exact ⟨rfl, HB.out⟩
  have d2 : decide ((1000 : Int) < (x.length : Int)) = false := by simp; omega
  by_cases q3 : 1000 < y.length
  · have d3 : decide ((1000 : Int) < (y.length : Int)) = true := by simp; omega
    go_wp2_with fail
    go_ret
    exact ⟨rfl, HB.out⟩
  have d3 : decide ((1000 : Int) < (y.length : Int)) = false := by simp; omega
  have h200 : L.length ≤ 200 := hsm.1
  have HOK := Lib.hid (hsm.oks HI.out)
  clear hsm CG hl HI HLw
  obtain ⟨e5, he5⟩ : ∃ x, x = W.heap.size := ⟨_, rfl⟩
  obtain ⟨w0, hw0⟩ : ∃ w, w = W.alloc (.cells #[.string (S x), .string (S y)] 31) := ⟨_, rfl⟩
  have HL0 := Lib.hid (HL.out.below (show Below W.heap.size W w0 from by rw [hw0]; exact (Below.refl _ _).alloc (Nat.le_refl _) _))
  rw [← hw0] at HX HB z0 z1 ⊢
  rw [← he5] at HX z0 z1 ⊢
  have HX0 := HX
  have HBW := HB
  clear he5 hw0 HL HX HB
  have CN := Lib.hid (new15_any w0)
  go_wp2_with fail
  with_reducible refine (CN.out).mono ?_
  rintro e w1 ⟨rfl, hw1⟩
  have hsz : w1.heap.size = w0.heap.size + 1 := by rw [hw1, szA]
  have hp := pl_new w0
  rw [← hw1, ← hsz] at hp
  have HP := Lib.hid hp
  have HB := Lib.hid (show Below w0.heap.size w0 (w1.alloc (.cells #[.slice none 0 0] 78)) from by rw [hw1]; exact ((Below.refl _ _).alloc (Nat.le_refl _) _).alloc (by rw [szA]; omega) _)
  obtain ⟨rb, hrb⟩ : ∃ x, x = w1.heap.size := ⟨_, rfl⟩
  clear hp hw1 hsz CN z0 z1
  go_wp2_with fail
  rw [← hrb] at HP ⊢
  clear hrb
  go_loopw [9] (fun v9 wr => ∃ (i : Nat), i ≤ L.length ∧ v9 = .int .i64 i ∧ Hid (Pl w0.heap.size w0.heap.size rb (M.putsL [] (L.take i)) (M.putsL [] (L.take i)) wr) ∧ Hid (Below w0.heap.size w0 wr)) (fun v _ => L.length - (intOf v).toNat)
  case atStart => exact ⟨0, Nat.zero_le _, rfl, HP, HB⟩
  case round =>
    clear HP HB
    obtain ⟨i, hi_, rfl, HP, HB⟩ := hrel
    by_cases hlt : i < L.length
    · have dl1 : decide ((i : Int) < (L.length : Int)) = true := by simp; omega
      have dl2 : decide (i < L.length) = true := by simp; omega
      have hii : (i : Int) < (L.length : Int) := by omega
      obtain ⟨g, o, rfl, hcw⟩ := HL0.out.off i hlt
      have HCW := Lib.hid hcw
      have HSN := Lib.hid (M.puts_snoc [] hlt).symm
      have HLN := Lib.hid (show (M.putsL [] (L.take i)).length < 1000 from by
        have h1 := M.puts_len (L.take i) []
        rw [List.length_take] at h1
        simp at h1
        omega)
      have HCK := Lib.hid (HOK.out _ (M.getD_memC hlt))
      have hA1 : (M.putsL [] (L.take (i + 1))).length ≤ 1000 := by
        have h1 := M.puts_len (L.take (i + 1)) []
        rw [List.length_take] at h1
        simp at h1
        omega
      generalize hcc : L.getD i M.cl0 = c at *
      clear hcw hcc
      generalize hAA : M.putsL [] (L.take (i + 1)) = A at *
      have HAA := Lib.hid hAA
      clear hAA
      generalize M.putsL [] (L.take i) = A0 at *
      have HRV : ∃ rv : Int, Hid ((if M.mayC c = true then (0 : Int) else 2) = rv) := ⟨_, Lib.hid rfl⟩
      obtain ⟨rv, HRV⟩ := HRV
      go_wp2_with fail
      refine wp_region_held_drew (S := fun V => V.cell? ⟨g, o + i * 3, none⟩ = some (.string (S c.key)) ∧ V.cell? ⟨g, o + i * 3 + 1, none⟩ = some (.int .i64 c.seq) ∧ V.cell? ⟨g, o + i * 3 + 2, none⟩ = some (.string (S c.val))) (by kernel_rfl) ?_ (fun hHeld => ?_)
      · exact ⟨(HCW.out.below HB.out.drew).1, (HCW.out.below HB.out.drew).2.1, (HCW.out.below HB.out.drew).2.2⟩
      replace HB := Lib.hid HB.out.drew
      replace HP := Lib.hid (HP.out.below (Below.refl _ _).drew)
      obtain ⟨wd, hwd⟩ : ∃ x, x = World.drew wr := ⟨_, rfl⟩
      rw [← hwd] at HB HP hHeld ⊢
      clear hwd
      have CP1 := Lib.hid (HP.out.mput c HCK.out (Nat.lt_of_lt_of_le HLN.out (by decide)))
      unfold PlR clA at CP1
      rw [HRV.out] at CP1
      rw [HSN.out] at CP1
      refine wpAnyH_take (i := 0) (oi := { dst := some 48, op := Op.move (Operand.tmp 7), type := 74, pos := "law.go:34", after := #[], guard := none }) (v := ?_) rfl (by kernel_rfl) (by kernel_rfl) (by kernel_rfl) (fun _ _ _ h => h) (Or.inl ⟨by rfl, ?_⟩) (by assumption) ?_
      rotate_left
      · (intro w hSw; (try dsimp only at hSw); go_simp); (first | done | with_reducible rfl)
      try simp only [Act.put, List.setIfInBounds_toArray, List.set_cons_zero, List.set_cons_succ]
      refine wpAnyH_take (i := 1) (oi := { dst := some 49, op := Op.move (Operand.tmp 0), type := 22, pos := "law.go:34", after := #[], guard := none }) (v := ?_) rfl (by kernel_rfl) (by kernel_rfl) (by kernel_rfl) (fun _ _ _ h => h) (Or.inl ⟨by rfl, ?_⟩) (by assumption) ?_
      rotate_left
      · (intro w hSw; (try dsimp only at hSw); go_simp); (first | done | with_reducible rfl)
      try simp only [Act.put, List.setIfInBounds_toArray, List.set_cons_zero, List.set_cons_succ]
      refine wpAnyH_take (i := 2) (oi := { dst := some 50, op := Op.move (Operand.tmp 9), type := 3, pos := "law.go:34", after := #[], guard := none }) (v := ?_) rfl (by kernel_rfl) (by kernel_rfl) (by kernel_rfl) (fun _ _ _ h => h) (Or.inl ⟨by rfl, ?_⟩) (by assumption) ?_
      rotate_left
      · (intro w hSw; (try dsimp only at hSw); go_simp); (first | done | with_reducible rfl)
      try simp only [Act.put, List.setIfInBounds_toArray, List.set_cons_zero, List.set_cons_succ]
      refine wpAnyH_take (i := 3) (oi := { dst := some 51, op := Op.indexAddr 22 (Operand.tmp 49) (Operand.tmp 50), type := 0, pos := "law.go:34", after := #[{ on := 1, ground := Ground.data }, { on := 2, ground := Ground.data }], guard := none }) (v := ?_) rfl (by kernel_rfl) (by kernel_rfl) (by kernel_rfl) (fun _ _ _ h => h) (Or.inl ⟨by rfl, ?_⟩) (by assumption) ?_
      rotate_left
      · (intro w hSw; (try dsimp only at hSw); go_simp); (first | done | with_reducible rfl)
      try simp only [Act.put, List.setIfInBounds_toArray, List.set_cons_zero, List.set_cons_succ]
      refine wpAnyH_take (i := 4) (oi := { dst := some 52, op := Op.load 38 (Operand.tmp 51), type := 38, pos := "law.go:34", after := #[{ on := 3, ground := Ground.data }], guard := none }) (v := ?_) rfl (by kernel_rfl) (by kernel_rfl) (by kernel_rfl) (fun _ _ _ h => h) (Or.inl ⟨by rfl, ?_⟩) (by assumption) ?_
      rotate_left
      · (intro w hSw; (try dsimp only at hSw); go_simp); (first | done | with_reducible rfl)
      try simp only [Act.put, List.setIfInBounds_toArray, List.set_cons_zero, List.set_cons_succ]
      refine wpAnyH_take (i := 6) (oi := { dst := some 54, op := Op.move (Operand.tmp 8), type := 76, pos := "law.go:34", after := #[], guard := none }) (v := ?_) rfl (by kernel_rfl) (by kernel_rfl) (by kernel_rfl) (fun _ _ _ h => h) (Or.inl ⟨by rfl, ?_⟩) (by assumption) ?_
      rotate_left
      · (intro w hSw; (try dsimp only at hSw); go_simp); (first | done | with_reducible rfl)
      try simp only [Act.put, List.setIfInBounds_toArray, List.set_cons_zero, List.set_cons_succ]
      refine wpAnyH_take (i := 7) (oi := { dst := some 55, op := Op.move (Operand.tmp 0), type := 22, pos := "law.go:34", after := #[], guard := none }) (v := ?_) rfl (by kernel_rfl) (by kernel_rfl) (by kernel_rfl) (fun _ _ _ h => h) (Or.inl ⟨by rfl, ?_⟩) (by assumption) ?_
      rotate_left
      · (intro w hSw; (try dsimp only at hSw); go_simp); (first | done | with_reducible rfl)
      try simp only [Act.put, List.setIfInBounds_toArray, List.set_cons_zero, List.set_cons_succ]
      refine wpAnyH_take (i := 8) (oi := { dst := some 56, op := Op.move (Operand.tmp 9), type := 3, pos := "law.go:34", after := #[], guard := none }) (v := ?_) rfl (by kernel_rfl) (by kernel_rfl) (by kernel_rfl) (fun _ _ _ h => h) (Or.inl ⟨by rfl, ?_⟩) (by assumption) ?_
      rotate_left
      · (intro w hSw; (try dsimp only at hSw); go_simp); (first | done | with_reducible rfl)
      try simp only [Act.put, List.setIfInBounds_toArray, List.set_cons_zero, List.set_cons_succ]
      refine wpAnyH_take (i := 9) (oi := { dst := some 57, op := Op.indexAddr 22 (Operand.tmp 55) (Operand.tmp 56), type := 0, pos := "law.go:34", after := #[{ on := 7, ground := Ground.data }, { on := 8, ground := Ground.data }], guard := none }) (v := ?_) rfl (by kernel_rfl) (by kernel_rfl) (by kernel_rfl) (fun _ _ _ h => h) (Or.inl ⟨by rfl, ?_⟩) (by assumption) ?_
      rotate_left
      · (intro w hSw; (try dsimp only at hSw); go_simp); (first | done | with_reducible rfl)
      try simp only [Act.put, List.setIfInBounds_toArray, List.set_cons_zero, List.set_cons_succ]
      refine wpAnyH_take (i := 10) (oi := { dst := some 58, op := Op.load 38 (Operand.tmp 57), type := 38, pos := "law.go:34", after := #[{ on := 9, ground := Ground.data }], guard := none }) (v := ?_) rfl (by kernel_rfl) (by kernel_rfl) (by kernel_rfl) (fun _ _ _ h => h) (Or.inl ⟨by rfl, ?_⟩) (by assumption) ?_
      rotate_left
      · (intro w hSw; (try dsimp only at hSw); go_simp); (first | done | with_reducible rfl)
      try simp only [Act.put, List.setIfInBounds_toArray, List.set_cons_zero, List.set_cons_succ]
      refine wpAnyH_ready (rs := [5]) (by kernel_rfl) (by simp) ?_
      refine AllReadyH.cons (o := { dst := some 53, op := Op.call { callee := Callee.value (Operand.func 51), args := #[Operand.tmp 48, Operand.tmp 52], argTypes := #[74, 38] }, type := 25, pos := "law.go:34", after := #[{ on := 0, ground := Ground.data }, { on := 4, ground := Ground.data }], guard := none }) rfl (fun K hK => ?_) (AllReadyH.nil)
      go_simp
      go_at_call 51
      with_reducible refine (CP1.out).mono ?_
      rintro e w5 ⟨rfl, hp, hb⟩
      replace HP := Lib.hid hp
      replace HB := Lib.hid (HB.out.trans hb)
      clear hp hb CP1
      have CP2 := Lib.hid (HP.out.rput c HCK.out (Nat.le_of_lt (Nat.lt_of_lt_of_le HLN.out (by decide))))
      unfold PlR clA at CP2
      rw [HRV.out] at CP2
      rw [HSN.out] at CP2
      go_wp2_with fail
      refine hK.out _ _ ?_ (fun hHeld => ?_)
      · exact ⟨(HCW.out.below HB.out).1, (HCW.out.below HB.out).2.1, (HCW.out.below HB.out).2.2⟩
      clear hK K
      try simp only [Act.put, List.setIfInBounds_toArray, List.set_cons_zero, List.set_cons_succ]
      refine wpAnyH_ready (rs := [11]) (by kernel_rfl) (by simp) ?_
      refine AllReadyH.cons (o := { dst := some 59, op := Op.call { callee := Callee.value (Operand.func 52), args := #[Operand.tmp 54, Operand.tmp 58], argTypes := #[76, 38] }, type := 25, pos := "law.go:34", after := #[{ on := 6, ground := Ground.data }, { on := 10, ground := Ground.data }, { on := 5, ground := Ground.chain }], guard := none }) rfl (fun K hK => ?_) (AllReadyH.nil)
      go_simp
      go_at_call 52
      with_reducible refine (CP2.out).mono ?_
      rintro e w11 ⟨rfl, hp, hb⟩
      replace HP := Lib.hid hp
      replace HB := Lib.hid (HB.out.trans hb)
      clear hp hb CP2
      have CL := Lib.hid HP.out.mlen
      obtain ⟨aR, cR, m0, hcr⟩ := HP.out.cell
      clear hcr
      go_wp2_with fail
      refine hK.out _ _ ?_ (fun hHeld => ?_)
      · exact ⟨(HCW.out.below HB.out).1, (HCW.out.below HB.out).2.1, (HCW.out.below HB.out).2.2⟩
      clear hK K
      try simp only [Act.put, List.setIfInBounds_toArray, List.set_cons_zero, List.set_cons_succ]
      refine wpAnyH_take (i := 12) (oi := { dst := some 60, op := Op.binOp BinOp.neq 25 (Operand.tmp 53) (Operand.tmp 59) 25, type := 4, pos := "law.go:34", after := #[{ on := 5, ground := Ground.data }, { on := 11, ground := Ground.data }], guard := none }) (v := ?_) rfl (by kernel_rfl) (by kernel_rfl) (by kernel_rfl) (fun _ _ _ h => h) (Or.inl ⟨by rfl, ?_⟩) (by assumption) ?_
      rotate_left
      · (intro w hSw; (try dsimp only at hSw); go_simp); (first | done | with_reducible rfl)
      try simp only [Act.put, List.setIfInBounds_toArray, List.set_cons_zero, List.set_cons_succ]
      refine wpAnyH_take (i := 13) (oi := { dst := some 61, op := Op.move (Operand.tmp 60), type := 4, pos := "law.go:34", after := #[{ on := 12, ground := Ground.data }, { on := 11, ground := Ground.chain }], guard := none }) (v := ?_) rfl (by kernel_rfl) (by kernel_rfl) (by kernel_rfl) (fun _ _ _ h => h) (Or.inl ⟨by rfl, ?_⟩) (by assumption) ?_
      rotate_left
      · (intro w hSw; (try dsimp only at hSw); go_simp); (first | done | with_reducible rfl)
      try simp only [Act.put, List.setIfInBounds_toArray, List.set_cons_zero, List.set_cons_succ]
      refine wpAnyH_take (i := 14) (oi := { dst := some 62, op := Op.move (Operand.tmp 7), type := 74, pos := "law.go:34", after := #[{ on := 13, ground := Ground.guard }], guard := some (13, false) }) (v := ?_) rfl (by kernel_rfl) (by kernel_rfl) (by kernel_rfl) (fun _ _ _ h => h) (Or.inl ⟨by rfl, ?_⟩) (by assumption) ?_
      rotate_left
      · (intro w hSw; (try dsimp only at hSw); go_simp); (first | done | with_reducible rfl)
      try simp only [Act.put, List.setIfInBounds_toArray, List.set_cons_zero, List.set_cons_succ]
      refine wpAnyH_take (i := 16) (oi := { dst := some 64, op := Op.move (Operand.tmp 8), type := 76, pos := "law.go:34", after := #[{ on := 13, ground := Ground.guard }], guard := some (13, false) }) (v := ?_) rfl (by kernel_rfl) (by kernel_rfl) (by kernel_rfl) (fun _ _ _ h => h) (Or.inl ⟨by rfl, ?_⟩) (by assumption) ?_
      rotate_left
      · (intro w hSw; (try dsimp only at hSw); go_simp); (first | done | with_reducible rfl)
      try simp only [Act.put, List.setIfInBounds_toArray, List.set_cons_zero, List.set_cons_succ]
      refine wpAnyH_take (i := 17) (oi := { dst := some 65, op := Op.nilCheck (Operand.tmp 64), type := 0, pos := "law.go:34", after := #[{ on := 16, ground := Ground.data }, { on := 13, ground := Ground.guard }], guard := some (13, false) }) (v := ?_) rfl (by kernel_rfl) (by kernel_rfl) (by kernel_rfl) (fun _ _ _ h => h) (Or.inl ⟨by rfl, ?_⟩) (by assumption) ?_
      rotate_left
      · (intro w hSw; (try dsimp only at hSw); go_simp); (first | done | with_reducible rfl)
      try simp only [Act.put, List.setIfInBounds_toArray, List.set_cons_zero, List.set_cons_succ]
      refine wpAnyH_take (i := 18) (oi := { dst := some 66, op := Op.fieldAddr 78 (Operand.tmp 65) 0, type := 0, pos := "law.go:34", after := #[{ on := 17, ground := Ground.data }, { on := 13, ground := Ground.guard }], guard := some (13, false) }) (v := ?_) rfl (by kernel_rfl) (by kernel_rfl) (by kernel_rfl) (fun _ _ _ h => h) (Or.inl ⟨by rfl, ?_⟩) (by assumption) ?_
      rotate_left
      · (intro w hSw; (try dsimp only at hSw); go_simp); (first | done | with_reducible rfl)
      try simp only [Act.put, List.setIfInBounds_toArray, List.set_cons_zero, List.set_cons_succ]
      refine wpAnyH_ready (rs := [15, 19]) (by kernel_rfl) (by simp) ?_
      refine AllReadyH.cons (o := { dst := some 63, op := Op.call { callee := Callee.value (Operand.func 53), args := #[Operand.tmp 62], argTypes := #[74] }, type := 3, pos := "law.go:34", after := #[{ on := 14, ground := Ground.data }, { on := 13, ground := Ground.chain }, { on := 13, ground := Ground.guard }], guard := some (13, false) }) rfl (fun K hK => ?_) (AllReadyH.cons (o := { dst := some 67, op := Op.load 22 (Operand.tmp 66), type := 22, pos := "law.go:34", after := #[{ on := 18, ground := Ground.data }, { on := 13, ground := Ground.guard }], guard := some (13, false) }) rfl (fun K hK => ?_) (AllReadyH.nil))
      · go_simp
        go_at_call 53
        with_reducible refine (CL.out).mono ?_
        rintro e wL ⟨rfl, rfl⟩
        go_wp2_with fail
        refine hK.out _ _ ?_ (fun hHeld => ?_)
        · exact ⟨(HCW.out.below HB.out).1, (HCW.out.below HB.out).2.1, (HCW.out.below HB.out).2.2⟩
        clear hK K
        try simp only [Act.put, List.setIfInBounds_toArray, List.set_cons_zero, List.set_cons_succ]
        refine wpAnyH_ready (rs := [19]) (by kernel_rfl) (by simp) ?_
        refine AllReadyH.cons (o := { dst := some 67, op := Op.load 22 (Operand.tmp 66), type := 22, pos := "law.go:34", after := #[{ on := 18, ground := Ground.data }, { on := 13, ground := Ground.guard }], guard := some (13, false) }) rfl (fun K hK => ?_) (AllReadyH.nil)
        go_simp
        refine hK.out _ _ ?_ (fun hHeld => ?_)
        · exact ⟨(HCW.out.below HB.out).1, (HCW.out.below HB.out).2.1, (HCW.out.below HB.out).2.2⟩
        clear hK K
        try simp only [Act.put, List.setIfInBounds_toArray, List.set_cons_zero, List.set_cons_succ]
        refine wpAnyH_take (i := 20) (oi := { dst := some 68, op := Op.call { callee := Callee.builtin Builtin.len, args := #[Operand.tmp 67], argTypes := #[22] }, type := 3, pos := "law.go:34", after := #[{ on := 19, ground := Ground.data }, { on := 13, ground := Ground.guard }], guard := some (13, false) }) (v := ?_) rfl (by kernel_rfl) (by kernel_rfl) (by kernel_rfl) (fun _ _ _ h => h) (Or.inl ⟨by rfl, ?_⟩) (by assumption) ?_
        rotate_left
        · (intro w hSw; (try dsimp only at hSw); go_simp); (first | done | with_reducible rfl)
        try simp only [Act.put, List.setIfInBounds_toArray, List.set_cons_zero, List.set_cons_succ]
        refine wpAnyH_take (i := 21) (oi := { dst := some 69, op := Op.binOp BinOp.neq 3 (Operand.tmp 63) (Operand.tmp 68) 3, type := 4, pos := "law.go:34", after := #[{ on := 15, ground := Ground.data }, { on := 20, ground := Ground.data }, { on := 13, ground := Ground.guard }], guard := some (13, false) }) (v := ?_) rfl (by kernel_rfl) (by kernel_rfl) (by kernel_rfl) (fun _ _ _ h => h) (Or.inl ⟨by rfl, ?_⟩) (by assumption) ?_
        rotate_left
        · (intro w hSw; (try dsimp only at hSw); go_simp); (first | done | with_reducible rfl)
        try simp only [Act.put, List.setIfInBounds_toArray, List.set_cons_zero, List.set_cons_succ]
        refine wpAnyH_take (i := 22) (oi := { dst := some 70, op := Op.pick (Operand.tmp 61) (Operand.const (Value.bool true)) (Operand.tmp 69), type := 4, pos := "law.go:34", after := #[{ on := 13, ground := Ground.data }, { on := 21, ground := Ground.data }], guard := none }) (v := ?_) rfl (by kernel_rfl) (by kernel_rfl) (by kernel_rfl) (fun _ _ _ h => h) (Or.inl ⟨by rfl, ?_⟩) (by assumption) ?_
        rotate_left
        · (intro w hSw; (try dsimp only at hSw); go_simp); (first | done | with_reducible rfl)
        refine wpAnyH_done (by kernel_rfl) ?_ _
        clear hHeld m0 CL
        go_wp2_with fail
        obtain ⟨y0, y1, y2⟩ := HCW.out.below HB.out
        go_wp2_with fail
        have CG1 := Lib.hid (HP.out.mget c.key)
        unfold FindR9 clA at CG1
        with_reducible refine (CG1.out).mono ?_
        rintro e w12 ⟨rfl, hbq⟩
        replace HB := carry hbq HB
        replace HP := carry hbq HP
        clear hbq CG1
        have CG2 := Lib.hid (fun V (h : Pl w0.heap.size w0.heap.size rb A A V) => h.rget c.key (by omega))
        unfold FindR9 clA at CG2
        generalize (M.findL c.key A).getD M.cl0 = d at *
        generalize (M.findL c.key A).isSome = ok at *
        have HD := Lib.hid (show RowIn (clA d) 38 (w12.alloc (.cells #[.string (S d.key), .int .i64 d.seq, .string (S d.val)] 38)) w12.heap.size from rowIn_new (clA d) 38 w12)
        replace HB := carryA (w := w12) (.cells #[.string (S d.key), .int .i64 d.seq, .string (S d.val)] 38) HB
        replace HP := carryA (w := w12) (.cells #[.string (S d.key), .int .i64 d.seq, .string (S d.val)] 38) HP
        clear y0 y1 y2
        obtain ⟨y0, y1, y2⟩ := HCW.out.below HB.out
        go_wp2_with fail
        obtain ⟨p12, hp12⟩ : ∃ x, x = w12.heap.size := ⟨_, rfl⟩
        obtain ⟨wA, hwA⟩ : ∃ x, x = w12.alloc (.cells #[.string (S d.key), .int .i64 d.seq, .string (S d.val)] 38) := ⟨_, rfl⟩
        rw [← hwA] at HD HB HP ⊢
        rw [← hp12] at HD ⊢
        clear y0 y1 y2
        clear hwA hp12
        with_reducible refine (CG2.out _ HP.out).mono ?_
        rintro e w13 ⟨rfl, hbq⟩
        replace HB := carry hbq HB
        replace HP := carry hbq HP
        replace HD := carry hbq HD
        clear hbq CG2
        have HE := Lib.hid (show RowIn (clA d) 38 (w13.alloc (.cells #[.string (S d.key), .int .i64 d.seq, .string (S d.val)] 38)) w13.heap.size from rowIn_new (clA d) 38 w13)
        replace HB := carryA (w := w13) (.cells #[.string (S d.key), .int .i64 d.seq, .string (S d.val)] 38) HB
        replace HP := carryA (w := w13) (.cells #[.string (S d.key), .int .i64 d.seq, .string (S d.val)] 38) HP
        replace HD := carryA (w := w13) (.cells #[.string (S d.key), .int .i64 d.seq, .string (S d.val)] 38) HD
        have k0 := HD.out.cell 0
        have k1 := HD.out.cell 1
        have k2 := HD.out.cell 2
        have l0 := HE.out.cell 0
        have l1 := HE.out.cell 1
        have l2 := HE.out.cell 2
        go_wp2_with fail
        go_roundw
        case rel => exact ⟨i + 1, by omega, by go_num, by rw [HAA.out]; exact HP, HB⟩
        case measure => simp [intOf]; omega
      · go_simp
        refine hK.out _ _ ?_ (fun hHeld => ?_)
        · exact ⟨(HCW.out.below HB.out).1, (HCW.out.below HB.out).2.1, (HCW.out.below HB.out).2.2⟩
        clear hK K
        try simp only [Act.put, List.setIfInBounds_toArray, List.set_cons_zero, List.set_cons_succ]
        refine wpAnyH_take (i := 20) (oi := { dst := some 68, op := Op.call { callee := Callee.builtin Builtin.len, args := #[Operand.tmp 67], argTypes := #[22] }, type := 3, pos := "law.go:34", after := #[{ on := 19, ground := Ground.data }, { on := 13, ground := Ground.guard }], guard := some (13, false) }) (v := ?_) rfl (by kernel_rfl) (by kernel_rfl) (by kernel_rfl) (fun _ _ _ h => h) (Or.inl ⟨by rfl, ?_⟩) (by assumption) ?_
        rotate_left
        · (intro w hSw; (try dsimp only at hSw); go_simp); (first | done | with_reducible rfl)
        try simp only [Act.put, List.setIfInBounds_toArray, List.set_cons_zero, List.set_cons_succ]
        refine wpAnyH_ready (rs := [15]) (by kernel_rfl) (by simp) ?_
        refine AllReadyH.cons (o := { dst := some 63, op := Op.call { callee := Callee.value (Operand.func 53), args := #[Operand.tmp 62], argTypes := #[74] }, type := 3, pos := "law.go:34", after := #[{ on := 14, ground := Ground.data }, { on := 13, ground := Ground.chain }, { on := 13, ground := Ground.guard }], guard := some (13, false) }) rfl (fun K hK => ?_) (AllReadyH.nil)
        go_simp
        go_at_call 53
        with_reducible refine (CL.out).mono ?_
        rintro e wL ⟨rfl, rfl⟩
        go_wp2_with fail
        refine hK.out _ _ ?_ (fun hHeld => ?_)
        · exact ⟨(HCW.out.below HB.out).1, (HCW.out.below HB.out).2.1, (HCW.out.below HB.out).2.2⟩
        clear hK K
        try simp only [Act.put, List.setIfInBounds_toArray, List.set_cons_zero, List.set_cons_succ]
        refine wpAnyH_take (i := 21) (oi := { dst := some 69, op := Op.binOp BinOp.neq 3 (Operand.tmp 63) (Operand.tmp 68) 3, type := 4, pos := "law.go:34", after := #[{ on := 15, ground := Ground.data }, { on := 20, ground := Ground.data }, { on := 13, ground := Ground.guard }], guard := some (13, false) }) (v := ?_) rfl (by kernel_rfl) (by kernel_rfl) (by kernel_rfl) (fun _ _ _ h => h) (Or.inl ⟨by rfl, ?_⟩) (by assumption) ?_
        rotate_left
        · (intro w hSw; (try dsimp only at hSw); go_simp); (first | done | with_reducible rfl)
        try simp only [Act.put, List.setIfInBounds_toArray, List.set_cons_zero, List.set_cons_succ]
        refine wpAnyH_take (i := 22) (oi := { dst := some 70, op := Op.pick (Operand.tmp 61) (Operand.const (Value.bool true)) (Operand.tmp 69), type := 4, pos := "law.go:34", after := #[{ on := 13, ground := Ground.data }, { on := 21, ground := Ground.data }], guard := none }) (v := ?_) rfl (by kernel_rfl) (by kernel_rfl) (by kernel_rfl) (fun _ _ _ h => h) (Or.inl ⟨by rfl, ?_⟩) (by assumption) ?_
        rotate_left
        · (intro w hSw; (try dsimp only at hSw); go_simp); (first | done | with_reducible rfl)
        refine wpAnyH_done (by kernel_rfl) ?_ _
        clear hHeld m0 CL
        go_wp2_with fail
        obtain ⟨y0, y1, y2⟩ := HCW.out.below HB.out
        go_wp2_with fail
        have CG1 := Lib.hid (HP.out.mget c.key)
        unfold FindR9 clA at CG1
        with_reducible refine (CG1.out).mono ?_
        rintro e w12 ⟨rfl, hbq⟩
        replace HB := carry hbq HB
        replace HP := carry hbq HP
        clear hbq CG1
        have CG2 := Lib.hid (fun V (h : Pl w0.heap.size w0.heap.size rb A A V) => h.rget c.key (by omega))
        unfold FindR9 clA at CG2
        generalize (M.findL c.key A).getD M.cl0 = d at *
        generalize (M.findL c.key A).isSome = ok at *
        have HD := Lib.hid (show RowIn (clA d) 38 (w12.alloc (.cells #[.string (S d.key), .int .i64 d.seq, .string (S d.val)] 38)) w12.heap.size from rowIn_new (clA d) 38 w12)
        replace HB := carryA (w := w12) (.cells #[.string (S d.key), .int .i64 d.seq, .string (S d.val)] 38) HB
        replace HP := carryA (w := w12) (.cells #[.string (S d.key), .int .i64 d.seq, .string (S d.val)] 38) HP
        clear y0 y1 y2
        obtain ⟨y0, y1, y2⟩ := HCW.out.below HB.out
        go_wp2_with fail
        obtain ⟨p12, hp12⟩ : ∃ x, x = w12.heap.size := ⟨_, rfl⟩
        obtain ⟨wA, hwA⟩ : ∃ x, x = w12.alloc (.cells #[.string (S d.key), .int .i64 d.seq, .string (S d.val)] 38) := ⟨_, rfl⟩
        rw [← hwA] at HD HB HP ⊢
        rw [← hp12] at HD ⊢
        clear y0 y1 y2
        clear hwA hp12
        with_reducible refine (CG2.out _ HP.out).mono ?_
        rintro e w13 ⟨rfl, hbq⟩
        replace HB := carry hbq HB
        replace HP := carry hbq HP
        replace HD := carry hbq HD
        clear hbq CG2
        have HE := Lib.hid (show RowIn (clA d) 38 (w13.alloc (.cells #[.string (S d.key), .int .i64 d.seq, .string (S d.val)] 38)) w13.heap.size from rowIn_new (clA d) 38 w13)
        replace HB := carryA (w := w13) (.cells #[.string (S d.key), .int .i64 d.seq, .string (S d.val)] 38) HB
        replace HP := carryA (w := w13) (.cells #[.string (S d.key), .int .i64 d.seq, .string (S d.val)] 38) HP
        replace HD := carryA (w := w13) (.cells #[.string (S d.key), .int .i64 d.seq, .string (S d.val)] 38) HD
        have k0 := HD.out.cell 0
        have k1 := HD.out.cell 1
        have k2 := HD.out.cell 2
        have l0 := HE.out.cell 0
        have l1 := HE.out.cell 1
        have l2 := HE.out.cell 2
        go_wp2_with fail
        go_roundw
        case rel => exact ⟨i + 1, by omega, by go_num, by rw [HAA.out]; exact HP, HB⟩
        case measure => simp [intOf]; omega
    · obtain rfl : i = L.length := by omega
      have dl1 : decide ((L.length : Int) < (L.length : Int)) = false := by simp
      have dl2 : decide (L.length < L.length) = false := by simp
      rw [List.take_length] at HP
      have HOKA := Lib.hid (M.puts_ok HOK.out (A := []) (fun c hc => by cases hc))
      have hA1 : (M.putsL [] L).length ≤ 1000 := by
        have h1 := M.puts_len L []
        simp at h1
        omega
      generalize M.putsL [] L = A at *
      go_wp2_with fail
      have CG1 := Lib.hid (HP.out.mget key)
      unfold FindR9 clA at CG1
      with_reducible refine (CG1.out).mono ?_
      rintro e w12 ⟨rfl, hbq⟩
      replace HB := carry hbq HB
      replace HP := carry hbq HP
      clear hbq CG1
      have CG2 := Lib.hid (fun V (h : Pl w0.heap.size w0.heap.size rb A A V) => h.rget key (by omega))
      unfold FindR9 clA at CG2
      generalize (M.findL key A).getD M.cl0 = d at *
      generalize (M.findL key A).isSome = ok at *
      have HD := Lib.hid (show RowIn (clA d) 38 (w12.alloc (.cells #[.string (S d.key), .int .i64 d.seq, .string (S d.val)] 38)) w12.heap.size from rowIn_new (clA d) 38 w12)
      replace HB := carryA (w := w12) (.cells #[.string (S d.key), .int .i64 d.seq, .string (S d.val)] 38) HB
      replace HP := carryA (w := w12) (.cells #[.string (S d.key), .int .i64 d.seq, .string (S d.val)] 38) HP
      go_wp2_with fail
      obtain ⟨p12, hp12⟩ : ∃ x, x = w12.heap.size := ⟨_, rfl⟩
      obtain ⟨wA, hwA⟩ : ∃ x, x = w12.alloc (.cells #[.string (S d.key), .int .i64 d.seq, .string (S d.val)] 38) := ⟨_, rfl⟩
      rw [← hwA] at HD HB HP ⊢
      rw [← hp12] at HD ⊢
      clear hwA hp12
      with_reducible refine (CG2.out _ HP.out).mono ?_
      rintro e w13 ⟨rfl, hbq⟩
      replace HB := carry hbq HB
      replace HP := carry hbq HP
      replace HD := carry hbq HD
      clear hbq CG2
      have HE := Lib.hid (show RowIn (clA d) 38 (w13.alloc (.cells #[.string (S d.key), .int .i64 d.seq, .string (S d.val)] 38)) w13.heap.size from rowIn_new (clA d) 38 w13)
      replace HB := carryA (w := w13) (.cells #[.string (S d.key), .int .i64 d.seq, .string (S d.val)] 38) HB
      replace HP := carryA (w := w13) (.cells #[.string (S d.key), .int .i64 d.seq, .string (S d.val)] 38) HP
      replace HD := carryA (w := w13) (.cells #[.string (S d.key), .int .i64 d.seq, .string (S d.val)] 38) HD
      have k0 := HD.out.cell 0
      have k1 := HD.out.cell 1
      have k2 := HD.out.cell 2
      have l0 := HE.out.cell 0
      have l1 := HE.out.cell 1
      have l2 := HE.out.cell 2
      go_wp2_with fail
      obtain ⟨p13, hp13⟩ : ∃ x, x = w13.heap.size := ⟨_, rfl⟩
      obtain ⟨w14, hw14⟩ : ∃ x, x = w13.alloc (.cells #[.string (S d.key), .int .i64 d.seq, .string (S d.val)] 38) := ⟨_, rfl⟩
      rw [← hw14] at HD HE HB HP ⊢
      rw [← hp13] at HE ⊢
      clear hw14 hp13 k0 k1 k2 l0 l1 l2
      obtain ⟨aR, cR, mR, hcr⟩ := HP.out.rowr
      have HCr := Lib.hid hcr
      clear hcr
      have HRr := Lib.hid mR
      clear mR
      have HP16 := HP
      have HX16 := Lib.hid (HX0.out.below HB.out)
      have CR := Lib.hid HP.out.mrng
      unfold RangeR10 at CR
      with_reducible refine (CR.out).mono ?_
      rintro e w15 ⟨a15, c15, rfl, ho15, hb15⟩
      have HO15 := Lib.hid ho15
      have HBX := Lib.hid hb15
      clear CR ho15 hb15
      have CS := Lib.hid (fun V a1 a2 c1 c2 h1 h2 => sameCells9_yes (w := V) A A.length rfl a1 a2 c1 c2 (by omega) h1 h2)
      have CS2 := Lib.hid (fun V a1 a2 c1 c2 h1 h2 => sameCells9_yes (w := V) (M.rangeL x y A) (M.rangeL x y A).length rfl a1 a2 c1 c2 (by have := M.range_len x y A; omega) h1 h2)
      go_upto_region 16 with (fail)
      refine wp_region_held_drew (S := fun V => V.cell? ⟨p12, 0, none⟩ = some (.string (S d.key)) ∧ V.cell? ⟨p12, 1, none⟩ = some (.int .i64 d.seq) ∧ V.cell? ⟨p12, 2, none⟩ = some (.string (S d.val)) ∧ V.cell? ⟨p13, 0, none⟩ = some (.string (S d.key)) ∧ V.cell? ⟨p13, 1, none⟩ = some (.int .i64 d.seq) ∧ V.cell? ⟨p13, 2, none⟩ = some (.string (S d.val)) ∧ V.cell? ⟨rb, 0, none⟩ = some (.slice aR A.length cR) ∧ V.cell? ⟨e5, 0, none⟩ = some (.string (S x)) ∧ V.cell? ⟨e5, 1, none⟩ = some (.string (S y))) (by kernel_rfl) ?_ (fun hHeld => ?_)
      · exact ⟨(HD.out.below HBX.out.drew).cell 0, (HD.out.below HBX.out.drew).cell 1, (HD.out.below HBX.out.drew).cell 2, (HE.out.below HBX.out.drew).cell 0, (HE.out.below HBX.out.drew).cell 1, (HE.out.below HBX.out.drew).cell 2, (HRr.out.below HBX.out.drew).cell 0, (HX16.out.below HBX.out.drew).cell 0, (HX16.out.below HBX.out.drew).cell 1⟩
      replace HBX := Lib.hid HBX.out.drew
      replace HO15 := Lib.hid (ownP_below HO15.out (Below.refl _ _).drew)
      obtain ⟨wd, hwd⟩ : ∃ x, x = World.drew w15 := ⟨_, rfl⟩
      rw [← hwd] at HBX HO15 hHeld ⊢
      clear hwd
      refine wpAnyH_take (i := 0) (oi := { dst := some 113, op := Op.load 38 (Operand.tmp 14), type := 38, pos := "law.go:46", after := #[], guard := none }) (v := ?_) rfl (by kernel_rfl) (by kernel_rfl) (by kernel_rfl) (fun _ _ _ h => h) (Or.inl ⟨by rfl, ?_⟩) (by assumption) ?_
      rotate_left
      · (intro w hSw; (try dsimp only at hSw); go_simp); (first | done | with_reducible rfl)
      try simp only [Act.put, List.setIfInBounds_toArray, List.set_cons_zero, List.set_cons_succ]
      refine wpAnyH_take (i := 1) (oi := { dst := some 114, op := Op.load 38 (Operand.tmp 16), type := 38, pos := "law.go:46", after := #[], guard := none }) (v := ?_) rfl (by kernel_rfl) (by kernel_rfl) (by kernel_rfl) (fun _ _ _ h => h) (Or.inl ⟨by rfl, ?_⟩) (by assumption) ?_
      rotate_left
      · (intro w hSw; (try dsimp only at hSw); go_simp); (first | done | with_reducible rfl)
      try simp only [Act.put, List.setIfInBounds_toArray, List.set_cons_zero, List.set_cons_succ]
      refine wpAnyH_take (i := 2) (oi := { dst := some 115, op := Op.binOp BinOp.neq 38 (Operand.tmp 113) (Operand.tmp 114) 38, type := 4, pos := "law.go:46", after := #[{ on := 0, ground := Ground.data }, { on := 1, ground := Ground.data }], guard := none }) (v := ?_) rfl (by kernel_rfl) (by kernel_rfl) (by kernel_rfl) (fun _ _ _ h => h) (Or.inl ⟨by rfl, ?_⟩) (by assumption) ?_
      rotate_left
      · (intro w hSw; (try dsimp only at hSw); go_simp); (first | done | with_reducible rfl)
      try simp only [Act.put, List.setIfInBounds_toArray, List.set_cons_zero, List.set_cons_succ]
      refine wpAnyH_take (i := 3) (oi := { dst := some 116, op := Op.move (Operand.tmp 115), type := 4, pos := "law.go:46", after := #[{ on := 2, ground := Ground.data }], guard := none }) (v := ?_) rfl (by kernel_rfl) (by kernel_rfl) (by kernel_rfl) (fun _ _ _ h => h) (Or.inl ⟨by rfl, ?_⟩) (by assumption) ?_
      rotate_left
      · (intro w hSw; (try dsimp only at hSw); go_simp); (first | done | with_reducible rfl)
      try simp only [Act.put, List.setIfInBounds_toArray, List.set_cons_zero, List.set_cons_succ]
      refine wpAnyH_take (i := 4) (oi := { dst := some 117, op := Op.move (Operand.tmp 15), type := 4, pos := "law.go:46", after := #[{ on := 3, ground := Ground.guard }], guard := some (3, false) }) (v := ?_) rfl (by kernel_rfl) (by kernel_rfl) (by kernel_rfl) (fun _ _ _ h => h) (Or.inl ⟨by rfl, ?_⟩) (by assumption) ?_
      rotate_left
      · (intro w hSw; (try dsimp only at hSw); go_simp); (first | done | with_reducible rfl)
      try simp only [Act.put, List.setIfInBounds_toArray, List.set_cons_zero, List.set_cons_succ]
      refine wpAnyH_take (i := 5) (oi := { dst := some 118, op := Op.move (Operand.tmp 17), type := 4, pos := "law.go:46", after := #[{ on := 3, ground := Ground.guard }], guard := some (3, false) }) (v := ?_) rfl (by kernel_rfl) (by kernel_rfl) (by kernel_rfl) (fun _ _ _ h => h) (Or.inl ⟨by rfl, ?_⟩) (by assumption) ?_
      rotate_left
      · (intro w hSw; (try dsimp only at hSw); go_simp); (first | done | with_reducible rfl)
      try simp only [Act.put, List.setIfInBounds_toArray, List.set_cons_zero, List.set_cons_succ]
      refine wpAnyH_take (i := 6) (oi := { dst := some 119, op := Op.binOp BinOp.neq 4 (Operand.tmp 117) (Operand.tmp 118) 4, type := 4, pos := "law.go:46", after := #[{ on := 4, ground := Ground.data }, { on := 5, ground := Ground.data }, { on := 3, ground := Ground.guard }], guard := some (3, false) }) (v := ?_) rfl (by kernel_rfl) (by kernel_rfl) (by kernel_rfl) (fun _ _ _ h => h) (Or.inl ⟨by rfl, ?_⟩) (by assumption) ?_
      rotate_left
      · (intro w hSw; (try dsimp only at hSw); go_simp); (first | done | with_reducible rfl)
      try simp only [Act.put, List.setIfInBounds_toArray, List.set_cons_zero, List.set_cons_succ]
      refine wpAnyH_take (i := 7) (oi := { dst := some 120, op := Op.pick (Operand.tmp 116) (Operand.const (Value.bool true)) (Operand.tmp 119), type := 4, pos := "law.go:46", after := #[{ on := 3, ground := Ground.data }, { on := 6, ground := Ground.data }], guard := none }) (v := ?_) rfl (by kernel_rfl) (by kernel_rfl) (by kernel_rfl) (fun _ _ _ h => h) (Or.inl ⟨by rfl, ?_⟩) (by assumption) ?_
      rotate_left
      · (intro w hSw; (try dsimp only at hSw); go_simp); (first | done | with_reducible rfl)
      try simp only [Act.put, List.setIfInBounds_toArray, List.set_cons_zero, List.set_cons_succ]
      refine wpAnyH_take (i := 8) (oi := { dst := some 121, op := Op.move (Operand.tmp 120), type := 4, pos := "law.go:46", after := #[{ on := 7, ground := Ground.data }, { on := 3, ground := Ground.chain }], guard := none }) (v := ?_) rfl (by kernel_rfl) (by kernel_rfl) (by kernel_rfl) (fun _ _ _ h => h) (Or.inl ⟨by rfl, ?_⟩) (by assumption) ?_
      rotate_left
      · (intro w hSw; (try dsimp only at hSw); go_simp); (first | done | with_reducible rfl)
      try simp only [Act.put, List.setIfInBounds_toArray, List.set_cons_zero, List.set_cons_succ]
      refine wpAnyH_take (i := 9) (oi := { dst := some 122, op := Op.move (Operand.tmp 18), type := 22, pos := "law.go:46", after := #[{ on := 8, ground := Ground.guard }], guard := some (8, false) }) (v := ?_) rfl (by kernel_rfl) (by kernel_rfl) (by kernel_rfl) (fun _ _ _ h => h) (Or.inl ⟨by rfl, ?_⟩) (by assumption) ?_
      rotate_left
      · (intro w hSw; (try dsimp only at hSw); go_simp); (first | done | with_reducible rfl)
      try simp only [Act.put, List.setIfInBounds_toArray, List.set_cons_zero, List.set_cons_succ]
      refine wpAnyH_take (i := 10) (oi := { dst := some 123, op := Op.move (Operand.tmp 8), type := 76, pos := "law.go:46", after := #[{ on := 8, ground := Ground.guard }], guard := some (8, false) }) (v := ?_) rfl (by kernel_rfl) (by kernel_rfl) (by kernel_rfl) (fun _ _ _ h => h) (Or.inl ⟨by rfl, ?_⟩) (by assumption) ?_
      rotate_left
      · (intro w hSw; (try dsimp only at hSw); go_simp); (first | done | with_reducible rfl)
      try simp only [Act.put, List.setIfInBounds_toArray, List.set_cons_zero, List.set_cons_succ]
      refine wpAnyH_take (i := 11) (oi := { dst := some 124, op := Op.nilCheck (Operand.tmp 123), type := 0, pos := "law.go:46", after := #[{ on := 10, ground := Ground.data }, { on := 8, ground := Ground.guard }], guard := some (8, false) }) (v := ?_) rfl (by kernel_rfl) (by kernel_rfl) (by kernel_rfl) (fun _ _ _ h => h) (Or.inl ⟨by rfl, ?_⟩) (by assumption) ?_
      rotate_left
      · (intro w hSw; (try dsimp only at hSw); go_simp); (first | done | with_reducible rfl)
      try simp only [Act.put, List.setIfInBounds_toArray, List.set_cons_zero, List.set_cons_succ]
      refine wpAnyH_take (i := 12) (oi := { dst := some 125, op := Op.fieldAddr 78 (Operand.tmp 124) 0, type := 0, pos := "law.go:46", after := #[{ on := 11, ground := Ground.data }, { on := 8, ground := Ground.guard }], guard := some (8, false) }) (v := ?_) rfl (by kernel_rfl) (by kernel_rfl) (by kernel_rfl) (fun _ _ _ h => h) (Or.inl ⟨by rfl, ?_⟩) (by assumption) ?_
      rotate_left
      · (intro w hSw; (try dsimp only at hSw); go_simp); (first | done | with_reducible rfl)
      try simp only [Act.put, List.setIfInBounds_toArray, List.set_cons_zero, List.set_cons_succ]
      refine wpAnyH_take (i := 13) (oi := { dst := some 126, op := Op.load 22 (Operand.tmp 125), type := 22, pos := "law.go:46", after := #[{ on := 12, ground := Ground.data }, { on := 8, ground := Ground.guard }], guard := some (8, false) }) (v := ?_) rfl (by kernel_rfl) (by kernel_rfl) (by kernel_rfl) (fun _ _ _ h => h) (Or.inl ⟨by rfl, ?_⟩) (by assumption) ?_
      rotate_left
      · (intro w hSw; (try dsimp only at hSw); go_simp); (first | done | with_reducible rfl)
      try simp only [Act.put, List.setIfInBounds_toArray, List.set_cons_zero, List.set_cons_succ]
      refine wpAnyH_ready (rs := [14]) (by kernel_rfl) (by simp) ?_
      refine AllReadyH.cons (o := { dst := some 127, op := Op.call { callee := Callee.value (Operand.func 35), args := #[Operand.tmp 122, Operand.tmp 126], argTypes := #[22, 22] }, type := 4, pos := "law.go:46", after := #[{ on := 9, ground := Ground.data }, { on := 13, ground := Ground.data }, { on := 8, ground := Ground.chain }, { on := 8, ground := Ground.guard }], guard := some (8, false) }) rfl (fun K hK => ?_) (AllReadyH.nil)
      go_simp
      go_at_call 35
      with_reducible refine (CS.out _ _ _ _ _ (clsAt_own HO15.out rfl) (HCr.out.below HBX.out)).mono ?_
      rintro e w114 ⟨rfl, hbq⟩
      replace HBX := carry hbq HBX
      replace HO15 := carry hbq HO15
      clear hbq
      go_wp2_with fail
      refine hK.out _ _ ?_ (fun hHeld => ?_)
      · exact ⟨(HD.out.below HBX.out).cell 0, (HD.out.below HBX.out).cell 1, (HD.out.below HBX.out).cell 2, (HE.out.below HBX.out).cell 0, (HE.out.below HBX.out).cell 1, (HE.out.below HBX.out).cell 2, (HRr.out.below HBX.out).cell 0, (HX16.out.below HBX.out).cell 0, (HX16.out.below HBX.out).cell 1⟩
      clear hK K
      try simp only [Act.put, List.setIfInBounds_toArray, List.set_cons_zero, List.set_cons_succ]
      refine wpAnyH_take (i := 15) (oi := { dst := some 128, op := Op.unOp UnOp.not 4 (Operand.tmp 127), type := 4, pos := "law.go:46", after := #[{ on := 14, ground := Ground.data }, { on := 8, ground := Ground.guard }], guard := some (8, false) }) (v := ?_) rfl (by kernel_rfl) (by kernel_rfl) (by kernel_rfl) (fun _ _ _ h => h) (Or.inl ⟨by rfl, ?_⟩) (by assumption) ?_
      rotate_left
      · (intro w hSw; (try dsimp only at hSw); go_simp); (first | done | with_reducible rfl)
      try simp only [Act.put, List.setIfInBounds_toArray, List.set_cons_zero, List.set_cons_succ]
      refine wpAnyH_take (i := 16) (oi := { dst := some 129, op := Op.pick (Operand.tmp 121) (Operand.const (Value.bool true)) (Operand.tmp 128), type := 4, pos := "law.go:46", after := #[{ on := 8, ground := Ground.data }, { on := 15, ground := Ground.data }], guard := none }) (v := ?_) rfl (by kernel_rfl) (by kernel_rfl) (by kernel_rfl) (fun _ _ _ h => h) (Or.inl ⟨by rfl, ?_⟩) (by assumption) ?_
      rotate_left
      · (intro w hSw; (try dsimp only at hSw); go_simp); (first | done | with_reducible rfl)
      try simp only [Act.put, List.setIfInBounds_toArray, List.set_cons_zero, List.set_cons_succ]
      refine wpAnyH_take (i := 17) (oi := { dst := some 130, op := Op.move (Operand.tmp 129), type := 4, pos := "law.go:46", after := #[{ on := 16, ground := Ground.data }, { on := 14, ground := Ground.chain }], guard := none }) (v := ?_) rfl (by kernel_rfl) (by kernel_rfl) (by kernel_rfl) (fun _ _ _ h => h) (Or.inl ⟨by rfl, ?_⟩) (by assumption) ?_
      rotate_left
      · (intro w hSw; (try dsimp only at hSw); go_simp); (first | done | with_reducible rfl)
      try simp only [Act.put, List.setIfInBounds_toArray, List.set_cons_zero, List.set_cons_succ]
      refine wpAnyH_take (i := 18) (oi := { dst := some 131, op := Op.move (Operand.tmp 7), type := 74, pos := "law.go:46", after := #[{ on := 17, ground := Ground.guard }], guard := some (17, false) }) (v := ?_) rfl (by kernel_rfl) (by kernel_rfl) (by kernel_rfl) (fun _ _ _ h => h) (Or.inl ⟨by rfl, ?_⟩) (by assumption) ?_
      rotate_left
      · (intro w hSw; (try dsimp only at hSw); go_simp); (first | done | with_reducible rfl)
      try simp only [Act.put, List.setIfInBounds_toArray, List.set_cons_zero, List.set_cons_succ]
      refine wpAnyH_take (i := 19) (oi := { dst := some 132, op := Op.indexAddr 31 (Operand.tmp 5) (Operand.const (Value.int IntKind.i64 0)), type := 0, pos := "law.go:46", after := #[{ on := 17, ground := Ground.guard }], guard := some (17, false) }) (v := ?_) rfl (by kernel_rfl) (by kernel_rfl) (by kernel_rfl) (fun _ _ _ h => h) (Or.inl ⟨by rfl, ?_⟩) (by assumption) ?_
      rotate_left
      · (intro w hSw; (try dsimp only at hSw); go_simp); (first | done | with_reducible rfl)
      try simp only [Act.put, List.setIfInBounds_toArray, List.set_cons_zero, List.set_cons_succ]
      refine wpAnyH_take (i := 20) (oi := { dst := some 133, op := Op.load 9 (Operand.tmp 132), type := 9, pos := "law.go:46", after := #[{ on := 19, ground := Ground.data }, { on := 17, ground := Ground.guard }], guard := some (17, false) }) (v := ?_) rfl (by kernel_rfl) (by kernel_rfl) (by kernel_rfl) (fun _ _ _ h => h) (Or.inl ⟨by rfl, ?_⟩) (by assumption) ?_
      rotate_left
      · (intro w hSw; (try dsimp only at hSw); go_simp); (first | done | with_reducible rfl)
      try simp only [Act.put, List.setIfInBounds_toArray, List.set_cons_zero, List.set_cons_succ]
      refine wpAnyH_take (i := 21) (oi := { dst := some 134, op := Op.indexAddr 31 (Operand.tmp 5) (Operand.const (Value.int IntKind.i64 1)), type := 0, pos := "law.go:46", after := #[{ on := 17, ground := Ground.guard }], guard := some (17, false) }) (v := ?_) rfl (by kernel_rfl) (by kernel_rfl) (by kernel_rfl) (fun _ _ _ h => h) (Or.inl ⟨by rfl, ?_⟩) (by assumption) ?_
      rotate_left
      · (intro w hSw; (try dsimp only at hSw); go_simp); (first | done | with_reducible rfl)
      try simp only [Act.put, List.setIfInBounds_toArray, List.set_cons_zero, List.set_cons_succ]
      refine wpAnyH_take (i := 22) (oi := { dst := some 135, op := Op.load 9 (Operand.tmp 134), type := 9, pos := "law.go:46", after := #[{ on := 21, ground := Ground.data }, { on := 17, ground := Ground.guard }], guard := some (17, false) }) (v := ?_) rfl (by kernel_rfl) (by kernel_rfl) (by kernel_rfl) (fun _ _ _ h => h) (Or.inl ⟨by rfl, ?_⟩) (by assumption) ?_
      rotate_left
      · (intro w hSw; (try dsimp only at hSw); go_simp); (first | done | with_reducible rfl)
      try simp only [Act.put, List.setIfInBounds_toArray, List.set_cons_zero, List.set_cons_succ]
      refine wpAnyH_take (i := 24) (oi := { dst := some 137, op := Op.move (Operand.tmp 8), type := 76, pos := "law.go:46", after := #[{ on := 17, ground := Ground.guard }], guard := some (17, false) }) (v := ?_) rfl (by kernel_rfl) (by kernel_rfl) (by kernel_rfl) (fun _ _ _ h => h) (Or.inl ⟨by rfl, ?_⟩) (by assumption) ?_
      rotate_left
      · (intro w hSw; (try dsimp only at hSw); go_simp); (first | done | with_reducible rfl)
      try simp only [Act.put, List.setIfInBounds_toArray, List.set_cons_zero, List.set_cons_succ]
      refine wpAnyH_take (i := 25) (oi := { dst := some 138, op := Op.indexAddr 31 (Operand.tmp 5) (Operand.const (Value.int IntKind.i64 0)), type := 0, pos := "law.go:46", after := #[{ on := 17, ground := Ground.guard }], guard := some (17, false) }) (v := ?_) rfl (by kernel_rfl) (by kernel_rfl) (by kernel_rfl) (fun _ _ _ h => h) (Or.inl ⟨by rfl, ?_⟩) (by assumption) ?_
      rotate_left
      · (intro w hSw; (try dsimp only at hSw); go_simp); (first | done | with_reducible rfl)
      try simp only [Act.put, List.setIfInBounds_toArray, List.set_cons_zero, List.set_cons_succ]
      refine wpAnyH_take (i := 26) (oi := { dst := some 139, op := Op.load 9 (Operand.tmp 138), type := 9, pos := "law.go:46", after := #[{ on := 25, ground := Ground.data }, { on := 17, ground := Ground.guard }], guard := some (17, false) }) (v := ?_) rfl (by kernel_rfl) (by kernel_rfl) (by kernel_rfl) (fun _ _ _ h => h) (Or.inl ⟨by rfl, ?_⟩) (by assumption) ?_
      rotate_left
      · (intro w hSw; (try dsimp only at hSw); go_simp); (first | done | with_reducible rfl)
      try simp only [Act.put, List.setIfInBounds_toArray, List.set_cons_zero, List.set_cons_succ]
      refine wpAnyH_take (i := 27) (oi := { dst := some 140, op := Op.indexAddr 31 (Operand.tmp 5) (Operand.const (Value.int IntKind.i64 1)), type := 0, pos := "law.go:46", after := #[{ on := 17, ground := Ground.guard }], guard := some (17, false) }) (v := ?_) rfl (by kernel_rfl) (by kernel_rfl) (by kernel_rfl) (fun _ _ _ h => h) (Or.inl ⟨by rfl, ?_⟩) (by assumption) ?_
      rotate_left
      · (intro w hSw; (try dsimp only at hSw); go_simp); (first | done | with_reducible rfl)
      try simp only [Act.put, List.setIfInBounds_toArray, List.set_cons_zero, List.set_cons_succ]
      refine wpAnyH_take (i := 28) (oi := { dst := some 141, op := Op.load 9 (Operand.tmp 140), type := 9, pos := "law.go:46", after := #[{ on := 27, ground := Ground.data }, { on := 17, ground := Ground.guard }], guard := some (17, false) }) (v := ?_) rfl (by kernel_rfl) (by kernel_rfl) (by kernel_rfl) (fun _ _ _ h => h) (Or.inl ⟨by rfl, ?_⟩) (by assumption) ?_
      rotate_left
      · (intro w hSw; (try dsimp only at hSw); go_simp); (first | done | with_reducible rfl)
      try simp only [Act.put, List.setIfInBounds_toArray, List.set_cons_zero, List.set_cons_succ]
      refine wpAnyH_ready (rs := [23]) (by kernel_rfl) (by simp) ?_
      refine AllReadyH.cons (o := { dst := some 136, op := Op.call { callee := Callee.value (Operand.func 56), args := #[Operand.tmp 131, Operand.tmp 133, Operand.tmp 135], argTypes := #[74, 9, 9] }, type := 22, pos := "law.go:46", after := #[{ on := 18, ground := Ground.data }, { on := 20, ground := Ground.data }, { on := 22, ground := Ground.data }, { on := 17, ground := Ground.chain }, { on := 17, ground := Ground.guard }], guard := some (17, false) }) rfl (fun K hK => ?_) (AllReadyH.nil)
      have CR1 := Lib.hid (Pl.mrng2 x y (HP16.out.below HBX.out) (by omega) (by omega))
      unfold RangeR10 at CR1
      go_simp
      go_at_call 56
      with_reducible refine (CR1.out).mono ?_
      rintro e w123 ⟨a123, c123, rfl, ho, hbq⟩
      replace HBX := carry hbq HBX
      replace HO15 := carry hbq HO15
      have HC123 := Lib.hid (clsAt_own ho rfl)
      clear hbq ho CR1
      go_wp2_with fail
      refine hK.out _ _ ?_ (fun hHeld => ?_)
      · exact ⟨(HD.out.below HBX.out).cell 0, (HD.out.below HBX.out).cell 1, (HD.out.below HBX.out).cell 2, (HE.out.below HBX.out).cell 0, (HE.out.below HBX.out).cell 1, (HE.out.below HBX.out).cell 2, (HRr.out.below HBX.out).cell 0, (HX16.out.below HBX.out).cell 0, (HX16.out.below HBX.out).cell 1⟩
      clear hK K
      try simp only [Act.put, List.setIfInBounds_toArray, List.set_cons_zero, List.set_cons_succ]
      refine wpAnyH_ready (rs := [29]) (by kernel_rfl) (by simp) ?_
      refine AllReadyH.cons (o := { dst := some 142, op := Op.call { callee := Callee.value (Operand.func 57), args := #[Operand.tmp 137, Operand.tmp 139, Operand.tmp 141], argTypes := #[76, 9, 9] }, type := 22, pos := "law.go:46", after := #[{ on := 24, ground := Ground.data }, { on := 26, ground := Ground.data }, { on := 28, ground := Ground.data }, { on := 23, ground := Ground.chain }, { on := 17, ground := Ground.guard }], guard := some (17, false) }) rfl (fun K hK => ?_) (AllReadyH.nil)
      have CR2 := Lib.hid (Pl.rrng2 x y (HP16.out.below HBX.out) (by omega) HOKA.out (by omega) (by omega))
      unfold RangeR10 at CR2
      go_simp
      go_at_call 57
      with_reducible refine (CR2.out).mono ?_
      rintro e w129 ⟨a129, c129, rfl, ho, hbq⟩
      replace HBX := carry hbq HBX
      replace HO15 := carry hbq HO15
      replace HC123 := carry hbq HC123
      have HC129 := Lib.hid (clsAt_own ho rfl)
      clear hbq ho CR2
      go_wp2_with fail
      refine hK.out _ _ ?_ (fun hHeld => ?_)
      · exact ⟨(HD.out.below HBX.out).cell 0, (HD.out.below HBX.out).cell 1, (HD.out.below HBX.out).cell 2, (HE.out.below HBX.out).cell 0, (HE.out.below HBX.out).cell 1, (HE.out.below HBX.out).cell 2, (HRr.out.below HBX.out).cell 0, (HX16.out.below HBX.out).cell 0, (HX16.out.below HBX.out).cell 1⟩
      clear hK K
      try simp only [Act.put, List.setIfInBounds_toArray, List.set_cons_zero, List.set_cons_succ]
      refine wpAnyH_ready (rs := [30]) (by kernel_rfl) (by simp) ?_
      refine AllReadyH.cons (o := { dst := some 143, op := Op.call { callee := Callee.value (Operand.func 35), args := #[Operand.tmp 136, Operand.tmp 142], argTypes := #[22, 22] }, type := 4, pos := "law.go:46", after := #[{ on := 23, ground := Ground.data }, { on := 29, ground := Ground.data }, { on := 29, ground := Ground.chain }, { on := 17, ground := Ground.guard }], guard := some (17, false) }) rfl (fun K hK => ?_) (AllReadyH.nil)
      go_simp
      go_at_call 35
      with_reducible refine (CS2.out _ _ _ _ _ HC123.out HC129.out).mono ?_
      rintro e w130 ⟨rfl, hbq⟩
      replace HBX := carry hbq HBX
      replace HO15 := carry hbq HO15
      clear hbq
      go_wp2_with fail
      refine hK.out _ _ ?_ (fun hHeld => ?_)
      · exact ⟨(HD.out.below HBX.out).cell 0, (HD.out.below HBX.out).cell 1, (HD.out.below HBX.out).cell 2, (HE.out.below HBX.out).cell 0, (HE.out.below HBX.out).cell 1, (HE.out.below HBX.out).cell 2, (HRr.out.below HBX.out).cell 0, (HX16.out.below HBX.out).cell 0, (HX16.out.below HBX.out).cell 1⟩
      clear hK K
      try simp only [Act.put, List.setIfInBounds_toArray, List.set_cons_zero, List.set_cons_succ]
      refine wpAnyH_take (i := 31) (oi := { dst := some 144, op := Op.unOp UnOp.not 4 (Operand.tmp 143), type := 4, pos := "law.go:46", after := #[{ on := 30, ground := Ground.data }, { on := 17, ground := Ground.guard }], guard := some (17, false) }) (v := ?_) rfl (by kernel_rfl) (by kernel_rfl) (by kernel_rfl) (fun _ _ _ h => h) (Or.inl ⟨by rfl, ?_⟩) (by assumption) ?_
      rotate_left
      · (intro w hSw; (try dsimp only at hSw); go_simp); (first | done | with_reducible rfl)
      try simp only [Act.put, List.setIfInBounds_toArray, List.set_cons_zero, List.set_cons_succ]
      refine wpAnyH_take (i := 32) (oi := { dst := some 145, op := Op.pick (Operand.tmp 130) (Operand.const (Value.bool true)) (Operand.tmp 144), type := 4, pos := "law.go:46", after := #[{ on := 17, ground := Ground.data }, { on := 31, ground := Ground.data }], guard := none }) (v := ?_) rfl (by kernel_rfl) (by kernel_rfl) (by kernel_rfl) (fun _ _ _ h => h) (Or.inl ⟨by rfl, ?_⟩) (by assumption) ?_
      rotate_left
      · (intro w hSw; (try dsimp only at hSw); go_simp); (first | done | with_reducible rfl)
      refine wpAnyH_done (by kernel_rfl) ?_ _
      clear hHeld CS2
      go_wp2_with fail
      go_loopw [19] (fun v19 wr => ∃ k : Nat, k ≤ A.length ∧ v19 = .int .i64 k ∧ Hid (∀ g, a15 = some ⟨g, 0, none⟩ → RoomC (A.length * 3) wr g ∧ w14.heap.size ≤ g) ∧ Hid (Below w14.heap.size w14 wr)) (fun v _ => A.length - (intOf v).toNat)
      case atStart => exact ⟨0, by omega, rfl, Lib.hid (fun g hg => by
        have h1 := roomC_own (hg ▸ HO15.out)
        exact ⟨h1.1, h1.2.1⟩), HBX⟩
      case round =>
        clear HBX
        obtain ⟨k, hk, rfl, HGr, HBX⟩ := hrel
        by_cases hlt : k < A.length
        · have d2 : decide ((k : Int) < (A.length : Int)) = true := by simp; omega
          have hki : (k : Int) < (A.length : Int) := by omega
          obtain ⟨g, hao⟩ := ownC_addr HO15.out (by omega)
          obtain ⟨hroom, hg1⟩ := HGr.out g hao
          subst hao
          obtain ⟨v0, c0⟩ := hroom.cell (k * 3) (by omega)
          obtain ⟨v1, c1⟩ := hroom.cell (k * 3 + 1) (by omega)
          obtain ⟨v2, c2⟩ := hroom.cell (k * 3 + 2) (by omega)
          have n0 := hroom.free (k * 3)
          have n1 := hroom.free (k * 3 + 1)
          have n2 := hroom.free (k * 3 + 2)
          have HRM := Lib.hid hroom
          clear hroom
          go_wp2_with fail
          go_roundw
          case rel => exact ⟨k + 1, by omega, by go_num, Lib.hid (fun g' hg' => by
            cases hg'
            exact ⟨((HRM.out.set _ _).set _ _).set _ _, hg1⟩), Lib.hid (((HBX.out.setCell (p := ⟨g, _, none⟩) hg1 _).setCell (p := ⟨g, _, none⟩) hg1 _).setCell (p := ⟨g, _, none⟩) hg1 _)⟩
          case measure => simp [intOf]; omega
        · obtain rfl : k = A.length := by omega
          have d2 : decide ((A.length : Int) < (A.length : Int)) = false := by simp
          clear HGr HO15
          go_wp2_with fail
          refine wp_region_held_drew (S := fun V => V.cell? ⟨rb, 0, none⟩ = some (.slice aR A.length cR)) (by kernel_rfl) ?_ (fun hHeld => ?_)
          · exact (HRr.out.below HBX.out.drew).cell 0
          replace HBX := Lib.hid HBX.out.drew
          obtain ⟨wd, hwd⟩ : ∃ x, x = World.drew wr := ⟨_, rfl⟩
          rw [← hwd] at HBX hHeld ⊢
          clear hwd
          refine wpAnyH_take (i := 0) (oi := { dst := some 156, op := Op.move (Operand.tmp 7), type := 74, pos := "law.go:52", after := #[], guard := none }) (v := ?_) rfl (by kernel_rfl) (by kernel_rfl) (by kernel_rfl) (fun _ _ _ h => h) (Or.inl ⟨by rfl, ?_⟩) (by assumption) ?_
          rotate_left
          · (intro w hSw; (try dsimp only at hSw); go_simp); (first | done | with_reducible rfl)
          try simp only [Act.put, List.setIfInBounds_toArray, List.set_cons_zero, List.set_cons_succ]
          refine wpAnyH_take (i := 2) (oi := { dst := some 158, op := Op.move (Operand.tmp 8), type := 76, pos := "law.go:52", after := #[], guard := none }) (v := ?_) rfl (by kernel_rfl) (by kernel_rfl) (by kernel_rfl) (fun _ _ _ h => h) (Or.inl ⟨by rfl, ?_⟩) (by assumption) ?_
          rotate_left
          · (intro w hSw; (try dsimp only at hSw); go_simp); (first | done | with_reducible rfl)
          try simp only [Act.put, List.setIfInBounds_toArray, List.set_cons_zero, List.set_cons_succ]
          refine wpAnyH_take (i := 3) (oi := { dst := some 159, op := Op.nilCheck (Operand.tmp 158), type := 0, pos := "law.go:52", after := #[{ on := 2, ground := Ground.data }], guard := none }) (v := ?_) rfl (by kernel_rfl) (by kernel_rfl) (by kernel_rfl) (fun _ _ _ h => h) (Or.inl ⟨by rfl, ?_⟩) (by assumption) ?_
          rotate_left
          · (intro w hSw; (try dsimp only at hSw); go_simp); (first | done | with_reducible rfl)
          try simp only [Act.put, List.setIfInBounds_toArray, List.set_cons_zero, List.set_cons_succ]
          refine wpAnyH_take (i := 4) (oi := { dst := some 160, op := Op.fieldAddr 78 (Operand.tmp 159) 0, type := 0, pos := "law.go:52", after := #[{ on := 3, ground := Ground.data }], guard := none }) (v := ?_) rfl (by kernel_rfl) (by kernel_rfl) (by kernel_rfl) (fun _ _ _ h => h) (Or.inl ⟨by rfl, ?_⟩) (by assumption) ?_
          rotate_left
          · (intro w hSw; (try dsimp only at hSw); go_simp); (first | done | with_reducible rfl)
          try simp only [Act.put, List.setIfInBounds_toArray, List.set_cons_zero, List.set_cons_succ]
          refine wpAnyH_take (i := 5) (oi := { dst := some 161, op := Op.load 22 (Operand.tmp 160), type := 22, pos := "law.go:52", after := #[{ on := 4, ground := Ground.data }], guard := none }) (v := ?_) rfl (by kernel_rfl) (by kernel_rfl) (by kernel_rfl) (fun _ _ _ h => h) (Or.inl ⟨by rfl, ?_⟩) (by assumption) ?_
          rotate_left
          · (intro w hSw; (try dsimp only at hSw); go_simp); (first | done | with_reducible rfl)
          try simp only [Act.put, List.setIfInBounds_toArray, List.set_cons_zero, List.set_cons_succ]
          refine wpAnyH_ready (rs := [1]) (by kernel_rfl) (by simp) ?_
          refine AllReadyH.cons (o := { dst := some 157, op := Op.call { callee := Callee.value (Operand.func 56), args := #[Operand.tmp 156, Operand.const (Value.string { data := #[] }), Operand.const (Value.string { data := #[] })], argTypes := #[74, 9, 9] }, type := 22, pos := "law.go:52", after := #[{ on := 0, ground := Ground.data }], guard := none }) rfl (fun K hK => ?_) (AllReadyH.nil)
          have CR1 := Lib.hid (Pl.mrng (HP16.out.below HBX.out))
          unfold RangeR10 at CR1
          go_simp
          go_at_call 56
          with_reducible refine (CR1.out).mono ?_
          rintro e w201 ⟨a201, c201, rfl, ho, hbq⟩
          replace HBX := carry hbq HBX
          have HC201 := Lib.hid (clsAt_own ho rfl)
          clear hbq ho CR1
          go_wp2_with fail
          refine hK.out _ _ ?_ (fun hHeld => ?_)
          · exact (HRr.out.below HBX.out).cell 0
          clear hK K
          try simp only [Act.put, List.setIfInBounds_toArray, List.set_cons_zero, List.set_cons_succ]
          refine wpAnyH_ready (rs := [6]) (by kernel_rfl) (by simp) ?_
          refine AllReadyH.cons (o := { dst := some 162, op := Op.call { callee := Callee.value (Operand.func 35), args := #[Operand.tmp 157, Operand.tmp 161], argTypes := #[22, 22] }, type := 4, pos := "law.go:52", after := #[{ on := 1, ground := Ground.data }, { on := 5, ground := Ground.data }, { on := 1, ground := Ground.chain }], guard := none }) rfl (fun K hK => ?_) (AllReadyH.nil)
          go_simp
          go_at_call 35
          with_reducible refine (CS.out _ _ _ _ _ HC201.out (HCr.out.below HBX.out)).mono ?_
          rintro e w206 ⟨rfl, hbq⟩
          replace HBX := carry hbq HBX
          clear hbq
          go_wp2_with fail
          refine hK.out _ _ ?_ (fun hHeld => ?_)
          · exact (HRr.out.below HBX.out).cell 0
          clear hK K
          try simp only [Act.put, List.setIfInBounds_toArray, List.set_cons_zero, List.set_cons_succ]
          refine wpAnyH_take (i := 7) (oi := { dst := some 163, op := Op.move (Operand.tmp 162), type := 4, pos := "law.go:52", after := #[{ on := 6, ground := Ground.data }, { on := 6, ground := Ground.chain }], guard := none }) (v := ?_) rfl (by kernel_rfl) (by kernel_rfl) (by kernel_rfl) (fun _ _ _ h => h) (Or.inl ⟨by rfl, ?_⟩) (by assumption) ?_
          rotate_left
          · (intro w hSw; (try dsimp only at hSw); go_simp); (first | done | with_reducible rfl)
          try simp only [Act.put, List.setIfInBounds_toArray, List.set_cons_zero, List.set_cons_succ]
          refine wpAnyH_ready (rs := [8]) (by kernel_rfl) (by simp) ?_
          refine AllReadyH.cons (o := { dst := some 164, op := Op.call { callee := Callee.value (Operand.func 58), args := #[], argTypes := #[] }, type := 4, pos := "law.go:52", after := #[{ on := 7, ground := Ground.chain }, { on := 7, ground := Ground.guard }], guard := some (7, true) }) rfl (fun K hK => ?_) (AllReadyH.nil)
          go_simp
          go_at_call 58
          with_reducible refine (CD.out _).mono ?_
          rintro e w208 ⟨rfl, hbq⟩
          replace HBX := carry hbq HBX
          clear hbq
          go_wp2_with fail
          refine hK.out _ _ ?_ (fun hHeld => ?_)
          · exact (HRr.out.below HBX.out).cell 0
          clear hK K
          try simp only [Act.put, List.setIfInBounds_toArray, List.set_cons_zero, List.set_cons_succ]
          refine wpAnyH_take (i := 9) (oi := { dst := some 165, op := Op.pick (Operand.tmp 163) (Operand.tmp 164) (Operand.const (Value.bool false)), type := 4, pos := "law.go:52", after := #[{ on := 7, ground := Ground.data }, { on := 8, ground := Ground.data }], guard := none }) (v := ?_) rfl (by kernel_rfl) (by kernel_rfl) (by kernel_rfl) (fun _ _ _ h => h) (Or.inl ⟨by rfl, ?_⟩) (by assumption) ?_
          rotate_left
          · (intro w hSw; (try dsimp only at hSw); go_simp); (first | done | with_reducible rfl)
          try simp only [Act.put, List.setIfInBounds_toArray, List.set_cons_zero, List.set_cons_succ]
          refine wpAnyH_take (i := 10) (oi := { dst := some 6, op := Op.assign (Operand.tmp 165), type := 4, pos := "law.go:52", after := #[{ on := 9, ground := Ground.data }, { on := 8, ground := Ground.chain }, { on := 0, ground := Ground.phase }, { on := 1, ground := Ground.phase }, { on := 2, ground := Ground.phase }, { on := 3, ground := Ground.phase }, { on := 4, ground := Ground.phase }, { on := 5, ground := Ground.phase }, { on := 6, ground := Ground.phase }, { on := 7, ground := Ground.phase }, { on := 8, ground := Ground.phase }, { on := 9, ground := Ground.phase }], guard := none }) (v := ?_) rfl (by kernel_rfl) (by kernel_rfl) (by kernel_rfl) (fun _ _ _ h => h) (Or.inl ⟨by rfl, ?_⟩) (by assumption) ?_
          rotate_left
          · (intro w hSw; (try dsimp only at hSw); go_simp); (first | done | with_reducible rfl)
          refine wpAnyH_done (by kernel_rfl) ?_ _
          clear hHeld
          go_wp2_with fail
          go_ret
          exact ⟨rfl, below_step (below_step HBW.out HB.out) HBX.out⟩

end Go.Proofs.Ythidmgnfdikppaa
