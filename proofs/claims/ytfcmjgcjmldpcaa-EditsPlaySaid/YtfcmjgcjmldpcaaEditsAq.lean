/- Layer 16: EditsPlay (genplay.py). -/
import Derived.Test.YtfcmjgcjmldpcaaEditsAp
import Derived.Deep.RegionHeld
import Derived.Deep.CutRange
namespace Go.Proofs.Ytfcmjgcjmldpcaa
set_option linter.unusedVariables false
set_option linter.unusedSimpArgs false
open Go Go.RowKit
attribute [local go_sem ↓] run_index_S
attribute [local go_sem] S_append S_extract

set_option maxHeartbeats 8000000 in
set_option maxRecDepth 100000 in
theorem editsPlay_calls (W : World) (v : Value) (hv : UEds W v) :
    Calls Try.prog 4 #[v] W fun e w' => e = .returned (.bool true) ∧ Below W.heap.size W w' := by
  obtain ⟨L, lo, lc, rfl, hin, hN⟩ := hv
  have HIN := Lib.hid hin
  have HN := Lib.hid hN
  have CB := Lib.hid (beyond16_any L hin.ok lo lc 40 W hN)
  have hLn := hin.n
  have CL := Lib.hid lives16_any
  have CF := Lib.hid first16_own
  clear hin hN
  go_enter Try.func4, Try.ntmps4
  go_wp2_with fail
  with_reducible refine (CB.out).mono ?_
  rintro e w1 ⟨rfl | ⟨rfl, hn40, hsm⟩, rfl⟩
  · go_wp2_with fail
    with_reducible refine (CL.out _).mono ?_
    rintro e w2 ⟨rfl, hb⟩
    have HB := Lib.hid hb
    clear hb
    go_wp2_with fail
    go_ret
    exact ⟨rfl, HB.out⟩
  have HRI := Lib.hid (resIn_of HIN.out hn40 hsm)
  have HSM := Lib.hid hsm
  clear hsm
  have C0 := Lib.hid (CF.out W)
  go_wp2_with fail
  with_reducible refine (C0.out).mono ?_
  rintro e w1 ⟨g, cap, rfl, hT⟩
  have hb1 := hT.bel
  have HT1 := Lib.hid hT
  clear hT
  have hT := bkIn_at #[.string ⟨#[]⟩, .slice none 0 0] 41 (w := w1) (n := w1.heap.size) rfl
  have hba1 := (Below.refl w1.heap.size w1).alloc (Nat.le_refl _) (.cells #[.string ⟨#[]⟩, .slice none 0 0] 41)
  have hba2 := (Below.refl (w1.alloc (.cells #[.string ⟨#[]⟩, .slice none 0 0] 41)).heap.size (w1.alloc (.cells #[.string ⟨#[]⟩, .slice none 0 0] 41))).alloc (Nat.le_refl _) (.cells #[.slice (some ⟨g, 0, none⟩) 1 cap, .int .i64 1, .int .i64 2] 24)
  have hba3 := (Below.refl ((w1.alloc (.cells #[.string ⟨#[]⟩, .slice none 0 0] 41)).alloc (.cells #[.slice (some ⟨g, 0, none⟩) 1 cap, .int .i64 1, .int .i64 2] 24)).heap.size ((w1.alloc (.cells #[.string ⟨#[]⟩, .slice none 0 0] 41)).alloc (.cells #[.slice (some ⟨g, 0, none⟩) 1 cap, .int .i64 1, .int .i64 2] 24))).alloc (Nat.le_refl _) (.cells #[.slice (some ⟨w1.heap.size, 0, none⟩) 1 1, .int .i64 1, .int .i64 2] 24)
  have hb4 : Below w1.heap.size w1 (((w1.alloc (.cells #[.string ⟨#[]⟩, .slice none 0 0] 41)).alloc (.cells #[.slice (some ⟨g, 0, none⟩) 1 cap, .int .i64 1, .int .i64 2] 24)).alloc (.cells #[.slice (some ⟨w1.heap.size, 0, none⟩) 1 1, .int .i64 1, .int .i64 2] 24)) := below_step (below_step hba1 hba2) hba3
  have HI0 := Lib.hid (show One16 W (w1.heap.size + 1) Ed.first [rt0] g cap (((w1.alloc (.cells #[.string ⟨#[]⟩, .slice none 0 0] 41)).alloc (.cells #[.slice (some ⟨g, 0, none⟩) 1 cap, .int .i64 1, .int .i64 2] 24)).alloc (.cells #[.slice (some ⟨w1.heap.size, 0, none⟩) 1 1, .int .i64 1, .int .i64 2] 24)) from
    ⟨(bkIn_at _ _ (by simp)).below hba3, HT1.out.below hb4, rfl, Ed.ok_first, by have := hb1.size; omega⟩)
  have HJ0 := Lib.hid (show One16 W (w1.heap.size + 1 + 1) Ed.first [rt0] w1.heap.size 1 (((w1.alloc (.cells #[.string ⟨#[]⟩, .slice none 0 0] 41)).alloc (.cells #[.slice (some ⟨g, 0, none⟩) 1 cap, .int .i64 1, .int .i64 2] 24)).alloc (.cells #[.slice (some ⟨w1.heap.size, 0, none⟩) 1 1, .int .i64 1, .int .i64 2] 24)) from
    ⟨bkIn_at _ _ (by simp), (show Own16 W w1.heap.size 1 [rt0] (w1.alloc (.cells #[.string ⟨#[]⟩, .slice none 0 0] 41)) from ⟨⟨rfl, .inr ⟨w1.heap.size, 1, #[.string ⟨#[]⟩, .slice none 0 0], rfl, hb1.size, hT, Nat.le_refl _, by unfold maxLen; omega, rfl, rfl⟩⟩, fun r hr => by rw [List.mem_singleton.1 hr]; exact World.ownsRow_nil _ _ _ _, below_step hb1 hba1⟩).below (below_step hba2 hba3), rfl, Ed.ok_first, by have := hb1.size; omega⟩)
  have HD0 := Lib.hid (show DnI W [] none 0 (((w1.alloc (.cells #[.string ⟨#[]⟩, .slice none 0 0] 41)).alloc (.cells #[.slice (some ⟨g, 0, none⟩) 1 cap, .int .i64 1, .int .i64 2] 24)).alloc (.cells #[.slice (some ⟨w1.heap.size, 0, none⟩) 1 1, .int .i64 1, .int .i64 2] 24)) from ⟨World.ownsRow_nil _ _ _ _, fun r hr => by simp at hr, below_step hb1 hb4⟩)
  have HBS := Lib.hid (show W.heap.size ≤ w1.heap.size + 1 ∧ w1.heap.size + 1 ≠ w1.heap.size + 1 + 1 from ⟨by have := hb1.size; omega, by omega⟩)
  clear hT hba1 hba2 hba3 hb4 HT1 hb1 C0 CB
  go_wp2_with fail
  generalize (((w1.alloc (.cells #[.string ⟨#[]⟩, .slice none 0 0] 41)).alloc (.cells #[.slice (some ⟨g, 0, none⟩) 1 cap, .int .i64 1, .int .i64 2] 24)).alloc (.cells #[.slice (some ⟨w1.heap.size, 0, none⟩) 1 1, .int .i64 1, .int .i64 2] 24)) = w4 at *
  generalize hBs : w1.heap.size + 1 = Bs at *
  clear hBs
  generalize hBw : Bs + 1 = Bw at *
  clear hBw
  go_loopw [5, 6] (fun dv i wr => ∃ (k : Nat) (s : Ed.St) (R5 : List Rt) (g5 c5 : Nat) (R7 : List Rt) (g7 c7 : Nat) (D : List Re) (ad : Option Addr) (cd : Nat), k ≤ L.length ∧ i = .int .i64 k ∧ dv = .slice ad D.length cd ∧ D.length ≤ k ∧ Hid (One16 W Bs s R5 g5 c5 wr) ∧ Hid (One16 W Bw s R7 g7 c7 wr) ∧ Hid (DnI W D ad cd wr) ∧ Hid (∀ r, r ∈ D → r ∈ L) ∧ Hid (Ed.all Ed.first (eds D) = some s)) (fun dv i _ => L.length - (intOf i).toNat)
  case atStart => exact ⟨0, Ed.first, [rt0], g, cap, [rt0], _, 1, [], none, 0, Nat.zero_le _, rfl, rfl, Nat.zero_le _, HI0, HJ0, HD0, Lib.hid (fun r hr => by simp at hr), Lib.hid rfl⟩
  case round =>
    obtain ⟨k, s, R5, g5, c5, R7, g7, c7, D, ad, cd, hk, rfl, rfl, hdk, HI, HJ, HD, HDL, HAL⟩ := hrel
    clear HI0 HJ0 HD0
    by_cases hlt : k < L.length
    · have hki : (k : Int) < (L.length : Int) := by omega
      obtain ⟨gl, oy0, rfl, hc⟩ := (HN.out.below HI.out.bel).off k hlt
      have HYA := Lib.hid (show ∀ x, Below W.heap.size W x → EdAt x gl (oy0 + k * 5) (L.getD k re0) from fun x hx => by
        obtain ⟨g', o', e, h⟩ := (HN.out.below hx).off k hlt
        cases e
        exact h)
      have HYW := Lib.hid (show NsAt W (L.getD k re0).o (L.getD k re0).fs from by
        obtain ⟨g', o', e, h⟩ := HN.out.off k hlt
        exact h.2.2.2.2.2)
      have HYL := Lib.hid (Ed.gD_mem (d := re0) hlt)
      have HLk := Lib.hid (HRI.out.2 _ (Ed.gD_mem (d := re0) hlt))
      have HLT := Lib.hid hlt
      generalize L.getD k re0 = y at *
      obtain ⟨kind, at_, file, fs, fo, fk, key⟩ := y
      have HYk := Lib.hid hc
      have hlk := HLk.out
      simp only at hlk
      have CA := Lib.hid (show ∀ x, Below wr.heap.size wr x → Calls Try.prog 12 #[.agg #[.slice (some ⟨g5, 0, none⟩) R5.length c5, .int .i64 s.log, .int .i64 s.next], .agg #[.int .i64 kind, .int .i64 at_, .int .i64 file, .slice fo fs.length fk, .string (S key)]] x (ApplyU s ⟨kind, at_, file, fs, fo, fk, key⟩ x) from fun x hx => by
        have := applyU_any R5 HI.out.small (some ⟨g5, 0, none⟩) c5 s.log s.next ⟨kind, at_, file, fs, fo, fk, key⟩ hlk.1 hlk.2.1 hlk.2.2 x ((HI.out.below hx).at_) ((HYk.out.below hx).2.2.2.2.2)
        rwa [HI.out.st] at this)
      clear hc hlt
      go_wp2_with fail
      have HSX := Lib.hid (show ∀ x, Below wr.heap.size wr x → x.cell? ⟨Bs, 0, none⟩ = some (.slice (some ⟨g5, 0, none⟩) R5.length c5) ∧ x.cell? ⟨Bs, 1, none⟩ = some (.int .i64 s.log) ∧ x.cell? ⟨Bs, 2, none⟩ = some (.int .i64 s.next) ∧ x.cell? ⟨gl, oy0 + k * 5, none⟩ = some (.int .i64 kind) ∧ x.cell? ⟨gl, oy0 + k * 5 + 1, none⟩ = some (.int .i64 at_) ∧ x.cell? ⟨gl, oy0 + k * 5 + 2, none⟩ = some (.int .i64 file) ∧ x.cell? ⟨gl, oy0 + k * 5 + 3, none⟩ = some (.slice fo fs.length fk) ∧ x.cell? ⟨gl, oy0 + k * 5 + 4, none⟩ = some (.string (S key)) from fun x hx => s8_of HI.out HYk.out hx)
      go_cut [7, 8] from 22 to 62 (fun p q wx => ∃ nb bo, p = .pointer (some ⟨nb, 0, none⟩) ∧ q = .bool bo ∧ Hid (Below wr.heap.size wr wx) ∧ Hid (wr.heap.size ≤ nb) ∧ Hid (Nw16 W nb s (⟨kind, at_, file, fs, fo, fk, key⟩ : Re).ed bo wx))
      case first =>
        have HB := Lib.hid (Below.refl wr.heap.size wr)
        refine wp_region_held_drew (S := fun V => V.cell? ⟨Bs, 0, none⟩ = some (.slice (some ⟨g5, 0, none⟩) R5.length c5) ∧ V.cell? ⟨Bs, 1, none⟩ = some (.int .i64 s.log) ∧ V.cell? ⟨Bs, 2, none⟩ = some (.int .i64 s.next) ∧ V.cell? ⟨gl, oy0 + k * 5, none⟩ = some (.int .i64 kind) ∧ V.cell? ⟨gl, oy0 + k * 5 + 1, none⟩ = some (.int .i64 at_) ∧ V.cell? ⟨gl, oy0 + k * 5 + 2, none⟩ = some (.int .i64 file) ∧ V.cell? ⟨gl, oy0 + k * 5 + 3, none⟩ = some (.slice fo fs.length fk) ∧ V.cell? ⟨gl, oy0 + k * 5 + 4, none⟩ = some (.string (S key))) (by kernel_rfl) ?_ (fun hHeld => ?_)
        · exact HSX.out _ HB.out.drew
        replace HB := Lib.hid HB.out.drew
        obtain ⟨wd, hwd⟩ : ∃ x, x = World.drew wr := ⟨_, rfl⟩
        rw [← hwd] at HB hHeld ⊢
        clear hwd
        refine wpAnyH_take (i := 0) (oi := { dst := some 29, op := Op.load 24 (Operand.tmp 3), type := 24, pos := "law.go:80", after := #[], guard := none }) (v := ?_) rfl (by kernel_rfl) (by kernel_rfl) (by kernel_rfl) (fun _ _ _ h => h) (Or.inl ⟨by rfl, ?_⟩) (by assumption) ?_
        rotate_left
        · (intro w hSw; (try dsimp only at hSw); go_simp); (first | done | with_reducible rfl)
        try simp only [Act.put, List.setIfInBounds_toArray, List.set_cons_zero, List.set_cons_succ]
        refine wpAnyH_take (i := 1) (oi := { dst := some 30, op := Op.move (Operand.tmp 0), type := 30, pos := "law.go:80", after := #[], guard := none }) (v := ?_) rfl (by kernel_rfl) (by kernel_rfl) (by kernel_rfl) (fun _ _ _ h => h) (Or.inl ⟨by rfl, ?_⟩) (by assumption) ?_
        rotate_left
        · (intro w hSw; (try dsimp only at hSw); go_simp); (first | done | with_reducible rfl)
        try simp only [Act.put, List.setIfInBounds_toArray, List.set_cons_zero, List.set_cons_succ]
        refine wpAnyH_take (i := 2) (oi := { dst := some 31, op := Op.move (Operand.tmp 6), type := 3, pos := "law.go:80", after := #[], guard := none }) (v := ?_) rfl (by kernel_rfl) (by kernel_rfl) (by kernel_rfl) (fun _ _ _ h => h) (Or.inl ⟨by rfl, ?_⟩) (by assumption) ?_
        rotate_left
        · (intro w hSw; (try dsimp only at hSw); go_simp); (first | done | with_reducible rfl)
        try simp only [Act.put, List.setIfInBounds_toArray, List.set_cons_zero, List.set_cons_succ]
        refine wpAnyH_take (i := 3) (oi := { dst := some 32, op := Op.indexAddr 30 (Operand.tmp 30) (Operand.tmp 31), type := 0, pos := "law.go:80", after := #[{ on := 1, ground := Ground.data }, { on := 2, ground := Ground.data }], guard := none }) (v := ?_) rfl (by kernel_rfl) (by kernel_rfl) (by kernel_rfl) (fun _ _ _ h => h) (Or.inl ⟨by rfl, ?_⟩) (by assumption) ?_
        rotate_left
        · (intro w hSw; (try dsimp only at hSw); go_simp); (first | done | with_reducible rfl)
        try simp only [Act.put, List.setIfInBounds_toArray, List.set_cons_zero, List.set_cons_succ]
        refine wpAnyH_take (i := 4) (oi := { dst := some 33, op := Op.load 27 (Operand.tmp 32), type := 27, pos := "law.go:80", after := #[{ on := 3, ground := Ground.data }], guard := none }) (v := ?_) rfl (by kernel_rfl) (by kernel_rfl) (by kernel_rfl) (fun _ _ _ h => h) (Or.inl ⟨by rfl, ?_⟩) (by assumption) ?_
        rotate_left
        · (intro w hSw; (try dsimp only at hSw); go_simp); (first | done | with_reducible rfl)
        try simp only [Act.put, List.setIfInBounds_toArray, List.set_cons_zero, List.set_cons_succ]
        refine wpAnyH_ready (rs := [5, 9]) (by kernel_rfl) (by simp) ?_
        refine AllReadyH.cons (o := { dst := some 34, op := Op.call { callee := Callee.value (Operand.func 12), args := #[Operand.tmp 29, Operand.tmp 33], argTypes := #[24, 27] }, type := 32, pos := "law.go:80", after := #[{ on := 0, ground := Ground.data }, { on := 4, ground := Ground.data }], guard := none }) rfl (fun K hK => ?_) (AllReadyH.cons (o := { dst := some 7, op := Op.alloc 24, type := 0, pos := "law.go:80", after := #[], guard := none }) rfl (fun K hK => ?_) (AllReadyH.nil))
        · have CJ := Lib.hid (CA.out _ HB.out)
          go_simp
          go_at_call 12
          with_reducible refine (CJ.out).mono ?_
          rintro e w6 ⟨a6, n6, c6, lg6, nx6, bo, rfl, hb6, hr6⟩
          have HR := Lib.hid (hr6.rebase (HI.out.bel.trans (HB.out.mono HI.out.bel.size)))
          replace HB := Lib.hid (below_step HB.out hb6)
          clear hb6 hr6 CJ
          go_wp2_with fail
          refine hK.out _ _ ?_ (fun hHeld => ?_)
          · exact HSX.out _ HB.out
          clear hK K
          try simp only [Act.put, List.setIfInBounds_toArray, List.set_cons_zero, List.set_cons_succ]
          refine wpAnyH_take (i := 6) (oi := { dst := some 28, op := Op.move (Operand.tmp 34), type := 32, pos := "law.go:80", after := #[{ on := 5, ground := Ground.data }], guard := none }) (v := ?_) rfl (by kernel_rfl) (by kernel_rfl) (by kernel_rfl) (fun _ _ _ h => h) (Or.inl ⟨by rfl, ?_⟩) (by assumption) ?_
          rotate_left
          · (intro w hSw; (try dsimp only at hSw); go_simp); (first | done | with_reducible rfl)
          try simp only [Act.put, List.setIfInBounds_toArray, List.set_cons_zero, List.set_cons_succ]
          refine wpAnyH_take (i := 7) (oi := { dst := some 35, op := Op.extract (Operand.tmp 28) 0, type := 24, pos := "law.go:80", after := #[{ on := 6, ground := Ground.data }], guard := none }) (v := ?_) rfl (by kernel_rfl) (by kernel_rfl) (by kernel_rfl) (fun _ _ _ h => h) (Or.inl ⟨by rfl, ?_⟩) (by assumption) ?_
          rotate_left
          · (intro w hSw; (try dsimp only at hSw); go_simp); (first | done | with_reducible rfl)
          try simp only [Act.put, List.setIfInBounds_toArray, List.set_cons_zero, List.set_cons_succ]
          refine wpAnyH_take (i := 8) (oi := { dst := some 36, op := Op.extract (Operand.tmp 28) 1, type := 4, pos := "law.go:80", after := #[{ on := 6, ground := Ground.data }, { on := 10, ground := Ground.gcOnly Departure.lateStores }], guard := none }) (v := ?_) rfl (by kernel_rfl) (by kernel_rfl) (by kernel_rfl) (fun _ _ _ h => h) (Or.inl ⟨by rfl, ?_⟩) (by assumption) ?_
          rotate_left
          · (intro w hSw; (try dsimp only at hSw); go_simp); (first | done | with_reducible rfl)
          try simp only [Act.put, List.setIfInBounds_toArray, List.set_cons_zero, List.set_cons_succ]
          refine wpAnyH_ready (rs := [9]) (by kernel_rfl) (by simp) ?_
          refine AllReadyH.cons (o := { dst := some 7, op := Op.alloc 24, type := 0, pos := "law.go:80", after := #[], guard := none }) rfl (fun K hK => ?_) (AllReadyH.nil)
          go_simp
          have hba := (Below.refl w6.heap.size w6).alloc (Nat.le_refl _) (.cells #[.slice none 0 0, .int .i64 0, .int .i64 0] 24)
          have HZ := Lib.hid (bkIn_new stZ 24 w6)
          unfold stZ at HZ
          have HNB := Lib.hid (show wr.heap.size ≤ w6.heap.size from HB.out.size)
          replace HR := Lib.hid (HR.out.below hba)
          replace HB := Lib.hid (below_step HB.out hba)
          clear hba
          generalize hnb : w6.heap.size = nb at *
          clear hnb
          generalize w6.alloc (.cells #[.slice none 0 0, .int .i64 0, .int .i64 0] 24) = wa at *
          refine hK.out _ _ ?_ (fun hHeld => ?_)
          · exact HSX.out _ HB.out
          clear hK K
          try simp only [Act.put, List.setIfInBounds_toArray, List.set_cons_zero, List.set_cons_succ]
          refine wpAnyH_ready (rs := [10]) (by kernel_rfl) (by simp) ?_
          refine AllReadyH.cons (o := { dst := none, op := Op.store 24 (Operand.tmp 7) (Operand.tmp 35), type := 0, pos := "law.go:80", after := #[{ on := 9, ground := Ground.data }, { on := 7, ground := Ground.data }, { on := 5, ground := Ground.chain }, { on := 0, ground := Ground.phase }, { on := 1, ground := Ground.phase }, { on := 2, ground := Ground.phase }, { on := 3, ground := Ground.phase }, { on := 4, ground := Ground.phase }, { on := 5, ground := Ground.phase }, { on := 6, ground := Ground.phase }, { on := 7, ground := Ground.phase }, { on := 8, ground := Ground.textOnly Departure.lateStores }, { on := 9, ground := Ground.phase }], guard := none }) rfl (fun K hK => ?_) (AllReadyH.nil)
          refine step_store_row16 (by rfl) 24 _ _ (by rfl) nb #[.slice a6 n6 c6, .int .i64 lg6, .int .i64 nx6] (by rfl) (by rfl) 24 _ HZ.out infoSt_size rfl (by simp [Value.oneCell']) ?_
          have HNW := Lib.hid (HR.out.put HZ.out (Nat.le_trans HI.out.bel.size HNB.out))
          replace HB := Lib.hid (below_row16 HB.out HNB.out (stA a6 n6 c6 lg6 nx6))
          unfold stA at HNW HB
          generalize wa.setRow nb #[.slice a6 n6 c6, .int .i64 lg6, .int .i64 nx6] = w8 at *
          refine hK.out _ _ ?_ (fun hHeld => ?_)
          · exact HSX.out _ HB.out
          clear hK K
          try simp only [Act.put, List.setIfInBounds_toArray, List.set_cons_zero, List.set_cons_succ]
          refine wpAnyH_take (i := 11) (oi := { dst := some 8, op := Op.assign (Operand.tmp 36), type := 4, pos := "law.go:80", after := #[{ on := 8, ground := Ground.data }, { on := 10, ground := Ground.chain }, { on := 0, ground := Ground.phase }, { on := 1, ground := Ground.phase }, { on := 2, ground := Ground.phase }, { on := 3, ground := Ground.phase }, { on := 4, ground := Ground.phase }, { on := 5, ground := Ground.phase }, { on := 6, ground := Ground.phase }, { on := 7, ground := Ground.phase }, { on := 8, ground := Ground.phase }, { on := 9, ground := Ground.phase }, { on := 10, ground := Ground.phase }], guard := none }) (v := ?_) rfl (by kernel_rfl) (by kernel_rfl) (by kernel_rfl) (fun _ _ _ h => h) (Or.inl ⟨by rfl, ?_⟩) (by assumption) ?_
          rotate_left
          · (intro w hSw; (try dsimp only at hSw); go_simp); (first | done | with_reducible rfl)
          refine wpAnyH_done (by kernel_rfl) ?_ _
          go_wp2_with fail
          go_meet
          case rel => exact ⟨nb, bo, rfl, rfl, HB, HNB, HNW⟩
        · go_simp
          have hba := (Below.refl wd.heap.size wd).alloc (Nat.le_refl _) (.cells #[.slice none 0 0, .int .i64 0, .int .i64 0] 24)
          have HZ := Lib.hid (bkIn_new stZ 24 wd)
          unfold stZ at HZ
          have HNB := Lib.hid (show wr.heap.size ≤ wd.heap.size from HB.out.size)
          replace HB := Lib.hid (below_step HB.out hba)
          clear hba
          generalize hnb : wd.heap.size = nb at *
          clear hnb
          generalize wd.alloc (.cells #[.slice none 0 0, .int .i64 0, .int .i64 0] 24) = wa at *
          refine hK.out _ _ ?_ (fun hHeld => ?_)
          · exact HSX.out _ HB.out
          clear hK K
          try simp only [Act.put, List.setIfInBounds_toArray, List.set_cons_zero, List.set_cons_succ]
          refine wpAnyH_ready (rs := [5]) (by kernel_rfl) (by simp) ?_
          refine AllReadyH.cons (o := { dst := some 34, op := Op.call { callee := Callee.value (Operand.func 12), args := #[Operand.tmp 29, Operand.tmp 33], argTypes := #[24, 27] }, type := 32, pos := "law.go:80", after := #[{ on := 0, ground := Ground.data }, { on := 4, ground := Ground.data }], guard := none }) rfl (fun K hK => ?_) (AllReadyH.nil)
          have CJ := Lib.hid (CA.out _ HB.out)
          go_simp
          go_at_call 12
          with_reducible refine (CJ.out).mono ?_
          rintro e w6 ⟨a6, n6, c6, lg6, nx6, bo, rfl, hb6, hr6⟩
          have HR := Lib.hid (hr6.rebase (HI.out.bel.trans (HB.out.mono HI.out.bel.size)))
          replace HZ := Lib.hid (HZ.out.below hb6)
          replace HB := Lib.hid (below_step HB.out hb6)
          clear hb6 hr6 CJ
          go_wp2_with fail
          refine hK.out _ _ ?_ (fun hHeld => ?_)
          · exact HSX.out _ HB.out
          clear hK K
          try simp only [Act.put, List.setIfInBounds_toArray, List.set_cons_zero, List.set_cons_succ]
          refine wpAnyH_take (i := 6) (oi := { dst := some 28, op := Op.move (Operand.tmp 34), type := 32, pos := "law.go:80", after := #[{ on := 5, ground := Ground.data }], guard := none }) (v := ?_) rfl (by kernel_rfl) (by kernel_rfl) (by kernel_rfl) (fun _ _ _ h => h) (Or.inl ⟨by rfl, ?_⟩) (by assumption) ?_
          rotate_left
          · (intro w hSw; (try dsimp only at hSw); go_simp); (first | done | with_reducible rfl)
          try simp only [Act.put, List.setIfInBounds_toArray, List.set_cons_zero, List.set_cons_succ]
          refine wpAnyH_take (i := 7) (oi := { dst := some 35, op := Op.extract (Operand.tmp 28) 0, type := 24, pos := "law.go:80", after := #[{ on := 6, ground := Ground.data }], guard := none }) (v := ?_) rfl (by kernel_rfl) (by kernel_rfl) (by kernel_rfl) (fun _ _ _ h => h) (Or.inl ⟨by rfl, ?_⟩) (by assumption) ?_
          rotate_left
          · (intro w hSw; (try dsimp only at hSw); go_simp); (first | done | with_reducible rfl)
          try simp only [Act.put, List.setIfInBounds_toArray, List.set_cons_zero, List.set_cons_succ]
          refine wpAnyH_take (i := 8) (oi := { dst := some 36, op := Op.extract (Operand.tmp 28) 1, type := 4, pos := "law.go:80", after := #[{ on := 6, ground := Ground.data }, { on := 10, ground := Ground.gcOnly Departure.lateStores }], guard := none }) (v := ?_) rfl (by kernel_rfl) (by kernel_rfl) (by kernel_rfl) (fun _ _ _ h => h) (Or.inl ⟨by rfl, ?_⟩) (by assumption) ?_
          rotate_left
          · (intro w hSw; (try dsimp only at hSw); go_simp); (first | done | with_reducible rfl)
          try simp only [Act.put, List.setIfInBounds_toArray, List.set_cons_zero, List.set_cons_succ]
          refine wpAnyH_ready (rs := [10]) (by kernel_rfl) (by simp) ?_
          refine AllReadyH.cons (o := { dst := none, op := Op.store 24 (Operand.tmp 7) (Operand.tmp 35), type := 0, pos := "law.go:80", after := #[{ on := 9, ground := Ground.data }, { on := 7, ground := Ground.data }, { on := 5, ground := Ground.chain }, { on := 0, ground := Ground.phase }, { on := 1, ground := Ground.phase }, { on := 2, ground := Ground.phase }, { on := 3, ground := Ground.phase }, { on := 4, ground := Ground.phase }, { on := 5, ground := Ground.phase }, { on := 6, ground := Ground.phase }, { on := 7, ground := Ground.phase }, { on := 8, ground := Ground.textOnly Departure.lateStores }, { on := 9, ground := Ground.phase }], guard := none }) rfl (fun K hK => ?_) (AllReadyH.nil)
          refine step_store_row16 (by rfl) 24 _ _ (by rfl) nb #[.slice a6 n6 c6, .int .i64 lg6, .int .i64 nx6] (by rfl) (by rfl) 24 _ HZ.out infoSt_size rfl (by simp [Value.oneCell']) ?_
          have HNW := Lib.hid (HR.out.put HZ.out (Nat.le_trans HI.out.bel.size HNB.out))
          replace HB := Lib.hid (below_row16 HB.out HNB.out (stA a6 n6 c6 lg6 nx6))
          unfold stA at HNW HB
          generalize w6.setRow nb #[.slice a6 n6 c6, .int .i64 lg6, .int .i64 nx6] = w8 at *
          refine hK.out _ _ ?_ (fun hHeld => ?_)
          · exact HSX.out _ HB.out
          clear hK K
          try simp only [Act.put, List.setIfInBounds_toArray, List.set_cons_zero, List.set_cons_succ]
          refine wpAnyH_take (i := 11) (oi := { dst := some 8, op := Op.assign (Operand.tmp 36), type := 4, pos := "law.go:80", after := #[{ on := 8, ground := Ground.data }, { on := 10, ground := Ground.chain }, { on := 0, ground := Ground.phase }, { on := 1, ground := Ground.phase }, { on := 2, ground := Ground.phase }, { on := 3, ground := Ground.phase }, { on := 4, ground := Ground.phase }, { on := 5, ground := Ground.phase }, { on := 6, ground := Ground.phase }, { on := 7, ground := Ground.phase }, { on := 8, ground := Ground.phase }, { on := 9, ground := Ground.phase }, { on := 10, ground := Ground.phase }], guard := none }) (v := ?_) rfl (by kernel_rfl) (by kernel_rfl) (by kernel_rfl) (fun _ _ _ h => h) (Or.inl ⟨by rfl, ?_⟩) (by assumption) ?_
          rotate_left
          · (intro w hSw; (try dsimp only at hSw); go_simp); (first | done | with_reducible rfl)
          refine wpAnyH_done (by kernel_rfl) ?_ _
          go_wp2_with fail
          go_meet
          case rel => exact ⟨nb, bo, rfl, rfl, HB, HNB, HNW⟩
      case rest =>
      rename World => wm
      obtain ⟨nb, bo, rfl, rfl, HBx, HNB, HNW⟩ := hcut
      have HN0 := Lib.hid (show W.heap.size ≤ nb from Nat.le_trans HI.out.bel.size HNB.out)
      have HLTs := Lib.hid (show Bs < nb ∧ Bw < nb from ⟨Nat.lt_of_lt_of_le HI.out.bx.lt HNB.out, Nat.lt_of_lt_of_le HJ.out.bx.lt HNB.out⟩)
      replace HI := Lib.hid (HI.out.below HBx.out)
      replace HJ := Lib.hid (HJ.out.below HBx.out)
      replace HD := Lib.hid (HD.out.below HBx.out)
      replace HYk := Lib.hid (HYk.out.below HBx.out)
      clear CA HSX HNB
      have HNBL := Lib.hid (show nb < wm.heap.size from by obtain ⟨_, _, _, _, _, h1, _⟩ := HNW.out; exact h1.lt)
      have CA := Lib.hid (show ∀ x, Below wm.heap.size wm x → Calls Try.prog 13 #[.agg #[.slice (some ⟨g7, 0, none⟩) R7.length c7, .int .i64 s.log, .int .i64 s.next], .agg #[.int .i64 kind, .int .i64 at_, .int .i64 file, .slice fo fs.length fk, .string (S key)]] x (ApplyU s ⟨kind, at_, file, fs, fo, fk, key⟩ x) from fun x hx => by
        have := refApplyU_any R7 HJ.out.small (some ⟨g7, 0, none⟩) c7 s.log s.next ⟨kind, at_, file, fs, fo, fk, key⟩ hlk.1 hlk.2.1 hlk.2.2 HJ.out.cap x ((HJ.out.below hx).at_) ((HYk.out.below hx).2.2.2.2.2)
        rwa [HJ.out.st] at this)
      go_wp2_with fail
      have HSX := Lib.hid (show ∀ x, Below wm.heap.size wm x → x.cell? ⟨Bw, 0, none⟩ = some (.slice (some ⟨g7, 0, none⟩) R7.length c7) ∧ x.cell? ⟨Bw, 1, none⟩ = some (.int .i64 s.log) ∧ x.cell? ⟨Bw, 2, none⟩ = some (.int .i64 s.next) ∧ x.cell? ⟨gl, oy0 + k * 5, none⟩ = some (.int .i64 kind) ∧ x.cell? ⟨gl, oy0 + k * 5 + 1, none⟩ = some (.int .i64 at_) ∧ x.cell? ⟨gl, oy0 + k * 5 + 2, none⟩ = some (.int .i64 file) ∧ x.cell? ⟨gl, oy0 + k * 5 + 3, none⟩ = some (.slice fo fs.length fk) ∧ x.cell? ⟨gl, oy0 + k * 5 + 4, none⟩ = some (.string (S key)) from fun x hx => s8_of HJ.out HYk.out hx)
      go_cut [9, 10] from 22 to 62 (fun p q wx => ∃ nb bo, p = .pointer (some ⟨nb, 0, none⟩) ∧ q = .bool bo ∧ Hid (Below wm.heap.size wm wx) ∧ Hid (wm.heap.size ≤ nb) ∧ Hid (Nw16 W nb s (⟨kind, at_, file, fs, fo, fk, key⟩ : Re).ed bo wx))
      case first =>
        have HB := Lib.hid (Below.refl wm.heap.size wm)
        refine wp_region_held_drew (S := fun V => V.cell? ⟨Bw, 0, none⟩ = some (.slice (some ⟨g7, 0, none⟩) R7.length c7) ∧ V.cell? ⟨Bw, 1, none⟩ = some (.int .i64 s.log) ∧ V.cell? ⟨Bw, 2, none⟩ = some (.int .i64 s.next) ∧ V.cell? ⟨gl, oy0 + k * 5, none⟩ = some (.int .i64 kind) ∧ V.cell? ⟨gl, oy0 + k * 5 + 1, none⟩ = some (.int .i64 at_) ∧ V.cell? ⟨gl, oy0 + k * 5 + 2, none⟩ = some (.int .i64 file) ∧ V.cell? ⟨gl, oy0 + k * 5 + 3, none⟩ = some (.slice fo fs.length fk) ∧ V.cell? ⟨gl, oy0 + k * 5 + 4, none⟩ = some (.string (S key))) (by kernel_rfl) ?_ (fun hHeld => ?_)
        · exact HSX.out _ HB.out.drew
        replace HB := Lib.hid HB.out.drew
        obtain ⟨wd, hwd⟩ : ∃ x, x = World.drew wm := ⟨_, rfl⟩
        rw [← hwd] at HB hHeld ⊢
        clear hwd
        refine wpAnyH_take (i := 0) (oi := { dst := some 38, op := Op.load 24 (Operand.tmp 4), type := 24, pos := "law.go:81", after := #[], guard := none }) (v := ?_) rfl (by kernel_rfl) (by kernel_rfl) (by kernel_rfl) (fun _ _ _ h => h) (Or.inl ⟨by rfl, ?_⟩) (by assumption) ?_
        rotate_left
        · (intro w hSw; (try dsimp only at hSw); go_simp); (first | done | with_reducible rfl)
        try simp only [Act.put, List.setIfInBounds_toArray, List.set_cons_zero, List.set_cons_succ]
        refine wpAnyH_take (i := 1) (oi := { dst := some 39, op := Op.move (Operand.tmp 0), type := 30, pos := "law.go:81", after := #[], guard := none }) (v := ?_) rfl (by kernel_rfl) (by kernel_rfl) (by kernel_rfl) (fun _ _ _ h => h) (Or.inl ⟨by rfl, ?_⟩) (by assumption) ?_
        rotate_left
        · (intro w hSw; (try dsimp only at hSw); go_simp); (first | done | with_reducible rfl)
        try simp only [Act.put, List.setIfInBounds_toArray, List.set_cons_zero, List.set_cons_succ]
        refine wpAnyH_take (i := 2) (oi := { dst := some 40, op := Op.move (Operand.tmp 6), type := 3, pos := "law.go:81", after := #[], guard := none }) (v := ?_) rfl (by kernel_rfl) (by kernel_rfl) (by kernel_rfl) (fun _ _ _ h => h) (Or.inl ⟨by rfl, ?_⟩) (by assumption) ?_
        rotate_left
        · (intro w hSw; (try dsimp only at hSw); go_simp); (first | done | with_reducible rfl)
        try simp only [Act.put, List.setIfInBounds_toArray, List.set_cons_zero, List.set_cons_succ]
        refine wpAnyH_take (i := 3) (oi := { dst := some 41, op := Op.indexAddr 30 (Operand.tmp 39) (Operand.tmp 40), type := 0, pos := "law.go:81", after := #[{ on := 1, ground := Ground.data }, { on := 2, ground := Ground.data }], guard := none }) (v := ?_) rfl (by kernel_rfl) (by kernel_rfl) (by kernel_rfl) (fun _ _ _ h => h) (Or.inl ⟨by rfl, ?_⟩) (by assumption) ?_
        rotate_left
        · (intro w hSw; (try dsimp only at hSw); go_simp); (first | done | with_reducible rfl)
        try simp only [Act.put, List.setIfInBounds_toArray, List.set_cons_zero, List.set_cons_succ]
        refine wpAnyH_take (i := 4) (oi := { dst := some 42, op := Op.load 27 (Operand.tmp 41), type := 27, pos := "law.go:81", after := #[{ on := 3, ground := Ground.data }], guard := none }) (v := ?_) rfl (by kernel_rfl) (by kernel_rfl) (by kernel_rfl) (fun _ _ _ h => h) (Or.inl ⟨by rfl, ?_⟩) (by assumption) ?_
        rotate_left
        · (intro w hSw; (try dsimp only at hSw); go_simp); (first | done | with_reducible rfl)
        try simp only [Act.put, List.setIfInBounds_toArray, List.set_cons_zero, List.set_cons_succ]
        refine wpAnyH_ready (rs := [5, 9]) (by kernel_rfl) (by simp) ?_
        refine AllReadyH.cons (o := { dst := some 43, op := Op.call { callee := Callee.value (Operand.func 13), args := #[Operand.tmp 38, Operand.tmp 42], argTypes := #[24, 27] }, type := 32, pos := "law.go:81", after := #[{ on := 0, ground := Ground.data }, { on := 4, ground := Ground.data }], guard := none }) rfl (fun K hK => ?_) (AllReadyH.cons (o := { dst := some 9, op := Op.alloc 24, type := 0, pos := "law.go:81", after := #[], guard := none }) rfl (fun K hK => ?_) (AllReadyH.nil))
        · have CJ := Lib.hid (CA.out _ HB.out)
          go_simp
          go_at_call 13
          with_reducible refine (CJ.out).mono ?_
          rintro e w6 ⟨a6, n6, c6, lg6, nx6, bo, rfl, hb6, hr6⟩
          have HR := Lib.hid (hr6.rebase (HJ.out.bel.trans (HB.out.mono HJ.out.bel.size)))
          replace HB := Lib.hid (below_step HB.out hb6)
          clear hb6 hr6 CJ
          go_wp2_with fail
          refine hK.out _ _ ?_ (fun hHeld => ?_)
          · exact HSX.out _ HB.out
          clear hK K
          try simp only [Act.put, List.setIfInBounds_toArray, List.set_cons_zero, List.set_cons_succ]
          refine wpAnyH_take (i := 6) (oi := { dst := some 37, op := Op.move (Operand.tmp 43), type := 32, pos := "law.go:81", after := #[{ on := 5, ground := Ground.data }], guard := none }) (v := ?_) rfl (by kernel_rfl) (by kernel_rfl) (by kernel_rfl) (fun _ _ _ h => h) (Or.inl ⟨by rfl, ?_⟩) (by assumption) ?_
          rotate_left
          · (intro w hSw; (try dsimp only at hSw); go_simp); (first | done | with_reducible rfl)
          try simp only [Act.put, List.setIfInBounds_toArray, List.set_cons_zero, List.set_cons_succ]
          refine wpAnyH_take (i := 7) (oi := { dst := some 44, op := Op.extract (Operand.tmp 37) 0, type := 24, pos := "law.go:81", after := #[{ on := 6, ground := Ground.data }], guard := none }) (v := ?_) rfl (by kernel_rfl) (by kernel_rfl) (by kernel_rfl) (fun _ _ _ h => h) (Or.inl ⟨by rfl, ?_⟩) (by assumption) ?_
          rotate_left
          · (intro w hSw; (try dsimp only at hSw); go_simp); (first | done | with_reducible rfl)
          try simp only [Act.put, List.setIfInBounds_toArray, List.set_cons_zero, List.set_cons_succ]
          refine wpAnyH_take (i := 8) (oi := { dst := some 45, op := Op.extract (Operand.tmp 37) 1, type := 4, pos := "law.go:81", after := #[{ on := 6, ground := Ground.data }, { on := 10, ground := Ground.gcOnly Departure.lateStores }], guard := none }) (v := ?_) rfl (by kernel_rfl) (by kernel_rfl) (by kernel_rfl) (fun _ _ _ h => h) (Or.inl ⟨by rfl, ?_⟩) (by assumption) ?_
          rotate_left
          · (intro w hSw; (try dsimp only at hSw); go_simp); (first | done | with_reducible rfl)
          try simp only [Act.put, List.setIfInBounds_toArray, List.set_cons_zero, List.set_cons_succ]
          refine wpAnyH_ready (rs := [9]) (by kernel_rfl) (by simp) ?_
          refine AllReadyH.cons (o := { dst := some 9, op := Op.alloc 24, type := 0, pos := "law.go:81", after := #[], guard := none }) rfl (fun K hK => ?_) (AllReadyH.nil)
          go_simp
          have hba := (Below.refl w6.heap.size w6).alloc (Nat.le_refl _) (.cells #[.slice none 0 0, .int .i64 0, .int .i64 0] 24)
          have HZ := Lib.hid (bkIn_new stZ 24 w6)
          unfold stZ at HZ
          have HNB := Lib.hid (show wm.heap.size ≤ w6.heap.size from HB.out.size)
          replace HR := Lib.hid (HR.out.below hba)
          replace HB := Lib.hid (below_step HB.out hba)
          clear hba
          generalize hnb : w6.heap.size = nb at *
          clear hnb
          generalize w6.alloc (.cells #[.slice none 0 0, .int .i64 0, .int .i64 0] 24) = wa at *
          refine hK.out _ _ ?_ (fun hHeld => ?_)
          · exact HSX.out _ HB.out
          clear hK K
          try simp only [Act.put, List.setIfInBounds_toArray, List.set_cons_zero, List.set_cons_succ]
          refine wpAnyH_ready (rs := [10]) (by kernel_rfl) (by simp) ?_
          refine AllReadyH.cons (o := { dst := none, op := Op.store 24 (Operand.tmp 9) (Operand.tmp 44), type := 0, pos := "law.go:81", after := #[{ on := 9, ground := Ground.data }, { on := 7, ground := Ground.data }, { on := 5, ground := Ground.chain }, { on := 0, ground := Ground.phase }, { on := 1, ground := Ground.phase }, { on := 2, ground := Ground.phase }, { on := 3, ground := Ground.phase }, { on := 4, ground := Ground.phase }, { on := 5, ground := Ground.phase }, { on := 6, ground := Ground.phase }, { on := 7, ground := Ground.phase }, { on := 8, ground := Ground.textOnly Departure.lateStores }, { on := 9, ground := Ground.phase }], guard := none }) rfl (fun K hK => ?_) (AllReadyH.nil)
          refine step_store_row16 (by rfl) 24 _ _ (by rfl) nb #[.slice a6 n6 c6, .int .i64 lg6, .int .i64 nx6] (by rfl) (by rfl) 24 _ HZ.out infoSt_size rfl (by simp [Value.oneCell']) ?_
          have HNW := Lib.hid (HR.out.put HZ.out (Nat.le_trans HJ.out.bel.size HNB.out))
          replace HB := Lib.hid (below_row16 HB.out HNB.out (stA a6 n6 c6 lg6 nx6))
          unfold stA at HNW HB
          generalize wa.setRow nb #[.slice a6 n6 c6, .int .i64 lg6, .int .i64 nx6] = w8 at *
          refine hK.out _ _ ?_ (fun hHeld => ?_)
          · exact HSX.out _ HB.out
          clear hK K
          try simp only [Act.put, List.setIfInBounds_toArray, List.set_cons_zero, List.set_cons_succ]
          refine wpAnyH_take (i := 11) (oi := { dst := some 10, op := Op.assign (Operand.tmp 45), type := 4, pos := "law.go:81", after := #[{ on := 8, ground := Ground.data }, { on := 10, ground := Ground.chain }, { on := 0, ground := Ground.phase }, { on := 1, ground := Ground.phase }, { on := 2, ground := Ground.phase }, { on := 3, ground := Ground.phase }, { on := 4, ground := Ground.phase }, { on := 5, ground := Ground.phase }, { on := 6, ground := Ground.phase }, { on := 7, ground := Ground.phase }, { on := 8, ground := Ground.phase }, { on := 9, ground := Ground.phase }, { on := 10, ground := Ground.phase }], guard := none }) (v := ?_) rfl (by kernel_rfl) (by kernel_rfl) (by kernel_rfl) (fun _ _ _ h => h) (Or.inl ⟨by rfl, ?_⟩) (by assumption) ?_
          rotate_left
          · (intro w hSw; (try dsimp only at hSw); go_simp); (first | done | with_reducible rfl)
          refine wpAnyH_done (by kernel_rfl) ?_ _
          go_wp2_with fail
          go_meet
          case rel => exact ⟨nb, bo, rfl, rfl, HB, HNB, HNW⟩
        · go_simp
          have hba := (Below.refl wd.heap.size wd).alloc (Nat.le_refl _) (.cells #[.slice none 0 0, .int .i64 0, .int .i64 0] 24)
          have HZ := Lib.hid (bkIn_new stZ 24 wd)
          unfold stZ at HZ
          have HNB := Lib.hid (show wm.heap.size ≤ wd.heap.size from HB.out.size)
          replace HB := Lib.hid (below_step HB.out hba)
          clear hba
          generalize hnb : wd.heap.size = nb at *
          clear hnb
          generalize wd.alloc (.cells #[.slice none 0 0, .int .i64 0, .int .i64 0] 24) = wa at *
          refine hK.out _ _ ?_ (fun hHeld => ?_)
          · exact HSX.out _ HB.out
          clear hK K
          try simp only [Act.put, List.setIfInBounds_toArray, List.set_cons_zero, List.set_cons_succ]
          refine wpAnyH_ready (rs := [5]) (by kernel_rfl) (by simp) ?_
          refine AllReadyH.cons (o := { dst := some 43, op := Op.call { callee := Callee.value (Operand.func 13), args := #[Operand.tmp 38, Operand.tmp 42], argTypes := #[24, 27] }, type := 32, pos := "law.go:81", after := #[{ on := 0, ground := Ground.data }, { on := 4, ground := Ground.data }], guard := none }) rfl (fun K hK => ?_) (AllReadyH.nil)
          have CJ := Lib.hid (CA.out _ HB.out)
          go_simp
          go_at_call 13
          with_reducible refine (CJ.out).mono ?_
          rintro e w6 ⟨a6, n6, c6, lg6, nx6, bo, rfl, hb6, hr6⟩
          have HR := Lib.hid (hr6.rebase (HJ.out.bel.trans (HB.out.mono HJ.out.bel.size)))
          replace HZ := Lib.hid (HZ.out.below hb6)
          replace HB := Lib.hid (below_step HB.out hb6)
          clear hb6 hr6 CJ
          go_wp2_with fail
          refine hK.out _ _ ?_ (fun hHeld => ?_)
          · exact HSX.out _ HB.out
          clear hK K
          try simp only [Act.put, List.setIfInBounds_toArray, List.set_cons_zero, List.set_cons_succ]
          refine wpAnyH_take (i := 6) (oi := { dst := some 37, op := Op.move (Operand.tmp 43), type := 32, pos := "law.go:81", after := #[{ on := 5, ground := Ground.data }], guard := none }) (v := ?_) rfl (by kernel_rfl) (by kernel_rfl) (by kernel_rfl) (fun _ _ _ h => h) (Or.inl ⟨by rfl, ?_⟩) (by assumption) ?_
          rotate_left
          · (intro w hSw; (try dsimp only at hSw); go_simp); (first | done | with_reducible rfl)
          try simp only [Act.put, List.setIfInBounds_toArray, List.set_cons_zero, List.set_cons_succ]
          refine wpAnyH_take (i := 7) (oi := { dst := some 44, op := Op.extract (Operand.tmp 37) 0, type := 24, pos := "law.go:81", after := #[{ on := 6, ground := Ground.data }], guard := none }) (v := ?_) rfl (by kernel_rfl) (by kernel_rfl) (by kernel_rfl) (fun _ _ _ h => h) (Or.inl ⟨by rfl, ?_⟩) (by assumption) ?_
          rotate_left
          · (intro w hSw; (try dsimp only at hSw); go_simp); (first | done | with_reducible rfl)
          try simp only [Act.put, List.setIfInBounds_toArray, List.set_cons_zero, List.set_cons_succ]
          refine wpAnyH_take (i := 8) (oi := { dst := some 45, op := Op.extract (Operand.tmp 37) 1, type := 4, pos := "law.go:81", after := #[{ on := 6, ground := Ground.data }, { on := 10, ground := Ground.gcOnly Departure.lateStores }], guard := none }) (v := ?_) rfl (by kernel_rfl) (by kernel_rfl) (by kernel_rfl) (fun _ _ _ h => h) (Or.inl ⟨by rfl, ?_⟩) (by assumption) ?_
          rotate_left
          · (intro w hSw; (try dsimp only at hSw); go_simp); (first | done | with_reducible rfl)
          try simp only [Act.put, List.setIfInBounds_toArray, List.set_cons_zero, List.set_cons_succ]
          refine wpAnyH_ready (rs := [10]) (by kernel_rfl) (by simp) ?_
          refine AllReadyH.cons (o := { dst := none, op := Op.store 24 (Operand.tmp 9) (Operand.tmp 44), type := 0, pos := "law.go:81", after := #[{ on := 9, ground := Ground.data }, { on := 7, ground := Ground.data }, { on := 5, ground := Ground.chain }, { on := 0, ground := Ground.phase }, { on := 1, ground := Ground.phase }, { on := 2, ground := Ground.phase }, { on := 3, ground := Ground.phase }, { on := 4, ground := Ground.phase }, { on := 5, ground := Ground.phase }, { on := 6, ground := Ground.phase }, { on := 7, ground := Ground.phase }, { on := 8, ground := Ground.textOnly Departure.lateStores }, { on := 9, ground := Ground.phase }], guard := none }) rfl (fun K hK => ?_) (AllReadyH.nil)
          refine step_store_row16 (by rfl) 24 _ _ (by rfl) nb #[.slice a6 n6 c6, .int .i64 lg6, .int .i64 nx6] (by rfl) (by rfl) 24 _ HZ.out infoSt_size rfl (by simp [Value.oneCell']) ?_
          have HNW := Lib.hid (HR.out.put HZ.out (Nat.le_trans HJ.out.bel.size HNB.out))
          replace HB := Lib.hid (below_row16 HB.out HNB.out (stA a6 n6 c6 lg6 nx6))
          unfold stA at HNW HB
          generalize w6.setRow nb #[.slice a6 n6 c6, .int .i64 lg6, .int .i64 nx6] = w8 at *
          refine hK.out _ _ ?_ (fun hHeld => ?_)
          · exact HSX.out _ HB.out
          clear hK K
          try simp only [Act.put, List.setIfInBounds_toArray, List.set_cons_zero, List.set_cons_succ]
          refine wpAnyH_take (i := 11) (oi := { dst := some 10, op := Op.assign (Operand.tmp 45), type := 4, pos := "law.go:81", after := #[{ on := 8, ground := Ground.data }, { on := 10, ground := Ground.chain }, { on := 0, ground := Ground.phase }, { on := 1, ground := Ground.phase }, { on := 2, ground := Ground.phase }, { on := 3, ground := Ground.phase }, { on := 4, ground := Ground.phase }, { on := 5, ground := Ground.phase }, { on := 6, ground := Ground.phase }, { on := 7, ground := Ground.phase }, { on := 8, ground := Ground.phase }, { on := 9, ground := Ground.phase }, { on := 10, ground := Ground.phase }], guard := none }) (v := ?_) rfl (by kernel_rfl) (by kernel_rfl) (by kernel_rfl) (fun _ _ _ h => h) (Or.inl ⟨by rfl, ?_⟩) (by assumption) ?_
          rotate_left
          · (intro w hSw; (try dsimp only at hSw); go_simp); (first | done | with_reducible rfl)
          refine wpAnyH_done (by kernel_rfl) ?_ _
          go_wp2_with fail
          go_meet
          case rel => exact ⟨nb, bo, rfl, rfl, HB, HNB, HNW⟩
      case rest =>
      obtain ⟨nb2, bo2, rfl, rfl, HBy, HNB2, HNW2⟩ := hcut
      have HN02 := Lib.hid (show W.heap.size ≤ nb2 from Nat.le_trans HI.out.bel.size HNB2.out)
      have HLT2 := Lib.hid (show Bs < nb2 ∧ Bw < nb2 ∧ nb < nb2 from ⟨Nat.lt_of_lt_of_le HI.out.bx.lt HNB2.out, Nat.lt_of_lt_of_le HJ.out.bx.lt HNB2.out, Nat.lt_of_lt_of_le HNBL.out HNB2.out⟩)
      replace HI := Lib.hid (HI.out.below HBy.out)
      replace HJ := Lib.hid (HJ.out.below HBy.out)
      replace HD := Lib.hid (HD.out.below HBy.out)
      replace HNW := Lib.hid (HNW.out.below HBy.out)
      clear CA HSX HNB2 HYk HNBL
      cases bo with
      | false =>
        cases bo2 with
        | true =>
          obtain ⟨t, _, _, _, h1, _⟩ := HNW2.out.yes HN02.out
          rw [HNW.out.no] at h1
          cases h1
        | false =>
          clear HNW HNW2
          have a0 : wc.cell? ⟨Bs, 0, none⟩ = some (.slice (some ⟨g5, 0, none⟩) R5.length c5) := HI.out.bx.cell 0
          have a1 : wc.cell? ⟨Bs, 1, none⟩ = some (.int .i64 s.log) := HI.out.bx.cell 1
          have a2 : wc.cell? ⟨Bs, 2, none⟩ = some (.int .i64 s.next) := HI.out.bx.cell 2
          have b0 : wc.cell? ⟨Bw, 0, none⟩ = some (.slice (some ⟨g7, 0, none⟩) R7.length c7) := HJ.out.bx.cell 0
          have b1 : wc.cell? ⟨Bw, 1, none⟩ = some (.int .i64 s.log) := HJ.out.bx.cell 1
          have b2 : wc.cell? ⟨Bw, 2, none⟩ = some (.int .i64 s.next) := HJ.out.bx.cell 2
          have CSS := Lib.hid (show Calls Try.prog 16 #[.agg #[.slice (some ⟨g5, 0, none⟩) R5.length c5, .int .i64 s.log, .int .i64 s.next], .agg #[.slice (some ⟨g7, 0, none⟩) R7.length c7, .int .i64 s.log, .int .i64 s.next]] wc (SameStR s s wc) from by
            have := sameState16_any R5 R7 HI.out.small HJ.out.small (some ⟨g5, 0, none⟩) (some ⟨g7, 0, none⟩) c5 c7 s.log s.next s.log s.next wc HI.out.at_ HJ.out.at_
            rwa [HI.out.st, HJ.out.st] at this)
          go_wp2_with fail
          with_reducible refine (CSS.out).mono ?_
          rintro e w9 ⟨r, rfl, hr, hb9⟩
          obtain rfl : r = true := hr.2 rfl
          have HI9 := Lib.hid (HI.out.below hb9)
          have HJ9 := Lib.hid (HJ.out.below hb9)
          have HD9 := Lib.hid (HD.out.below hb9)
          clear hb9 hr CSS a0 a1 a2 b0 b1 b2
          go_wp2_with fail
          go_roundw
          case rel => exact ⟨k + 1, s, R5, g5, c5, R7, g7, c7, D, ad, cd, by have := HLT.out; omega, by go_num, rfl, by omega, HI9, HJ9, HD9, HDL, HAL⟩
          case measure => have := HLT.out; simp [intOf]; omega
      | true =>
        cases bo2 with
        | false =>
          obtain ⟨t, _, _, _, h1, _⟩ := HNW.out.yes HN0.out
          rw [HNW2.out.no] at h1
          cases h1
        | true =>
          obtain ⟨t, R6, g6, c6, h1, hp1⟩ := HNW.out.yes HN0.out
          obtain ⟨t', R8, g8, c8, h2, hp2⟩ := HNW2.out.yes HN02.out
          obtain rfl : t = t' := by rw [h1] at h2; injection h2
          have HAT := Lib.hid h1
          clear h1 h2 HNW HNW2
          go_wp2_with fail
          have HP := Lib.hid (And.intro (hp1.below (Below.refl _ wc).drew) (hp2.below (Below.refl _ wc).drew))
          replace HI := Lib.hid (HI.out.below (Below.refl _ wc).drew)
          replace HJ := Lib.hid (HJ.out.below (Below.refl _ wc).drew)
          replace HD := Lib.hid (HD.out.below (Below.refl _ wc).drew)
          clear hp1 hp2
          refine wp_region_held_drew (S := fun V => V.cell? ⟨nb, 0, none⟩ = some (.slice (some ⟨g6, 0, none⟩) R6.length c6) ∧ V.cell? ⟨nb, 1, none⟩ = some (.int .i64 t.log) ∧ V.cell? ⟨nb, 2, none⟩ = some (.int .i64 t.next) ∧ V.cell? ⟨nb2, 0, none⟩ = some (.slice (some ⟨g8, 0, none⟩) R8.length c8) ∧ V.cell? ⟨nb2, 1, none⟩ = some (.int .i64 t.log) ∧ V.cell? ⟨nb2, 2, none⟩ = some (.int .i64 t.next)) (by kernel_rfl) ?_ (fun hHeld => ?_)
          · exact ⟨HP.out.1.bx.cell 0, HP.out.1.bx.cell 1, HP.out.1.bx.cell 2, HP.out.2.bx.cell 0, HP.out.2.bx.cell 1, HP.out.2.bx.cell 2⟩
          obtain ⟨wd, hwd⟩ : ∃ x, x = World.drew wc := ⟨_, rfl⟩
          rw [← hwd] at HP HI HJ HD hHeld ⊢
          clear hwd
          refine wpAnyH_take (i := 0) (oi := { dst := some 50, op := Op.load 24 (Operand.tmp 7), type := 24, pos := "law.go:86", after := #[], guard := none }) (v := ?_) rfl (by kernel_rfl) (by kernel_rfl) (by kernel_rfl) (fun _ _ _ h => h) (Or.inl ⟨by rfl, ?_⟩) (by assumption) ?_
          rotate_left
          · (intro w hSw; (try dsimp only at hSw); go_simp); (first | done | with_reducible rfl)
          try simp only [Act.put, List.setIfInBounds_toArray, List.set_cons_zero, List.set_cons_succ]
          refine wpAnyH_take (i := 1) (oi := { dst := some 51, op := Op.load 24 (Operand.tmp 9), type := 24, pos := "law.go:86", after := #[{ on := 2, ground := Ground.gcOnly Departure.lateStores }], guard := none }) (v := ?_) rfl (by kernel_rfl) (by kernel_rfl) (by kernel_rfl) (fun _ _ _ h => h) (Or.inl ⟨by rfl, ?_⟩) (by assumption) ?_
          rotate_left
          · (intro w hSw; (try dsimp only at hSw); go_simp); (first | done | with_reducible rfl)
          try simp only [Act.put, List.setIfInBounds_toArray, List.set_cons_zero, List.set_cons_succ]
          refine wpAnyH_ready (rs := [2]) (by kernel_rfl) (by simp) ?_
          refine AllReadyH.cons (o := { dst := none, op := Op.store 24 (Operand.tmp 3) (Operand.tmp 50), type := 0, pos := "law.go:86", after := #[{ on := 0, ground := Ground.data }, { on := 0, ground := Ground.phase }, { on := 1, ground := Ground.textOnly Departure.lateStores }], guard := none }) rfl (fun K hK => ?_) (AllReadyH.nil)
          refine step_store_row16 (by rfl) 24 _ _ (by rfl) Bs #[.slice (some ⟨g6, 0, none⟩) R6.length c6, .int .i64 t.log, .int .i64 t.next] (by rfl) (by rfl) 24 _ HI.out.bx infoSt_size rfl (by simp [Value.oneCell']) ?_
          have HI2 := Lib.hid (HP.out.1.put HI.out.bx HI.out.b0)
          have HP2 := Lib.hid (And.intro (HP.out.1.rowSt HI.out.bx (by have := HLTs.out; omega) HI.out.b0 (stA (some ⟨g6, 0, none⟩) R6.length c6 t.log t.next)) (HP.out.2.rowSt HI.out.bx (by have := HLT2.out; omega) HI.out.b0 (stA (some ⟨g6, 0, none⟩) R6.length c6 t.log t.next)))
          replace HJ := Lib.hid (HJ.out.rowSt HI.out.bx (Ne.symm HBS.out.2) HI.out.b0 (stA (some ⟨g6, 0, none⟩) R6.length c6 t.log t.next))
          replace HD := Lib.hid (HD.out.rowSt HI.out.bx HI.out.b0 (stA (some ⟨g6, 0, none⟩) R6.length c6 t.log t.next))
          unfold stA at HI2 HP2 HJ HD
          clear HI
          replace HP := Lib.hid HP2.out
          clear HP2
          generalize wd.setRow Bs #[.slice (some ⟨g6, 0, none⟩) R6.length c6, .int .i64 t.log, .int .i64 t.next] = we at *
          refine hK.out _ _ ?_ (fun hHeld => ?_)
          · exact ⟨HP.out.1.bx.cell 0, HP.out.1.bx.cell 1, HP.out.1.bx.cell 2, HP.out.2.bx.cell 0, HP.out.2.bx.cell 1, HP.out.2.bx.cell 2⟩
          clear hK K
          try simp only [Act.put, List.setIfInBounds_toArray, List.set_cons_zero, List.set_cons_succ]
          refine wpAnyH_ready (rs := [3]) (by kernel_rfl) (by simp) ?_
          refine AllReadyH.cons (o := { dst := none, op := Op.store 24 (Operand.tmp 4) (Operand.tmp 51), type := 0, pos := "law.go:86", after := #[{ on := 1, ground := Ground.data }, { on := 2, ground := Ground.chain }, { on := 0, ground := Ground.phase }, { on := 1, ground := Ground.phase }, { on := 2, ground := Ground.phase }], guard := none }) rfl (fun K hK => ?_) (AllReadyH.nil)
          refine step_store_row16 (by rfl) 24 _ _ (by rfl) Bw #[.slice (some ⟨g8, 0, none⟩) R8.length c8, .int .i64 t.log, .int .i64 t.next] (by rfl) (by rfl) 24 _ HJ.out.bx infoSt_size rfl (by simp [Value.oneCell']) ?_
          have HJ2 := Lib.hid (HP.out.2.put HJ.out.bx HJ.out.b0)
          have HP2 := Lib.hid (And.intro (HP.out.1.rowSt HJ.out.bx (by have := HLTs.out; omega) HJ.out.b0 (stA (some ⟨g8, 0, none⟩) R8.length c8 t.log t.next)) (HP.out.2.rowSt HJ.out.bx (by have := HLT2.out; omega) HJ.out.b0 (stA (some ⟨g8, 0, none⟩) R8.length c8 t.log t.next)))
          replace HI2 := Lib.hid (HI2.out.rowSt HJ.out.bx HBS.out.2 HJ.out.b0 (stA (some ⟨g8, 0, none⟩) R8.length c8 t.log t.next))
          replace HD := Lib.hid (HD.out.rowSt HJ.out.bx HJ.out.b0 (stA (some ⟨g8, 0, none⟩) R8.length c8 t.log t.next))
          unfold stA at HI2 HP2 HJ2 HD
          clear HJ
          replace HP := Lib.hid HP2.out
          clear HP2
          generalize we.setRow Bw #[.slice (some ⟨g8, 0, none⟩) R8.length c8, .int .i64 t.log, .int .i64 t.next] = wf at *
          refine hK.out _ _ ?_ (fun hHeld => ?_)
          · exact ⟨HP.out.1.bx.cell 0, HP.out.1.bx.cell 1, HP.out.1.bx.cell 2, HP.out.2.bx.cell 0, HP.out.2.bx.cell 1, HP.out.2.bx.cell 2⟩
          clear hK K
          try simp only [Act.put, List.setIfInBounds_toArray, List.set_cons_zero, List.set_cons_succ]
          refine wpAnyH_done (by kernel_rfl) ?_ _
          clear HP hHeld
          have HYB := Lib.hid (HYA.out wf HI2.out.bel)
          have y0 : wf.cell? ⟨gl, oy0 + k * 5, none⟩ = some (.int .i64 kind) := HYB.out.1
          have y1 : wf.cell? ⟨gl, oy0 + k * 5 + 1, none⟩ = some (.int .i64 at_) := HYB.out.2.1
          have y2 : wf.cell? ⟨gl, oy0 + k * 5 + 2, none⟩ = some (.int .i64 file) := HYB.out.2.2.1
          have y3 : wf.cell? ⟨gl, oy0 + k * 5 + 3, none⟩ = some (.slice fo fs.length fk) := HYB.out.2.2.2.1
          have y4 : wf.cell? ⟨gl, oy0 + k * 5 + 4, none⟩ = some (.string (S key)) := HYB.out.2.2.2.2.1
          have HAL2 := Lib.hid (show Ed.all Ed.first (eds (D ++ [⟨kind, at_, file, fs, fo, fk, key⟩])) = some t from by
            unfold eds at *
            rw [List.map_append, show List.map Re.ed [(⟨kind, at_, file, fs, fo, fk, key⟩ : Re)] = [(⟨kind, at_, file, fs, fo, fk, key⟩ : Re).ed] from rfl, Ed.all_snoc, HAL.out]
            exact HAT.out)
          have HDL2 := Lib.hid (show ∀ r, r ∈ D ++ [(⟨kind, at_, file, fs, fo, fk, key⟩ : Re)] → r ∈ L from fun r hr => by
            rcases List.mem_append.1 hr with hr | hr
            · exact HDL.out r hr
            · rw [List.mem_singleton.1 hr]; exact HYL.out)
          have hbae := (Below.refl wf.heap.size wf).alloc (Nat.le_refl _) (.cells (edA ⟨kind, at_, file, fs, fo, fk, key⟩) 27)
          have HEX := Lib.hid (bkIn_new (edA ⟨kind, at_, file, fs, fo, fk, key⟩) 27 wf)
          have HIe := Lib.hid (HI2.out.below hbae)
          have HJe := Lib.hid (HJ2.out.below hbae)
          have HDe := Lib.hid (HD.out.below hbae)
          unfold edA at HEX HIe HJe HDe
          simp only at HEX HIe HJe HDe
          have HYN := Lib.hid (HYW.out.below HIe.out.bel)
          have hd40 : D.length + 1 ≤ 100000 := by omega
          clear hbae HI2 HJ2 HD
          go_wp2_with (at_builtin; refine wpList_append_eds rfl _ _ 30 rfl Try.underlying30 W.heap.size (.slice ad D.length cd) D.length (edC D) rfl HDe.out.row (some ⟨wf.heap.size, 0, none⟩) 1 1 [⟨kind, at_, file, fs, fo, fk, key⟩] rfl rfl (edsAt_one HEX.out HYN.out) hd40 HDe.out.bel.size ?_; intro vg wg hog hgg; obtain ⟨ad2, cd2, rfl⟩ := own_shape16 hog; have HI := Lib.hid (HIe.out.grown HDe.out.row hgg); have HJ := Lib.hid (HJe.out.grown HDe.out.row hgg); have HD := Lib.hid (show DnI W (D ++ [⟨kind, at_, file, fs, fo, fk, key⟩]) ad2 cd2 wg from ⟨by rw [List.length_append, edC_app]; exact hog, fun r hr => by
            rcases List.mem_append.1 hr with hr | hr
            · exact HDe.out.ns r hr
            · rw [List.mem_singleton.1 hr]; exact HYW.out, bel_ownsEd HDe.out.bel HDe.out.row hgg⟩); clear hog hgg; have a0 : wg.cell? ⟨Bs, 0, none⟩ = some (.slice (some ⟨g6, 0, none⟩) R6.length c6) := HI.out.bx.cell 0; have a1 : wg.cell? ⟨Bs, 1, none⟩ = some (.int .i64 t.log) := HI.out.bx.cell 1; have a2 : wg.cell? ⟨Bs, 2, none⟩ = some (.int .i64 t.next) := HI.out.bx.cell 2; have b0 : wg.cell? ⟨Bw, 0, none⟩ = some (.slice (some ⟨g8, 0, none⟩) R8.length c8) := HJ.out.bx.cell 0; have b1 : wg.cell? ⟨Bw, 1, none⟩ = some (.int .i64 t.log) := HJ.out.bx.cell 1; have b2 : wg.cell? ⟨Bw, 2, none⟩ = some (.int .i64 t.next) := HJ.out.bx.cell 2)
          have CSS := Lib.hid (show Calls Try.prog 16 #[.agg #[.slice (some ⟨g6, 0, none⟩) R6.length c6, .int .i64 t.log, .int .i64 t.next], .agg #[.slice (some ⟨g8, 0, none⟩) R8.length c8, .int .i64 t.log, .int .i64 t.next]] wg (SameStR t t wg) from by
            have := sameState16_any R6 R8 HI.out.small HJ.out.small (some ⟨g6, 0, none⟩) (some ⟨g8, 0, none⟩) c6 c8 t.log t.next t.log t.next wg HI.out.at_ HJ.out.at_
            rwa [HI.out.st, HJ.out.st] at this)
          with_reducible refine (CSS.out).mono ?_
          rintro e w9 ⟨r, rfl, hr, hb9⟩
          obtain rfl : r = true := hr.2 rfl
          have HI9 := Lib.hid (HI.out.below hb9)
          have HJ9 := Lib.hid (HJ.out.below hb9)
          have HD9 := Lib.hid (HD.out.below hb9)
          clear hb9 hr CSS a0 a1 a2 b0 b1 b2
          go_wp2_with fail
          go_roundw
          case rel => exact ⟨k + 1, t, R6, g6, c6, R8, g8, c8, D ++ [⟨kind, at_, file, fs, fo, fk, key⟩], ad2, cd2, by have := HLT.out; omega, by go_num, by rw [List.length_append]; rfl, by simp only [List.length_append, List.length_cons, List.length_nil]; omega, HI9, HJ9, HD9, HDL2, HAL2⟩
          case measure => have := HLT.out; simp [intOf]; omega
    · obtain rfl : k = L.length := by omega
      have HRD := Lib.hid (show ResIn D from ⟨by omega, fun r hr => HRI.out.2 r (HDL.out r hr)⟩)
      have hd41 : D.length + 1 ≤ 100000 := by omega
      have C1 := Lib.hid (CF.out wr)
      go_wp2_with fail
      with_reducible refine (C1.out).mono ?_
      rintro e w5 ⟨g9, c9, rfl, hT⟩
      have hb5 := hT.bel
      have HJ5 := Lib.hid (HJ.out.below hb5)
      have HD5 := Lib.hid (HD.out.below hb5)
      have C2 := Lib.hid (show Calls Try.prog 23 #[.agg #[.slice (some ⟨g9, 0, none⟩) 1 c9, .int .i64 1, .int .i64 2], .slice ad D.length cd] w5 (All16R Ed.first D w5) from all16_any [rt0] rtsOk_nil (some ⟨g9, 0, none⟩) c9 1 2 D HRD.out ad cd w5 hT.at_ HD5.out.at_)
      clear hT hb5 C1 HJ HD HI
      go_wp2_with fail
      with_reducible refine (C2.out).mono ?_
      rintro e w6 ⟨hb6, (⟨t, R8, ao8, c8, ho, ht, rfl, hT8, htb⟩ | ⟨hno, rfl⟩)⟩
      rotate_left
      · exact absurd ⟨Ed.ok_first, _, HAL.out⟩ hno
      obtain rfl : s = t := by rw [HAL.out] at ht; injection ht
      have hba6 := (Below.refl w6.heap.size w6).alloc (Nat.le_refl _) (.cells #[.slice ao8 R8.length c8, .int .i64 s.log, .int .i64 s.next] 24)
      have HJ6 := Lib.hid ((HJ5.out.below hb6).below hba6)
      have HD6 := Lib.hid ((HD5.out.below hb6).below hba6)
      have HA6 := Lib.hid (hT8.below hba6)
      have HX6 := Lib.hid (bkIn_new #[.slice ao8 R8.length c8, .int .i64 s.log, .int .i64 s.next] 24 w6)
      have HTB := Lib.hid htb
      have C3 := Lib.hid (CF.out (w6.alloc (.cells #[.slice ao8 R8.length c8, .int .i64 s.log, .int .i64 s.next] 24)))
      unfold stV
      clear hba6 hb6 hT8 htb ht ho C2 HJ5 HD5
      go_wp2_with fail
      with_reducible refine (C3.out).mono ?_
      rintro e w7 ⟨ga, ca, rfl, hT⟩
      have hb7 := hT.bel
      have HJ7 := Lib.hid (HJ6.out.below hb7)
      have HD7 := Lib.hid (HD6.out.below hb7)
      have HA7 := Lib.hid (HA6.out.below hb7)
      have HX7 := Lib.hid (HX6.out.below hb7)
      have HT7 := Lib.hid hT.at_
      have HG7 := Lib.hid (show w6.heap.size < w7.heap.size from by have := hb7.size; simp at this; omega)
      clear hT hb7 C3 HJ6 HD6 HA6 HX6
      go_wp2_with (first
        | (have _t := HD8; clear _t; at_builtin; refine wpList_append_eds rfl _ _ 30 rfl Try.underlying30 w7.heap.size (.slice ad8 D.length cd8) D.length (edC D) rfl (HD8.out.alloc _) (some ⟨w8.heap.size, 0, none⟩) 1 1 [⟨99, 0, 0, [], none, 0, []⟩] rfl rfl (edsAt_one (y := ⟨99, 0, 0, [], none, 0, []⟩) (bkIn_new _ _ w8) (nsAt_nil _ _)) hd41 (HB8.out.alloc HB8.out.size _).size ?_; intro vg wg hog hgg; obtain ⟨ad9, cd9, rfl⟩ := own_shape16 hog; have HB9 := Lib.hid ((HB8.out.alloc HB8.out.size (.cells #[.int .i64 99, .int .i64 0, .int .i64 0, .slice none 0 0, .string ⟨#[]⟩] 27)).grown hgg (HB8.out.alloc HB8.out.size _).size (fun q hq => (HD8.out.lt q hq).1)); have HD9 := Lib.hid (show wg.ownsRow w7.heap.size 27 5 (.slice ad9 (D.length + 1) cd9) (D.length + 1) (edC (D ++ [⟨99, 0, 0, [], none, 0, []⟩])) from by rw [edC_app]; exact hog); clear hog hgg)
        | (at_builtin; refine wpList_append_eds rfl _ _ 30 rfl Try.underlying30 w7.heap.size (.slice none 0 0) 0 [] rfl (World.ownsRow_nil _ _ _ _) ad cd D.length D rfl rfl HD7.out.at_ (by omega) (Nat.le_refl _) ?_; intro ve w8 hoe hge; rw [Nat.zero_add, List.nil_append] at hoe; obtain ⟨ad8, cd8, rfl⟩ := own_shape16 hoe; have HD8 := Lib.hid hoe; have HB8 := Lib.hid ((Below.refl w7.heap.size w7).grown hge (Nat.le_refl _) (fun q hq => by cases hq)); clear hoe hge))
      have HRE := Lib.hid (show ResIn (D ++ [⟨99, 0, 0, [], none, 0, []⟩]) from ⟨by simp only [List.length_append, List.length_cons, List.length_nil]; omega, fun r hr => by
        rcases List.mem_append.1 hr with hr | hr
        · exact HRD.out.2 r hr
        · rw [List.mem_singleton.1 hr]; exact ⟨by simp, by simp, fun n hn => by simp at hn⟩⟩)
      have HDX := Lib.hid (show DnI w7 (D ++ [⟨99, 0, 0, [], none, 0, []⟩]) ad9 cd9 wg from ⟨by rw [List.length_append]; exact HD9.out, fun r hr => by
        rcases List.mem_append.1 hr with hr | hr
        · exact (HD7.out.ns r hr).below HD7.out.bel
        · rw [List.mem_singleton.1 hr]; exact nsAt_nil _ _, HB9.out⟩)
      have C4 := Lib.hid (show Calls Try.prog 23 #[.agg #[.slice (some ⟨ga, 0, none⟩) 1 ca, .int .i64 1, .int .i64 2], .slice ad9 (D.length + 1) cd9] wg (All16R Ed.first (D ++ [⟨99, 0, 0, [], none, 0, []⟩]) wg) from by
        have := all16_any [rt0] rtsOk_nil (some ⟨ga, 0, none⟩) ca 1 2 (D ++ [⟨99, 0, 0, [], none, 0, []⟩]) HRE.out ad9 cd9 wg (HT7.out.below HB9.out) HDX.out.at_
        rw [List.length_append] at this
        exact this)
      with_reducible refine (C4.out).mono ?_
      rintro e wh ⟨hbh, (⟨t, Rz, aoz, cz, ho, ht, rfl, hTz, htb⟩ | ⟨hno, rfl⟩)⟩
      · exfalso
        unfold eds at *
        rw [List.map_append, show List.map Re.ed [(⟨99, 0, 0, [], none, 0, []⟩ : Re)] = [⟨99, 0, 0, [], []⟩] from rfl, Ed.all_snoc, HAL.out] at ht
        simp only [Option.bind_some] at ht
        rw [apply_odd HJ7.out.ok] at ht
        cases ht
      have hbai := (Below.refl wh.heap.size wh).alloc (Nat.le_refl _) (.cells #[.slice none 0 0, .int .i64 0, .int .i64 0] 24)
      have HBi := Lib.hid (below_step (below_step HB9.out hbh) hbai)
      have HJi := Lib.hid (HJ7.out.below HBi.out)
      have HAi := Lib.hid (HA7.out.below HBi.out)
      have HXi := Lib.hid (HX7.out.below HBi.out)
      unfold stV
      clear hbai hbh hno C4 HDX HRE HD9 HB9 HD8 HB8 HJ7 HD7 HA7 HX7 HT7
      have a0 : (wh.alloc (.cells #[.slice none 0 0, .int .i64 0, .int .i64 0] 24)).cell? ⟨w6.heap.size, 0, none⟩ = some (.slice ao8 R8.length c8) := HXi.out.cell 0
      have a1 : (wh.alloc (.cells #[.slice none 0 0, .int .i64 0, .int .i64 0] 24)).cell? ⟨w6.heap.size, 1, none⟩ = some (.int .i64 s.log) := HXi.out.cell 1
      have a2 : (wh.alloc (.cells #[.slice none 0 0, .int .i64 0, .int .i64 0] 24)).cell? ⟨w6.heap.size, 2, none⟩ = some (.int .i64 s.next) := HXi.out.cell 2
      have b0 : (wh.alloc (.cells #[.slice none 0 0, .int .i64 0, .int .i64 0] 24)).cell? ⟨Bw, 0, none⟩ = some (.slice (some ⟨g7, 0, none⟩) R7.length c7) := HJi.out.bx.cell 0
      have b1 : (wh.alloc (.cells #[.slice none 0 0, .int .i64 0, .int .i64 0] 24)).cell? ⟨Bw, 1, none⟩ = some (.int .i64 s.log) := HJi.out.bx.cell 1
      have b2 : (wh.alloc (.cells #[.slice none 0 0, .int .i64 0, .int .i64 0] 24)).cell? ⟨Bw, 2, none⟩ = some (.int .i64 s.next) := HJi.out.bx.cell 2
      have CSS := Lib.hid (show Calls Try.prog 16 #[.agg #[.slice ao8 R8.length c8, .int .i64 s.log, .int .i64 s.next], .agg #[.slice (some ⟨g7, 0, none⟩) R7.length c7, .int .i64 s.log, .int .i64 s.next]] (wh.alloc (.cells #[.slice none 0 0, .int .i64 0, .int .i64 0] 24)) (SameStR s s (wh.alloc (.cells #[.slice none 0 0, .int .i64 0, .int .i64 0] 24))) from by
        have e8 : (⟨tbs R8, s.log, s.next⟩ : Ed.St) = s := by rw [HTB.out]
        have := sameState16_any R8 R7 (small_ok (log := s.log) (next := s.next) (by rw [e8]; exact HJi.out.ok)) HJi.out.small ao8 (some ⟨g7, 0, none⟩) c8 c7 s.log s.next s.log s.next _ HAi.out HJi.out.at_
        rwa [e8, HJi.out.st] at this)
      go_wp2_with fail
      with_reducible refine (CSS.out).mono ?_
      rintro e wj ⟨r, rfl, hr, hbj⟩
      obtain rfl : r = true := hr.2 rfl
      have HBj := Lib.hid (below_step HJi.out.bel hbj)
      have CLV := Lib.hid (CL.out wj)
      clear hbj hr CSS a0 a1 a2 b0 b1 b2
      go_wp2_with fail
      with_reducible refine (CLV.out).mono ?_
      rintro e wk ⟨rfl, hbk⟩
      have HBk := Lib.hid (below_step HBj.out hbk)
      clear hbk
      go_wp2_with fail
      go_ret
      exact ⟨rfl, HBk.out⟩

end Go.Proofs.Ytfcmjgcjmldpcaa
