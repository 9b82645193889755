/- Layer 16: behind, by a contract (genedbehind.py). -/
import Derived.Test.YtfcmjgcjmldpcaaEditsAd
import Derived.Deep.RegionHeld
import Derived.Deep.CutRange
namespace Go.Proofs.Ytfcmjgcjmldpcaa
set_option linter.unusedVariables false
set_option linter.unusedSimpArgs false
open Go Go.RowKit
attribute [local go_sem ↓] run_index_S
attribute [local go_sem] S_append S_extract

/-- The state behind edits, those left out that may not be done. -/
noncomputable def Ed.stepB (s : Ed.St) (e : Ed.Ed) : Ed.St := (Ed.apply s e).getD s
noncomputable def Ed.bhd (s : Ed.St) (l : List Ed.Ed) : Ed.St := l.foldl Ed.stepB s
theorem Ed.bhd_snoc (s : Ed.St) (l : List Ed.Ed) (e : Ed.Ed) : Ed.bhd s (l ++ [e]) = Ed.stepB (Ed.bhd s l) e := by unfold Ed.bhd; rw [List.foldl_append]; rfl
def BehindR (L : List Re) (w : World) (e : Ending) (w' : World) : Prop :=
  ∃ Rk ao c, e = .returned (stV ao (Rk : List Rt).length c (Ed.bhd Ed.first (eds L)).log (Ed.bhd Ed.first (eds L)).next) ∧ TbsAt w' ao Rk ∧ tbs Rk = (Ed.bhd Ed.first (eds L)).T ∧ Ed.Ok (Ed.bhd Ed.first (eds L)) ∧ Below w.heap.size w w'
set_option maxHeartbeats 4000000 in
set_option maxRecDepth 100000 in
theorem behind16_any (L : List Re) (hL : ResIn L) (lo : Option Addr) (lc : Nat) (W : World) (hN : EdsAt W lo L) :
    Calls Try.prog 25 #[.slice lo L.length lc] W (BehindR L W) := by
  have hLn := hL.1
  have HL := Lib.hid hL
  have HN := Lib.hid hN
  have hba := (Below.refl W.heap.size W).alloc (Nat.le_refl _) (.cells stZ 24)
  have HZ0 := Lib.hid (bkIn_new stZ 24 W)
  have HB0 := Lib.hid hba
  have C0 := Lib.hid (first16_own (W.alloc (.cells stZ 24)))
  unfold stZ at C0
  clear hL hN hba
  go_enter Try.func25, Try.ntmps25
  go_wp2_with fail
  with_reducible refine (C0.out).mono ?_
  rintro e w1 ⟨g, cap, rfl, hT⟩
  have hb1 := hT.bel
  have HB1 := Lib.hid (below_step HB0.out hb1)
  have HZ1 := Lib.hid (HZ0.out.below hb1)
  have HG1 := Lib.hid (show W.heap.size < w1.heap.size from by have := hb1.size; simp at this; omega)
  have hba := (Below.refl w1.heap.size w1).alloc (Nat.le_refl _) (.cells (stA (some ⟨g, 0, none⟩) 1 cap 1 2) 24)
  have HI := Lib.hid (show One16 W w1.heap.size Ed.first [rt0] g cap (w1.alloc (.cells (stA (some ⟨g, 0, none⟩) 1 cap 1 2) 24)) from
    ⟨bkIn_new _ _ w1, (hT.rebase HB0.out).below hba, rfl, Ed.ok_first, HB1.out.size⟩)
  have HZ := Lib.hid (HZ1.out.below hba)
  unfold stA at HI HZ
  clear hba hT hb1 C0 HB0 HB1 HZ0 HZ1
  go_wp2_with fail
  generalize w1.alloc (.cells #[.slice (some ⟨g, 0, none⟩) 1 cap, .int .i64 1, .int .i64 2] 24) = w2 at *
  generalize w1.heap.size = B at *
  go_loopw [4] (fun i wr => ∃ (k : Nat) (R5 : List Rt) (g5 c5 : Nat), k ≤ L.length ∧ i = .int .i64 k ∧ Hid (One16 W B (Ed.bhd Ed.first (eds (L.take k))) R5 g5 c5 wr) ∧ Hid (BkIn stZ 24 wr W.heap.size)) (fun i _ => L.length - (intOf i).toNat)
  case atStart => exact ⟨0, [rt0], g, cap, Nat.zero_le _, rfl, HI, HZ⟩
  case round =>
    obtain ⟨k, R5, g5, c5, hk, rfl, HI, HZ⟩ := hrel
    by_cases hlt : k < L.length
    · have hki : (k : Int) < (L.length : Int) := by omega
      obtain ⟨gl, oy0, rfl, hc⟩ := (HN.out.below HI.out.bel).off k hlt
      have HSN := Lib.hid (eds_take_snoc hlt)
      have HLk := Lib.hid (HL.out.2 _ (Ed.gD_mem (d := re0) hlt))
      have HLT := Lib.hid hlt
      generalize L.getD k re0 = y at *
      generalize hs : Ed.bhd Ed.first (eds (L.take k)) = s at *
      have HS := Lib.hid hs
      obtain ⟨kind, at_, file, fs, fo, fk, key⟩ := y
      have HYk := Lib.hid hc
      have hlk := HLk.out
      simp only at hlk
      have CA := Lib.hid (show ∀ x, Below wr.heap.size wr x → Calls Try.prog 12 #[.agg #[.slice (some ⟨g5, 0, none⟩) R5.length c5, .int .i64 s.log, .int .i64 s.next], .agg #[.int .i64 kind, .int .i64 at_, .int .i64 file, .slice fo fs.length fk, .string (S key)]] x (ApplyU s ⟨kind, at_, file, fs, fo, fk, key⟩ x) from fun x hx => by
        have := applyU_any R5 HI.out.small (some ⟨g5, 0, none⟩) c5 s.log s.next ⟨kind, at_, file, fs, fo, fk, key⟩ hlk.1 hlk.2.1 hlk.2.2 x ((HI.out.below hx).at_) ((HYk.out.below hx).2.2.2.2.2)
        rwa [HI.out.st] at this)
      clear hc hlk HLk hs hlt
      go_wp2_with fail
      have HSX := Lib.hid (show ∀ x, Below wr.heap.size wr x → x.cell? ⟨B, 0, none⟩ = some (.slice (some ⟨g5, 0, none⟩) R5.length c5) ∧ x.cell? ⟨B, 1, none⟩ = some (.int .i64 s.log) ∧ x.cell? ⟨B, 2, none⟩ = some (.int .i64 s.next) ∧ x.cell? ⟨gl, oy0 + k * 5, none⟩ = some (.int .i64 kind) ∧ x.cell? ⟨gl, oy0 + k * 5 + 1, none⟩ = some (.int .i64 at_) ∧ x.cell? ⟨gl, oy0 + k * 5 + 2, none⟩ = some (.int .i64 file) ∧ x.cell? ⟨gl, oy0 + k * 5 + 3, none⟩ = some (.slice fo fs.length fk) ∧ x.cell? ⟨gl, oy0 + k * 5 + 4, none⟩ = some (.string (S key)) from fun x hx => s8_of HI.out HYk.out hx)
      go_cut [5, 6] from 8 to 24 (fun p q wx => ∃ nb bo, p = .pointer (some ⟨nb, 0, none⟩) ∧ q = .bool bo ∧ Hid (Below wr.heap.size wr wx) ∧ Hid (wr.heap.size ≤ nb) ∧ Hid (Nw16 W nb s (⟨kind, at_, file, fs, fo, fk, key⟩ : Re).ed bo wx))
      case first =>
        have HB := Lib.hid (Below.refl wr.heap.size wr)
        refine wp_region_held_drew (S := fun V => V.cell? ⟨B, 0, none⟩ = some (.slice (some ⟨g5, 0, none⟩) R5.length c5) ∧ V.cell? ⟨B, 1, none⟩ = some (.int .i64 s.log) ∧ V.cell? ⟨B, 2, none⟩ = some (.int .i64 s.next) ∧ V.cell? ⟨gl, oy0 + k * 5, none⟩ = some (.int .i64 kind) ∧ V.cell? ⟨gl, oy0 + k * 5 + 1, none⟩ = some (.int .i64 at_) ∧ V.cell? ⟨gl, oy0 + k * 5 + 2, none⟩ = some (.int .i64 file) ∧ V.cell? ⟨gl, oy0 + k * 5 + 3, none⟩ = some (.slice fo fs.length fk) ∧ V.cell? ⟨gl, oy0 + k * 5 + 4, none⟩ = some (.string (S key))) (by kernel_rfl) ?_ (fun hHeld => ?_)
        · exact HSX.out _ HB.out.drew
        replace HB := Lib.hid HB.out.drew
        obtain ⟨wd, hwd⟩ : ∃ x, x = World.drew wr := ⟨_, rfl⟩
        rw [← hwd] at HB hHeld ⊢
        clear hwd
        refine wpAnyH_take (i := 0) (oi := { dst := some 15, op := Op.load 24 (Operand.tmp 3), type := 24, pos := "outright.go:22", after := #[], guard := none }) (v := ?_) rfl (by kernel_rfl) (by kernel_rfl) (by kernel_rfl) (fun _ _ _ h => h) (Or.inl ⟨by rfl, ?_⟩) (by assumption) ?_
        rotate_left
        · (intro w hSw; (try dsimp only at hSw); go_simp); (first | done | with_reducible rfl)
        try simp only [Act.put, List.setIfInBounds_toArray, List.set_cons_zero, List.set_cons_succ]
        refine wpAnyH_take (i := 1) (oi := { dst := some 16, op := Op.move (Operand.tmp 0), type := 30, pos := "outright.go:22", after := #[], guard := none }) (v := ?_) rfl (by kernel_rfl) (by kernel_rfl) (by kernel_rfl) (fun _ _ _ h => h) (Or.inl ⟨by rfl, ?_⟩) (by assumption) ?_
        rotate_left
        · (intro w hSw; (try dsimp only at hSw); go_simp); (first | done | with_reducible rfl)
        try simp only [Act.put, List.setIfInBounds_toArray, List.set_cons_zero, List.set_cons_succ]
        refine wpAnyH_take (i := 2) (oi := { dst := some 17, op := Op.move (Operand.tmp 4), type := 3, pos := "outright.go:22", after := #[], guard := none }) (v := ?_) rfl (by kernel_rfl) (by kernel_rfl) (by kernel_rfl) (fun _ _ _ h => h) (Or.inl ⟨by rfl, ?_⟩) (by assumption) ?_
        rotate_left
        · (intro w hSw; (try dsimp only at hSw); go_simp); (first | done | with_reducible rfl)
        try simp only [Act.put, List.setIfInBounds_toArray, List.set_cons_zero, List.set_cons_succ]
        refine wpAnyH_take (i := 3) (oi := { dst := some 18, op := Op.indexAddr 30 (Operand.tmp 16) (Operand.tmp 17), type := 0, pos := "outright.go:22", after := #[{ on := 1, ground := Ground.data }, { on := 2, ground := Ground.data }], guard := none }) (v := ?_) rfl (by kernel_rfl) (by kernel_rfl) (by kernel_rfl) (fun _ _ _ h => h) (Or.inl ⟨by rfl, ?_⟩) (by assumption) ?_
        rotate_left
        · (intro w hSw; (try dsimp only at hSw); go_simp); (first | done | with_reducible rfl)
        try simp only [Act.put, List.setIfInBounds_toArray, List.set_cons_zero, List.set_cons_succ]
        refine wpAnyH_take (i := 4) (oi := { dst := some 19, op := Op.load 27 (Operand.tmp 18), type := 27, pos := "outright.go:22", after := #[{ on := 3, ground := Ground.data }], guard := none }) (v := ?_) rfl (by kernel_rfl) (by kernel_rfl) (by kernel_rfl) (fun _ _ _ h => h) (Or.inl ⟨by rfl, ?_⟩) (by assumption) ?_
        rotate_left
        · (intro w hSw; (try dsimp only at hSw); go_simp); (first | done | with_reducible rfl)
        try simp only [Act.put, List.setIfInBounds_toArray, List.set_cons_zero, List.set_cons_succ]
        refine wpAnyH_ready (rs := [5, 9]) (by kernel_rfl) (by simp) ?_
        refine AllReadyH.cons (o := { dst := some 20, op := Op.call { callee := Callee.value (Operand.func 12), args := #[Operand.tmp 15, Operand.tmp 19], argTypes := #[24, 27] }, type := 32, pos := "outright.go:22", after := #[{ on := 0, ground := Ground.data }, { on := 4, ground := Ground.data }], guard := none }) rfl (fun K hK => ?_) (AllReadyH.cons (o := { dst := some 5, op := Op.alloc 24, type := 0, pos := "outright.go:22", after := #[], guard := none }) rfl (fun K hK => ?_) (AllReadyH.nil))
        · have CJ := Lib.hid (CA.out _ HB.out)
          go_simp
          go_at_call 12
          with_reducible refine (CJ.out).mono ?_
          rintro e w6 ⟨a6, n6, c6, lg6, nx6, bo, rfl, hb6, hr6⟩
          have HR := Lib.hid (hr6.rebase (HI.out.bel.trans (HB.out.mono HI.out.bel.size)))
          replace HB := Lib.hid (below_step HB.out hb6)
          clear hb6 hr6 CJ
          go_wp2_with fail
          refine hK.out _ _ ?_ (fun hHeld => ?_)
          · exact HSX.out _ HB.out
          clear hK K
          try simp only [Act.put, List.setIfInBounds_toArray, List.set_cons_zero, List.set_cons_succ]
          refine wpAnyH_take (i := 6) (oi := { dst := some 14, op := Op.move (Operand.tmp 20), type := 32, pos := "outright.go:22", after := #[{ on := 5, ground := Ground.data }], guard := none }) (v := ?_) rfl (by kernel_rfl) (by kernel_rfl) (by kernel_rfl) (fun _ _ _ h => h) (Or.inl ⟨by rfl, ?_⟩) (by assumption) ?_
          rotate_left
          · (intro w hSw; (try dsimp only at hSw); go_simp); (first | done | with_reducible rfl)
          try simp only [Act.put, List.setIfInBounds_toArray, List.set_cons_zero, List.set_cons_succ]
          refine wpAnyH_take (i := 7) (oi := { dst := some 21, op := Op.extract (Operand.tmp 14) 0, type := 24, pos := "outright.go:22", after := #[{ on := 6, ground := Ground.data }], guard := none }) (v := ?_) rfl (by kernel_rfl) (by kernel_rfl) (by kernel_rfl) (fun _ _ _ h => h) (Or.inl ⟨by rfl, ?_⟩) (by assumption) ?_
          rotate_left
          · (intro w hSw; (try dsimp only at hSw); go_simp); (first | done | with_reducible rfl)
          try simp only [Act.put, List.setIfInBounds_toArray, List.set_cons_zero, List.set_cons_succ]
          refine wpAnyH_take (i := 8) (oi := { dst := some 22, op := Op.extract (Operand.tmp 14) 1, type := 4, pos := "outright.go:22", after := #[{ on := 6, ground := Ground.data }, { on := 10, ground := Ground.gcOnly Departure.lateStores }], guard := none }) (v := ?_) rfl (by kernel_rfl) (by kernel_rfl) (by kernel_rfl) (fun _ _ _ h => h) (Or.inl ⟨by rfl, ?_⟩) (by assumption) ?_
          rotate_left
          · (intro w hSw; (try dsimp only at hSw); go_simp); (first | done | with_reducible rfl)
          try simp only [Act.put, List.setIfInBounds_toArray, List.set_cons_zero, List.set_cons_succ]
          refine wpAnyH_ready (rs := [9]) (by kernel_rfl) (by simp) ?_
          refine AllReadyH.cons (o := { dst := some 5, op := Op.alloc 24, type := 0, pos := "outright.go:22", after := #[], guard := none }) rfl (fun K hK => ?_) (AllReadyH.nil)
          go_simp
          have hba := (Below.refl w6.heap.size w6).alloc (Nat.le_refl _) (.cells #[.slice none 0 0, .int .i64 0, .int .i64 0] 24)
          have HZ := Lib.hid (bkIn_new stZ 24 w6)
          unfold stZ at HZ
          have HNB := Lib.hid (show wr.heap.size ≤ w6.heap.size from HB.out.size)
          replace HR := Lib.hid (HR.out.below hba)
          replace HB := Lib.hid (below_step HB.out hba)
          clear hba
          generalize hnb : w6.heap.size = nb at *
          clear hnb
          generalize w6.alloc (.cells #[.slice none 0 0, .int .i64 0, .int .i64 0] 24) = wa at *
          refine hK.out _ _ ?_ (fun hHeld => ?_)
          · exact HSX.out _ HB.out
          clear hK K
          try simp only [Act.put, List.setIfInBounds_toArray, List.set_cons_zero, List.set_cons_succ]
          refine wpAnyH_ready (rs := [10]) (by kernel_rfl) (by simp) ?_
          refine AllReadyH.cons (o := { dst := none, op := Op.store 24 (Operand.tmp 5) (Operand.tmp 21), type := 0, pos := "outright.go:22", after := #[{ on := 9, ground := Ground.data }, { on := 7, ground := Ground.data }, { on := 5, ground := Ground.chain }, { on := 0, ground := Ground.phase }, { on := 1, ground := Ground.phase }, { on := 2, ground := Ground.phase }, { on := 3, ground := Ground.phase }, { on := 4, ground := Ground.phase }, { on := 5, ground := Ground.phase }, { on := 6, ground := Ground.phase }, { on := 7, ground := Ground.phase }, { on := 8, ground := Ground.textOnly Departure.lateStores }, { on := 9, ground := Ground.phase }], guard := none }) rfl (fun K hK => ?_) (AllReadyH.nil)
          refine step_store_row16 (by rfl) 24 _ _ (by rfl) nb #[.slice a6 n6 c6, .int .i64 lg6, .int .i64 nx6] (by rfl) (by rfl) 24 _ HZ.out infoSt_size rfl (by simp [Value.oneCell']) ?_
          have HNW := Lib.hid (HR.out.put HZ.out (Nat.le_trans HI.out.bel.size HNB.out))
          replace HB := Lib.hid (below_row16 HB.out HNB.out (stA a6 n6 c6 lg6 nx6))
          unfold stA at HNW HB
          generalize wa.setRow nb #[.slice a6 n6 c6, .int .i64 lg6, .int .i64 nx6] = w8 at *
          refine hK.out _ _ ?_ (fun hHeld => ?_)
          · exact HSX.out _ HB.out
          clear hK K
          try simp only [Act.put, List.setIfInBounds_toArray, List.set_cons_zero, List.set_cons_succ]
          refine wpAnyH_take (i := 11) (oi := { dst := some 6, op := Op.assign (Operand.tmp 22), type := 4, pos := "outright.go:22", after := #[{ on := 8, ground := Ground.data }, { on := 10, ground := Ground.chain }, { on := 0, ground := Ground.phase }, { on := 1, ground := Ground.phase }, { on := 2, ground := Ground.phase }, { on := 3, ground := Ground.phase }, { on := 4, ground := Ground.phase }, { on := 5, ground := Ground.phase }, { on := 6, ground := Ground.phase }, { on := 7, ground := Ground.phase }, { on := 8, ground := Ground.phase }, { on := 9, ground := Ground.phase }, { on := 10, ground := Ground.phase }], guard := none }) (v := ?_) rfl (by kernel_rfl) (by kernel_rfl) (by kernel_rfl) (fun _ _ _ h => h) (Or.inl ⟨by rfl, ?_⟩) (by assumption) ?_
          rotate_left
          · (intro w hSw; (try dsimp only at hSw); go_simp); (first | done | with_reducible rfl)
          refine wpAnyH_done (by kernel_rfl) ?_ _
          go_wp2_with fail
          go_meet
          case rel => exact ⟨nb, bo, rfl, rfl, HB, HNB, HNW⟩
        · go_simp
          have hba := (Below.refl wd.heap.size wd).alloc (Nat.le_refl _) (.cells #[.slice none 0 0, .int .i64 0, .int .i64 0] 24)
          have HZ := Lib.hid (bkIn_new stZ 24 wd)
          unfold stZ at HZ
          have HNB := Lib.hid (show wr.heap.size ≤ wd.heap.size from HB.out.size)
          replace HB := Lib.hid (below_step HB.out hba)
          clear hba
          generalize hnb : wd.heap.size = nb at *
          clear hnb
          generalize wd.alloc (.cells #[.slice none 0 0, .int .i64 0, .int .i64 0] 24) = wa at *
          refine hK.out _ _ ?_ (fun hHeld => ?_)
          · exact HSX.out _ HB.out
          clear hK K
          try simp only [Act.put, List.setIfInBounds_toArray, List.set_cons_zero, List.set_cons_succ]
          refine wpAnyH_ready (rs := [5]) (by kernel_rfl) (by simp) ?_
          refine AllReadyH.cons (o := { dst := some 20, op := Op.call { callee := Callee.value (Operand.func 12), args := #[Operand.tmp 15, Operand.tmp 19], argTypes := #[24, 27] }, type := 32, pos := "outright.go:22", after := #[{ on := 0, ground := Ground.data }, { on := 4, ground := Ground.data }], guard := none }) rfl (fun K hK => ?_) (AllReadyH.nil)
          have CJ := Lib.hid (CA.out _ HB.out)
          go_simp
          go_at_call 12
          with_reducible refine (CJ.out).mono ?_
          rintro e w6 ⟨a6, n6, c6, lg6, nx6, bo, rfl, hb6, hr6⟩
          have HR := Lib.hid (hr6.rebase (HI.out.bel.trans (HB.out.mono HI.out.bel.size)))
          replace HZ := Lib.hid (HZ.out.below hb6)
          replace HB := Lib.hid (below_step HB.out hb6)
          clear hb6 hr6 CJ
          go_wp2_with fail
          refine hK.out _ _ ?_ (fun hHeld => ?_)
          · exact HSX.out _ HB.out
          clear hK K
          try simp only [Act.put, List.setIfInBounds_toArray, List.set_cons_zero, List.set_cons_succ]
          refine wpAnyH_take (i := 6) (oi := { dst := some 14, op := Op.move (Operand.tmp 20), type := 32, pos := "outright.go:22", after := #[{ on := 5, ground := Ground.data }], guard := none }) (v := ?_) rfl (by kernel_rfl) (by kernel_rfl) (by kernel_rfl) (fun _ _ _ h => h) (Or.inl ⟨by rfl, ?_⟩) (by assumption) ?_
          rotate_left
          · (intro w hSw; (try dsimp only at hSw); go_simp); (first | done | with_reducible rfl)
          try simp only [Act.put, List.setIfInBounds_toArray, List.set_cons_zero, List.set_cons_succ]
          refine wpAnyH_take (i := 7) (oi := { dst := some 21, op := Op.extract (Operand.tmp 14) 0, type := 24, pos := "outright.go:22", after := #[{ on := 6, ground := Ground.data }], guard := none }) (v := ?_) rfl (by kernel_rfl) (by kernel_rfl) (by kernel_rfl) (fun _ _ _ h => h) (Or.inl ⟨by rfl, ?_⟩) (by assumption) ?_
          rotate_left
          · (intro w hSw; (try dsimp only at hSw); go_simp); (first | done | with_reducible rfl)
          try simp only [Act.put, List.setIfInBounds_toArray, List.set_cons_zero, List.set_cons_succ]
          refine wpAnyH_take (i := 8) (oi := { dst := some 22, op := Op.extract (Operand.tmp 14) 1, type := 4, pos := "outright.go:22", after := #[{ on := 6, ground := Ground.data }, { on := 10, ground := Ground.gcOnly Departure.lateStores }], guard := none }) (v := ?_) rfl (by kernel_rfl) (by kernel_rfl) (by kernel_rfl) (fun _ _ _ h => h) (Or.inl ⟨by rfl, ?_⟩) (by assumption) ?_
          rotate_left
          · (intro w hSw; (try dsimp only at hSw); go_simp); (first | done | with_reducible rfl)
          try simp only [Act.put, List.setIfInBounds_toArray, List.set_cons_zero, List.set_cons_succ]
          refine wpAnyH_ready (rs := [10]) (by kernel_rfl) (by simp) ?_
          refine AllReadyH.cons (o := { dst := none, op := Op.store 24 (Operand.tmp 5) (Operand.tmp 21), type := 0, pos := "outright.go:22", after := #[{ on := 9, ground := Ground.data }, { on := 7, ground := Ground.data }, { on := 5, ground := Ground.chain }, { on := 0, ground := Ground.phase }, { on := 1, ground := Ground.phase }, { on := 2, ground := Ground.phase }, { on := 3, ground := Ground.phase }, { on := 4, ground := Ground.phase }, { on := 5, ground := Ground.phase }, { on := 6, ground := Ground.phase }, { on := 7, ground := Ground.phase }, { on := 8, ground := Ground.textOnly Departure.lateStores }, { on := 9, ground := Ground.phase }], guard := none }) rfl (fun K hK => ?_) (AllReadyH.nil)
          refine step_store_row16 (by rfl) 24 _ _ (by rfl) nb #[.slice a6 n6 c6, .int .i64 lg6, .int .i64 nx6] (by rfl) (by rfl) 24 _ HZ.out infoSt_size rfl (by simp [Value.oneCell']) ?_
          have HNW := Lib.hid (HR.out.put HZ.out (Nat.le_trans HI.out.bel.size HNB.out))
          replace HB := Lib.hid (below_row16 HB.out HNB.out (stA a6 n6 c6 lg6 nx6))
          unfold stA at HNW HB
          generalize w6.setRow nb #[.slice a6 n6 c6, .int .i64 lg6, .int .i64 nx6] = w8 at *
          refine hK.out _ _ ?_ (fun hHeld => ?_)
          · exact HSX.out _ HB.out
          clear hK K
          try simp only [Act.put, List.setIfInBounds_toArray, List.set_cons_zero, List.set_cons_succ]
          refine wpAnyH_take (i := 11) (oi := { dst := some 6, op := Op.assign (Operand.tmp 22), type := 4, pos := "outright.go:22", after := #[{ on := 8, ground := Ground.data }, { on := 10, ground := Ground.chain }, { on := 0, ground := Ground.phase }, { on := 1, ground := Ground.phase }, { on := 2, ground := Ground.phase }, { on := 3, ground := Ground.phase }, { on := 4, ground := Ground.phase }, { on := 5, ground := Ground.phase }, { on := 6, ground := Ground.phase }, { on := 7, ground := Ground.phase }, { on := 8, ground := Ground.phase }, { on := 9, ground := Ground.phase }, { on := 10, ground := Ground.phase }], guard := none }) (v := ?_) rfl (by kernel_rfl) (by kernel_rfl) (by kernel_rfl) (fun _ _ _ h => h) (Or.inl ⟨by rfl, ?_⟩) (by assumption) ?_
          rotate_left
          · (intro w hSw; (try dsimp only at hSw); go_simp); (first | done | with_reducible rfl)
          refine wpAnyH_done (by kernel_rfl) ?_ _
          go_wp2_with fail
          go_meet
          case rel => exact ⟨nb, bo, rfl, rfl, HB, HNB, HNW⟩
      case rest =>
      obtain ⟨nb, bo, rfl, rfl, HBx, HNB, HNW⟩ := hcut
      have HIx := Lib.hid (HI.out.below HBx.out)
      have HN0 := Lib.hid (show W.heap.size ≤ nb from Nat.le_trans HI.out.bel.size HNB.out)
      have HZx := Lib.hid (HZ.out.below HBx.out)
      clear HI HZ HYk CA HSX
      cases bo with
      | false =>
        have HI2 := Lib.hid (show One16 W B (Ed.bhd Ed.first (eds (L.take (k + 1)))) R5 g5 c5 wc from by
          rw [HSN.out, Ed.bhd_snoc, HS.out]; unfold Ed.stepB; rw [HNW.out.no]; exact HIx.out)
        clear HNW HIx
        go_wp2_with fail
        go_roundw
        case rel => exact ⟨k + 1, R5, g5, c5, by have := HLT.out; omega, by go_num, HI2, HZx⟩
        case measure => have := HLT.out; simp [intOf]; omega
      | true =>
        obtain ⟨t, R6, g6, c6, h1, h2⟩ := HNW.out.yes HN0.out
        have HI2 := Lib.hid (show One16 W B (Ed.bhd Ed.first (eds (L.take (k + 1)))) R6 g6 c6 (wc.setRow B (stA (some ⟨g6, 0, none⟩) R6.length c6 t.log t.next)) from by
          rw [HSN.out, Ed.bhd_snoc, HS.out]; unfold Ed.stepB; rw [h1]; exact h2.put HIx.out.bx HIx.out.b0)
        have HZ2 := Lib.hid (HZx.out.rowOther (G := B) (by have := HG1.out; omega) (stA (some ⟨g6, 0, none⟩) R6.length c6 t.log t.next))
        have s0 : wc.cell? ⟨nb, 0, none⟩ = some (.slice (some ⟨g6, 0, none⟩) R6.length c6) := h2.bx.cell 0
        have s1 : wc.cell? ⟨nb, 1, none⟩ = some (.int .i64 t.log) := h2.bx.cell 1
        have s2 : wc.cell? ⟨nb, 2, none⟩ = some (.int .i64 t.next) := h2.bx.cell 2
        unfold stA at HI2 HZ2
        clear h1 h2 HNW
        go_wp2_with (refine wpList_store_row rfl 24 _ _ rfl B _ rfl rfl 24 _ HIx.out.bx infoSt_size rfl (by simp [Value.oneCell']) ?_; generalize wc.setRow B #[.slice (some ⟨g6, 0, none⟩) R6.length c6, .int .i64 t.log, .int .i64 t.next] = w7 at *)
        go_roundw
        case rel => exact ⟨k + 1, R6, g6, c6, by have := HLT.out; omega, by go_num, HI2, HZ2⟩
        case measure => have := HLT.out; simp [intOf]; omega
    · obtain rfl : k = L.length := by omega
      rw [List.take_length] at HI
      generalize hs : Ed.bhd Ed.first (eds L) = s at *
      have HS := Lib.hid hs
      have s0 : wr.cell? ⟨B, 0, none⟩ = some (.slice (some ⟨g5, 0, none⟩) R5.length c5) := HI.out.bx.cell 0
      have s1 : wr.cell? ⟨B, 1, none⟩ = some (.int .i64 s.log) := HI.out.bx.cell 1
      have s2 : wr.cell? ⟨B, 2, none⟩ = some (.int .i64 s.next) := HI.out.bx.cell 2
      clear hs
      go_wp2_with (refine wpList_store_row rfl 24 _ _ rfl W.heap.size _ rfl rfl 24 _ HZ.out infoSt_size rfl (by simp [Value.oneCell']) ?_)
      exact bodyPost_ret (ret_st1 rfl _ _ W.heap.size rfl (load_st rfl (HZ.out.rowPut (stA (some ⟨g5, 0, none⟩) R5.length c5 s.log s.next)))) rfl ⟨R5, some ⟨g5, 0, none⟩, c5, by rw [HS.out]; rfl, (HI.out.ow.rowSt HZ.out (Nat.le_refl _) _).at_, by rw [HS.out]; exact HI.out.T, by rw [HS.out]; exact HI.out.ok, below_row16 HI.out.bel (Nat.le_refl _) _⟩

end Go.Proofs.Ytfcmjgcjmldpcaa
