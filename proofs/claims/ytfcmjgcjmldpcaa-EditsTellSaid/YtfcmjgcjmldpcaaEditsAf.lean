/- Layer 16: EditsOne, the stage's theorem (genedone.py). -/
import Derived.Test.YtfcmjgcjmldpcaaEditsAe
import Derived.Deep.RegionHeld
import Derived.Deep.CutRange
namespace Go.Proofs.Ytfcmjgcjmldpcaa
set_option linter.unusedVariables false
set_option linter.unusedSimpArgs false
open Go Go.RowKit
attribute [local go_sem ↓] run_index_S
attribute [local go_sem] S_append S_extract

theorem resIn_of {L : List Re} (h : EdsIn L) (hn : (L.length : Int) ≤ 40) (hs : ∀ r, r ∈ L → SmallE r) : ResIn L :=
  ⟨by omega, fun r hr => ⟨by have := (hs r hr).1; omega, by have := (hs r hr).2; omega, fun n hn => ((h.each r hr).fs.each n hn)⟩⟩
/-- Where a key lies, in numbers. -/
theorem find_nat {s : Ed.St} (h : Ed.Ok s) (key : List UInt8) : ∃ F : Nat, (F : Int) = Ed.find s key ∧ F < s.T.length := by
  have h1 := h.below_pos key
  have h2 := Ed.below_le s.T key
  exact ⟨Ed.below s.T key - 1, by unfold Ed.find; omega, by omega⟩
/-- Whether a key lies in a stretch, as the law asks. -/
theorem in_stretch {s : Ed.St} (h : Ed.Ok s) {Rk : List Rt} (hT : tbs Rk = s.T) (key : List UInt8) {q F : Nat} (hq : q < Rk.length) (hF : (F : Int) = Ed.find s key) :
    (q = F ∧ Op.bytesLess key (Rk.getD q rt0).f = false ∧ (stretchTo Rk q = [] ∨ stretchTo Rk q ≠ [] ∧ Op.bytesLess key (stretchTo Rk q) = true)) ∨
    (q ≠ F ∧ (Op.bytesLess key (Rk.getD q rt0).f = true ∨ Op.bytesLess key (Rk.getD q rt0).f = false ∧ stretchTo Rk q ≠ [] ∧ Op.bytesLess key (stretchTo Rk q) = false)) := by
  have hqT : q < s.T.length := by rw [← hT, tbs_length]; exact hq
  have hi := h.isIn_iff key q hqT
  have hf : ∀ k, (s.T.getD k Ed.tb0).f = (Rk.getD k rt0).f := fun k => by rw [← hT, tbs_at]; rfl
  have hlen : s.T.length = Rk.length := by rw [← hT, tbs_length]
  unfold Ed.isIn at hi
  rw [hf, hf, hlen] at hi
  have hne : q + 1 < Rk.length → (Rk.getD (q + 1) rt0).f ≠ [] := fun h1 e => by
    have := (h.each (q + 1) (by omega)).1 (by omega)
    rw [hf (q + 1), e, Ed.less_nil] at this
    cases this
  unfold stretchTo
  by_cases hQ : q = F
  · left
    obtain ⟨h1, h2⟩ := hi.2 (by omega)
    refine ⟨hQ, h1, ?_⟩
    by_cases h3 : q + 1 < Rk.length
    · rw [if_pos h3]; exact .inr ⟨hne h3, h2 h3⟩
    · rw [if_neg h3]; exact .inl rfl
  · right
    refine ⟨hQ, ?_⟩
    cases h1 : Op.bytesLess key (Rk.getD q rt0).f with
    | true => exact .inl rfl
    | false =>
      right
      by_cases h3 : q + 1 < Rk.length
      · rw [if_pos h3]
        refine ⟨rfl, hne h3, ?_⟩
        cases h4 : Op.bytesLess key (Rk.getD (q + 1) rt0).f with
        | false => rfl
        | true => exact absurd (hi.1 ⟨h1, fun _ => h4⟩) (by omega)
      · exact absurd (hi.1 ⟨h1, fun h => absurd h h3⟩) (by omega)
set_option maxHeartbeats 8000000 in
set_option maxRecDepth 100000 in
theorem editsOne_calls (W : World) (v : Value) (hv : UEds W v) (key : List UInt8) (hkl : key.length ≤ 140737488351232) :
    Calls Try.prog 5 #[v, .string (S key)] W fun e w' => e = .returned (.bool true) ∧ Below W.heap.size W w' := by
  obtain ⟨L, lo, lc, rfl, hin, hN⟩ := hv
  have HIN := Lib.hid hin
  have HN := Lib.hid hN
  have CB := Lib.hid (beyond16_any L hin.ok lo lc 40 W hN)
  have hLn := hin.n
  have CL := Lib.hid lives16_any
  clear hin hN
  go_enter Try.func5, Try.ntmps5
  go_wp2_with fail
  with_reducible refine (CB.out).mono ?_
  rintro e w1 ⟨rfl | ⟨rfl, hn40, hsm⟩, rfl⟩
  · go_wp2_with fail
    with_reducible refine (CL.out _).mono ?_
    rintro e w2 ⟨rfl, hb⟩
    have HB := Lib.hid hb
    clear hb
    go_wp2_with fail
    go_ret
    exact ⟨rfl, HB.out⟩
  have HRI := Lib.hid (resIn_of HIN.out hn40 hsm)
  clear hsm
  by_cases hk200 : 200 < key.length
  · have d1 : decide ((200 : Int) < (key.length : Int)) = true := decide_eq_true (by omega)
    have d2 : decide (200 < key.length) = true := decide_eq_true hk200
    go_wp2_with fail
    with_reducible refine (CL.out _).mono ?_
    rintro e w2 ⟨rfl, hb⟩
    have HB := Lib.hid hb
    clear hb
    go_wp2_with fail
    go_ret
    exact ⟨rfl, HB.out⟩
  have d1 : decide ((200 : Int) < (key.length : Int)) = false := decide_eq_false (by omega)
  have d2 : decide (200 < key.length) = false := decide_eq_false hk200
  have C0 := Lib.hid (first16_own W)
  go_wp2_with fail
  with_reducible refine (C0.out).mono ?_
  rintro e w1 ⟨g, cap, rfl, hT⟩
  have hb1 := hT.bel
  have hba := (Below.refl w1.heap.size w1).alloc (Nat.le_refl _) (.cells (stA (some ⟨g, 0, none⟩) 1 cap 1 2) 24)
  have HI0 := Lib.hid (show One16 W w1.heap.size Ed.first [rt0] g cap (w1.alloc (.cells (stA (some ⟨g, 0, none⟩) 1 cap 1 2) 24)) from
    ⟨bkIn_new _ _ w1, hT.below hba, rfl, Ed.ok_first, hb1.size⟩)
  unfold stA at HI0
  clear hba hT hb1 C0 CB d1 d2 hk200
  go_wp2_with fail
  generalize w1.alloc (.cells #[.slice (some ⟨g, 0, none⟩) 1 cap, .int .i64 1, .int .i64 2] 24) = w2 at *
  generalize w1.heap.size = B at *
  go_loopw [6] (fun i wr => ∃ (k : Nat) (s : Ed.St) (R5 : List Rt) (g5 c5 : Nat), k ≤ L.length ∧ i = .int .i64 k ∧ Hid (One16 W B s R5 g5 c5 wr)) (fun i _ => L.length - (intOf i).toNat)
  case atStart => exact ⟨0, Ed.first, [rt0], g, cap, Nat.zero_le _, rfl, HI0⟩
  case round =>
    obtain ⟨k, s, R5, g5, c5, hk, rfl, HI⟩ := hrel
    clear HI0
    by_cases hlt : k < L.length
    · have hki : (k : Int) < (L.length : Int) := by omega
      obtain ⟨gl, oy0, rfl, hc⟩ := (HN.out.below HI.out.bel).off k hlt
      have HLk := Lib.hid (HRI.out.2 _ (Ed.gD_mem (d := re0) hlt))
      have HLT := Lib.hid hlt
      generalize L.getD k re0 = y at *
      obtain ⟨kind, at_, file, fs, fo, fk, key2⟩ := y
      have HYk := Lib.hid hc
      have hlk := HLk.out
      simp only at hlk
      have CA := Lib.hid (show ∀ x, Below wr.heap.size wr x → Calls Try.prog 12 #[.agg #[.slice (some ⟨g5, 0, none⟩) R5.length c5, .int .i64 s.log, .int .i64 s.next], .agg #[.int .i64 kind, .int .i64 at_, .int .i64 file, .slice fo fs.length fk, .string (S key2)]] x (ApplyU s ⟨kind, at_, file, fs, fo, fk, key2⟩ x) from fun x hx => by
        have := applyU_any R5 HI.out.small (some ⟨g5, 0, none⟩) c5 s.log s.next ⟨kind, at_, file, fs, fo, fk, key2⟩ hlk.1 hlk.2.1 hlk.2.2 x ((HI.out.below hx).at_) ((HYk.out.below hx).2.2.2.2.2)
        rwa [HI.out.st] at this)
      clear hc hlk HLk hlt
      go_wp2_with fail
      have HSX := Lib.hid (show ∀ x, Below wr.heap.size wr x → x.cell? ⟨B, 0, none⟩ = some (.slice (some ⟨g5, 0, none⟩) R5.length c5) ∧ x.cell? ⟨B, 1, none⟩ = some (.int .i64 s.log) ∧ x.cell? ⟨B, 2, none⟩ = some (.int .i64 s.next) ∧ x.cell? ⟨gl, oy0 + k * 5, none⟩ = some (.int .i64 kind) ∧ x.cell? ⟨gl, oy0 + k * 5 + 1, none⟩ = some (.int .i64 at_) ∧ x.cell? ⟨gl, oy0 + k * 5 + 2, none⟩ = some (.int .i64 file) ∧ x.cell? ⟨gl, oy0 + k * 5 + 3, none⟩ = some (.slice fo fs.length fk) ∧ x.cell? ⟨gl, oy0 + k * 5 + 4, none⟩ = some (.string (S key2)) from fun x hx => s8_of HI.out HYk.out hx)
      go_cut [7, 8] from 24 to 108 (fun p q wx => ∃ nb bo, p = .pointer (some ⟨nb, 0, none⟩) ∧ q = .bool bo ∧ Hid (Below wr.heap.size wr wx) ∧ Hid (wr.heap.size ≤ nb) ∧ Hid (Nw16 W nb s (⟨kind, at_, file, fs, fo, fk, key2⟩ : Re).ed bo wx))
      case first =>
        have HB := Lib.hid (Below.refl wr.heap.size wr)
        refine wp_region_held_drew (S := fun V => V.cell? ⟨B, 0, none⟩ = some (.slice (some ⟨g5, 0, none⟩) R5.length c5) ∧ V.cell? ⟨B, 1, none⟩ = some (.int .i64 s.log) ∧ V.cell? ⟨B, 2, none⟩ = some (.int .i64 s.next) ∧ V.cell? ⟨gl, oy0 + k * 5, none⟩ = some (.int .i64 kind) ∧ V.cell? ⟨gl, oy0 + k * 5 + 1, none⟩ = some (.int .i64 at_) ∧ V.cell? ⟨gl, oy0 + k * 5 + 2, none⟩ = some (.int .i64 file) ∧ V.cell? ⟨gl, oy0 + k * 5 + 3, none⟩ = some (.slice fo fs.length fk) ∧ V.cell? ⟨gl, oy0 + k * 5 + 4, none⟩ = some (.string (S key2))) (by kernel_rfl) ?_ (fun hHeld => ?_)
        · exact HSX.out _ HB.out.drew
        replace HB := Lib.hid HB.out.drew
        obtain ⟨wd, hwd⟩ : ∃ x, x = World.drew wr := ⟨_, rfl⟩
        rw [← hwd] at HB hHeld ⊢
        clear hwd
        refine wpAnyH_take (i := 0) (oi := { dst := some 31, op := Op.load 24 (Operand.tmp 5), type := 24, pos := "outright.go:37", after := #[], guard := none }) (v := ?_) rfl (by kernel_rfl) (by kernel_rfl) (by kernel_rfl) (fun _ _ _ h => h) (Or.inl ⟨by rfl, ?_⟩) (by assumption) ?_
        rotate_left
        · (intro w hSw; (try dsimp only at hSw); go_simp); (first | done | with_reducible rfl)
        try simp only [Act.put, List.setIfInBounds_toArray, List.set_cons_zero, List.set_cons_succ]
        refine wpAnyH_take (i := 1) (oi := { dst := some 32, op := Op.move (Operand.tmp 0), type := 30, pos := "outright.go:37", after := #[], guard := none }) (v := ?_) rfl (by kernel_rfl) (by kernel_rfl) (by kernel_rfl) (fun _ _ _ h => h) (Or.inl ⟨by rfl, ?_⟩) (by assumption) ?_
        rotate_left
        · (intro w hSw; (try dsimp only at hSw); go_simp); (first | done | with_reducible rfl)
        try simp only [Act.put, List.setIfInBounds_toArray, List.set_cons_zero, List.set_cons_succ]
        refine wpAnyH_take (i := 2) (oi := { dst := some 33, op := Op.move (Operand.tmp 6), type := 3, pos := "outright.go:37", after := #[], guard := none }) (v := ?_) rfl (by kernel_rfl) (by kernel_rfl) (by kernel_rfl) (fun _ _ _ h => h) (Or.inl ⟨by rfl, ?_⟩) (by assumption) ?_
        rotate_left
        · (intro w hSw; (try dsimp only at hSw); go_simp); (first | done | with_reducible rfl)
        try simp only [Act.put, List.setIfInBounds_toArray, List.set_cons_zero, List.set_cons_succ]
        refine wpAnyH_take (i := 3) (oi := { dst := some 34, op := Op.indexAddr 30 (Operand.tmp 32) (Operand.tmp 33), type := 0, pos := "outright.go:37", after := #[{ on := 1, ground := Ground.data }, { on := 2, ground := Ground.data }], guard := none }) (v := ?_) rfl (by kernel_rfl) (by kernel_rfl) (by kernel_rfl) (fun _ _ _ h => h) (Or.inl ⟨by rfl, ?_⟩) (by assumption) ?_
        rotate_left
        · (intro w hSw; (try dsimp only at hSw); go_simp); (first | done | with_reducible rfl)
        try simp only [Act.put, List.setIfInBounds_toArray, List.set_cons_zero, List.set_cons_succ]
        refine wpAnyH_take (i := 4) (oi := { dst := some 35, op := Op.load 27 (Operand.tmp 34), type := 27, pos := "outright.go:37", after := #[{ on := 3, ground := Ground.data }], guard := none }) (v := ?_) rfl (by kernel_rfl) (by kernel_rfl) (by kernel_rfl) (fun _ _ _ h => h) (Or.inl ⟨by rfl, ?_⟩) (by assumption) ?_
        rotate_left
        · (intro w hSw; (try dsimp only at hSw); go_simp); (first | done | with_reducible rfl)
        try simp only [Act.put, List.setIfInBounds_toArray, List.set_cons_zero, List.set_cons_succ]
        refine wpAnyH_ready (rs := [5, 9]) (by kernel_rfl) (by simp) ?_
        refine AllReadyH.cons (o := { dst := some 36, op := Op.call { callee := Callee.value (Operand.func 12), args := #[Operand.tmp 31, Operand.tmp 35], argTypes := #[24, 27] }, type := 32, pos := "outright.go:37", after := #[{ on := 0, ground := Ground.data }, { on := 4, ground := Ground.data }], guard := none }) rfl (fun K hK => ?_) (AllReadyH.cons (o := { dst := some 7, op := Op.alloc 24, type := 0, pos := "outright.go:37", after := #[], guard := none }) rfl (fun K hK => ?_) (AllReadyH.nil))
        · have CJ := Lib.hid (CA.out _ HB.out)
          go_simp
          go_at_call 12
          with_reducible refine (CJ.out).mono ?_
          rintro e w6 ⟨a6, n6, c6, lg6, nx6, bo, rfl, hb6, hr6⟩
          have HR := Lib.hid (hr6.rebase (HI.out.bel.trans (HB.out.mono HI.out.bel.size)))
          replace HB := Lib.hid (below_step HB.out hb6)
          clear hb6 hr6 CJ
          go_wp2_with fail
          refine hK.out _ _ ?_ (fun hHeld => ?_)
          · exact HSX.out _ HB.out
          clear hK K
          try simp only [Act.put, List.setIfInBounds_toArray, List.set_cons_zero, List.set_cons_succ]
          refine wpAnyH_take (i := 6) (oi := { dst := some 30, op := Op.move (Operand.tmp 36), type := 32, pos := "outright.go:37", after := #[{ on := 5, ground := Ground.data }], guard := none }) (v := ?_) rfl (by kernel_rfl) (by kernel_rfl) (by kernel_rfl) (fun _ _ _ h => h) (Or.inl ⟨by rfl, ?_⟩) (by assumption) ?_
          rotate_left
          · (intro w hSw; (try dsimp only at hSw); go_simp); (first | done | with_reducible rfl)
          try simp only [Act.put, List.setIfInBounds_toArray, List.set_cons_zero, List.set_cons_succ]
          refine wpAnyH_take (i := 7) (oi := { dst := some 37, op := Op.extract (Operand.tmp 30) 0, type := 24, pos := "outright.go:37", after := #[{ on := 6, ground := Ground.data }], guard := none }) (v := ?_) rfl (by kernel_rfl) (by kernel_rfl) (by kernel_rfl) (fun _ _ _ h => h) (Or.inl ⟨by rfl, ?_⟩) (by assumption) ?_
          rotate_left
          · (intro w hSw; (try dsimp only at hSw); go_simp); (first | done | with_reducible rfl)
          try simp only [Act.put, List.setIfInBounds_toArray, List.set_cons_zero, List.set_cons_succ]
          refine wpAnyH_take (i := 8) (oi := { dst := some 38, op := Op.extract (Operand.tmp 30) 1, type := 4, pos := "outright.go:37", after := #[{ on := 6, ground := Ground.data }, { on := 10, ground := Ground.gcOnly Departure.lateStores }], guard := none }) (v := ?_) rfl (by kernel_rfl) (by kernel_rfl) (by kernel_rfl) (fun _ _ _ h => h) (Or.inl ⟨by rfl, ?_⟩) (by assumption) ?_
          rotate_left
          · (intro w hSw; (try dsimp only at hSw); go_simp); (first | done | with_reducible rfl)
          try simp only [Act.put, List.setIfInBounds_toArray, List.set_cons_zero, List.set_cons_succ]
          refine wpAnyH_ready (rs := [9]) (by kernel_rfl) (by simp) ?_
          refine AllReadyH.cons (o := { dst := some 7, op := Op.alloc 24, type := 0, pos := "outright.go:37", after := #[], guard := none }) rfl (fun K hK => ?_) (AllReadyH.nil)
          go_simp
          have hba := (Below.refl w6.heap.size w6).alloc (Nat.le_refl _) (.cells #[.slice none 0 0, .int .i64 0, .int .i64 0] 24)
          have HZ := Lib.hid (bkIn_new stZ 24 w6)
          unfold stZ at HZ
          have HNB := Lib.hid (show wr.heap.size ≤ w6.heap.size from HB.out.size)
          replace HR := Lib.hid (HR.out.below hba)
          replace HB := Lib.hid (below_step HB.out hba)
          clear hba
          generalize hnb : w6.heap.size = nb at *
          clear hnb
          generalize w6.alloc (.cells #[.slice none 0 0, .int .i64 0, .int .i64 0] 24) = wa at *
          refine hK.out _ _ ?_ (fun hHeld => ?_)
          · exact HSX.out _ HB.out
          clear hK K
          try simp only [Act.put, List.setIfInBounds_toArray, List.set_cons_zero, List.set_cons_succ]
          refine wpAnyH_ready (rs := [10]) (by kernel_rfl) (by simp) ?_
          refine AllReadyH.cons (o := { dst := none, op := Op.store 24 (Operand.tmp 7) (Operand.tmp 37), type := 0, pos := "outright.go:37", after := #[{ on := 9, ground := Ground.data }, { on := 7, ground := Ground.data }, { on := 5, ground := Ground.chain }, { on := 0, ground := Ground.phase }, { on := 1, ground := Ground.phase }, { on := 2, ground := Ground.phase }, { on := 3, ground := Ground.phase }, { on := 4, ground := Ground.phase }, { on := 5, ground := Ground.phase }, { on := 6, ground := Ground.phase }, { on := 7, ground := Ground.phase }, { on := 8, ground := Ground.textOnly Departure.lateStores }, { on := 9, ground := Ground.phase }], guard := none }) rfl (fun K hK => ?_) (AllReadyH.nil)
          refine step_store_row16 (by rfl) 24 _ _ (by rfl) nb #[.slice a6 n6 c6, .int .i64 lg6, .int .i64 nx6] (by rfl) (by rfl) 24 _ HZ.out infoSt_size rfl (by simp [Value.oneCell']) ?_
          have HNW := Lib.hid (HR.out.put HZ.out (Nat.le_trans HI.out.bel.size HNB.out))
          replace HB := Lib.hid (below_row16 HB.out HNB.out (stA a6 n6 c6 lg6 nx6))
          unfold stA at HNW HB
          generalize wa.setRow nb #[.slice a6 n6 c6, .int .i64 lg6, .int .i64 nx6] = w8 at *
          refine hK.out _ _ ?_ (fun hHeld => ?_)
          · exact HSX.out _ HB.out
          clear hK K
          try simp only [Act.put, List.setIfInBounds_toArray, List.set_cons_zero, List.set_cons_succ]
          refine wpAnyH_take (i := 11) (oi := { dst := some 8, op := Op.assign (Operand.tmp 38), type := 4, pos := "outright.go:37", after := #[{ on := 8, ground := Ground.data }, { on := 10, ground := Ground.chain }, { on := 0, ground := Ground.phase }, { on := 1, ground := Ground.phase }, { on := 2, ground := Ground.phase }, { on := 3, ground := Ground.phase }, { on := 4, ground := Ground.phase }, { on := 5, ground := Ground.phase }, { on := 6, ground := Ground.phase }, { on := 7, ground := Ground.phase }, { on := 8, ground := Ground.phase }, { on := 9, ground := Ground.phase }, { on := 10, ground := Ground.phase }], guard := none }) (v := ?_) rfl (by kernel_rfl) (by kernel_rfl) (by kernel_rfl) (fun _ _ _ h => h) (Or.inl ⟨by rfl, ?_⟩) (by assumption) ?_
          rotate_left
          · (intro w hSw; (try dsimp only at hSw); go_simp); (first | done | with_reducible rfl)
          refine wpAnyH_done (by kernel_rfl) ?_ _
          go_wp2_with fail
          go_meet
          case rel => exact ⟨nb, bo, rfl, rfl, HB, HNB, HNW⟩
        · go_simp
          have hba := (Below.refl wd.heap.size wd).alloc (Nat.le_refl _) (.cells #[.slice none 0 0, .int .i64 0, .int .i64 0] 24)
          have HZ := Lib.hid (bkIn_new stZ 24 wd)
          unfold stZ at HZ
          have HNB := Lib.hid (show wr.heap.size ≤ wd.heap.size from HB.out.size)
          replace HB := Lib.hid (below_step HB.out hba)
          clear hba
          generalize hnb : wd.heap.size = nb at *
          clear hnb
          generalize wd.alloc (.cells #[.slice none 0 0, .int .i64 0, .int .i64 0] 24) = wa at *
          refine hK.out _ _ ?_ (fun hHeld => ?_)
          · exact HSX.out _ HB.out
          clear hK K
          try simp only [Act.put, List.setIfInBounds_toArray, List.set_cons_zero, List.set_cons_succ]
          refine wpAnyH_ready (rs := [5]) (by kernel_rfl) (by simp) ?_
          refine AllReadyH.cons (o := { dst := some 36, op := Op.call { callee := Callee.value (Operand.func 12), args := #[Operand.tmp 31, Operand.tmp 35], argTypes := #[24, 27] }, type := 32, pos := "outright.go:37", after := #[{ on := 0, ground := Ground.data }, { on := 4, ground := Ground.data }], guard := none }) rfl (fun K hK => ?_) (AllReadyH.nil)
          have CJ := Lib.hid (CA.out _ HB.out)
          go_simp
          go_at_call 12
          with_reducible refine (CJ.out).mono ?_
          rintro e w6 ⟨a6, n6, c6, lg6, nx6, bo, rfl, hb6, hr6⟩
          have HR := Lib.hid (hr6.rebase (HI.out.bel.trans (HB.out.mono HI.out.bel.size)))
          replace HZ := Lib.hid (HZ.out.below hb6)
          replace HB := Lib.hid (below_step HB.out hb6)
          clear hb6 hr6 CJ
          go_wp2_with fail
          refine hK.out _ _ ?_ (fun hHeld => ?_)
          · exact HSX.out _ HB.out
          clear hK K
          try simp only [Act.put, List.setIfInBounds_toArray, List.set_cons_zero, List.set_cons_succ]
          refine wpAnyH_take (i := 6) (oi := { dst := some 30, op := Op.move (Operand.tmp 36), type := 32, pos := "outright.go:37", after := #[{ on := 5, ground := Ground.data }], guard := none }) (v := ?_) rfl (by kernel_rfl) (by kernel_rfl) (by kernel_rfl) (fun _ _ _ h => h) (Or.inl ⟨by rfl, ?_⟩) (by assumption) ?_
          rotate_left
          · (intro w hSw; (try dsimp only at hSw); go_simp); (first | done | with_reducible rfl)
          try simp only [Act.put, List.setIfInBounds_toArray, List.set_cons_zero, List.set_cons_succ]
          refine wpAnyH_take (i := 7) (oi := { dst := some 37, op := Op.extract (Operand.tmp 30) 0, type := 24, pos := "outright.go:37", after := #[{ on := 6, ground := Ground.data }], guard := none }) (v := ?_) rfl (by kernel_rfl) (by kernel_rfl) (by kernel_rfl) (fun _ _ _ h => h) (Or.inl ⟨by rfl, ?_⟩) (by assumption) ?_
          rotate_left
          · (intro w hSw; (try dsimp only at hSw); go_simp); (first | done | with_reducible rfl)
          try simp only [Act.put, List.setIfInBounds_toArray, List.set_cons_zero, List.set_cons_succ]
          refine wpAnyH_take (i := 8) (oi := { dst := some 38, op := Op.extract (Operand.tmp 30) 1, type := 4, pos := "outright.go:37", after := #[{ on := 6, ground := Ground.data }, { on := 10, ground := Ground.gcOnly Departure.lateStores }], guard := none }) (v := ?_) rfl (by kernel_rfl) (by kernel_rfl) (by kernel_rfl) (fun _ _ _ h => h) (Or.inl ⟨by rfl, ?_⟩) (by assumption) ?_
          rotate_left
          · (intro w hSw; (try dsimp only at hSw); go_simp); (first | done | with_reducible rfl)
          try simp only [Act.put, List.setIfInBounds_toArray, List.set_cons_zero, List.set_cons_succ]
          refine wpAnyH_ready (rs := [10]) (by kernel_rfl) (by simp) ?_
          refine AllReadyH.cons (o := { dst := none, op := Op.store 24 (Operand.tmp 7) (Operand.tmp 37), type := 0, pos := "outright.go:37", after := #[{ on := 9, ground := Ground.data }, { on := 7, ground := Ground.data }, { on := 5, ground := Ground.chain }, { on := 0, ground := Ground.phase }, { on := 1, ground := Ground.phase }, { on := 2, ground := Ground.phase }, { on := 3, ground := Ground.phase }, { on := 4, ground := Ground.phase }, { on := 5, ground := Ground.phase }, { on := 6, ground := Ground.phase }, { on := 7, ground := Ground.phase }, { on := 8, ground := Ground.textOnly Departure.lateStores }, { on := 9, ground := Ground.phase }], guard := none }) rfl (fun K hK => ?_) (AllReadyH.nil)
          refine step_store_row16 (by rfl) 24 _ _ (by rfl) nb #[.slice a6 n6 c6, .int .i64 lg6, .int .i64 nx6] (by rfl) (by rfl) 24 _ HZ.out infoSt_size rfl (by simp [Value.oneCell']) ?_
          have HNW := Lib.hid (HR.out.put HZ.out (Nat.le_trans HI.out.bel.size HNB.out))
          replace HB := Lib.hid (below_row16 HB.out HNB.out (stA a6 n6 c6 lg6 nx6))
          unfold stA at HNW HB
          generalize w6.setRow nb #[.slice a6 n6 c6, .int .i64 lg6, .int .i64 nx6] = w8 at *
          refine hK.out _ _ ?_ (fun hHeld => ?_)
          · exact HSX.out _ HB.out
          clear hK K
          try simp only [Act.put, List.setIfInBounds_toArray, List.set_cons_zero, List.set_cons_succ]
          refine wpAnyH_take (i := 11) (oi := { dst := some 8, op := Op.assign (Operand.tmp 38), type := 4, pos := "outright.go:37", after := #[{ on := 8, ground := Ground.data }, { on := 10, ground := Ground.chain }, { on := 0, ground := Ground.phase }, { on := 1, ground := Ground.phase }, { on := 2, ground := Ground.phase }, { on := 3, ground := Ground.phase }, { on := 4, ground := Ground.phase }, { on := 5, ground := Ground.phase }, { on := 6, ground := Ground.phase }, { on := 7, ground := Ground.phase }, { on := 8, ground := Ground.phase }, { on := 9, ground := Ground.phase }, { on := 10, ground := Ground.phase }], guard := none }) (v := ?_) rfl (by kernel_rfl) (by kernel_rfl) (by kernel_rfl) (fun _ _ _ h => h) (Or.inl ⟨by rfl, ?_⟩) (by assumption) ?_
          rotate_left
          · (intro w hSw; (try dsimp only at hSw); go_simp); (first | done | with_reducible rfl)
          refine wpAnyH_done (by kernel_rfl) ?_ _
          go_wp2_with fail
          go_meet
          case rel => exact ⟨nb, bo, rfl, rfl, HB, HNB, HNW⟩
      case rest =>
      obtain ⟨nb, bo, rfl, rfl, HBx, HNB, HNW⟩ := hcut
      have HIx := Lib.hid (HI.out.below HBx.out)
      have HN0 := Lib.hid (show W.heap.size ≤ nb from Nat.le_trans HI.out.bel.size HNB.out)
      clear HI HYk CA HSX HNB HBx
      cases bo with
      | false =>
        clear HNW
        go_wp2_with fail
        go_roundw
        case rel => exact ⟨k + 1, s, R5, g5, c5, by have := HLT.out; omega, by go_num, HIx⟩
        case measure => have := HLT.out; simp [intOf]; omega
      | true =>
        obtain ⟨t, R6, g6, c6, h1, h2⟩ := HNW.out.yes HN0.out
        have HA := Lib.hid (Ed.apply_next h1)
        have HJ := Lib.hid h2
        have CK := Lib.hid (check16_any R6 h2.small (some ⟨g6, 0, none⟩) c6 t.log t.next wc h2.at_)
        unfold stV at CK
        have s0 : wc.cell? ⟨nb, 0, none⟩ = some (.slice (some ⟨g6, 0, none⟩) R6.length c6) := h2.bx.cell 0
        have s1 : wc.cell? ⟨nb, 1, none⟩ = some (.int .i64 t.log) := h2.bx.cell 1
        have s2 : wc.cell? ⟨nb, 2, none⟩ = some (.int .i64 t.next) := h2.bx.cell 2
        clear h1 h2 HNW
        go_wp2_with fail
        with_reducible refine (CK.out).mono ?_
        rintro e w5 ⟨bk, rfl, hbi, hb5⟩
        obtain rfl : bk = true := hbi.2 (by rw [HJ.out.st]; exact HJ.out.ok)
        replace HJ := Lib.hid (HJ.out.below hb5)
        replace HIx := Lib.hid (HIx.out.below hb5)
        clear hbi hb5 CK s0 s1 s2
        have s0 : w5.cell? ⟨nb, 0, none⟩ = some (.slice (some ⟨g6, 0, none⟩) R6.length c6) := HJ.out.bx.cell 0
        have s1 : w5.cell? ⟨nb, 1, none⟩ = some (.int .i64 t.log) := HJ.out.bx.cell 1
        have s2 : w5.cell? ⟨nb, 2, none⟩ = some (.int .i64 t.next) := HJ.out.bx.cell 2
        have z1 : w5.cell? ⟨B, 1, none⟩ = some (.int .i64 s.log) := HIx.out.bx.cell 1
        have z2 : w5.cell? ⟨B, 2, none⟩ = some (.int .i64 s.next) := HIx.out.bx.cell 2
        have e1 : decide (t.next < s.next) = false := decide_eq_false (by have := HA.out; omega)
        have e2 : decide (t.log < s.log) = false := decide_eq_false (by have := HA.out; omega)
        have HI2 := Lib.hid (HJ.out.put HIx.out.bx HIx.out.b0)
        unfold stA at HI2
        go_wp2_with (refine wpList_store_row rfl 24 _ _ rfl B _ rfl rfl 24 _ HIx.out.bx infoSt_size rfl (by simp [Value.oneCell']) ?_; generalize w5.setRow B #[.slice (some ⟨g6, 0, none⟩) R6.length c6, .int .i64 t.log, .int .i64 t.next] = w6 at *)
        clear s0 s1 s2 z1 z2 e1 e2 HJ HIx HA
        obtain ⟨F, hF, hFn⟩ := find_nat HI2.out.ok key
        have HF := Lib.hid (show (F : Int) = Ed.find t key ∧ F < R6.length from ⟨hF, by rw [← HI2.out.T, tbs_length] at hFn; exact hFn⟩)
        have hn6 : R6.length ≤ 16 := by have := HI2.out.ok.n16; rw [← HI2.out.T, tbs_length] at this; exact this
        clear hF hFn
        go_loopw [9, 10, 11] (fun m a i wr => ∃ (q : Nat) (mm aa : Int), q ≤ R6.length ∧ i = .int .i64 q ∧ m = .int .i64 mm ∧ a = .int .i64 aa ∧ Hid ((q ≤ F ∧ mm = 0 ∧ aa = -1) ∨ (F < q ∧ mm = 1 ∧ aa = F)) ∧ Hid (One16 W B t R6 g6 c6 wr)) (fun m a i _ => R6.length - (intOf i).toNat)
        case atStart => exact ⟨0, 0, -1, Nat.zero_le _, rfl, rfl, rfl, Lib.hid (.inl ⟨Nat.zero_le _, rfl, rfl⟩), HI2⟩
        case round =>
          obtain ⟨q, mm, aa, hq, rfl, rfl, rfl, HQ, HIq⟩ := hrel
          clear HI2
          have s0 : wr.cell? ⟨B, 0, none⟩ = some (.slice (some ⟨g6, 0, none⟩) R6.length c6) := HIq.out.bx.cell 0
          have s1 : wr.cell? ⟨B, 1, none⟩ = some (.int .i64 t.log) := HIq.out.bx.cell 1
          have s2 : wr.cell? ⟨B, 2, none⟩ = some (.int .i64 t.next) := HIq.out.bx.cell 2
          by_cases hqn : q < R6.length
          · have hqi : (q : Int) < (R6.length : Int) := by omega
            have CS := Lib.hid (stretch16_any R6 HIq.out.small (some ⟨g6, 0, none⟩) c6 t.log t.next q wr HIq.out.at_)
            unfold stV at CS
            go_wp2_with fail
            with_reducible refine (CS.out).mono ?_
            rintro e w7 ⟨hb7, (⟨k', e1, e2, _, rfl⟩ | ⟨hno, rfl⟩)⟩
            rotate_left
            · exact absurd ⟨by unfold stArg; rw [HIq.out.st]; exact HIq.out.ok, by omega, by omega⟩ hno
            obtain rfl : q = k' := by omega
            have HI7 := Lib.hid (HIq.out.below hb7)
            clear hb7 e1 CS s0 s1 s2
            have s0 : w7.cell? ⟨B, 0, none⟩ = some (.slice (some ⟨g6, 0, none⟩) R6.length c6) := HI7.out.bx.cell 0
            have x0 : w7.cell? ⟨g6, q * 2, none⟩ = some (.string (S (R6.getD q rt0).f)) := by
              obtain ⟨g', o', e, ct⟩ := HI7.out.at_.off q hqn
              cases e
              have := ct.1
              rwa [Nat.zero_add] at this
            have HX := Lib.hid (in_stretch HI7.out.ok HI7.out.T key hqn HF.out.1)
            have HQN := Lib.hid hqn
            generalize (R6.getD q rt0).f = f at *
            generalize stretchTo R6 q = to_ at *
            clear HIq
            rcases HX.out with ⟨hqF, h1, h2 | ⟨h2, h3⟩⟩ | ⟨hqF, h1 | ⟨h1, h2, h3⟩⟩
            · have HR := Lib.hid (show (q + 1 ≤ F ∧ mm + 1 = 0 ∧ (q : Int) = -1) ∨ (F < q + 1 ∧ mm + 1 = 1 ∧ (q : Int) = F) from by have := HQ.out; omega)
              have HM := Lib.hid (show mm = 0 from by have := HQ.out; omega)
              obtain rfl := HM.out
              clear hqF HQ HX HM
              subst h2
              go_wp2_with fail
              go_roundw
              case rel => exact ⟨q + 1, 0 + 1, q, by have := HQN.out; omega, by go_num, by go_num, rfl, HR, HI7⟩
              case measure => have := HQN.out; simp [intOf]; omega
            · have HR := Lib.hid (show (q + 1 ≤ F ∧ mm + 1 = 0 ∧ (q : Int) = -1) ∨ (F < q + 1 ∧ mm + 1 = 1 ∧ (q : Int) = F) from by have := HQ.out; omega)
              have HM := Lib.hid (show mm = 0 from by have := HQ.out; omega)
              obtain rfl := HM.out
              have h4 : (to_ == []) = false := by simpa using h2
              clear hqF HQ HX HM
              go_wp2_with fail
              go_roundw
              case rel => exact ⟨q + 1, 0 + 1, q, by have := HQN.out; omega, by go_num, by go_num, rfl, HR, HI7⟩
              case measure => have := HQN.out; simp [intOf]; omega
            · have HR := Lib.hid (show (q + 1 ≤ F ∧ mm = 0 ∧ aa = -1) ∨ (F < q + 1 ∧ mm = 1 ∧ aa = F) from by have := HQ.out; omega)
              clear hqF HQ HX
              go_wp2_with fail
              go_roundw
              case rel => exact ⟨q + 1, mm, aa, by have := HQN.out; omega, by go_num, rfl, rfl, HR, HI7⟩
              case measure => have := HQN.out; simp [intOf]; omega
            · have HR := Lib.hid (show (q + 1 ≤ F ∧ mm = 0 ∧ aa = -1) ∨ (F < q + 1 ∧ mm = 1 ∧ aa = F) from by have := HQ.out; omega)
              have h4 : (to_ == []) = false := by simpa using h2
              clear hqF HQ HX
              go_wp2_with fail
              go_roundw
              case rel => exact ⟨q + 1, mm, aa, by have := HQN.out; omega, by go_num, rfl, rfl, HR, HI7⟩
              case measure => have := HQN.out; simp [intOf]; omega
          · obtain rfl : q = R6.length := by omega
            have HM := Lib.hid (show mm = 1 ∧ aa = F from by have := HQ.out; have := HF.out; omega)
            obtain ⟨rfl, rfl⟩ := HM.out
            have CF := Lib.hid (find16_any R6 HIq.out.small (some ⟨g6, 0, none⟩) c6 t.log t.next key wr HIq.out.at_)
            unfold stV at CF
            clear HQ HM
            go_wp2_with fail
            with_reducible refine (CF.out).mono ?_
            rintro e w8 ⟨fi, rfl, hf1, _, hb8⟩
            obtain rfl : fi = (F : Int) := by
              rw [hf1 (by unfold stArg; rw [HIq.out.st]; exact HIq.out.ok), HF.out.1]
              unfold stArg; rw [HIq.out.st]
            have HI8 := Lib.hid (HIq.out.below hb8)
            clear hf1 hb8 CF s0 s1 s2 HIq
            have e1 : ((F : Int) != (F : Int)) = false := by simp
            go_wp2_with fail
            go_roundw
            case rel => exact ⟨k + 1, t, R6, g6, c6, by have := HLT.out; omega, by go_num, HI8⟩
            case measure => have := HLT.out; simp [intOf]; omega
    · obtain rfl : k = L.length := by omega
      go_wp2_with fail
      with_reducible refine (CL.out _).mono ?_
      rintro e w2 ⟨rfl, hb⟩
      have HB := Lib.hid (below_step HI.out.bel hb)
      clear hb
      go_wp2_with fail
      go_ret
      exact ⟨rfl, HB.out⟩

end Go.Proofs.Ytfcmjgcjmldpcaa
