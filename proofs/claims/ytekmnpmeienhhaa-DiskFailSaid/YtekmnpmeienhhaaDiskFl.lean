/- Layer 5: DiskFail, walked. -/
import Derived.Test.YtekmnpmeienhhaaDiskFc
import Derived.Deep.RegionHeld
namespace Go.Proofs.Ytekmnpmeienhhaa
set_option linter.unusedVariables false
open Go Go.RowKit Go.Maps

/-- What the law of failures carries from act to act. -/
structure Fl5 (V : World) (P : Nat → Prop) (B a b : Nat) (ks : List Int) (lf i : Nat) (D : Dk.St) (w : World) : Prop where
  two : Two5 P B a b (Dk.wset D (some (lf, ks))) D w
  up : D.up = true
  set : D.set = none
  starts : D.starts ≤ 400 + i
  bel : Below B V w
  lf : lf ≤ 15
section
variable {V w w' : World} {P P' : Nat → Prop} {B a b lf i : Nat} {ks : List Int} {D D' : Dk.St}
theorem Fl5.below (h : Fl5 V P B a b ks lf i D w) (hb : Below w.heap.size w w') : Fl5 V P B a b ks lf i D w' := ⟨h.two.below hb, h.up, h.set, h.starts, h.bel.trans (hb.mono (by obtain ⟨_, _, _, _, _, _, _, q⟩ := h.two; exact q)), h.lf⟩
theorem Fl5.newrow (h : Fl5 V P B a b ks lf i D w) (hb : Below w.heap.size w w') : Fl5 V (fun q => P q ∨ (w.heap.size ≤ q ∧ q < w'.heap.size)) B a b ks lf i D w' := ⟨h.two.newrow hb, h.up, h.set, h.starts, h.bel.trans (hb.mono (by obtain ⟨_, _, _, _, _, _, _, q⟩ := h.two; exact q)), h.lf⟩
theorem Fl5.less (h : Fl5 V P B a b ks lf i D w) (hP : ∀ k, P' k → P k) : Fl5 V P' B a b ks lf i D w := ⟨h.two.less hP, h.up, h.set, h.starts, h.bel, h.lf⟩
theorem Fl5.next (h : Fl5 V P B a b ks lf i D w) : Fl5 V P B a b ks lf (i + 1) D w := ⟨h.two, h.up, h.set, by have := h.starts; omega, h.bel, h.lf⟩
theorem Two5.size (h : Two5 P B a b D D' w) : B ≤ w.heap.size := by obtain ⟨_, _, _, _, _, _, _, q⟩ := h; exact q
end
set_option maxRecDepth 100000 in
set_option maxHeartbeats 16000000 in
theorem diskFail_calls (W : World) (v : Value) (hv : URas2 W v) (n : Int) (hn8 : (Lit.int .u8 n).wf = true) (u : Value) (hu : UNs5 W u) : Calls Try.prog 6 #[v, .int .u8 n, u] W fun e w' => e = .returned (.bool true) ∧ Below W.heap.size W w' := by
  obtain ⟨L1, L2, ao1, ao2, k1, k2, rfl, hI1, hI2, hA1, hA2⟩ := hv
  obtain ⟨ks, ko, kc, rfl, hKI, hKA⟩ := hu
  have hn := u8_wf5 hn8
  obtain ⟨m, hm, hm15⟩ : ∃ m : Nat, n % 16 = (m : Int) ∧ m ≤ 15 := ⟨(n % 16).toNat, by omega, by omega⟩
  have hkn := hKI.n
  have HKI := Lib.hid hKI
  have CD := Lib.hid does5
  have hb0 := (Below.refl W.heap.size W).alloc (Nat.le_refl _) (.cells #[.slice ao1 L1.length k1, .slice ao2 L2.length k2] 59)
  obtain ⟨w0, hw0⟩ : ∃ x, x = W.alloc (.cells #[.slice ao1 L1.length k1, .slice ao2 L2.length k2] 59) := ⟨_, rfl⟩
  obtain ⟨p, hp⟩ : ∃ x, x = W.heap.size := ⟨_, rfl⟩
  have HXB := Lib.hid (show Bk #[.slice ao1 L1.length k1, .slice ao2 L2.length k2] 59 w0 p from by rw [hw0, hp]; exact bk_new _ _ _)
  have HB0 := Lib.hid (show Below W.heap.size W w0 from by rw [hw0]; exact hb0)
  have CG1 := Lib.hid (great5 L1 ao1 k1 w0 hI1 (hA1.below HB0.out))
  have CG2 := Lib.hid (great5 L2 ao2 k2 w0 hI2 (hA2.below HB0.out))
  have CP := Lib.hid (fun hF wx (hx : Below W.heap.size W wx) => (show Calls Try.prog 34 #[.int .u16 3000, .slice ao1 L1.length k1] wx (PlayR L1 3001 wx) from played5 L1 ao1 k1 wx 3000 3001 hI1 hF (hA1.below hx) (by decide) (by decide)))
  have HKA := Lib.hid hKA
  have HI2 := Lib.hid hI2
  have HA2 := Lib.hid hA2
  have hl1 := hI1.n
  have hl2 := hI2.n
  have HKB := Lib.hid (show ∀ x, ks ≠ [] → ko = some x → x.block < W.heap.size from fun x hx ha => by
    obtain ⟨g, off, e, hc⟩ := hKA hx
    rw [ha] at e
    cases e
    exact cell_lt5 (hc 0 (List.length_pos_iff.2 hx)))
  have HAR := Lib.hid (show ∀ q, (Dk.acts L1 (Dk.new q)).starts ≤ L1.length from fun q => by have h1 := (Dk.acts_kin L1 (Dk.new q)).2; have h2 : (Dk.new q).starts = 0 := rfl; omega)
  clear hKI hKA hn8 hb0 hI1 hI2 hA1 hA2
  go_enter Try.func6, Try.ntmps6
  go_upto_region 1 with fail
  rw [← hw0, ← hp]
  clear hw0
  have HPW := Lib.hid hp
  clear hp
  have x0 : w0.cell? ⟨p, 0, none⟩ = some (.slice ao1 L1.length k1) := HXB.out.cell 0
  have x1 : w0.cell? ⟨p, 1, none⟩ = some (.slice ao2 L2.length k2) := HXB.out.cell 1
  go_wp2_with fail
  with_reducible refine CG1.out.mono ?_
  rintro e w2 (⟨rfl, rfl⟩ | ⟨rfl, hF1, rfl⟩)
  · go_wp2_with fail
    go_ret
    exact ⟨rfl, HB0.out⟩
  go_wp2_with fail
  with_reducible refine CG2.out.mono ?_
  rintro e w2 (⟨rfl, rfl⟩ | ⟨rfl, hF2, rfl⟩)
  · go_wp2_with fail
    go_ret
    exact ⟨rfl, HB0.out⟩
  by_cases hk100 : 100 < ks.length
  · have d1 : decide ((100 : Int) < (ks.length : Int)) = true := by simp; omega
    go_wp2_with fail
    go_ret
    exact ⟨rfl, HB0.out⟩
  have d1 : decide ((100 : Int) < (ks.length : Int)) = false := by simp; omega
  have HKS := Lib.hid (HKI.out.ks (by omega))
  replace CP := Lib.hid (CP.out hF1)
  have HF2 := Lib.hid hF2
  have hL1 := hF1.n
  have hL2 := hF2.n
  replace HAR := Lib.hid (show (Dk.acts L1 (Dk.new 3001)).starts ≤ 150 from Nat.le_trans (HAR.out 3001) hL1)
  clear hF1 hF2 CG1 CG2 HKI x0 x1
  go_upto_region 3 with fail
  refine wp_region_held_drew (S := fun V => V.cell? ⟨p, 0, none⟩ = some (.slice ao1 L1.length k1)) (by kernel_rfl) ?_ (fun hHeld => ?_)
  · exact (HXB.out.below (Below.refl _ _).drew).cell 0
  replace HXB := Lib.hid (HXB.out.below (Below.refl _ _).drew)
  replace HB0 := Lib.hid HB0.out.drew
  obtain ⟨wd, hwd⟩ : ∃ x, x = World.drew w0 := ⟨_, rfl⟩
  rw [← hwd] at HXB HB0 hHeld ⊢
  clear hwd
  have HXD := HXB
  refine wpAnyH_take (i := 0) (oi := { dst := some 29, op := Op.indexAddr 59 (Operand.tmp 3) (Operand.const (Value.int IntKind.i64 0)), type := 0, pos := "outright.go:84", after := #[], guard := none }) (v := ?_) rfl (by kernel_rfl) (by kernel_rfl) (by kernel_rfl) (fun _ _ _ h => h) (Or.inl ⟨by rfl, ?_⟩) (by assumption) ?_
  rotate_left
  · (intro w hSw; (try dsimp only at hSw); go_simp); (first | done | with_reducible rfl)
  try simp only [Act.put, List.setIfInBounds_toArray, List.set_cons_zero, List.set_cons_succ]
  refine wpAnyH_take (i := 1) (oi := { dst := some 30, op := Op.load 22 (Operand.tmp 29), type := 22, pos := "outright.go:84", after := #[{ on := 0, ground := Ground.data }], guard := none }) (v := ?_) rfl (by kernel_rfl) (by kernel_rfl) (by kernel_rfl) (fun _ _ _ h => h) (Or.inl ⟨by rfl, ?_⟩) (by assumption) ?_
  rotate_left
  · (intro w hSw; (try dsimp only at hSw); go_simp); (first | done | with_reducible rfl)
  try simp only [Act.put, List.setIfInBounds_toArray, List.set_cons_zero, List.set_cons_succ]
  refine wpAnyH_take (i := 3) (oi := { dst := some 32, op := Op.indexAddr 59 (Operand.tmp 3) (Operand.const (Value.int IntKind.i64 0)), type := 0, pos := "outright.go:84", after := #[], guard := none }) (v := ?_) rfl (by kernel_rfl) (by kernel_rfl) (by kernel_rfl) (fun _ _ _ h => h) (Or.inl ⟨by rfl, ?_⟩) (by assumption) ?_
  rotate_left
  · (intro w hSw; (try dsimp only at hSw); go_simp); (first | done | with_reducible rfl)
  try simp only [Act.put, List.setIfInBounds_toArray, List.set_cons_zero, List.set_cons_succ]
  refine wpAnyH_take (i := 4) (oi := { dst := some 33, op := Op.load 22 (Operand.tmp 32), type := 22, pos := "outright.go:84", after := #[{ on := 3, ground := Ground.data }], guard := none }) (v := ?_) rfl (by kernel_rfl) (by kernel_rfl) (by kernel_rfl) (fun _ _ _ h => h) (Or.inl ⟨by rfl, ?_⟩) (by assumption) ?_
  rotate_left
  · (intro w hSw; (try dsimp only at hSw); go_simp); (first | done | with_reducible rfl)
  try simp only [Act.put, List.setIfInBounds_toArray, List.set_cons_zero, List.set_cons_succ]
  refine wpAnyH_ready (rs := [2]) (by kernel_rfl) (by simp) ?_
  refine AllReadyH.cons (o := { dst := some 31, op := Op.call { callee := Callee.value (Operand.func 34), args := #[Operand.const (Value.int IntKind.u16 3000), Operand.tmp 30], argTypes := #[53, 22] }, type := 24, pos := "outright.go:84", after := #[{ on := 1, ground := Ground.data }], guard := none }) rfl (fun K hK => ?_) AllReadyH.nil
  go_simp
  have CJ := Lib.hid (CP.out _ HB0.out)
  go_simp
  go_at_call 34
  with_reducible refine (CJ.out).mono ?_
  rintro e wa ⟨a, rfl, ha, hba, hga⟩
  have HA := Lib.hid ha
  have HBA := Lib.hid hba
  replace HXB := Lib.hid (HXB.out.below hba)
  have CK := Lib.hid (CP.out _ (below_step HB0.out hba))
  clear ha hba hga CJ CP
  go_wp2_with fail
  refine hK.out _ _ ?_ (fun hHeld => ?_)
  · exact HXB.out.cell 0
  clear hK K
  try simp only [Act.put, List.setIfInBounds_toArray, List.set_cons_zero, List.set_cons_succ]
  refine wpAnyH_ready (rs := [5]) (by kernel_rfl) (by simp) ?_
  refine AllReadyH.cons (o := { dst := some 34, op := Op.call { callee := Callee.value (Operand.func 34), args := #[Operand.const (Value.int IntKind.u16 3000), Operand.tmp 33], argTypes := #[53, 22] }, type := 24, pos := "outright.go:84", after := #[{ on := 4, ground := Ground.data }, { on := 2, ground := Ground.chain }], guard := none }) rfl (fun K hK => ?_) AllReadyH.nil
  go_simp
  go_simp
  go_at_call 34
  with_reducible refine (CK.out).mono ?_
  rintro e wb ⟨b, rfl, hb, hbb, hgb⟩
  have HT := Lib.hid (two5_of HA.out hb hbb (Nat.le_refl _) HBA.out.size)
  replace HXB := Lib.hid (HXB.out.below hbb)
  have HBB := Lib.hid (below_step HBA.out hbb)
  clear hb hbb hgb CK HA HBA
  go_wp2_with fail
  refine hK.out _ _ ?_ (fun hHeld => ?_)
  · exact HXB.out.cell 0
  clear hK K
  try simp only [Act.put, List.setIfInBounds_toArray, List.set_cons_zero, List.set_cons_succ]
  refine wpAnyH_take (i := 6) (oi := { dst := some 7, op := Op.assign (Operand.tmp 31), type := 24, pos := "outright.go:84", after := #[{ on := 2, ground := Ground.data }, { on := 5, ground := Ground.chain }, { on := 0, ground := Ground.phase }, { on := 1, ground := Ground.phase }, { on := 2, ground := Ground.phase }, { on := 3, ground := Ground.textOnly Departure.lateStores }, { on := 4, ground := Ground.textOnly Departure.lateStores }, { on := 5, ground := Ground.textOnly Departure.lateStoresUnsure }], guard := none }) (v := ?_) rfl (by kernel_rfl) (by kernel_rfl) (by kernel_rfl) (fun _ _ _ h => h) (Or.inl ⟨by rfl, ?_⟩) (by assumption) ?_
  rotate_left
  · (intro w hSw; (try dsimp only at hSw); go_simp); (first | done | with_reducible rfl)
  try simp only [Act.put, List.setIfInBounds_toArray, List.set_cons_zero, List.set_cons_succ]
  refine wpAnyH_take (i := 7) (oi := { dst := some 8, op := Op.assign (Operand.tmp 34), type := 24, pos := "outright.go:84", after := #[{ on := 5, ground := Ground.data }, { on := 6, ground := Ground.chain }, { on := 0, ground := Ground.phase }, { on := 1, ground := Ground.phase }, { on := 2, ground := Ground.phase }, { on := 3, ground := Ground.phase }, { on := 4, ground := Ground.phase }, { on := 5, ground := Ground.phase }, { on := 6, ground := Ground.phase }], guard := none }) (v := ?_) rfl (by kernel_rfl) (by kernel_rfl) (by kernel_rfl) (fun _ _ _ h => h) (Or.inl ⟨by rfl, ?_⟩) (by assumption) ?_
  rotate_left
  · (intro w hSw; (try dsimp only at hSw); go_simp); (first | done | with_reducible rfl)
  refine wpAnyH_done (by kernel_rfl) ?_ _
  generalize Dk.acts L1 (Dk.new 3001) = D at *
  obtain ⟨B, hBd⟩ : ∃ x, x = wd.heap.size := ⟨_, rfl⟩
  have HBW := Lib.hid (show W.heap.size ≤ B from by rw [hBd]; exact HB0.out.size)
  have HPB := Lib.hid (show p < B from by rw [hBd]; exact HXD.out.lt)
  replace HT := Lib.hid (show Two5 (fun _ => False) B a b D D wb from by rw [hBd]; exact HT.out)
  replace HBB := Lib.hid (show Below B wd wb from by rw [hBd]; exact HBB.out)
  have HBE := Lib.hid (Nat.le_of_eq hBd)
  clear hBd hHeld
  have HOD := Lib.hid HT.out.ok.1
  have CR := Lib.hid (HT.out.readyA (by have := HAR.out; omega))
  go_wp2_with fail
  with_reducible refine CR.out.mono ?_
  rintro e wc ⟨rfl, ht, hw⟩
  have HTc := Lib.hid ht
  have HBc := Lib.hid (HBB.out.trans (hw.below (fun q hq => hq.1) HT.out.size))
  have CR := Lib.hid (ht.readyB (by have := HAR.out; omega))
  clear ht hw HBB HT
  go_wp2_with fail
  with_reducible refine CR.out.mono ?_
  rintro e we ⟨rfl, ht, hw⟩
  have HBe := Lib.hid (HBc.out.trans (hw.below (fun q hq => hq.1) HTc.out.size))
  have HTe := Lib.hid ht
  have CR := Lib.hid (ht.failA m (by omega) ks ko kc HKS.out ((HKA.out.below HB0.out).wr (A := fun k => B ≤ k) ⟨HBe.out.os, HBe.out.tape, HBe.out.output, HBe.out.size, fun k _ hk => HBe.out.block k (by omega)⟩ (fun x hn hx => by have := HKB.out x hn hx; have := HBW.out; omega)) (Dk.ready_up D))
  clear ht hw HTc HBc
  go_wp2_with fail
  with_reducible refine CR.out.mono ?_
  rintro e wf ⟨rfl, ht, hw⟩
  have H0 := Lib.hid (show ∃ (D : Dk.St), Fl5 wd (fun _ => False) B a b ks m 0 D wf from ⟨_, ht, Dk.ready_up D, Dk.ready_set HOD.out, by rw [Dk.ready_starts]; have := HAR.out; omega, HBe.out.trans (hw.below (fun q hq => hq.1) HTe.out.size), hm15⟩)
  clear ht hw HTe HBe CR HXB HAR HPW HKA HKB
  go_wp2_with fail
  rw [hm]
  clear hm hm15
  go_loopw [9, 10] (fun lv v wr => ∃ (i lf : Nat), i ≤ L2.length ∧ v = .int .i64 i ∧ lv = .int .i64 lf ∧ Hid (∃ D, Fl5 wd (fun _ => False) B a b ks lf i D wr)) (fun _ v _ => L2.length - (intOf v).toNat)
  case atStart => exact ⟨0, m, Nat.zero_le _, rfl, rfl, H0⟩
  case round =>
    clear H0
    obtain ⟨w3, rfl⟩ : ∃ x, x = wr := ⟨_, rfl⟩
    obtain ⟨i, lf, hi, rfl, rfl, HH⟩ := hrel
    obtain ⟨D1, hF⟩ := HH.out
    have HF := Lib.hid hF
    clear HH hF
    have HX3 := Lib.hid (show Bk #[.slice ao1 L1.length k1, .slice ao2 L2.length k2] 59 w3 p from by have h1 := HXD.out; unfold Bk at *; rw [HF.out.bel.block p HPB.out]; exact h1)
    have x1 : w3.cell? ⟨p, 1, none⟩ = some (.slice ao2 L2.length k2) := HX3.out.cell 1
    by_cases hlt : i < L2.length
    · have d2 : decide ((i : Int) < (L2.length : Int)) = true := by simp; omega
      have d2' : decide (i < L2.length) = true := by simp; omega
      have HRI := Lib.hid (show RaIn (L2.getD i ra0) from ra_in5 (HI2.out.each _ (by rw [show L2.getD i ra0 = L2[i] from by simp [List.getD, hlt]]; exact List.getElem_mem hlt)) (HF2.out.each i hlt))
      obtain ⟨g, off, hao, hra⟩ := actAt_of HA2.out hlt
      subst hao
      have HRA := Lib.hid (show ActAt W.heap.size w3 g (off + i * 6) (L2.getD i ra0) from hra.below (HB0.out.trans (HF.out.bel.mono HBW.out)))
      have hi1 : (0 : Int) ≤ (i : Int) := by omega
      have hi2 : (i : Int) < (L2.length : Int) := by omega
      clear hra
      generalize L2.getD i ra0 = r at *
      obtain ⟨⟨c0, c1, c2, c3, c4, c5, -⟩, -, -⟩ := HRA.out
      have hk0 := HRI.out.kind
      have ha3 := (Below.refl w3.heap.size w3).alloc (Nat.le_refl _) (.cells #[.int .u8 r.kind, .string (S r.name), .string (S r.other), .string (S r.data), .int .i64 r.n, .slice r.o r.keep.length r.k] 34)
      have HF4 := Lib.hid (HF.out.newrow ha3)
      have HR4 := Lib.hid (show ActAt W.heap.size _ g (off + i * 6) r from HRA.out.below (ha3.mono (Nat.le_trans HBW.out HF.out.two.size)))
      have HY4 := Lib.hid (bk_new #[.int .u8 r.kind, .string (S r.name), .string (S r.other), .string (S r.data), .int .i64 r.n, .slice r.o r.keep.length r.k] 34 w3)
      clear ha3
      go_upto_region 11 with fail
      obtain ⟨xb, hxb⟩ : ∃ x, x = w3.heap.size := ⟨_, rfl⟩
      obtain ⟨w4, hw4⟩ : ∃ x, x = w3.alloc (.cells #[.int .u8 r.kind, .string (S r.name), .string (S r.other), .string (S r.data), .int .i64 r.n, .slice r.o r.keep.length r.k] 34) := ⟨_, rfl⟩
      rw [← hw4] at HF4 HR4 HY4 ⊢
      rw [← hxb] at HF4 HY4 ⊢
      clear hxb hw4 c0 c1 c2 c3 c4 c5 x1 HX3 HF HRA
      have y0 : w4.cell? ⟨xb, 0, none⟩ = some (.int .u8 r.kind) := HY4.out.cell 0
      by_cases h7 : 7 < r.kind % 12
      · have d3 : decide ((7 : Int) < r.kind % 12) = true := by simp; omega
        go_wp2_with fail
        go_roundw
        case rel => exact ⟨i + 1, lf, by omega, by go_num, rfl, Lib.hid ⟨D1, (HF4.out.less (fun _ q => q.elim)).next⟩⟩
        case measure => simp [intOf]; omega
      have d3 : decide ((7 : Int) < r.kind % 12) = false := by simp; omega
      have HTW := Lib.hid (Dk.twin_act HF4.out.set HF4.out.up r hk0.1 (by omega))
      have HDS := Lib.hid (show (Dk.wset D1 (some (lf, ks))).starts ≤ 1000000000 from by have := HF4.out.starts; show D1.starts ≤ _; omega)
      have HDS1 := Lib.hid (show D1.starts ≤ 1000000000 from by have := HF4.out.starts; omega)
      have HKN := Lib.hid (Dk.kin_act r D1).1
      have C1 := Lib.hid HF4.out.two.namesB
      go_wp2_with fail
      with_reducible refine C1.out.mono ?_
      rintro e w5 ⟨no, nc, rfl, hr, hb⟩
      have HN5 := Lib.hid (tsK_row hr)
      have HB5 := Lib.hid hb
      have C2 := Lib.hid ((HF4.out.two.below hb).textsB HF4.out.up)
      have HNL1 := Lib.hid (show (Dk.names D1.L).length = D1.L.length from by simp [Dk.names])
      have HAL1 := Lib.hid (show (Dk.dats D1.L).length = D1.L.length from by simp [Dk.dats])
      have HOK1 := Lib.hid HF4.out.two.ok.2
      rw [HNL1.out]
      clear hr hb C1
      go_wp2_with fail
      with_reducible refine C2.out.mono ?_
      rintro e w6 ⟨wo, wcp, rfl, hr, hb⟩
      have HW6 := Lib.hid ((tsK_row hr).mono (P' := fun q => (False ∨ (xb ≤ q ∧ q < w4.heap.size)) ∨ (w4.heap.size ≤ q ∧ q < w6.heap.size)) (fun q hq => .inr (by have := HB5.out.size; omega)))
      have HN6 := Lib.hid ((HN5.out.below hb).mono (P' := fun q => (False ∨ (xb ≤ q ∧ q < w4.heap.size)) ∨ (w4.heap.size ≤ q ∧ q < w6.heap.size)) (fun q hq => .inr (by have := hb.size; omega)))
      have HF6 := Lib.hid (HF4.out.newrow (below_step HB5.out hb))
      have HY6 := Lib.hid (HY4.out.below (below_step HB5.out hb))
      have hb46 := below_step HB5.out hb
      have HR6 := Lib.hid (show ActAt W.heap.size w6 g (off + i * 6) r from HR4.out.below (hb46.mono (Nat.le_trans HBW.out HF4.out.two.size)))
      have HXP := Lib.hid (show (False ∨ (xb ≤ xb ∧ xb < w4.heap.size)) ∨ (w4.heap.size ≤ xb ∧ xb < w6.heap.size) from .inl (.inr ⟨Nat.le_refl _, HY4.out.lt⟩))
      obtain ⟨P6, hP6⟩ : ∃ P : Nat → Prop, P = fun q => (False ∨ (xb ≤ q ∧ q < w4.heap.size)) ∨ (w4.heap.size ≤ q ∧ q < w6.heap.size) := ⟨_, rfl⟩
      rw [← hP6] at HW6 HN6 HF6
      replace HXP := Lib.hid (show P6 xb from by rw [hP6]; exact HXP.out)
      rw [HAL1.out]
      clear hr hb hb46 C2 HN5 HB5 HF4 HR4 HY4 hP6 y0
      obtain ⟨rA, hrA⟩ : ∃ x, x = Dk.act r (Dk.wset D1 (some (lf, ks))) := ⟨_, rfl⟩
      obtain ⟨rB, hrB⟩ : ∃ x, x = Dk.act r D1 := ⟨_, rfl⟩
      rw [← hrB] at HKN
      have HRA := Lib.hid hrA
      have HRB := Lib.hid hrB
      clear hrA hrB
      go_upto_region 13 with fail
      refine wp_region_held_drew (S := fun V => V.cell? ⟨xb, 0, none⟩ = some (.int .u8 r.kind) ∧ V.cell? ⟨xb, 1, none⟩ = some (.string (S r.name)) ∧ V.cell? ⟨xb, 2, none⟩ = some (.string (S r.other)) ∧ V.cell? ⟨xb, 3, none⟩ = some (.string (S r.data)) ∧ V.cell? ⟨xb, 4, none⟩ = some (.int .i64 r.n) ∧ V.cell? ⟨xb, 5, none⟩ = some (.slice r.o r.keep.length r.k)) (by kernel_rfl) ?_ (fun hHeld => ?_)
      · exact ⟨HY6.out.cell 0, HY6.out.cell 1, HY6.out.cell 2, HY6.out.cell 3, HY6.out.cell 4, HY6.out.cell 5⟩
      replace HY6 := Lib.hid HY6.out.drew
      replace HF6 := Lib.hid (HF6.out.below (Below.refl _ _).drew)
      replace HW6 := Lib.hid (HW6.out.below (Below.refl _ _).drew)
      replace HN6 := Lib.hid (HN6.out.below (Below.refl _ _).drew)
      replace HR6 := Lib.hid (HR6.out.below (Below.refl _ _).drew)
      obtain ⟨wg, hwg⟩ : ∃ x, x = World.drew w6 := ⟨_, rfl⟩
      rw [← hwg] at HY6 HF6 HW6 HN6 HR6 hHeld ⊢
      clear hwg
      have CJ := HF6.out.two.doneA r HRI.out HR6.out.at_.2.2.2.2.2.2 (fun x hn hx => Nat.lt_of_lt_of_le (HR6.out.keep x hn hx) HBW.out) HDS.out
      rw [← HRA.out] at CJ
      replace CJ := Lib.hid CJ
      refine wpAnyH_take (i := 0) (oi := { dst := some 83, op := Op.move (Operand.tmp 7), type := 24, pos := "outright.go:95", after := #[], guard := none }) (v := ?_) rfl (by kernel_rfl) (by kernel_rfl) (by kernel_rfl) (fun _ _ _ h => h) (Or.inl ⟨by rfl, ?_⟩) (by assumption) ?_
      rotate_left
      · (intro w hSw; (try dsimp only at hSw); go_simp); (first | done | with_reducible rfl)
      try simp only [Act.put, List.setIfInBounds_toArray, List.set_cons_zero, List.set_cons_succ]
      refine wpAnyH_take (i := 1) (oi := { dst := some 84, op := Op.load 34 (Operand.tmp 11), type := 34, pos := "outright.go:95", after := #[], guard := none }) (v := ?_) rfl (by kernel_rfl) (by kernel_rfl) (by kernel_rfl) (fun _ _ _ h => h) (Or.inl ⟨by rfl, ?_⟩) (by assumption) ?_
      rotate_left
      · (intro w hSw; (try dsimp only at hSw); go_simp); (first | done | with_reducible rfl)
      try simp only [Act.put, List.setIfInBounds_toArray, List.set_cons_zero, List.set_cons_succ]
      refine wpAnyH_take (i := 3) (oi := { dst := some 86, op := Op.move (Operand.tmp 8), type := 24, pos := "outright.go:95", after := #[], guard := none }) (v := ?_) rfl (by kernel_rfl) (by kernel_rfl) (by kernel_rfl) (fun _ _ _ h => h) (Or.inl ⟨by rfl, ?_⟩) (by assumption) ?_
      rotate_left
      · (intro w hSw; (try dsimp only at hSw); go_simp); (first | done | with_reducible rfl)
      try simp only [Act.put, List.setIfInBounds_toArray, List.set_cons_zero, List.set_cons_succ]
      refine wpAnyH_take (i := 4) (oi := { dst := some 87, op := Op.load 34 (Operand.tmp 11), type := 34, pos := "outright.go:95", after := #[], guard := none }) (v := ?_) rfl (by kernel_rfl) (by kernel_rfl) (by kernel_rfl) (fun _ _ _ h => h) (Or.inl ⟨by rfl, ?_⟩) (by assumption) ?_
      rotate_left
      · (intro w hSw; (try dsimp only at hSw); go_simp); (first | done | with_reducible rfl)
      try simp only [Act.put, List.setIfInBounds_toArray, List.set_cons_zero, List.set_cons_succ]
      refine wpAnyH_ready (rs := [2]) (by kernel_rfl) (by simp) ?_
      refine AllReadyH.cons (o := { dst := some 85, op := Op.call { callee := Callee.value (Operand.func 20), args := #[Operand.tmp 83, Operand.tmp 84], argTypes := #[24, 34] }, type := 25, pos := "outright.go:95", after := #[{ on := 0, ground := Ground.data }, { on := 1, ground := Ground.data }], guard := none }) rfl (fun K hK => ?_) AllReadyH.nil
      go_simp
      go_simp
      go_at_call 20
      with_reducible refine (CJ.out).mono ?_
      rintro e w7 ⟨rfl, ht, hw⟩
      have HBf := Lib.hid (hw.below (fun q hq => hq.1) HF6.out.two.size)
      replace HY6 := Lib.hid (HY6.out.wr hw (fun q => q.2 HXP.out))
      replace HW6 := Lib.hid (HW6.out.wr hw (fun q hq ha => ha.2 hq))
      replace HN6 := Lib.hid (HN6.out.wr hw (fun q hq ha => ha.2 hq))
      replace HR6 := Lib.hid (HR6.out.below (HBf.out.mono HBW.out))
      have HT7 := Lib.hid ht
      replace CJ := ht.doneB r HRI.out HR6.out.at_.2.2.2.2.2.2 (fun x hn hx => Nat.lt_of_lt_of_le (HR6.out.keep x hn hx) HBW.out) HDS1.out
      rw [← HRB.out] at CJ
      replace CJ := Lib.hid CJ
      clear ht hw
      go_wp2_with fail
      refine hK.out _ _ ?_ (fun hHeld => ?_)
      · exact ⟨HY6.out.cell 0, HY6.out.cell 1, HY6.out.cell 2, HY6.out.cell 3, HY6.out.cell 4, HY6.out.cell 5⟩
      clear hK K
      try simp only [Act.put, List.setIfInBounds_toArray, List.set_cons_zero, List.set_cons_succ]
      refine wpAnyH_ready (rs := [5]) (by kernel_rfl) (by simp) ?_
      refine AllReadyH.cons (o := { dst := some 88, op := Op.call { callee := Callee.value (Operand.func 20), args := #[Operand.tmp 86, Operand.tmp 87], argTypes := #[24, 34] }, type := 25, pos := "outright.go:95", after := #[{ on := 3, ground := Ground.data }, { on := 4, ground := Ground.data }, { on := 2, ground := Ground.chain }], guard := none }) rfl (fun K hK => ?_) AllReadyH.nil
      go_simp
      go_simp
      go_at_call 20
      with_reducible refine (CJ.out).mono ?_
      rintro e w8 ⟨rfl, ht, hw⟩
      replace HBf := Lib.hid (HBf.out.trans (hw.below (fun q hq => hq.1) HT7.out.size))
      replace HY6 := Lib.hid (HY6.out.wr hw (fun q => q.2 HXP.out))
      replace HW6 := Lib.hid (HW6.out.wr hw (fun q hq ha => ha.2 hq))
      replace HN6 := Lib.hid (HN6.out.wr hw (fun q hq ha => ha.2 hq))
      have HT8 := Lib.hid ht
      clear ht hw CJ HT7
      go_wp2_with fail
      refine hK.out _ _ ?_ (fun hHeld => ?_)
      · exact ⟨HY6.out.cell 0, HY6.out.cell 1, HY6.out.cell 2, HY6.out.cell 3, HY6.out.cell 4, HY6.out.cell 5⟩
      clear hK K
      try simp only [Act.put, List.setIfInBounds_toArray, List.set_cons_zero, List.set_cons_succ]
      refine wpAnyH_take (i := 6) (oi := { dst := some 14, op := Op.assign (Operand.tmp 85), type := 25, pos := "outright.go:95", after := #[{ on := 2, ground := Ground.data }, { on := 5, ground := Ground.chain }, { on := 0, ground := Ground.phase }, { on := 1, ground := Ground.phase }, { on := 2, ground := Ground.phase }, { on := 3, ground := Ground.textOnly Departure.lateStores }, { on := 4, ground := Ground.textOnly Departure.lateStores }, { on := 5, ground := Ground.textOnly Departure.lateStoresUnsure }], guard := none }) (v := ?_) rfl (by kernel_rfl) (by kernel_rfl) (by kernel_rfl) (fun _ _ _ h => h) (Or.inl ⟨by rfl, ?_⟩) (by assumption) ?_
      rotate_left
      · (intro w hSw; (try dsimp only at hSw); go_simp); (first | done | with_reducible rfl)
      try simp only [Act.put, List.setIfInBounds_toArray, List.set_cons_zero, List.set_cons_succ]
      refine wpAnyH_take (i := 7) (oi := { dst := some 15, op := Op.assign (Operand.tmp 88), type := 25, pos := "outright.go:95", after := #[{ on := 5, ground := Ground.data }, { on := 6, ground := Ground.chain }, { on := 0, ground := Ground.phase }, { on := 1, ground := Ground.phase }, { on := 2, ground := Ground.phase }, { on := 3, ground := Ground.phase }, { on := 4, ground := Ground.phase }, { on := 5, ground := Ground.phase }, { on := 6, ground := Ground.phase }], guard := none }) (v := ?_) rfl (by kernel_rfl) (by kernel_rfl) (by kernel_rfl) (fun _ _ _ h => h) (Or.inl ⟨by rfl, ?_⟩) (by assumption) ?_
      rotate_left
      · (intro w hSw; (try dsimp only at hSw); go_simp); (first | done | with_reducible rfl)
      refine wpAnyH_done (by kernel_rfl) ?_ _
      obtain ⟨y0, -⟩ := hHeld
      have HBw := Lib.hid (HF6.out.bel.trans HBf.out)
      have HST := Lib.hid HF6.out.starts
      have HLF := HF6.out.lf
      have HSU8 := Lib.hid (show D1.set = none ∧ D1.up = true from ⟨HF6.out.set, HF6.out.up⟩)
      have HF9 := Lib.hid (show B ≤ wd.heap.size from HBE.out)
      clear HF6 HBf HR6 HDS HDS1
      obtain ⟨fA, DA⟩ := rA
      obtain ⟨fB, DB⟩ := rB
      simp only at HKN HT8 ⊢
      have HKN2 := Lib.hid (show DB.starts ≤ D1.starts + 1 from HKN.out.starts)
      clear HKN
      by_cases hf : fB = 0
      · subst hf
        have hs0 : (Dk.act r D1).1 = 0 := by rw [← HRB.out]
        have HDB := Lib.hid (show DB = (Dk.act r D1).2 from by rw [← HRB.out])
        have HSU := Lib.hid (show DB.set = none ∧ DB.up = true from by rw [HDB.out]; exact ⟨HTW.out.set, HTW.out.up⟩)
        cases lf with
        | succ l =>
          have hA : (fA, DA) = (0, Dk.wset DB (some (l, ks))) := by rw [HRA.out, HTW.out.more hs0, ← HDB.out]
          injection hA with e1 e2
          subst e1 e2
          have q1 : decide ((0 : Int) < ((l + 1 : Nat) : Int)) = true := by first | (simp; done) | (simp; omega)
          have q2 : decide ((0 : Int) < (l : Int) + 1) = true := by first | (simp; done) | (simp; omega)
          have q3 : IntKind.i64.wrap ((l : Int) + 1 - 1) = (l : Int) := by rw [IntWalk.i64_in _ (by omega)]; omega
          clear hs0
          go_wp2_with fail
          go_roundw
          case rel => exact ⟨i + 1, l, by omega, by go_num, by go_num, Lib.hid ⟨DB, HT8.out.less (fun _ q => q.elim), HSU.out.2, HSU.out.1, by have := HKN2.out; have := HST.out; omega, HBw.out, by omega⟩⟩
          case measure => simp [intOf]; omega
        | zero =>
          have hA : (fA, DA) = (51, Dk.fall ks (if decide (r.kind % 12 < 4) = true then (Dk.act r D1).2 else D1)) := by rw [HRA.out, HTW.out.last hs0]
          rw [← HDB.out] at hA
          injection hA with e1 e2
          subst e1
          have HE2 := Lib.hid e2
          have HXD9 := Lib.hid (show B ≤ wd.heap.size from by have := HF9.out; omega)
          clear hs0 e2
          by_cases h4 : r.kind % 12 < 4
          · have q5 : decide (r.kind % 12 < (4 : Int)) = true := by simp; omega
            obtain rfl : DA = Dk.fall ks DB := by rw [HE2.out, if_pos (by simpa using h4)]
            have HAL2 := Lib.hid (show (Dk.dats DB.L).length = DB.L.length from by simp [Dk.dats])
            have HNL2 := Lib.hid (show (Dk.names DB.L).length = DB.L.length from by simp [Dk.names])
            have CJ := Lib.hid HT8.out.namesB
            clear HN6 HW6
            go_wp2_with fail
            with_reducible refine CJ.out.mono ?_
            rintro e w9 ⟨no2, nc2, rfl, hr, hb⟩
            have HN9 := Lib.hid (tsK_row hr)
            have HB9 := Lib.hid hb
            replace CJ := Lib.hid ((HT8.out.below hb).textsB HSU.out.2)
            rw [HNL2.out]
            clear hr hb
            go_wp2_with fail
            with_reducible refine CJ.out.mono ?_
            rintro e w10 ⟨wo2, wcp2, rfl, hr, hb⟩
            have HWL := Lib.hid ((tsK_row hr).mono (P' := fun q => P6 q ∨ (w8.heap.size ≤ q ∧ q < w10.heap.size)) (fun q hq => .inr (by have := HB9.out.size; omega)))
            have HNL := Lib.hid ((HN9.out.below hb).mono (P' := fun q => P6 q ∨ (w8.heap.size ≤ q ∧ q < w10.heap.size)) (fun q hq => .inr (by have := hb.size; omega)))
            have HTL := Lib.hid (HT8.out.newrow (below_step HB9.out hb))
            have HBL := Lib.hid (HBw.out.trans ((below_step HB9.out hb).mono HT8.out.size))
            have HOE := Lib.hid HT8.out.ok.2
            have HSE := Lib.hid (show DB.starts ≤ 600 from by have := HKN2.out; have := HST.out; omega)
            rw [HAL2.out]
            clear hr hb CJ HN9 HB9 HT8 HBw
            have CJ := Lib.hid (HTL.out.upA)
            go_wp2_with fail
            with_reducible refine CJ.out.mono ?_
            rintro e wk ⟨rfl, rfl⟩
            replace CJ := Lib.hid (HTL.out.startA rfl (by have := HSE.out; show DB.starts ≤ 1000; omega))
            go_wp2_with fail
            with_reducible refine CJ.out.mono ?_
            rintro e wl ⟨rfl, ht, hw⟩
            have hwl := Lib.hid hw.size
            have HBl := Lib.hid (HBL.out.trans (hw.below (fun q hq => hq.1) HTL.out.size))
            replace CJ := ht.begunA rfl no2 wo2 nc2 wcp2 (Dk.names DB.L) (Dk.dats DB.L) (Dk.cut_names ks DB.L).symm (by show _ = (Dk.cut ks DB.L).length; rw [Dk.cut_len]; simp [Dk.dats]) (dats_small5 HOE.out) (HNL.out.wr hw (fun q hq ha => ha.2 hq)).1 (HWL.out.wr hw (fun q hq ha => ha.2 hq)).1 (beg_cut5 HOE.out.l ks)
            rw [show (Dk.woke (Dk.fall ks DB)).L.length = DB.L.length from Dk.cut_len ks DB.L] at CJ
            replace CJ := Lib.hid CJ
            clear ht hw
            go_wp2_with fail
            with_reducible refine CJ.out.mono ?_
            rintro e wm ⟨rfl, hb⟩
            have HBm := Lib.hid (HBl.out.trans (hb.mono (Nat.le_trans HTL.out.size hwl.out)))
            clear hb CJ
            go_wp2_with fail
            with_reducible refine (CD.out _).mono ?_
            rintro e wn ⟨rfl, hb⟩
            have HBn := Lib.hid (HBm.out.trans (hb.mono (Nat.le_trans HXD9.out HBm.out.size)))
            clear hb
            go_wp2_with fail
            go_ret
            exact ⟨rfl, HB0.out.trans (HBn.out.mono HBW.out)⟩
          · have q5 : decide (r.kind % 12 < (4 : Int)) = false := by simp; omega
            obtain rfl : DA = Dk.fall ks D1 := by rw [HE2.out, if_neg (by simpa using h4)]
            have HWL := HW6
            have HNL := HN6
            have HTL := HT8
            have HBL := HBw
            have HOE := HOK1
            have HSE := Lib.hid (show D1.starts ≤ 600 from by have := HST.out; omega)
            clear HW6 HN6 HT8 HBw
            have CJ := Lib.hid (HTL.out.upA)
            go_wp2_with fail
            with_reducible refine CJ.out.mono ?_
            rintro e wk ⟨rfl, rfl⟩
            replace CJ := Lib.hid (HTL.out.startA rfl (by have := HSE.out; show D1.starts ≤ 1000; omega))
            go_wp2_with fail
            with_reducible refine CJ.out.mono ?_
            rintro e wl ⟨rfl, ht, hw⟩
            have hwl := Lib.hid hw.size
            have HBl := Lib.hid (HBL.out.trans (hw.below (fun q hq => hq.1) HTL.out.size))
            replace CJ := ht.begunA rfl no wo nc wcp (Dk.names D1.L) (Dk.dats D1.L) (Dk.cut_names ks D1.L).symm (by show _ = (Dk.cut ks D1.L).length; rw [Dk.cut_len]; simp [Dk.dats]) (dats_small5 HOE.out) (HNL.out.wr hw (fun q hq ha => ha.2 hq)).1 (HWL.out.wr hw (fun q hq ha => ha.2 hq)).1 (beg_cut5 HOE.out.l ks)
            rw [show (Dk.woke (Dk.fall ks D1)).L.length = D1.L.length from Dk.cut_len ks D1.L] at CJ
            replace CJ := Lib.hid CJ
            clear ht hw
            go_wp2_with fail
            with_reducible refine CJ.out.mono ?_
            rintro e wm ⟨rfl, hb⟩
            have HBm := Lib.hid (HBl.out.trans (hb.mono (Nat.le_trans HTL.out.size hwl.out)))
            clear hb CJ
            go_wp2_with fail
            with_reducible refine (CD.out _).mono ?_
            rintro e wn ⟨rfl, hb⟩
            have HBn := Lib.hid (HBm.out.trans (hb.mono (Nat.le_trans HXD9.out HBm.out.size)))
            clear hb
            go_wp2_with fail
            go_ret
            exact ⟨rfl, HB0.out.trans (HBn.out.mono HBW.out)⟩
      · have hs0 : (Dk.act r D1).1 ≠ 0 := by rw [← HRB.out]; exact hf
        obtain ⟨e1, e2⟩ := HTW.out.no hs0
        have hA : (fA, DA) = (fB, Dk.wset D1 (some (lf, ks))) := by rw [HRA.out, e2, ← HRB.out]
        obtain rfl : DB = D1 := by rw [← e1, ← HRB.out]
        injection hA with e3 e4
        subst e3 e4
        have q1 : (fA == 0) = false := by simpa using hf
        have q2 : (fA != 0) = true := by simpa using hf
        have q3 : (fA != fA) = false := by simp
        clear hs0 e1 e2
        go_wp2_with fail
        go_roundw
        case rel => exact ⟨i + 1, lf, by omega, by go_num, rfl, Lib.hid ⟨DB, HT8.out.less (fun _ q => q.elim), HSU8.out.2, HSU8.out.1, by have := HKN2.out; have := HST.out; omega, HBw.out, HLF⟩⟩
        case measure => simp [intOf]; omega
    · have d2 : decide ((i : Int) < (L2.length : Int)) = false := by simp; omega
      have d2' : decide (i < L2.length) = false := by simp; omega
      have HNL1 := Lib.hid (show (Dk.names D1.L).length = D1.L.length from by simp [Dk.names])
      have HAL1 := Lib.hid (show (Dk.dats D1.L).length = D1.L.length from by simp [Dk.dats])
      have HUL1 := Lib.hid (show (Dk.unsynced D1.L).length = D1.L.length from by simp [Dk.unsynced])
      have hfew := HF.out.two.ok.2.few
      have CU := HF.out.two.upA
      rw [show (Dk.wset D1 (some (lf, ks))).up = true from HF.out.up] at CU
      replace CU := Lib.hid CU
      go_wp2_with fail
      with_reducible refine CU.out.mono ?_
      rintro e w4 ⟨rfl, rfl⟩
      clear x1 HX3
      have CA := Lib.hid (show Calls Try.prog 27 #[.pointer (some ⟨a, 0, none⟩)] w3 (RowT (Dk.names D1.L) w3) from HF.out.two.namesA)
      go_wp2_with fail
      with_reducible refine CA.out.mono ?_
      rintro e w5 ⟨no, nc, rfl, hr, hb⟩
      have HN := Lib.hid (tsA_row5 hr)
      replace HF := Lib.hid (HF.out.below hb)
      rw [HNL1.out]
      clear hr hb CA
      replace CU := Lib.hid HF.out.two.namesB
      go_wp2_with fail
      with_reducible refine CU.out.mono ?_
      rintro e w6 ⟨no2, nc2, rfl, hr, hb⟩
      have CS := sameTexts5_any (Dk.names D1.L) (Dk.names D1.L) (by rw [HNL1.out]; omega) (by rw [HNL1.out]; omega) no no2 nc nc2 w6 (HN.out.below hb) (tsA_row5 hr)
      rw [show decide (Dk.names D1.L = Dk.names D1.L) = true from by simp, HNL1.out] at CS
      replace CS := Lib.hid CS
      replace HF := Lib.hid (HF.out.below hb)
      rw [HNL1.out]
      clear hr hb HN CU
      go_wp2_with fail
      with_reducible refine CS.out.mono ?_
      rintro e w7 ⟨rfl, hb⟩
      replace HF := Lib.hid (HF.out.below hb)
      clear hb CS
      have CA := Lib.hid (show Calls Try.prog 36 #[.pointer (some ⟨a, 0, none⟩)] w7 (RowT (Dk.dats D1.L) w7) from HF.out.two.textsA HF.out.up)
      go_wp2_with fail
      with_reducible refine CA.out.mono ?_
      rintro e w8 ⟨no, nc, rfl, hr, hb⟩
      have HN := Lib.hid (tsA_row5 hr)
      replace HF := Lib.hid (HF.out.below hb)
      rw [HAL1.out]
      clear hr hb CA
      have CU := Lib.hid (HF.out.two.textsB HF.out.up)
      go_wp2_with fail
      with_reducible refine CU.out.mono ?_
      rintro e w9 ⟨no2, nc2, rfl, hr, hb⟩
      have CS := sameTexts5_any (Dk.dats D1.L) (Dk.dats D1.L) (by rw [HAL1.out]; omega) (by rw [HAL1.out]; omega) no no2 nc nc2 w9 (HN.out.below hb) (tsA_row5 hr)
      rw [show decide (Dk.dats D1.L = Dk.dats D1.L) = true from by simp, HAL1.out] at CS
      replace CS := Lib.hid CS
      replace HF := Lib.hid (HF.out.below hb)
      rw [HAL1.out]
      clear hr hb HN CU
      go_wp2_with fail
      with_reducible refine CS.out.mono ?_
      rintro e w10 ⟨rfl, hb⟩
      replace HF := Lib.hid (HF.out.below hb)
      clear hb CS
      have CA := Lib.hid (show Calls Try.prog 28 #[.pointer (some ⟨a, 0, none⟩)] w10 (RowN (Dk.unsynced D1.L) w10) from HF.out.two.unsyncedA)
      go_wp2_with fail
      with_reducible refine CA.out.mono ?_
      rintro e w11 ⟨no, nc, rfl, hr, hb⟩
      have HN := Lib.hid (nsK_row hr).1
      replace HF := Lib.hid (HF.out.below hb)
      rw [HUL1.out]
      clear hr hb CA
      have CU := Lib.hid HF.out.two.unsyncedB
      go_wp2_with fail
      with_reducible refine CU.out.mono ?_
      rintro e w12 ⟨no2, nc2, rfl, hr, hb⟩
      have CS := sameInts5_any (Dk.unsynced D1.L) (Dk.unsynced D1.L) (by rw [HUL1.out]; omega) (by rw [HUL1.out]; omega) no no2 nc nc2 w12 (HN.out.below hb) (nsK_row hr).1
      rw [show decide (Dk.unsynced D1.L = Dk.unsynced D1.L) = true from by simp, HUL1.out] at CS
      replace CS := Lib.hid CS
      replace HF := Lib.hid (HF.out.below hb)
      rw [HUL1.out]
      clear hr hb HN CU
      go_wp2_with fail
      with_reducible refine CS.out.mono ?_
      rintro e w13 ⟨rfl, hb⟩
      replace HF := Lib.hid (HF.out.below hb)
      clear hb CS
      go_wp2_with fail
      with_reducible refine (CD.out _).mono ?_
      rintro e w14 ⟨rfl, hb⟩
      have HBn := Lib.hid (HF.out.below hb).bel
      clear hb
      go_wp2_with fail
      go_ret
      exact ⟨rfl, HB0.out.trans (HBn.out.mono HBW.out)⟩

end Go.Proofs.Ytekmnpmeienhhaa
