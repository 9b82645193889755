/- Layer 4: the laws' walks: FramesBytes. -/
import Derived.Test.YtehcedepiepbiaaFramesK
import Derived.Test.YtehcedepiepbiaaBytes
import Derived.Test.YtehcedepiepbiaaSumsL2
namespace Go.Proofs.Ytehcedepiepbiaa
set_option linter.unusedVariables false
open Go Go.RowKit
attribute [local go_sem ↓] run_index_S
attribute [local go_sem] S_append S_extract

theorem BytesAt.other {w : World} {b : Nat} {e : TypeId} {l : List UInt8} (h : BytesAt w b e l) (p : Addr) (v : Value) (hne : b ≠ p.block) : BytesAt (w.setCell p v) b e l := by
  obtain ⟨C, m, h1, h2, h3, h4⟩ := h
  exact ⟨C, m, (Below.heap_setCell w p v b hne).trans h1, h2, h3, h4⟩

theorem frame_facts (p : List UInt8) (hp : p.length ≤ 16384) : (M.frameP p).length = p.length + 8 ∧ B (M.frameP p) 0 = 2 ∧ B (M.frameP p) 1 * 256 + B (M.frameP p) 2 = p.length ∧ piece (M.frameP p) 3 (p.length + 3) = p ∧ B (M.frameP p) (p.length + 7) = 3 := by
  refine ⟨M.frameP_length p, ?_, ?_, M.frame_payload p, ?_⟩
  · unfold B; rw [M.frame_getD0]; rfl
  · have := M.frame_many p hp
    unfold M.many at this
    simp only [Nat.zero_add] at this
    unfold B
    omega
  · unfold B; rw [M.frame_last]; rfl
theorem first_no (p : List UInt8) (v : UInt8) (hv : ¬ (v.toNat : Int) = 2) : M.next ((M.frameP p).set 0 v) 0 = none := by
  refine M.next_no fun h => hv ?_
  have h2 := h.two
  rw [List.getD, List.getElem?_set_self (by rw [M.frameP_length]; omega)] at h2
  simp at h2
  subst h2
  rfl
theorem last_no (p : List UInt8) (hp : p.length ≤ 16384) (v : UInt8) (hv : ¬ (v.toNat : Int) = 3) : M.next ((M.frameP p).set (p.length + 7) v) 0 = none := by
  refine M.next_no fun h => hv ?_
  have hm : M.many ((M.frameP p).set (p.length + 7) v) 0 = p.length := by
    rw [← M.frame_many p hp]
    unfold M.many
    simp only [List.getD]
    rw [List.getElem?_set_ne (by omega), List.getElem?_set_ne (by omega)]
  have h3 := h.three
  rw [hm, Nat.zero_add, List.getD, List.getElem?_set_self (by rw [M.frameP_length]; omega)] at h3
  simp at h3
  subst h3
  rfl
theorem longer_no (p : List UInt8) (x z : UInt8) (hv : p.length < x.toNat * 256 + z.toNat) : M.next (((M.frameP p).set 1 x).set 2 z) 0 = none := by
  refine M.next_no fun h => ?_
  have hl := M.frameP_length p
  have hm : M.many (((M.frameP p).set 1 x).set 2 z) 0 = x.toNat * 256 + z.toNat := by
    unfold M.many
    simp only [List.getD, Nat.zero_add]
    rw [List.getElem?_set_ne (by omega), List.getElem?_set_self (by omega), List.getElem?_set_self (by rw [List.length_set]; omega)]
    rfl
  have h3 := h.fits
  rw [hm, List.length_set, List.length_set, hl] at h3
  omega

set_option maxHeartbeats 2000000 in
set_option maxRecDepth 100000 in
theorem framesBytes_mid (p : List UInt8) (hn : p.length ≤ 3000) (y : Int) (hy : 1 ≤ y ∧ y ≤ 255) (w : World) :
    Calls Try.prog 5 #[.string (S p), .int .u8 y] w fun e w' => e = .returned (.bool true) ∧ Below w.heap.size w w' := by
  have d1 : decide (3000 < (p.length : Int)) = false := by simp; omega
  have d2 : (y == 0) = false := by simp; omega
  have c1 := fun W => frame_ok p (by omega) W
  have c2 := fun W => next_any (M.frameP p) (by rw [M.frameP_length]; omega) 0 W
  rw [show M.nextI (M.frameP p) 0 = some (p, p.length + 8) from M.next_frame p (by omega)] at c2
  simp only [triF] at c2
  obtain ⟨hl, b0, b12, hp, b7⟩ := frame_facts p (by omega)
  obtain ⟨v0, x0, y0⟩ := xor_byte (B (M.frameP p) 0) y (B_range _ _) (by omega)
  obtain ⟨v7, x7, y7⟩ := xor_byte (B (M.frameP p) (p.length + 7)) y (B_range _ _) (by omega)
  have n0 := first_no p v0 (by rw [← b0, y0]; omega)
  have n7 := last_no p (by omega) v7 (by rw [← b7, y7]; omega)
  have n12 := longer_no p (UInt8.ofNat ((p.length + y.toNat) / 256)) (UInt8.ofNat ((p.length + y.toNat) % 256)) (by rw [M.ofNat_toNat _ (by omega), M.ofNat_toNat _ (by omega)]; omega)
  have c3 := fun W => next_any ((M.frameP p).set 0 v0) (by rw [List.length_set, M.frameP_length]; omega) 0 W
  rw [show M.nextI ((M.frameP p).set 0 v0) 0 = none from n0] at c3
  have c4 := fun W => next_any ((M.frameP p).set (p.length + 7) v7) (by rw [List.length_set, M.frameP_length]; omega) 0 W
  rw [show M.nextI ((M.frameP p).set (p.length + 7) v7) 0 = none from n7] at c4
  have c5 := fun W => next_any (((M.frameP p).set 1 (UInt8.ofNat ((p.length + y.toNat) / 256))).set 2 (UInt8.ofNat ((p.length + y.toNat) % 256))) (by rw [List.length_set, List.length_set, M.frameP_length]; omega) 0 W
  rw [show M.nextI (((M.frameP p).set 1 (UInt8.ofNat ((p.length + y.toNat) / 256))).set 2 (UInt8.ofNat ((p.length + y.toNat) % 256))) 0 = none from n12] at c5
  simp only [triF] at c3 c4 c5
  clear n0 n7 n12 y0 y7
  generalize M.frameP p = f at *
  have hpc := fun W (k k' : IntKind) => run_piece (P := Try.prog) 9 Try.underlying9 f 3 (3 + (p.length : Int)) 3 (p.length + 3) rfl (by omega) (by omega) (by omega) W k k'
  rw [hp] at hpc
  have hge1 : 8 ≤ f.length := by omega
  have hge2 : p.length + 8 ≤ f.length := by omega
  have hge3 : f.length ≤ 3008 := by omega
  have q0 : (B f 0 != 2) = false := by rw [b0]; rfl
  have q7 : (B f (p.length + 7) != 3) = false := by rw [b7]; rfl
  have r1 := B_range f 1
  have r2 := B_range f 2
  have e1 : IntKind.i64.wrap ((p.length : Int) + 8) = (p.length : Int) + 8 := IntWalk.i64_in _ (by omega)
  have e2 : IntKind.i64.wrap (B f 1 * 256) = B f 1 * 256 := IntWalk.i64_in _ (by have := B_range f 1; omega)
  have e3 : IntKind.i64.wrap (B f 1 * 256 + B f 2) = B f 1 * 256 + B f 2 := IntWalk.i64_in _ (by have := B_range f 1; have := B_range f 2; omega)
  have e4 : IntKind.i64.wrap (3 + (p.length : Int)) = 3 + (p.length : Int) := IntWalk.i64_in _ (by omega)
  have e5 : IntKind.i64.wrap ((p.length : Int) + 7) = (p.length : Int) + 7 := IntWalk.i64_in _ (by omega)
  have q1 : ((f.length : Int) != (p.length : Int) + 8) = false := by rw [hl]; simp
  have q2 : (B f 1 * 256 + B f 2 != (p.length : Int)) = false := by rw [b12]; simp
  have HL := Lib.hid hl
  have B0 := Lib.hid b0
  have B7 := Lib.hid b7
  have C1 := Lib.hid c1
  have C2 := Lib.hid c2
  have C3 := Lib.hid c3
  have C4 := Lib.hid c4
  have C5 := Lib.hid c5
  clear c1 c2 c3 c4 c5 hp hl b0 b7 b12
  go_enter Try.func5, Try.ntmps5
  go_wp2_with fail
  with_reducible refine (C1.out _).mono ?_
  rintro e w1 ⟨rfl, hb1⟩
  go_wp2_with fail
  go_quiet (fail)
  have HB1 := Lib.hid (below_drewN hb1 nq)
  clear hb1 q1 q2 q0 q7 hpc
  generalize w1.drewN nq = w1 at *
  go_wp2_with fail
  with_reducible refine (C2.out _).mono ?_
  rintro e w2 ⟨rfl, hb2⟩
  have HB2 := Lib.hid (below_step HB1.out hb2)
  clear hb2
  obtain ⟨wa, ca, ra, ha, hba, hsa⟩ := bytes_conv (P := Try.prog) w2 9 35 5 Try.underlying9 Try.underlying35 Try.underlying5 f
  obtain ⟨wb, cb, rb, hb, hbb, hsb⟩ := bytes_conv (P := Try.prog) wa 9 35 5 Try.underlying9 Try.underlying35 Try.underlying5 f
  obtain ⟨A, hA⟩ : ∃ A, A = w2.heap.size := ⟨_, rfl⟩
  obtain ⟨D, hD⟩ : ∃ D, D = wa.heap.size := ⟨_, rfl⟩
  have HBb := Lib.hid (below_step (below_step HB2.out hba) hbb)
  rw [← hA] at ra ha
  rw [← hD] at rb hb
  have hA2 : A < wb.heap.size := by omega
  have hD2 : D < wb.heap.size := by omega
  have hAD : A < D := by omega
  have hAw : w.heap.size ≤ A := by have := HB2.out.size; omega
  have ha' := ha.below hbb (by omega)
  have x9c := ha'.cell 0 (by omega)
  have x9f := ha'.free 0 (by omega)
  have k9 := hb.other ⟨A, 0, none⟩ (.int .u8 (v0.toNat : Int)) (by show D ≠ A; omega)
  have x10c := k9.cell (p.length + 7) (by omega)
  have x10f := k9.free (p.length + 7) (by omega)
  have j9 := (ha'.set 0 (by omega) v0).other ⟨D, p.length + 7, none⟩ (.int .u8 (v7.toNat : Int)) (by show A ≠ D; omega)
  have j10 := k9.set (p.length + 7) (by omega) v7
  have HB10 := Lib.hid ((HBb.out.setCell (p := ⟨A, 0, none⟩) hAw (.int .u8 (v0.toNat : Int))).setCell (p := ⟨D, p.length + 7, none⟩) (by show w.heap.size ≤ D; omega) (.int .u8 (v7.toNat : Int)))
  have J9 := Lib.hid j9
  have J10 := Lib.hid j10
  have hs10 : ((wb.setCell ⟨A, 0, none⟩ (.int .u8 (v0.toNat : Int))).setCell ⟨D, p.length + 7, none⟩ (.int .u8 (v7.toNat : Int))).heap.size = wb.heap.size := by simp
  have hA3 : A < ((wb.setCell ⟨A, 0, none⟩ (.int .u8 (v0.toNat : Int))).setCell ⟨D, p.length + 7, none⟩ (.int .u8 (v7.toNat : Int))).heap.size := by omega
  have hD3 : D < ((wb.setCell ⟨A, 0, none⟩ (.int .u8 (v0.toNat : Int))).setCell ⟨D, p.length + 7, none⟩ (.int .u8 (v7.toNat : Int))).heap.size := by omega
  clear j9 j10 k9 ha ha' hb hba hbb hsa hsb hA hD hs10
  obtain ⟨W10, hW10⟩ : ∃ W, W = (wb.setCell ⟨A, 0, none⟩ (.int .u8 (v0.toNat : Int))).setCell ⟨D, p.length + 7, none⟩ (.int .u8 (v7.toNat : Int)) := ⟨_, rfl⟩
  obtain ⟨wc, cc, rc, hc, hbc, hsc⟩ := bytes_conv (P := Try.prog) W10 9 35 5 Try.underlying9 Try.underlying35 Try.underlying5 f
  obtain ⟨G, hG⟩ : ∃ G, G = W10.heap.size := ⟨_, rfl⟩
  rw [← hW10] at HB10 J9 J10 hA3 hD3
  have hwG : w.heap.size ≤ G := by rw [hG]; exact HB10.out.size
  have HBc := Lib.hid (below_step HB10.out hbc)
  have JA := Lib.hid (J9.out.below hbc (by omega))
  have JD := Lib.hid (J10.out.below hbc (by omega))
  rw [← hG] at rc hc
  have hAG : A ≠ G := by omega
  have hDG : D ≠ G := by omega
  have hGc : G < wc.heap.size := by omega
  have x11c := hc.free 1 (by omega)
  have x11d := hc.free 2 (by omega)
  have x11a := hc.cell 1 (by omega)
  have x11b := hc.cell 2 (by omega)
  obtain ⟨X1, hX1⟩ : ∃ x : UInt8, x = UInt8.ofNat ((p.length + y.toNat) / 256) := ⟨_, rfl⟩
  obtain ⟨X2, hX2⟩ : ∃ x : UInt8, x = UInt8.ofNat ((p.length + y.toNat) % 256) := ⟨_, rfl⟩
  have ex1 : (X1.toNat : Int) = ((p.length : Int) + y) / 256 := by rw [hX1, M.ofNat_toNat _ (by omega)]; omega
  have ex2 : (X2.toNat : Int) = ((p.length : Int) + y) % 256 := by rw [hX2, M.ofNat_toNat _ (by omega)]; omega
  rw [← hX1, ← hX2] at C5
  have k11 := hc.set 1 (by omega) X1
  have x12c := k11.cell 2 (by rw [List.length_set]; omega)
  have x12d := k11.free 2 (by rw [List.length_set]; omega)
  have j12 := k11.set 2 (by rw [List.length_set]; omega) X2
  have ja12 := (JA.out.other ⟨G, 1, none⟩ (.int .u8 (X1.toNat : Int)) hAG).other ⟨G, 2, none⟩ (.int .u8 (X2.toNat : Int)) hAG
  have jd12 := (JD.out.other ⟨G, 1, none⟩ (.int .u8 (X1.toNat : Int)) hDG).other ⟨G, 2, none⟩ (.int .u8 (X2.toNat : Int)) hDG
  have hB12 := (HBc.out.setCell (p := ⟨G, 1, none⟩) hwG (.int .u8 (X1.toNat : Int))).setCell (p := ⟨G, 2, none⟩) hwG (.int .u8 (X2.toNat : Int))
  have hb12 := ja12.back 35 9 Try.underlying35 Try.underlying5 Try.underlying9 (P := Try.prog) ca
  rw [List.length_set] at hb12
  rw [ex1, ex2] at j12 jd12 hB12
  have J12 := Lib.hid j12
  have JD12 := Lib.hid jd12
  have HB12 := Lib.hid hB12
  clear j12 ja12 jd12 hB12
  have hG12 : G < ((wc.setCell ⟨G, 1, none⟩ (.int .u8 (((p.length : Int) + y) / 256))).setCell ⟨G, 2, none⟩ (.int .u8 (((p.length : Int) + y) % 256))).heap.size := by simp; exact hGc
  have hD12 : D < ((wc.setCell ⟨G, 1, none⟩ (.int .u8 (((p.length : Int) + y) / 256))).setCell ⟨G, 2, none⟩ (.int .u8 (((p.length : Int) + y) % 256))).heap.size := by simp; omega
  have HG12 := Lib.hid hG12
  have HD12 := Lib.hid hD12
  rw [hW10] at rc
  rw [ex1, ex2] at hb12
  rw [ex1] at x12c x12d
  have E1 := Lib.hid ex1
  have E2 := Lib.hid ex2
  clear hc hbc hsc hW10 HB10 J9 J10 k11 hX1 hX2 ex1 ex2 JA JD HBc hG hA3 hD3 hG12 hD12
  go_wp2_with fail
  with_reducible refine (C3.out _).mono ?_
  rintro e w13 ⟨rfl, hb13⟩
  clear x9c x9f x10c x10f x11c x11d x11a x11b x12c x12d ra rb rc hb12
  have jd13 := JD12.out.below hb13 HD12.out
  have J13 := Lib.hid (J12.out.below hb13 HG12.out)
  have HB13 := Lib.hid (below_step HB12.out hb13)
  have hD13 := Nat.lt_of_lt_of_le HD12.out hb13.size
  have hG13 := Nat.lt_of_lt_of_le HG12.out hb13.size
  have hb13' := jd13.back 35 9 Try.underlying35 Try.underlying5 Try.underlying9 (P := Try.prog) cb
  rw [List.length_set] at hb13'
  clear jd13 hb13 JD12 J12 HB12 HD12 HG12
  go_wp2_with fail
  with_reducible refine (C4.out _).mono ?_
  rintro e w14 ⟨rfl, hb14⟩
  have j14 := J13.out.below hb14 hG13
  have HB14 := Lib.hid (below_step HB13.out hb14)
  have hb14' := j14.back 35 9 Try.underlying35 Try.underlying5 Try.underlying9 (P := Try.prog) cc
  rw [List.length_set, List.length_set] at hb14'
  clear j14 hb14 hb13' J13 HB13
  go_wp2_with fail
  with_reducible refine (C5.out _).mono ?_
  rintro e w15 ⟨rfl, hb15⟩
  have HB15 := Lib.hid (below_step HB14.out hb15)
  clear hb15 hb14'
  go_wp2_with fail
  with_reducible refine (known_any _).mono ?_
  rintro e w16 ⟨rfl, hb16⟩
  go_wp2_with fail
  go_ret
  exact ⟨rfl, below_step HB15.out hb16⟩

set_option maxRecDepth 100000 in
theorem framesBytes_calls (p : List UInt8) (hp : p.length ≤ 140737488351232) (y : Int) (wy : (Lit.int .u8 y).wf = true) (w : World) :
    Calls Try.prog 5 #[.string (S p), .int .u8 y] w fun e w' => e = .returned (.bool true) ∧ Below w.heap.size w w' := by
  have hy := u8_range wy
  by_cases h1 : 3000 < p.length
  · have d1 : decide (3000 < (p.length : Int)) = true := by simp; omega
    go_enter Try.func5, Try.ntmps5
    go_wp2_with fail
    with_reducible refine (known_any _).mono ?_
    rintro e w1 ⟨rfl, hb1⟩
    go_wp2_with fail
    go_ret
    exact ⟨rfl, hb1⟩
  by_cases h2 : y = 0
  · subst h2
    have d1 : decide (3000 < (p.length : Int)) = false := by simp; omega
    go_enter Try.func5, Try.ntmps5
    go_wp2_with fail
    with_reducible refine (known_any _).mono ?_
    rintro e w1 ⟨rfl, hb1⟩
    go_wp2_with fail
    go_ret
    exact ⟨rfl, hb1⟩
  exact framesBytes_mid p (by omega) y (by omega) w

end Go.Proofs.Ytehcedepiepbiaa
