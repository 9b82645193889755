/- Layer 15: Range, by a contract. -/
import Derived.Test.YthidmgnfdikppaaMemN
namespace Go.Proofs.Ythidmgnfdikppaa
set_option linter.unusedVariables false
set_option linter.unusedSimpArgs false
open Go Go.RowKit
attribute [local go_sem ↓] run_index_S
attribute [local go_sem] S_append S_extract

/-- How many cells lie ahead of a page. -/
def M.posP (Ps : List M.Pg) (k : Nat) : Nat := (M.flat (Ps.take k)).length
theorem M.pos_at {Ps : List M.Pg} {k i : Nat} (hk : k < Ps.length) (hi : i < (Ps.getD k M.pg0).l.length) : M.posP Ps k + i < (M.flat Ps).length ∧ (M.flat Ps).getD (M.posP Ps k + i) M.cl0 = (Ps.getD k M.pg0).l.getD i M.cl0 := by
  rw [M.flat_at hk]
  refine ⟨by simp only [List.length_append, M.posP]; omega, ?_⟩
  have e : ∀ (A B C : List M.Cl), i < B.length → (A ++ (B ++ C)).getD (A.length + i) M.cl0 = B.getD i M.cl0 := fun A B C h => by
    simp only [List.getD]
    rw [List.getElem?_append_right (by omega), show A.length + i - A.length = i from by omega, List.getElem?_append_left h]
  exact e _ _ _ hi
theorem M.pos_succ {Ps : List M.Pg} {k : Nat} (hk : k < Ps.length) : M.posP Ps (k + 1) = M.posP Ps k + (Ps.getD k M.pg0).l.length := by
  have e : Ps.take (k + 1) = Ps.take k ++ [Ps.getD k M.pg0] := by
    rw [List.take_add_one]
    simp [List.getD, List.getElem?_eq_getElem hk]
  unfold M.posP
  rw [e, M.flat_append, List.length_append]
  simp [M.flat]
theorem M.pos_end (Ps : List M.Pg) : M.posP Ps Ps.length = (M.flat Ps).length := by rw [M.posP, List.take_length]
theorem M.strict_get {L : List M.Cl} (h : M.Stt L) {i j : Nat} (hij : i < j) (hj : j < L.length) : M.aheadC (L.getD i M.cl0) (L.getD j M.cl0) = true := by
  have := List.pairwise_iff_getElem.1 h i j (by omega) hj hij
  simpa [List.getD, List.getElem?_eq_getElem hj, List.getElem?_eq_getElem (show i < L.length from by omega)] using this
theorem M.range_seek {Ps : List M.Pg} {lo hi : List UInt8} {a i : Nat} (h : M.SeekOk Ps (M.topC lo) a i) (hst : M.Stt (M.flat Ps)) (hq : ∀ x, x ∈ M.flat Ps → x.seq ≤ 9223372036854775807) :
    M.rangeL lo hi ((M.flat Ps).take (M.posP Ps a + i)) = [] ∧ ∀ m, M.posP Ps a + i ≤ m → m < (M.flat Ps).length → Op.bytesLess ((M.flat Ps).getD m M.cl0).key lo = false := by
  have none_ : ∀ A : List M.Cl, (∀ x, x ∈ A → x ∈ M.flat Ps ∧ M.aheadC x (M.topC lo) = true) → M.rangeL lo hi A = [] := fun A hA => by
    rw [M.rangeL, List.filter_eq_nil_iff]
    intro x hx
    obtain ⟨h1, h2⟩ := hA x hx
    rw [M.ahead_top (hq x h1) lo] at h2
    simp [M.inR, h2]
  by_cases he : a = Ps.length
  · have hi0 := h.end_ he
    have e : M.posP Ps a + i = (M.flat Ps).length := by rw [he, hi0, M.pos_end]; rfl
    rw [e]
    exact ⟨none_ _ (fun x hx => by rw [List.take_length] at hx; exact ⟨hx, h.all he x hx⟩), fun m h1 h2 => absurd h2 (by omega)⟩
  · have hlt : a < Ps.length := by have := h.le; omega
    have hin := h.in_ hlt
    obtain ⟨p1, p2⟩ := M.pos_at hlt hin
    have hx := h.at_ hlt
    rw [← p2] at hx
    refine ⟨?_, fun m h1 h2 => ?_⟩
    · refine none_ _ (fun x hx => ⟨List.mem_of_mem_take hx, ?_⟩)
      obtain ⟨A, y, B, e, eA, ey, eB, hA, hy⟩ := h.cut hlt
      have el : A.length = M.posP Ps a + i := by rw [eA, List.length_append, List.length_take, M.posP]; omega
      rw [e, ← el, List.take_left'] at hx
      · exact hA x hx
      · rfl
    · have hmem : (M.flat Ps).getD m M.cl0 ∈ M.flat Ps := M.getD_memC h2
      rw [← M.ahead_top (hq _ hmem) lo]
      cases hc : M.aheadC ((M.flat Ps).getD m M.cl0) (M.topC lo) with
      | false => rfl
      | true =>
        rcases Nat.lt_or_ge (M.posP Ps a + i) m with q | q
        · rw [M.ahead_trans (M.strict_get hst q h2) hc] at hx; exact hx
        · obtain rfl : m = M.posP Ps a + i := by omega
          rw [hc] at hx; exact hx
theorem M.range_stop {L : List M.Cl} (hst : M.Stt L) {lo hi : List UInt8} {m : Nat} (he : hi.isEmpty = false) (hf : Op.bytesLess (L.getD m M.cl0).key hi = false) : M.rangeL lo hi L = M.rangeL lo hi (L.take m) := by
  conv => lhs; rw [← List.take_append_drop m L]
  rw [M.rangeL, List.filter_append, M.rangeL]
  have : (L.drop m).filter (M.inR lo hi) = [] := by
    rw [List.filter_eq_nil_iff]
    intro c hc
    obtain ⟨j, h1, h2, rfl⟩ := M.mem_getD' hc
    have : Op.bytesLess (L.getD j M.cl0).key hi = false := by
      rcases Nat.lt_or_ge m j with q | q
      · cases k : Op.bytesLess (L.getD j M.cl0).key hi with
        | false => rfl
        | true =>
          rcases M.ahead_iff.1 (M.strict_get hst q h2) with h3 | ⟨h3, _⟩
          · rw [M.less_trans _ _ _ h3 k] at hf; exact hf
          · rw [h3, k] at hf; exact hf
      · obtain rfl : j = m := by omega
        exact hf
    simp only [M.inR, this, he]
    simp
  rw [this, List.append_nil]
set_option maxHeartbeats 4000000 in
set_option maxRecDepth 100000 in
theorem range15_any (B b : Nat) (pa : Option Addr) (pc : Nat) (Ps : List M.Pg) (L : List M.Cl) (lo hi : List UInt8) (w : World) (h : MemAt B b pa pc Ps L w) (h1 : lo.length ≤ 140737488351232) (h2 : hi.length ≤ 140737488351232) :
    Calls Try.prog 56 #[.pointer (some ⟨b, 0, none⟩), .string (S lo), .string (S hi)] w fun e w' => RangeR10 (M.rangeL lo hi L) w e w' := by
  obtain ⟨i0, z0, hi0, hz0, hz1, hz2, hz3⟩ := infoCl_parts
  have hPn := h.ok.n
  have hLn := h.nL
  have CS := Lib.hid (first15_any B b pa pc Ps L lo w h)
  have HSE := Lib.hid (M.seek_ok h.ok (M.topC lo))
  have HR0 := Lib.hid (M.range_seek (lo := lo) (hi := hi) (M.seek_ok h.ok (M.topC lo)) (by rw [h.flat]; exact h.st) (fun x hx => by rw [h.flat] at hx; exact (h.okc x hx).1.2.2.2))
  rw [h.flat] at HR0
  have HPO := Lib.hid (fun k i (hk : k < Ps.length) hi => by have := M.pos_at (Ps := Ps) (k := k) (i := i) hk hi; rw [h.flat] at this; exact this)
  have HPS := Lib.hid (fun k (hk : k < Ps.length) => M.pos_succ (Ps := Ps) (k := k) hk)
  have HPE := Lib.hid (M.pos_end Ps)
  rw [h.flat] at HPE
  have HST := Lib.hid (fun m he hf => M.range_stop (lo := lo) (hi := hi) (m := m) h.st he hf)
  have HKY := Lib.hid (show ∀ c ∈ L, c.key.length ≤ 64 from fun c hc => (M.mayC_true.1 (h.okc c hc).2).2.1)
  have HMS := Lib.hid (fun k (hk : k < Ps.length) => (h.ok.len _ (M.getD_memP hk)).1)
  have HM := Lib.hid h
  unfold SeekR at CS
  generalize M.seekA Ps (M.topC lo) = a at *
  generalize M.seekJ Ps (M.topC lo) = s at *
  clear h
  go_enter Try.func56, Try.ntmps56
  go_wp2_with fail
  refine (CS.out).mono ?_
  rintro e w1 ⟨rfl, hb⟩
  have HB := Lib.hid hb
  clear hb CS
  have HS1 := Lib.hid (show a ≤ Ps.length ∧ (a < Ps.length → s < (Ps.getD a M.pg0).l.length) ∧ (a = Ps.length → s = 0) from ⟨HSE.out.le, HSE.out.in_, HSE.out.end_⟩)
  have HR1 := Lib.hid HR0.out.1
  have HR2 := Lib.hid HR0.out.2
  clear HSE HR0
  generalize M.posP Ps = pos at *
  generalize hs0 : pos a + s = s0 at HR2
  go_wp2_with fail
  go_loopw [7, 8, 9] (fun v7 v8 v9 wr => ∃ (k j : Nat) (A : List M.Cl) (ao : Option Addr) (cap : Nat), k ≤ Ps.length ∧ A.length ≤ 50000 ∧ v8 = .int .i64 k ∧ v9 = .int .i64 j ∧ v7 = .slice ao A.length cap ∧ Hid ((k < Ps.length → j < (Ps.getD k M.pg0).l.length) ∧ (k = Ps.length → j = 0)) ∧ Hid (A = M.rangeL lo hi (L.take (pos k + j)) ∧ s0 ≤ pos k + j) ∧ Hid (wr.ownsRow w.heap.size 38 3 (.slice ao A.length cap) A.length (cls A)) ∧ Hid (Below w.heap.size w wr)) (fun _ v _ _ => Ps.length - (intOf v).toNat)
  case atStart => exact ⟨a, s, [], none, 0, HS1.out.1, by simp, rfl, rfl, rfl, Lib.hid HS1.out.2, Lib.hid ⟨HR1.out.symm, Nat.le_of_eq hs0.symm⟩, Lib.hid (World.ownsRow_nil _ _ _ _), HB⟩
  case round =>
    clear HB HS1 HR1 hs0
    obtain ⟨k, j, A, ao, cap, hk, hA, rfl, rfl, rfl, HJ, HA, HO, HB⟩ := hrel
    have HMr := Lib.hid (HM.out.below HB.out)
    have r0 := HMr.out.row.cell 0
    by_cases hlt : k < Ps.length
    · have d1 : decide ((k : Int) < (Ps.length : Int)) = true := by simp; omega
      have hki : (k : Int) < (Ps.length : Int) := by omega
      obtain ⟨g, rfl, z0, hcl⟩ := HMr.out.pgs.at_ hlt
      have HCL := Lib.hid (fun (W : World) (hW : Below w.heap.size w W) => by
        obtain ⟨g2, _, _, e⟩ := (HM.out.below hW).pgs.at_ hlt
        exact e)
      have hjl := HJ.out.1 hlt
      have HP1 := Lib.hid (fun i => HPO.out k i hlt)
      have HP2 := Lib.hid (HPS.out k hlt)
      have hlk := HMr.out.ok.len _ (M.getD_memP hlt)
      have hkk : ¬ ((Ps.getD k M.pg0).k = j) := by
        rcases (HMr.out.blk _ (M.getD_memP hlt)).2.2 with e | ⟨_, e, _⟩ <;> omega
      clear hcl HJ
      generalize Ps.getD k M.pg0 = p at *
      unfold pgV at z0
      have hji : (j : Int) ≤ (p.l.length : Int) := by omega
      clear HMr
      go_wp2_with fail
      have hn : p.l.length - j ≤ p.l.length := Nat.sub_le _ _
      have HN := Lib.hid (show j + (p.l.length - j) = p.l.length from by omega)
      generalize p.l.length - j = n at *
      generalize p.k - j = kk at *
      clear hkk r0 z0
      go_loopw [7, 39] (fun v7 v39 wr => ∃ (i : Nat) (A' : List M.Cl) (ao' : Option Addr) (cap' : Nat), i ≤ n ∧ A'.length ≤ 50000 ∧ v39 = .int .i64 i ∧ v7 = .slice ao' A'.length cap' ∧ Hid (A' = M.rangeL lo hi (L.take (pos k + (j + i)))) ∧ Hid (wr.ownsRow w.heap.size 38 3 (.slice ao' A'.length cap') A'.length (cls A')) ∧ Hid (Below w.heap.size w wr)) (fun _ v _ => n - (intOf v).toNat)
      case atStart => exact ⟨0, A, ao, cap, Nat.zero_le _, hA, rfl, rfl, Lib.hid HA.out.1, HO, HB⟩
      case round =>
        have HS0 := Lib.hid HA.out.2
        clear HO HB HA
        obtain ⟨i, A', ao', cap', hi_, hA', rfl, rfl, HA, HO, HB⟩ := hrel
        by_cases hil : i < n
        · have d3 : decide ((i : Int) < (n : Int)) = true := by simp; omega
          have d4 : decide (i < n) = true := by simp; omega
          have hii : (i : Int) < (n : Int) := by omega
          have hjl2 : j + i < p.l.length := by rw [← HN.out]; omega
          obtain ⟨y0, y1, y2⟩ : ClOff (p.l.getD (j + i) M.cl0) wr p.q (p.o + j * 3 + i * 3) := by
            have := HCL.out wr HB.out (j + i) hjl2
            rw [show p.o + j * 3 + i * 3 = p.o + (j + i) * 3 from by omega]
            exact this
          obtain ⟨q1, q2⟩ := HP1.out (j + i) hjl2
          have HTK := Lib.hid (M.range_take lo hi q1)
          have hkl := HKY.out _ (M.getD_memC q1)
          have HLO := Lib.hid (HR2.out _ (by have := HS0.out; omega) q1)
          have HIN : Hid (M.inR lo hi (L.getD (pos k + (j + i)) M.cl0) = (!Op.bytesLess (L.getD (pos k + (j + i)) M.cl0).key lo && (hi.isEmpty || Op.bytesLess (L.getD (pos k + (j + i)) M.cl0).key hi))) := Lib.hid rfl
          have HSTm := Lib.hid (HST.out (pos k + (j + i)))
          have HLN := Lib.hid q1
          have e1 : pos k + (j + i) + 1 = pos k + (j + (i + 1)) := by omega
          rw [e1] at HTK
          rw [q2] at HTK HIN HSTm hkl HLO
          clear q1 q2 e1
          generalize p.l.getD (j + i) M.cl0 = c at *
          have HX := Lib.hid (rowIn_new (clA c) 38 wr)
          have HO2 := Lib.hid (ownP_below HO.out ((Below.refl wr.heap.size wr).alloc (Nat.le_refl _) (.cells (clA c) 38)))
          have HB2 := carryA (w := wr) (.cells (clA c) 38) HB
          have HLEN := Lib.hid (show A'.length ≤ pos k + (j + i) from by
            rw [HA.out]
            have h1 := M.range_len lo hi (L.take (pos k + (j + i)))
            rw [List.length_take] at h1
            omega)
          cases he : hi.isEmpty with
          | true =>
            obtain rfl : hi = [] := by simpa using he
            have HR := Lib.hid (show A' ++ [c] = M.rangeL lo [] (L.take (pos k + (j + (i + 1)))) from by rw [HTK.out, HIN.out, HLO.out, show ([] : List UInt8).isEmpty = true from rfl]; simp [← HA.out])
            have HXX := Lib.hid (rowIn_new (clA c) 38 (wr.alloc (.cells (clA c) 38)))
            have HO3 := Lib.hid (ownP_below HO2.out ((Below.refl _ (wr.alloc (.cells (clA c) 38))).alloc (Nat.le_refl _) (.cells (clA c) 38)))
            have HB3 := carryA (w := wr.alloc (.cells (clA c) 38)) (.cells (clA c) 38) HB2
            have z0' := HX.out.cell 0
            go_wp2_with (at_builtin; refine wpList_append_cls_at rfl _ _ 22 rfl w.heap.size i0 z0 Try.underlying22 hi0 hz0 hz1 hz2 hz3 (.slice ao' A'.length cap') A'.length (cls A') rfl HO3.out (some ⟨wr.heap.size + 1, 0, none⟩) 1 [c] rfl ?c1 ?c2 ?c3 ?_)
            case c1 => exact clsAt_row (by have := HXX.out; rw [szA] at this; exact this) rfl
            case c2 => have e1 : [c].length = 1 := rfl; omega
            case c3 => exact HB3.out.size
            intro v' w5 ho5 hg5 hat5
            obtain ⟨ao5, cap5, rfl⟩ := ownP_shape ho5
            have e5 : (A' ++ [c]).length = A'.length + 1 := by simp
            have HB5 := Lib.hid (HB3.out.grown hg5 HB3.out.size (fun k hk => (HO3.out.lt k hk).1))
            have HO5 := Lib.hid (show w5.ownsRow w.heap.size 38 3 (.slice ao5 (A' ++ [c]).length cap5) (A' ++ [c]).length (cls (A' ++ [c])) from by rw [e5, cls_append]; exact ho5)
            have HE5 := Lib.hid e5
            clear ho5 hg5 hat5 z0' e5
            go_wp2_with fail
            go_roundw
            case rel => exact ⟨i + 1, A' ++ [c], ao5, cap5, by omega, by rw [HE5.out]; have := HLEN.out; have := HLN.out; omega, by go_num, by rw [HE5.out], HR, HO5, HB5⟩
            case measure => simp [intOf]; omega
          | false =>
            cases hq2 : Op.bytesLess c.key hi with
            | true =>
              have HR := Lib.hid (show A' ++ [c] = M.rangeL lo hi (L.take (pos k + (j + (i + 1)))) from by rw [HTK.out, HIN.out, HLO.out, hq2, he]; simp [← HA.out])
              have HXX := Lib.hid (rowIn_new (clA c) 38 (wr.alloc (.cells (clA c) 38)))
              have HO3 := Lib.hid (ownP_below HO2.out ((Below.refl _ (wr.alloc (.cells (clA c) 38))).alloc (Nat.le_refl _) (.cells (clA c) 38)))
              have HB3 := carryA (w := wr.alloc (.cells (clA c) 38)) (.cells (clA c) 38) HB2
              have z0' := HX.out.cell 0
              go_wp2_with (at_builtin; refine wpList_append_cls_at rfl _ _ 22 rfl w.heap.size i0 z0 Try.underlying22 hi0 hz0 hz1 hz2 hz3 (.slice ao' A'.length cap') A'.length (cls A') rfl HO3.out (some ⟨wr.heap.size + 1, 0, none⟩) 1 [c] rfl ?c1 ?c2 ?c3 ?_)
              case c1 => exact clsAt_row (by have := HXX.out; rw [szA] at this; exact this) rfl
              case c2 => have e1 : [c].length = 1 := rfl; omega
              case c3 => exact HB3.out.size
              intro v' w5 ho5 hg5 hat5
              obtain ⟨ao5, cap5, rfl⟩ := ownP_shape ho5
              have e5 : (A' ++ [c]).length = A'.length + 1 := by simp
              have HB5 := Lib.hid (HB3.out.grown hg5 HB3.out.size (fun k hk => (HO3.out.lt k hk).1))
              have HO5 := Lib.hid (show w5.ownsRow w.heap.size 38 3 (.slice ao5 (A' ++ [c]).length cap5) (A' ++ [c]).length (cls (A' ++ [c])) from by rw [e5, cls_append]; exact ho5)
              have HE5 := Lib.hid e5
              clear ho5 hg5 hat5 z0' e5
              go_wp2_with fail
              go_roundw
              case rel => exact ⟨i + 1, A' ++ [c], ao5, cap5, by omega, by rw [HE5.out]; have := HLEN.out; have := HLN.out; omega, by go_num, by rw [HE5.out], HR, HO5, HB5⟩
              case measure => simp [intOf]; omega
            | false =>
              have HR := Lib.hid (show M.rangeL lo hi L = A' from by rw [HSTm.out he hq2]; exact HA.out.symm)
              go_wp2_with fail
              go_ret
              exact ⟨ao', cap', by rw [HR.out]; rfl, by rw [HR.out]; exact HO2.out, HB2.out⟩
        · obtain rfl : i = n := by omega
          have d3 : decide ((i : Int) < (i : Int)) = false := by simp
          have d4 : decide (i < i) = false := by simp
          have HR := Lib.hid (show A' = M.rangeL lo hi (L.take (pos (k + 1) + 0)) from by rw [HP2.out, Nat.add_zero, ← HN.out]; exact HA.out)
          have HS2 := Lib.hid (show s0 ≤ pos (k + 1) + 0 from by have := HS0.out; have := HN.out; rw [HP2.out]; omega)
          clear HA HS0
          go_wp2_with fail
          go_roundw
          case rel => exact ⟨k + 1, 0, A', ao', cap', by omega, hA', by go_num, rfl, rfl, Lib.hid ⟨fun h => (HMS.out (k + 1) h), fun _ => rfl⟩, Lib.hid ⟨HR.out, HS2.out⟩, HO, HB⟩
          case measure => simp [intOf]; omega
    · obtain rfl : k = Ps.length := by omega
      have d1 : decide ((Ps.length : Int) < (Ps.length : Int)) = false := by simp
      have HR := Lib.hid (show M.rangeL lo hi L = A from by
        rw [HA.out.1, HJ.out.2 rfl, Nat.add_zero, HPE.out, List.take_length])
      go_wp2_with fail
      go_ret
      exact ⟨ao, cap, by rw [HR.out]; rfl, by rw [HR.out]; exact HO.out, HB.out⟩

end Go.Proofs.Ythidmgnfdikppaa
