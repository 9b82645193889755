/- Texts of lower layers, as one. -/
import Derived.Test.YthidmgnfdikppaaMemL
import Derived.Deep.RegionLaw
import Derived.Deep.RegionHeld3
/- Layer 15: Put, by a contract. -/
namespace Go.Proofs.Ythidmgnfdikppaa
set_option linter.unusedVariables false
set_option linter.unusedSimpArgs false
open Go Go.RowKit
attribute [local go_sem ↓] run_index_S
attribute [local go_sem] S_append S_extract

/-- What Put answers and leaves. -/
def M.putL (c : M.Cl) (L : List M.Cl) : List M.Cl := if M.mayC c = true then M.insC c L else L
def PutR (B b : Nat) (pa : Option Addr) (Ps : List M.Pg) (c : M.Cl) (L : List M.Cl) (w : World) (e : Ending) (w' : World) : Prop :=
  e = .returned (.int .i64 (if M.mayC c then 0 else 2)) ∧ ∃ pa' pc' Ps', MemAt B b pa' pc' Ps' (M.putL c L) w' ∧ SmP Ps' ∧ OnlyS (WrS b pa Ps) w w' ∧ Grw b pa Ps w pa' Ps'
set_option maxHeartbeats 4000000 in
set_option maxRecDepth 100000 in
theorem put15_any (B b : Nat) (pa : Option Addr) (pc : Nat) (Ps : List M.Pg) (L : List M.Cl) (c : M.Cl) (w : World) (h : MemAt B b pa pc Ps L w) (hsm : SmP Ps) (hBw : B ≤ w.heap.size) (hc : ClOk c) (hn : L.length < 50000) :
    Calls Try.prog 51 #[.pointer (some ⟨b, 0, none⟩), .agg (clA c)] w (PutR B b pa Ps c L w) := by
  have hal := (Below.refl w.heap.size w).alloc (Nat.le_refl _) (.cells (clA c) 38)
  have HB := Lib.hid hal
  have HM := Lib.hid (h.below hal)
  have HX := Lib.hid (rowIn_new (clA c) 38 w)
  have CK := Lib.hid (fun V => check9_any c hc V)
  have CL := Lib.hid (fun hm (V : World) hV hBV => lay15_any B b pa pc Ps L c V hV hsm hBV ⟨hc, hm⟩ hn)
  have HBW := Lib.hid hBw
  have HSM := Lib.hid hsm
  have r2 : (w.alloc (.cells (clA c) 38)).cell? ⟨b, 2, none⟩ = some (.bool true) := HM.out.row.cell 2
  unfold PutR M.putL
  unfold LayR at CL
  clear hal h hBw hsm hn hc
  generalize M.mayC c = mb at *
  go_enter Try.func51, Try.ntmps51
  go_wp2_with fail
  have hxe : ∃ x, x = w.heap.size := ⟨_, rfl⟩
  obtain ⟨X, hX⟩ := hxe
  rw [← hX] at HX ⊢
  obtain ⟨x0, x1, x2⟩ : (w.alloc (.cells (clA c) 38)).cell? ⟨X, 0, none⟩ = some (.string (S c.key)) ∧ (w.alloc (.cells (clA c) 38)).cell? ⟨X, 1, none⟩ = some (.int .i64 c.seq) ∧ (w.alloc (.cells (clA c) 38)).cell? ⟨X, 2, none⟩ = some (.string (S c.val)) := ⟨HX.out.cell 0, HX.out.cell 1, HX.out.cell 2⟩
  clear hX
  go_wp2_with fail
  refine (CK.out _).mono ?_
  rintro e w1 ⟨rfl, hb⟩
  replace HB := carry hb HB
  replace HX := carry hb HX
  replace HM := carry hb HM
  clear hb CK x0 x1 x2 r2
  obtain ⟨x0, x1, x2⟩ : w1.cell? ⟨X, 0, none⟩ = some (.string (S c.key)) ∧ w1.cell? ⟨X, 1, none⟩ = some (.int .i64 c.seq) ∧ w1.cell? ⟨X, 2, none⟩ = some (.string (S c.val)) := ⟨HX.out.cell 0, HX.out.cell 1, HX.out.cell 2⟩
  cases mb with
  | false =>
    clear CL
    go_wp2_with fail
    go_ret
    exact ⟨rfl, pa, pc, Ps, HM.out, HSM.out, onlyS_below HB.out, Grw.refl _ _ _ _⟩
  | true =>
    replace CL := Lib.hid (CL.out rfl w1 HM.out (Nat.le_trans HBW.out HB.out.size))
    go_wp2_with fail
    refine (CL.out).mono ?_
    rintro e w2 ⟨rfl, hl⟩
    have HL := Lib.hid hl
    clear hl CL
    go_wp2_with fail
    go_ret
    obtain ⟨pa', pc', Ps', k1, k2, k3, k4⟩ := HL.out
    exact ⟨rfl, pa', pc', Ps', k1, k2, (onlyS_below HB.out).trans2 k3 (fun x hx => .inl hx), k4.mono HB.out.size⟩

end Go.Proofs.Ythidmgnfdikppaa

/- Layer 15: Range, by a contract. -/
namespace Go.Proofs.Ythidmgnfdikppaa
set_option linter.unusedVariables false
set_option linter.unusedSimpArgs false
open Go Go.RowKit
attribute [local go_sem ↓] run_index_S
attribute [local go_sem] S_append S_extract

/-- How many cells lie ahead of a page. -/
def M.posP (Ps : List M.Pg) (k : Nat) : Nat := (M.flat (Ps.take k)).length
theorem M.pos_at {Ps : List M.Pg} {k i : Nat} (hk : k < Ps.length) (hi : i < (Ps.getD k M.pg0).l.length) : M.posP Ps k + i < (M.flat Ps).length ∧ (M.flat Ps).getD (M.posP Ps k + i) M.cl0 = (Ps.getD k M.pg0).l.getD i M.cl0 := by
  rw [M.flat_at hk]
  refine ⟨by simp only [List.length_append, M.posP]; omega, ?_⟩
  have e : ∀ (A B C : List M.Cl), i < B.length → (A ++ (B ++ C)).getD (A.length + i) M.cl0 = B.getD i M.cl0 := fun A B C h => by
    simp only [List.getD]
    rw [List.getElem?_append_right (by omega), show A.length + i - A.length = i from by omega, List.getElem?_append_left h]
  exact e _ _ _ hi
theorem M.pos_succ {Ps : List M.Pg} {k : Nat} (hk : k < Ps.length) : M.posP Ps (k + 1) = M.posP Ps k + (Ps.getD k M.pg0).l.length := by
  have e : Ps.take (k + 1) = Ps.take k ++ [Ps.getD k M.pg0] := by
    rw [List.take_add_one]
    simp [List.getD, List.getElem?_eq_getElem hk]
  unfold M.posP
  rw [e, M.flat_append, List.length_append]
  simp [M.flat]
theorem M.pos_end (Ps : List M.Pg) : M.posP Ps Ps.length = (M.flat Ps).length := by rw [M.posP, List.take_length]
theorem M.strict_get {L : List M.Cl} (h : M.Stt L) {i j : Nat} (hij : i < j) (hj : j < L.length) : M.aheadC (L.getD i M.cl0) (L.getD j M.cl0) = true := by
  have := List.pairwise_iff_getElem.1 h i j (by omega) hj hij
  simpa [List.getD, List.getElem?_eq_getElem hj, List.getElem?_eq_getElem (show i < L.length from by omega)] using this
theorem M.range_seek {Ps : List M.Pg} {lo hi : List UInt8} {a i : Nat} (h : M.SeekOk Ps (M.topC lo) a i) (hst : M.Stt (M.flat Ps)) (hq : ∀ x, x ∈ M.flat Ps → x.seq ≤ 9223372036854775807) :
    M.rangeL lo hi ((M.flat Ps).take (M.posP Ps a + i)) = [] ∧ ∀ m, M.posP Ps a + i ≤ m → m < (M.flat Ps).length → Op.bytesLess ((M.flat Ps).getD m M.cl0).key lo = false := by
  have none_ : ∀ A : List M.Cl, (∀ x, x ∈ A → x ∈ M.flat Ps ∧ M.aheadC x (M.topC lo) = true) → M.rangeL lo hi A = [] := fun A hA => by
    rw [M.rangeL, List.filter_eq_nil_iff]
    intro x hx
    obtain ⟨h1, h2⟩ := hA x hx
    rw [M.ahead_top (hq x h1) lo] at h2
    simp [M.inR, h2]
  by_cases he : a = Ps.length
  · have hi0 := h.end_ he
    have e : M.posP Ps a + i = (M.flat Ps).length := by rw [he, hi0, M.pos_end]; rfl
    rw [e]
    exact ⟨none_ _ (fun x hx => by rw [List.take_length] at hx; exact ⟨hx, h.all he x hx⟩), fun m h1 h2 => absurd h2 (by omega)⟩
  · have hlt : a < Ps.length := by have := h.le; omega
    have hin := h.in_ hlt
    obtain ⟨p1, p2⟩ := M.pos_at hlt hin
    have hx := h.at_ hlt
    rw [← p2] at hx
    refine ⟨?_, fun m h1 h2 => ?_⟩
    · refine none_ _ (fun x hx => ⟨List.mem_of_mem_take hx, ?_⟩)
      obtain ⟨A, y, B, e, eA, ey, eB, hA, hy⟩ := h.cut hlt
      have el : A.length = M.posP Ps a + i := by rw [eA, List.length_append, List.length_take, M.posP]; omega
      rw [e, ← el, List.take_left'] at hx
      · exact hA x hx
      · rfl
    · have hmem : (M.flat Ps).getD m M.cl0 ∈ M.flat Ps := M.getD_memC h2
      rw [← M.ahead_top (hq _ hmem) lo]
      cases hc : M.aheadC ((M.flat Ps).getD m M.cl0) (M.topC lo) with
      | false => rfl
      | true =>
        rcases Nat.lt_or_ge (M.posP Ps a + i) m with q | q
        · rw [M.ahead_trans (M.strict_get hst q h2) hc] at hx; exact hx
        · obtain rfl : m = M.posP Ps a + i := by omega
          rw [hc] at hx; exact hx
theorem M.range_stop {L : List M.Cl} (hst : M.Stt L) {lo hi : List UInt8} {m : Nat} (he : hi.isEmpty = false) (hf : Op.bytesLess (L.getD m M.cl0).key hi = false) : M.rangeL lo hi L = M.rangeL lo hi (L.take m) := by
  conv => lhs; rw [← List.take_append_drop m L]
  rw [M.rangeL, List.filter_append, M.rangeL]
  have : (L.drop m).filter (M.inR lo hi) = [] := by
    rw [List.filter_eq_nil_iff]
    intro c hc
    obtain ⟨j, h1, h2, rfl⟩ := M.mem_getD' hc
    have : Op.bytesLess (L.getD j M.cl0).key hi = false := by
      rcases Nat.lt_or_ge m j with q | q
      · cases k : Op.bytesLess (L.getD j M.cl0).key hi with
        | false => rfl
        | true =>
          rcases M.ahead_iff.1 (M.strict_get hst q h2) with h3 | ⟨h3, _⟩
          · rw [M.less_trans _ _ _ h3 k] at hf; exact hf
          · rw [h3, k] at hf; exact hf
      · obtain rfl : j = m := by omega
        exact hf
    simp only [M.inR, this, he]
    simp
  rw [this, List.append_nil]
set_option maxHeartbeats 4000000 in
set_option maxRecDepth 100000 in
theorem range15_any (B b : Nat) (pa : Option Addr) (pc : Nat) (Ps : List M.Pg) (L : List M.Cl) (lo hi : List UInt8) (w : World) (h : MemAt B b pa pc Ps L w) (h1 : lo.length ≤ 140737488351232) (h2 : hi.length ≤ 140737488351232) :
    Calls Try.prog 56 #[.pointer (some ⟨b, 0, none⟩), .string (S lo), .string (S hi)] w fun e w' => RangeR10 (M.rangeL lo hi L) w e w' := by
  obtain ⟨i0, z0, hi0, hz0, hz1, hz2, hz3⟩ := infoCl_parts
  have hPn := h.ok.n
  have hLn := h.nL
  have CS := Lib.hid (first15_any B b pa pc Ps L lo w h)
  have HSE := Lib.hid (M.seek_ok h.ok (M.topC lo))
  have HR0 := Lib.hid (M.range_seek (lo := lo) (hi := hi) (M.seek_ok h.ok (M.topC lo)) (by rw [h.flat]; exact h.st) (fun x hx => by rw [h.flat] at hx; exact (h.okc x hx).1.2.2.2))
  rw [h.flat] at HR0
  have HPO := Lib.hid (fun k i (hk : k < Ps.length) hi => by have := M.pos_at (Ps := Ps) (k := k) (i := i) hk hi; rw [h.flat] at this; exact this)
  have HPS := Lib.hid (fun k (hk : k < Ps.length) => M.pos_succ (Ps := Ps) (k := k) hk)
  have HPE := Lib.hid (M.pos_end Ps)
  rw [h.flat] at HPE
  have HST := Lib.hid (fun m he hf => M.range_stop (lo := lo) (hi := hi) (m := m) h.st he hf)
  have HKY := Lib.hid (show ∀ c ∈ L, c.key.length ≤ 64 from fun c hc => (M.mayC_true.1 (h.okc c hc).2).2.1)
  have HMS := Lib.hid (fun k (hk : k < Ps.length) => (h.ok.len _ (M.getD_memP hk)).1)
  have HM := Lib.hid h
  unfold SeekR at CS
  generalize M.seekA Ps (M.topC lo) = a at *
  generalize M.seekJ Ps (M.topC lo) = s at *
  clear h
  go_enter Try.func56, Try.ntmps56
  go_wp2_with fail
  refine (CS.out).mono ?_
  rintro e w1 ⟨rfl, hb⟩
  have HB := Lib.hid hb
  clear hb CS
  have HS1 := Lib.hid (show a ≤ Ps.length ∧ (a < Ps.length → s < (Ps.getD a M.pg0).l.length) ∧ (a = Ps.length → s = 0) from ⟨HSE.out.le, HSE.out.in_, HSE.out.end_⟩)
  have HR1 := Lib.hid HR0.out.1
  have HR2 := Lib.hid HR0.out.2
  clear HSE HR0
  generalize M.posP Ps = pos at *
  generalize hs0 : pos a + s = s0 at HR2
  go_wp2_with fail
  go_loopw [7, 8, 9] (fun v7 v8 v9 wr => ∃ (k j : Nat) (A : List M.Cl) (ao : Option Addr) (cap : Nat), k ≤ Ps.length ∧ A.length ≤ 50000 ∧ v8 = .int .i64 k ∧ v9 = .int .i64 j ∧ v7 = .slice ao A.length cap ∧ Hid ((k < Ps.length → j < (Ps.getD k M.pg0).l.length) ∧ (k = Ps.length → j = 0)) ∧ Hid (A = M.rangeL lo hi (L.take (pos k + j)) ∧ s0 ≤ pos k + j) ∧ Hid (wr.ownsRow w.heap.size 38 3 (.slice ao A.length cap) A.length (cls A)) ∧ Hid (Below w.heap.size w wr)) (fun _ v _ _ => Ps.length - (intOf v).toNat)
  case atStart => exact ⟨a, s, [], none, 0, HS1.out.1, by simp, rfl, rfl, rfl, Lib.hid HS1.out.2, Lib.hid ⟨HR1.out.symm, Nat.le_of_eq hs0.symm⟩, Lib.hid (World.ownsRow_nil _ _ _ _), HB⟩
  case round =>
    clear HB HS1 HR1 hs0
    obtain ⟨k, j, A, ao, cap, hk, hA, rfl, rfl, rfl, HJ, HA, HO, HB⟩ := hrel
    have HMr := Lib.hid (HM.out.below HB.out)
    have r0 := HMr.out.row.cell 0
    by_cases hlt : k < Ps.length
    · have d1 : decide ((k : Int) < (Ps.length : Int)) = true := by simp; omega
      have hki : (k : Int) < (Ps.length : Int) := by omega
      obtain ⟨g, rfl, z0, hcl⟩ := HMr.out.pgs.at_ hlt
      have HCL := Lib.hid (fun (W : World) (hW : Below w.heap.size w W) => by
        obtain ⟨g2, _, _, e⟩ := (HM.out.below hW).pgs.at_ hlt
        exact e)
      have hjl := HJ.out.1 hlt
      have HP1 := Lib.hid (fun i => HPO.out k i hlt)
      have HP2 := Lib.hid (HPS.out k hlt)
      have hlk := HMr.out.ok.len _ (M.getD_memP hlt)
      have hkk : ¬ ((Ps.getD k M.pg0).k = j) := by
        rcases (HMr.out.blk _ (M.getD_memP hlt)).2.2 with e | ⟨_, e, _⟩ <;> omega
      clear hcl HJ
      generalize Ps.getD k M.pg0 = p at *
      unfold pgV at z0
      have hji : (j : Int) ≤ (p.l.length : Int) := by omega
      clear HMr
      go_wp2_with fail
      have hn : p.l.length - j ≤ p.l.length := Nat.sub_le _ _
      have HN := Lib.hid (show j + (p.l.length - j) = p.l.length from by omega)
      generalize p.l.length - j = n at *
      generalize p.k - j = kk at *
      clear hkk r0 z0
      go_loopw [7, 39] (fun v7 v39 wr => ∃ (i : Nat) (A' : List M.Cl) (ao' : Option Addr) (cap' : Nat), i ≤ n ∧ A'.length ≤ 50000 ∧ v39 = .int .i64 i ∧ v7 = .slice ao' A'.length cap' ∧ Hid (A' = M.rangeL lo hi (L.take (pos k + (j + i)))) ∧ Hid (wr.ownsRow w.heap.size 38 3 (.slice ao' A'.length cap') A'.length (cls A')) ∧ Hid (Below w.heap.size w wr)) (fun _ v _ => n - (intOf v).toNat)
      case atStart => exact ⟨0, A, ao, cap, Nat.zero_le _, hA, rfl, rfl, Lib.hid HA.out.1, HO, HB⟩
      case round =>
        have HS0 := Lib.hid HA.out.2
        clear HO HB HA
        obtain ⟨i, A', ao', cap', hi_, hA', rfl, rfl, HA, HO, HB⟩ := hrel
        by_cases hil : i < n
        · have d3 : decide ((i : Int) < (n : Int)) = true := by simp; omega
          have d4 : decide (i < n) = true := by simp; omega
          have hii : (i : Int) < (n : Int) := by omega
          have hjl2 : j + i < p.l.length := by rw [← HN.out]; omega
          obtain ⟨y0, y1, y2⟩ : ClOff (p.l.getD (j + i) M.cl0) wr p.q (p.o + j * 3 + i * 3) := by
            have := HCL.out wr HB.out (j + i) hjl2
            rw [show p.o + j * 3 + i * 3 = p.o + (j + i) * 3 from by omega]
            exact this
          obtain ⟨q1, q2⟩ := HP1.out (j + i) hjl2
          have HTK := Lib.hid (M.range_take lo hi q1)
          have hkl := HKY.out _ (M.getD_memC q1)
          have HLO := Lib.hid (HR2.out _ (by have := HS0.out; omega) q1)
          have HIN : Hid (M.inR lo hi (L.getD (pos k + (j + i)) M.cl0) = (!Op.bytesLess (L.getD (pos k + (j + i)) M.cl0).key lo && (hi.isEmpty || Op.bytesLess (L.getD (pos k + (j + i)) M.cl0).key hi))) := Lib.hid rfl
          have HSTm := Lib.hid (HST.out (pos k + (j + i)))
          have HLN := Lib.hid q1
          have e1 : pos k + (j + i) + 1 = pos k + (j + (i + 1)) := by omega
          rw [e1] at HTK
          rw [q2] at HTK HIN HSTm hkl HLO
          clear q1 q2 e1
          generalize p.l.getD (j + i) M.cl0 = c at *
          have HX := Lib.hid (rowIn_new (clA c) 38 wr)
          have HO2 := Lib.hid (ownP_below HO.out ((Below.refl wr.heap.size wr).alloc (Nat.le_refl _) (.cells (clA c) 38)))
          have HB2 := carryA (w := wr) (.cells (clA c) 38) HB
          have HLEN := Lib.hid (show A'.length ≤ pos k + (j + i) from by
            rw [HA.out]
            have h1 := M.range_len lo hi (L.take (pos k + (j + i)))
            rw [List.length_take] at h1
            omega)
          cases he : hi.isEmpty with
          | true =>
            obtain rfl : hi = [] := by simpa using he
            have HR := Lib.hid (show A' ++ [c] = M.rangeL lo [] (L.take (pos k + (j + (i + 1)))) from by rw [HTK.out, HIN.out, HLO.out, show ([] : List UInt8).isEmpty = true from rfl]; simp [← HA.out])
            have HXX := Lib.hid (rowIn_new (clA c) 38 (wr.alloc (.cells (clA c) 38)))
            have HO3 := Lib.hid (ownP_below HO2.out ((Below.refl _ (wr.alloc (.cells (clA c) 38))).alloc (Nat.le_refl _) (.cells (clA c) 38)))
            have HB3 := carryA (w := wr.alloc (.cells (clA c) 38)) (.cells (clA c) 38) HB2
            have z0' := HX.out.cell 0
            go_wp2_with (at_builtin; refine wpList_append_cls_at rfl _ _ 22 rfl w.heap.size i0 z0 Try.underlying22 hi0 hz0 hz1 hz2 hz3 (.slice ao' A'.length cap') A'.length (cls A') rfl HO3.out (some ⟨wr.heap.size + 1, 0, none⟩) 1 [c] rfl ?c1 ?c2 ?c3 ?_)
            case c1 => exact clsAt_row (by have := HXX.out; rw [szA] at this; exact this) rfl
            case c2 => have e1 : [c].length = 1 := rfl; omega
            case c3 => exact HB3.out.size
            intro v' w5 ho5 hg5 hat5
            obtain ⟨ao5, cap5, rfl⟩ := ownP_shape ho5
            have e5 : (A' ++ [c]).length = A'.length + 1 := by simp
            have HB5 := Lib.hid (HB3.out.grown hg5 HB3.out.size (fun k hk => (HO3.out.lt k hk).1))
            have HO5 := Lib.hid (show w5.ownsRow w.heap.size 38 3 (.slice ao5 (A' ++ [c]).length cap5) (A' ++ [c]).length (cls (A' ++ [c])) from by rw [e5, cls_append]; exact ho5)
            have HE5 := Lib.hid e5
            clear ho5 hg5 hat5 z0' e5
            go_wp2_with fail
            go_roundw
            case rel => exact ⟨i + 1, A' ++ [c], ao5, cap5, by omega, by rw [HE5.out]; have := HLEN.out; have := HLN.out; omega, by go_num, by rw [HE5.out], HR, HO5, HB5⟩
            case measure => simp [intOf]; omega
          | false =>
            cases hq2 : Op.bytesLess c.key hi with
            | true =>
              have HR := Lib.hid (show A' ++ [c] = M.rangeL lo hi (L.take (pos k + (j + (i + 1)))) from by rw [HTK.out, HIN.out, HLO.out, hq2, he]; simp [← HA.out])
              have HXX := Lib.hid (rowIn_new (clA c) 38 (wr.alloc (.cells (clA c) 38)))
              have HO3 := Lib.hid (ownP_below HO2.out ((Below.refl _ (wr.alloc (.cells (clA c) 38))).alloc (Nat.le_refl _) (.cells (clA c) 38)))
              have HB3 := carryA (w := wr.alloc (.cells (clA c) 38)) (.cells (clA c) 38) HB2
              have z0' := HX.out.cell 0
              go_wp2_with (at_builtin; refine wpList_append_cls_at rfl _ _ 22 rfl w.heap.size i0 z0 Try.underlying22 hi0 hz0 hz1 hz2 hz3 (.slice ao' A'.length cap') A'.length (cls A') rfl HO3.out (some ⟨wr.heap.size + 1, 0, none⟩) 1 [c] rfl ?c1 ?c2 ?c3 ?_)
              case c1 => exact clsAt_row (by have := HXX.out; rw [szA] at this; exact this) rfl
              case c2 => have e1 : [c].length = 1 := rfl; omega
              case c3 => exact HB3.out.size
              intro v' w5 ho5 hg5 hat5
              obtain ⟨ao5, cap5, rfl⟩ := ownP_shape ho5
              have e5 : (A' ++ [c]).length = A'.length + 1 := by simp
              have HB5 := Lib.hid (HB3.out.grown hg5 HB3.out.size (fun k hk => (HO3.out.lt k hk).1))
              have HO5 := Lib.hid (show w5.ownsRow w.heap.size 38 3 (.slice ao5 (A' ++ [c]).length cap5) (A' ++ [c]).length (cls (A' ++ [c])) from by rw [e5, cls_append]; exact ho5)
              have HE5 := Lib.hid e5
              clear ho5 hg5 hat5 z0' e5
              go_wp2_with fail
              go_roundw
              case rel => exact ⟨i + 1, A' ++ [c], ao5, cap5, by omega, by rw [HE5.out]; have := HLEN.out; have := HLN.out; omega, by go_num, by rw [HE5.out], HR, HO5, HB5⟩
              case measure => simp [intOf]; omega
            | false =>
              have HR := Lib.hid (show M.rangeL lo hi L = A' from by rw [HSTm.out he hq2]; exact HA.out.symm)
              go_wp2_with fail
              go_ret
              exact ⟨ao', cap', by rw [HR.out]; rfl, by rw [HR.out]; exact HO2.out, HB2.out⟩
        · obtain rfl : i = n := by omega
          have d3 : decide ((i : Int) < (i : Int)) = false := by simp
          have d4 : decide (i < i) = false := by simp
          have HR := Lib.hid (show A' = M.rangeL lo hi (L.take (pos (k + 1) + 0)) from by rw [HP2.out, Nat.add_zero, ← HN.out]; exact HA.out)
          have HS2 := Lib.hid (show s0 ≤ pos (k + 1) + 0 from by have := HS0.out; have := HN.out; rw [HP2.out]; omega)
          clear HA HS0
          go_wp2_with fail
          go_roundw
          case rel => exact ⟨k + 1, 0, A', ao', cap', by omega, hA', by go_num, rfl, rfl, Lib.hid ⟨fun h => (HMS.out (k + 1) h), fun _ => rfl⟩, Lib.hid ⟨HR.out, HS2.out⟩, HO, HB⟩
          case measure => simp [intOf]; omega
    · obtain rfl : k = Ps.length := by omega
      have d1 : decide ((Ps.length : Int) < (Ps.length : Int)) = false := by simp
      have HR := Lib.hid (show M.rangeL lo hi L = A from by
        rw [HA.out.1, HJ.out.2 rfl, Nat.add_zero, HPE.out, List.take_length])
      go_wp2_with fail
      go_ret
      exact ⟨ao, cap, by rw [HR.out]; rfl, by rw [HR.out]; exact HO.out, HB.out⟩

end Go.Proofs.Ythidmgnfdikppaa

/- Layer 15: of, by a contract. -/
namespace Go.Proofs.Ythidmgnfdikppaa
set_option linter.unusedVariables false
set_option linter.unusedSimpArgs false
open Go Go.RowKit
attribute [local go_sem ↓] run_index_S
attribute [local go_sem] S_append S_extract

theorem ownP_parts15 {w : World} {B sz n : Nat} {e : TypeId} {v : Value} {xs : List Value} (h : w.ownsRow B e sz v n xs) : ∃ ao c, v = .slice ao n c := by
  rcases h.2 with ⟨rfl, rfl⟩ | ⟨g, cap, cur, rfl, _⟩
  · exact ⟨_, _, rfl⟩
  · exact ⟨_, _, rfl⟩
/-- append at a step of a region that draws its order. -/
theorem step_append_own15 {P : Program} {w : World} {ops : Array Oper} {o : Oper} {a : Act} {K : Act → World → Prop} {Q : Exit → Act → World → Prop} {E : Prop} (hgd : o.guard = none) (s x : Operand) (t : TypeId)
    (ho : o.op = .call { callee := .builtin .append, args := #[s, x], argTypes := #[t, t] })
    (base : Nat) (e : TypeId) (i : TypeInfo) (z : Value) (size bytes : Nat) (ht : P.underlying t = some (.slice e)) (hi : P.info? e = some i) (hz : i.zero = some z)
    (hsize : i.size = size) (hby : i.bytes = bytes) (hzs : z.cells.size = size) (hsz : 0 < size)
    (v : Value) (n : Nat) (xs : List Value) (hs : a.eval s = v) (hown : w.ownsRow base e size v n xs)
    (ad : Addr) (m c : Nat) (news : List Value) (hx : a.eval x = .slice (some ad) m c) (hl : news.length = m * size) (hnews : ∀ j u, news[j]? = some u → w.cell? (ad.add j) = some u) (h1 : ∀ u ∈ news, u.oneCell' = true)
    (h63 : n + m ≤ maxLen) (hbytes : (n + m) * bytes ≤ 140737488355328) (hbase : base ≤ w.heap.size)
    (h : ∀ v' w', w'.ownsRow base e size v' (n + m) (xs ++ news) → w.grownBy w' v.ownBlock → (v' = .slice none 0 0 ↔ v = .slice none 0 0 ∧ m = 0) → K (a.put o.dst v') w') :
    if Region.wanted o (yielded ops a.tmps) = true then Oper.wp P o a w K Q else E := by
  have hw : Region.wanted o (yielded ops a.tmps) = true := by simp [Region.wanted, hgd]
  rw [if_pos hw]
  exact wp_append_own w s x t ho base e i z size bytes ht hi hz hsize hby hzs hsz v n xs hs hown ad m c news hx hl hnews h1 h63 hbytes hbase h
theorem one_cell15 (w : World) (v : Value) (T : TypeId) : ∀ j u, [v][j]? = some u → (w.alloc (.cells #[v] T)).cell? ((⟨w.heap.size, 0, none⟩ : Addr).add j) = some u := fun j u hu => by
  cases j with
  | zero =>
    injection hu with hu
    subst hu
    exact (rowIn_new #[v] T w).cell 0
  | succ j => cases hu

def slLen15 : Value → Nat
  | .slice _ n _ => n
  | _ => 0
/-- Cells that of may keep. -/
def OfIn (B q o : Nat) (ao : Option Addr) (L : List M.Cl) (w : World) : Prop := 0 < L.length → ao = some ⟨q, o, none⟩ ∧ B ≤ q ∧ (∃ C, RowIn C 38 w q) ∧ ∀ j, j < L.length → ClOff (L.getD j M.cl0) w q (o + j * 3)
/-- Pages that of has made. -/
structure OfS (q o : Nat) (L : List M.Cl) (w0 w : World) (d : Nat) (Ps : List M.Pg) (pa : Option Addr) (pc : Nat) : Prop where
  flat : M.flat Ps = L.take d
  each : ∀ p, p ∈ Ps → p.q = q ∧ p.l.length = p.k ∧ 0 < p.l.length ∧ p.l.length ≤ 32 ∧ PgCl w0 p
  own : w.ownsRow w0.heap.size 136 1 (.slice pa Ps.length pc) Ps.length (pgsV Ps)
  row : RowIn #[.slice pa Ps.length pc, .int .i64 L.length, .bool true] 132 w w0.heap.size
  bel : Below w0.heap.size w0 w
theorem OfS.below {q o d pc : Nat} {L : List M.Cl} {w0 w w' : World} {Ps : List M.Pg} {pa : Option Addr} (h : OfS q o L w0 w d Ps pa pc) (hb : Below w.heap.size w w') : OfS q o L w0 w' d Ps pa pc :=
  ⟨h.flat, h.each, ownP_below h.own hb, h.row.below hb, h.bel.trans (hb.mono h.bel.size)⟩
def OfR (B : Nat) (L : List M.Cl) (w : World) (e : Ending) (w' : World) : Prop :=
  ∃ b pa pc Ps, e = .returned (.pointer (some ⟨b, 0, none⟩)) ∧ MemAt B b pa pc Ps L w' ∧ SmP Ps ∧ (∀ k, WrS b pa Ps k → w.heap.size ≤ k) ∧ Below w.heap.size w w'
theorem WrS.ft {b : Nat} {pa : Option Addr} {Ps : List M.Pg} {k : Nat} (h : WrS b pa Ps k) : FtS b pa Ps k := by
  rcases h with h | h | ⟨p, h1, _, h2⟩
  · exact .inl h
  · exact .inr (.inl h)
  · exact .inr (.inr ⟨p, h1, h2⟩)
def OfQ (B q : Nat) (L : List M.Cl) (w : World) (e : Ending) (w' : World) : Prop :=
  ∃ b pa pc Ps, e = .returned (.pointer (some ⟨b, 0, none⟩)) ∧ MemAt B b pa pc Ps L w' ∧ SmP Ps ∧ (∀ k, WrS b pa Ps k → w.heap.size ≤ k) ∧ (∀ k, FtS b pa Ps k → k = q ∨ w.heap.size ≤ k) ∧ Below w.heap.size w w'
theorem OfQ.one {B q : Nat} {L : List M.Cl} {w w' : World} {e : Ending} (h : OfQ B q L w e w') : OfR B L w e w' := by
  obtain ⟨b, pa, pc, Ps, h1, h2, h3, h4, _, h5⟩ := h
  exact ⟨b, pa, pc, Ps, h1, h2, h3, h4, h5⟩
theorem OfS.step {q o d n pc sc : Nat} {L : List M.Cl} {w0 w w1 w3 : World} {Ps : List M.Pg} {pa sa : Option Addr} (h : OfS q o L w0 w d Ps pa pc) (hcl : ∀ j, j < L.length → ClOff (L.getD j M.cl0) w0 q (o + j * 3)) (hq : q < w0.heap.size)
    (hn : 0 < n) (hn2 : n ≤ 32) (hd : d + n ≤ L.length) (hb : Below w.heap.size w w1) (hg : w1.grownBy w3 (Value.slice pa Ps.length pc).ownBlock)
    (ho : w3.ownsRow w0.heap.size 136 1 (.slice sa (Ps.length + 1) sc) (Ps.length + 1) (pgsV Ps ++ [.slice (some ⟨q, o + d * 3, none⟩) n n])) :
    OfS q o L w0 (w3.setCell ⟨w0.heap.size, 0, none⟩ (.slice sa (Ps.length + 1) sc)) (d + n) (Ps ++ [⟨(L.drop d).take n, q, o + d * 3, n⟩]) sa sc := by
  have hl : ((L.drop d).take n).length = n := by simp; omega
  have hB1 := h.bel.trans (hb.mono h.bel.size)
  have hB3 := hB1.grown hg hB1.size (fun k hk => (h.own.lt k hk).1)
  have hB4 := hB3.setCell (p := ⟨w0.heap.size, 0, none⟩) (Nat.le_refl _) (.slice sa (Ps.length + 1) sc)
  have e1 : (Ps ++ [(⟨(L.drop d).take n, q, o + d * 3, n⟩ : M.Pg)]).length = Ps.length + 1 := by simp
  have hr1 := h.row.below hb
  have hr3 : RowIn #[.slice pa Ps.length pc, .int .i64 L.length, .bool true] 132 w3 w0.heap.size := hr1.grownP hg (fun x hx => row_apart hr1 (ownP_below h.own hb) (by decide) x hx)
  refine ⟨?_, fun p hp => ?_, ?_, ?_, hB4⟩
  · rw [M.flat_append, h.flat, List.take_add, M.flat]
    simp
  · rcases List.mem_append.1 hp with hp | hp
    · exact h.each p hp
    · rw [List.mem_singleton] at hp
      subst hp
      refine ⟨rfl, hl, by show 0 < ((L.drop d).take n).length; omega, by show ((L.drop d).take n).length ≤ 32; omega, fun j hj => ?_⟩
      have hj' : j < n := by rw [← hl]; exact hj
      have := hcl (d + j) (by omega)
      show ClOff (((L.drop d).take n).getD j M.cl0) _ q (o + d * 3 + j * 3)
      rw [show o + d * 3 + j * 3 = o + (d + j) * 3 from by omega]
      rw [show ((L.drop d).take n).getD j M.cl0 = L.getD (d + j) M.cl0 from by simp [List.getD, List.getElem?_take, hj']]
      exact this
  · rw [e1]
    have h5 := ownsRow_setCell_other (a := ⟨w0.heap.size, 0, none⟩) ho (fun e => row_apart hr3 ho (by decide) _ e rfl) (.slice sa (Ps.length + 1) sc)
    rw [pgsV, List.map_append]
    show World.ownsRow _ _ _ _ _ _ (pgsV Ps ++ [.slice (some ⟨q, o + d * 3, none⟩) ((L.drop d).take n).length n])
    rw [hl]
    exact h5
  · rw [e1]
    exact hr3.set 0 _
set_option maxHeartbeats 4000000 in
set_option maxRecDepth 100000 in
theorem of15_any (B q o : Nat) (ao : Option Addr) (cap : Nat) (L : List M.Cl) (w : World) (h : OfIn B q o ao L w) (hcap : L.length ≤ cap) (hst : M.Stt L) (hok : ∀ c, c ∈ L → ClOk c ∧ M.mayC c = true) (hn : L.length ≤ 50000) (hB : B ≤ w.heap.size) :
    Calls Try.prog 104 #[.slice ao L.length cap] w (OfQ B q L w) := by
  obtain ⟨i0, z0, hi0, hz0, hz1, hz2, hz3⟩ := infoPg_parts
  have CN := Lib.hid (new15_any w)
  have HI := Lib.hid h
  have HST := Lib.hid hst
  have HOK := Lib.hid hok
  have HBw := Lib.hid hB
  clear h hst hok hB
  go_enter Try.func104, Try.ntmps104
  go_wp2_with fail
  refine (CN.out).mono ?_
  rintro e w1 ⟨rfl, hw1⟩
  have HR := Lib.hid (show RowIn #[.slice none 0 0, .int .i64 0, .bool true] 132 w1 w.heap.size from by rw [hw1]; exact rowIn_new _ _ _)
  have HB := Lib.hid (show Below w.heap.size w w1 from by rw [hw1]; exact (Below.refl _ _).alloc (Nat.le_refl _) _)
  clear hw1 CN
  obtain ⟨b, hb⟩ : ∃ x, x = w.heap.size := ⟨_, rfl⟩
  rw [← hb] at HR ⊢
  have r1 : w1.cell? ⟨b, 1, none⟩ = some (.int .i64 0) := HR.out.cell 1
  have f1 := HR.out.free 1
  have HS := Lib.hid (show OfS q o L w (w1.setCell ⟨b, 1, none⟩ (.int .i64 L.length)) 0 [] none 0 from ⟨by simp [M.flat], (fun p hp => by cases hp), World.ownsRow_nil _ _ _ _, by rw [← hb]; exact HR.out.set 1 _, HB.out.setCell (by rw [← hb]; exact Nat.le_refl _) _⟩)
  have HBB := Lib.hid hb
  clear hb
  go_wp2_with fail
  go_loopw [0] (fun v0 wr => ∃ (d m : Nat) (Ps : List M.Pg) (ax : Option Addr) (cx : Nat) (pa : Option Addr) (pc : Nat), m ≤ L.length ∧ Ps.length ≤ d ∧ m ≤ cx ∧ v0 = .slice ax m cx ∧ Hid (d + m = L.length) ∧ Hid (0 < m → ax = some ⟨q, o + d * 3, none⟩) ∧ Hid (OfS q o L w wr d Ps pa pc)) (fun v _ => slLen15 v)
  case atStart => exact ⟨0, L.length, [], ao, cap, none, 0, Nat.le_refl _, Nat.le_refl _, hcap, rfl, Lib.hid (by omega), Lib.hid (fun h => by rw [(HI.out h).1]; simp), HS⟩
  case round =>
    clear HS r1 f1 HB HR
    obtain ⟨d, m, Ps, ax, cx, pa, pc, hm, hPd, hcx, rfl, HD, HAX, HS⟩ := hrel
    by_cases hlt : 0 < m
    · have d1 : decide (((m : Nat) : Int) > 0) = true := by simp; omega
      have d2 : decide (0 < m) = true := by simp; omega
      have d3 : (0 : Int) < (m : Int) := by omega
      obtain rfl := HAX.out hlt
      obtain ⟨h1, h2, ⟨C0, h3⟩, h4⟩ := HI.out (by omega)
      have HCL := Lib.hid h4
      have HQ := Lib.hid h3.lt
      clear h1 h2 h3 h4 HAX
      obtain ⟨n, hnn⟩ : ∃ n, n = min 32 m := ⟨_, rfl⟩
      have hmin : min (32 : Int) (m : Int) = (n : Int) := by omega
      have hn0 : 0 < n := by omega
      have hn32 : n ≤ 32 := by omega
      have hnm : n ≤ m := by omega
      have hncx : n ≤ cx := by omega
      have hPl : Ps.length ≤ 50000 := by have := HD.out; omega
      clear hnn
      have hr0 := HS.out.row
      rw [← HBB.out] at hr0
      have c0 : wr.cell? ⟨b, 0, none⟩ = some (.slice pa Ps.length pc) := hr0.cell 0
      have cc0 : ∀ o, (wr.alloc o).cell? ⟨b, 0, none⟩ = some (.slice pa Ps.length pc) := fun o => (hr0.more o).cell 0
      have HR0 := Lib.hid hr0
      clear hr0
      have HO := Lib.hid HS.out.own
      have HSZ := Lib.hid HS.out.bel.size
      go_wp2_with fail
      go_region_law (first
        | ((refine step_append_own15 (by rfl) _ _ 130 (by rfl) w.heap.size 136 i0 z0 1 24 Try.underlying130 hi0 hz0 hz1 hz2 hz3 (by decide) (.slice pa Ps.length pc) Ps.length (pgsV Ps) (by rfl) ((show wr.drew.ownsRow w.heap.size 136 1 (.slice pa Ps.length pc) Ps.length (pgsV Ps) from HO.out).alloc _) ⟨wr.heap.size, 0, none⟩ 1 1 [.slice (some ⟨q, o + d * 3, none⟩) n n] (by rfl) rfl (one_cell15 wr.drew _ _) (fun x hx => by simp at hx; rw [hx]; rfl) (by unfold maxLen; omega) (by omega) (by show w.heap.size ≤ (wr.drew.alloc _).heap.size; rw [szA]; exact Nat.le_succ_of_le HSZ.out) ?_; intro v' w3 hown' hgrow3 hnil3; obtain ⟨so, sc, rfl⟩ := ownP_parts15 hown'; have hb3 := ((show RowIn _ _ wr.drew b from HR0.out).more _).grownP hgrow3 (fun x hx => row_apart HR0.out HO.out (by decide) x hx); have c3 : w3.cell? ⟨b, 0, none⟩ = some (.slice pa Ps.length pc) := hb3.cell 0; have f3 := hb3.free 0)))
      all_goals
        have HW := Lib.hid (HS.out.step (sc := sc) (sa := so) (n := n) HCL.out HQ.out hn0 hn32 (by have := HD.out; omega) (((Below.refl wr.heap.size wr).drew).alloc (Nat.le_refl _) _) hgrow3 hown')
        rw [← HBB.out] at HW
        clear hown' hgrow3 hnil3 hb3
        by_cases hcn : cx = n
        · go_wp2_with fail
          go_roundw
          case rel => exact ⟨d + n, m - n, _, _, 0, so, sc, by omega, by simp; omega, by omega, rfl, Lib.hid (by have := HD.out; omega), Lib.hid (fun h => by omega), HW⟩
          case measure => simp [slLen15]; omega
        · go_wp2_with fail
          go_roundw
          case rel => exact ⟨d + n, m - n, _, _, cx - n, so, sc, by omega, by simp; omega, by omega, rfl, Lib.hid (by have := HD.out; omega), Lib.hid (fun h => by rw [Nat.add_mul, Nat.add_assoc]), HW⟩
          case measure => simp [slLen15]; omega
    · obtain rfl : m = 0 := by omega
      have HE := Lib.hid HD.out
      go_wp2_with fail
      go_ret
      have hf := HS.out.flat
      rw [show d = L.length from HD.out, List.take_length] at hf
      have hbb := HBB.out
      refine ⟨b, pa, pc, Ps, rfl, ⟨by rw [hbb]; exact HS.out.row, ⟨ownP_mono HS.out.own HBw.out, fun p hp => (HS.out.each p hp).2.2.2.2.below HS.out.bel⟩, hf, HST.out, fun p hp => ?_, fun p hp => ?_, fun i j hi hj hij hne => absurd (HS.out.each _ (M.getD_memP hi)).2.1 hne, by rw [hbb]; exact HBw.out, hn, HOK.out⟩, fun p hp => by have := (HS.out.each p hp).2.2.2.1; omega, fun k hk => ?_, fun k hk => ?_, HS.out.bel⟩
      · obtain ⟨e1, e2, e3, e4, e5⟩ := HS.out.each p hp
        have hL : 0 < L.length := by
          rw [← hf]
          exact List.length_pos_of_mem (M.flat_mem hp (M.getD_memC (j := 0) e3))
        obtain ⟨h1, h2, ⟨C0, h3⟩, h4⟩ := HI.out hL
        rw [← e1] at h2 h3
        exact ⟨h2, ⟨C0, h3.below HS.out.bel⟩, .inl e2⟩
      · have := HS.out.each p hp
        omega
      · rcases hk with rfl | ⟨x, rfl⟩ | ⟨p, hp, hp2, _⟩
        · rw [hbb]; exact Nat.le_refl _
        · exact (HS.out.own.lt k rfl).1
        · exact absurd (HS.out.each p hp).2.1 hp2
      · rcases hk with rfl | ⟨x, rfl⟩ | ⟨p, hp, hp2⟩
        · exact .inr (by rw [hbb]; exact Nat.le_refl _)
        · exact .inr (HS.out.own.lt k rfl).1
        · exact .inl (by rw [← hp2]; exact (HS.out.each p hp).1)

end Go.Proofs.Ythidmgnfdikppaa

/- Layer 15: Join, by a contract. -/
namespace Go.Proofs.Ythidmgnfdikppaa
set_option linter.unusedVariables false
set_option linter.unusedSimpArgs false
open Go Go.RowKit
attribute [local go_sem ↓] run_index_S
attribute [local go_sem] S_append S_extract

theorem ofIn_own {B : Nat} {ao : Option Addr} {cap : Nat} {L : List M.Cl} {w : World} (h : w.ownsRow B 38 3 (.slice ao L.length cap) L.length (cls L)) : ∃ q, OfIn B q 0 ao L w ∧ L.length ≤ cap ∧ (0 < L.length → (Value.slice ao L.length cap).ownBlock = some q) := by
  rcases Nat.eq_zero_or_pos L.length with e | e
  · exact ⟨0, fun k => absurd k (by omega), by omega, fun k => absurd k (by omega)⟩
  · obtain ⟨g, c, e1, _, _⟩ := own_slice10 h (by omega)
    obtain ⟨rfl, rfl⟩ : ao = some ⟨g, 0, none⟩ ∧ cap = c := by injection e1 with a b c; exact ⟨a, c⟩
    have h' : w.ownsRow B 38 3 (pgV ⟨L, g, 0, cap⟩) L.length (cls L) := h
    obtain ⟨k1, k2, k3, k4⟩ := pgOwn_row (p := ⟨L, g, 0, cap⟩) h' e
    exact ⟨g, fun _ => ⟨rfl, k1, k3, fun j hj => pgCl_own (p := ⟨L, g, 0, cap⟩) h' rfl j hj⟩, k4, fun _ => rfl⟩
/-- The cells of one, and those of another that it lacks. -/
def M.joinL (a b : List M.Cl) : List M.Cl := b.foldl (fun L c => M.insC c L) a
theorem M.join_snoc (a : List M.Cl) {b : List M.Cl} {i : Nat} (h : i < b.length) : M.joinL a (b.take (i + 1)) = M.insC (b.getD i M.cl0) (M.joinL a (b.take i)) := by
  rw [takeC_snoc h, M.joinL, List.foldl_append]
  rfl
theorem M.join_len (a : List M.Cl) : ∀ (b : List M.Cl), (M.joinL a b).length ≤ a.length + b.length
  | [] => by simp [M.joinL]
  | c :: b => by
    have h1 := M.join_len (M.insC c a) b
    have h2 := M.insC_len c a
    show (M.joinL (M.insC c a) b).length ≤ _
    simp only [List.length_cons]
    omega
theorem MemAt.mono {B B' b pc : Nat} {pa : Option Addr} {Ps : List M.Pg} {L : List M.Cl} {w : World} (h : MemAt B b pa pc Ps L w) (hB : B' ≤ B) : MemAt B' b pa pc Ps L w :=
  ⟨h.row, ⟨ownP_mono h.pgs.row hB, h.pgs.each⟩, h.flat, h.st, fun p hp => by
    obtain ⟨a, b, c⟩ := h.blk p hp
    refine ⟨Nat.le_trans hB a, b, ?_⟩
    rcases c with c | ⟨x, y, z⟩
    · exact .inl c
    · exact .inr ⟨x, y, ownP_mono z hB⟩, h.sm, h.ap, Nat.le_trans hB h.bb, h.nL, h.okc⟩
theorem MemAt.wr {B b pc : Nat} {pa : Option Addr} {Ps : List M.Pg} {L : List M.Cl} {w : World} (h : MemAt B b pa pc Ps L w) {k : Nat} (hk : WrS b pa Ps k) : B ≤ k ∧ k < w.heap.size := by
  rcases hk with rfl | ⟨o, rfl⟩ | ⟨p, hp, _, rfl⟩
  · exact ⟨h.bb, h.row.lt⟩
  · exact h.pgs.row.lt k rfl
  · obtain ⟨a, ⟨C, hC⟩, _⟩ := h.blk p hp
    exact ⟨a, hC.lt⟩
theorem MemAt.ft {B b pc : Nat} {pa : Option Addr} {Ps : List M.Pg} {L : List M.Cl} {w : World} (h : MemAt B b pa pc Ps L w) {k : Nat} (hk : FtS b pa Ps k) : B ≤ k ∧ k < w.heap.size := by
  rcases hk with rfl | ⟨o, rfl⟩ | ⟨p, hp, rfl⟩
  · exact ⟨h.bb, h.row.lt⟩
  · exact h.pgs.row.lt k rfl
  · obtain ⟨a, ⟨C, hC⟩, _⟩ := h.blk p hp
    exact ⟨a, hC.lt⟩
/-- A memory beside which something was written stands as it was. -/
theorem MemAt.only {A : Nat → Prop} {B b pc : Nat} {pa : Option Addr} {Ps : List M.Pg} {L : List M.Cl} {w w' : World} (h : MemAt B b pa pc Ps L w) (hO : OnlyS A w w') (hA : ∀ k, FtS b pa Ps k → ¬ A k) : MemAt B b pa pc Ps L w' := by
  refine ⟨hO.row h.row (hA b (.inl rfl)), ⟨hO.own h.pgs.row (fun q hq => ?_), fun p hp j hj => ?_⟩, h.flat, h.st, fun p hp => ?_, h.sm, h.ap, h.bb, h.nL, h.okc⟩
  · cases pa with
    | none => cases hq
    | some a =>
      injection hq with hq
      have hz : a = ⟨q, 0, none⟩ := by
        rcases h.pgs.row.2 with ⟨e, _⟩ | ⟨g, c, cur, e, _⟩
        · cases e
        · injection e with e
          injection e with e
          rw [e] at hq ⊢
          simp at hq
          rw [hq]
      exact hA q (.inr (.inl ⟨0, by rw [hz]⟩))
  · obtain ⟨_, ⟨C, hC⟩, _⟩ := h.blk p hp
    have hs := hO.block _ hC.lt (hA _ (.inr (.inr ⟨p, hp, rfl⟩)))
    obtain ⟨x, y, z⟩ := h.pgs.each p hp j hj
    refine ⟨?_, ?_, ?_⟩
    · rw [← x]; simp only [World.cell?, hs]
    · rw [← y]; simp only [World.cell?, hs]
    · rw [← z]; simp only [World.cell?, hs]
  · obtain ⟨k1, ⟨C, hC⟩, k3⟩ := h.blk p hp
    have hn := hA _ (.inr (.inr ⟨p, hp, rfl⟩))
    refine ⟨k1, ⟨C, hO.row hC hn⟩, ?_⟩
    rcases k3 with k3 | ⟨a, c, k3⟩
    · exact .inl k3
    · exact .inr ⟨a, c, hO.own k3 (fun q hq => by injection hq with hq; rw [← hq]; exact hn)⟩
/-- A memory that is being written, beside a row of cells. -/
structure JnS (B b g : Nat) (ao : Option Addr) (cap : Nat) (Lb L : List M.Cl) (w0 w : World) : Prop where
  mem : ∃ pa pc Ps, MemAt B b pa pc Ps L w ∧ SmP Ps ∧ ∀ k, WrS b pa Ps k → k ≠ g
  row : ClsAt w ao Lb
  blk : 0 < Lb.length → ∃ C, RowIn C 38 w g
  at_ : 0 < Lb.length → ao = some ⟨g, 0, none⟩
  bel : Below B w0 w
theorem JnS.below {B b g cap : Nat} {ao : Option Addr} {Lb L : List M.Cl} {w0 w w' : World} (h : JnS B b g ao cap Lb L w0 w) (hB : B ≤ w.heap.size) (hb : Below w.heap.size w w') : JnS B b g ao cap Lb L w0 w' := by
  obtain ⟨⟨pa, pc, Ps, h1, h2, h3⟩, h4, h5, h6, h7⟩ := h
  exact ⟨⟨pa, pc, Ps, h1.below hb, h2, h3⟩, h4.below hb, fun k => by obtain ⟨C, e⟩ := h5 k; exact ⟨C, e.below hb⟩, h6, h7.trans (hb.mono hB)⟩
theorem JnS.cell {B b g cap : Nat} {ao : Option Addr} {Lb L : List M.Cl} {w0 w : World} (h : JnS B b g ao cap Lb L w0 w) {i : Nat} (hi : i < Lb.length) : ClOff (Lb.getD i M.cl0) w g (i * 3) := by
  obtain ⟨g', o', e, hk⟩ := h.row (fun e => by rw [e] at hi; simp at hi)
  rw [h.at_ (by omega)] at e
  injection e with e
  injection e with e1 e2
  subst e1
  have := hk i hi
  rw [← e2, Nat.zero_add] at this
  exact this
theorem JnS.laid {B b g cap : Nat} {ao : Option Addr} {Lb L L' : List M.Cl} {w0 w w' : World} {e : Ending} {pa : Option Addr} {pc : Nat} {Ps : List M.Pg} (h : JnS B b g ao cap Lb L w0 w) (hm : MemAt B b pa pc Ps L w) (hg : ∀ k, WrS b pa Ps k → k ≠ g) (hgw : g < w.heap.size) (hB : B ≤ w.heap.size) (hl : LayR B b pa Ps L' w e w') : JnS B b g ao cap Lb L' w0 w' := by
  obtain ⟨_, pa', pc', Ps', k1, k2, k3, k4⟩ := hl
  have hne : ¬ WrS b pa Ps g := fun q => hg g q rfl
  refine ⟨⟨pa', pc', Ps', k1, k2, fun k hk => ?_⟩, ?_, fun q => ?_, h.at_, h.bel.trans (k3.below (fun k hk => (hm.wr hk).1) hB)⟩
  · rcases k4.1 k hk with q | q
    · exact hg k q
    · omega
  · intro hne2
    obtain ⟨g', o', e, hk⟩ := h.row hne2
    refine ⟨g', o', e, fun i hi => ?_⟩
    have hlt : 0 < Lb.length := by omega
    rw [h.at_ hlt] at e
    injection e with e
    injection e with e1 e2
    subst e1
    obtain ⟨x, y, z⟩ := hk i hi
    have hs := k3.block _ hgw hne
    refine ⟨?_, ?_, ?_⟩
    · rw [← x]; simp only [World.cell?, hs]
    · rw [← y]; simp only [World.cell?, hs]
    · rw [← z]; simp only [World.cell?, hs]
  · obtain ⟨C, hC⟩ := h.blk q
    exact ⟨C, k3.row hC hne⟩
set_option maxHeartbeats 4000000 in
set_option maxRecDepth 100000 in
theorem join15_any (Ba Bb ba bb : Nat) (pa pb : Option Addr) (pca pcb : Nat) (Pa Pb : List M.Pg) (La Lb : List M.Cl) (w : World) (ha : MemAt Ba ba pa pca Pa La w) (hb : MemAt Bb bb pb pcb Pb Lb w) (hn : La.length + Lb.length ≤ 40000) :
    Calls Try.prog 62 #[.pointer (some ⟨ba, 0, none⟩), .pointer (some ⟨bb, 0, none⟩)] w (OfR w.heap.size (M.joinL La Lb) w) := by
  have CA := Lib.hid (range15_any Ba ba pa pca Pa La [] [] w ha (by simp) (by simp))
  have CB := Lib.hid (fun W (hW : Below w.heap.size w W) => range15_any Bb bb pb pcb Pb Lb [] [] W (hb.below hW) (by simp) (by simp))
  have CO := Lib.hid (fun q ao cap W h hc hW => (of15_any w.heap.size q 0 ao cap La W h hc ha.st ha.okc (by omega) hW).mono (fun _ _ h => OfQ.one h))
  have CL := Lib.hid (fun B b' pa' pc' Ps' L c W h hs hB hc hl => lay15_any B b' pa' pc' Ps' L c W h hs hB hc hl)
  have HKB := Lib.hid hb.okc
  rw [M.range_nil] at CA
  simp only [M.range_nil] at CB
  unfold RangeR10 at CA CB
  clear ha hb
  go_enter Try.func62, Try.ntmps62
  go_wp2_with fail
  refine (CA.out).mono ?_
  rintro e w1 ⟨ao, cap, rfl, hown, hbel⟩
  obtain ⟨q, hq1, hq2, hq3⟩ := ofIn_own hown
  have CO1 := Lib.hid (CO.out q ao cap w1 hq1 hq2 hbel.size)
  have HB := Lib.hid hbel
  unfold OfR at CO1
  clear CA CO hown hq1 hq2 hq3 hbel
  go_wp2_with fail
  refine (CO1.out).mono ?_
  rintro e w2 ⟨b, pa', pc', Ps', rfl, hm, hsm, hwr, hbel⟩
  have HB2 := Lib.hid (HB.out.trans (hbel.mono HB.out.size))
  have HM := Lib.hid hm
  have HSM := Lib.hid hsm
  have CB1 := Lib.hid (CB.out w2 HB2.out)
  clear CB CO1 hm hsm hwr hbel HB
  go_wp2_with fail
  refine (CB1.out).mono ?_
  rintro e w3 ⟨ao2, cap2, rfl, hown2, hbel3⟩
  have HB3 := Lib.hid (HB2.out.trans (hbel3.mono HB2.out.size))
  obtain ⟨g, hg⟩ : ∃ g, g = ((Value.slice ao2 Lb.length cap2).ownBlock).getD w2.heap.size := ⟨_, rfl⟩
  have HJ := Lib.hid (show JnS w.heap.size b g ao2 cap2 Lb La w w3 from by
    obtain ⟨q, hq1, hq2, hq3⟩ := ofIn_own hown2
    refine ⟨⟨pa', pc', Ps', HM.out.below hbel3, HSM.out, fun k hk => ?_⟩, clsAt_own hown2 rfl, fun q => ?_, fun q => ?_, HB3.out⟩
    · have := (HM.out.wr hk).2
      have : w2.heap.size ≤ g := by
        rw [hg]
        cases e : (Value.slice ao2 Lb.length cap2).ownBlock with
        | none => exact Nat.le_refl _
        | some x => exact (hown2.lt x e).1
      omega
    · rw [hg, hq3 q]
      obtain ⟨_, _, e, _⟩ := hq1 q
      exact e
    · rw [hg, hq3 q]
      exact (hq1 q).1)
  clear hown2 hbel3 CB1 HB2 HM HSM hg HB3
  have hlb : Lb.length ≤ 40000 := by omega
  go_wp2_with fail
  go_loopw [14] (fun v14 wr => ∃ (i : Nat), i ≤ Lb.length ∧ v14 = .int .i64 i ∧ Hid (JnS w.heap.size b g ao2 cap2 Lb (M.joinL La (Lb.take i)) w wr)) (fun v _ => Lb.length - (intOf v).toNat)
  case atStart => exact ⟨0, Nat.zero_le _, rfl, HJ⟩
  case round =>
    clear HJ
    obtain ⟨i, hi, rfl, HJ⟩ := hrel
    by_cases hlt : i < Lb.length
    · have d1 : decide ((i : Int) < (Lb.length : Int)) = true := by simp; omega
      have d2 : decide (i < Lb.length) = true := by simp; omega
      have hii : (i : Int) < (Lb.length : Int) := by omega
      have HAT := Lib.hid (HJ.out.at_ (by omega))
      obtain rfl := HAT.out
      obtain ⟨y0, y1, y2⟩ := HJ.out.cell hlt
      have HSN := Lib.hid (M.join_snoc La hlt)
      have hlen : (M.joinL La (Lb.take i)).length < 50000 := by
        have h1 := M.join_len La (Lb.take i)
        rw [List.length_take] at h1
        omega
      have HCK := Lib.hid (HKB.out _ (M.getD_memC hlt))
      generalize Lb.getD i M.cl0 = c at *
      generalize M.joinL La (Lb.take i) = L at *
      have hbase := HJ.out.bel.size
      have HX := Lib.hid (rowIn_new (clA c) 38 wr)
      have HJ2 := Lib.hid (HJ.out.below hbase ((Below.refl wr.heap.size wr).alloc (Nat.le_refl _) (.cells (clA c) 38)))
      have hgw : g < (wr.alloc (.cells (clA c) 38)).heap.size := by
        obtain ⟨C, hC⟩ := HJ2.out.blk (by omega)
        exact hC.lt
      have hbase2 : w.heap.size ≤ (wr.alloc (.cells (clA c) 38)).heap.size := HJ2.out.bel.size
      obtain ⟨pa2, pc2, Ps2, m1, m2, m3⟩ := HJ2.out.mem
      have CL1 := Lib.hid (CL.out w.heap.size b pa2 pc2 Ps2 L c _ m1 m2 hbase2 HCK.out hlen)
      have HLD := Lib.hid (fun e w' (h : LayR w.heap.size b pa2 Ps2 (M.insC c L) (wr.alloc (.cells (clA c) 38)) e w') => And.intro (show e = .returned (.tuple #[]) from h.1) (HJ2.out.laid m1 m3 hgw hbase2 h))
      clear m1 m2 m3 HJ HJ2
      have x0 : (wr.alloc (.cells (clA c) 38)).cell? ⟨wr.heap.size, 0, none⟩ = some (.string (S c.key)) := HX.out.cell 0
      have x1 : (wr.alloc (.cells (clA c) 38)).cell? ⟨wr.heap.size, 1, none⟩ = some (.int .i64 c.seq) := HX.out.cell 1
      have x2 : (wr.alloc (.cells (clA c) 38)).cell? ⟨wr.heap.size, 2, none⟩ = some (.string (S c.val)) := HX.out.cell 2
      go_wp2_with fail
      refine (CL1.out).mono ?_
      intro e w5 hl
      obtain ⟨rfl, hj⟩ := HLD.out e w5 hl
      have HJ3 := Lib.hid hj
      rw [← HSN.out] at HJ3
      clear hj hl
      go_wp2_with fail
      go_roundw
      case rel => exact ⟨i + 1, by omega, by go_num, HJ3⟩
      case measure => simp [intOf]; omega
    · obtain rfl : i = Lb.length := by omega
      have d1 : decide ((Lb.length : Int) < (Lb.length : Int)) = false := by simp
      have d2 : decide (Lb.length < Lb.length) = false := by simp
      rw [List.take_length] at HJ
      go_wp2_with fail
      go_ret
      obtain ⟨⟨pa2, pc2, Ps2, m1, m2, m3⟩, m4, m5, m6, m7⟩ := HJ.out
      exact ⟨b, pa2, pc2, Ps2, rfl, m1, m2, fun k hk => (m1.wr hk).1, m7⟩

end Go.Proofs.Ythidmgnfdikppaa

/- Layer 15: where Cut cuts, by a contract. -/
namespace Go.Proofs.Ythidmgnfdikppaa
set_option linter.unusedVariables false
set_option linter.unusedSimpArgs false
open Go Go.RowKit
attribute [local go_sem ↓] run_index_S
attribute [local go_sem] S_append S_extract

def M.below (key : List UInt8) (c : M.Cl) : Bool := Op.bytesLess c.key key
def M.cutN (L : List M.Cl) (key : List UInt8) : Nat := (L.filter (M.below key)).length
theorem M.cut_lists (f : M.Cl → Bool) : ∀ {L : List M.Cl}, (∀ i j, i ≤ j → j < L.length → f (L.getD j M.cl0) = true → f (L.getD i M.cl0) = true) → L.take (L.filter f).length = L.filter f ∧ L.drop (L.filter f).length = L.filter (fun c => !f c)
  | [], _ => by simp
  | x :: t, h => by
    have ih := M.cut_lists f (L := t) (fun i j hij hj hf => by
      have := h (i + 1) (j + 1) (by omega) (by simp; omega) (by simpa using hf)
      simpa using this)
    cases hx : f x with
    | true =>
      rw [List.filter_cons_of_pos hx, List.filter_cons_of_neg (by simp [hx])]
      simp only [List.length_cons, List.take_succ_cons, List.drop_succ_cons]
      exact ⟨by rw [ih.1], ih.2⟩
    | false =>
      have h0 : t.filter f = [] := by
        rw [List.filter_eq_nil_iff]
        intro y hy hfy
        obtain ⟨j, hj, e⟩ := List.getElem_of_mem hy
        have := h 0 (j + 1) (Nat.zero_le _) (by simp; omega) (by simp [List.getD, hj, e, hfy])
        simp at this
        rw [hx] at this
        cases this
      have h1 : (x :: t).filter f = [] := by rw [List.filter_cons_of_neg (by simp [hx]), h0]
      rw [h1]
      refine ⟨rfl, ?_⟩
      show x :: t = _
      symm
      rw [List.filter_eq_self]
      intro y hy
      rcases List.mem_cons.1 hy with rfl | hy
      · simp [hx]
      · cases q : f y with
        | false => rfl
        | true => have := List.filter_eq_nil_iff.1 h0 y hy; exact absurd q this
theorem M.below_mono {L : List M.Cl} (hs : M.Stt L) (key : List UInt8) : ∀ i j, i ≤ j → j < L.length → M.below key (L.getD j M.cl0) = true → M.below key (L.getD i M.cl0) = true := fun i j hij hj hf => by
  rcases Nat.lt_or_ge i j with q | q
  · rcases M.ahead_iff.1 (M.strict_get hs q hj) with k | ⟨k, _⟩
    · exact M.less_trans _ _ _ k hf
    · unfold M.below; rw [k]; exact hf
  · obtain rfl : i = j := by omega
    exact hf
theorem M.cut_take {L : List M.Cl} (hs : M.Stt L) (key : List UInt8) : L.take (M.cutN L key) = L.filter (M.below key) ∧ L.drop (M.cutN L key) = L.filter (fun c => !M.below key c) := M.cut_lists _ (M.below_mono hs key)
/-- A row of cells in a box, as Cut has it. -/
structure CutB (ao : Option Addr) (cap g lb kb : Nat) (L : List M.Cl) (key : List UInt8) (w : World) : Prop where
  l : RowIn #[.slice ao L.length cap] 22 w lb
  k : RowIn #[.string (S key)] 9 w kb
  at_ : 0 < L.length → ao = some ⟨g, 0, none⟩
  c : ∀ j, j < L.length → ClOff (L.getD j M.cl0) w g (j * 3)
theorem CutB.below {ao : Option Addr} {cap g lb kb : Nat} {L : List M.Cl} {key : List UInt8} {w w' : World} (h : CutB ao cap g lb kb L key w) (hb : Below w.heap.size w w') : CutB ao cap g lb kb L key w' :=
  ⟨h.l.below hb, h.k.below hb, h.at_, fun j hj => (h.c j hj).below hb⟩
set_option maxHeartbeats 4000000 in
set_option maxRecDepth 100000 in
theorem cutF15_any (ao : Option Addr) (cap g lb kb : Nat) (L : List M.Cl) (key : List UInt8) (i : Nat) (hi : i < L.length) (w : World) (h : CutB ao cap g lb kb L key w) :
    Calls Try.prog 103 #[.int .i64 i, .pointer (some ⟨lb, 0, none⟩), .pointer (some ⟨kb, 0, none⟩)] w fun e w' => e = .returned (.bool (!M.below key (L.getD i M.cl0))) ∧ Below w.heap.size w w' := by
  obtain ⟨x0, x1, x2⟩ := h.c i hi
  have hii : (i : Int) < (L.length : Int) := by omega
  obtain rfl := h.at_ (by omega)
  unfold M.below
  generalize L.getD i M.cl0 = d at *
  have z0 := h.l.cell 0
  have y0 := h.k.cell 0
  have g0 := fun d os => cell_regrown x0 d os
  have g3 := fun d os => cell_regrown y0 d os
  have g6 := fun d os => cell_regrown z0 d os
  clear x0 x1 x2 y0 z0 h
  go_enter Try.func103, Try.ntmps103
  go_wp2_with fail
  refine wp_region_quiet_below (by kernel_rfl) (by kernel_rfl) ?_
  repeat (any_goals (first | go_big_quiet_step (fail) | quiet_step (fail)))
  refine wpQuiet_nil ?_
  intro _ hw1
  obtain ⟨⟨d1, d1o⟩, hw1⟩ := hw1
  subst hw1
  have HB := Lib.hid (below_regrown w d1 d1o)
  go_wp2_with fail
  go_ret
  exact ⟨rfl, HB.out⟩
set_option maxHeartbeats 4000000 in
set_option maxRecDepth 100000 in
theorem cutS15_any (ao : Option Addr) (cap g lb kb : Nat) (L : List M.Cl) (key : List UInt8) (hs : M.Stt L) (hl : L.length ≤ 100000) (w : World) (h : CutB ao cap g lb kb L key w) :
    Calls Try.prog 102 #[.int .i64 L.length, .func (.func 103) #[] #[.pointer (some ⟨lb, 0, none⟩), .pointer (some ⟨kb, 0, none⟩)]] w fun e w' => e = .returned (.int .i64 (M.cutN L key : Nat)) ∧ Below w.heap.size w w' := by
  have HT := Lib.hid h
  have HM := Lib.hid (M.below_mono hs key)
  clear h
  go_enter Try.func102, Try.ntmps102
  go_wp2_with fail
  go_loopw [5, 6] (fun vi vj wr => ∃ i j : Nat, i ≤ j ∧ j ≤ L.length ∧ vi = .int .i64 i ∧ vj = .int .i64 j ∧ Hid (∀ k, k < i → M.below key (L.getD k M.cl0) = true) ∧ Hid (∀ k, j ≤ k → k < L.length → M.below key (L.getD k M.cl0) = false) ∧ Hid (Below w.heap.size w wr)) (fun vi vj _ => (intOf vj).toNat - (intOf vi).toNat)
  case atStart => exact ⟨0, L.length, Nat.zero_le _, Nat.le_refl _, rfl, rfl, Lib.hid (fun k hk => by omega), Lib.hid (fun k h1 h2 => by omega), Lib.hid (Below.refl _ _)⟩
  case round =>
    obtain ⟨i, j, hij, hj, rfl, rfl, H1, H2, HBr⟩ := hrel
    by_cases hlt : i < j
    · have d1 : decide ((i : Int) < (j : Int)) = true := by simp; omega
      have d2 : decide (i < j) = true := by simp; omega
      obtain ⟨h, hh⟩ : ∃ h, h = (i + j) / 2 := ⟨_, rfl⟩
      have h1 : i ≤ h := by omega
      have h2 : h < j := by omega
      have hc : ((i : Int) + (j : Int)) / 2 = (h : Int) := by omega
      have CB := Lib.hid (cutF15_any ao cap g lb kb L key h (by omega) wr (HT.out.below HBr.out))
      clear hh
      have HQ := Lib.hid (show (M.below key (L.getD h M.cl0) = true → ∀ k, k < h + 1 → M.below key (L.getD k M.cl0) = true) ∧ (M.below key (L.getD h M.cl0) = false → ∀ k, h ≤ k → k < L.length → M.below key (L.getD k M.cl0) = false) from
        ⟨fun hq k hk => HM.out k h (by omega) (by omega) hq, fun hq k hk hkn => by
          cases q : M.below key (L.getD k M.cl0) with
          | false => rfl
          | true => have := HM.out h k hk hkn q; rw [hq] at this; cases this⟩)
      generalize M.below key (L.getD h M.cl0) = ab at *
      go_wp2_with fail
      with_reducible refine (CB.out).mono ?_
      rintro e w1 ⟨rfl, hb⟩
      have HB1 := Lib.hid (below_step HBr.out hb)
      clear hb CB hc
      cases ab with
      | false =>
        go_wp2_with fail
        go_roundw
        case rel => exact ⟨i, h, h1, by omega, rfl, rfl, H1, Lib.hid (HQ.out.2 trivial), HB1⟩
        case measure => simp [intOf]; omega
      | true =>
        go_wp2_with fail
        go_roundw
        case rel => exact ⟨h + 1, j, by omega, hj, by go_num, rfl, Lib.hid (HQ.out.1 trivial), H2, HB1⟩
        case measure => simp [intOf]; omega
    · obtain rfl : i = j := by omega
      have d1 : decide ((i : Int) < (i : Int)) = false := by simp
      have d2 : decide (i < i) = false := by simp
      go_wp2_with fail
      go_ret
      exact ⟨by rw [M.cutN, M.count_pre _ M.cl0 hj H1.out H2.out]; rfl, HBr.out⟩

end Go.Proofs.Ythidmgnfdikppaa

/- Layer 15: Cut, by a contract. -/
namespace Go.Proofs.Ythidmgnfdikppaa
set_option linter.unusedVariables false
set_option linter.unusedSimpArgs false
open Go Go.RowKit
attribute [local go_sem ↓] run_index_S
attribute [local go_sem] S_append S_extract

theorem OfIn.below {B q o : Nat} {ao : Option Addr} {L : List M.Cl} {w w' : World} (h : OfIn B q o ao L w) (hb : Below w.heap.size w w') : OfIn B q o ao L w' := fun k => by
  obtain ⟨a, b, ⟨C, c⟩, d⟩ := h k
  exact ⟨a, b, ⟨C, c.below hb⟩, fun j hj => (d j hj).below hb⟩
theorem OfIn.take {B q o : Nat} {ao : Option Addr} {L : List M.Cl} {w : World} (h : OfIn B q o ao L w) (n : Nat) : OfIn B q o ao (L.take n) w := fun k => by
  rw [List.length_take] at k
  obtain ⟨a, b, c, d⟩ := h (by omega)
  refine ⟨a, b, c, fun j hj => ?_⟩
  rw [List.length_take] at hj
  have := d j (by omega)
  rw [show (L.take n).getD j M.cl0 = L.getD j M.cl0 from by simp [List.getD, List.getElem?_take, show j < n from by omega]]
  exact this
theorem OfIn.drop {B q o : Nat} {ao ao' : Option Addr} {L : List M.Cl} {w : World} (h : OfIn B q o ao L w) (n : Nat) (ha : 0 < L.length - n → ao' = some ⟨q, o + n * 3, none⟩) : OfIn B q (o + n * 3) ao' (L.drop n) w := fun k => by
  rw [List.length_drop] at k
  obtain ⟨a, b, c, d⟩ := h (by omega)
  refine ⟨ha k, b, c, fun j hj => ?_⟩
  rw [List.length_drop] at hj
  have := d (n + j) (by omega)
  rw [show (L.drop n).getD j M.cl0 = L.getD (n + j) M.cl0 from by simp [List.getD], show o + n * 3 + j * 3 = o + (n + j) * 3 from by omega]
  exact this
theorem M.strict_filter {L : List M.Cl} (h : M.Stt L) (f : M.Cl → Bool) : M.Stt (L.filter f) := List.Pairwise.sublist List.filter_sublist h
def CutR (L : List M.Cl) (key : List UInt8) (w : World) (e : Ending) (w' : World) : Prop :=
  ∃ b1 pa1 pc1 P1 b2 pa2 pc2 P2, e = .returned (.tuple #[.pointer (some ⟨b1, 0, none⟩), .pointer (some ⟨b2, 0, none⟩)]) ∧ MemAt w.heap.size b1 pa1 pc1 P1 (L.filter (M.below key)) w' ∧ MemAt w.heap.size b2 pa2 pc2 P2 (L.filter (fun c => !M.below key c)) w' ∧ SmP P1 ∧ SmP P2 ∧ (∀ k, WrS b1 pa1 P1 k → ¬ FtS b2 pa2 P2 k) ∧ (∀ k, WrS b2 pa2 P2 k → ¬ FtS b1 pa1 P1 k) ∧ Below w.heap.size w w'
set_option maxHeartbeats 4000000 in
set_option maxRecDepth 100000 in
theorem cut15_any (B b : Nat) (pa : Option Addr) (pc : Nat) (Ps : List M.Pg) (L : List M.Cl) (key : List UInt8) (w : World) (h : MemAt B b pa pc Ps L w) :
    Calls Try.prog 60 #[.pointer (some ⟨b, 0, none⟩), .string (S key)] w (CutR L key w) := by
  have hal := (Below.refl w.heap.size w).alloc (Nat.le_refl _) (.cells #[.string (S key)] 9)
  have HB := Lib.hid hal
  have HK := Lib.hid (rowIn_new #[.string (S key)] 9 w)
  have CA := Lib.hid (range15_any B b pa pc Ps L [] [] _ (h.below hal) (by simp) (by simp))
  rw [M.range_nil] at CA
  unfold RangeR10 at CA
  have hnl := h.nL
  have HST := Lib.hid h.st
  have HOK := Lib.hid h.okc
  have hmf : ∀ (fn : Fn) (first cap : Array Value) (w : World), (Instr.makeFunc fn first cap).run Try.prog w = .ok (.func fn first cap) w := fun _ _ _ _ => rfl
  clear h hal
  go_enter Try.func60, Try.ntmps60
  go_wp2_with fail
  refine (CA.out).mono ?_
  rintro e w1 ⟨ao, cap, rfl, hown, hbel⟩
  replace HB := Lib.hid (HB.out.trans (hbel.mono HB.out.size))
  replace HK := carry hbel HK
  have HO := Lib.hid (show w1.ownsRow w.heap.size 38 3 (.slice ao L.length cap) L.length (cls L) from ownP_mono hown (by rw [szA]; exact Nat.le_succ _))
  clear hown hbel CA
  obtain ⟨kb, hkb⟩ : ∃ x, x = w.heap.size := ⟨_, rfl⟩
  rw [← hkb] at HK ⊢
  clear hkb
  go_wp2_with fail
  obtain ⟨q, hq1, hq2, hqw⟩ : ∃ q, OfIn w.heap.size q 0 ao L w1 ∧ L.length ≤ cap ∧ q ≤ w1.heap.size := by
    obtain ⟨q, a, b, c⟩ := ofIn_own HO.out
    rcases Nat.eq_zero_or_pos L.length with e | e
    · exact ⟨0, fun k => absurd k (by omega), b, Nat.zero_le _⟩
    · obtain ⟨_, _, ⟨C, hC⟩, _⟩ := a e
      exact ⟨q, a, b, Nat.le_of_lt hC.lt⟩
  have HAO := Lib.hid (show (ao = none ∧ cap = 0) ∨ ∃ g, ao = some ⟨g, 0, none⟩ ∧ (0 < L.length → g = q) from by
    rcases HO.out.2 with ⟨e, _⟩ | ⟨g, c', cur, e, _⟩
    · injection e with e1 e2 e3
      exact .inl ⟨e1, e3⟩
    · injection e with e1 e2 e3
      refine .inr ⟨g, e1, fun k => ?_⟩
      have := (hq1 k).1
      rw [e1] at this
      injection this with this
      injection this with this)
  have HB2 := carryA (w := w1) (.cells #[.slice ao L.length cap] 22) HB
  have HLB := Lib.hid (rowIn_new #[.slice ao L.length cap] 22 w1)
  have HIN := Lib.hid (hq1.below ((Below.refl w1.heap.size w1).alloc (Nat.le_refl _) (.cells #[.slice ao L.length cap] 22)))
  have HKB := carryA (w := w1) (.cells #[.slice ao L.length cap] 22) HK
  have CS := Lib.hid (cutS15_any ao cap q w1.heap.size kb L key HST.out (by omega) (w1.alloc (.cells #[.slice ao L.length cap] 22)) ⟨HLB.out, HKB.out, fun k => (HIN.out k).1, fun j hj => by
    have := (HIN.out (by omega)).2.2.2 j hj
    rw [Nat.zero_add] at this
    exact this⟩)
  obtain ⟨W1, hW1⟩ : ∃ W, W = w1.alloc (.cells #[.slice ao L.length cap] 22) := ⟨_, rfl⟩
  obtain ⟨lb, hlb⟩ : ∃ x, x = w1.heap.size := ⟨_, rfl⟩
  rw [← hW1] at HLB HIN CS HB2 ⊢
  rw [← hlb] at HLB CS ⊢
  rw [← hlb] at hqw
  clear hW1 hlb HK HB hq1 HKB
  refine (CS.out).mono ?_
  rintro e w2 ⟨rfl, hb⟩
  replace HB2 := carry hb HB2
  replace HLB := carry hb HLB
  replace HIN := Lib.hid (HIN.out.below hb)
  have HQ := Lib.hid (Nat.lt_of_le_of_lt hqw HLB.out.lt)
  clear hb CS HO hqw
  have e1 : (L.filter (M.below key)).length = M.cutN L key := rfl
  obtain ⟨ct1, ct2⟩ := M.cut_take HST.out key
  have hnl2 : M.cutN L key ≤ L.length := List.length_filter_le _ _
  have CO1 := Lib.hid (fun W (hW : Below w.heap.size w W) (hI : OfIn w.heap.size q 0 ao L W) => of15_any w.heap.size q 0 ao cap (L.filter (M.below key)) W (by rw [← ct1]; exact hI.take _) (by rw [e1]; omega) (M.strict_filter HST.out _) (fun c hc => HOK.out c ((List.mem_filter.1 hc).1)) (by rw [e1]; omega) hW.size)
  have CO2 := Lib.hid (fun W ao2 (ha : 0 < L.length - M.cutN L key → ao2 = some ⟨q, 0 + M.cutN L key * 3, none⟩) (hW : Below w.heap.size w W) (hI : OfIn w.heap.size q 0 ao L W) => of15_any w.heap.size q (0 + M.cutN L key * 3) ao2 (cap - M.cutN L key) (L.filter (fun c => !M.below key c)) W (by rw [← ct2]; exact hI.drop _ ha) (by rw [← ct2, List.length_drop]; omega) (M.strict_filter HST.out _) (fun c hc => HOK.out c ((List.mem_filter.1 hc).1)) (by rw [← ct2, List.length_drop]; omega) hW.size)
  have HE2 : (L.filter (fun c => !M.below key c)).length = L.length - M.cutN L key := by rw [← ct2, List.length_drop]
  rw [HE2] at CO2
  rw [e1] at CO1
  have HCR : Hid (CutR L key w = fun e w' => ∃ b1 pa1 pc1 P1 b2 pa2 pc2 P2, e = .returned (.tuple #[.pointer (some ⟨b1, 0, none⟩), .pointer (some ⟨b2, 0, none⟩)]) ∧ MemAt w.heap.size b1 pa1 pc1 P1 (L.filter (M.below key)) w' ∧ MemAt w.heap.size b2 pa2 pc2 P2 (L.filter (fun c => !M.below key c)) w' ∧ SmP P1 ∧ SmP P2 ∧ (∀ k, WrS b1 pa1 P1 k → ¬ FtS b2 pa2 P2 k) ∧ (∀ k, WrS b2 pa2 P2 k → ¬ FtS b1 pa1 P1 k) ∧ Below w.heap.size w w') := Lib.hid rfl
  unfold OfQ at CO1 CO2
  clear ct1 ct2 e1 HE2 HST HOK
  generalize L.filter (M.below key) = LA at *
  generalize L.filter (fun c => !M.below key c) = LB at *
  generalize M.cutN L key = n at *
  have z0 : w2.cell? ⟨lb, 0, none⟩ = some (.slice ao L.length cap) := HLB.out.cell 0
  have HCO := Lib.hid (And.intro CO1.out CO2.out)
  clear CO1 CO2
  by_cases hcn : cap = n
  · obtain rfl : cap = L.length := by omega
    obtain rfl : n = L.length := by omega
    have CO1 := Lib.hid (fun W hW hI => HCO.out.1 W hW hI)
    have CO2 := Lib.hid (fun W hW hI => HCO.out.2 W ao (fun k => absurd k (by omega)) hW hI)
    rw [Nat.sub_self] at CO2
    clear HCO hnl2 hq2 hcn
    have CA := Lib.hid (CO1.out w2.drew HB2.out.drew (HIN.out.below (Below.refl _ _).drew))
    go_wp2_with fail
    go_region_held3 (fun W => W.cell? ⟨lb, 0, none⟩ = some (.slice ao L.length L.length)) (go_keep) (first
      | (go_at_call 104; (with_reducible refine (CA.out).mono ?_); rintro e w3 ⟨b1, pa1, pc1, P1, rfl, hm1, hs1, hw1, hf1, hb1⟩; have hbx : Below w2.heap.size w2 w3 := ((Below.refl _ w2).drew).trans hb1; have HM1 := Lib.hid (And.intro hm1 (And.intro hs1 (And.intro hf1 (HB2.out.trans (hbx.mono HB2.out.size))))); have HW1 := Lib.hid hw1; have z3 : w3.cell? ⟨lb, 0, none⟩ = some (.slice ao L.length L.length) := (HLB.out.below hbx).cell 0; have CB := Lib.hid (And.intro (CO2.out w3 HM1.out.2.2.2 (HIN.out.below hbx)) (CO2.out w3.drew HM1.out.2.2.2.drew (HIN.out.below hbx.drew))); have HLB3 := Lib.hid (HLB.out.below hbx); clear hm1 hs1 hw1 hf1 hb1 hbx)
      | (go_at_call 104; (with_reducible refine (CB.out.1).mono ?_); rintro e w4 ⟨b2, pa2, pc2, P2, rfl, hm2, hs2, hw2, hf2, hb2⟩; have HM2 := Lib.hid (And.intro hm2 (And.intro hs2 (And.intro hw2 (And.intro hf2 hb2)))); have z4 : w4.cell? ⟨lb, 0, none⟩ = some (.slice ao L.length L.length) := (HLB3.out.below HM2.out.2.2.2.2).cell 0; clear hm2 hs2 hw2 hf2 hb2)
      | (go_at_call 104; (with_reducible refine (CB.out.2).mono ?_); rintro e w4 ⟨b2, pa2, pc2, P2, rfl, hm2, hs2, hw2, hf2, hb2⟩; have HM2 := Lib.hid (And.intro hm2 (And.intro hs2 (And.intro hw2 (And.intro hf2 (((Below.refl _ w3).drew).trans hb2))))); have z4 : w4.cell? ⟨lb, 0, none⟩ = some (.slice ao L.length L.length) := (HLB3.out.below HM2.out.2.2.2.2).cell 0; clear hm2 hs2 hw2 hf2 hb2))
    all_goals
      go_wp2_with fail
      go_ret2
      obtain ⟨m1, s1, f1, bl1⟩ := HM1.out
      obtain ⟨m2, s2, wr2, f2, bl2⟩ := HM2.out
      have hqq := HQ.out
      show CutR L key w _ _
      rw [HCR.out]
      exact ⟨b1, pa1, pc1, P1, b2, pa2, pc2, P2, rfl, m1.below bl2, m2, s1, s2, fun k h1 h2 => by
        have k1 : w2.heap.size ≤ k := HW1.out k h1
        have k2 := (m1.wr h1).2
        rcases f2 k h2 with e | e
        · omega
        · omega, fun k h1 h2 => by
        have k1 := wr2 k h1
        have k2 := (m1.ft h2).2
        omega, bl1.trans (bl2.mono bl1.size)⟩
  · rcases HAO.out with ⟨_, e⟩ | ⟨g, rfl, hg⟩
    · exact absurd (show cap = n by omega) hcn
    have CO1 := Lib.hid (fun W hW hI => HCO.out.1 W hW hI)
    have CO2 := Lib.hid (fun W hW hI => HCO.out.2 W (some ⟨g, n * 3, none⟩) (fun k => by rw [hg (by omega), Nat.zero_add]) hW hI)
    have hnc : n ≤ cap := by omega
    clear HCO hg
    have CA := Lib.hid (CO1.out w2.drew HB2.out.drew (HIN.out.below (Below.refl _ _).drew))
    go_wp2_with fail
    go_region_held3 (fun W => W.cell? ⟨lb, 0, none⟩ = some (.slice (some ⟨g, 0, none⟩) L.length cap)) (go_keep) (first
      | (go_at_call 104; (with_reducible refine (CA.out).mono ?_); rintro e w3 ⟨b1, pa1, pc1, P1, rfl, hm1, hs1, hw1, hf1, hb1⟩; have hbx : Below w2.heap.size w2 w3 := ((Below.refl _ w2).drew).trans hb1; have HM1 := Lib.hid (And.intro hm1 (And.intro hs1 (And.intro hf1 (HB2.out.trans (hbx.mono HB2.out.size))))); have HW1 := Lib.hid hw1; have z3 : w3.cell? ⟨lb, 0, none⟩ = some (.slice (some ⟨g, 0, none⟩) L.length cap) := (HLB.out.below hbx).cell 0; have CB := Lib.hid (And.intro (CO2.out w3 HM1.out.2.2.2 (HIN.out.below hbx)) (CO2.out w3.drew HM1.out.2.2.2.drew (HIN.out.below hbx.drew))); have HLB3 := Lib.hid (HLB.out.below hbx); clear hm1 hs1 hw1 hf1 hb1 hbx)
      | (go_at_call 104; (with_reducible refine (CB.out.1).mono ?_); rintro e w4 ⟨b2, pa2, pc2, P2, rfl, hm2, hs2, hw2, hf2, hb2⟩; have HM2 := Lib.hid (And.intro hm2 (And.intro hs2 (And.intro hw2 (And.intro hf2 hb2)))); have z4 : w4.cell? ⟨lb, 0, none⟩ = some (.slice (some ⟨g, 0, none⟩) L.length cap) := (HLB3.out.below HM2.out.2.2.2.2).cell 0; clear hm2 hs2 hw2 hf2 hb2)
      | (go_at_call 104; (with_reducible refine (CB.out.2).mono ?_); rintro e w4 ⟨b2, pa2, pc2, P2, rfl, hm2, hs2, hw2, hf2, hb2⟩; have HM2 := Lib.hid (And.intro hm2 (And.intro hs2 (And.intro hw2 (And.intro hf2 (((Below.refl _ w3).drew).trans hb2))))); have z4 : w4.cell? ⟨lb, 0, none⟩ = some (.slice (some ⟨g, 0, none⟩) L.length cap) := (HLB3.out.below HM2.out.2.2.2.2).cell 0; clear hm2 hs2 hw2 hf2 hb2))
    all_goals
      go_wp2_with fail
      go_ret2
      obtain ⟨m1, s1, f1, bl1⟩ := HM1.out
      obtain ⟨m2, s2, wr2, f2, bl2⟩ := HM2.out
      have hqq := HQ.out
      show CutR L key w _ _
      rw [HCR.out]
      exact ⟨b1, pa1, pc1, P1, b2, pa2, pc2, P2, rfl, m1.below bl2, m2, s1, s2, fun k h1 h2 => by
        have k1 : w2.heap.size ≤ k := HW1.out k h1
        have k2 := (m1.wr h1).2
        rcases f2 k h2 with e | e
        · omega
        · omega, fun k h1 h2 => by
        have k1 := wr2 k h1
        have k2 := (m1.ft h2).2
        omega, bl1.trans (bl2.mono bl1.size)⟩

end Go.Proofs.Ythidmgnfdikppaa

/- Layer 15: a memory beside blocks that it may not write; the example's cells. -/
namespace Go.Proofs.Ythidmgnfdikppaa
set_option linter.unusedVariables false
set_option linter.unusedSimpArgs false
open Go Go.RowKit

/-- A memory that does not write some blocks. -/
def MemX (X : Nat → Prop) (B b : Nat) (L : List M.Cl) (w : World) : Prop := ∃ pa pc Ps, MemAt B b pa pc Ps L w ∧ SmP Ps ∧ ∀ k, WrS b pa Ps k → ¬ X k
theorem MemX.below {X : Nat → Prop} {B b : Nat} {L : List M.Cl} {w w' : World} (h : MemX X B b L w) (hb : Below w.heap.size w w') : MemX X B b L w' := by
  obtain ⟨pa, pc, Ps, h1, h2, h3⟩ := h
  exact ⟨pa, pc, Ps, h1.below hb, h2, h3⟩
theorem MemX.more {X X' : Nat → Prop} {B b : Nat} {L : List M.Cl} {w : World} (h : MemX X B b L w) (hX : ∀ k, X' k → X k ∨ w.heap.size ≤ k) : MemX X' B b L w := by
  obtain ⟨pa, pc, Ps, h1, h2, h3⟩ := h
  refine ⟨pa, pc, Ps, h1, h2, fun k hk hx => ?_⟩
  rcases hX k hx with q | q
  · exact h3 k hk q
  · have := (h1.wr hk).2
    omega
instance car_memX {w w' : World} {X : Nat → Prop} {B b : Nat} {L : List M.Cl} : Car w w' (MemX X B b L w) (MemX X B b L w') := ⟨fun hb h => h.below hb⟩
def PutX (X : Nat → Prop) (B b : Nat) (v : Int) (L : List M.Cl) (w : World) (e : Ending) (w' : World) : Prop := e = .returned (.int .i64 v) ∧ MemX X B b L w' ∧ OnlyS (fun k => B ≤ k ∧ ¬ X k) w w'
theorem putX15 {X : Nat → Prop} {B b : Nat} {L : List M.Cl} (c : M.Cl) {w : World} (h : MemX X B b L w) (hX : ∀ k, X k → k < w.heap.size) (hB : B ≤ w.heap.size) (hc : ClOk c) (hn : L.length < 50000) :
    Calls Try.prog 51 #[.pointer (some ⟨b, 0, none⟩), .agg (clA c)] w (PutX X B b (if M.mayC c then 0 else 2) (M.putL c L) w) := by
  obtain ⟨pa, pc, Ps, h1, h2, h3⟩ := h
  refine (put15_any B b pa pc Ps L c w h1 h2 hB hc hn).mono ?_
  rintro e w' ⟨rfl, pa', pc', Ps', k1, k2, k3, k4⟩
  refine ⟨rfl, ⟨pa', pc', Ps', k1, k2, fun k hk hx => ?_⟩, k3.mono (fun k hk => ⟨(h1.wr hk).1, h3 k hk⟩)⟩
  rcases k4.1 k hk with q | q
  · exact h3 k q hx
  · have := hX k hx
    omega
theorem memX_new (X : Nat → Prop) (w : World) (hX : ∀ k, X k → k ≠ w.heap.size) : MemX X w.heap.size w.heap.size [] (w.alloc (.cells #[.slice none 0 0, .int .i64 0, .bool true] 132)) :=
  ⟨none, 0, [], memAt_new w _ (Nat.le_refl _), (fun p hp => by cases hp), fun k hk hx => by
    rcases hk with rfl | ⟨o, e⟩ | ⟨p, hp, _⟩
    · exact hX _ hx rfl
    · cases e
    · cases hp⟩
theorem rangeX15 {X : Nat → Prop} {B b : Nat} {L : List M.Cl} {w : World} (h : MemX X B b L w) :
    Calls Try.prog 56 #[.pointer (some ⟨b, 0, none⟩), .string ⟨#[]⟩, .string ⟨#[]⟩] w fun e w' => RangeR10 L w e w' := by
  obtain ⟨pa, pc, Ps, h1, h2, h3⟩ := h
  have := range15_any B b pa pc Ps L [] [] w h1 (by simp) (by simp)
  rw [M.range_nil] at this
  exact this
theorem lenX15 {X : Nat → Prop} {B b : Nat} {L : List M.Cl} {w : World} (h : MemX X B b L w) :
    Calls Try.prog 53 #[.pointer (some ⟨b, 0, none⟩)] w fun e w' => e = .returned (.int .i64 L.length) ∧ w = w' := by
  obtain ⟨pa, pc, Ps, h1, h2, h3⟩ := h
  exact len15_any B b pa pc Ps L w h1
theorem getX15 {X : Nat → Prop} {B b : Nat} {L : List M.Cl} {w : World} (key : List UInt8) (h : MemX X B b L w) :
    Calls Try.prog 54 #[.pointer (some ⟨b, 0, none⟩), .string (S key)] w fun e w' => FindR9 (M.findL key L) w e w' := by
  obtain ⟨pa, pc, Ps, h1, h2, h3⟩ := h
  exact get15_any B b pa pc Ps L key w h1
def CutX (L : List M.Cl) (key : List UInt8) (w : World) (e : Ending) (w' : World) : Prop :=
  ∃ b1 b2, e = .returned (.tuple #[.pointer (some ⟨b1, 0, none⟩), .pointer (some ⟨b2, 0, none⟩)]) ∧ MemX (fun _ => False) w.heap.size b1 (L.filter (M.below key)) w' ∧ MemX (fun _ => False) w.heap.size b2 (L.filter (fun c => !M.below key c)) w' ∧ Below w.heap.size w w'
theorem cutX15 {X : Nat → Prop} {B b : Nat} {L : List M.Cl} {w : World} (key : List UInt8) (h : MemX X B b L w) :
    Calls Try.prog 60 #[.pointer (some ⟨b, 0, none⟩), .string (S key)] w (CutX L key w) := by
  obtain ⟨pa, pc, Ps, h1, h2, h3⟩ := h
  refine (cut15_any B b pa pc Ps L key w h1).mono ?_
  rintro e w' ⟨b1, pa1, pc1, P1, b2, pa2, pc2, P2, rfl, m1, m2, s1, s2, _, _, hb⟩
  exact ⟨b1, b2, rfl, ⟨pa1, pc1, P1, m1, s1, fun _ _ h => h⟩, ⟨pa2, pc2, P2, m2, s2, fun _ _ h => h⟩, hb⟩
def JoinX (L : List M.Cl) (w : World) (e : Ending) (w' : World) : Prop := ∃ b, e = .returned (.pointer (some ⟨b, 0, none⟩)) ∧ MemX (fun _ => False) w.heap.size b L w' ∧ Below w.heap.size w w'
theorem joinX15 {X Y : Nat → Prop} {Ba Bb ba bb : Nat} {La Lb : List M.Cl} {w : World} (ha : MemX X Ba ba La w) (hb : MemX Y Bb bb Lb w) (hn : La.length + Lb.length ≤ 40000) :
    Calls Try.prog 62 #[.pointer (some ⟨ba, 0, none⟩), .pointer (some ⟨bb, 0, none⟩)] w (JoinX (M.joinL La Lb) w) := by
  obtain ⟨pa, pca, Pa, h1, _, _⟩ := ha
  obtain ⟨pb, pcb, Pb, k1, _, _⟩ := hb
  refine (join15_any Ba Bb ba bb pa pb pca pcb Pa Pb La Lb w h1 k1 hn).mono ?_
  rintro e w' ⟨b, pa', pc', Ps', rfl, m, s, _, hb⟩
  exact ⟨b, rfl, ⟨pa', pc', Ps', m, s, fun _ _ h => h⟩, hb⟩
/-! The example's cells. -/
def M.x15 : M.Cl := ⟨[97], 1, [120]⟩
def M.y15 : M.Cl := ⟨[97], 2, [121]⟩
def M.z15 : M.Cl := ⟨[97], 1, [122]⟩
def M.o15 : M.Cl := ⟨[], 0, []⟩
def M.b15 : M.Cl := ⟨[98], 1, []⟩
theorem M.ok15 : ClOk M.x15 ∧ ClOk M.y15 ∧ ClOk M.z15 ∧ ClOk M.o15 ∧ ClOk M.b15 := by
  unfold ClOk M.x15 M.y15 M.z15 M.o15 M.b15
  simp
  refine ⟨?_, ?_, ?_, ?_, ?_⟩ <;> (constructor <;> simp)
theorem M.may15 : M.mayC M.x15 = true ∧ M.mayC M.y15 = true ∧ M.mayC M.z15 = true ∧ M.mayC M.o15 = false ∧ M.mayC M.b15 = true := by decide
theorem M.put15 : M.putL M.x15 [] = [M.x15] ∧ M.putL M.y15 [M.x15] = [M.y15, M.x15] ∧ M.putL M.z15 [M.y15, M.x15] = [M.y15, M.x15] ∧ M.putL M.o15 [M.y15, M.x15] = [M.y15, M.x15] ∧ M.putL M.b15 [M.y15, M.x15] = [M.y15, M.x15, M.b15] := by
  refine ⟨?_, ?_, ?_, ?_, ?_⟩ <;> decide
theorem M.find15 : M.findL [97] [M.y15, M.x15] = some M.y15 := by decide
theorem M.cut15 : [M.y15, M.x15, M.b15].filter (M.below [98]) = [M.y15, M.x15] ∧ [M.y15, M.x15, M.b15].filter (fun c => !M.below [98] c) = [M.b15] := by decide
theorem M.join15 : (M.joinL [M.y15, M.x15] [M.b15]).length = 3 := by decide

end Go.Proofs.Ythidmgnfdikppaa
