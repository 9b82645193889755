/- Texts of lower layers, as one. -/
import Derived.Test.YtnhljlmelbiljaaGreatZN
import Derived.Deep.RegionLaw
import Derived.Deep.RegionHeld3
/- Layer 15: Put, by a contract. -/
namespace Go.Proofs.YtnhljlmelbiljaaGreat
set_option linter.unusedVariables false
set_option linter.unusedSimpArgs false
open Go Go.RowKit
attribute [local go_sem ↓] run_index_S
attribute [local go_sem] S_append S_extract

/-- What Put answers and leaves. -/
def M.putL (c : M.Cl) (L : List M.Cl) : List M.Cl := if M.mayC c = true then M.insC c L else L
def PutR (B b : Nat) (pa : Option Addr) (Ps : List M.Pg) (c : M.Cl) (L : List M.Cl) (w : World) (e : Ending) (w' : World) : Prop :=
  e = .returned (.int .i64 (if M.mayC c then 0 else 2)) ∧ ∃ pa' pc' Ps', MemAt B b pa' pc' Ps' (M.putL c L) w' ∧ SmP Ps' ∧ OnlyS (WrS b pa Ps) w w' ∧ Grw b pa Ps w pa' Ps'
set_option maxHeartbeats 4000000 in
set_option maxRecDepth 100000 in
theorem put15_any (B b : Nat) (pa : Option Addr) (pc : Nat) (Ps : List M.Pg) (L : List M.Cl) (c : M.Cl) (w : World) (h : MemAt B b pa pc Ps L w) (hsm : SmP Ps) (hBw : B ≤ w.heap.size) (hc : ClOk c) (hn : L.length < 50000) :
    Calls Tryz.prog 57 #[.pointer (some ⟨b, 0, none⟩), .agg (clA c)] w (PutR B b pa Ps c L w) := by
  have hal := (Below.refl w.heap.size w).alloc (Nat.le_refl _) (.cells (clA c) 38)
  have HB := Lib.hid hal
  have HM := Lib.hid (h.below hal)
  have HX := Lib.hid (rowIn_new (clA c) 38 w)
  have CK := Lib.hid (fun V => check9_any c hc V)
  have CL := Lib.hid (fun hm (V : World) hV hBV => lay15_any B b pa pc Ps L c V hV hsm hBV ⟨hc, hm⟩ hn)
  have HBW := Lib.hid hBw
  have HSM := Lib.hid hsm
  have r2 : (w.alloc (.cells (clA c) 38)).cell? ⟨b, 2, none⟩ = some (.bool true) := HM.out.row.cell 2
  unfold PutR M.putL
  unfold LayR at CL
  clear hal h hBw hsm hn hc
  generalize M.mayC c = mb at *
  go_enter Tryz.func57, Tryz.ntmps57
  go_wp2_with fail
  have hxe : ∃ x, x = w.heap.size := ⟨_, rfl⟩
  obtain ⟨X, hX⟩ := hxe
  rw [← hX] at HX ⊢
  obtain ⟨x0, x1, x2⟩ : (w.alloc (.cells (clA c) 38)).cell? ⟨X, 0, none⟩ = some (.string (S c.key)) ∧ (w.alloc (.cells (clA c) 38)).cell? ⟨X, 1, none⟩ = some (.int .i64 c.seq) ∧ (w.alloc (.cells (clA c) 38)).cell? ⟨X, 2, none⟩ = some (.string (S c.val)) := ⟨HX.out.cell 0, HX.out.cell 1, HX.out.cell 2⟩
  clear hX
  go_wp2_with fail
  refine (CK.out _).mono ?_
  rintro e w1 ⟨rfl, hb⟩
  replace HB := carry hb HB
  replace HX := carry hb HX
  replace HM := carry hb HM
  clear hb CK x0 x1 x2 r2
  obtain ⟨x0, x1, x2⟩ : w1.cell? ⟨X, 0, none⟩ = some (.string (S c.key)) ∧ w1.cell? ⟨X, 1, none⟩ = some (.int .i64 c.seq) ∧ w1.cell? ⟨X, 2, none⟩ = some (.string (S c.val)) := ⟨HX.out.cell 0, HX.out.cell 1, HX.out.cell 2⟩
  cases mb with
  | false =>
    clear CL
    go_wp2_with fail
    go_ret
    exact ⟨rfl, pa, pc, Ps, HM.out, HSM.out, onlyS_below HB.out, Grw.refl _ _ _ _⟩
  | true =>
    replace CL := Lib.hid (CL.out rfl w1 HM.out (Nat.le_trans HBW.out HB.out.size))
    go_wp2_with fail
    refine (CL.out).mono ?_
    rintro e w2 ⟨rfl, hl⟩
    have HL := Lib.hid hl
    clear hl CL
    go_wp2_with fail
    go_ret
    obtain ⟨pa', pc', Ps', k1, k2, k3, k4⟩ := HL.out
    exact ⟨rfl, pa', pc', Ps', k1, k2, (onlyS_below HB.out).trans2 k3 (fun x hx => .inl hx), k4.mono HB.out.size⟩

end Go.Proofs.YtnhljlmelbiljaaGreat

/- Layer 15: Range, by a contract. -/
namespace Go.Proofs.YtnhljlmelbiljaaGreat
set_option linter.unusedVariables false
set_option linter.unusedSimpArgs false
open Go Go.RowKit
attribute [local go_sem ↓] run_index_S
attribute [local go_sem] S_append S_extract

/-- How many cells lie ahead of a page. -/
def M.posP (Ps : List M.Pg) (k : Nat) : Nat := (M.flat (Ps.take k)).length
theorem M.pos_at {Ps : List M.Pg} {k i : Nat} (hk : k < Ps.length) (hi : i < (Ps.getD k M.pg0).l.length) : M.posP Ps k + i < (M.flat Ps).length ∧ (M.flat Ps).getD (M.posP Ps k + i) M.cl0 = (Ps.getD k M.pg0).l.getD i M.cl0 := by
  rw [M.flat_at hk]
  refine ⟨by simp only [List.length_append, M.posP]; omega, ?_⟩
  have e : ∀ (A B C : List M.Cl), i < B.length → (A ++ (B ++ C)).getD (A.length + i) M.cl0 = B.getD i M.cl0 := fun A B C h => by
    simp only [List.getD]
    rw [List.getElem?_append_right (by omega), show A.length + i - A.length = i from by omega, List.getElem?_append_left h]
  exact e _ _ _ hi
theorem M.pos_succ {Ps : List M.Pg} {k : Nat} (hk : k < Ps.length) : M.posP Ps (k + 1) = M.posP Ps k + (Ps.getD k M.pg0).l.length := by
  have e : Ps.take (k + 1) = Ps.take k ++ [Ps.getD k M.pg0] := by
    rw [List.take_add_one]
    simp [List.getD, List.getElem?_eq_getElem hk]
  unfold M.posP
  rw [e, M.flat_append, List.length_append]
  simp [M.flat]
theorem M.pos_end (Ps : List M.Pg) : M.posP Ps Ps.length = (M.flat Ps).length := by rw [M.posP, List.take_length]
theorem M.strict_get {L : List M.Cl} (h : M.Stt L) {i j : Nat} (hij : i < j) (hj : j < L.length) : M.aheadC (L.getD i M.cl0) (L.getD j M.cl0) = true := by
  have := List.pairwise_iff_getElem.1 h i j (by omega) hj hij
  simpa [List.getD, List.getElem?_eq_getElem hj, List.getElem?_eq_getElem (show i < L.length from by omega)] using this
theorem M.range_seek {Ps : List M.Pg} {lo hi : List UInt8} {a i : Nat} (h : M.SeekOk Ps (M.topC lo) a i) (hst : M.Stt (M.flat Ps)) (hq : ∀ x, x ∈ M.flat Ps → x.seq ≤ 9223372036854775807) :
    M.rangeL lo hi ((M.flat Ps).take (M.posP Ps a + i)) = [] ∧ ∀ m, M.posP Ps a + i ≤ m → m < (M.flat Ps).length → Op.bytesLess ((M.flat Ps).getD m M.cl0).key lo = false := by
  have none_ : ∀ A : List M.Cl, (∀ x, x ∈ A → x ∈ M.flat Ps ∧ M.aheadC x (M.topC lo) = true) → M.rangeL lo hi A = [] := fun A hA => by
    rw [M.rangeL, List.filter_eq_nil_iff]
    intro x hx
    obtain ⟨h1, h2⟩ := hA x hx
    rw [M.ahead_top (hq x h1) lo] at h2
    simp [M.inR, h2]
  by_cases he : a = Ps.length
  · have hi0 := h.end_ he
    have e : M.posP Ps a + i = (M.flat Ps).length := by rw [he, hi0, M.pos_end]; rfl
    rw [e]
    exact ⟨none_ _ (fun x hx => by rw [List.take_length] at hx; exact ⟨hx, h.all he x hx⟩), fun m h1 h2 => absurd h2 (by omega)⟩
  · have hlt : a < Ps.length := by have := h.le; omega
    have hin := h.in_ hlt
    obtain ⟨p1, p2⟩ := M.pos_at hlt hin
    have hx := h.at_ hlt
    rw [← p2] at hx
    refine ⟨?_, fun m h1 h2 => ?_⟩
    · refine none_ _ (fun x hx => ⟨List.mem_of_mem_take hx, ?_⟩)
      obtain ⟨A, y, B, e, eA, ey, eB, hA, hy⟩ := h.cut hlt
      have el : A.length = M.posP Ps a + i := by rw [eA, List.length_append, List.length_take, M.posP]; omega
      rw [e, ← el, List.take_left'] at hx
      · exact hA x hx
      · rfl
    · have hmem : (M.flat Ps).getD m M.cl0 ∈ M.flat Ps := M.getD_memC h2
      rw [← M.ahead_top (hq _ hmem) lo]
      cases hc : M.aheadC ((M.flat Ps).getD m M.cl0) (M.topC lo) with
      | false => rfl
      | true =>
        rcases Nat.lt_or_ge (M.posP Ps a + i) m with q | q
        · rw [M.ahead_trans (M.strict_get hst q h2) hc] at hx; exact hx
        · obtain rfl : m = M.posP Ps a + i := by omega
          rw [hc] at hx; exact hx
theorem M.range_stop {L : List M.Cl} (hst : M.Stt L) {lo hi : List UInt8} {m : Nat} (he : hi.isEmpty = false) (hf : Op.bytesLess (L.getD m M.cl0).key hi = false) : M.rangeL lo hi L = M.rangeL lo hi (L.take m) := by
  conv => lhs; rw [← List.take_append_drop m L]
  rw [M.rangeL, List.filter_append, M.rangeL]
  have : (L.drop m).filter (M.inR lo hi) = [] := by
    rw [List.filter_eq_nil_iff]
    intro c hc
    obtain ⟨j, h1, h2, rfl⟩ := M.mem_getD' hc
    have : Op.bytesLess (L.getD j M.cl0).key hi = false := by
      rcases Nat.lt_or_ge m j with q | q
      · cases k : Op.bytesLess (L.getD j M.cl0).key hi with
        | false => rfl
        | true =>
          rcases M.ahead_iff.1 (M.strict_get hst q h2) with h3 | ⟨h3, _⟩
          · rw [M.less_trans _ _ _ h3 k] at hf; exact hf
          · rw [h3, k] at hf; exact hf
      · obtain rfl : j = m := by omega
        exact hf
    simp only [M.inR, this, he]
    simp
  rw [this, List.append_nil]
set_option maxHeartbeats 4000000 in
set_option maxRecDepth 100000 in
theorem range15_any (B b : Nat) (pa : Option Addr) (pc : Nat) (Ps : List M.Pg) (L : List M.Cl) (lo hi : List UInt8) (w : World) (h : MemAt B b pa pc Ps L w) (h1 : lo.length ≤ 140737488351232) (h2 : hi.length ≤ 140737488351232) :
    Calls Tryz.prog 32 #[.pointer (some ⟨b, 0, none⟩), .string (S lo), .string (S hi)] w fun e w' => RangeR10 (M.rangeL lo hi L) w e w' := by
  obtain ⟨i0, z0, hi0, hz0, hz1, hz2, hz3⟩ := infoCl_parts
  have hPn := h.ok.n
  have hLn := h.nL
  have CS := Lib.hid (first15_any B b pa pc Ps L lo w h)
  have HSE := Lib.hid (M.seek_ok h.ok (M.topC lo))
  have HR0 := Lib.hid (M.range_seek (lo := lo) (hi := hi) (M.seek_ok h.ok (M.topC lo)) (by rw [h.flat]; exact h.st) (fun x hx => by rw [h.flat] at hx; exact (h.okc x hx).1.2.2.2))
  rw [h.flat] at HR0
  have HPO := Lib.hid (fun k i (hk : k < Ps.length) hi => by have := M.pos_at (Ps := Ps) (k := k) (i := i) hk hi; rw [h.flat] at this; exact this)
  have HPS := Lib.hid (fun k (hk : k < Ps.length) => M.pos_succ (Ps := Ps) (k := k) hk)
  have HPE := Lib.hid (M.pos_end Ps)
  rw [h.flat] at HPE
  have HST := Lib.hid (fun m he hf => M.range_stop (lo := lo) (hi := hi) (m := m) h.st he hf)
  have HKY := Lib.hid (show ∀ c ∈ L, c.key.length ≤ 64 from fun c hc => (M.mayC_true.1 (h.okc c hc).2).2.1)
  have HMS := Lib.hid (fun k (hk : k < Ps.length) => (h.ok.len _ (M.getD_memP hk)).1)
  have HM := Lib.hid h
  unfold SeekR at CS
  generalize M.seekA Ps (M.topC lo) = a at *
  generalize M.seekJ Ps (M.topC lo) = s at *
  clear h
  go_enter Tryz.func32, Tryz.ntmps32
  go_wp2_with fail
  refine (CS.out).mono ?_
  rintro e w1 ⟨rfl, hb⟩
  have HB := Lib.hid hb
  clear hb CS
  have HS1 := Lib.hid (show a ≤ Ps.length ∧ (a < Ps.length → s < (Ps.getD a M.pg0).l.length) ∧ (a = Ps.length → s = 0) from ⟨HSE.out.le, HSE.out.in_, HSE.out.end_⟩)
  have HR1 := Lib.hid HR0.out.1
  have HR2 := Lib.hid HR0.out.2
  clear HSE HR0
  generalize M.posP Ps = pos at *
  generalize hs0 : pos a + s = s0 at HR2
  go_wp2_with fail
  go_loopw [7, 8, 9] (fun v7 v8 v9 wr => ∃ (k j : Nat) (A : List M.Cl) (ao : Option Addr) (cap : Nat), k ≤ Ps.length ∧ A.length ≤ 50000 ∧ v8 = .int .i64 k ∧ v9 = .int .i64 j ∧ v7 = .slice ao A.length cap ∧ Hid ((k < Ps.length → j < (Ps.getD k M.pg0).l.length) ∧ (k = Ps.length → j = 0)) ∧ Hid (A = M.rangeL lo hi (L.take (pos k + j)) ∧ s0 ≤ pos k + j) ∧ Hid (wr.ownsRow w.heap.size 38 3 (.slice ao A.length cap) A.length (cls A)) ∧ Hid (Below w.heap.size w wr)) (fun _ v _ _ => Ps.length - (intOf v).toNat)
  case atStart => exact ⟨a, s, [], none, 0, HS1.out.1, by simp, rfl, rfl, rfl, Lib.hid HS1.out.2, Lib.hid ⟨HR1.out.symm, Nat.le_of_eq hs0.symm⟩, Lib.hid (World.ownsRow_nil _ _ _ _), HB⟩
  case round =>
    clear HB HS1 HR1 hs0
    obtain ⟨k, j, A, ao, cap, hk, hA, rfl, rfl, rfl, HJ, HA, HO, HB⟩ := hrel
    have HMr := Lib.hid (HM.out.below HB.out)
    have r0 := HMr.out.row.cell 0
    by_cases hlt : k < Ps.length
    · have d1 : decide ((k : Int) < (Ps.length : Int)) = true := by simp; omega
      have hki : (k : Int) < (Ps.length : Int) := by omega
      obtain ⟨g, rfl, z0, hcl⟩ := HMr.out.pgs.at_ hlt
      have HCL := Lib.hid (fun (W : World) (hW : Below w.heap.size w W) => by
        obtain ⟨g2, _, _, e⟩ := (HM.out.below hW).pgs.at_ hlt
        exact e)
      have hjl := HJ.out.1 hlt
      have HP1 := Lib.hid (fun i => HPO.out k i hlt)
      have HP2 := Lib.hid (HPS.out k hlt)
      have hlk := HMr.out.ok.len _ (M.getD_memP hlt)
      have hkk : ¬ ((Ps.getD k M.pg0).k = j) := by
        rcases (HMr.out.blk _ (M.getD_memP hlt)).2.2 with e | ⟨_, e, _⟩ <;> omega
      clear hcl HJ
      generalize Ps.getD k M.pg0 = p at *
      unfold pgV at z0
      have hji : (j : Int) ≤ (p.l.length : Int) := by omega
      clear HMr
      go_wp2_with fail
      have hn : p.l.length - j ≤ p.l.length := Nat.sub_le _ _
      have HN := Lib.hid (show j + (p.l.length - j) = p.l.length from by omega)
      generalize p.l.length - j = n at *
      generalize p.k - j = kk at *
      clear hkk r0 z0
      go_loopw [7, 39] (fun v7 v39 wr => ∃ (i : Nat) (A' : List M.Cl) (ao' : Option Addr) (cap' : Nat), i ≤ n ∧ A'.length ≤ 50000 ∧ v39 = .int .i64 i ∧ v7 = .slice ao' A'.length cap' ∧ Hid (A' = M.rangeL lo hi (L.take (pos k + (j + i)))) ∧ Hid (wr.ownsRow w.heap.size 38 3 (.slice ao' A'.length cap') A'.length (cls A')) ∧ Hid (Below w.heap.size w wr)) (fun _ v _ => n - (intOf v).toNat)
      case atStart => exact ⟨0, A, ao, cap, Nat.zero_le _, hA, rfl, rfl, Lib.hid HA.out.1, HO, HB⟩
      case round =>
        have HS0 := Lib.hid HA.out.2
        clear HO HB HA
        obtain ⟨i, A', ao', cap', hi_, hA', rfl, rfl, HA, HO, HB⟩ := hrel
        by_cases hil : i < n
        · have d3 : decide ((i : Int) < (n : Int)) = true := by simp; omega
          have d4 : decide (i < n) = true := by simp; omega
          have hii : (i : Int) < (n : Int) := by omega
          have hjl2 : j + i < p.l.length := by rw [← HN.out]; omega
          obtain ⟨y0, y1, y2⟩ : ClOff (p.l.getD (j + i) M.cl0) wr p.q (p.o + j * 3 + i * 3) := by
            have := HCL.out wr HB.out (j + i) hjl2
            rw [show p.o + j * 3 + i * 3 = p.o + (j + i) * 3 from by omega]
            exact this
          obtain ⟨q1, q2⟩ := HP1.out (j + i) hjl2
          have HTK := Lib.hid (M.range_take lo hi q1)
          have hkl := HKY.out _ (M.getD_memC q1)
          have HLO := Lib.hid (HR2.out _ (by have := HS0.out; omega) q1)
          have HIN : Hid (M.inR lo hi (L.getD (pos k + (j + i)) M.cl0) = (!Op.bytesLess (L.getD (pos k + (j + i)) M.cl0).key lo && (hi.isEmpty || Op.bytesLess (L.getD (pos k + (j + i)) M.cl0).key hi))) := Lib.hid rfl
          have HSTm := Lib.hid (HST.out (pos k + (j + i)))
          have HLN := Lib.hid q1
          have e1 : pos k + (j + i) + 1 = pos k + (j + (i + 1)) := by omega
          rw [e1] at HTK
          rw [q2] at HTK HIN HSTm hkl HLO
          clear q1 q2 e1
          generalize p.l.getD (j + i) M.cl0 = c at *
          have HX := Lib.hid (rowIn_new (clA c) 38 wr)
          have HO2 := Lib.hid (ownP_below HO.out ((Below.refl wr.heap.size wr).alloc (Nat.le_refl _) (.cells (clA c) 38)))
          have HB2 := carryA (w := wr) (.cells (clA c) 38) HB
          have HLEN := Lib.hid (show A'.length ≤ pos k + (j + i) from by
            rw [HA.out]
            have h1 := M.range_len lo hi (L.take (pos k + (j + i)))
            rw [List.length_take] at h1
            omega)
          cases he : hi.isEmpty with
          | true =>
            obtain rfl : hi = [] := by simpa using he
            have HR := Lib.hid (show A' ++ [c] = M.rangeL lo [] (L.take (pos k + (j + (i + 1)))) from by rw [HTK.out, HIN.out, HLO.out, show ([] : List UInt8).isEmpty = true from rfl]; simp [← HA.out])
            have HXX := Lib.hid (rowIn_new (clA c) 38 (wr.alloc (.cells (clA c) 38)))
            have HO3 := Lib.hid (ownP_below HO2.out ((Below.refl _ (wr.alloc (.cells (clA c) 38))).alloc (Nat.le_refl _) (.cells (clA c) 38)))
            have HB3 := carryA (w := wr.alloc (.cells (clA c) 38)) (.cells (clA c) 38) HB2
            have z0' := HX.out.cell 0
            go_wp2_with (at_builtin; refine wpList_append_cls_at rfl _ _ 22 rfl w.heap.size i0 z0 Tryz.underlying22 hi0 hz0 hz1 hz2 hz3 (.slice ao' A'.length cap') A'.length (cls A') rfl HO3.out (some ⟨wr.heap.size + 1, 0, none⟩) 1 [c] rfl ?c1 ?c2 ?c3 ?_)
            case c1 => exact clsAt_row (by have := HXX.out; rw [szA] at this; exact this) rfl
            case c2 => have e1 : [c].length = 1 := rfl; omega
            case c3 => exact HB3.out.size
            intro v' w5 ho5 hg5 hat5
            obtain ⟨ao5, cap5, rfl⟩ := ownP_shape ho5
            have e5 : (A' ++ [c]).length = A'.length + 1 := by simp
            have HB5 := Lib.hid (HB3.out.grown hg5 HB3.out.size (fun k hk => (HO3.out.lt k hk).1))
            have HO5 := Lib.hid (show w5.ownsRow w.heap.size 38 3 (.slice ao5 (A' ++ [c]).length cap5) (A' ++ [c]).length (cls (A' ++ [c])) from by rw [e5, cls_append]; exact ho5)
            have HE5 := Lib.hid e5
            clear ho5 hg5 hat5 z0' e5
            go_wp2_with fail
            go_roundw
            case rel => exact ⟨i + 1, A' ++ [c], ao5, cap5, by omega, by rw [HE5.out]; have := HLEN.out; have := HLN.out; omega, by go_num, by rw [HE5.out], HR, HO5, HB5⟩
            case measure => simp [intOf]; omega
          | false =>
            cases hq2 : Op.bytesLess c.key hi with
            | true =>
              have HR := Lib.hid (show A' ++ [c] = M.rangeL lo hi (L.take (pos k + (j + (i + 1)))) from by rw [HTK.out, HIN.out, HLO.out, hq2, he]; simp [← HA.out])
              have HXX := Lib.hid (rowIn_new (clA c) 38 (wr.alloc (.cells (clA c) 38)))
              have HO3 := Lib.hid (ownP_below HO2.out ((Below.refl _ (wr.alloc (.cells (clA c) 38))).alloc (Nat.le_refl _) (.cells (clA c) 38)))
              have HB3 := carryA (w := wr.alloc (.cells (clA c) 38)) (.cells (clA c) 38) HB2
              have z0' := HX.out.cell 0
              go_wp2_with (at_builtin; refine wpList_append_cls_at rfl _ _ 22 rfl w.heap.size i0 z0 Tryz.underlying22 hi0 hz0 hz1 hz2 hz3 (.slice ao' A'.length cap') A'.length (cls A') rfl HO3.out (some ⟨wr.heap.size + 1, 0, none⟩) 1 [c] rfl ?c1 ?c2 ?c3 ?_)
              case c1 => exact clsAt_row (by have := HXX.out; rw [szA] at this; exact this) rfl
              case c2 => have e1 : [c].length = 1 := rfl; omega
              case c3 => exact HB3.out.size
              intro v' w5 ho5 hg5 hat5
              obtain ⟨ao5, cap5, rfl⟩ := ownP_shape ho5
              have e5 : (A' ++ [c]).length = A'.length + 1 := by simp
              have HB5 := Lib.hid (HB3.out.grown hg5 HB3.out.size (fun k hk => (HO3.out.lt k hk).1))
              have HO5 := Lib.hid (show w5.ownsRow w.heap.size 38 3 (.slice ao5 (A' ++ [c]).length cap5) (A' ++ [c]).length (cls (A' ++ [c])) from by rw [e5, cls_append]; exact ho5)
              have HE5 := Lib.hid e5
              clear ho5 hg5 hat5 z0' e5
              go_wp2_with fail
              go_roundw
              case rel => exact ⟨i + 1, A' ++ [c], ao5, cap5, by omega, by rw [HE5.out]; have := HLEN.out; have := HLN.out; omega, by go_num, by rw [HE5.out], HR, HO5, HB5⟩
              case measure => simp [intOf]; omega
            | false =>
              have HR := Lib.hid (show M.rangeL lo hi L = A' from by rw [HSTm.out he hq2]; exact HA.out.symm)
              go_wp2_with fail
              go_ret
              exact ⟨ao', cap', by rw [HR.out]; rfl, by rw [HR.out]; exact HO2.out, HB2.out⟩
        · obtain rfl : i = n := by omega
          have d3 : decide ((i : Int) < (i : Int)) = false := by simp
          have d4 : decide (i < i) = false := by simp
          have HR := Lib.hid (show A' = M.rangeL lo hi (L.take (pos (k + 1) + 0)) from by rw [HP2.out, Nat.add_zero, ← HN.out]; exact HA.out)
          have HS2 := Lib.hid (show s0 ≤ pos (k + 1) + 0 from by have := HS0.out; have := HN.out; rw [HP2.out]; omega)
          clear HA HS0
          go_wp2_with fail
          go_roundw
          case rel => exact ⟨k + 1, 0, A', ao', cap', by omega, hA', by go_num, rfl, rfl, Lib.hid ⟨fun h => (HMS.out (k + 1) h), fun _ => rfl⟩, Lib.hid ⟨HR.out, HS2.out⟩, HO, HB⟩
          case measure => simp [intOf]; omega
    · obtain rfl : k = Ps.length := by omega
      have d1 : decide ((Ps.length : Int) < (Ps.length : Int)) = false := by simp
      have HR := Lib.hid (show M.rangeL lo hi L = A from by
        rw [HA.out.1, HJ.out.2 rfl, Nat.add_zero, HPE.out, List.take_length])
      go_wp2_with fail
      go_ret
      exact ⟨ao, cap, by rw [HR.out]; rfl, by rw [HR.out]; exact HO.out, HB.out⟩

end Go.Proofs.YtnhljlmelbiljaaGreat

/- Layer 15: of, by a contract. -/
namespace Go.Proofs.YtnhljlmelbiljaaGreat
set_option linter.unusedVariables false
set_option linter.unusedSimpArgs false
open Go Go.RowKit
attribute [local go_sem ↓] run_index_S
attribute [local go_sem] S_append S_extract

/-- Cells that of may keep. -/
def OfIn (B q o : Nat) (ao : Option Addr) (L : List M.Cl) (w : World) : Prop := 0 < L.length → ao = some ⟨q, o, none⟩ ∧ B ≤ q ∧ (∃ C, RowIn C 38 w q) ∧ ∀ j, j < L.length → ClOff (L.getD j M.cl0) w q (o + j * 3)
/-- Pages that of has made. -/
structure OfS (q o : Nat) (L : List M.Cl) (w0 w : World) (d : Nat) (Ps : List M.Pg) (pa : Option Addr) (pc : Nat) : Prop where
  flat : M.flat Ps = L.take d
  each : ∀ p, p ∈ Ps → p.q = q ∧ p.l.length = p.k ∧ 0 < p.l.length ∧ p.l.length ≤ 32 ∧ PgCl w0 p
  own : w.ownsRow w0.heap.size 109 1 (.slice pa Ps.length pc) Ps.length (pgsV Ps)
  row : RowIn #[.slice pa Ps.length pc, .int .i64 L.length, .bool true] 105 w w0.heap.size
  bel : Below w0.heap.size w0 w
theorem OfS.below {q o d pc : Nat} {L : List M.Cl} {w0 w w' : World} {Ps : List M.Pg} {pa : Option Addr} (h : OfS q o L w0 w d Ps pa pc) (hb : Below w.heap.size w w') : OfS q o L w0 w' d Ps pa pc :=
  ⟨h.flat, h.each, ownP_below h.own hb, h.row.below hb, h.bel.trans (hb.mono h.bel.size)⟩
theorem WrS.ft {b : Nat} {pa : Option Addr} {Ps : List M.Pg} {k : Nat} (h : WrS b pa Ps k) : FtS b pa Ps k := by
  rcases h with h | h | ⟨p, h1, _, h2⟩
  · exact .inl h
  · exact .inr (.inl h)
  · exact .inr (.inr ⟨p, h1, h2⟩)
theorem OfS.step {q o d n pc sc : Nat} {L : List M.Cl} {w0 w w1 w3 : World} {Ps : List M.Pg} {pa sa : Option Addr} (h : OfS q o L w0 w d Ps pa pc) (hcl : ∀ j, j < L.length → ClOff (L.getD j M.cl0) w0 q (o + j * 3)) (hq : q < w0.heap.size)
    (hn : 0 < n) (hn2 : n ≤ 32) (hd : d + n ≤ L.length) (hb : Below w.heap.size w w1) (hg : w1.grownBy w3 (Value.slice pa Ps.length pc).ownBlock)
    (ho : w3.ownsRow w0.heap.size 109 1 (.slice sa (Ps.length + 1) sc) (Ps.length + 1) (pgsV Ps ++ [.slice (some ⟨q, o + d * 3, none⟩) n n])) :
    OfS q o L w0 (w3.setCell ⟨w0.heap.size, 0, none⟩ (.slice sa (Ps.length + 1) sc)) (d + n) (Ps ++ [⟨(L.drop d).take n, q, o + d * 3, n⟩]) sa sc := by
  have hl : ((L.drop d).take n).length = n := by simp; omega
  have hB1 := h.bel.trans (hb.mono h.bel.size)
  have hB3 := hB1.grown hg hB1.size (fun k hk => (h.own.lt k hk).1)
  have hB4 := hB3.setCell (p := ⟨w0.heap.size, 0, none⟩) (Nat.le_refl _) (.slice sa (Ps.length + 1) sc)
  have e1 : (Ps ++ [(⟨(L.drop d).take n, q, o + d * 3, n⟩ : M.Pg)]).length = Ps.length + 1 := by simp
  have hr1 := h.row.below hb
  have hr3 : RowIn #[.slice pa Ps.length pc, .int .i64 L.length, .bool true] 105 w3 w0.heap.size := hr1.grownP hg (fun x hx => row_apart hr1 (ownP_below h.own hb) (by decide) x hx)
  refine ⟨?_, fun p hp => ?_, ?_, ?_, hB4⟩
  · rw [M.flat_append, h.flat, List.take_add, M.flat]
    simp
  · rcases List.mem_append.1 hp with hp | hp
    · exact h.each p hp
    · rw [List.mem_singleton] at hp
      subst hp
      refine ⟨rfl, hl, by show 0 < ((L.drop d).take n).length; omega, by show ((L.drop d).take n).length ≤ 32; omega, fun j hj => ?_⟩
      have hj' : j < n := by rw [← hl]; exact hj
      have := hcl (d + j) (by omega)
      show ClOff (((L.drop d).take n).getD j M.cl0) _ q (o + d * 3 + j * 3)
      rw [show o + d * 3 + j * 3 = o + (d + j) * 3 from by omega]
      rw [show ((L.drop d).take n).getD j M.cl0 = L.getD (d + j) M.cl0 from by simp [List.getD, List.getElem?_take, hj']]
      exact this
  · rw [e1]
    have h5 := ownsRow_setCell_other (a := ⟨w0.heap.size, 0, none⟩) ho (fun e => row_apart hr3 ho (by decide) _ e rfl) (.slice sa (Ps.length + 1) sc)
    rw [pgsV, List.map_append]
    show World.ownsRow _ _ _ _ _ _ (pgsV Ps ++ [.slice (some ⟨q, o + d * 3, none⟩) ((L.drop d).take n).length n])
    rw [hl]
    exact h5
  · rw [e1]
    exact hr3.set 0 _
end Go.Proofs.YtnhljlmelbiljaaGreat

/- Layer 15: Join, by a contract. -/
namespace Go.Proofs.YtnhljlmelbiljaaGreat
set_option linter.unusedVariables false
set_option linter.unusedSimpArgs false
open Go Go.RowKit
attribute [local go_sem ↓] run_index_S
attribute [local go_sem] S_append S_extract

theorem MemAt.mono {B B' b pc : Nat} {pa : Option Addr} {Ps : List M.Pg} {L : List M.Cl} {w : World} (h : MemAt B b pa pc Ps L w) (hB : B' ≤ B) : MemAt B' b pa pc Ps L w :=
  ⟨h.row, ⟨ownP_mono h.pgs.row hB, h.pgs.each⟩, h.flat, h.st, fun p hp => by
    obtain ⟨a, b, c⟩ := h.blk p hp
    refine ⟨Nat.le_trans hB a, b, ?_⟩
    rcases c with c | ⟨x, y, z⟩
    · exact .inl c
    · exact .inr ⟨x, y, ownP_mono z hB⟩, h.sm, h.ap, Nat.le_trans hB h.bb, h.nL, h.okc⟩
theorem MemAt.wr {B b pc : Nat} {pa : Option Addr} {Ps : List M.Pg} {L : List M.Cl} {w : World} (h : MemAt B b pa pc Ps L w) {k : Nat} (hk : WrS b pa Ps k) : B ≤ k ∧ k < w.heap.size := by
  rcases hk with rfl | ⟨o, rfl⟩ | ⟨p, hp, _, rfl⟩
  · exact ⟨h.bb, h.row.lt⟩
  · exact h.pgs.row.lt k rfl
  · obtain ⟨a, ⟨C, hC⟩, _⟩ := h.blk p hp
    exact ⟨a, hC.lt⟩
theorem MemAt.ft {B b pc : Nat} {pa : Option Addr} {Ps : List M.Pg} {L : List M.Cl} {w : World} (h : MemAt B b pa pc Ps L w) {k : Nat} (hk : FtS b pa Ps k) : B ≤ k ∧ k < w.heap.size := by
  rcases hk with rfl | ⟨o, rfl⟩ | ⟨p, hp, rfl⟩
  · exact ⟨h.bb, h.row.lt⟩
  · exact h.pgs.row.lt k rfl
  · obtain ⟨a, ⟨C, hC⟩, _⟩ := h.blk p hp
    exact ⟨a, hC.lt⟩
/-- A memory beside which something was written stands as it was. -/
theorem MemAt.only {A : Nat → Prop} {B b pc : Nat} {pa : Option Addr} {Ps : List M.Pg} {L : List M.Cl} {w w' : World} (h : MemAt B b pa pc Ps L w) (hO : OnlyS A w w') (hA : ∀ k, FtS b pa Ps k → ¬ A k) : MemAt B b pa pc Ps L w' := by
  refine ⟨hO.row h.row (hA b (.inl rfl)), ⟨hO.own h.pgs.row (fun q hq => ?_), fun p hp j hj => ?_⟩, h.flat, h.st, fun p hp => ?_, h.sm, h.ap, h.bb, h.nL, h.okc⟩
  · cases pa with
    | none => cases hq
    | some a =>
      injection hq with hq
      have hz : a = ⟨q, 0, none⟩ := by
        rcases h.pgs.row.2 with ⟨e, _⟩ | ⟨g, c, cur, e, _⟩
        · cases e
        · injection e with e
          injection e with e
          rw [e] at hq ⊢
          simp at hq
          rw [hq]
      exact hA q (.inr (.inl ⟨0, by rw [hz]⟩))
  · obtain ⟨_, ⟨C, hC⟩, _⟩ := h.blk p hp
    have hs := hO.block _ hC.lt (hA _ (.inr (.inr ⟨p, hp, rfl⟩)))
    obtain ⟨x, y, z⟩ := h.pgs.each p hp j hj
    refine ⟨?_, ?_, ?_⟩
    · rw [← x]; simp only [World.cell?, hs]
    · rw [← y]; simp only [World.cell?, hs]
    · rw [← z]; simp only [World.cell?, hs]
  · obtain ⟨k1, ⟨C, hC⟩, k3⟩ := h.blk p hp
    have hn := hA _ (.inr (.inr ⟨p, hp, rfl⟩))
    refine ⟨k1, ⟨C, hO.row hC hn⟩, ?_⟩
    rcases k3 with k3 | ⟨a, c, k3⟩
    · exact .inl k3
    · exact .inr ⟨a, c, hO.own k3 (fun q hq => by injection hq with hq; rw [← hq]; exact hn)⟩
/-- A memory that is being written, beside a row of cells. -/
structure JnS (B b g : Nat) (ao : Option Addr) (cap : Nat) (Lb L : List M.Cl) (w0 w : World) : Prop where
  mem : ∃ pa pc Ps, MemAt B b pa pc Ps L w ∧ SmP Ps ∧ ∀ k, WrS b pa Ps k → k ≠ g
  row : ClsAt w ao Lb
  blk : 0 < Lb.length → ∃ C, RowIn C 38 w g
  at_ : 0 < Lb.length → ao = some ⟨g, 0, none⟩
  bel : Below B w0 w
theorem JnS.below {B b g cap : Nat} {ao : Option Addr} {Lb L : List M.Cl} {w0 w w' : World} (h : JnS B b g ao cap Lb L w0 w) (hB : B ≤ w.heap.size) (hb : Below w.heap.size w w') : JnS B b g ao cap Lb L w0 w' := by
  obtain ⟨⟨pa, pc, Ps, h1, h2, h3⟩, h4, h5, h6, h7⟩ := h
  exact ⟨⟨pa, pc, Ps, h1.below hb, h2, h3⟩, h4.below hb, fun k => by obtain ⟨C, e⟩ := h5 k; exact ⟨C, e.below hb⟩, h6, h7.trans (hb.mono hB)⟩
theorem JnS.cell {B b g cap : Nat} {ao : Option Addr} {Lb L : List M.Cl} {w0 w : World} (h : JnS B b g ao cap Lb L w0 w) {i : Nat} (hi : i < Lb.length) : ClOff (Lb.getD i M.cl0) w g (i * 3) := by
  obtain ⟨g', o', e, hk⟩ := h.row (fun e => by rw [e] at hi; simp at hi)
  rw [h.at_ (by omega)] at e
  injection e with e
  injection e with e1 e2
  subst e1
  have := hk i hi
  rw [← e2, Nat.zero_add] at this
  exact this
end Go.Proofs.YtnhljlmelbiljaaGreat

/- Layer 15: where Cut cuts, by a contract. -/
namespace Go.Proofs.YtnhljlmelbiljaaGreat
set_option linter.unusedVariables false
set_option linter.unusedSimpArgs false
open Go Go.RowKit
attribute [local go_sem ↓] run_index_S
attribute [local go_sem] S_append S_extract

def M.below (key : List UInt8) (c : M.Cl) : Bool := Op.bytesLess c.key key
/-- A row of cells in a box, as Cut has it. -/
structure CutB (ao : Option Addr) (cap g lb kb : Nat) (L : List M.Cl) (key : List UInt8) (w : World) : Prop where
  l : RowIn #[.slice ao L.length cap] 22 w lb
  k : RowIn #[.string (S key)] 9 w kb
  at_ : 0 < L.length → ao = some ⟨g, 0, none⟩
  c : ∀ j, j < L.length → ClOff (L.getD j M.cl0) w g (j * 3)
theorem CutB.below {ao : Option Addr} {cap g lb kb : Nat} {L : List M.Cl} {key : List UInt8} {w w' : World} (h : CutB ao cap g lb kb L key w) (hb : Below w.heap.size w w') : CutB ao cap g lb kb L key w' :=
  ⟨h.l.below hb, h.k.below hb, h.at_, fun j hj => (h.c j hj).below hb⟩
end Go.Proofs.YtnhljlmelbiljaaGreat

/- Layer 15: Cut, by a contract. -/
namespace Go.Proofs.YtnhljlmelbiljaaGreat
set_option linter.unusedVariables false
set_option linter.unusedSimpArgs false
open Go Go.RowKit
attribute [local go_sem ↓] run_index_S
attribute [local go_sem] S_append S_extract

theorem OfIn.below {B q o : Nat} {ao : Option Addr} {L : List M.Cl} {w w' : World} (h : OfIn B q o ao L w) (hb : Below w.heap.size w w') : OfIn B q o ao L w' := fun k => by
  obtain ⟨a, b, ⟨C, c⟩, d⟩ := h k
  exact ⟨a, b, ⟨C, c.below hb⟩, fun j hj => (d j hj).below hb⟩
theorem OfIn.take {B q o : Nat} {ao : Option Addr} {L : List M.Cl} {w : World} (h : OfIn B q o ao L w) (n : Nat) : OfIn B q o ao (L.take n) w := fun k => by
  rw [List.length_take] at k
  obtain ⟨a, b, c, d⟩ := h (by omega)
  refine ⟨a, b, c, fun j hj => ?_⟩
  rw [List.length_take] at hj
  have := d j (by omega)
  rw [show (L.take n).getD j M.cl0 = L.getD j M.cl0 from by simp [List.getD, List.getElem?_take, show j < n from by omega]]
  exact this
theorem OfIn.drop {B q o : Nat} {ao ao' : Option Addr} {L : List M.Cl} {w : World} (h : OfIn B q o ao L w) (n : Nat) (ha : 0 < L.length - n → ao' = some ⟨q, o + n * 3, none⟩) : OfIn B q (o + n * 3) ao' (L.drop n) w := fun k => by
  rw [List.length_drop] at k
  obtain ⟨a, b, c, d⟩ := h (by omega)
  refine ⟨ha k, b, c, fun j hj => ?_⟩
  rw [List.length_drop] at hj
  have := d (n + j) (by omega)
  rw [show (L.drop n).getD j M.cl0 = L.getD (n + j) M.cl0 from by simp [List.getD], show o + n * 3 + j * 3 = o + (n + j) * 3 from by omega]
  exact this
end Go.Proofs.YtnhljlmelbiljaaGreat

/- Layer 15: a memory beside blocks that it may not write; the example's cells. -/
namespace Go.Proofs.YtnhljlmelbiljaaGreat
set_option linter.unusedVariables false
set_option linter.unusedSimpArgs false
open Go Go.RowKit

/-- A memory that does not write some blocks. -/
def MemX (X : Nat → Prop) (B b : Nat) (L : List M.Cl) (w : World) : Prop := ∃ pa pc Ps, MemAt B b pa pc Ps L w ∧ SmP Ps ∧ ∀ k, WrS b pa Ps k → ¬ X k
theorem MemX.below {X : Nat → Prop} {B b : Nat} {L : List M.Cl} {w w' : World} (h : MemX X B b L w) (hb : Below w.heap.size w w') : MemX X B b L w' := by
  obtain ⟨pa, pc, Ps, h1, h2, h3⟩ := h
  exact ⟨pa, pc, Ps, h1.below hb, h2, h3⟩
theorem MemX.more {X X' : Nat → Prop} {B b : Nat} {L : List M.Cl} {w : World} (h : MemX X B b L w) (hX : ∀ k, X' k → X k ∨ w.heap.size ≤ k) : MemX X' B b L w := by
  obtain ⟨pa, pc, Ps, h1, h2, h3⟩ := h
  refine ⟨pa, pc, Ps, h1, h2, fun k hk hx => ?_⟩
  rcases hX k hx with q | q
  · exact h3 k hk q
  · have := (h1.wr hk).2
    omega
instance car_memX {w w' : World} {X : Nat → Prop} {B b : Nat} {L : List M.Cl} : Car w w' (MemX X B b L w) (MemX X B b L w') := ⟨fun hb h => h.below hb⟩
def PutX (X : Nat → Prop) (B b : Nat) (v : Int) (L : List M.Cl) (w : World) (e : Ending) (w' : World) : Prop := e = .returned (.int .i64 v) ∧ MemX X B b L w' ∧ OnlyS (fun k => B ≤ k ∧ ¬ X k) w w'
theorem putX15 {X : Nat → Prop} {B b : Nat} {L : List M.Cl} (c : M.Cl) {w : World} (h : MemX X B b L w) (hX : ∀ k, X k → k < w.heap.size) (hB : B ≤ w.heap.size) (hc : ClOk c) (hn : L.length < 50000) :
    Calls Tryz.prog 57 #[.pointer (some ⟨b, 0, none⟩), .agg (clA c)] w (PutX X B b (if M.mayC c then 0 else 2) (M.putL c L) w) := by
  obtain ⟨pa, pc, Ps, h1, h2, h3⟩ := h
  refine (put15_any B b pa pc Ps L c w h1 h2 hB hc hn).mono ?_
  rintro e w' ⟨rfl, pa', pc', Ps', k1, k2, k3, k4⟩
  refine ⟨rfl, ⟨pa', pc', Ps', k1, k2, fun k hk hx => ?_⟩, k3.mono (fun k hk => ⟨(h1.wr hk).1, h3 k hk⟩)⟩
  rcases k4.1 k hk with q | q
  · exact h3 k q hx
  · have := hX k hx
    omega
theorem memX_new (X : Nat → Prop) (w : World) (hX : ∀ k, X k → k ≠ w.heap.size) : MemX X w.heap.size w.heap.size [] (w.alloc (.cells #[.slice none 0 0, .int .i64 0, .bool true] 105)) :=
  ⟨none, 0, [], memAt_new w _ (Nat.le_refl _), (fun p hp => by cases hp), fun k hk hx => by
    rcases hk with rfl | ⟨o, e⟩ | ⟨p, hp, _⟩
    · exact hX _ hx rfl
    · cases e
    · cases hp⟩
theorem rangeX15 {X : Nat → Prop} {B b : Nat} {L : List M.Cl} {w : World} (h : MemX X B b L w) :
    Calls Tryz.prog 32 #[.pointer (some ⟨b, 0, none⟩), .string ⟨#[]⟩, .string ⟨#[]⟩] w fun e w' => RangeR10 L w e w' := by
  obtain ⟨pa, pc, Ps, h1, h2, h3⟩ := h
  have := range15_any B b pa pc Ps L [] [] w h1 (by simp) (by simp)
  rw [M.range_nil] at this
  exact this
theorem getX15 {X : Nat → Prop} {B b : Nat} {L : List M.Cl} {w : World} (key : List UInt8) (h : MemX X B b L w) :
    Calls Tryz.prog 29 #[.pointer (some ⟨b, 0, none⟩), .string (S key)] w fun e w' => FindR9 (M.findL key L) w e w' := by
  obtain ⟨pa, pc, Ps, h1, h2, h3⟩ := h
  exact get15_any B b pa pc Ps L key w h1
/-! The example's cells. -/
def M.x15 : M.Cl := ⟨[97], 1, [120]⟩
def M.z15 : M.Cl := ⟨[97], 1, [122]⟩
end Go.Proofs.YtnhljlmelbiljaaGreat
