/- Layer 15: MemoryParts. -/
import Derived.Test.YthidmgnfdikppaaMemU
import Derived.Test.YthidmgnfdikppaaMemW
namespace Go.Proofs.Ythidmgnfdikppaa
set_option linter.unusedVariables false
set_option linter.unusedSimpArgs false
open Go Go.RowKit
attribute [local go_sem ↓] run_index_S
attribute [local go_sem] S_append S_extract

set_option maxHeartbeats 4000000 in
set_option maxRecDepth 100000 in
theorem memoryParts_calls (W : World) (v : Value) (hv : UCs W v) (key : List UInt8) (hkl : key.length ≤ 140737488351232) :
    Calls Try.prog 20 #[v, .string (S key)] W fun e w' => e = .returned (.bool true) ∧ Below W.heap.size W w' := by
  obtain ⟨L, ao, cap, rfl, hl, hi, hc, hL⟩ := hv
  obtain ⟨i0, z0, hi0, hz0, hz1, hz2, hz3⟩ := infoCl_parts
  have CG := Lib.hid (show Calls Try.prog 22 #[.slice ao L.length cap, .int .i64 200] W fun e w' => GreatR9 L 200 W e w' from great9_any L cap 200 (by omega) hL hl)
  unfold GreatR9 at CG
  have CP := Lib.hid (fun (h : SmallCs9 L 200) => puts15_any ao cap L W hL (h.oks hi) (by have := h.1; omega))
  unfold PutsR at CP
  have CD := Lib.hid does15_any
  have HST := Lib.hid (show M.Stt (M.putsL [] L) from M.puts_strict L List.Pairwise.nil)
  have hpl : (M.putsL [] L).length ≤ L.length := by have := M.puts_len L []; simpa using this
  have HB := Lib.hid (Below.refl W.heap.size W)
  clear hL hi
  generalize M.putsL [] L = A at *
  go_enter Try.func20, Try.ntmps20
  go_wp2_with fail
  with_reducible refine CG.out.mono ?_
  rintro e w0 ⟨rfl | ⟨rfl, hsm⟩, rfl⟩
  · go_wp2_with fail
    go_ret
    exact ⟨rfl, HB.out⟩
  by_cases q1 : 1000 < key.length
  · have d1 : decide ((1000 : Int) < (key.length : Int)) = true := by simp; omega
    go_wp2_with fail
    go_ret
    exact ⟨rfl, HB.out⟩
  have d1 : decide ((1000 : Int) < (key.length : Int)) = false := by simp; omega
  have h200 := hsm.1
  have hA : A.length ≤ 200 := by omega
  have CP1 := Lib.hid (CP.out hsm)
  clear CP CG hsm hc hl
  go_wp2_with fail
  with_reducible refine (CP1.out).mono ?_
  rintro e w1 ⟨b, rfl, hm, hbq⟩
  replace HB := carry hbq HB
  have HM := Lib.hid hm
  clear hm hbq CP1
  have CRa := Lib.hid (rangeX15 HM.out)
  unfold RangeR10 at CRa
  go_wp2_with fail
  with_reducible refine (CRa.out).mono ?_
  rintro e w2 ⟨aA, caA, rfl, hoa, hbq⟩
  replace HB := carry hbq HB
  replace HM := carry hbq HM
  have HCa := Lib.hid (clsAt_own hoa rfl)
  clear hbq CRa
  have CT := Lib.hid (cutX15 key HM.out)
  unfold CutX at CT
  go_wp2_with fail
  with_reducible refine (CT.out).mono ?_
  rintro e w3 ⟨b1, b2, rfl, hm1, hm2, hbq⟩
  replace HB := carry hbq HB
  replace HM := carry hbq HM
  replace HCa := carry hbq HCa
  have HM1 := Lib.hid hm1
  have HM2 := Lib.hid hm2
  have HF1 := Lib.hid (show ∀ c, c ∈ A.filter (M.below key) → Op.bytesLess c.key key = true from fun c hc => (List.mem_filter.1 hc).2)
  have HF2 := Lib.hid (show ∀ c, c ∈ A.filter (fun c => !M.below key c) → Op.bytesLess c.key key = false from fun c hc => by have := (List.mem_filter.1 hc).2; simpa [M.below] using this)
  have HAP := Lib.hid (M.cut_app HST.out key)
  have HJC := Lib.hid (M.join_cut HST.out (M.below key))
  have hs1 : (A.filter (M.below key)).length ≤ 200 := Nat.le_trans (List.length_filter_le _ _) hA
  have hs2 : (A.filter (fun c => !M.below key c)).length ≤ 200 := Nat.le_trans (List.length_filter_le _ _) hA
  have HSL := Lib.hid (show (A.filter (M.below key)).length + (A.filter (fun c => !M.below key c)).length = A.length from by rw [← List.length_append, HAP.out])
  clear hm1 hm2 hbq CT
  generalize A.filter (M.below key) = X at *
  generalize A.filter (fun c => !M.below key c) = Y at *
  have CRx := Lib.hid (rangeX15 HM1.out)
  unfold RangeR10 at CRx
  go_wp2_with fail
  with_reducible refine (CRx.out).mono ?_
  rintro e w4 ⟨aX, caX, rfl, hox, hbq⟩
  replace HB := carry hbq HB
  replace HM := carry hbq HM
  replace HM1 := carry hbq HM1
  replace HM2 := carry hbq HM2
  replace HCa := carry hbq HCa
  have HCx := Lib.hid (clsAt_own hox rfl)
  clear hbq CRx
  have CRy := Lib.hid (rangeX15 HM2.out)
  unfold RangeR10 at CRy
  go_wp2_with fail
  with_reducible refine (CRy.out).mono ?_
  rintro e w5 ⟨aY, caY, rfl, hoy, hbq⟩
  replace HB := carry hbq HB
  replace HM := carry hbq HM
  replace HM1 := carry hbq HM1
  replace HM2 := carry hbq HM2
  replace HCa := carry hbq HCa
  replace HCx := carry hbq HCx
  have HCy := Lib.hid (clsAt_own hoy rfl)
  clear hbq CRy
  go_wp2_with fail
  go_loopw [11] (fun v wr => ∃ (i : Nat), i ≤ X.length ∧ v = .int .i64 i ∧ w5 = wr) (fun v _ => X.length - (intOf v).toNat)
  case atStart => exact ⟨0, Nat.zero_le _, rfl, rfl⟩
  case round =>
    obtain ⟨i, hi, rfl, rfl⟩ := hrel
    by_cases hlt : i < X.length
    · have d2 : decide ((i : Int) < (X.length : Int)) = true := by simp; omega
      have d3 : decide (i < X.length) = true := by simp; omega
      have hii : (i : Int) < (X.length : Int) := by omega
      obtain ⟨g, o, rfl, hcl⟩ := HCx.out (fun e => by rw [e] at hlt; simp at hlt)
      obtain ⟨y0, y1, y2⟩ := hcl i hlt
      have hb0 := HF1.out _ (M.getD_memC hlt)
      clear hcl
      generalize X.getD i M.cl0 = c at *
      go_wp2_with fail
      go_roundw
      case rel => exact ⟨i + 1, by omega, by go_num, trivial⟩
      case measure => simp [intOf]; omega
    obtain rfl : i = X.length := by omega
    have d2 : decide ((X.length : Int) < (X.length : Int)) = false := by simp
    have d3 : decide (X.length < X.length) = false := by simp
    go_wp2_with fail
    go_loopw [12] (fun v wr => ∃ (i : Nat), i ≤ Y.length ∧ v = .int .i64 i ∧ w5 = wr) (fun v _ => Y.length - (intOf v).toNat)
    case atStart => exact ⟨0, Nat.zero_le _, rfl, rfl⟩
    case round =>
      obtain ⟨i, hi, rfl, rfl⟩ := hrel
      by_cases hlt : i < Y.length
      · have d2 : decide ((i : Int) < (Y.length : Int)) = true := by simp; omega
        have d3 : decide (i < Y.length) = true := by simp; omega
        have hii : (i : Int) < (Y.length : Int) := by omega
        obtain ⟨g, o, rfl, hcl⟩ := HCy.out (fun e => by rw [e] at hlt; simp at hlt)
        obtain ⟨y0, y1, y2⟩ := hcl i hlt
        have hb0 := HF2.out _ (M.getD_memC hlt)
        clear hcl
        generalize Y.getD i M.cl0 = c at *
        go_wp2_with fail
        go_roundw
        case rel => exact ⟨i + 1, by omega, by go_num, trivial⟩
        case measure => simp [intOf]; omega
      obtain rfl : i = Y.length := by omega
      have d2 : decide ((Y.length : Int) < (Y.length : Int)) = false := by simp
      have d3 : decide (Y.length < Y.length) = false := by simp
      have HOo := Lib.hid (World.ownsRow_made (base := w5.heap.size) (e := 38) (size := 3) w5 #[] 0 (Nat.le_refl _) (Nat.zero_le _) rfl)
      have hal := (Below.refl w5.heap.size w5).alloc (Nat.le_refl _) (.cells #[] 38)
      have HA5 := Lib.hid hal
      have HCxa := Lib.hid (HCx.out.below hal)
      have hbs : w5.heap.size ≤ (w5.alloc (.cells #[] 38)).heap.size := hal.size
      have HBS := Lib.hid hbs
      clear hal hbs
      go_wp2_with (at_builtin; refine wpList_append_cls_at rfl _ _ 22 rfl w5.heap.size i0 z0 Try.underlying22 hi0 hz0 hz1 hz2 hz3 (.slice (some ⟨w5.heap.size, 0, none⟩) 0 0) 0 [] rfl HOo.out aX caX X rfl HCxa.out ?c2 ?c3 ?_)
      case c2 => omega
      case c3 => exact HBS.out
      intro v' w6 ho6 hg6 hat6
      obtain ⟨ao6, cap6, rfl⟩ := ownP_shape ho6
      have HB6 := Lib.hid (HA5.out.grown hg6 HA5.out.size (fun k hk => by cases hk; exact Nat.le_refl _))
      have HO6 := Lib.hid ho6
      have HCyb := Lib.hid (HCy.out.below HB6.out)
      clear ho6 hg6 hat6 HOo HCxa
      go_wp2_with (at_builtin; refine wpList_append_cls_at rfl _ _ 22 rfl w5.heap.size i0 z0 Try.underlying22 hi0 hz0 hz1 hz2 hz3 (.slice ao6 X.length cap6) X.length (cls X) rfl HO6.out aY caY Y rfl HCyb.out ?c2 ?c3 ?_)
      case c2 => omega
      case c3 => exact HB6.out.size
      intro v' w7 ho7 hg7 hat7
      obtain ⟨ao7, cap7, rfl⟩ := ownP_shape ho7
      have hb7 := HB6.out.grown hg7 HB6.out.size (fun k hk => (HO6.out.lt k hk).1)
      rw [HSL.out, ← cls_append, HAP.out] at ho7
      rw [HSL.out]
      have HK := Lib.hid (clsAt_own ho7 rfl)
      replace HB := carry hb7 HB
      replace HM := carry hb7 HM
      replace HM1 := carry hb7 HM1
      replace HM2 := carry hb7 HM2
      replace HCa := carry hb7 HCa
      clear ho7 hg7 hat7 HB6 HO6 HCyb hb7 HA5 HBS HCx HCy
      have hJn : X.length + Y.length ≤ 40000 := by omega
      have hJm : Y.length + X.length ≤ 40000 := by omega
      have hA1 : A.length ≤ 1000000 := by omega
      have CS1 := Lib.hid (fun c1 c2 => sameCells9_yes A A.length rfl _ _ c1 c2 hA1 HK.out HCa.out)
      go_wp2_with fail
      with_reducible refine (CS1.out _ _).mono ?_
      rintro e w8 ⟨rfl, hbq⟩
      replace HB := carry hbq HB
      replace HM := carry hbq HM
      replace HM1 := carry hbq HM1
      replace HM2 := carry hbq HM2
      replace HCa := carry hbq HCa
      clear hbq CS1
      clear HK
      have CJ1 := Lib.hid (joinX15 HM1.out HM2.out (by omega))
      unfold JoinX at CJ1
      rw [HJC.out.1] at CJ1
      go_wp2_with fail
      with_reducible refine (CJ1.out).mono ?_
      rintro e w9 ⟨bj1, rfl, hm, hbq⟩
      replace HB := carry hbq HB
      replace HM := carry hbq HM
      replace HM1 := carry hbq HM1
      replace HM2 := carry hbq HM2
      replace HCa := carry hbq HCa
      have HJ1 := Lib.hid hm
      clear hbq hm CJ1
      have CRj := Lib.hid (rangeX15 HJ1.out)
      unfold RangeR10 at CRj
      go_wp2_with fail
      with_reducible refine (CRj.out).mono ?_
      rintro e wA ⟨aJ, caJ, rfl, hoj, hbq⟩
      replace HB := carry hbq HB
      replace HM := carry hbq HM
      replace HM1 := carry hbq HM1
      replace HM2 := carry hbq HM2
      replace HCa := carry hbq HCa
      have HCj := Lib.hid (clsAt_own hoj rfl)
      clear hbq CRj
      have CS2 := Lib.hid (fun c1 c2 => sameCells9_yes A A.length rfl _ _ c1 c2 hA1 HCj.out HCa.out)
      go_wp2_with fail
      with_reducible refine (CS2.out _ _).mono ?_
      rintro e wB ⟨rfl, hbq⟩
      replace HB := carry hbq HB
      replace HM := carry hbq HM
      replace HM1 := carry hbq HM1
      replace HM2 := carry hbq HM2
      replace HCa := carry hbq HCa
      clear hbq CS2
      clear HCj HJ1
      have CJ2 := Lib.hid (joinX15 HM2.out HM1.out (by omega))
      unfold JoinX at CJ2
      rw [HJC.out.2] at CJ2
      go_wp2_with fail
      with_reducible refine (CJ2.out).mono ?_
      rintro e wC ⟨bj2, rfl, hm, hbq⟩
      replace HB := carry hbq HB
      replace HM := carry hbq HM
      replace HM1 := carry hbq HM1
      replace HM2 := carry hbq HM2
      replace HCa := carry hbq HCa
      have HJ2 := Lib.hid hm
      clear hbq hm CJ2
      have CRk := Lib.hid (rangeX15 HJ2.out)
      unfold RangeR10 at CRk
      go_wp2_with fail
      with_reducible refine (CRk.out).mono ?_
      rintro e wD ⟨aK, caK, rfl, hok, hbq⟩
      replace HB := carry hbq HB
      replace HM := carry hbq HM
      replace HM1 := carry hbq HM1
      replace HM2 := carry hbq HM2
      replace HCa := carry hbq HCa
      have HCk := Lib.hid (clsAt_own hok rfl)
      clear hbq CRk
      have CS3 := Lib.hid (fun c1 c2 => sameCells9_yes A A.length rfl _ _ c1 c2 hA1 HCk.out HCa.out)
      go_wp2_with fail
      with_reducible refine (CS3.out _ _).mono ?_
      rintro e wE ⟨rfl, hbq⟩
      replace HB := carry hbq HB
      replace HM := carry hbq HM
      replace HM1 := carry hbq HM1
      replace HM2 := carry hbq HM2
      replace HCa := carry hbq HCa
      clear hbq CS3
      clear HCk HJ2
      have CL1 := Lib.hid (lenX15 HM1.out)
      go_wp2_with fail
      with_reducible refine (CL1.out).mono ?_
      rintro e wL1 ⟨rfl, rfl⟩
      clear CL1
      have CL2 := Lib.hid (lenX15 HM2.out)
      go_wp2_with fail
      with_reducible refine (CL2.out).mono ?_
      rintro e wL2 ⟨rfl, rfl⟩
      clear CL2
      have hli : ((X.length : Int) + (Y.length : Int)) = (A.length : Int) := by have := HSL.out; omega
      have CL3 := Lib.hid (lenX15 HM.out)
      go_wp2_with fail
      with_reducible refine (CL3.out).mono ?_
      rintro e wL3 ⟨rfl, rfl⟩
      clear CL3
      go_wp2_with fail
      with_reducible refine (CD.out _).mono ?_
      rintro e wF ⟨rfl, hbq⟩
      replace HB := carry hbq HB
      clear hbq
      go_wp2_with fail
      go_ret
      exact ⟨rfl, HB.out⟩

end Go.Proofs.Ythidmgnfdikppaa
