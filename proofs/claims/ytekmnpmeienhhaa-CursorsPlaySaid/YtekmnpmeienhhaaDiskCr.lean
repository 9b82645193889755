/- Layer 5: DiskCrash, walked. -/
import Derived.Test.YtekmnpmeienhhaaDiskY
import Derived.Deep.CutRange
import Derived.BigQuiet
namespace Go.Proofs.Ytekmnpmeienhhaa
set_option linter.unusedVariables false
open Go Go.RowKit Go.Maps

namespace Dk
theorem crash_up (ks : List Int) {D : St} (h : D.up = true) : crash ks D = (0, fall ks D) := by unfold crash; rw [h]; rfl
theorem crash_down (ks : List Int) {D : St} (h : D.up = false) : crash ks D = (51, D) := by unfold crash; rw [h]; rfl
def woke (D : St) : St := { D with up := true, starts := D.starts + 1 }
theorem start_down {D : St} (h : D.up = false) : start D = (0, woke D) := by unfold start; rw [h]; rfl
theorem fall_up (ks : List Int) (D : St) : (fall ks D).up = false := rfl
theorem left_again (f : Fl) (k : Int) (h : f.safe ≤ f.dat.length) : left (left f k) 0 = left f k := by
  have h1 := left_dat f k h
  show Fl.mk _ ((left f k).dat.take ((left f k).safe + min (0 : Int).toNat ((left f k).dat.length - (left f k).safe))) ((left f k).safe + min (0 : Int).toNat ((left f k).dat.length - (left f k).safe)) = _
  have h2 : (left f k).safe + min (0 : Int).toNat ((left f k).dat.length - (left f k).safe) = (left f k).safe := by simp
  rw [h2, ← h1, List.take_length, h1]
theorem cut_again : ∀ (ks : List Int) {L : List Fl}, (∀ f ∈ L, f.safe ≤ f.dat.length) → cut [] (cut ks L) = cut ks L
  | ks, [], _ => by cases ks <;> rfl
  | [], f :: r, h => by
    show left (left f 0) 0 :: cut [] (cut [] r) = left f 0 :: cut [] r
    rw [left_again f 0 (h f (by simp)), cut_again [] (fun g hg => h g (by simp [hg]))]
  | k :: ks, f :: r, h => by
    show left (left f k) 0 :: cut [] (cut ks r) = left f k :: cut ks r
    rw [left_again f k (h f (by simp)), cut_again ks (fun g hg => h g (by simp [hg]))]
/-- A file, what is not safe of it, and what a crash leaves of it. -/
structure CutAt (ks : List Int) (L : List Fl) (i sf lf nn : Nat) (nm dt : List UInt8) : Prop where
  name : (names L).getD i [] = nm
  dat : (dats L).getD i [] = dt
  left : (unsynced L).getD i 0 = (lf : Int)
  now : (dats (cut ks L)).getD i [] = dt.take (sf + nn)
  len : dt.length = sf + lf
  le : nn ≤ lf
  n0 : ¬ i < ks.length → nn = 0
  n1 : i < ks.length → max 0 (min (ks.getD i 0) (lf : Int)) = (nn : Int)
  safe : (get nm (cut ks L)).safe = sf + nn
  small : dt.length ≤ size L
  nlen : nm.length ≤ 16
theorem cutAt_of {ks : List Int} {L : List Fl} (h : OkL L) {i : Nat} (hi : i < L.length) : ∃ sf lf nn nm dt, CutAt ks L i sf lf nn nm dt := by
  have hm : L[i] ∈ L := List.getElem_mem hi
  have hs := h.safe _ hm
  have hz := mem_size h hm
  obtain ⟨_, _, q3⟩ := at5 h hi
  have hc := cut_at ks L i hi
  have hcl : i < (cut ks L).length := by rw [cut_len]; exact hi
  rw [show (cut ks L).getD i fl0 = (cut ks L)[i] from by simp [List.getD, hcl], show L.getD i fl0 = L[i] from by simp [List.getD, hi]] at hc
  have hok := h.cut ks
  obtain ⟨w1, _, _⟩ := at5 hok hcl
  rw [hc, left_name] at w1
  refine ⟨L[i].safe, L[i].dat.length - L[i].safe, min (ks.getD i 0).toNat (L[i].dat.length - L[i].safe), L[i].name, L[i].dat, ⟨?_, ?_, ?_, ?_, by omega, Nat.min_le_right _ _, ?_, ?_, ?_, hz, q3⟩⟩
  · simp [names, List.getD, hi]
  · simp [dats, List.getD, hi]
  · simp [unsynced, List.getD, hi]; omega
  · simp [dats, List.getD, hcl, hc, Dk.left]
  · intro hn
    rw [show ks.getD i 0 = 0 from by simp [List.getD, List.getElem?_eq_none (Nat.le_of_not_lt hn)]]
    simp
  · intro _
    generalize ks.getD i 0 = k
    omega
  · rw [w1]; rfl
end Dk
/-- Rows that a law keeps: of texts, of numbers; they lie in blocks of P. -/
def TsK (P : Nat → Prop) (w : World) (ao : Option Addr) (l : List (List UInt8)) : Prop := TsA5 w ao l ∧ ∀ a, l ≠ [] → ao = some a → P a.block
def NsK (P : Nat → Prop) (w : World) (ao : Option Addr) (l : List Int) : Prop := NsA5 w ao l ∧ ∀ a, l ≠ [] → ao = some a → P a.block
section
variable {P P' A : Nat → Prop} {w w' : World} {ao : Option Addr}
theorem TsK.wr {l : List (List UInt8)} (h : TsK P w ao l) (hw : Wr A w w') (hA : ∀ q, P q → ¬ A q) : TsK P w' ao l := ⟨h.1.wr hw (fun a hn ha => hA _ (h.2 a hn ha)), h.2⟩
theorem NsK.wr {l : List Int} (h : NsK P w ao l) (hw : Wr A w w') (hA : ∀ q, P q → ¬ A q) : NsK P w' ao l := ⟨h.1.wr hw (fun a hn ha => hA _ (h.2 a hn ha)), h.2⟩
theorem TsK.below {l : List (List UInt8)} (h : TsK P w ao l) (hb : Below w.heap.size w w') : TsK P w' ao l := ⟨h.1.below hb, h.2⟩
theorem NsK.below {l : List Int} (h : NsK P w ao l) (hb : Below w.heap.size w w') : NsK P w' ao l := ⟨h.1.below hb, h.2⟩
theorem TsK.mono {l : List (List UInt8)} (h : TsK P w ao l) (hP : ∀ q, P q → P' q) : TsK P' w ao l := ⟨h.1, fun a hn ha => hP _ (h.2 a hn ha)⟩
theorem NsK.mono {l : List Int} (h : NsK P w ao l) (hP : ∀ q, P q → P' q) : NsK P' w ao l := ⟨h.1, fun a hn ha => hP _ (h.2 a hn ha)⟩
end
theorem tsK_row {w : World} {B : Nat} {ao : Option Addr} {cap : Nat} {l : List (List UInt8)} (h : w.ownsRow B 9 1 (.slice ao l.length cap) l.length (txs5 l)) : TsK (fun q => B ≤ q ∧ q < w.heap.size) w ao l :=
  ⟨tsA_row5 h, fun a hn ha => by have := h.lt a.block (by rw [ha]; rfl); exact this⟩
theorem nsK_row {w : World} {B : Nat} {ao : Option Addr} {cap : Nat} {l : List Int} (h : w.ownsRow B 3 1 (.slice ao l.length cap) l.length (ints5 l)) : NsK (fun q => B ≤ q ∧ q < w.heap.size) w ao l :=
  ⟨fun hn => by
    have hl : 0 < l.length := List.length_pos_iff.2 hn
    obtain ⟨g, e, _, _, _⟩ := row_at5 h hl
    refine ⟨g, 0, e, fun j hj => ?_⟩
    obtain ⟨g', e', _, _, hc⟩ := row_at5 h hj
    rw [e] at e'
    injection e' with e'
    injection e' with e'
    subst e'
    rw [Nat.zero_add, hc]
    simp [ints5, List.getD, hj], fun a hn ha => by have := h.lt a.block (by rw [ha]; rfl); exact this⟩
/-- What the law of crashes keeps. -/
structure Cr5 (P : Nat → Prop) (L : List Dk.Fl) (ks : List Int) (no lo ao ko : Option Addr) (w : World) : Prop where
  n : TsK P w no (Dk.names L)
  l : NsK P w lo (Dk.unsynced L)
  a : TsK P w ao (Dk.dats L)
  k : NsK P w ko ks
section
variable {P A : Nat → Prop} {L : List Dk.Fl} {ks : List Int} {no lo ao ko : Option Addr} {w w' : World}
theorem Cr5.wr (h : Cr5 P L ks no lo ao ko w) (hw : Wr A w w') (hA : ∀ q, P q → ¬ A q) : Cr5 P L ks no lo ao ko w' := ⟨h.n.wr hw hA, h.l.wr hw hA, h.a.wr hw hA, h.k.wr hw hA⟩
theorem Cr5.below (h : Cr5 P L ks no lo ao ko w) (hb : Below w.heap.size w w') : Cr5 P L ks no lo ao ko w' := ⟨h.n.below hb, h.l.below hb, h.a.below hb, h.k.below hb⟩
end
set_option maxRecDepth 100000 in
set_option maxHeartbeats 8000000 in
theorem diskCrash_calls (W : World) (room : Int) (hroom : (Lit.int .u16 room).wf = true) (v : Value) (hv : URas W v) (u : Value) (hu : UNs5 W u) : Calls Try.prog 5 #[.int .u16 room, v, u] W fun e w' => e = .returned (.bool true) ∧ Below W.heap.size W w' := by
  obtain ⟨L, ao0, cap0, rfl, hI, hA⟩ := hv
  obtain ⟨ks, ko, kc, rfl, hKI, hKA⟩ := hu
  have hr0 : 0 ≤ room ∧ room ≤ 65535 := by
    simp [Lit.wf, IntKind.min, IntKind.max, IntKind.signed, IntKind.bits] at hroom
    omega
  obtain ⟨n, hn⟩ : ∃ n : Nat, (1 : Int) + room % 4000 = (n : Int) ∧ 1 ≤ n ∧ n ≤ 4000 := ⟨(1 + room % 4000).toNat, by omega, by omega, by omega⟩
  have CG := Lib.hid (great5 L ao0 cap0 W hI hA)
  have HK0 := Lib.hid (show NsK (fun q => q < W.heap.size) W ko ks from ⟨hKA, fun a hn ha => by
    obtain ⟨g, off, e, hc⟩ := hKA hn
    rw [ha] at e
    cases e
    exact cell_lt5 (hc 0 (List.length_pos_iff.2 hn))⟩)
  have CP := Lib.hid (fun hF => played5 L ao0 cap0 W room n hI hF hA hr0 hn)
  have HKI := Lib.hid hKI
  have hkn := hKI.n
  have CD := Lib.hid does5
  have HAR := Lib.hid (show ∀ m, (Dk.acts L (Dk.new m)).starts ≤ L.length from fun m => by have h1 := (Dk.acts_kin L (Dk.new m)).2; have h2 : (Dk.new m).starts = 0 := rfl; omega)
  clear hI hA hroom hn hKI hKA
  go_enter Try.func5, Try.ntmps5
  go_wp2_with fail
  with_reducible refine CG.out.mono ?_
  rintro e w1 (⟨rfl, rfl⟩ | ⟨rfl, hF, rfl⟩)
  · go_wp2_with fail
    go_ret
    exact ⟨rfl, Below.refl _ _⟩
  by_cases hk100 : 100 < ks.length
  · have d1 : decide ((100 : Int) < (ks.length : Int)) = true := by simp; omega
    go_wp2_with fail
    go_ret
    exact ⟨rfl, Below.refl _ _⟩
  have d1 : decide ((100 : Int) < (ks.length : Int)) = false := by simp; omega
  have hL := hF.n
  have HKS := Lib.hid (HKI.out.ks (by omega))
  replace CP := Lib.hid (CP.out hF)
  have HST := Lib.hid (Nat.le_trans (HAR.out n) hL)
  clear hF CG HAR HKI
  go_wp2_with fail
  with_reducible refine CP.out.mono ?_
  rintro e w1 ⟨d, rfl, hd, hb, hd0⟩
  have HD := Lib.hid hd
  have HB := Lib.hid hb
  clear hd hb CP hd0
  generalize Dk.acts L (Dk.new n) = D at *
  obtain ⟨D1, hD1⟩ : ∃ D1, D1 = if D.up then D else Dk.woke D := ⟨_, rfl⟩
  go_upto_region 6 with fail
  go_cut [33] from 26 to 33 (fun c wx => c = .bool false ∧ Hid (DkX (fun _ => False) W.heap.size d D1 wx ∧ Below W.heap.size W wx))
  case first =>
    have CU := Lib.hid (upX HD.out)
    cases hup : D.up with
    | true =>
      rw [hup] at CU hD1
      have HD1 := Lib.hid (show DkX (fun _ => False) W.heap.size d D1 w1 from by rw [hD1]; exact HD.out)
      clear hD1
      go_wp2_with fail
      with_reducible refine CU.out.mono ?_
      rintro e w2 ⟨rfl, rfl⟩
      go_wp2_with fail
      go_meet
      case rel => exact ⟨rfl, Lib.hid ⟨HD1.out, HB.out⟩⟩
    | false =>
      rw [hup] at CU hD1
      have CS := startX HD.out (fun q hq => hq.elim) HB.out.size (by have := HST.out; omega)
      rw [Dk.start_down hup, show Dk.woke D = D1 from hD1.symm] at CS
      have CS := Lib.hid CS
      clear hD1
      go_wp2_with fail
      with_reducible refine CU.out.mono ?_
      rintro e w2 ⟨rfl, rfl⟩
      go_wp2_with fail
      with_reducible refine CS.out.mono ?_
      rintro e w2 ⟨rfl, hd, hw⟩
      have HQ := Lib.hid (show DkX (fun _ => False) W.heap.size d D1 w2 ∧ Below W.heap.size W w2 from ⟨hd, HB.out.trans (hw.below (fun q hq => hq.1) HB.out.size)⟩)
      clear hd hw CS
      go_wp2_with fail
      go_meet
      case rel => exact ⟨rfl, HQ⟩
  case rest =>
  obtain ⟨rfl, HQ⟩ := hcut
  replace HD := Lib.hid HQ.out.1
  replace HB := Lib.hid HQ.out.2
  have HU := Lib.hid (show D1.up = true from by rw [hD1]; split <;> first | assumption | rfl)
  replace HST := Lib.hid (show D1.starts ≤ 200 from by rw [hD1]; have h1 := HST.out; split <;> simp [Dk.woke] <;> omega)
  have HO := Lib.hid HD.out.ok
  clear hD1 HQ
  have hfew := HO.out.few
  have C1 := Lib.hid (namesX HD.out)
  have HNL := Lib.hid (show (Dk.names D1.L).length = D1.L.length from by simp [Dk.names])
  have HUL := Lib.hid (show (Dk.unsynced D1.L).length = D1.L.length from by simp [Dk.unsynced])
  have HAL := Lib.hid (show (Dk.dats D1.L).length = D1.L.length from by simp [Dk.dats])
  go_wp2_with fail
  with_reducible refine C1.out.mono ?_
  rintro e w1 ⟨no, nc, rfl, hr, hb⟩
  have HN1 := Lib.hid (tsK_row hr)
  have HB1 := Lib.hid hb
  have C2 := Lib.hid (unsyncedX (HD.out.below hb))
  clear hr hb C1
  go_wp2_with fail
  with_reducible refine C2.out.mono ?_
  rintro e w2 ⟨lo, lc, rfl, hr, hb⟩
  have HN2 := Lib.hid (HN1.out.below hb)
  have HL2 := Lib.hid (nsK_row hr)
  have HB2 := Lib.hid (below_step HB1.out hb)
  have HZ2 := Lib.hid hb.size
  have C3 := Lib.hid (texts5 (HD.out.below HB2.out) HU.out)
  clear hr hb C2 HN1
  go_wp2_with fail
  with_reducible refine C3.out.mono ?_
  rintro e w3 ⟨wo, wcp, rfl, hr, hb⟩
  have hA := tsK_row hr
  have HC := Lib.hid (show Cr5 (fun q => q < W.heap.size ∨ (wc.heap.size ≤ q ∧ q < w3.heap.size)) D1.L ks no lo wo ko w3 from
    ⟨(HN2.out.below hb).mono (fun q hq => .inr (by have := hb.size; have := HZ2.out; have := HB2.out.size; have := HB1.out.size; omega)), (HL2.out.below hb).mono (fun q hq => .inr (by have := hb.size; have := HB2.out.size; have := HB1.out.size; omega)), hA.mono (fun q hq => .inr (by have := hb.size; have := HB2.out.size; have := HB1.out.size; omega)),
     ((HK0.out.below HB.out).below (below_step HB2.out hb)).mono (fun q hq => .inl hq)⟩)
  have HD3 := Lib.hid (HD.out.newrow (below_step HB2.out hb))
  have HB3 := Lib.hid (HB.out.trans ((below_step HB2.out hb).mono HB.out.size))
  clear hA hr hb C3 HN2 HL2 HD
  rw [HNL.out, HUL.out, HAL.out]
  have CC := crashX HD3.out (fun q hq => by rcases hq with h | h; exact h.elim; exact h.2) HB3.out.size ks ko kc HKS.out HC.out.k.1 (fun a hn ha => (HC.out.k.2 a hn ha).elim .inr (fun h => .inl (.inr h)))
  rw [Dk.crash_up ks HU.out] at CC
  have CC := Lib.hid CC
  have e1 : ((D1.L.length : Int) != (D1.L.length : Int)) = false := by simp
  go_wp2_with fail
  with_reducible refine CC.out.mono ?_
  rintro e w4 ⟨rfl, hd, hw⟩
  have HC4 := Lib.hid (HC.out.wr hw (fun q hq ha => hq.elim (fun h => absurd ha.1 (by omega)) (fun h => ha.2 (.inr h))))
  have HD4 := Lib.hid hd
  have HB4 := Lib.hid (HB3.out.trans (hw.below (fun q hq => hq.1) HB3.out.size))
  have HS4 := Lib.hid hw.size
  have CU := Lib.hid (upX hd)
  clear hd hw CC HC HD3 HB3 e1
  go_wp2_with fail
  with_reducible refine CU.out.mono ?_
  rintro e w5 ⟨rfl, rfl⟩
  have CC := crashX HD4.out (fun q hq => by rcases hq with h | h; exact h.elim; exact Nat.lt_of_lt_of_le h.2 HS4.out) HB4.out.size ks ko kc HKS.out HC4.out.k.1 (fun a hn ha => (HC4.out.k.2 a hn ha).elim .inr (fun h => .inl (.inr h)))
  rw [Dk.crash_down ks (Dk.fall_up ks D1)] at CC
  have CC := Lib.hid CC
  go_wp2_with fail
  with_reducible refine CC.out.mono ?_
  rintro e w5 ⟨rfl, hd, hw⟩
  have HC5 := Lib.hid (HC4.out.wr hw (fun q hq ha => hq.elim (fun h => absurd ha.1 (by omega)) (fun h => ha.2 (.inr h))))
  have HD5 := Lib.hid hd
  have HB5 := Lib.hid (HB4.out.trans (hw.below (fun q hq => hq.1) HB4.out.size))
  have HS5 := Lib.hid (Nat.le_trans HS4.out hw.size)
  have CC := startX hd (fun q hq => by rcases hq with h | h; exact h.elim; exact Nat.lt_of_lt_of_le h.2 HS5.out) HB5.out.size (by have := HST.out; show D1.starts ≤ _; omega)
  rw [Dk.start_down (Dk.fall_up ks D1)] at CC
  have CC := Lib.hid CC
  clear hd hw CU HC4 HD4 HB4 HS4
  go_wp2_with fail
  with_reducible refine CC.out.mono ?_
  rintro e w6 ⟨rfl, hd, hw⟩
  have HC6 := Lib.hid (HC5.out.wr hw (fun q hq ha => hq.elim (fun h => absurd ha.1 (by omega)) (fun h => ha.2 (.inr h))))
  have HD6 := Lib.hid hd
  have HB6 := Lib.hid (HB5.out.trans (hw.below (fun q hq => hq.1) HB5.out.size))
  have HS6 := Lib.hid (Nat.le_trans HS5.out hw.size)
  have C1 := Lib.hid (texts5 hd rfl)
  clear hd hw CC HC5 HD5 HB5 HS5
  go_wp2_with fail
  with_reducible refine C1.out.mono ?_
  rintro e w7 ⟨yo, yc, rfl, hr, hb⟩
  have HY := Lib.hid (tsK_row hr)
  have HC7 := Lib.hid (HC6.out.below hb)
  have HD7 := Lib.hid (HD6.out.newrow hb)
  have HB7 := Lib.hid (below_step HB6.out hb)
  have HS7 := Lib.hid (Nat.le_trans HS6.out hb.size)
  have HLN := Lib.hid (show (Dk.dats (Dk.woke (Dk.fall ks D1)).L).length = D1.L.length from by simp [Dk.dats, Dk.woke, Dk.fall, Dk.cut_len])
  have HLM := Lib.hid (show Dk.names (Dk.woke (Dk.fall ks D1)).L = Dk.names D1.L from Dk.cut_names ks D1.L)
  have C1 := Lib.hid (namesX HD7.out)
  have HL7 := Lib.hid hb.size
  clear hr hb HC6 HD6 HB6 HS6
  rw [HLN.out]
  go_wp2_with fail
  with_reducible refine C1.out.mono ?_
  rintro e w8 ⟨zo, zc, rfl, hr, hb⟩
  rw [HLM.out] at hr ⊢
  have HY8 := Lib.hid (HY.out.below hb)
  have HC8 := Lib.hid (HC7.out.below hb)
  have HD8 := Lib.hid (HD7.out.below hb)
  have HB8 := Lib.hid (below_step HB7.out hb)
  have HS8 := Lib.hid (Nat.le_trans HS7.out hb.size)
  have HL8 := Lib.hid hb.size
  have CS := sameTexts5_any (Dk.names D1.L) (Dk.names D1.L) (by rw [HNL.out]; omega) (by rw [HNL.out]; omega) zo no zc nc w8 (tsA_row5 hr) HC8.out.n.1
  rw [show decide (Dk.names D1.L = Dk.names D1.L) = true from by simp] at CS
  rw [HNL.out] at CS
  have CS := Lib.hid CS
  rw [HNL.out]
  clear hr hb C1 HC7 HB7 HS7 HY HD7
  have e1 : ((D1.L.length : Int) != (D1.L.length : Int)) = false := by simp
  go_wp2_with fail
  with_reducible refine CS.out.mono ?_
  rintro e w9 ⟨rfl, hb⟩
  have HY9 := Lib.hid (HY8.out.below hb)
  have HC9 := Lib.hid (HC8.out.below hb)
  have HD9 := Lib.hid (HD8.out.below hb)
  have HB9 := Lib.hid (below_step HB8.out hb)
  have HS9 := Lib.hid (Nat.le_trans HS8.out hb.size)
  have HL9 := Lib.hid (Nat.le_trans HL8.out hb.size)
  clear hb CS HY8 HC8 HD8 HB8 HS8 HL8
  go_wp2_with fail
  go_loopw [12] (fun j wq => ∃ m : Nat, m ≤ D1.L.length ∧ j = .int .i64 m ∧ Hid (Below w9.heap.size w9 wq)) (fun j _ => D1.L.length - (intOf j).toNat)
  case atStart => exact ⟨0, Nat.zero_le _, rfl, Lib.hid (Below.refl _ _)⟩
  case round =>
    rename_i wr
    obtain ⟨m, hm, rfl, HQ⟩ := hrel
    by_cases hmt : m < D1.L.length
    · have d2 : decide (m < D1.L.length) = true := by simpa using hmt
      obtain ⟨sf, lf, nn, nm, dt, hc⟩ := Dk.cutAt_of (ks := ks) HO.out.l hmt
      have hne : D1.L ≠ [] := fun e => by rw [e] at hmt; simp at hmt
      have hsm := Nat.le_trans hc.small (Nat.le_trans HO.out.room HO.out.most)
      have hdl := hc.len
      have hnl := hc.le
      obtain ⟨st, hst⟩ : ∃ x, x = sf + nn := ⟨_, rfl⟩
      have HCN := Lib.hid (show (Dk.dats (Dk.cut ks D1.L)).getD m [] = dt.take st from by rw [hst]; exact hc.now)
      have HCS := Lib.hid (show (Dk.get nm (Dk.cut ks D1.L)).safe = st from by rw [hst]; exact hc.safe)
      have HCA := Lib.hid hc
      clear hc
      obtain ⟨g1, o1, rfl, -⟩ := HC9.out.n.1 (by simpa [Dk.names] using hne)
      obtain ⟨g2, o2, rfl, -⟩ := HC9.out.l.1 (by simpa [Dk.unsynced] using hne)
      obtain ⟨g3, o3, rfl, -⟩ := HC9.out.a.1 (by simpa [Dk.dats] using hne)
      obtain ⟨g4, o4, rfl, -⟩ := HY9.out.1 (fun e => by rw [e] at HLN; have h1 := HLN.out; simp at h1; omega)
      by_cases hmk : m < ks.length
      · have d4 : decide ((m : Int) < (ks.length : Int)) = true := by simp; omega
        have d4' : decide (m < ks.length) = true := by simp; omega
        obtain ⟨g5, o5, rfl, hc5⟩ := (HC9.out.k.1.below HQ.out) (fun e => by rw [e] at hmk; simp at hmk)
        obtain ⟨_, _, r2, hc2⟩ := (HC9.out.l.1.below HQ.out) (by simpa [Dk.unsynced] using hne)
        cases r2
        have k2 := hc2 m (by rw [HUL.out]; exact hmt)
        rw [HCA.out.left] at k2
        have k5 := hc5 m hmk
        have e4 := HCA.out.n1 hmk
        have hi1 : (0 : Int) ≤ (m : Int) := by omega
        have hi2 : (m : Int) < (D1.L.length : Int) := by omega
        generalize ks.getD m 0 = kk at k5 e4
        clear hc5 hc2
        go_wp2_with fail
        go_quiet (fail)
        go_wp2_with fail
        have HQ2 := Lib.hid (below_drewN HQ.out nq)
        obtain ⟨wq, hwq⟩ : ∃ x, x = wr.drewN nq := ⟨_, rfl⟩
        rw [← hwq] at HQ2 ⊢
        clear hwq e4 k2 k5 HQ hi1 hi2
        obtain ⟨_, _, r1, hc1⟩ := (HC9.out.n.1.below HQ2.out) (by simpa [Dk.names] using hne)
        obtain ⟨_, _, r2, hc2⟩ := (HC9.out.l.1.below HQ2.out) (by simpa [Dk.unsynced] using hne)
        obtain ⟨_, _, r3, hc3⟩ := (HC9.out.a.1.below HQ2.out) (by simpa [Dk.dats] using hne)
        obtain ⟨_, _, r4, hc4⟩ := (HY9.out.1.below HQ2.out) (fun e => by rw [e] at HLN; have h1 := HLN.out; simp at h1; omega)
        cases r1; cases r2; cases r3; cases r4
        have k1 := hc1 m (by rw [HNL.out]; exact hmt)
        have k2 := hc2 m (by rw [HUL.out]; exact hmt)
        have k3 := hc3 m (by rw [HAL.out]; exact hmt)
        have k4 := hc4 m (by rw [HLN.out]; exact hmt)
        rw [HCA.out.name] at k1
        rw [HCA.out.left] at k2
        rw [HCA.out.dat] at k3
        rw [show (Dk.dats (Dk.woke (Dk.fall ks D1)).L).getD m [] = dt.take st from HCN.out] at k4
        have hi1 : (0 : Int) ≤ (m : Int) := by omega
        have hi2 : (m : Int) < (D1.L.length : Int) := by omega
        have CY := Lib.hid (show ∀ q, Calls Try.prog 23 #[.pointer (some ⟨d, 0, none⟩), .string (S nm)] (wq.drewN q) fun e w' => e = .returned (.int .i64 (st : Int)) ∧ ∃ j, w' = wq.drewN j from fun q => by
          have h1 := syncedX ((HD9.out.below HQ2.out).below (below_drewN (Below.refl _ _) q)) nm (by have := HCA.out.nlen; omega)
          rw [show (Dk.get nm (Dk.woke (Dk.fall ks D1)).L).safe = st from HCS.out] at h1
          exact h1.mono fun e w' h => ⟨h.1, q, h.2.symm⟩)
        have hl4 : min st dt.length = st := by omega
        have hse : ((st : Int) != (st : Int)) = false := by simp
        have e2 : IntKind.i64.wrap ((dt.length : Int) - (lf : Int)) = (sf : Int) := by rw [IntWalk.i64_in _ (by omega)]; omega
        have d3 : decide ((dt.length : Int) < (lf : Int)) = false := by simp; omega
        have d3' : decide (dt.length < lf) = false := by simp; omega
        have q2 : ((0 : Int) ≤ (lf : Int)) := by omega
        have e3 : IntKind.i64.wrap ((sf : Int) + (nn : Int)) = (st : Int) := by rw [IntWalk.i64_in _ (by omega)]; omega
        have RP := run_piece_to (P := Try.prog) 9 Try.underlying9 dt (st : Int) st rfl (by omega)
        clear hc1 hc2 hc3 hc4 hne hm hdl hst
        go_wp2_with fail
        go_quiet ((go_at_call 23; exact CY.out _))
        clear e2 e3 RP
        go_wp2_with fail
        go_roundw
        case rel => exact ⟨m + 1, by omega, by go_num, Lib.hid (below_drewN HQ2.out _)⟩
        case measure => simp [intOf]; omega
      · have d4 : decide ((m : Int) < (ks.length : Int)) = false := by simp; omega
        have d4' : decide (m < ks.length) = false := by simp; omega
        have hn0 := HCA.out.n0 hmk
        go_wp2_with fail
        obtain ⟨_, _, r1, hc1⟩ := (HC9.out.n.1.below HQ.out) (by simpa [Dk.names] using hne)
        obtain ⟨_, _, r2, hc2⟩ := (HC9.out.l.1.below HQ.out) (by simpa [Dk.unsynced] using hne)
        obtain ⟨_, _, r3, hc3⟩ := (HC9.out.a.1.below HQ.out) (by simpa [Dk.dats] using hne)
        obtain ⟨_, _, r4, hc4⟩ := (HY9.out.1.below HQ.out) (fun e => by rw [e] at HLN; have h1 := HLN.out; simp at h1; omega)
        cases r1; cases r2; cases r3; cases r4
        have k1 := hc1 m (by rw [HNL.out]; exact hmt)
        have k2 := hc2 m (by rw [HUL.out]; exact hmt)
        have k3 := hc3 m (by rw [HAL.out]; exact hmt)
        have k4 := hc4 m (by rw [HLN.out]; exact hmt)
        rw [HCA.out.name] at k1
        rw [HCA.out.left] at k2
        rw [HCA.out.dat] at k3
        rw [show (Dk.dats (Dk.woke (Dk.fall ks D1)).L).getD m [] = dt.take st from HCN.out] at k4
        have hi1 : (0 : Int) ≤ (m : Int) := by omega
        have hi2 : (m : Int) < (D1.L.length : Int) := by omega
        have CY := Lib.hid (show ∀ q, Calls Try.prog 23 #[.pointer (some ⟨d, 0, none⟩), .string (S nm)] (wr.drewN q) fun e w' => e = .returned (.int .i64 (st : Int)) ∧ ∃ j, w' = wr.drewN j from fun q => by
          have h1 := syncedX ((HD9.out.below HQ.out).below (below_drewN (Below.refl _ _) q)) nm (by have := HCA.out.nlen; omega)
          rw [show (Dk.get nm (Dk.woke (Dk.fall ks D1)).L).safe = st from HCS.out] at h1
          exact h1.mono fun e w' h => ⟨h.1, q, h.2.symm⟩)
        have hl4 : min st dt.length = st := by omega
        have hse : ((st : Int) != (st : Int)) = false := by simp
        have e2 : IntKind.i64.wrap ((dt.length : Int) - (lf : Int)) = (sf : Int) := by rw [IntWalk.i64_in _ (by omega)]; omega
        have d3 : decide ((dt.length : Int) < (lf : Int)) = false := by simp; omega
        have d3' : decide (dt.length < lf) = false := by simp; omega
        have q2 : ((0 : Int) ≤ (lf : Int)) := by omega
        have e3 : IntKind.i64.wrap ((sf : Int) + 0) = (st : Int) := by rw [IntWalk.i64_in _ (by omega)]; omega
        have e3z : IntKind.i64.wrap (sf : Int) = (st : Int) := by rw [IntWalk.i64_in _ (by omega)]; omega
        have RP := run_piece_to (P := Try.prog) 9 Try.underlying9 dt (st : Int) st rfl (by omega)
        clear hc1 hc2 hc3 hc4 hne hm hdl hst
        go_wp2_with fail
        go_quiet ((go_at_call 23; exact CY.out _))
        clear e2 e3 RP e3z
        go_wp2_with fail
        go_roundw
        case rel => exact ⟨m + 1, by omega, by go_num, Lib.hid (below_drewN HQ.out _)⟩
        case measure => simp [intOf]; omega
    · have d2 : decide (m < D1.L.length) = false := by simpa using hmt
      have CC := crashX (HD9.out.below HQ.out) (fun q hq => by rcases hq with (h | h) | h; exact h.elim; exact Nat.lt_of_lt_of_le h.2 (Nat.le_trans HS9.out HQ.out.size); exact Nat.lt_of_lt_of_le h.2 (Nat.le_trans HL9.out HQ.out.size)) (below_step HB9.out HQ.out).size [] none 0 ⟨by simp, by simp⟩ (fun h => absurd rfl h) (fun a hn _ => absurd rfl hn)
      rw [Dk.crash_up [] rfl] at CC
      have CC := Lib.hid (show Calls Try.prog 37 #[.pointer (some ⟨d, 0, none⟩), .slice none 0 0] wr _ from CC)
      have HB10 := Lib.hid (below_step HB9.out HQ.out)
      have HS10 := Lib.hid (Nat.le_trans HS9.out HQ.out.size)
      have HL10 := Lib.hid (Nat.le_trans HL9.out HQ.out.size)
      have HY10 := Lib.hid (HY9.out.below HQ.out)
      go_wp2_with fail
      with_reducible refine CC.out.mono ?_
      rintro e w11 ⟨rfl, hd, hw⟩
      have HY11 := Lib.hid (HY10.out.wr hw (fun q hq ha => ha.2 (.inr hq)))
      have HB11 := Lib.hid (HB10.out.trans (hw.below (fun q hq => hq.1) HB10.out.size))
      have HS11 := Lib.hid (Nat.le_trans HS10.out hw.size)
      have HL11 := Lib.hid (Nat.le_trans HL10.out hw.size)
      have CC := startX hd (fun q hq => by rcases hq with (h | h) | h; exact h.elim; exact Nat.lt_of_lt_of_le h.2 HS11.out; exact Nat.lt_of_lt_of_le h.2 HL11.out) HB11.out.size (by have := HST.out; show D1.starts + 1 ≤ _; omega)
      rw [Dk.start_down (Dk.fall_up [] _)] at CC
      have CC := Lib.hid CC
      clear hd hw HY10 HB10 HS10 HL10
      go_wp2_with fail
      with_reducible refine CC.out.mono ?_
      rintro e w12 ⟨rfl, hd, hw⟩
      have HY12 := Lib.hid (HY11.out.wr hw (fun q hq ha => ha.2 (.inr hq)))
      have HB12 := Lib.hid (HB11.out.trans (hw.below (fun q hq => hq.1) HB11.out.size))
      have CT := texts5 hd rfl
      have hagain : (Dk.woke (Dk.fall [] (Dk.woke (Dk.fall ks D1)))).L = Dk.cut ks D1.L := Dk.cut_again ks HO.out.l.safe
      rw [hagain] at CT
      have CT := Lib.hid CT
      clear hd hw CC HY11 HB11 HS11 HL11 hagain
      go_wp2_with fail
      with_reducible refine CT.out.mono ?_
      rintro e w13 ⟨xo, xc, rfl, hr, hb⟩
      have HB13 := Lib.hid (below_step HB12.out hb)
      have hlc : (Dk.dats (Dk.cut ks D1.L)).length = D1.L.length := by simp [Dk.dats, Dk.cut_len]
      have CS := sameTexts5_any (Dk.dats (Dk.cut ks D1.L)) (Dk.dats (Dk.cut ks D1.L)) (by omega) (by omega) xo yo xc yc w13 (tsA_row5 hr) ((HY12.out.below hb).1)
      rw [show decide (Dk.dats (Dk.cut ks D1.L) = Dk.dats (Dk.cut ks D1.L)) = true from by simp, hlc] at CS
      have CS := Lib.hid CS
      rw [hlc]
      clear hr hb CT HY12 HB12 hlc
      go_wp2_with fail
      with_reducible refine CS.out.mono ?_
      rintro e w14 ⟨rfl, hb⟩
      have HB14 := Lib.hid (below_step HB13.out hb)
      clear hb CS
      go_wp2_with fail
      with_reducible refine (CD.out _).mono ?_
      rintro e w15 ⟨rfl, hb⟩
      have HB15 := Lib.hid (below_step HB14.out hb)
      clear hb
      go_wp2_with fail
      go_ret
      exact ⟨rfl, HB15.out⟩

end Go.Proofs.Ytekmnpmeienhhaa
