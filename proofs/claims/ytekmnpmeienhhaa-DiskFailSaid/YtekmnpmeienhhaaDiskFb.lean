/- Layer 5: begun. -/
import Derived.Test.YtekmnpmeienhhaaDiskFa
namespace Go.Proofs.Ytekmnpmeienhhaa
set_option linter.unusedVariables false
open Go Go.RowKit Go.Maps

/-- Of each text a beginning. -/
def Beg5 (now dt : List (List UInt8)) : Prop := ∀ i, i < now.length → ∃ m, m ≤ (dt.getD i []).length ∧ now.getD i [] = (dt.getD i []).take m
theorem beg_cut5 {L : List Dk.Fl} (h : Dk.OkL L) (ks : List Int) : Beg5 (Dk.dats (Dk.cut ks L)) (Dk.dats L) := fun i hi => by
  have hi2 : i < L.length := by simpa [Dk.dats, Dk.cut_len] using hi
  obtain ⟨sf, lf, nn, nm, dt, hc⟩ := Dk.cutAt_of (ks := ks) h hi2
  refine ⟨sf + nn, ?_, ?_⟩
  · rw [hc.dat, hc.len]; have := hc.le; omega
  · rw [hc.now, hc.dat]
set_option maxRecDepth 100000 in
set_option maxHeartbeats 4000000 in
theorem begun5 {X : Nat → Prop} {B d : Nat} {D : Dk.St} {w : World} (h : DkX X B d D w) (hup : D.up = true) (no to_ : Option Addr) (nc tc : Nat) (ns dt : List (List UInt8)) (hns : ns = Dk.names D.L) (hdl : dt.length = D.L.length) (hsm : ∀ s ∈ dt, s.length ≤ 1048576)
    (hn : TsA5 w no ns) (ht : TsA5 w to_ dt) (hbeg : Beg5 (Dk.dats D.L) dt) : Calls Try.prog 40 #[.pointer (some ⟨d, 0, none⟩), .slice no D.L.length nc, .slice to_ D.L.length tc] w fun e w' => e = .returned (.bool true) ∧ Below w.heap.size w w' := by
  subst hns
  have C1 := Lib.hid (texts5 h hup)
  have HD := Lib.hid h
  have HAL := Lib.hid (show (Dk.dats D.L).length = D.L.length from by simp [Dk.dats])
  have HNL := Lib.hid (show (Dk.names D.L).length = D.L.length from by simp [Dk.names])
  have HDT := Lib.hid hdl
  have HN := Lib.hid hn
  have HT := Lib.hid ht
  have HBG := Lib.hid hbeg
  have HSM := Lib.hid hsm
  have hfew := h.ok.few
  clear h hup hn ht hbeg hsm hdl
  go_enter Try.func40, Try.ntmps40
  go_wp2_with fail
  with_reducible refine C1.out.mono ?_
  rintro e w1 ⟨yo, yc, rfl, hr, hb⟩
  have HY1 := Lib.hid (tsA_row5 hr)
  have HN1 := Lib.hid (HN.out.below hb)
  have HT1 := Lib.hid (HT.out.below hb)
  have HB1 := Lib.hid hb
  have C2 := Lib.hid (namesX (HD.out.below hb))
  rw [HAL.out]
  clear hr hb C1
  go_wp2_with fail
  with_reducible refine C2.out.mono ?_
  rintro e w2 ⟨zo, zc, rfl, hr, hb⟩
  have CS := sameTexts5_any (Dk.names D.L) (Dk.names D.L) (by rw [HNL.out]; omega) (by rw [HNL.out]; omega) zo no zc nc w2 (tsA_row5 hr) (HN1.out.below hb)
  rw [show decide (Dk.names D.L = Dk.names D.L) = true from by simp] at CS
  rw [HNL.out] at CS
  have CS := Lib.hid CS
  have HY2 := Lib.hid (HY1.out.below hb)
  have HT2 := Lib.hid (HT1.out.below hb)
  have HB2 := Lib.hid (below_step HB1.out hb)
  rw [HNL.out]
  clear hr hb C2 HN1 HY1 HT1
  have e1 : ((D.L.length : Int) != (D.L.length : Int)) = false := by simp
  go_wp2_with fail
  with_reducible refine CS.out.mono ?_
  rintro e w3 ⟨rfl, hb⟩
  have HY3 := Lib.hid (HY2.out.below hb)
  have HT3 := Lib.hid (HT2.out.below hb)
  have HB3 := Lib.hid (below_step HB2.out hb)
  clear hb CS HY2 HT2
  go_wp2_with fail
  go_loopw [8] (fun j wq => ∃ m : Nat, m ≤ D.L.length ∧ j = .int .i64 m ∧ Hid (Below w3.heap.size w3 wq)) (fun j _ => D.L.length - (intOf j).toNat)
  case atStart => exact ⟨0, Nat.zero_le _, rfl, Lib.hid (Below.refl _ _)⟩
  case round =>
    rename_i wr
    obtain ⟨m, hm, rfl, HQ⟩ := hrel
    by_cases hmt : m < D.L.length
    · have d2 : decide (m < D.L.length) = true := by simpa using hmt
      have hne : D.L ≠ [] := fun e => by rw [e] at hmt; simp at hmt
      obtain ⟨g3, o3, rfl, hc3⟩ := (HT3.out.below HQ.out) (fun e => by have := HDT.out; rw [e] at this; simp at this; omega)
      obtain ⟨g4, o4, rfl, hc4⟩ := (HY3.out.below HQ.out) (by simpa [Dk.dats] using hne)
      have k3 := hc3 m (by rw [HDT.out]; exact hmt)
      have k4 := hc4 m (by rw [HAL.out]; exact hmt)
      obtain ⟨q, hq, hq2⟩ := HBG.out m (by rw [HAL.out]; exact hmt)
      rw [hq2] at k4
      have hs := HSM.out (dt.getD m []) (by rw [show dt.getD m [] = dt[m]'(by rw [HDT.out]; exact hmt) from by simp [List.getD, show m < dt.length from by rw [HDT.out]; exact hmt]]; exact List.getElem_mem _)
      generalize dt.getD m [] = u at *
      have hi1 : (0 : Int) ≤ (m : Int) := by omega
      have hi2 : (m : Int) < (D.L.length : Int) := by omega
      have hl4 : min q u.length = q := by omega
      have d3 : decide ((u.length : Int) < (q : Int)) = false := by simp; omega
      have d3' : decide (u.length < q) = false := by simp; omega
      have RP := run_piece_to (P := Try.prog) 9 Try.underlying9 u (q : Int) q rfl hq
      clear hc3 hc4 hne hm hq2
      go_wp2_with fail
      go_quiet (fail)
      clear RP
      go_wp2_with fail
      go_roundw
      case rel => exact ⟨m + 1, by omega, by go_num, Lib.hid (below_drewN HQ.out _)⟩
      case measure => simp [intOf]; omega
    · have d2 : decide (m < D.L.length) = false := by simpa using hmt
      go_wp2_with fail
      go_ret
      exact ⟨rfl, below_step HB3.out HQ.out⟩

end Go.Proofs.Ytekmnpmeienhhaa
