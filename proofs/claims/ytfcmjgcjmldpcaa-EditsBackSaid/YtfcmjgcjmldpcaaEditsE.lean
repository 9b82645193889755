/- Layer 16: Find, Stretch, First, by contracts. -/
import Derived.Test.YtfcmjgcjmldpcaaEditsD
namespace Go.Proofs.Ytfcmjgcjmldpcaa
set_option linter.unusedVariables false
set_option linter.unusedSimpArgs false
open Go Go.RowKit
attribute [local go_sem ↓] run_index_S
attribute [local go_sem] S_append S_extract

theorem Ed.below_eq {T : List Ed.Tb} {key : List UInt8} {i : Nat} (hi : i ≤ T.length) (h1 : ∀ k, k < i → Op.bytesLess key (T.getD k Ed.tb0).f = false) (h2 : ∀ k, i ≤ k → k < T.length → Op.bytesLess key (T.getD k Ed.tb0).f = true) : Ed.below T key = i := by
  have hl := Ed.below_le T key
  rcases Nat.lt_trichotomy (Ed.below T key) i with q | q | q
  · have := Ed.below_at (T := T) (key := key) (by omega)
    rw [h1 _ q] at this; cases this
  · exact q
  · have := Ed.below_lt (T := T) (key := key) i q
    rw [h2 i (Nat.le_refl _) (by omega)] at this; cases this
theorem Ed.gtr_less (d key : List UInt8) : (!Op.bytesLess d key && !(d == key)) = Op.bytesLess key d := by
  by_cases e : d = key
  · subst e; simp [Ed.less_irr]
  · rw [Ed.less_flip d key e]; simp [e]
/-- A state in a box, a key in another one, as Find has them. -/
structure FdB (ao : Option Addr) (cap : Nat) (log next : Int) (sb kb : Nat) (Rs : List Rt) (key : List UInt8) (w : World) : Prop where
  s : BkIn (stA ao Rs.length cap log next) 24 w sb
  k : BkIn #[.string (S key)] 9 w kb
  r : TbsAt w ao Rs
theorem FdB.below {ao : Option Addr} {cap : Nat} {log next : Int} {sb kb : Nat} {Rs : List Rt} {key : List UInt8} {w w' : World} (h : FdB ao cap log next sb kb Rs key w) (hb : Below w.heap.size w w') : FdB ao cap log next sb kb Rs key w' :=
  ⟨h.s.below hb, h.k.below hb, h.r.below hb⟩
set_option maxHeartbeats 4000000 in
set_option maxRecDepth 100000 in
theorem findF16_any (ao : Option Addr) (cap : Nat) (log next : Int) (sb kb : Nat) (Rs : List Rt) (key : List UInt8) (i : Nat) (hi : i < Rs.length) (w : World) (h : FdB ao cap log next sb kb Rs key w) :
    Calls Try.prog 36 #[.int .i64 i, .pointer (some ⟨sb, 0, none⟩), .pointer (some ⟨kb, 0, none⟩)] w fun e w' => e = .returned (.bool (Op.bytesLess key ((tbs Rs).getD i Ed.tb0).f)) ∧ Below w.heap.size w w' := by
  obtain ⟨g, off, rfl, x0, x1, _⟩ := h.r.off i hi
  have hii : (i : Int) < (Rs.length : Int) := by omega
  rw [tbs_at, Rt.tb]
  simp only
  generalize (Rs.getD i rt0).f = d at *
  have z0 : w.cell? ⟨sb, 0, none⟩ = some (.slice (some ⟨g, off, none⟩) Rs.length cap) := h.s.cell 0
  have y0 : w.cell? ⟨kb, 0, none⟩ = some (.string (S key)) := h.k.cell 0
  clear x1 h
  go_enter Try.func36, Try.ntmps36
  go_wp2_with fail
  go_quiet (fail)
  have HB := Lib.hid (below_drewN (Below.refl w.heap.size w) nq)
  generalize w.drewN nq = w2 at *
  go_wp2_with fail
  go_ret
  exact ⟨by rw [← Ed.gtr_less d key]; rfl, HB.out⟩
set_option maxHeartbeats 4000000 in
set_option maxRecDepth 100000 in
theorem findS16_any (ao : Option Addr) (cap : Nat) (log next : Int) (sb kb : Nat) (Rs : List Rt) (key : List UInt8) (hok : Ed.Ok ⟨tbs Rs, log, next⟩) (w : World) (h : FdB ao cap log next sb kb Rs key w) :
    Calls Try.prog 35 #[.int .i64 Rs.length, .func (.func 36) #[] #[.pointer (some ⟨sb, 0, none⟩), .pointer (some ⟨kb, 0, none⟩)]] w fun e w' => e = .returned (.int .i64 (Ed.below (tbs Rs) key : Nat)) ∧ Below w.heap.size w w' := by
  have HT := Lib.hid h
  have HO := Lib.hid hok
  have hn : Rs.length ≤ 16 := by have := hok.n16; simp only [tbs_length] at this; exact this
  clear h hok
  go_enter Try.func35, Try.ntmps35
  go_wp2_with fail
  go_loopw [5, 6] (fun vi vj wr => ∃ i j : Nat, i ≤ j ∧ j ≤ Rs.length ∧ vi = .int .i64 i ∧ vj = .int .i64 j ∧ Hid (∀ k, k < i → Op.bytesLess key ((tbs Rs).getD k Ed.tb0).f = false) ∧ Hid (∀ k, j ≤ k → k < Rs.length → Op.bytesLess key ((tbs Rs).getD k Ed.tb0).f = true) ∧ Hid (Below w.heap.size w wr)) (fun vi vj _ => (intOf vj).toNat - (intOf vi).toNat)
  case atStart => exact ⟨0, Rs.length, Nat.zero_le _, Nat.le_refl _, rfl, rfl, Lib.hid (fun k hk => by omega), Lib.hid (fun k h1 h2 => by omega), Lib.hid (Below.refl _ _)⟩
  case round =>
    obtain ⟨i, j, hij, hj, rfl, rfl, H1, H2, HBr⟩ := hrel
    by_cases hlt : i < j
    · have d1 : decide ((i : Int) < (j : Int)) = true := by simp; omega
      have d2 : decide (i < j) = true := by simp; omega
      obtain ⟨h, hh⟩ : ∃ h, h = (i + j) / 2 := ⟨_, rfl⟩
      have h1 : i ≤ h := by omega
      have h2 : h < j := by omega
      have hc : ((i : Int) + (j : Int)) / 2 = (h : Int) := by omega
      have CB := Lib.hid (findF16_any ao cap log next sb kb Rs key h (by omega) wr (HT.out.below HBr.out))
      clear hh
      have HQ := Lib.hid (show (Op.bytesLess key ((tbs Rs).getD h Ed.tb0).f = false → ∀ k, k < h + 1 → Op.bytesLess key ((tbs Rs).getD k Ed.tb0).f = false) ∧ (Op.bytesLess key ((tbs Rs).getD h Ed.tb0).f = true → ∀ k, h ≤ k → k < Rs.length → Op.bytesLess key ((tbs Rs).getD k Ed.tb0).f = true) from
        ⟨fun hq k hk => by
          by_cases e : k = h
          · rw [e]; exact hq
          · exact Ed.less_false_trans hq (.inl (HO.out.less h k (by omega) (by simp only [tbs_length]; omega))), fun hq k hk hkn => by
          by_cases e : k = h
          · rw [e]; exact hq
          · exact Ed.less_trans _ _ _ hq (HO.out.less k h (by omega) (by simp only [tbs_length]; omega))⟩)
      generalize Op.bytesLess key ((tbs Rs).getD h Ed.tb0).f = ab at *
      go_wp2_with fail
      with_reducible refine (CB.out).mono ?_
      rintro e w1 ⟨rfl, hb⟩
      have HB1 := Lib.hid (below_step HBr.out hb)
      clear hb CB hc
      cases ab with
      | true =>
        go_wp2_with fail
        go_roundw
        case rel => exact ⟨i, h, h1, by omega, rfl, rfl, H1, Lib.hid (HQ.out.2 trivial), HB1⟩
        case measure => simp [intOf]; omega
      | false =>
        go_wp2_with fail
        go_roundw
        case rel => exact ⟨h + 1, j, by omega, hj, by go_num, rfl, Lib.hid (HQ.out.1 trivial), H2, HB1⟩
        case measure => simp [intOf]; omega
    · obtain rfl : i = j := by omega
      have d1 : decide ((i : Int) < (i : Int)) = false := by simp
      have d2 : decide (i < i) = false := by simp
      have HE := Lib.hid (Ed.below_eq (T := tbs Rs) (by simp only [tbs_length]; exact hj) H1.out (fun k h1 h2 => H2.out k h1 (by simp only [tbs_length] at h2; exact h2)))
      go_wp2_with fail
      go_ret
      exact ⟨by rw [HE.out]; rfl, HBr.out⟩
theorem bel_two (w : World) (a b : Obj) : Below w.heap.size w ((w.alloc a).alloc b) := ((Below.refl _ _).alloc (Nat.le_refl _) a).alloc ((Below.refl w.heap.size w).alloc (Nat.le_refl _) a).size b
def stArg (Rs : List Rt) (log next : Int) : Ed.St := ⟨tbs Rs, log, next⟩
set_option maxHeartbeats 4000000 in
set_option maxRecDepth 100000 in
theorem find16_any (Rs : List Rt) (hR : RtsOk Rs) (ao : Option Addr) (cap : Nat) (log next : Int) (key : List UInt8) (w : World) (h : TbsAt w ao Rs) :
    Calls Try.prog 17 #[stV ao Rs.length cap log next, .string (S key)] w fun e w' => ∃ i : Int, e = .returned (.int .i64 i) ∧ (Ed.Ok (stArg Rs log next) → i = Ed.find (stArg Rs log next) key) ∧ (¬ Ed.Ok (stArg Rs log next) → i = -1) ∧ Below w.heap.size w w' := by
  have HA := Lib.hid h
  have HR := Lib.hid hR
  clear h hR
  unfold stV
  go_enter Try.func17, Try.ntmps17
  obtain ⟨w1, hw1⟩ : ∃ x, x = (w.alloc (.cells #[.slice ao Rs.length cap, .int .i64 log, .int .i64 next] 24)).alloc (.cells #[.string (S key)] 9) := ⟨_, rfl⟩
  have hb1 : Below w.heap.size w w1 := by rw [hw1]; exact bel_two _ _ _
  have HF := Lib.hid (show FdB ao cap log next w.heap.size (w.heap.size + 1) Rs key w1 from by
    rw [hw1]
    refine ⟨(bkIn_new _ _ w).below ((Below.refl _ _).alloc (Nat.le_refl _) _), ?_, ?_⟩
    · have := bkIn_new #[.string (S key)] 9 (w.alloc (.cells (stA ao Rs.length cap log next) 24))
      simpa using this
    · exact HA.out.below (bel_two _ _ _))
  have CK := Lib.hid (check16_any Rs HR.out ao cap log next w1 HF.out.r)
  unfold stV at CK
  go_wp2_with fail
  rw [← hw1]
  have HB1 := Lib.hid hb1
  clear hw1 hb1 HA
  with_reducible refine (CK.out).mono ?_
  rintro e w2 ⟨b, rfl, hb, hbw⟩
  have HF2 := Lib.hid (HF.out.below hbw)
  have HB2 := Lib.hid (below_drewN (HB1.out.trans (hbw.mono HB1.out.size)) 0)
  clear hbw CK HF HB1
  cases b with
  | false =>
    have HN := Lib.hid (show ¬ Ed.Ok (stArg Rs log next) from fun h => nomatch hb.2 h)
    clear hb
    go_wp2_with fail
    go_ret
    exact ⟨-1, rfl, fun h => absurd h HN.out, fun _ => rfl, HB2.out⟩
  | true =>
    have HO := Lib.hid (hb.1 rfl)
    clear hb
    have z0 : w2.cell? ⟨w.heap.size, 0, none⟩ = some (.slice ao Rs.length cap) := HF2.out.s.cell 0
    have CS := Lib.hid (findS16_any ao cap log next w.heap.size (w.heap.size + 1) Rs key HO.out w2 HF2.out)
    have hbl := Ed.below_le (tbs Rs) key
    have hn := HO.out.n16
    simp only [tbs_length] at hbl hn
    have HI := Lib.hid (show ((Ed.below (tbs Rs) key : Nat) : Int) - 1 = Ed.find (stArg Rs log next) key from rfl)
    generalize Ed.below (tbs Rs) key = n at *
    go_wp2_with fail
    with_reducible refine (CS.out).mono ?_
    rintro e w3 ⟨rfl, hb3⟩
    have HB3 := Lib.hid (HB2.out.trans (hb3.mono HB2.out.size))
    clear hb3 CS HB2 z0
    go_wp2_with fail
    go_ret
    exact ⟨(n : Int) - 1, rfl, fun _ => HI.out, fun h => absurd HO.out h, HB3.out⟩

end Go.Proofs.Ytfcmjgcjmldpcaa
