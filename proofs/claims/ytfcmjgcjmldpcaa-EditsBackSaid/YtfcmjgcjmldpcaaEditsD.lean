/- Layer 16: Check, by a contract. -/
import Derived.Test.YtfcmjgcjmldpcaaEditsC
import Derived.BigQuiet
namespace Go.Proofs.Ytfcmjgcjmldpcaa
set_option linter.unusedVariables false
open Go Go.RowKit
attribute [local go_sem ↓] run_index_S
attribute [local go_sem] S_append S_extract

def BkIn (C : Array Value) (T : TypeId) (w : World) (b : Nat) : Prop := w.heap[b]? = some (.cells C T (0, 0))
theorem BkIn.lt {C : Array Value} {T : TypeId} {w : World} {b : Nat} (h : BkIn C T w b) : b < w.heap.size := by
  rcases Nat.lt_or_ge b w.heap.size with h' | h'
  · exact h'
  · simp [BkIn, Array.getElem?_eq_none h'] at h
theorem BkIn.cell {C : Array Value} {T : TypeId} {w : World} {b : Nat} (h : BkIn C T w b) (j : Nat) : w.cell? ⟨b, j, none⟩ = C[j]? := by
  unfold BkIn at h
  simp [World.cell?, h]
theorem BkIn.below {C : Array Value} {T : TypeId} {w w' : World} {b : Nat} (h : BkIn C T w b) (hb : Below w.heap.size w w') : BkIn C T w' b := by
  have hl := h.lt
  unfold BkIn at *
  rw [hb.block b hl]; exact h
theorem bkIn_new (C : Array Value) (T : TypeId) (w : World) : BkIn C T (w.alloc (.cells C T)) w.heap.size := heap_alloc_new w _
/-- Rows that may be. -/
structure RtsOk (Rs : List Rt) : Prop where
  n : Rs.length ≤ 9223372036854775807
  f : ∀ r, r ∈ Rs → r.f.length ≤ 9223372036854775807
  l : ∀ r, r ∈ Rs → r.l.length ≤ 9223372036854775807
abbrev stA (ao : Option Addr) (n cap : Nat) (log next : Int) : Array Value := #[.slice ao n cap, .int .i64 log, .int .i64 next]
def CheckR (s : Ed.St) (w : World) (e : Ending) (w' : World) : Prop := ∃ b, e = .returned (.bool b) ∧ (b = true ↔ Ed.Ok s) ∧ Below w.heap.size w w'
set_option maxHeartbeats 4000000 in
set_option maxRecDepth 100000 in
theorem check16_any (Rs : List Rt) (hR : RtsOk Rs) (ao : Option Addr) (cap : Nat) (log next : Int) (w : World) (h : TbsAt w ao Rs) :
    Calls Try.prog 14 #[stV ao Rs.length cap log next] w (CheckR ⟨tbs Rs, log, next⟩ w) := by
  have HA := Lib.hid h
  have HR := Lib.hid hR
  clear h hR
  unfold stV
  go_enter Try.func14, Try.ntmps14
  have HS := Lib.hid (bkIn_new (stA ao Rs.length cap log next) 24 w)
  have HB := Lib.hid ((Below.refl w.heap.size w).alloc (Nat.le_refl _) (.cells (stA ao Rs.length cap log next) 24))
  by_cases a1 : Rs.length < 1
  · have d1 : decide ((Rs.length : Int) < 1) = true := decide_eq_true (by omega)
    have d2 : decide (Rs.length < 1) = true := decide_eq_true (by omega)
    have HF := Lib.hid (show ¬ Ed.Ok ⟨tbs Rs, log, next⟩ from fun h => by have := h.n1; simp only [tbs_length] at this; omega)
    go_wp2_with fail
    go_ret
    exact ⟨false, rfl, iff_no HF.out, HB.out⟩
  have d1 : decide ((Rs.length : Int) < 1) = false := decide_eq_false (by omega)
  have d2 : decide (Rs.length < 1) = false := decide_eq_false (by omega)
  by_cases a2 : 16 < Rs.length
  · have d3 : decide ((16 : Int) < (Rs.length : Int)) = true := decide_eq_true (by omega)
    have d4 : decide (16 < Rs.length) = true := decide_eq_true (by omega)
    have HF := Lib.hid (show ¬ Ed.Ok ⟨tbs Rs, log, next⟩ from fun h => by have := h.n16; simp only [tbs_length] at this; omega)
    go_wp2_with fail
    go_ret
    exact ⟨false, rfl, iff_no HF.out, HB.out⟩
  have d3 : decide ((16 : Int) < (Rs.length : Int)) = false := decide_eq_false (by omega)
  have d4 : decide (16 < Rs.length) = false := decide_eq_false (by omega)
  by_cases a3 : log < 1
  · have d5 : decide (log < 1) = true := decide_eq_true (by omega)
    have HF := Lib.hid (show ¬ Ed.Ok ⟨tbs Rs, log, next⟩ from fun h => by have := h.log1; simp only at this; omega)
    go_wp2_with fail
    go_ret
    exact ⟨false, rfl, iff_no HF.out, HB.out⟩
  have d5 : decide (log < 1) = false := decide_eq_false (by omega)
  by_cases a4 : next ≤ log
  · have d6 : decide (next ≤ log) = true := decide_eq_true (by omega)
    have HF := Lib.hid (show ¬ Ed.Ok ⟨tbs Rs, log, next⟩ from fun h => by have := h.logN; simp only at this; omega)
    go_wp2_with fail
    go_ret
    exact ⟨false, rfl, iff_no HF.out, HB.out⟩
  have d6 : decide (next ≤ log) = false := decide_eq_false (by omega)
  by_cases a5 : 2147483647 < next
  · have d7 : decide (2147483647 < next) = true := decide_eq_true (by omega)
    have HF := Lib.hid (show ¬ Ed.Ok ⟨tbs Rs, log, next⟩ from fun h => by have := h.nextM; simp only at this; omega)
    go_wp2_with fail
    go_ret
    exact ⟨false, rfl, iff_no HF.out, HB.out⟩
  have d7 : decide (2147483647 < next) = false := decide_eq_false (by omega)
  obtain ⟨g, off, rfl, hc⟩ := (HA.out.below HB.out) (fun e => by rw [e] at a1; simp at a1)
  have c0 := (hc 0 (by omega)).1
  rw [Nat.zero_mul, Nat.add_zero] at c0
  clear hc
  have HF0 := Lib.hid (tbs_at Rs 0)
  have hlen : (0 : Int) < (Rs.length : Int) := by omega
  generalize Rs.getD 0 rt0 = r0 at *
  cases q : r0.f.isEmpty with
  | false =>
    have HF := Lib.hid (show ¬ Ed.Ok ⟨tbs Rs, log, next⟩ from fun h => by
      have := h.fst
      simp only [HF0.out, Rt.tb] at this
      rw [this] at q
      cases q)
    go_wp2_with fail
    go_ret
    exact ⟨false, rfl, iff_no HF.out, HB.out⟩
  | true =>
    have HF1 := Lib.hid (show ((tbs Rs).getD 0 Ed.tb0).f = [] from by rw [HF0.out]; exact List.isEmpty_iff.1 q)
    clear HF0
    have HH := Lib.hid (show 1 ≤ log ∧ log < next ∧ next ≤ 2147483647 ∧ 1 ≤ Rs.length ∧ Rs.length ≤ 16 from ⟨by omega, by omega, by omega, by omega, by omega⟩)
    go_wp2_with fail
    clear c0 q d1 d2 d3 d4 d5 d6 d7 a1 a2 a3 a4 a5
    go_loopw [43] (fun i wr => ∃ k : Nat, k ≤ Rs.length ∧ i = .int .i64 k ∧ Hid (∀ j, j < k → Ed.okAt (tbs Rs) next j) ∧ Hid (Below w.heap.size w wr) ∧ Hid (BkIn (stA (some ⟨g, off, none⟩) Rs.length cap log next) 24 wr w.heap.size)) (fun i _ => Rs.length - (intOf i).toNat)
    case atStart => exact ⟨0, Nat.zero_le _, rfl, Lib.hid (fun j hj => absurd hj (by omega)), HB, HS⟩
    case round =>
      obtain ⟨k, hk, rfl, HK, HBr, HSr⟩ := hrel
      clear HB HS
      by_cases hlt : k < Rs.length
      · have hki : (k : Int) < (Rs.length : Int) := by omega
        obtain ⟨g', off', e, hc⟩ := (HA.out.below HBr.out).off k hlt
        cases e
        have HTb := Lib.hid (tbs_at Rs k)
        have HMem := Lib.hid (Ed.gD_mem (d := rt0) hlt)
        have HTA := Lib.hid hc
        obtain ⟨x0, x1, _⟩ := hc
        generalize Rs.getD k rt0 = r at *
        obtain ⟨f, l, o, kc⟩ := r
        simp only at x0 x1
        go_wp2_with fail
        obtain ⟨w1, hw1⟩ : ∃ x, x = wr.alloc (.cells #[.string (S f), .slice o l.length kc] 41) := ⟨_, rfl⟩
        rw [← hw1]
        have hB1 : Below wr.heap.size wr w1 := by rw [hw1]; exact (Below.refl _ _).alloc (Nat.le_refl _) _
        have HB1 := Lib.hid (HBr.out.trans (hB1.mono HBr.out.size))
        have HS1 := Lib.hid (HSr.out.below hB1)
        have t0 : w1.cell? ⟨wr.heap.size, 0, none⟩ = some (.string (S f)) := by rw [hw1]; exact (bkIn_new _ _ wr).cell 0
        have t1 : w1.cell? ⟨wr.heap.size, 1, none⟩ = some (.slice o l.length kc) := by rw [hw1]; exact (bkIn_new _ _ wr).cell 1
        have s0 := HS1.out.cell 0
        have s2 := HS1.out.cell 2
        have z0 : w1.cell? ⟨w.heap.size, 0, none⟩ = some (.slice (some ⟨g, off, none⟩) Rs.length cap) := s0
        have z2 : w1.cell? ⟨w.heap.size, 2, none⟩ = some (.int .i64 next) := s2
        clear s0 s2
        obtain ⟨rb, hrb⟩ : ∃ b : Bool, b = true ↔ Ed.rise l next := ⟨Classical.propDecidable (Ed.rise l next) |>.decide, by simp⟩
        have CR := Lib.hid (show ∀ d : Nat, Calls Try.prog 34 #[.slice o l.length kc, .int .i64 next] (w1.drewN d) fun e w' => e = .returned (.bool rb) ∧ w' = w1.drewN d from fun d => (rise16_any l (HR.out.l _ HMem.out) next o kc (w1.drewN d) ((HTA.out.2.2.below hB1).below (below_drewN (Below.refl _ w1) d))).mono (fun e w' ⟨b, he, hb, hw⟩ => ⟨he.trans (by rw [Bool.eq_iff_iff.2 (hb.trans hrb.symm)]), hw.symm⟩))
        have HRB := Lib.hid hrb
        have hlf := HR.out.f _ HMem.out
        simp only at hlf
        have HNO := Lib.hid (show Ed.Ok ⟨tbs Rs, log, next⟩ → (0 < k → Op.bytesLess ((tbs Rs).getD (k - 1) Ed.tb0).f f = true) ∧ f.length ≤ 64 ∧ Ed.rise l next from fun h => by have := h.each k (by simp only [tbs_length]; exact hlt); unfold Ed.okAt at this; simp only [HTb.out, Rt.tb] at this; exact this)
        have HYES := Lib.hid (show (0 < k → Op.bytesLess ((tbs Rs).getD (k - 1) Ed.tb0).f f = true) → ¬ 64 < f.length → Ed.rise l next → ∀ j, j < k + 1 → Ed.okAt (tbs Rs) next j from fun h1 h2 h3 j hj => by
            by_cases e : j = k
            · subst e; unfold Ed.okAt; simp only [HTb.out, Rt.tb]; exact ⟨h1, by omega, h3⟩
            · exact HK.out j (by omega))
        have HLT := Lib.hid hlt
        clear hrb HTb HMem HK x0 x1 hlen
        rcases Nat.eq_zero_or_pos k with hk0 | hk0
        · subst hk0
          have g1 : decide ((0 : Int) < ((0 : Nat) : Int)) = false := rfl
          have HORD := Lib.hid (show 0 < 0 → Op.bytesLess ((tbs Rs).getD (0 - 1) Ed.tb0).f f = true from fun h => absurd h (by omega))
          clear HSr HBr HTA hB1 hw1
          by_cases h64 : 64 < f.length
          · have e1 : decide ((64 : Int) < (f.length : Int)) = true := decide_eq_true (by omega)
            have e2 : decide (64 < f.length) = true := decide_eq_true (by omega)
            have HF := Lib.hid (show ¬ Ed.Ok ⟨tbs Rs, log, next⟩ from fun h => by have := (HNO.out h).2.1; omega)
            go_quiet ((go_at_call 34; with_reducible exact Calls.quiet_of_same (CR.out _)))
            have HB2 := Lib.hid (below_drewN HB1.out nq)
            have HS2 := Lib.hid (HS1.out.below (below_drewN (Below.refl _ w1) nq))
            generalize w1.drewN nq = w2 at *
            go_wp2_with fail
            go_ret
            exact ⟨false, rfl, iff_no HF.out, HB2.out⟩
          have e1 : decide ((64 : Int) < (f.length : Int)) = false := decide_eq_false (by omega)
          have e2 : decide (64 < f.length) = false := decide_eq_false (by omega)
          cases rb with
          | false =>
            have HF := Lib.hid (show ¬ Ed.Ok ⟨tbs Rs, log, next⟩ from fun h => by have := HRB.out.2 (HNO.out h).2.2; cases this)
            go_quiet ((go_at_call 34; with_reducible exact Calls.quiet_of_same (CR.out _)))
            have HB2 := Lib.hid (below_drewN HB1.out nq)
            have HS2 := Lib.hid (HS1.out.below (below_drewN (Below.refl _ w1) nq))
            generalize w1.drewN nq = w2 at *
            go_wp2_with fail
            go_ret
            exact ⟨false, rfl, iff_no HF.out, HB2.out⟩
          | true =>
            have HK2 := Lib.hid (HYES.out HORD.out h64 (HRB.out.1 rfl))
            go_quiet ((go_at_call 34; with_reducible exact Calls.quiet_of_same (CR.out _)))
            have HB2 := Lib.hid (below_drewN HB1.out nq)
            have HS2 := Lib.hid (HS1.out.below (below_drewN (Below.refl _ w1) nq))
            generalize w1.drewN nq = w2 at *
            clear CR
            go_wp2_with fail
            go_roundw
            case rel => exact ⟨0 + 1, by have := HLT.out; omega, by go_num, HK2, HB2, HS2⟩
            case measure => have := HLT.out; simp [intOf]; omega
        · obtain ⟨m, hm⟩ : ∃ m, k = m + 1 := ⟨k - 1, by omega⟩
          have g1 : decide ((0 : Int) < (k : Int)) = true := decide_eq_true (by omega)
          have g2 : decide (0 < k) = true := decide_eq_true (by omega)
          obtain ⟨g', off', e, hc⟩ := ((HA.out.below HBr.out).below hB1).off m (by omega)
          cases e
          have c0 := hc.1
          have HTm := Lib.hid (tbs_at Rs m)
          have hlm := HR.out.f _ (Ed.gD_mem (d := rt0) (show m < Rs.length by omega))
          clear hc HSr HBr HTA hB1 hw1
          generalize Rs.getD m rt0 = r at *
          obtain ⟨pf, pl, po, pk⟩ := r
          simp only at c0 hlm
          have hk16 : k < 16 := by have := HH.out; have := HLT.out; omega
          have hmk : (m : Int) < (Rs.length : Int) := by omega
          have hm0 : ((k : Int) - 1) = (m : Int) := by omega
          have hm1 : IntKind.i64.wrap (m : Int) = (m : Int) := IntWalk.i64_in _ (by have := HH.out; omega)
          have HP := Lib.hid (show ((tbs Rs).getD (k - 1) Ed.tb0).f = pf from by rw [show k - 1 = m from by omega, HTm.out]; rfl)
          clear HTm hm
          by_cases hlq : Op.bytesLess f pf = true ∨ f = pf
          · have HF := Lib.hid (show ¬ Ed.Ok ⟨tbs Rs, log, next⟩ from fun h => by
                have := (HNO.out h).1 (by omega)
                rw [HP.out] at this
                rcases hlq with q | q
                · have k2 := Ed.less_trans _ _ _ this q; rw [Ed.less_irr] at k2; cases k2
                · rw [q, Ed.less_irr] at this; cases this)
            have l1 : (Op.bytesLess f pf || (f == pf)) = true := by simpa using hlq
            go_quiet ((go_at_call 34; with_reducible exact Calls.quiet_of_same (CR.out _)))
            have HB2 := Lib.hid (below_drewN HB1.out nq)
            have HS2 := Lib.hid (HS1.out.below (below_drewN (Below.refl _ w1) nq))
            generalize w1.drewN nq = w2 at *
            go_wp2_with fail
            go_ret
            exact ⟨false, rfl, iff_no HF.out, HB2.out⟩
          have HORD := Lib.hid (show 0 < k → Op.bytesLess ((tbs Rs).getD (k - 1) Ed.tb0).f f = true from fun _ => by
              rw [HP.out]
              have h1 : Op.bytesLess f pf = false := by simpa using fun h => hlq (.inl h)
              have := Ed.less_flip f pf (fun h => hlq (.inr h))
              rw [this, h1]; rfl)
          have l1 : (Op.bytesLess f pf || (f == pf)) = false := by simpa using hlq
          by_cases h64 : 64 < f.length
          · have e1 : decide ((64 : Int) < (f.length : Int)) = true := decide_eq_true (by omega)
            have e2 : decide (64 < f.length) = true := decide_eq_true (by omega)
            have HF := Lib.hid (show ¬ Ed.Ok ⟨tbs Rs, log, next⟩ from fun h => by have := (HNO.out h).2.1; omega)
            go_quiet ((go_at_call 34; with_reducible exact Calls.quiet_of_same (CR.out _)))
            have HB2 := Lib.hid (below_drewN HB1.out nq)
            have HS2 := Lib.hid (HS1.out.below (below_drewN (Below.refl _ w1) nq))
            generalize w1.drewN nq = w2 at *
            go_wp2_with fail
            go_ret
            exact ⟨false, rfl, iff_no HF.out, HB2.out⟩
          have e1 : decide ((64 : Int) < (f.length : Int)) = false := decide_eq_false (by omega)
          have e2 : decide (64 < f.length) = false := decide_eq_false (by omega)
          cases rb with
          | false =>
            have HF := Lib.hid (show ¬ Ed.Ok ⟨tbs Rs, log, next⟩ from fun h => by have := HRB.out.2 (HNO.out h).2.2; cases this)
            go_quiet ((go_at_call 34; with_reducible exact Calls.quiet_of_same (CR.out _)))
            have HB2 := Lib.hid (below_drewN HB1.out nq)
            have HS2 := Lib.hid (HS1.out.below (below_drewN (Below.refl _ w1) nq))
            generalize w1.drewN nq = w2 at *
            go_wp2_with fail
            go_ret
            exact ⟨false, rfl, iff_no HF.out, HB2.out⟩
          | true =>
            have HK2 := Lib.hid (HYES.out HORD.out h64 (HRB.out.1 rfl))
            go_quiet ((go_at_call 34; with_reducible exact Calls.quiet_of_same (CR.out _)))
            have HB2 := Lib.hid (below_drewN HB1.out nq)
            have HS2 := Lib.hid (HS1.out.below (below_drewN (Below.refl _ w1) nq))
            generalize w1.drewN nq = w2 at *
            clear CR
            go_wp2_with fail
            go_roundw
            case rel => exact ⟨k + 1, by have := HLT.out; omega, by go_num, HK2, HB2, HS2⟩
            case measure => have := HLT.out; simp [intOf]; omega
      · obtain rfl : k = Rs.length := by omega
        have HO := Lib.hid (show Ed.Ok ⟨tbs Rs, log, next⟩ from by
          obtain ⟨h1, h2, h3, h4, h5⟩ := HH.out
          exact ⟨by simp only [tbs_length]; exact h4, by simp only [tbs_length]; exact h5, h1, h2, h3, HF1.out, fun i hi => HK.out i (by simp only [tbs_length] at hi; exact hi)⟩)
        go_wp2_with fail
        go_ret
        exact ⟨true, rfl, ⟨fun _ => HO.out, fun _ => rfl⟩, HBr.out⟩

end Go.Proofs.Ytfcmjgcjmldpcaa
