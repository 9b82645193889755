/- Layer 16: SameState, by a contract. -/
import Derived.Test.YtfcmjgcjmldpcaaEditsAa
namespace Go.Proofs.Ytfcmjgcjmldpcaa
set_option linter.unusedVariables false
set_option linter.unusedSimpArgs false
open Go Go.RowKit
attribute [local go_sem ↓] run_index_S
attribute [local go_sem] S_append S_extract

theorem tbs_snoc {Rs : List Rt} {k : Nat} (h : k < Rs.length) : tbs (Rs.take (k + 1)) = tbs (Rs.take k) ++ [(Rs.getD k rt0).tb] := by
  rw [Ed.take_snoc Rs k rt0 h]; simp [tbs]
theorem tbs_apart {Rs Qs : List Rt} {k : Nat} (h : k < Rs.length) (h' : k < Qs.length) (hne : (Rs.getD k rt0).tb ≠ (Qs.getD k rt0).tb) : tbs Rs ≠ tbs Qs := fun e => hne (by
  have h1 := tbs_at Rs k
  rw [e, tbs_at] at h1
  exact h1.symm)
theorem St_ext {a b : Ed.St} (h1 : a.T = b.T) (h2 : a.log = b.log) (h3 : a.next = b.next) : a = b := by
  cases a; cases b; simp only at h1 h2 h3; subst h1; subst h2; subst h3; rfl
def SameStR (s t : Ed.St) (w : World) (e : Ending) (w' : World) : Prop := ∃ r, e = .returned (.bool r) ∧ (r = true ↔ s = t) ∧ Below w.heap.size w w'
/-- Both boxes. -/
structure SsB (w : World) (ao bo : Option Addr) (n cap m cap' : Nat) (log next log' next' : Int) (wr : World) : Prop where
  a : BkIn (stA ao n cap log next) 24 wr w.heap.size
  b : BkIn (stA bo m cap' log' next') 24 wr (w.heap.size + 1)
  bel : Below w.heap.size w wr
set_option maxHeartbeats 4000000 in
set_option maxRecDepth 100000 in
theorem sameState16_any (Rs Qs : List Rt) (hR : RtsOk Rs) (hQ : RtsOk Qs) (ao bo : Option Addr) (cap cap' : Nat) (log next log' next' : Int) (w : World) (h1 : TbsAt w ao Rs) (h2 : TbsAt w bo Qs) :
    Calls Try.prog 16 #[stV ao Rs.length cap log next, stV bo Qs.length cap' log' next'] w (SameStR ⟨tbs Rs, log, next⟩ ⟨tbs Qs, log', next'⟩ w) := by
  obtain ⟨w2, hw2⟩ : ∃ x, x = (w.alloc (.cells (stA ao Rs.length cap log next) 24)).alloc (.cells (stA bo Qs.length cap' log' next') 24) := ⟨_, rfl⟩
  have HS := Lib.hid (show SsB w ao bo Rs.length cap Qs.length cap' log next log' next' w2 from by
    rw [hw2]
    have h2 := bkIn_new (stA bo Qs.length cap' log' next') 24 (w.alloc (.cells (stA ao Rs.length cap log next) 24))
    exact ⟨(bkIn_new _ _ w).below ((Below.refl _ _).alloc (Nat.le_refl _) _), by simpa using h2, bel_two _ _ _⟩)
  have HA := Lib.hid h1
  have HC := Lib.hid h2
  have HR := Lib.hid hR
  have HQ := Lib.hid hQ
  have hRn := hR.n
  have hQn := hQ.n
  clear h1 h2 hR hQ
  unfold stV
  unfold stA at hw2
  go_enter Try.func16, Try.ntmps16
  by_cases q1 : log = log'
  · subst q1
    by_cases q2 : next = next'
    · subst q2
      by_cases q3 : Rs.length = Qs.length
      · have d1 : ((Rs.length : Int) != (Qs.length : Int)) = false := by rw [q3]; simp
        have HE := Lib.hid q3
        clear q3
        go_wp2_with fail
        rw [← hw2]
        clear hw2 d1
        go_loopw [5] (fun i wr => ∃ k : Nat, k ≤ Rs.length ∧ i = .int .i64 k ∧ Hid (tbs (Rs.take k) = tbs (Qs.take k)) ∧ Hid (SsB w ao bo Rs.length cap Qs.length cap' log next log next wr)) (fun i _ => Rs.length - (intOf i).toNat)
        case atStart => exact ⟨0, Nat.zero_le _, rfl, Lib.hid rfl, HS⟩
        case round =>
          obtain ⟨k, hk, rfl, HT, HSr⟩ := hrel
          clear HS
          by_cases hlt : k < Rs.length
          · have hki : (k : Int) < (Rs.length : Int) := by omega
            have hkq : k < Qs.length := by have := HE.out; omega
            have hkqi : (k : Int) < (Qs.length : Int) := by omega
            obtain ⟨ga, oa, rfl, ca⟩ := (HA.out.below HSr.out.bel).off k hlt
            obtain ⟨gb, ob, rfl, cb⟩ := (HC.out.below HSr.out.bel).off k hkq
            have z0 : wr.cell? ⟨w.heap.size, 0, none⟩ = some (.slice (some ⟨ga, oa, none⟩) Rs.length cap) := HSr.out.a.cell 0
            have z1 : wr.cell? ⟨w.heap.size + 1, 0, none⟩ = some (.slice (some ⟨gb, ob, none⟩) Qs.length cap') := HSr.out.b.cell 0
            have HLT := Lib.hid hlt
            have HT2 := Lib.hid (And.intro (tbs_snoc hlt) (tbs_snoc hkq))
            have HAP := Lib.hid (fun h => tbs_apart hlt hkq h)
            have hla := HR.out.l _ (Ed.gD_mem (d := rt0) hlt)
            have hlb := HQ.out.l _ (Ed.gD_mem (d := rt0) hkq)
            generalize Rs.getD k rt0 = r at *
            generalize Qs.getD k rt0 = q at *
            obtain ⟨f, l, o, kc⟩ := r
            obtain ⟨f', l', o', kc'⟩ := q
            obtain ⟨x0, x1, x2⟩ := ca
            obtain ⟨y0, y1, y2⟩ := cb
            simp only at x0 x1 x2 y0 y1 y2 hla hlb
            obtain ⟨rb, hrb⟩ : ∃ b : Bool, b = true ↔ l = l' := ⟨Classical.propDecidable (l = l') |>.decide, by simp⟩
            have CR := Lib.hid (show ∀ d : Nat, Calls Try.prog 19 #[.slice o l.length kc, .slice o' l'.length kc'] (wr.drewN d) fun e w' => e = .returned (.bool rb) ∧ ∃ m, w' = (wr.drewN d).drewN m from fun d => (sameInts16_any l l' hla hlb o o' kc kc' (wr.drewN d) (x2.below (below_drewN (Below.refl _ wr) d)) (y2.below (below_drewN (Below.refl _ wr) d))).mono (fun e w' ⟨b, he, hb, hw⟩ => ⟨he.trans (by rw [Bool.eq_iff_iff.2 (hb.trans hrb.symm)]), hw⟩))
            have HRB := Lib.hid hrb
            clear x2 y2 hrb hla hlb
            by_cases hf : f = f'
            · subst hf
              have e1 : (f != f) = false := by simp
              cases rb with
              | false =>
                have HF := Lib.hid (show ¬ (⟨tbs Rs, log, next⟩ : Ed.St) = ⟨tbs Qs, log, next⟩ from fun e => HAP.out (fun h => by injection h with _ h2; exact nomatch HRB.out.2 h2) (congrArg Ed.St.T e))
                clear HAP HT HT2 HRB
                go_wp2_with fail
                go_quiet ((go_at_call 19; with_reducible exact Calls.quiet_of (CR.out _)))
                have HB2 := Lib.hid (below_drewN HSr.out.bel nq)
                generalize wr.drewN nq = w5 at *
                go_wp2_with fail
                go_ret
                exact ⟨false, rfl, iff_no HF.out, HB2.out⟩
              | true =>
                have HT3 := Lib.hid (show tbs (Rs.take (k + 1)) = tbs (Qs.take (k + 1)) from by rw [HT2.out.1, HT2.out.2, HT.out]; congr 2; simp only [Rt.tb]; rw [HRB.out.1 rfl])
                clear HAP HT HT2 HRB
                go_wp2_with fail
                go_quiet ((go_at_call 19; with_reducible exact Calls.quiet_of (CR.out _)))
                have HB2 := Lib.hid (below_drewN (Below.refl wr.heap.size wr) nq)
                have HS5 := Lib.hid (show SsB w (some ⟨ga, oa, none⟩) (some ⟨gb, ob, none⟩) Rs.length cap Qs.length cap' log next log next (wr.drewN nq) from ⟨HSr.out.a.below HB2.out, HSr.out.b.below HB2.out, HSr.out.bel.trans (HB2.out.mono HSr.out.bel.size)⟩)
                clear HB2 CR HSr
                generalize wr.drewN nq = w5 at *
                go_wp2_with fail
                go_roundw
                case rel => exact ⟨k + 1, by have := HLT.out; omega, by go_num, HT3, HS5⟩
                case measure => have := HLT.out; simp [intOf]; omega
            · have e1 : (f != f') = true := by simpa using hf
              have e2 : (f == f') = false := by simpa using hf
              have HF := Lib.hid (show ¬ (⟨tbs Rs, log, next⟩ : Ed.St) = ⟨tbs Qs, log, next⟩ from fun e => HAP.out (fun h => by injection h with h2 _; exact hf h2) (congrArg Ed.St.T e))
              clear HAP HT HT2 HRB hf
              go_wp2_with fail
              go_quiet ((go_at_call 19; with_reducible exact Calls.quiet_of (CR.out _)))
              have HB2 := Lib.hid (below_drewN HSr.out.bel nq)
              generalize wr.drewN nq = w5 at *
              go_wp2_with fail
              go_ret
              exact ⟨false, rfl, iff_no HF.out, HB2.out⟩
          · obtain rfl : k = Rs.length := by omega
            have HF := Lib.hid (show (⟨tbs Rs, log, next⟩ : Ed.St) = ⟨tbs Qs, log, next⟩ from by
              have := HT.out
              rw [List.take_length, HE.out, List.take_length] at this
              rw [this])
            have z0 : wr.cell? ⟨w.heap.size, 0, none⟩ = some (.slice ao Rs.length cap) := HSr.out.a.cell 0
            clear HT
            go_wp2_with fail
            go_ret
            exact ⟨true, rfl, ⟨fun _ => HF.out, fun _ => rfl⟩, HSr.out.bel⟩
      · have d1 : ((Rs.length : Int) != (Qs.length : Int)) = true := by simp; omega
        have d2 : ((Rs.length : Int) == (Qs.length : Int)) = false := by simp; omega
        have HF := Lib.hid (show ¬ (⟨tbs Rs, log, next⟩ : Ed.St) = ⟨tbs Qs, log, next⟩ from fun e => q3 (by have := congrArg (fun s => s.T.length) e; simpa [tbs_length] using this))
        clear q3
        go_wp2_with fail
        go_ret
        rw [← hw2]
        exact ⟨false, rfl, iff_no HF.out, HS.out.bel⟩
    · have d1 : (next != next') = true := by simpa using q2
      have d2 : (next == next') = false := by simpa using q2
      have HF := Lib.hid (show ¬ (⟨tbs Rs, log, next⟩ : Ed.St) = ⟨tbs Qs, log, next'⟩ from fun e => q2 (congrArg Ed.St.next e))
      clear q2
      go_wp2_with fail
      go_ret
      rw [← hw2]
      exact ⟨false, rfl, iff_no HF.out, HS.out.bel⟩
  · have d1 : (log != log') = true := by simpa using q1
    have d2 : (log == log') = false := by simpa using q1
    have HF := Lib.hid (show ¬ (⟨tbs Rs, log, next⟩ : Ed.St) = ⟨tbs Qs, log', next'⟩ from fun e => q1 (congrArg Ed.St.log e))
    clear q1
    go_wp2_with fail
    go_ret
    rw [← hw2]
    exact ⟨false, rfl, iff_no HF.out, HS.out.bel⟩

end Go.Proofs.Ytfcmjgcjmldpcaa
