/- Layer 16: Stretch, First, by contracts. -/
import Derived.Test.YtfcmjgcjmldpcaaEditsE
namespace Go.Proofs.Ytfcmjgcjmldpcaa
set_option linter.unusedVariables false
set_option linter.unusedSimpArgs false
open Go Go.RowKit
attribute [local go_sem ↓] run_index_S
attribute [local go_sem] S_append S_extract

def stretchTo (Rs : List Rt) (k : Nat) : List UInt8 := if k + 1 < Rs.length then (Rs.getD (k + 1) rt0).f else []
def StretchR (Rs : List Rt) (log next at_ : Int) (w : World) (e : Ending) (w' : World) : Prop :=
  Below w.heap.size w w' ∧ ((∃ k : Nat, at_ = k ∧ k < Rs.length ∧ Ed.Ok (stArg Rs log next) ∧ e = .returned (.tuple #[.string (S (Rs.getD k rt0).f), .string (S (stretchTo Rs k)), .bool true])) ∨ (¬ (Ed.Ok (stArg Rs log next) ∧ 0 ≤ at_ ∧ at_ < Rs.length) ∧ e = .returned (.tuple #[.string (S []), .string (S []), .bool false])))
set_option maxHeartbeats 4000000 in
set_option maxRecDepth 100000 in
theorem stretch16_any (Rs : List Rt) (hR : RtsOk Rs) (ao : Option Addr) (cap : Nat) (log next at_ : Int) (w : World) (h : TbsAt w ao Rs) :
    Calls Try.prog 24 #[stV ao Rs.length cap log next, .int .i64 at_] w (StretchR Rs log next at_ w) := by
  have HA := Lib.hid h
  have HR := Lib.hid hR
  clear h hR
  unfold stV
  go_enter Try.func24, Try.ntmps24
  obtain ⟨w1, hw1⟩ : ∃ x, x = w.alloc (.cells #[.slice ao Rs.length cap, .int .i64 log, .int .i64 next] 24) := ⟨_, rfl⟩
  have hb1 : Below w.heap.size w w1 := by rw [hw1]; exact (Below.refl _ _).alloc (Nat.le_refl _) _
  have HS := Lib.hid (show BkIn (stA ao Rs.length cap log next) 24 w1 w.heap.size from by rw [hw1]; exact bkIn_new _ _ w)
  have CK := Lib.hid (check16_any Rs HR.out ao cap log next w1 (HA.out.below hb1))
  unfold stV at CK
  go_wp2_with fail
  rw [← hw1]
  have HB1 := Lib.hid hb1
  clear hw1 hb1
  with_reducible refine (CK.out).mono ?_
  rintro e w2 ⟨b, rfl, hb, hbw⟩
  have HS2 := Lib.hid (HS.out.below hbw)
  have HB2 := Lib.hid (HB1.out.trans (hbw.mono HB1.out.size))
  clear hbw CK HS HB1
  cases b with
  | false =>
    have HN := Lib.hid (show ¬ Ed.Ok (stArg Rs log next) from fun h => nomatch hb.2 h)
    clear hb
    go_wp2_with fail
    go_ret3
    exact ⟨HB2.out, .inr ⟨fun h => HN.out h.1, rfl⟩⟩
  | true =>
    have HO := Lib.hid (hb.1 rfl)
    clear hb
    have z0 : w2.cell? ⟨w.heap.size, 0, none⟩ = some (.slice ao Rs.length cap) := HS2.out.cell 0
    have hn := HO.out.n16
    simp only [tbs_length] at hn
    by_cases a1 : at_ < 0
    · have d1 : decide (at_ < 0) = true := decide_eq_true a1
      go_wp2_with fail
      go_ret3
      exact ⟨HB2.out, .inr ⟨fun h => by have := h.2.1; omega, rfl⟩⟩
    · have d1 : decide (at_ < 0) = false := decide_eq_false a1
      by_cases a2 : (Rs.length : Int) ≤ at_
      · have d2 : decide ((Rs.length : Int) ≤ at_) = true := decide_eq_true a2
        go_wp2_with fail
        go_ret3
        exact ⟨HB2.out, .inr ⟨fun h => by have := h.2.2; omega, rfl⟩⟩
      · have d2 : decide ((Rs.length : Int) ≤ at_) = false := decide_eq_false a2
        obtain ⟨k, rfl⟩ : ∃ k : Nat, at_ = k := ⟨at_.toNat, by omega⟩
        have hk : k < Rs.length := by omega
        have hki : (k : Int) < (Rs.length : Int) := by omega
        obtain ⟨g, off, rfl, hc⟩ := (HA.out.below HB2.out).off k hk
        have x0 := hc.1
        clear hc
        have hk16 : (k : Int) + 1 ≤ 16 := by omega
        by_cases a3 : k + 1 < Rs.length
        · have d3 : decide ((k : Int) + 1 < (Rs.length : Int)) = true := decide_eq_true (by omega)
          have d4 : decide (k + 1 < Rs.length) = true := decide_eq_true a3
          obtain ⟨g', off', e, hc⟩ := (HA.out.below HB2.out).off (k + 1) a3
          cases e
          have x1 := hc.1
          have HT := Lib.hid (show stretchTo Rs k = (Rs.getD (k + 1) rt0).f from if_pos a3)
          have HF := Lib.hid (show ∃ f, f = (Rs.getD k rt0).f from ⟨_, rfl⟩)
          clear hc
          obtain ⟨f, hf⟩ := HF.out
          have HF := Lib.hid hf
          rw [← hf] at x0
          obtain ⟨t, ht⟩ : ∃ t, t = (Rs.getD (k + 1) rt0).f := ⟨_, rfl⟩
          have HT2 := Lib.hid (HT.out.trans ht.symm)
          rw [← ht] at x1
          clear hf ht HT
          go_wp2_with fail
          go_ret3
          exact ⟨HB2.out, .inl ⟨k, rfl, hk, HO.out, by rw [HT2.out, ← HF.out]; rfl⟩⟩
        · have d3 : decide ((k : Int) + 1 < (Rs.length : Int)) = false := decide_eq_false (by omega)
          have d4 : decide (k + 1 < Rs.length) = false := decide_eq_false a3
          have HT := Lib.hid (show stretchTo Rs k = [] from if_neg a3)
          obtain ⟨f, hf⟩ : ∃ f, f = (Rs.getD k rt0).f := ⟨_, rfl⟩
          have HF := Lib.hid hf
          rw [← hf] at x0
          clear hf
          go_wp2_with fail
          go_ret3
          exact ⟨HB2.out, .inl ⟨k, rfl, hk, HO.out, by rw [HT.out, ← HF.out]; rfl⟩⟩

end Go.Proofs.Ytfcmjgcjmldpcaa
