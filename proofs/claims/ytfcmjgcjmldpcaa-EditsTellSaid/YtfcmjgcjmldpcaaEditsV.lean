/- Layer 16: BeyondState, by a contract. -/
import Derived.Test.YtfcmjgcjmldpcaaEditsT
namespace Go.Proofs.Ytfcmjgcjmldpcaa
set_option linter.unusedVariables false
set_option linter.unusedSimpArgs false
open Go Go.RowKit
attribute [local go_sem ↓] run_index_S
attribute [local go_sem] S_append S_extract

def SmallT (r : Rt) : Prop := r.l.length ≤ 300 ∧ r.f.length ≤ 200
def BeyS (Rs : List Rt) (w : World) (e : Ending) (w' : World) : Prop := (e = .returned (.bool true) ∨ (e = .returned (.bool false) ∧ Rs.length ≤ 40 ∧ ∀ r, r ∈ Rs → SmallT r)) ∧ Below w.heap.size w w'
set_option maxHeartbeats 4000000 in
set_option maxRecDepth 100000 in
theorem beyondState16_any (Rs : List Rt) (hR : RtsOk Rs) (ao : Option Addr) (cap : Nat) (log next : Int) (w : World) (h : TbsAt w ao Rs) :
    Calls Try.prog 9 #[stV ao Rs.length cap log next] w (BeyS Rs w) := by
  have HL := Lib.hid hR
  have hn := hR.n
  have hb1 : Below w.heap.size w (w.alloc (.cells #[.slice ao Rs.length cap, .int .i64 log, .int .i64 next] 24)) := (Below.refl _ _).alloc (Nat.le_refl _) _
  have HA := Lib.hid (h.below hb1)
  have HB := Lib.hid hb1
  have HX := Lib.hid (bkIn_new #[.slice ao Rs.length cap, .int .i64 log, .int .i64 next] 24 w)
  clear h hR hb1
  unfold stV
  go_enter Try.func9, Try.ntmps9
  by_cases hm : 40 < Rs.length
  · have d0 : decide ((40 : Int) < (Rs.length : Int)) = true := decide_eq_true (by omega)
    have d1 : decide (40 < Rs.length) = true := decide_eq_true hm
    go_wp2_with fail
    go_ret
    exact ⟨.inl rfl, HB.out⟩
  have d0 : decide ((40 : Int) < (Rs.length : Int)) = false := decide_eq_false (by omega)
  have d1 : decide (40 < Rs.length) = false := decide_eq_false hm
  go_wp2_with fail
  clear d0 d1
  generalize hw1 : w.alloc (.cells #[.slice ao Rs.length cap, .int .i64 log, .int .i64 next] 24) = w1 at *
  clear hw1
  have z0 : w1.cell? ⟨w.heap.size, 0, none⟩ = some (.slice ao Rs.length cap) := HX.out.cell 0
  go_loopw [3] (fun i wr => ∃ k : Nat, k ≤ Rs.length ∧ i = .int .i64 k ∧ Hid (∀ r, r ∈ Rs.take k → SmallT r) ∧ w1 = wr) (fun i _ => Rs.length - (intOf i).toNat)
  case atStart => exact ⟨0, Nat.zero_le _, rfl, Lib.hid (fun r hr => by simp at hr), rfl⟩
  case round =>
    obtain ⟨k, hk, rfl, HS, rfl⟩ := hrel
    by_cases hlt : k < Rs.length
    · have hki : (k : Int) < (Rs.length : Int) := by omega
      obtain ⟨g, off, rfl, hc⟩ := HA.out.off k hlt
      obtain ⟨x0, x1, _⟩ := hc
      have HT := Lib.hid (Ed.take_snoc Rs k rt0 hlt)
      have f1 := HL.out.l _ (Ed.gD_mem (d := rt0) hlt)
      have f2 := HL.out.f _ (Ed.gD_mem (d := rt0) hlt)
      generalize Rs.getD k rt0 = r at *
      obtain ⟨f, l, o, kc⟩ := r
      simp only at x0 x1 f1 f2
      by_cases h1 : 300 < l.length
      · have d1 : decide ((300 : Int) < (l.length : Int)) = true := decide_eq_true (by omega)
        have d2 : decide (300 < l.length) = true := decide_eq_true h1
        go_wp2_with fail
        go_ret
        exact ⟨.inl rfl, HB.out⟩
      · have d1 : decide ((300 : Int) < (l.length : Int)) = false := decide_eq_false (by omega)
        have d2 : decide (300 < l.length) = false := decide_eq_false h1
        by_cases h2 : 200 < f.length
        · have d3 : decide ((200 : Int) < (f.length : Int)) = true := decide_eq_true (by omega)
          have d4 : decide (200 < f.length) = true := decide_eq_true h2
          go_wp2_with fail
          go_ret
          exact ⟨.inl rfl, HB.out⟩
        · have d3 : decide ((200 : Int) < (f.length : Int)) = false := decide_eq_false (by omega)
          have d4 : decide (200 < f.length) = false := decide_eq_false h2
          have HS1 := Lib.hid (show ∀ r, r ∈ Rs.take (k + 1) → SmallT r from fun r hr => by
            rw [HT.out, List.mem_append, List.mem_singleton] at hr
            rcases hr with hr | rfl
            · exact HS.out r hr
            · exact ⟨by simp only; omega, by simp only; omega⟩)
          clear HS HT
          go_wp2_with fail
          go_roundw
          case rel => exact ⟨k + 1, by omega, by go_num, HS1, trivial⟩
          case measure => simp [intOf]; omega
    · obtain rfl : k = Rs.length := by omega
      have HS1 := Lib.hid (show ∀ r, r ∈ Rs → SmallT r from by have := HS.out; rwa [List.take_length] at this)
      clear HS
      have e0 : decide ((Rs.length : Int) < (Rs.length : Int)) = false := by simp
      have e1 : decide (Rs.length < Rs.length) = false := by simp
      go_wp2_with fail
      go_ret
      exact ⟨.inr ⟨rfl, by omega, HS1.out⟩, HB.out⟩

end Go.Proofs.Ytfcmjgcjmldpcaa
