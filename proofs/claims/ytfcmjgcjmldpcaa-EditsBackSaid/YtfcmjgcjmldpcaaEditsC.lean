/- Layer 16: rise, First, by contracts. -/
import Derived.Test.YtfcmjgcjmldpcaaEditsA
import Derived.Test.YtfcmjgcjmldpcaaChecked
import Derived.Handy
import Derived.Below
import Derived.Laws.Rows
import Derived.Deep.QuietTactic
namespace Go.Proofs.Ytfcmjgcjmldpcaa
set_option linter.unusedVariables false
open Go Go.RowKit
attribute [local go_sem ↓] run_index_S
attribute [local go_sem] S_append S_extract

theorem Ed.up_at {l : List Int} {next : Int} (h : Ed.up 0 next l) {k : Nat} {n : Int} (e : l.take (k + 1) = l.take k ++ [n]) : Ed.lastOf 0 (l.take k) < n ∧ n < next := by
  have h1 : Ed.up 0 next (l.take (k + 1) ++ l.drop (k + 1)) := by rw [List.take_append_drop]; exact h
  have h2 := Ed.up_app h1
  rw [e] at h2
  exact (Ed.up_snoc.1 h2).2
theorem iff_no {P : Prop} (h : ¬ P) : false = true ↔ P := ⟨(fun e => nomatch e), (fun p => absurd p h)⟩
def RiseR (l : List Int) (next : Int) (w : World) (e : Ending) (w' : World) : Prop := ∃ b, e = .returned (.bool b) ∧ (b = true ↔ Ed.rise l next) ∧ w = w'
set_option maxHeartbeats 4000000 in
theorem rise16_any (l : List Int) (hl : l.length ≤ 9223372036854775807) (next : Int) (ao : Option Addr) (cap : Nat) (w : World) (h : NsAt w ao l) :
    Calls Try.prog 34 #[.slice ao l.length cap, .int .i64 next] w (RiseR l next w) := by
  have HA := Lib.hid h
  clear h
  go_enter Try.func34, Try.ntmps34
  go_wp2_with fail
  go_loopw [5, 10] (fun lv i wr => ∃ (k : Nat) (v : Int), k ≤ l.length ∧ i = .int .i64 k ∧ lv = .int .i64 v ∧ Hid (v = Ed.lastOf 0 (l.take k)) ∧ Hid (Ed.up 0 next (l.take k)) ∧ w = wr) (fun _ i _ => l.length - (intOf i).toNat)
  case atStart => exact ⟨0, 0, Nat.zero_le _, rfl, rfl, Lib.hid rfl, Lib.hid trivial, rfl⟩
  case round =>
    obtain ⟨k, v, hk, rfl, rfl, HV, HU, rfl⟩ := hrel
    by_cases hlt : k < l.length
    · have hki : (k : Int) < (l.length : Int) := by omega
      obtain ⟨g, off, rfl, hc⟩ := HA.out.off k hlt
      have HT := Lib.hid (Ed.take_snoc l k 0 hlt)
      have HN := Lib.hid (fun (hr : Ed.rise l next) => Ed.up_at hr.1 HT.out)
      generalize l.getD k 0 = n at *
      by_cases h1 : n ≤ v
      · have d1 : decide (n ≤ v) = true := by simp; omega
        have HF := Lib.hid (show ¬ Ed.rise l next from fun hr => by have := HN.out hr; rw [← HV.out] at this; omega)
        clear HN HT
        go_wp2_with fail
        go_ret
        exact ⟨false, rfl, iff_no HF.out, rfl⟩
      · have d1 : decide (n ≤ v) = false := by simp; omega
        by_cases h2 : next ≤ n
        · have d2 : decide (next ≤ n) = true := by simp; omega
          have HF := Lib.hid (show ¬ Ed.rise l next from fun hr => by have := HN.out hr; omega)
          clear HN HT
          go_wp2_with fail
          go_ret
          exact ⟨false, rfl, iff_no HF.out, rfl⟩
        · have d2 : decide (next ≤ n) = false := by simp; omega
          have HV1 := Lib.hid (show n = Ed.lastOf 0 (l.take (k + 1)) from by rw [HT.out, Ed.lastOf_snoc])
          have HU1 := Lib.hid (show Ed.up 0 next (l.take (k + 1)) from by rw [HT.out, Ed.up_snoc]; exact ⟨HU.out, by rw [← HV.out]; omega, by omega⟩)
          clear HN HT HV HU
          go_wp2_with fail
          go_roundw
          case rel => exact ⟨k + 1, n, by omega, by go_num, rfl, HV1, HU1, trivial⟩
          case measure => simp [intOf]; omega
    · obtain rfl : k = l.length := by omega
      have HU1 := Lib.hid (show Ed.up 0 next l from by have := HU.out; rwa [List.take_length] at this)
      clear HU HV
      by_cases h1 : l.length ≤ 256
      · have d1 : decide ((l.length : Int) ≤ 256) = true := by simp; omega
        have d2 : decide (l.length ≤ 256) = true := by simp; omega
        go_wp2_with fail
        go_ret
        exact ⟨true, rfl, ⟨fun _ => ⟨HU1.out, h1⟩, fun _ => rfl⟩, rfl⟩
      · have d1 : decide ((l.length : Int) ≤ 256) = false := by simp; omega
        have d2 : decide (l.length ≤ 256) = false := by simp; omega
        go_wp2_with fail
        go_ret
        exact ⟨false, rfl, iff_no (fun h => h1 h.2), rfl⟩

end Go.Proofs.Ytfcmjgcjmldpcaa
