/- Layer 16: SameInts, by a contract. -/
import Derived.Test.YtfcmjgcjmldpcaaEditsD
namespace Go.Proofs.Ytfcmjgcjmldpcaa
set_option linter.unusedVariables false
set_option linter.unusedSimpArgs false
open Go Go.RowKit
attribute [local go_sem ↓] run_index_S
attribute [local go_sem] S_append S_extract

theorem take_same {a b : List Int} (h : a.take a.length = b.take b.length) : a = b := by simpa using h
theorem take_ne {a b : List Int} {k : Nat} (ha : k < a.length) (hb : k < b.length) (h : a.getD k 0 ≠ b.getD k 0) : a ≠ b := fun e => h (by rw [e])
set_option maxHeartbeats 4000000 in
theorem sameInts16_any (a b : List Int) (ha : a.length ≤ 9223372036854775807) (hb : b.length ≤ 9223372036854775807) (ao bo : Option Addr) (ca cb : Nat) (w : World) (h1 : NsAt w ao a) (h2 : NsAt w bo b) :
    Calls Try.prog 19 #[.slice ao a.length ca, .slice bo b.length cb] w fun e w' => ∃ r, e = .returned (.bool r) ∧ (r = true ↔ a = b) ∧ ∃ m, w' = w.drewN m := by
  have HA := Lib.hid h1
  have HB := Lib.hid h2
  clear h1 h2
  go_enter Try.func19, Try.ntmps19
  by_cases hl : a.length = b.length
  · have d0 : ((a.length : Int) == (b.length : Int)) = true := by simp; omega
    have HE := Lib.hid hl
    rw [← hl]
    have d1 : ((a.length : Int) != (a.length : Int)) = false := by simp
    clear d0 hl
    go_wp2_with fail
    go_loopw [5] (fun i wr => ∃ k : Nat, k ≤ a.length ∧ i = .int .i64 k ∧ Hid (a.take k = b.take k) ∧ Hid (∃ m, wr = w.drewN m)) (fun i _ => a.length - (intOf i).toNat)
    case atStart => exact ⟨0, Nat.zero_le _, rfl, Lib.hid rfl, Lib.hid ⟨0, rfl⟩⟩
    case round =>
      obtain ⟨k, hk, rfl, HS, HW⟩ := hrel
      have HWb := Lib.hid (show Below w.heap.size w wr from by obtain ⟨m, e⟩ := HW.out; rw [e]; exact below_drewN (Below.refl _ _) m)
      by_cases hlt : k < a.length
      · have hki : (k : Int) < (a.length : Int) := by omega
        have hkb : k < b.length := by have := HE.out; omega
        obtain ⟨g, off, rfl, hc⟩ := (HA.out.below HWb.out).off k hlt
        obtain ⟨g', off', rfl, hc'⟩ := (HB.out.below HWb.out).off k hkb
        have HT := Lib.hid (And.intro (Ed.take_snoc a k 0 hlt) (Ed.take_snoc b k 0 hkb))
        have HN := Lib.hid (fun h => take_ne hlt hkb h)
        clear hkb
        generalize a.getD k 0 = x at *
        generalize b.getD k 0 = y at *
        by_cases hxy : x = y
        · subst hxy
          have d2 : (x != x) = false := by simp
          have HS1 := Lib.hid (show a.take (k + 1) = b.take (k + 1) from by rw [HT.out.1, HT.out.2, HS.out])
          clear HT HN HS
          go_wp2_with fail
          go_quiet (fail)
          have HW1 := Lib.hid (show ∃ m, wr.drewN nq = w.drewN m from by obtain ⟨m, e⟩ := HW.out; exact ⟨m + nq, by rw [e, World.drewN_drewN]⟩)
          clear HWb
          generalize wr.drewN nq = w2 at *
          go_wp2_with fail
          go_roundw
          case rel => exact ⟨k + 1, by omega, by go_num, HS1, HW1⟩
          case measure => simp [intOf]; omega
        · have d2 : (x != y) = true := by simpa using hxy
          have HF := Lib.hid (HN.out hxy)
          have d3 : (x == y) = false := by simpa using hxy
          clear HT HN HS
          go_wp2_with fail
          go_quiet (fail)
          have HW1 := Lib.hid (show ∃ m, wr.drewN nq = w.drewN m from by obtain ⟨m, e⟩ := HW.out; exact ⟨m + nq, by rw [e, World.drewN_drewN]⟩)
          clear HWb
          generalize wr.drewN nq = w2 at *
          go_wp2_with fail
          go_ret
          exact ⟨false, rfl, iff_no HF.out, HW1.out⟩
      · obtain rfl : k = a.length := by omega
        have HF := Lib.hid (show a = b from by have := HS.out; rw [List.take_length, HE.out, List.take_length] at this; exact this)
        clear HS
        go_wp2_with fail
        go_ret
        exact ⟨true, rfl, ⟨fun _ => HF.out, fun _ => rfl⟩, HW.out⟩
  · have d0 : ((a.length : Int) == (b.length : Int)) = false := by simp; omega
    have HF := Lib.hid (show a ≠ b from fun e => hl (by rw [e]))
    go_wp2_with fail
    go_ret
    exact ⟨false, rfl, iff_no HF.out, 0, rfl⟩

end Go.Proofs.Ytfcmjgcjmldpcaa
