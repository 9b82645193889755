/- Layer 7: none, has, link, by contracts. -/
import Derived.Test.YtggflkjdpibioaaNetsK
import Derived.Test.YtggflkjdpibioaaChecked
namespace Go.Proofs.Ytggflkjdpibioaa
set_option linter.unusedVariables false
open Go Go.RowKit

theorem netNone_any {w : World} {b : Nat} {nx : Nat → Int} {ml : Nat → Ml} {n : Nat} (h : NetS w b nx ml n) :
    Calls Try.prog 27 #[.pointer (some ⟨b, 0, none⟩)] w fun e w' => e = .returned (.bool false) ∧ w = w' := by
  have c1 := h.mad
  go_enter Try.func27, Try.ntmps27
  go_wp2_with fail
  go_ret
  exact ⟨rfl, rfl⟩
theorem netHas_any {w : World} {b : Nat} {nx : Nat → Int} {ml : Nat → Ml} {n : Nat} (h : NetS w b nx ml n) (i : Int) :
    Calls Try.prog 28 #[.pointer (some ⟨b, 0, none⟩), .int .i64 i] w fun e w' => e = .returned (.bool (decide (0 ≤ i ∧ i < n))) ∧ w = w' := by
  have c1 := h.cnt
  have C1 := Lib.hid (netNone_any h)
  by_cases h0 : 0 ≤ i
  · by_cases h1 : i < n
    · have hd : decide (0 ≤ i ∧ i < (n : Int)) = true := by simp [h0, h1]
      rw [hd]
      have d1 : decide (i ≥ 0) = true := by simp [h0]
      have d2 : decide (i < (n : Int)) = true := by simp [h1]
      clear h
      go_enter Try.func28, Try.ntmps28
      go_wp2_with fail
      with_reducible refine (C1.out).mono ?_
      rintro e w1 ⟨rfl, rfl⟩
      go_wp2_with fail
      go_ret
      exact ⟨rfl, rfl⟩
    · have hd : decide (0 ≤ i ∧ i < (n : Int)) = false := by simp [h0, h1]
      rw [hd]
      have d1 : decide (i ≥ 0) = true := by simp [h0]
      have d2 : decide (i < (n : Int)) = false := by simp; omega
      clear h
      go_enter Try.func28, Try.ntmps28
      go_wp2_with fail
      with_reducible refine (C1.out).mono ?_
      rintro e w1 ⟨rfl, rfl⟩
      go_wp2_with fail
      go_ret
      exact ⟨rfl, rfl⟩
  · have hd : decide (0 ≤ i ∧ i < (n : Int)) = false := by simp [h0]
    rw [hd]
    have d1 : decide (i ≥ 0) = false := by simp; omega
    clear h
    go_enter Try.func28, Try.ntmps28
    go_wp2_with fail
    with_reducible refine (C1.out).mono ?_
    rintro e w1 ⟨rfl, rfl⟩
    go_wp2_with fail
    go_ret
    exact ⟨rfl, rfl⟩
theorem Slots.node_lt {nx : Nat → Int} {us fs : List Nat} (hs : Slots nx us fs) (j : Nat) (hj : j ≤ us.length) : node 64 us j < 66 := by
  rcases node_mem 64 us j hj with q | q
  · omega
  · have := hs.parts.2.2.2.1 _ q; omega
theorem Slots.get_lt {nx : Nat → Int} {us fs : List Nat} (hs : Slots nx us fs) (j : Nat) (hj : j < us.length) : us.getD j 0 < 64 := by
  have hmem : us.getD j 0 ∈ us := by
    simp only [List.getD, List.getElem?_eq_getElem hj, Option.getD_some]
    exact List.getElem_mem _
  exact hs.parts.2.2.2.1 _ hmem
theorem netLink_any {w : World} {b : Nat} {nx : Nat → Int} {ml : Nat → Ml} {n : Nat} {us fs : List Nat} (h : NetS w b nx ml n) (hs : Slots nx us fs) (i : Nat) (hi : i ≤ us.length) :
    Calls Try.prog 29 #[.pointer (some ⟨b, 0, none⟩), .int .i64 i] w fun e w' => e = .returned (.pointer (some ⟨b, cel (node 64 us i), none⟩)) ∧ Below w.heap.size w w' := by
  have HN := Lib.hid h
  have HS := Lib.hid hs
  clear h hs
  have hlen := HS.out.all
  go_enter Try.func29, Try.ntmps29
  go_wp2_with fail
  go_loopw [5, 10] (fun p k wr => ∃ j : Nat, j ≤ i ∧ k = .int .i64 j ∧ p = .pointer (some ⟨b, cel (node 64 us j), none⟩) ∧ Below w.heap.size w wr) (fun _ k _ => i - (intOf k).toNat)
  case atStart => exact ⟨0, by omega, rfl, rfl, Below.refl _ _⟩
  case round =>
    obtain ⟨j, hj, rfl, rfl, hb⟩ := hrel
    by_cases hlt : j < i
    · have d1 : decide ((j : Int) < (i : Int)) = true := by simp; omega
      have c1 := (HN.out.below hb).nxt (HS.out.node_lt j (by omega))
      rw [HS.out.used.link (by omega), if_pos (by omega)] at c1
      have hu := HS.out.get_lt j (by omega)
      have en : cel (node 64 us (j + 1)) = us.getD j 0 * 4 + 3 := by show cel (us.getD j 0) = _; unfold cel; exact if_pos hu
      have EN := Lib.hid en
      clear en
      generalize us.getD j 0 = u at *
      generalize cel (node 64 us j) = q at *
      have g1 : (0 : Int) ≤ (u : Int) := by omega
      have g2 : (u : Int) < 64 := by omega
      go_wp2_with fail
      go_region
      go_wp2_with fail
      go_roundw
      case rel => exact ⟨j + 1, by omega, by go_num, by rw [EN.out], hb.drew⟩
      case measure => simp [intOf]; omega
    · obtain rfl : j = i := by omega
      have d1 : decide ((j : Int) < (j : Int)) = false := by simp
      go_wp2_with fail
      go_ret
      exact ⟨rfl, hb⟩

end Go.Proofs.Ytggflkjdpibioaa
