/- Layer 2: the law's walk, SumsPlaces. -/
import Derived.Test.YtpbdmldooehafabSumsL4
import Derived.RegionTactic
import Derived.BigRegion
import Derived.BigQuiet
import Derived.Lib.QuietBelow
namespace Go.Proofs.Ytpbdmldooehafab
set_option linter.unusedVariables false
open Go Go.RowKit
attribute [local go_sem ↓] run_index_S
attribute [local go_sem] S_append S_extract

set_option maxHeartbeats 1000000 in
set_option maxRecDepth 100000 in
theorem sumsPlaces_in (l : List UInt8) (hl : l.length ≤ 50000) (i k : Nat) (hi : i < l.length) (hk : k < l.length) (w : World) :
    Calls Try.prog 3 #[.string (S l), .int .i64 i, .int .i64 k] w fun e w' => e = .returned (.bool true) ∧ Below w.heap.size w w' := by
  have d1 : decide (l.length ≤ i) = false := by simpa using hi
  have d2 : decide (l.length ≤ k) = false := by simpa using hk
  have d3 : decide (50000 < (l.length : Int)) = false := by simp; omega
  have d4 : decide ((i : Int) < 0) = false := by simp
  have d5 : decide ((k : Int) < 0) = false := by simp
  obtain ⟨w1, cap, hrun, hat, hb1, hsz⟩ := bytes_conv (P := Try.prog) w 9 23 5 Try.underlying9 Try.underlying23 Try.underlying5 l
  have hci := hat.cell i hi
  have hck := hat.cell k hk
  have hfi := hat.free i hi
  have hfk := hat.free k hk
  obtain ⟨x, hx⟩ : ∃ x, x = B l i := ⟨_, rfl⟩
  obtain ⟨y, hy⟩ : ∃ y, y = B l k := ⟨_, rfl⟩
  rw [← hx] at hci
  rw [← hy] at hck
  have HX := Lib.hid hx
  have HY := Lib.hid hy
  have HAT := Lib.hid hat
  have HB := Lib.hid hb1
  clear hx hy hat hb1 hsz
  have hone := M.sum_swap l i k hi hk hl
  have heq : (((M.sumP ((l.set i l[k]).set k l[i]) : Nat) : Int) == ((M.sumP l : Nat) : Int)) = (x == y) := by
    have hxy : x = y ↔ l[i] = l[k] := by
      rw [HX.out, HY.out, B_at l i hi, B_at l k hk]
      exact ⟨fun e => M.u8_ext (by omega), fun e => by rw [e]⟩
    rw [Bool.eq_iff_iff, beq_iff_eq, beq_iff_eq, hxy, ← hone]; omega
  have c1 := fun W => sum0_any ((l.set i l[k]).set k l[i]) (by simp; omega) W
  have c2 := fun W => sum0_any l (by omega) W
  have hset : BytesAt ((w1.setCell ⟨w.heap.size, i, none⟩ (.int .u8 y)).setCell ⟨w.heap.size, k, none⟩ (.int .u8 x)).drew w.heap.size 5 ((l.set i l[k]).set k l[i]) := by
    have h := (HAT.out.set i hi l[k]).set k (by simpa using hk) l[i]
    rw [← B_at l k hk, ← B_at l i hi, ← HX.out, ← HY.out] at h
    exact h
  have hlen : ((l.set i l[k]).set k l[i]).length = l.length := by simp
  have hbel : Below w.heap.size w ((w1.setCell ⟨w.heap.size, i, none⟩ (.int .u8 y)).setCell ⟨w.heap.size, k, none⟩ (.int .u8 x)).drew :=
    ((HB.out.setCell (p := ⟨w.heap.size, i, none⟩) (Nat.le_refl w.heap.size) _).setCell (p := ⟨w.heap.size, k, none⟩) (Nat.le_refl w.heap.size) _).drew
  generalize (l.set i l[k]).set k l[i] = u at *
  generalize M.sumP u = su at *
  generalize M.sumP l = sl at *
  have C1 := Lib.hid c1
  have C2 := Lib.hid c2
  have HSET := Lib.hid hset
  have HBEL := Lib.hid hbel
  have HLEN := Lib.hid hlen
  have HEQ := Lib.hid heq
  clear c1 c2 hone hset hbel hlen heq
  have hixs := run_index_S (P := Try.prog) (t := 9) (l := l) (h := Try.underlying9)
  have post : ∀ (W2 : World), BytesAt W2 w.heap.size 5 u → Below w.heap.size w W2 → ∀ d os, (convert 23 9 (.slice (some ⟨w.heap.size, 0, none⟩) l.length cap)).run Try.prog (Sort.grow (redrawn W2 d) os) = .ok (.string ⟨u.toArray⟩) (Sort.grow (redrawn W2 d) os) := by
    intro W2 h2 hb2 d os
    have hlt : w.heap.size < W2.heap.size := by
      obtain ⟨C, m, h1, _⟩ := h2
      rcases Nat.lt_or_ge w.heap.size W2.heap.size with h | h
      · exact h
      · simp [Array.getElem?_eq_none h] at h1
    have := (h2.below (below_regrown W2 d os) hlt).back (P := Try.prog) 23 9 Try.underlying23 Try.underlying5 Try.underlying9 cap
    rw [HLEN.out] at this
    exact this
  have POST := Lib.hid post
  clear post hixs
  by_cases hik : i = k
  · subst hik
    have hyx : y = x := by rw [HX.out, HY.out]
    subst hyx
    have hcs : (w1.drew.setCell ⟨w.heap.size, i, none⟩ (.int .u8 y)).cell? ⟨w.heap.size, i, none⟩ = some (.int .u8 y) := by
      have h := (HAT.out.set i hi l[i]).cell i (by simpa using hi)
      rw [← B_at l i hi, ← HX.out] at h
      have e : B (l.set i l[i]) i = y := by rw [List.set_getElem_self]; exact HX.out.symm
      rw [e] at h
      exact h
    go_enter Try.func3, Try.ntmps3
    go_wp2_with fail
    go_region
    have hs2 := HSET.out
    have hbl2 := HBEL.out
    have hconv := POST.out _ hs2 hbl2
    generalize ((w1.setCell ⟨w.heap.size, i, none⟩ (.int .u8 y)).setCell ⟨w.heap.size, i, none⟩ (.int .u8 y)).drew = W2 at *
    have HS2 := Lib.hid hs2
    have HBL2 := Lib.hid hbl2
    have heq := HEQ.out
    have hxi := HX.out.symm
    have hyi := HY.out.symm
    clear hs2 hbl2
    go_wp2_with fail
    refine wp_region_quiet_below (by kernel_rfl) (by kernel_rfl) ?_
    repeat (any_goals (first | go_big_quiet_step ((first | (go_at_call 14; exact Calls.regrown_of (C1.out _)) | (go_at_call 14; exact Calls.regrown_of (C2.out _)) | (go_at_call 13; exact Calls.regrown_of (does2 _)))) | quiet_step ((first | (go_at_call 14; exact Calls.regrown_of (C1.out _)) | (go_at_call 14; exact Calls.regrown_of (C2.out _)) | (go_at_call 13; exact Calls.regrown_of (does2 _))))))
    refine wpQuiet_nil ?_
    intro _ hw1
    obtain ⟨⟨dd, oo⟩, hw1⟩ := hw1
    subst hw1
    go_wp2_with fail
    go_ret
    exact ⟨rfl, HBL2.out.trans ((below_regrown W2 dd oo).mono HBL2.out.size)⟩
  · have hik' : ¬ k = i := fun e => hik e.symm
    go_enter Try.func3, Try.ntmps3
    go_wp2_with fail
    go_region
    have hs2 := HSET.out
    have hbl2 := HBEL.out
    have hconv := POST.out _ hs2 hbl2
    generalize ((w1.setCell ⟨w.heap.size, i, none⟩ (.int .u8 y)).setCell ⟨w.heap.size, k, none⟩ (.int .u8 x)).drew = W2 at *
    have HS2 := Lib.hid hs2
    have HBL2 := Lib.hid hbl2
    have heq := HEQ.out
    have hxi := HX.out.symm
    have hyi := HY.out.symm
    clear hs2 hbl2
    go_wp2_with fail
    refine wp_region_quiet_below (by kernel_rfl) (by kernel_rfl) ?_
    repeat (any_goals (first | go_big_quiet_step ((first | (go_at_call 14; exact Calls.regrown_of (C1.out _)) | (go_at_call 14; exact Calls.regrown_of (C2.out _)) | (go_at_call 13; exact Calls.regrown_of (does2 _)))) | quiet_step ((first | (go_at_call 14; exact Calls.regrown_of (C1.out _)) | (go_at_call 14; exact Calls.regrown_of (C2.out _)) | (go_at_call 13; exact Calls.regrown_of (does2 _))))))
    refine wpQuiet_nil ?_
    intro _ hw1
    obtain ⟨⟨dd, oo⟩, hw1⟩ := hw1
    subst hw1
    go_wp2_with fail
    go_ret
    exact ⟨rfl, HBL2.out.trans ((below_regrown W2 dd oo).mono HBL2.out.size)⟩

theorem sumsPlaces_calls (l : List UInt8) (hl : l.length ≤ 140737488351232) (i : Int) (wi : (Lit.int .i64 i).wf = true) (k : Int) (wk : (Lit.int .i64 k).wf = true) (w : World) :
    Calls Try.prog 3 #[.string (S l), .int .i64 i, .int .i64 k] w fun e w' => e = .returned (.bool true) ∧ Below w.heap.size w w' := by
  by_cases h : 50000 < l.length ∨ i < 0 ∨ (l.length : Int) ≤ i ∨ k < 0 ∨ (l.length : Int) ≤ k
  · exact sumsPlaces_out l hl i k w h
  · obtain ⟨a, rfl⟩ := Int.eq_ofNat_of_zero_le (show 0 ≤ i by omega)
    obtain ⟨b, rfl⟩ := Int.eq_ofNat_of_zero_le (show 0 ≤ k by omega)
    exact sumsPlaces_in l (by omega) a b (by omega) (by omega) w

end Go.Proofs.Ytpbdmldooehafab
