/- Layer 15: a memory in memory; seek, first, New, Len, Get, by contracts. -/
import Derived.Test.YthidmgnfdikppaaMemD
namespace Go.Proofs.Ythidmgnfdikppaa
set_option linter.unusedVariables false
set_option linter.unusedSimpArgs false
open Go Go.RowKit
attribute [local go_sem ↓] run_index_S
attribute [local go_sem] S_append S_extract

set_option maxHeartbeats 4000000 in
set_option maxRecDepth 100000 in
theorem seekF15_any (p : M.Pg) (c : M.Cl) (i : Nat) (hi : i < p.l.length) (pb xb : Nat) (w : World) (h : PgCl w p) (h1 : RowIn #[pgV p] 136 w pb) (h2 : RowIn (clA c) 38 w xb) :
    Calls Try.prog 142 #[.int .i64 i, .pointer (some ⟨pb, 0, none⟩), .pointer (some ⟨xb, 0, none⟩)] w fun e w' => e = .returned (.bool (!M.aheadC (p.l.getD i M.cl0) c)) ∧ Below w.heap.size w w' := by
  obtain ⟨x0, x1, x2⟩ := h i hi
  have hii : (i : Int) < (p.l.length : Int) := by omega
  have CA := Lib.hid (fun V => ahead15_any (p.l.getD i M.cl0) c V)
  generalize p.l.getD i M.cl0 = d at *
  have z0 := h1.cell 0
  have y0 := h2.cell 0
  have y1 := h2.cell 1
  have y2 := h2.cell 2
  unfold pgV at z0
  generalize M.aheadC d c = ab at *
  have g0 := fun d os => cell_regrown x0 d os
  have g1 := fun d os => cell_regrown x1 d os
  have g2 := fun d os => cell_regrown x2 d os
  have g3 := fun d os => cell_regrown y0 d os
  have g4 := fun d os => cell_regrown y1 d os
  have g5 := fun d os => cell_regrown y2 d os
  have g6 := fun d os => cell_regrown z0 d os
  clear x0 x1 x2 y0 y1 y2 z0 h h1 h2
  go_enter Try.func142, Try.ntmps142
  go_wp2_with fail
  refine wp_region_quiet_below (by kernel_rfl) (by kernel_rfl) ?_
  repeat (any_goals (first | go_big_quiet_step ((first | (go_at_call 143; with_reducible exact Calls.regrown_of (CA.out _)))) | quiet_step ((first | (go_at_call 143; with_reducible exact Calls.regrown_of (CA.out _))))))
  refine wpQuiet_nil ?_
  intro _ hw1
  obtain ⟨⟨d1, d1o⟩, hw1⟩ := hw1
  subst hw1
  have HB := Lib.hid (below_regrown w d1 d1o)
  go_wp2_with fail
  go_ret
  exact ⟨rfl, HB.out⟩
set_option maxHeartbeats 4000000 in
set_option maxRecDepth 100000 in
theorem search15_any (p : M.Pg) (hs : M.Stt p.l) (hl : p.l.length ≤ 100000) (c : M.Cl) (pb xb : Nat) (w : World) (h : PgCl w p) (h1 : RowIn #[pgV p] 136 w pb) (h2 : RowIn (clA c) 38 w xb) :
    Calls Try.prog 102 #[.int .i64 p.l.length, .func (.func 142) #[] #[.pointer (some ⟨pb, 0, none⟩), .pointer (some ⟨xb, 0, none⟩)]] w fun e w' => e = .returned (.int .i64 (M.seekI p.l c : Nat)) ∧ Below w.heap.size w w' := by
  have HT := Lib.hid (And.intro h (And.intro h1 h2))
  have HM := Lib.hid (show ∀ a b, a ≤ b → b < p.l.length → M.aheadC (p.l.getD b M.cl0) c = true → M.aheadC (p.l.getD a M.cl0) c = true from fun a b hab hb hh => by
    rcases Nat.lt_or_ge a b with q | q
    · have := List.pairwise_iff_getElem.1 hs a b (by omega) hb q
      rw [M.gD15 _ b M.cl0 hb] at hh
      rw [M.gD15 _ a M.cl0 (by omega)]
      exact M.ahead_trans this hh
    · obtain rfl : a = b := by omega
      exact hh)
  clear h h1 h2
  go_enter Try.func102, Try.ntmps102
  go_wp2_with fail
  go_loopw [5, 6] (fun vi vj wr => ∃ i j : Nat, i ≤ j ∧ j ≤ p.l.length ∧ vi = .int .i64 i ∧ vj = .int .i64 j ∧ Hid (∀ k, k < i → M.aheadC (p.l.getD k M.cl0) c = true) ∧ Hid (∀ k, j ≤ k → k < p.l.length → M.aheadC (p.l.getD k M.cl0) c = false) ∧ Hid (Below w.heap.size w wr)) (fun vi vj _ => (intOf vj).toNat - (intOf vi).toNat)
  case atStart => exact ⟨0, p.l.length, Nat.zero_le _, Nat.le_refl _, rfl, rfl, Lib.hid (fun k hk => by omega), Lib.hid (fun k h1 h2 => by omega), Lib.hid (Below.refl _ _)⟩
  case round =>
    obtain ⟨i, j, hij, hj, rfl, rfl, H1, H2, HBr⟩ := hrel
    by_cases hlt : i < j
    · have d1 : decide ((i : Int) < (j : Int)) = true := by simp; omega
      have d2 : decide (i < j) = true := by simp; omega
      obtain ⟨h, hh⟩ : ∃ h, h = (i + j) / 2 := ⟨_, rfl⟩
      have h1 : i ≤ h := by omega
      have h2 : h < j := by omega
      have hc : ((i : Int) + (j : Int)) / 2 = (h : Int) := by omega
      have CB := Lib.hid (seekF15_any p c h (by omega) pb xb wr (HT.out.1.below HBr.out) (HT.out.2.1.below HBr.out) (HT.out.2.2.below HBr.out))
      clear hh
      have HQ := Lib.hid (show (M.aheadC (p.l.getD h M.cl0) c = true → ∀ k, k < h + 1 → M.aheadC (p.l.getD k M.cl0) c = true) ∧ (M.aheadC (p.l.getD h M.cl0) c = false → ∀ k, h ≤ k → k < p.l.length → M.aheadC (p.l.getD k M.cl0) c = false) from
        ⟨fun hq k hk => HM.out k h (by omega) (by omega) hq, fun hq k hk hkn => by
          cases q : M.aheadC (p.l.getD k M.cl0) c with
          | false => rfl
          | true => have := HM.out h k hk hkn q; rw [hq] at this; cases this⟩)
      generalize M.aheadC (p.l.getD h M.cl0) c = ab at *
      go_wp2_with fail
      with_reducible refine (CB.out).mono ?_
      rintro e w1 ⟨rfl, hb⟩
      have HB1 := Lib.hid (below_step HBr.out hb)
      clear hb CB hc
      cases ab with
      | false =>
        go_wp2_with fail
        go_roundw
        case rel => exact ⟨i, h, h1, by omega, rfl, rfl, H1, Lib.hid (HQ.out.2 trivial), HB1⟩
        case measure => simp [intOf]; omega
      | true =>
        go_wp2_with fail
        go_roundw
        case rel => exact ⟨h + 1, j, by omega, hj, by go_num, rfl, Lib.hid (HQ.out.1 trivial), H2, HB1⟩
        case measure => simp [intOf]; omega
    · obtain rfl : i = j := by omega
      have d1 : decide ((i : Int) < (i : Int)) = false := by simp
      have d2 : decide (i < i) = false := by simp
      go_wp2_with fail
      go_ret
      exact ⟨by rw [M.seekI, M.count_pre _ M.cl0 hj H1.out H2.out]; rfl, HBr.out⟩

end Go.Proofs.Ythidmgnfdikppaa
