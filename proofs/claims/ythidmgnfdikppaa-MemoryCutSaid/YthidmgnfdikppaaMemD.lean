/- Layer 15: seek, by contracts. -/
import Derived.Test.YthidmgnfdikppaaMemC
namespace Go.Proofs.Ythidmgnfdikppaa
set_option linter.unusedVariables false
set_option linter.unusedSimpArgs false
open Go Go.RowKit
attribute [local go_sem ↓] run_index_S
attribute [local go_sem] S_append S_extract

structure PgsOk (Ps : List M.Pg) : Prop where
  n : Ps.length ≤ 100000
  len : ∀ p, p ∈ Ps → 0 < p.l.length ∧ p.l.length ≤ 100000
  st : M.Stt (M.flat Ps)
theorem M.count_pre {α : Type} (f : α → Bool) (d : α) {L : List α} {a : Nat} (ha : a ≤ L.length) (h1 : ∀ j, j < a → f (L.getD j d) = true) (h2 : ∀ j, a ≤ j → j < L.length → f (L.getD j d) = false) : (L.filter f).length = a := by
  conv => lhs; rw [← List.take_append_drop a L]
  rw [List.filter_append]
  have e1 : (L.take a).filter f = L.take a := List.filter_eq_self.2 (fun x hx => by
    obtain ⟨j, hj, e⟩ := List.getElem_of_mem hx
    rw [List.length_take] at hj
    rw [List.getElem_take] at e
    have := h1 j (by omega)
    rwa [M.gD15 L j d (by omega), e] at this)
  have e2 : (L.drop a).filter f = [] := List.filter_eq_nil_iff.2 (fun x hx => by
    obtain ⟨j, hj, e⟩ := List.getElem_of_mem hx
    rw [List.length_drop] at hj
    rw [List.getElem_drop] at e
    have := h2 (a + j) (by omega) (by omega)
    rw [M.gD15 L (a + j) d (by omega), e] at this
    simp [this])
  rw [e1, e2]
  simp; omega
def M.seekA (Ps : List M.Pg) (c : M.Cl) : Nat := (Ps.filter (fun p => M.aheadC (M.lastP p) c)).length
def M.seekI (l : List M.Cl) (c : M.Cl) : Nat := (l.filter (fun x => M.aheadC x c)).length
def BinR (Ps : List M.Pg) (c : M.Cl) (w : World) (e : Ending) (w' : World) : Prop := e = .returned (.tuple #[.int .i64 (M.seekA Ps c : Nat), .bool false]) ∧ Below w.heap.size w w'
theorem agV_ne (p : M.Pg) (c : M.Cl) : ¬ (agV p c = 0) := by unfold agV; split <;> decide
theorem agV_neg {p : M.Pg} {c : M.Cl} (h : M.aheadC (M.lastP p) c = true) : agV p c = -1 := if_pos h
theorem agV_pos {p : M.Pg} {c : M.Cl} (h : M.aheadC (M.lastP p) c = false) : agV p c = 1 := if_neg (by rw [h]; simp)
set_option maxHeartbeats 4000000 in
set_option maxRecDepth 100000 in
theorem binary15_any (B : Nat) (pa : Option Addr) (pc : Nat) (Ps : List M.Pg) (hok : PgsOk Ps) (c : M.Cl) (w : World) (h : PgsAt B pa pc Ps w) :
    Calls Try.prog 140 #[.slice pa Ps.length pc, .agg (clA c), .func (.func 141) #[] #[]] w (BinR Ps c w) := by
  have hn := hok.n
  have hal := (Below.refl w.heap.size w).alloc (Nat.le_refl _) (.cells (clA c) 38)
  have HP := Lib.hid (h.below hal)
  have HX := Lib.hid (rowIn_new (clA c) 38 w)
  have HB0 := Lib.hid hal
  have HOK := Lib.hid hok
  have HM := Lib.hid (fun i j (hij : i ≤ j) (hj : j < Ps.length) hh => M.last_mono (c := c) hok.st (fun p hp => (hok.len p hp).1) hij hj hh)
  clear h hok hal
  go_enter Try.func140, Try.ntmps140
  go_wp2_with fail
  have hxb : w.heap.size < (w.alloc (.cells (clA c) 38)).heap.size := by rw [szA]; exact Nat.lt_succ_self _
  obtain ⟨W0, hW0⟩ : ∃ W, W = w.alloc (.cells (clA c) 38) := ⟨_, rfl⟩
  rw [← hW0] at HP HX HB0 hxb
  obtain ⟨xb, hxb2⟩ : ∃ x, x = w.heap.size := ⟨_, rfl⟩
  rw [← hxb2] at HX hxb
  have HW0 := Lib.hid hW0
  have HXB := Lib.hid hxb2
  have hW0' : w.alloc (.cells #[.string (S c.key), .int .i64 c.seq, .string (S c.val)] 38) = W0 := hW0.symm
  try rw [hW0']
  try rw [← hxb2]
  clear hW0 hxb2 hW0'
  go_loopw [9, 10] (fun vi vj wr => ∃ i j : Nat, i ≤ j ∧ j ≤ Ps.length ∧ vi = .int .i64 i ∧ vj = .int .i64 j ∧ Hid (∀ k, k < i → M.aheadC (M.lastP (Ps.getD k M.pg0)) c = true) ∧ Hid (∀ k, j ≤ k → k < Ps.length → M.aheadC (M.lastP (Ps.getD k M.pg0)) c = false) ∧ Hid (Below W0.heap.size W0 wr)) (fun vi vj _ => (intOf vj).toNat - (intOf vi).toNat)
  case atStart => exact ⟨0, Ps.length, Nat.zero_le _, Nat.le_refl _, rfl, rfl, Lib.hid (fun k hk => by omega), Lib.hid (fun k h1 h2 => by omega), Lib.hid (Below.refl _ _)⟩
  case round =>
    obtain ⟨i, j, hij, hj, rfl, rfl, H1, H2, HB⟩ := hrel
    have HPr := Lib.hid (HP.out.below HB.out)
    have HXr := Lib.hid (HX.out.below HB.out)
    by_cases hlt : i < j
    · have d1 : decide ((i : Int) < (j : Int)) = true := by simp; omega
      obtain ⟨h, hh⟩ : ∃ h, h = (i + j) / 2 := ⟨_, rfl⟩
      have h1 : i ≤ h := by omega
      have h2 : h < j := by omega
      have hc : ((i : Int) + (j : Int)) / 2 = (h : Int) := by omega
      have hhn : (h : Int) < (Ps.length : Int) := by omega
      obtain ⟨g, rfl, z0, hcl⟩ := HPr.out.at_ (j := h) (by omega)
      have hpl := HOK.out.len _ (M.getD_memP (Ps := Ps) (j := h) (by omega))
      have CA := Lib.hid (fun V (hV : PgCl V (Ps.getD h M.pg0)) => against15_any (Ps.getD h M.pg0) hpl.1 (by omega) c V hV)
      have HCL := Lib.hid (fun d os => hcl.below (below_regrown wr d os))
      have HMh := Lib.hid (fun i hi hh => HM.out i h hi (by omega) hh)
      have HMh2 := Lib.hid (fun k (hk : h ≤ k) (hkn : k < Ps.length) (hf : M.aheadC (M.lastP (Ps.getD h M.pg0)) c = false) => (show M.aheadC (M.lastP (Ps.getD k M.pg0)) c = false from by
        cases q : M.aheadC (M.lastP (Ps.getD k M.pg0)) c with
        | false => rfl
        | true => have := HM.out h k hk hkn q; rw [hf] at this; cases this))
      have HAN := Lib.hid (fun hh => agV_neg (p := Ps.getD h M.pg0) (c := c) hh)
      have HAP := Lib.hid (fun hh => agV_pos (p := Ps.getD h M.pg0) (c := c) hh)
      generalize Ps.getD h M.pg0 = p at *
      have y0 := HXr.out.cell 0
      have y1 := HXr.out.cell 1
      have y2 := HXr.out.cell 2
      have g0 := fun d os => cell_regrown z0 d os
      have g1 := fun d os => cell_regrown y0 d os
      have g2 := fun d os => cell_regrown y1 d os
      have g3 := fun d os => cell_regrown y2 d os
      clear hh z0 y0 y1 y2 hcl hpl
      cases hq : M.aheadC (M.lastP p) c with
      | true =>
        have ha := HAN.out hq
        rw [ha] at CA
        have HQ := Lib.hid hq
        clear hq ha HAN HAP
        go_wp2_with fail
        refine wp_region_quiet_below (by kernel_rfl) (by kernel_rfl) ?_
        repeat (any_goals (first | go_big_quiet_step ((first | (go_at_call 141; exact Calls.regrown_of (CA.out _ (HCL.out _ _))))) | quiet_step ((first | (go_at_call 141; exact Calls.regrown_of (CA.out _ (HCL.out _ _)))))))
        refine wpQuiet_nil ?_
        intro _ hw1
        obtain ⟨⟨d1, d1o⟩, hw1⟩ := hw1
        subst hw1
        replace HB := carry (below_regrown wr d1 d1o) HB
        clear g0 g1 g2 g3
        go_wp2_with fail
        go_roundw
        case rel => exact ⟨h + 1, j, by omega, hj, by go_num, rfl, Lib.hid (fun k hk => HMh.out k (by omega) HQ.out), H2, HB⟩
        case measure => simp [intOf]; omega
      | false =>
        have ha := HAP.out hq
        rw [ha] at CA
        have HQ := Lib.hid hq
        clear hq ha HAN HAP
        go_wp2_with fail
        refine wp_region_quiet_below (by kernel_rfl) (by kernel_rfl) ?_
        repeat (any_goals (first | go_big_quiet_step ((first | (go_at_call 141; exact Calls.regrown_of (CA.out _ (HCL.out _ _))))) | quiet_step ((first | (go_at_call 141; exact Calls.regrown_of (CA.out _ (HCL.out _ _)))))))
        refine wpQuiet_nil ?_
        intro _ hw1
        obtain ⟨⟨d1, d1o⟩, hw1⟩ := hw1
        subst hw1
        replace HB := carry (below_regrown wr d1 d1o) HB
        clear g0 g1 g2 g3
        go_wp2_with fail
        go_roundw
        case rel => exact ⟨i, h, h1, by omega, rfl, rfl, H1, Lib.hid (fun k hk hkn => HMh2.out k hk hkn HQ.out), HB⟩
        case measure => simp [intOf]; omega
    · obtain rfl : i = j := by omega
      have d1 : decide ((i : Int) < (i : Int)) = false := by simp
      by_cases hin : i < Ps.length
      · have hii : (i : Int) < (Ps.length : Int) := by omega
        obtain ⟨g, rfl, z0, hcl⟩ := HPr.out.at_ hin
        have hpl := HOK.out.len _ (M.getD_memP hin)
        have CA := Lib.hid (fun V (hV : PgCl V (Ps.getD i M.pg0)) => against15_any (Ps.getD i M.pg0) hpl.1 (by omega) c V hV)
        have HCL := Lib.hid (fun d os => hcl.below (below_regrown wr d os))
        have hav := agV_ne (Ps.getD i M.pg0) c
        generalize Ps.getD i M.pg0 = p at *
        generalize agV p c = av at *
        have hav2 : (av == 0) = false := by rw [beq_eq_false_iff_ne]; exact hav
        have y0 := HXr.out.cell 0
        have y1 := HXr.out.cell 1
        have y2 := HXr.out.cell 2
        have g0 := fun d os => cell_regrown z0 d os
        have g1 := fun d os => cell_regrown y0 d os
        have g2 := fun d os => cell_regrown y1 d os
        have g3 := fun d os => cell_regrown y2 d os
        clear z0 y0 y1 y2 hcl hpl
        go_wp2_with fail
        refine wp_region_quiet_below (by kernel_rfl) (by kernel_rfl) ?_
        repeat (any_goals (first | go_big_quiet_step ((first | (go_at_call 141; exact Calls.regrown_of (CA.out _ (HCL.out _ _))))) | quiet_step ((first | (go_at_call 141; exact Calls.regrown_of (CA.out _ (HCL.out _ _)))))))
        refine wpQuiet_nil ?_
        intro _ hw1
        obtain ⟨⟨d1, d1o⟩, hw1⟩ := hw1
        subst hw1
        replace HB := carry (below_regrown wr d1 d1o) HB
        clear g0 g1 g2 g3
        go_wp2_with fail
        go_ret2
        exact ⟨by rw [M.seekA, M.count_pre _ M.pg0 hj H1.out H2.out]; rfl, HB0.out.trans (HB.out.mono HB0.out.size)⟩
      · have hii : decide ((i : Int) < (Ps.length : Int)) = false := by simp; omega
        go_wp2_with fail
        refine wp_region_quiet_below (by kernel_rfl) (by kernel_rfl) ?_
        repeat (any_goals (first | go_big_quiet_step (fail) | quiet_step (fail)))
        refine wpQuiet_nil ?_
        intro _ hw1
        obtain ⟨⟨d1, d1o⟩, hw1⟩ := hw1
        subst hw1
        replace HB := carry (below_regrown wr d1 d1o) HB
        go_wp2_with fail
        go_ret2
        exact ⟨by rw [M.seekA, M.count_pre _ M.pg0 hj H1.out H2.out]; rfl, HB0.out.trans (HB.out.mono HB0.out.size)⟩

end Go.Proofs.Ythidmgnfdikppaa
