/- Texts of lower layers, as one. -/
import Derived.Test.YthidmgnfdikppaaMemM
import Derived.Test.YthidmgnfdikppaaInsC
import Derived.Test.YthidmgnfdikppaaZJ
import Derived.BigQuiet
/- Layer 15: memories; where a cell would stand, by contracts. -/
namespace Go.Proofs.Ythidmgnfdikppaa
set_option linter.unusedVariables false
set_option linter.unusedSimpArgs false
open Go Go.RowKit
attribute [local go_sem ↓] run_index_S
attribute [local go_sem] S_append S_extract

def pgV (p : M.Pg) : Value := .slice (some ⟨p.q, p.o, none⟩) p.l.length p.k
def pgsV (Ps : List M.Pg) : List Value := Ps.map pgV
theorem pgsV_get {Ps : List M.Pg} {j : Nat} (h : j < Ps.length) : (pgsV Ps)[j]? = some (pgV (Ps.getD j M.pg0)) := by
  simp [pgsV, List.getD, h]
theorem pgsV_one (Ps : List M.Pg) : ∀ u ∈ pgsV Ps, u.oneCell' = true := fun u hu => by
  obtain ⟨p, _, rfl⟩ := List.mem_map.1 hu
  rfl
/-- A page's cells stand where it says. -/
def PgCl (w : World) (p : M.Pg) : Prop := ∀ j, j < p.l.length → ClOff (p.l.getD j M.cl0) w p.q (p.o + j * 3)
theorem PgCl.below {w w' : World} {p : M.Pg} (h : PgCl w p) (hb : Below w.heap.size w w') : PgCl w' p := fun j hj => (h j hj).below hb
theorem PgCl.cls {w : World} {p : M.Pg} (h : PgCl w p) : ClsAt w (some ⟨p.q, p.o, none⟩) p.l := fun _ => ⟨p.q, p.o, rfl, h⟩
structure PgsAt (B : Nat) (pa : Option Addr) (pc : Nat) (Ps : List M.Pg) (w : World) : Prop where
  row : w.ownsRow B 136 1 (.slice pa Ps.length pc) Ps.length (pgsV Ps)
  each : ∀ p, p ∈ Ps → PgCl w p
theorem PgsAt.below {B : Nat} {pa : Option Addr} {pc : Nat} {Ps : List M.Pg} {w w' : World} (h : PgsAt B pa pc Ps w) (hb : Below w.heap.size w w') : PgsAt B pa pc Ps w' := ⟨ownP_below h.row hb, fun p hp => (h.each p hp).below hb⟩
theorem PgsAt.at_ {B : Nat} {pa : Option Addr} {pc : Nat} {Ps : List M.Pg} {w : World} (h : PgsAt B pa pc Ps w) {j : Nat} (hj : j < Ps.length) : ∃ g, pa = some ⟨g, 0, none⟩ ∧ w.cell? ⟨g, j, none⟩ = some (pgV (Ps.getD j M.pg0)) ∧ PgCl w (Ps.getD j M.pg0) := by
  obtain ⟨g, cap', e, _, hc⟩ := own_slice10 h.row (by omega)
  injection e with e1 e2 e3
  exact ⟨g, e1, hc j _ (pgsV_get hj), h.each _ (M.getD_memP hj)⟩
instance car_pgs {w w' : World} {B : Nat} {pa : Option Addr} {pc : Nat} {Ps : List M.Pg} : Car w w' (PgsAt B pa pc Ps w) (PgsAt B pa pc Ps w') := ⟨fun hb h => h.below hb⟩
instance car_pgCl {w w' : World} {p : M.Pg} : Car w w' (PgCl w p) (PgCl w' p) := ⟨fun hb h => h.below hb⟩

set_option maxHeartbeats 2000000 in
set_option maxRecDepth 100000 in
theorem ahead15_any (a b : M.Cl) (w : World) :
    Calls Try.prog 143 #[.agg (clA a), .agg (clA b)] w fun e w' => e = .returned (.bool (M.aheadC a b)) ∧ Below w.heap.size w w' := by
  have HB := Lib.hid (((Below.refl w.heap.size w).alloc (Nat.le_refl _) (.cells (clA a) 38)).alloc (by rw [szA]; omega) (.cells (clA b) 38))
  have HX := Lib.hid ((rowIn_new (clA a) 38 w).more (.cells (clA b) 38))
  have HY := Lib.hid (rowIn_at (clA b) 38 (w.alloc (.cells (clA a) 38)) (w.heap.size + 1) (by rw [szA]))
  have HM : Hid (M.aheadC a b = (Op.bytesLess a.key b.key || (a.key == b.key && decide (b.seq < a.seq)))) := Lib.hid rfl
  generalize M.aheadC a b = mb at *
  go_enter Try.func143, Try.ntmps143
  go_wp2_with fail
  all_goals
    go_ret
    exact ⟨ret_bool (by rw [HM.out, Bool.eq_iff_iff]; simp_all), HB.out⟩
def agV (p : M.Pg) (c : M.Cl) : Int := if M.aheadC (M.lastP p) c = true then -1 else 1
set_option maxHeartbeats 4000000 in
set_option maxRecDepth 100000 in
theorem against15_any (p : M.Pg) (hn : 0 < p.l.length) (hl : p.l.length ≤ 1000000) (c : M.Cl) (w : World) (h : PgCl w p) :
    Calls Try.prog 141 #[pgV p, .agg (clA c)] w fun e w' => e = .returned (.int .i64 (agV p c)) ∧ Below w.heap.size w w' := by
  have hal := (Below.refl w.heap.size w).alloc (Nat.le_refl _) (.cells (clA c) 38)
  have HB := Lib.hid hal
  obtain ⟨x0, x1, x2⟩ := (h (p.l.length - 1) (by omega)).below hal
  have HX := rowIn_new (clA c) 38 w
  have y0 := HX.cell 0
  have y1 := HX.cell 1
  have y2 := HX.cell 2
  have hw1 : IntKind.i64.wrap ((p.l.length : Int) - 1) = ((p.l.length - 1 : Nat) : Int) := by rw [IntWalk.i64_in _ (by omega)]; omega
  have hw2 : ((p.l.length - 1 : Nat) : Int) < (p.l.length : Int) := by omega
  have hw3 : (0 : Int) ≤ ((p.l.length - 1 : Nat) : Int) := by omega
  have CA := Lib.hid (fun V => ahead15_any (M.lastP p) c V)
  have HV : Hid (agV p c = if M.aheadC (M.lastP p) c = true then -1 else 1) := Lib.hid rfl
  have e : p.l.getD (p.l.length - 1) M.cl0 = M.lastP p := rfl
  rw [e] at x0 x1 x2
  generalize M.lastP p = d at *
  generalize agV p c = av at *
  unfold pgV
  clear h hal e
  obtain ⟨W, hW⟩ : ∃ W, W = w.alloc (.cells (clA c) 38) := ⟨_, rfl⟩
  rw [← hW] at x0 x1 x2 y0 y1 y2 HB
  have HWs : Hid (w.heap.size = w.heap.size) := Lib.hid rfl
  subst hW
  have g0 := fun d os => cell_regrown x0 d os
  have g1 := fun d os => cell_regrown x1 d os
  have g2 := fun d os => cell_regrown x2 d os
  have g3 := fun d os => cell_regrown y0 d os
  have g4 := fun d os => cell_regrown y1 d os
  have g5 := fun d os => cell_regrown y2 d os
  clear x0 x1 x2 y0 y1 y2 HX
  go_enter Try.func141, Try.ntmps141
  cases ha : M.aheadC d c with
  | true =>
    rw [ha] at CA
    have HE := Lib.hid (show -1 = av from by rw [HV.out, if_pos ha])
    clear ha HV
    go_wp2_with fail
    refine wp_region_quiet_below (by kernel_rfl) (by kernel_rfl) ?_
    repeat (any_goals (first | go_big_quiet_step ((first | (go_at_call 143; with_reducible exact Calls.regrown_of (CA.out _)))) | quiet_step ((first | (go_at_call 143; with_reducible exact Calls.regrown_of (CA.out _))))))
    refine wpQuiet_nil ?_
    intro _ hw1
    obtain ⟨⟨d1, d1o⟩, hw1⟩ := hw1
    subst hw1
    replace HB := Lib.hid (HB.out.trans ((below_regrown _ d1 d1o).mono HB.out.size))
    go_wp2_with fail
    go_ret
    exact ⟨by rw [← HE.out]; rfl, HB.out⟩
  | false =>
    rw [ha] at CA
    have HE := Lib.hid (show 1 = av from by rw [HV.out, if_neg (by rw [ha]; simp)])
    clear ha HV
    go_wp2_with fail
    refine wp_region_quiet_below (by kernel_rfl) (by kernel_rfl) ?_
    repeat (any_goals (first | go_big_quiet_step ((first | (go_at_call 143; with_reducible exact Calls.regrown_of (CA.out _)))) | quiet_step ((first | (go_at_call 143; with_reducible exact Calls.regrown_of (CA.out _))))))
    refine wpQuiet_nil ?_
    intro _ hw1
    obtain ⟨⟨d1, d1o⟩, hw1⟩ := hw1
    subst hw1
    replace HB := Lib.hid (HB.out.trans ((below_regrown _ d1 d1o).mono HB.out.size))
    go_wp2_with fail
    go_ret
    exact ⟨by rw [← HE.out]; rfl, HB.out⟩

end Go.Proofs.Ythidmgnfdikppaa

/- Layer 15: seek, by contracts. -/
namespace Go.Proofs.Ythidmgnfdikppaa
set_option linter.unusedVariables false
set_option linter.unusedSimpArgs false
open Go Go.RowKit
attribute [local go_sem ↓] run_index_S
attribute [local go_sem] S_append S_extract

structure PgsOk (Ps : List M.Pg) : Prop where
  n : Ps.length ≤ 100000
  len : ∀ p, p ∈ Ps → 0 < p.l.length ∧ p.l.length ≤ 100000
  st : M.Stt (M.flat Ps)
theorem M.count_pre {α : Type} (f : α → Bool) (d : α) {L : List α} {a : Nat} (ha : a ≤ L.length) (h1 : ∀ j, j < a → f (L.getD j d) = true) (h2 : ∀ j, a ≤ j → j < L.length → f (L.getD j d) = false) : (L.filter f).length = a := by
  conv => lhs; rw [← List.take_append_drop a L]
  rw [List.filter_append]
  have e1 : (L.take a).filter f = L.take a := List.filter_eq_self.2 (fun x hx => by
    obtain ⟨j, hj, e⟩ := List.getElem_of_mem hx
    rw [List.length_take] at hj
    rw [List.getElem_take] at e
    have := h1 j (by omega)
    rwa [M.gD15 L j d (by omega), e] at this)
  have e2 : (L.drop a).filter f = [] := List.filter_eq_nil_iff.2 (fun x hx => by
    obtain ⟨j, hj, e⟩ := List.getElem_of_mem hx
    rw [List.length_drop] at hj
    rw [List.getElem_drop] at e
    have := h2 (a + j) (by omega) (by omega)
    rw [M.gD15 L (a + j) d (by omega), e] at this
    simp [this])
  rw [e1, e2]
  simp; omega
def M.seekA (Ps : List M.Pg) (c : M.Cl) : Nat := (Ps.filter (fun p => M.aheadC (M.lastP p) c)).length
def M.seekI (l : List M.Cl) (c : M.Cl) : Nat := (l.filter (fun x => M.aheadC x c)).length
def BinR (Ps : List M.Pg) (c : M.Cl) (w : World) (e : Ending) (w' : World) : Prop := e = .returned (.tuple #[.int .i64 (M.seekA Ps c : Nat), .bool false]) ∧ Below w.heap.size w w'
theorem agV_ne (p : M.Pg) (c : M.Cl) : ¬ (agV p c = 0) := by unfold agV; split <;> decide
theorem agV_neg {p : M.Pg} {c : M.Cl} (h : M.aheadC (M.lastP p) c = true) : agV p c = -1 := if_pos h
theorem agV_pos {p : M.Pg} {c : M.Cl} (h : M.aheadC (M.lastP p) c = false) : agV p c = 1 := if_neg (by rw [h]; simp)
set_option maxHeartbeats 4000000 in
set_option maxRecDepth 100000 in
theorem binary15_any (B : Nat) (pa : Option Addr) (pc : Nat) (Ps : List M.Pg) (hok : PgsOk Ps) (c : M.Cl) (w : World) (h : PgsAt B pa pc Ps w) :
    Calls Try.prog 140 #[.slice pa Ps.length pc, .agg (clA c), .func (.func 141) #[] #[]] w (BinR Ps c w) := by
  have hn := hok.n
  have hal := (Below.refl w.heap.size w).alloc (Nat.le_refl _) (.cells (clA c) 38)
  have HP := Lib.hid (h.below hal)
  have HX := Lib.hid (rowIn_new (clA c) 38 w)
  have HB0 := Lib.hid hal
  have HOK := Lib.hid hok
  have HM := Lib.hid (fun i j (hij : i ≤ j) (hj : j < Ps.length) hh => M.last_mono (c := c) hok.st (fun p hp => (hok.len p hp).1) hij hj hh)
  clear h hok hal
  go_enter Try.func140, Try.ntmps140
  go_wp2_with fail
  have hxb : w.heap.size < (w.alloc (.cells (clA c) 38)).heap.size := by rw [szA]; exact Nat.lt_succ_self _
  obtain ⟨W0, hW0⟩ : ∃ W, W = w.alloc (.cells (clA c) 38) := ⟨_, rfl⟩
  rw [← hW0] at HP HX HB0 hxb
  obtain ⟨xb, hxb2⟩ : ∃ x, x = w.heap.size := ⟨_, rfl⟩
  rw [← hxb2] at HX hxb
  have HW0 := Lib.hid hW0
  have HXB := Lib.hid hxb2
  have hW0' : w.alloc (.cells #[.string (S c.key), .int .i64 c.seq, .string (S c.val)] 38) = W0 := hW0.symm
  try rw [hW0']
  try rw [← hxb2]
  clear hW0 hxb2 hW0'
  go_loopw [9, 10] (fun vi vj wr => ∃ i j : Nat, i ≤ j ∧ j ≤ Ps.length ∧ vi = .int .i64 i ∧ vj = .int .i64 j ∧ Hid (∀ k, k < i → M.aheadC (M.lastP (Ps.getD k M.pg0)) c = true) ∧ Hid (∀ k, j ≤ k → k < Ps.length → M.aheadC (M.lastP (Ps.getD k M.pg0)) c = false) ∧ Hid (Below W0.heap.size W0 wr)) (fun vi vj _ => (intOf vj).toNat - (intOf vi).toNat)
  case atStart => exact ⟨0, Ps.length, Nat.zero_le _, Nat.le_refl _, rfl, rfl, Lib.hid (fun k hk => by omega), Lib.hid (fun k h1 h2 => by omega), Lib.hid (Below.refl _ _)⟩
  case round =>
    obtain ⟨i, j, hij, hj, rfl, rfl, H1, H2, HB⟩ := hrel
    have HPr := Lib.hid (HP.out.below HB.out)
    have HXr := Lib.hid (HX.out.below HB.out)
    by_cases hlt : i < j
    · have d1 : decide ((i : Int) < (j : Int)) = true := by simp; omega
      obtain ⟨h, hh⟩ : ∃ h, h = (i + j) / 2 := ⟨_, rfl⟩
      have h1 : i ≤ h := by omega
      have h2 : h < j := by omega
      have hc : ((i : Int) + (j : Int)) / 2 = (h : Int) := by omega
      have hhn : (h : Int) < (Ps.length : Int) := by omega
      obtain ⟨g, rfl, z0, hcl⟩ := HPr.out.at_ (j := h) (by omega)
      have hpl := HOK.out.len _ (M.getD_memP (Ps := Ps) (j := h) (by omega))
      have CA := Lib.hid (fun V (hV : PgCl V (Ps.getD h M.pg0)) => against15_any (Ps.getD h M.pg0) hpl.1 (by omega) c V hV)
      have HCL := Lib.hid (fun d os => hcl.below (below_regrown wr d os))
      have HMh := Lib.hid (fun i hi hh => HM.out i h hi (by omega) hh)
      have HMh2 := Lib.hid (fun k (hk : h ≤ k) (hkn : k < Ps.length) (hf : M.aheadC (M.lastP (Ps.getD h M.pg0)) c = false) => (show M.aheadC (M.lastP (Ps.getD k M.pg0)) c = false from by
        cases q : M.aheadC (M.lastP (Ps.getD k M.pg0)) c with
        | false => rfl
        | true => have := HM.out h k hk hkn q; rw [hf] at this; cases this))
      have HAN := Lib.hid (fun hh => agV_neg (p := Ps.getD h M.pg0) (c := c) hh)
      have HAP := Lib.hid (fun hh => agV_pos (p := Ps.getD h M.pg0) (c := c) hh)
      generalize Ps.getD h M.pg0 = p at *
      have y0 := HXr.out.cell 0
      have y1 := HXr.out.cell 1
      have y2 := HXr.out.cell 2
      have g0 := fun d os => cell_regrown z0 d os
      have g1 := fun d os => cell_regrown y0 d os
      have g2 := fun d os => cell_regrown y1 d os
      have g3 := fun d os => cell_regrown y2 d os
      clear hh z0 y0 y1 y2 hcl hpl
      cases hq : M.aheadC (M.lastP p) c with
      | true =>
        have ha := HAN.out hq
        rw [ha] at CA
        have HQ := Lib.hid hq
        clear hq ha HAN HAP
        go_wp2_with fail
        refine wp_region_quiet_below (by kernel_rfl) (by kernel_rfl) ?_
        repeat (any_goals (first | go_big_quiet_step ((first | (go_at_call 141; exact Calls.regrown_of (CA.out _ (HCL.out _ _))))) | quiet_step ((first | (go_at_call 141; exact Calls.regrown_of (CA.out _ (HCL.out _ _)))))))
        refine wpQuiet_nil ?_
        intro _ hw1
        obtain ⟨⟨d1, d1o⟩, hw1⟩ := hw1
        subst hw1
        replace HB := carry (below_regrown wr d1 d1o) HB
        clear g0 g1 g2 g3
        go_wp2_with fail
        go_roundw
        case rel => exact ⟨h + 1, j, by omega, hj, by go_num, rfl, Lib.hid (fun k hk => HMh.out k (by omega) HQ.out), H2, HB⟩
        case measure => simp [intOf]; omega
      | false =>
        have ha := HAP.out hq
        rw [ha] at CA
        have HQ := Lib.hid hq
        clear hq ha HAN HAP
        go_wp2_with fail
        refine wp_region_quiet_below (by kernel_rfl) (by kernel_rfl) ?_
        repeat (any_goals (first | go_big_quiet_step ((first | (go_at_call 141; exact Calls.regrown_of (CA.out _ (HCL.out _ _))))) | quiet_step ((first | (go_at_call 141; exact Calls.regrown_of (CA.out _ (HCL.out _ _)))))))
        refine wpQuiet_nil ?_
        intro _ hw1
        obtain ⟨⟨d1, d1o⟩, hw1⟩ := hw1
        subst hw1
        replace HB := carry (below_regrown wr d1 d1o) HB
        clear g0 g1 g2 g3
        go_wp2_with fail
        go_roundw
        case rel => exact ⟨i, h, h1, by omega, rfl, rfl, H1, Lib.hid (fun k hk hkn => HMh2.out k hk hkn HQ.out), HB⟩
        case measure => simp [intOf]; omega
    · obtain rfl : i = j := by omega
      have d1 : decide ((i : Int) < (i : Int)) = false := by simp
      by_cases hin : i < Ps.length
      · have hii : (i : Int) < (Ps.length : Int) := by omega
        obtain ⟨g, rfl, z0, hcl⟩ := HPr.out.at_ hin
        have hpl := HOK.out.len _ (M.getD_memP hin)
        have CA := Lib.hid (fun V (hV : PgCl V (Ps.getD i M.pg0)) => against15_any (Ps.getD i M.pg0) hpl.1 (by omega) c V hV)
        have HCL := Lib.hid (fun d os => hcl.below (below_regrown wr d os))
        have hav := agV_ne (Ps.getD i M.pg0) c
        generalize Ps.getD i M.pg0 = p at *
        generalize agV p c = av at *
        have hav2 : (av == 0) = false := by rw [beq_eq_false_iff_ne]; exact hav
        have y0 := HXr.out.cell 0
        have y1 := HXr.out.cell 1
        have y2 := HXr.out.cell 2
        have g0 := fun d os => cell_regrown z0 d os
        have g1 := fun d os => cell_regrown y0 d os
        have g2 := fun d os => cell_regrown y1 d os
        have g3 := fun d os => cell_regrown y2 d os
        clear z0 y0 y1 y2 hcl hpl
        go_wp2_with fail
        refine wp_region_quiet_below (by kernel_rfl) (by kernel_rfl) ?_
        repeat (any_goals (first | go_big_quiet_step ((first | (go_at_call 141; exact Calls.regrown_of (CA.out _ (HCL.out _ _))))) | quiet_step ((first | (go_at_call 141; exact Calls.regrown_of (CA.out _ (HCL.out _ _)))))))
        refine wpQuiet_nil ?_
        intro _ hw1
        obtain ⟨⟨d1, d1o⟩, hw1⟩ := hw1
        subst hw1
        replace HB := carry (below_regrown wr d1 d1o) HB
        clear g0 g1 g2 g3
        go_wp2_with fail
        go_ret2
        exact ⟨by rw [M.seekA, M.count_pre _ M.pg0 hj H1.out H2.out]; rfl, HB0.out.trans (HB.out.mono HB0.out.size)⟩
      · have hii : decide ((i : Int) < (Ps.length : Int)) = false := by simp; omega
        go_wp2_with fail
        refine wp_region_quiet_below (by kernel_rfl) (by kernel_rfl) ?_
        repeat (any_goals (first | go_big_quiet_step (fail) | quiet_step (fail)))
        refine wpQuiet_nil ?_
        intro _ hw1
        obtain ⟨⟨d1, d1o⟩, hw1⟩ := hw1
        subst hw1
        replace HB := carry (below_regrown wr d1 d1o) HB
        go_wp2_with fail
        go_ret2
        exact ⟨by rw [M.seekA, M.count_pre _ M.pg0 hj H1.out H2.out]; rfl, HB0.out.trans (HB.out.mono HB0.out.size)⟩

end Go.Proofs.Ythidmgnfdikppaa

/- Layer 15: a memory in memory; seek, first, New, Len, Get, by contracts. -/
namespace Go.Proofs.Ythidmgnfdikppaa
set_option linter.unusedVariables false
set_option linter.unusedSimpArgs false
open Go Go.RowKit
attribute [local go_sem ↓] run_index_S
attribute [local go_sem] S_append S_extract

set_option maxHeartbeats 4000000 in
set_option maxRecDepth 100000 in
theorem seekF15_any (p : M.Pg) (c : M.Cl) (i : Nat) (hi : i < p.l.length) (pb xb : Nat) (w : World) (h : PgCl w p) (h1 : RowIn #[pgV p] 136 w pb) (h2 : RowIn (clA c) 38 w xb) :
    Calls Try.prog 142 #[.int .i64 i, .pointer (some ⟨pb, 0, none⟩), .pointer (some ⟨xb, 0, none⟩)] w fun e w' => e = .returned (.bool (!M.aheadC (p.l.getD i M.cl0) c)) ∧ Below w.heap.size w w' := by
  obtain ⟨x0, x1, x2⟩ := h i hi
  have hii : (i : Int) < (p.l.length : Int) := by omega
  have CA := Lib.hid (fun V => ahead15_any (p.l.getD i M.cl0) c V)
  generalize p.l.getD i M.cl0 = d at *
  have z0 := h1.cell 0
  have y0 := h2.cell 0
  have y1 := h2.cell 1
  have y2 := h2.cell 2
  unfold pgV at z0
  generalize M.aheadC d c = ab at *
  have g0 := fun d os => cell_regrown x0 d os
  have g1 := fun d os => cell_regrown x1 d os
  have g2 := fun d os => cell_regrown x2 d os
  have g3 := fun d os => cell_regrown y0 d os
  have g4 := fun d os => cell_regrown y1 d os
  have g5 := fun d os => cell_regrown y2 d os
  have g6 := fun d os => cell_regrown z0 d os
  clear x0 x1 x2 y0 y1 y2 z0 h h1 h2
  go_enter Try.func142, Try.ntmps142
  go_wp2_with fail
  refine wp_region_quiet_below (by kernel_rfl) (by kernel_rfl) ?_
  repeat (any_goals (first | go_big_quiet_step ((first | (go_at_call 143; with_reducible exact Calls.regrown_of (CA.out _)))) | quiet_step ((first | (go_at_call 143; with_reducible exact Calls.regrown_of (CA.out _))))))
  refine wpQuiet_nil ?_
  intro _ hw1
  obtain ⟨⟨d1, d1o⟩, hw1⟩ := hw1
  subst hw1
  have HB := Lib.hid (below_regrown w d1 d1o)
  go_wp2_with fail
  go_ret
  exact ⟨rfl, HB.out⟩
set_option maxHeartbeats 4000000 in
set_option maxRecDepth 100000 in
theorem search15_any (p : M.Pg) (hs : M.Stt p.l) (hl : p.l.length ≤ 100000) (c : M.Cl) (pb xb : Nat) (w : World) (h : PgCl w p) (h1 : RowIn #[pgV p] 136 w pb) (h2 : RowIn (clA c) 38 w xb) :
    Calls Try.prog 102 #[.int .i64 p.l.length, .func (.func 142) #[] #[.pointer (some ⟨pb, 0, none⟩), .pointer (some ⟨xb, 0, none⟩)]] w fun e w' => e = .returned (.int .i64 (M.seekI p.l c : Nat)) ∧ Below w.heap.size w w' := by
  have HT := Lib.hid (And.intro h (And.intro h1 h2))
  have HM := Lib.hid (show ∀ a b, a ≤ b → b < p.l.length → M.aheadC (p.l.getD b M.cl0) c = true → M.aheadC (p.l.getD a M.cl0) c = true from fun a b hab hb hh => by
    rcases Nat.lt_or_ge a b with q | q
    · have := List.pairwise_iff_getElem.1 hs a b (by omega) hb q
      rw [M.gD15 _ b M.cl0 hb] at hh
      rw [M.gD15 _ a M.cl0 (by omega)]
      exact M.ahead_trans this hh
    · obtain rfl : a = b := by omega
      exact hh)
  clear h h1 h2
  go_enter Try.func102, Try.ntmps102
  go_wp2_with fail
  go_loopw [5, 6] (fun vi vj wr => ∃ i j : Nat, i ≤ j ∧ j ≤ p.l.length ∧ vi = .int .i64 i ∧ vj = .int .i64 j ∧ Hid (∀ k, k < i → M.aheadC (p.l.getD k M.cl0) c = true) ∧ Hid (∀ k, j ≤ k → k < p.l.length → M.aheadC (p.l.getD k M.cl0) c = false) ∧ Hid (Below w.heap.size w wr)) (fun vi vj _ => (intOf vj).toNat - (intOf vi).toNat)
  case atStart => exact ⟨0, p.l.length, Nat.zero_le _, Nat.le_refl _, rfl, rfl, Lib.hid (fun k hk => by omega), Lib.hid (fun k h1 h2 => by omega), Lib.hid (Below.refl _ _)⟩
  case round =>
    obtain ⟨i, j, hij, hj, rfl, rfl, H1, H2, HBr⟩ := hrel
    by_cases hlt : i < j
    · have d1 : decide ((i : Int) < (j : Int)) = true := by simp; omega
      have d2 : decide (i < j) = true := by simp; omega
      obtain ⟨h, hh⟩ : ∃ h, h = (i + j) / 2 := ⟨_, rfl⟩
      have h1 : i ≤ h := by omega
      have h2 : h < j := by omega
      have hc : ((i : Int) + (j : Int)) / 2 = (h : Int) := by omega
      have CB := Lib.hid (seekF15_any p c h (by omega) pb xb wr (HT.out.1.below HBr.out) (HT.out.2.1.below HBr.out) (HT.out.2.2.below HBr.out))
      clear hh
      have HQ := Lib.hid (show (M.aheadC (p.l.getD h M.cl0) c = true → ∀ k, k < h + 1 → M.aheadC (p.l.getD k M.cl0) c = true) ∧ (M.aheadC (p.l.getD h M.cl0) c = false → ∀ k, h ≤ k → k < p.l.length → M.aheadC (p.l.getD k M.cl0) c = false) from
        ⟨fun hq k hk => HM.out k h (by omega) (by omega) hq, fun hq k hk hkn => by
          cases q : M.aheadC (p.l.getD k M.cl0) c with
          | false => rfl
          | true => have := HM.out h k hk hkn q; rw [hq] at this; cases this⟩)
      generalize M.aheadC (p.l.getD h M.cl0) c = ab at *
      go_wp2_with fail
      with_reducible refine (CB.out).mono ?_
      rintro e w1 ⟨rfl, hb⟩
      have HB1 := Lib.hid (below_step HBr.out hb)
      clear hb CB hc
      cases ab with
      | false =>
        go_wp2_with fail
        go_roundw
        case rel => exact ⟨i, h, h1, by omega, rfl, rfl, H1, Lib.hid (HQ.out.2 trivial), HB1⟩
        case measure => simp [intOf]; omega
      | true =>
        go_wp2_with fail
        go_roundw
        case rel => exact ⟨h + 1, j, by omega, hj, by go_num, rfl, Lib.hid (HQ.out.1 trivial), H2, HB1⟩
        case measure => simp [intOf]; omega
    · obtain rfl : i = j := by omega
      have d1 : decide ((i : Int) < (i : Int)) = false := by simp
      have d2 : decide (i < i) = false := by simp
      go_wp2_with fail
      go_ret
      exact ⟨by rw [M.seekI, M.count_pre _ M.cl0 hj H1.out H2.out]; rfl, HBr.out⟩

end Go.Proofs.Ythidmgnfdikppaa

/- Layer 15: a memory in memory; seek, by a contract. -/
namespace Go.Proofs.Ythidmgnfdikppaa
set_option linter.unusedVariables false
set_option linter.unusedSimpArgs false
open Go Go.RowKit
attribute [local go_sem ↓] run_index_S
attribute [local go_sem] S_append S_extract

/-- Where a page lies, and what may be written of it. -/
def PgBlk (B : Nat) (w : World) (p : M.Pg) : Prop := B ≤ p.q ∧ (∃ C, RowIn C 38 w p.q) ∧ (p.l.length = p.k ∨ (p.o = 0 ∧ p.l.length < p.k ∧ w.ownsRow B 38 3 (pgV p) p.l.length (cls p.l)))
theorem PgBlk.below {B : Nat} {w w' : World} {p : M.Pg} (h : PgBlk B w p) (hb : Below w.heap.size w w') : PgBlk B w' p := by
  obtain ⟨h1, ⟨C, h2⟩, h3⟩ := h
  refine ⟨h1, ⟨C, h2.below hb⟩, ?_⟩
  rcases h3 with h3 | ⟨a, b, c⟩
  · exact .inl h3
  · exact .inr ⟨a, b, ownP_below c hb⟩
/-- Pages of which one may be written lie in blocks of their own. -/
def PgsAp (Ps : List M.Pg) : Prop := ∀ i j, i < Ps.length → j < Ps.length → i ≠ j → (Ps.getD i M.pg0).l.length ≠ (Ps.getD i M.pg0).k → (Ps.getD i M.pg0).q ≠ (Ps.getD j M.pg0).q
structure MemAt (B b : Nat) (pa : Option Addr) (pc : Nat) (Ps : List M.Pg) (L : List M.Cl) (w : World) : Prop where
  row : RowIn #[.slice pa Ps.length pc, .int .i64 L.length, .bool true] 132 w b
  pgs : PgsAt B pa pc Ps w
  flat : M.flat Ps = L
  st : M.Stt L
  blk : ∀ p, p ∈ Ps → PgBlk B w p
  sm : ∀ p, p ∈ Ps → 0 < p.l.length ∧ p.l.length ≤ 64
  ap : PgsAp Ps
  bb : B ≤ b
  nL : L.length ≤ 50000
  okc : ∀ c, c ∈ L → ClOk c ∧ M.mayC c = true
theorem MemAt.below {B b : Nat} {pa : Option Addr} {pc : Nat} {Ps : List M.Pg} {L : List M.Cl} {w w' : World} (h : MemAt B b pa pc Ps L w) (hb : Below w.heap.size w w') : MemAt B b pa pc Ps L w' :=
  ⟨h.row.below hb, h.pgs.below hb, h.flat, h.st, fun p hp => (h.blk p hp).below hb, h.sm, h.ap, h.bb, h.nL, h.okc⟩
instance car_mem {w w' : World} {B b : Nat} {pa : Option Addr} {pc : Nat} {Ps : List M.Pg} {L : List M.Cl} : Car w w' (MemAt B b pa pc Ps L w) (MemAt B b pa pc Ps L w') := ⟨fun hb h => h.below hb⟩
theorem M.flat_len : ∀ (Ps : List M.Pg), (∀ p, p ∈ Ps → 0 < p.l.length) → Ps.length ≤ (M.flat Ps).length
  | [], _ => Nat.zero_le _
  | p :: Ps, h => by
    have h1 := h p (by simp)
    have h2 := M.flat_len Ps (fun q hq => h q (by simp [hq]))
    rw [M.flat_cons]
    simp
    omega
theorem MemAt.ok {B b : Nat} {pa : Option Addr} {pc : Nat} {Ps : List M.Pg} {L : List M.Cl} {w : World} (h : MemAt B b pa pc Ps L w) : PgsOk Ps := by
  have h1 := M.flat_len Ps (fun p hp => (h.sm p hp).1)
  rw [h.flat] at h1
  have h2 := h.nL
  exact ⟨by omega, fun p hp => by have := h.sm p hp; omega, by rw [h.flat]; exact h.st⟩
def M.seekJ (Ps : List M.Pg) (c : M.Cl) : Nat := if M.seekA Ps c = Ps.length then 0 else M.seekI (Ps.getD (M.seekA Ps c) M.pg0).l c
/-- The first places of a list for which something holds, if it holds for no later one. -/
theorem M.filter_pre {α : Type} (f : α → Bool) (d : α) : ∀ (L : List α), (∀ i j, i ≤ j → j < L.length → f (L.getD j d) = true → f (L.getD i d) = true) → (∀ j, j < (L.filter f).length → f (L.getD j d) = true) ∧ (∀ j, (L.filter f).length ≤ j → j < L.length → f (L.getD j d) = false)
  | [], _ => ⟨fun j hj => by simp at hj, fun j _ hj => by simp at hj⟩
  | x :: t, h => by
    have ih := M.filter_pre f d t (fun i j hij hj hh => h (i + 1) (j + 1) (by omega) (by simpa using hj) hh)
    cases hx : f x with
    | true =>
      rw [List.filter_cons_of_pos hx]
      refine ⟨fun j hj => ?_, fun j hj hjl => ?_⟩
      · match j with
        | 0 => exact hx
        | j + 1 => exact ih.1 j (by simpa using hj)
      · match j with
        | 0 => simp at hj
        | j + 1 => exact ih.2 j (by simpa using hj) (by simpa using hjl)
    | false =>
      have hall : ∀ j, j < (x :: t).length → f ((x :: t).getD j d) = false := fun j hj => by
        cases q : f ((x :: t).getD j d) with
        | false => rfl
        | true =>
          have h0 : f x = true := h 0 j (Nat.zero_le _) hj q
          rw [hx] at h0; cases h0
      have e : (x :: t).filter f = [] := List.filter_eq_nil_iff.2 (fun y hy => by
        obtain ⟨j, hj, e⟩ := List.getElem_of_mem hy
        have := hall j hj
        rw [M.gD15 _ j d hj, e] at this
        simp [this])
      rw [e]
      exact ⟨fun j hj => by simp at hj, fun j _ hj => hall j hj⟩
theorem M.seek_ok {Ps : List M.Pg} (hok : PgsOk Ps) (c : M.Cl) : M.SeekOk Ps c (M.seekA Ps c) (M.seekJ Ps c) := by
  have hA := M.filter_pre (fun p => M.aheadC (M.lastP p) c) M.pg0 Ps (fun i j hij hj hh => M.last_mono hok.st (fun p hp => (hok.len p hp).1) hij hj hh)
  have hle : M.seekA Ps c ≤ Ps.length := List.length_filter_le _ _
  refine M.seek_of hok.st (fun p hp => (hok.len p hp).1) hle hA.1 (fun hlt => hA.2 _ (Nat.le_refl _) hlt) (fun he => by rw [M.seekJ, if_pos he]) (fun hlt => ?_)
  have hI := M.filter_pre (fun x => M.aheadC x c) M.cl0 (Ps.getD (M.seekA Ps c) M.pg0).l (fun i j hij hj hh => by
    rcases Nat.lt_or_ge i j with q | q
    · have := List.pairwise_iff_getElem.1 (M.page_strict hok.st (M.getD_memP hlt)) i j (by omega) hj q
      rw [M.gD15 _ j M.cl0 hj] at hh
      rw [M.gD15 _ i M.cl0 (by omega)]
      exact M.ahead_trans this hh
    · obtain rfl : i = j := by omega
      exact hh)
  rw [M.seekJ, if_neg (by omega)]
  exact ⟨List.length_filter_le _ _, hI.1, hI.2⟩
def SeekR (Ps : List M.Pg) (c : M.Cl) (w : World) (e : Ending) (w' : World) : Prop := e = .returned (.tuple #[.int .i64 (M.seekA Ps c : Nat), .int .i64 (M.seekJ Ps c : Nat)]) ∧ Below w.heap.size w w'
set_option maxHeartbeats 4000000 in
set_option maxRecDepth 100000 in
theorem seek15_any (B b : Nat) (pa : Option Addr) (pc : Nat) (Ps : List M.Pg) (L : List M.Cl) (c : M.Cl) (w : World) (h : MemAt B b pa pc Ps L w) :
    Calls Try.prog 129 #[.pointer (some ⟨b, 0, none⟩), .agg (clA c)] w (SeekR Ps c w) := by
  have hok := h.ok
  have hn := hok.n
  have HOK := Lib.hid hok
  have hal := (Below.refl w.heap.size w).alloc (Nat.le_refl _) (.cells (clA c) 38)
  have HB := Lib.hid hal
  have HM := Lib.hid (h.below hal)
  have HX := Lib.hid (rowIn_new (clA c) 38 w)
  have HJ : Hid (M.seekJ Ps c = if M.seekA Ps c = Ps.length then 0 else M.seekI (Ps.getD (M.seekA Ps c) M.pg0).l c) := Lib.hid rfl
  have hle : M.seekA Ps c ≤ Ps.length := List.length_filter_le _ _
  have CB := Lib.hid (fun V (hV : PgsAt B pa pc Ps V) => binary15_any B pa pc Ps hok c V hV)
  unfold BinR at CB
  unfold SeekR
  generalize M.seekA Ps c = a at *
  generalize M.seekJ Ps c = sj at *
  have hmf : ∀ (fn : Fn) (first cap : Array Value) (w : World), (Instr.makeFunc fn first cap).run Try.prog w = .ok (.func fn first cap) w := fun _ _ _ _ => rfl
  clear h hok hal
  go_enter Try.func129, Try.ntmps129
  go_wp2_with fail
  obtain ⟨W0, hW0⟩ : ∃ W, W = w.alloc (.cells (clA c) 38) := ⟨_, rfl⟩
  rw [← hW0] at HM HX HB
  have hW0' : w.alloc (.cells #[.string (S c.key), .int .i64 c.seq, .string (S c.val)] 38) = W0 := hW0.symm
  rw [hW0']
  clear hW0 hW0'
  obtain ⟨xb, hxb⟩ : ∃ x, x = w.heap.size := ⟨_, rfl⟩
  rw [← hxb] at HX ⊢
  clear hxb
  have y0 := HX.out.cell 0
  have y1 := HX.out.cell 1
  have y2 := HX.out.cell 2
  have r0 := HM.out.row.cell 0
  have HPG := Lib.hid (fun d os => HM.out.pgs.below (below_regrown W0 d os))
  have g0 := fun d os => cell_regrown y0 d os
  have g1 := fun d os => cell_regrown y1 d os
  have g2 := fun d os => cell_regrown y2 d os
  have g3 := fun d os => cell_regrown r0 d os
  clear y0 y1 y2 r0
  refine wp_region_quiet_below (by kernel_rfl) (by kernel_rfl) ?_
  repeat (any_goals (first | go_big_quiet_step ((first | (go_at_call 140; exact Calls.regrown_of (CB.out _ (HPG.out _ _))))) | quiet_step ((first | (go_at_call 140; exact Calls.regrown_of (CB.out _ (HPG.out _ _)))))))
  refine wpQuiet_nil ?_
  intro _ hw1
  obtain ⟨⟨d1, d1o⟩, hw1⟩ := hw1
  have hbq := below_regrown W0 d1 d1o
  rw [← hw1] at hbq
  clear hw1 g0 g1 g2 g3 HPG CB
  replace HM := Lib.hid (HM.out.below hbq)
  replace HX := Lib.hid (HX.out.below hbq)
  replace HB := Lib.hid (HB.out.trans (hbq.mono HB.out.size))
  clear hbq
  rename_i w1
  have r0 := HM.out.row.cell 0
  by_cases he : a = Ps.length
  · have HE := Lib.hid (show sj = 0 from by rw [HJ.out, if_pos he])
    have d0 : ((a : Int) == (Ps.length : Int)) = true := by rw [beq_iff_eq]; omega
    have d1 : decide ((a : Int) = (Ps.length : Int)) = true := by rw [decide_eq_true_eq]; omega
    clear he
    go_wp2_with fail
    go_ret2
    exact ⟨by rw [HE.out]; rfl, HB.out⟩
  · have HE := Lib.hid (show sj = M.seekI (Ps.getD a M.pg0).l c from by rw [HJ.out, if_neg he])
    have d0 : ((a : Int) == (Ps.length : Int)) = false := by rw [beq_eq_false_iff_ne]; omega
    have d1 : decide ((a : Int) = (Ps.length : Int)) = false := by rw [decide_eq_false_iff_not]; omega
    have hlt : a < Ps.length := by omega
    have hai : (a : Int) < (Ps.length : Int) := by omega
    obtain ⟨g, rfl, z0, hcl⟩ := HM.out.pgs.at_ hlt
    have hps := M.page_strict HOK.out.st (M.getD_memP hlt)
    have hpl := (HOK.out.len _ (M.getD_memP hlt)).2
    generalize Ps.getD a M.pg0 = p at *
    have hal := (Below.refl w1.heap.size w1).alloc (Nat.le_refl _) (.cells #[pgV p] 136)
    have CS := Lib.hid (search15_any p hps hpl c w1.heap.size xb (w1.alloc (.cells #[pgV p] 136)) (hcl.below hal) (rowIn_new _ _ _) (HX.out.below hal))
    have HBA := Lib.hid (HB.out.trans (hal.mono HB.out.size))
    have HPN := rowIn_new #[pgV p] 136 w1
    have p0 := HPN.cell 0
    unfold pgV at z0 p0 CS HBA
    clear he hps hcl hal HPN
    go_wp2_with fail
    refine (CS.out).mono ?_
    rintro e w2 ⟨rfl, hb⟩
    have HBZ := Lib.hid (HBA.out.trans (hb.mono HBA.out.size))
    clear hb CS
    go_wp2_with fail
    go_ret2
    exact ⟨by rw [HE.out]; rfl, HBZ.out⟩

end Go.Proofs.Ythidmgnfdikppaa

/- Layer 15: first, New, Len and Get, by contracts. -/
namespace Go.Proofs.Ythidmgnfdikppaa
set_option linter.unusedVariables false
set_option linter.unusedSimpArgs false
open Go Go.RowKit
attribute [local go_sem ↓] run_index_S
attribute [local go_sem] S_append S_extract

/-- Ahead of all cells of a key. -/
def M.topC (key : List UInt8) : M.Cl := ⟨key, 9223372036854775807, []⟩
theorem M.ahead_top {x : M.Cl} (h : x.seq ≤ 9223372036854775807) (key : List UInt8) : M.aheadC x (M.topC key) = Op.bytesLess x.key key := by
  unfold M.aheadC M.topC
  simp only
  rw [show decide (9223372036854775807 < x.seq) = false from by rw [decide_eq_false_iff_not]; omega]
  simp
set_option maxHeartbeats 4000000 in
set_option maxRecDepth 100000 in
theorem first15_any (B b : Nat) (pa : Option Addr) (pc : Nat) (Ps : List M.Pg) (L : List M.Cl) (key : List UInt8) (w : World) (h : MemAt B b pa pc Ps L w) :
    Calls Try.prog 101 #[.pointer (some ⟨b, 0, none⟩), .string (S key)] w (SeekR Ps (M.topC key) w) := by
  have C := Lib.hid (seek15_any B b pa pc Ps L (M.topC key) w h)
  unfold SeekR at *
  generalize M.seekA Ps (M.topC key) = a at *
  generalize M.seekJ Ps (M.topC key) = j at *
  clear h
  go_enter Try.func101, Try.ntmps101
  go_wp2_with fail
  refine (C.out).mono ?_
  rintro e w1 ⟨rfl, hb⟩
  have HB := Lib.hid hb
  clear hb C
  go_wp2_with fail
  go_ret2
  exact ⟨rfl, HB.out⟩
theorem new15_any (w : World) : Calls Try.prog 50 #[] w fun e w' => e = .returned (.pointer (some ⟨w.heap.size, 0, none⟩)) ∧ w' = w.alloc (.cells #[.slice none 0 0, .int .i64 0, .bool true] 132) := by
  go_enter Try.func50, Try.ntmps50
  go_wp2_with fail
  go_ret
  exact ⟨rfl, rfl⟩
theorem memAt_new (w : World) (B : Nat) (hB : B ≤ w.heap.size) : MemAt B w.heap.size none 0 [] [] (w.alloc (.cells #[.slice none 0 0, .int .i64 0, .bool true] 132)) :=
  ⟨rowIn_new _ _ _, ⟨World.ownsRow_nil _ _ _ _, (fun p hp => by cases hp)⟩, rfl, List.Pairwise.nil, (fun p hp => by cases hp), (fun p hp => by cases hp), (fun i j hi => absurd hi (Nat.not_lt_zero _)), hB, Nat.zero_le _, (fun c hc => by cases hc)⟩
theorem len15_any (B b : Nat) (pa : Option Addr) (pc : Nat) (Ps : List M.Pg) (L : List M.Cl) (w : World) (h : MemAt B b pa pc Ps L w) :
    Calls Try.prog 53 #[.pointer (some ⟨b, 0, none⟩)] w fun e w' => e = .returned (.int .i64 L.length) ∧ w = w' := by
  have r1 := h.row.cell 1
  clear h
  go_enter Try.func53, Try.ntmps53
  go_wp2_with fail
  go_ret
  exact ⟨rfl, rfl⟩
theorem M.find_pre {key : List UInt8} : ∀ {A B : List M.Cl}, (∀ x, x ∈ A → Op.bytesLess x.key key = true) → M.findL key (A ++ B) = M.findL key B
  | [], B, _ => rfl
  | x :: A, B, h => by
    have hx := h x (by simp)
    have hne : ¬ (x.key = key) := fun e => by rw [e, M.less_irr] at hx; cases hx
    have ih := M.find_pre (key := key) (A := A) (B := B) (fun y hy => h y (by simp [hy]))
    unfold M.findL at ih ⊢
    rw [List.cons_append, List.find?_cons_of_neg (by simpa using hne)]
    exact ih
theorem M.find_post {key : List UInt8} : ∀ {B : List M.Cl}, (∀ x, x ∈ B → ¬ x.key = key) → M.findL key B = none
  | [], _ => rfl
  | x :: B, h => by
    have ih := M.find_post (key := key) (B := B) (fun y hy => h y (by simp [hy]))
    unfold M.findL at ih ⊢
    rw [List.find?_cons_of_neg (by simpa using h x (by simp))]
    exact ih
/-- What Get finds. -/
theorem M.get_seek {Ps : List M.Pg} {key : List UInt8} {a i : Nat} (h : M.SeekOk Ps (M.topC key) a i) (hst : M.Stt (M.flat Ps)) (hq : ∀ x, x ∈ M.flat Ps → x.seq ≤ 9223372036854775807) :
    M.findL key (M.flat Ps) = if a = Ps.length then none else if ((Ps.getD a M.pg0).l.getD i M.cl0).key = key then some ((Ps.getD a M.pg0).l.getD i M.cl0) else none := by
  by_cases he : a = Ps.length
  · rw [if_pos he]
    have := M.find_pre (key := key) (A := M.flat Ps) (B := []) (fun x hx => by rw [← M.ahead_top (hq x hx) key]; exact h.all he x hx)
    rw [List.append_nil] at this
    rw [this]
    rfl
  · rw [if_neg he]
    obtain ⟨A, x, B, e, eA, ex, eB, hA, hx⟩ := h.cut (by have := h.le; omega)
    rw [← ex, e]
    have hqx : ∀ y, y ∈ A ++ x :: B → y.seq ≤ 9223372036854775807 := fun y hy => hq y (by rw [e]; exact hy)
    rw [M.find_pre (fun y hy => by rw [← M.ahead_top (hqx y (by simp [hy])) key]; exact hA y hy)]
    rw [M.ahead_top (hqx x (by simp)) key] at hx
    by_cases hk : x.key = key
    · rw [if_pos hk, M.findL, List.find?_cons_of_pos (by simpa using hk)]
    · rw [if_neg hk]
      refine M.find_post (fun y hy => ?_)
      rcases List.mem_cons.1 hy with rfl | hy
      · exact hk
      · rw [e] at hst
        have h1 := (List.pairwise_cons.1 (M.strict_app hst).2.1).1 y hy
        intro hyk
        rcases M.ahead_iff.1 h1 with h2 | ⟨h2, _⟩
        · rw [hyk, hx] at h2; cases h2
        · exact hk (h2.trans hyk)
set_option maxHeartbeats 4000000 in
set_option maxRecDepth 100000 in
theorem get15_any (B b : Nat) (pa : Option Addr) (pc : Nat) (Ps : List M.Pg) (L : List M.Cl) (key : List UInt8) (w : World) (h : MemAt B b pa pc Ps L w) :
    Calls Try.prog 54 #[.pointer (some ⟨b, 0, none⟩), .string (S key)] w fun e w' => FindR9 (M.findL key L) w e w' := by
  have hal := (Below.refl w.heap.size w).alloc (Nat.le_refl _) (.cells clZ9 38)
  have HB := Lib.hid hal
  have HR := Lib.hid (rowIn_new clZ9 38 w)
  have HM := Lib.hid (h.below hal)
  have C := Lib.hid (first15_any B b pa pc Ps L key _ (h.below hal))
  have HS := Lib.hid (M.seek_ok h.ok (M.topC key))
  have HG := Lib.hid (show M.findL key L = if M.seekA Ps (M.topC key) = Ps.length then none else if ((Ps.getD (M.seekA Ps (M.topC key)) M.pg0).l.getD (M.seekJ Ps (M.topC key)) M.cl0).key = key then some ((Ps.getD (M.seekA Ps (M.topC key)) M.pg0).l.getD (M.seekJ Ps (M.topC key)) M.cl0) else none from by
    rw [← M.get_seek (M.seek_ok h.ok (M.topC key)) (by rw [h.flat]; exact h.st) (fun x hx => by rw [h.flat] at hx; exact (h.okc x hx).1.2.2.2), h.flat])
  have hpl := h.ok.len
  have hPn := h.ok.n
  unfold SeekR at C
  generalize M.seekA Ps (M.topC key) = a at *
  generalize M.seekJ Ps (M.topC key) = j at *
  have HPL := Lib.hid hpl
  clear hal h hpl
  go_enter Try.func54, Try.ntmps54
  go_wp2_with fail
  refine (C.out).mono ?_
  rintro e w1 ⟨rfl, hb⟩
  replace HB := carry hb HB
  replace HR := carry hb HR
  replace HM := carry hb HM
  clear hb C
  have r0 := HM.out.row.cell 0
  have hle := HS.out.le
  by_cases he : a = Ps.length
  · have HE := Lib.hid (show M.findL key L = none from by rw [HG.out, if_pos he])
    have d0 : ((a : Int) == (Ps.length : Int)) = true := by rw [beq_iff_eq]; omega
    have d1 : decide ((a : Int) = (Ps.length : Int)) = true := by rw [decide_eq_true_eq]; omega
    clear he hle
    go_wp2_with ((refine wpList_store_hid rfl 38 _ _ rfl w.heap.size _ rfl rfl 38 clZ9 HR.out ?_ rfl (by simp [Value.oneCell']) ?_; kernel_rfl; intro w3 hrQ hbelQ hothQ hszQ; have HXE := Lib.hid hrQ; have HBE := Lib.hid (hbelQ w.heap.size w (Nat.le_refl _) HB.out); clear hrQ hbelQ hothQ hszQ))
    try simp only [Exit.inBlock, Exit.then]
    exact bodyPost_ret (ret_rowP2 rfl _ _ w.heap.size rfl (load_struct Try.underlying38 (by kernel_rfl) HXE.out)) rfl (show FindR9 (M.findL key L) w _ _ from by rw [HE.out]; exact ⟨rfl, HBE.out⟩)
  · have d0 : ((a : Int) == (Ps.length : Int)) = false := by rw [beq_eq_false_iff_ne]; omega
    have d1 : decide ((a : Int) = (Ps.length : Int)) = false := by rw [decide_eq_false_iff_not]; omega
    have hlt : a < Ps.length := by omega
    have hai : (a : Int) < (Ps.length : Int) := by omega
    obtain ⟨g, rfl, z0, hcl⟩ := HM.out.pgs.at_ hlt
    have hjl := HS.out.in_ hlt
    replace HG := Lib.hid (HG.out.trans (if_neg he))
    clear he hle HS HPL
    generalize Ps.getD a M.pg0 = p at *
    unfold pgV at z0
    have hji : (j : Int) < (p.l.length : Int) := by omega
    obtain ⟨x0, x1, x2⟩ := hcl j hjl
    generalize p.l.getD j M.cl0 = c at *
    by_cases hk : c.key = key
    · have HE := Lib.hid (HG.out.trans (if_pos hk))
      have b0 : (c.key == key) = true := by simpa using hk
      clear hk hcl HG
      go_wp2_with ((refine wpList_store_hid rfl 38 _ _ rfl w.heap.size _ rfl rfl 38 clZ9 HR.out ?_ rfl (by simp [Value.oneCell']) ?_; kernel_rfl; intro w3 hrQ hbelQ hothQ hszQ; have HXE := Lib.hid hrQ; have HBE := Lib.hid (hbelQ w.heap.size w (Nat.le_refl _) HB.out); clear hrQ hbelQ hothQ hszQ))
      try simp only [Exit.inBlock, Exit.then]
      exact bodyPost_ret (ret_rowP2 rfl _ _ w.heap.size rfl (load_struct Try.underlying38 (by kernel_rfl) HXE.out)) rfl (show FindR9 (M.findL key L) w _ _ from by rw [HE.out]; exact ⟨rfl, HBE.out⟩)
    · have HE := Lib.hid (HG.out.trans (if_neg hk))
      have b0 : (c.key == key) = false := by rw [beq_eq_false_iff_ne]; exact hk
      clear hk hcl HG
      go_wp2_with ((refine wpList_store_hid rfl 38 _ _ rfl w.heap.size _ rfl rfl 38 clZ9 HR.out ?_ rfl (by simp [Value.oneCell']) ?_; kernel_rfl; intro w3 hrQ hbelQ hothQ hszQ; have HXE := Lib.hid hrQ; have HBE := Lib.hid (hbelQ w.heap.size w (Nat.le_refl _) HB.out); clear hrQ hbelQ hothQ hszQ))
      try simp only [Exit.inBlock, Exit.then]
      exact bodyPost_ret (ret_rowP2 rfl _ _ w.heap.size rfl (load_struct Try.underlying38 (by kernel_rfl) HXE.out)) rfl (show FindR9 (M.findL key L) w _ _ from by rw [HE.out]; exact ⟨rfl, HBE.out⟩)

end Go.Proofs.Ythidmgnfdikppaa
