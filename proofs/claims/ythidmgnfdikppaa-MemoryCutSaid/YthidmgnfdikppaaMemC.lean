/- Layer 15: memories; where a cell would stand, by contracts. -/
import Derived.Test.YthidmgnfdikppaaMemM
import Derived.Test.YthidmgnfdikppaaInsC
import Derived.Test.YthidmgnfdikppaaTablesH
import Derived.BigQuiet
namespace Go.Proofs.Ythidmgnfdikppaa
set_option linter.unusedVariables false
set_option linter.unusedSimpArgs false
open Go Go.RowKit
attribute [local go_sem ↓] run_index_S
attribute [local go_sem] S_append S_extract

def pgV (p : M.Pg) : Value := .slice (some ⟨p.q, p.o, none⟩) p.l.length p.k
def pgsV (Ps : List M.Pg) : List Value := Ps.map pgV
theorem pgsV_get {Ps : List M.Pg} {j : Nat} (h : j < Ps.length) : (pgsV Ps)[j]? = some (pgV (Ps.getD j M.pg0)) := by
  simp [pgsV, List.getD, h]
theorem pgsV_one (Ps : List M.Pg) : ∀ u ∈ pgsV Ps, u.oneCell' = true := fun u hu => by
  obtain ⟨p, _, rfl⟩ := List.mem_map.1 hu
  rfl
/-- A page's cells stand where it says. -/
def PgCl (w : World) (p : M.Pg) : Prop := ∀ j, j < p.l.length → ClOff (p.l.getD j M.cl0) w p.q (p.o + j * 3)
theorem PgCl.below {w w' : World} {p : M.Pg} (h : PgCl w p) (hb : Below w.heap.size w w') : PgCl w' p := fun j hj => (h j hj).below hb
theorem PgCl.cls {w : World} {p : M.Pg} (h : PgCl w p) : ClsAt w (some ⟨p.q, p.o, none⟩) p.l := fun _ => ⟨p.q, p.o, rfl, h⟩
structure PgsAt (B : Nat) (pa : Option Addr) (pc : Nat) (Ps : List M.Pg) (w : World) : Prop where
  row : w.ownsRow B 136 1 (.slice pa Ps.length pc) Ps.length (pgsV Ps)
  each : ∀ p, p ∈ Ps → PgCl w p
theorem PgsAt.below {B : Nat} {pa : Option Addr} {pc : Nat} {Ps : List M.Pg} {w w' : World} (h : PgsAt B pa pc Ps w) (hb : Below w.heap.size w w') : PgsAt B pa pc Ps w' := ⟨ownP_below h.row hb, fun p hp => (h.each p hp).below hb⟩
theorem PgsAt.at_ {B : Nat} {pa : Option Addr} {pc : Nat} {Ps : List M.Pg} {w : World} (h : PgsAt B pa pc Ps w) {j : Nat} (hj : j < Ps.length) : ∃ g, pa = some ⟨g, 0, none⟩ ∧ w.cell? ⟨g, j, none⟩ = some (pgV (Ps.getD j M.pg0)) ∧ PgCl w (Ps.getD j M.pg0) := by
  obtain ⟨g, cap', e, _, hc⟩ := own_slice10 h.row (by omega)
  injection e with e1 e2 e3
  exact ⟨g, e1, hc j _ (pgsV_get hj), h.each _ (M.getD_memP hj)⟩
instance car_pgs {w w' : World} {B : Nat} {pa : Option Addr} {pc : Nat} {Ps : List M.Pg} : Car w w' (PgsAt B pa pc Ps w) (PgsAt B pa pc Ps w') := ⟨fun hb h => h.below hb⟩
instance car_pgCl {w w' : World} {p : M.Pg} : Car w w' (PgCl w p) (PgCl w' p) := ⟨fun hb h => h.below hb⟩

set_option maxHeartbeats 2000000 in
set_option maxRecDepth 100000 in
theorem ahead15_any (a b : M.Cl) (w : World) :
    Calls Try.prog 143 #[.agg (clA a), .agg (clA b)] w fun e w' => e = .returned (.bool (M.aheadC a b)) ∧ Below w.heap.size w w' := by
  have HB := Lib.hid (((Below.refl w.heap.size w).alloc (Nat.le_refl _) (.cells (clA a) 38)).alloc (by rw [szA]; omega) (.cells (clA b) 38))
  have HX := Lib.hid ((rowIn_new (clA a) 38 w).more (.cells (clA b) 38))
  have HY := Lib.hid (rowIn_at (clA b) 38 (w.alloc (.cells (clA a) 38)) (w.heap.size + 1) (by rw [szA]))
  have HM : Hid (M.aheadC a b = (Op.bytesLess a.key b.key || (a.key == b.key && decide (b.seq < a.seq)))) := Lib.hid rfl
  generalize M.aheadC a b = mb at *
  go_enter Try.func143, Try.ntmps143
  go_wp2_with fail
  all_goals
    go_ret
    exact ⟨ret_bool (by rw [HM.out, Bool.eq_iff_iff]; simp_all), HB.out⟩
def agV (p : M.Pg) (c : M.Cl) : Int := if M.aheadC (M.lastP p) c = true then -1 else 1
set_option maxHeartbeats 4000000 in
set_option maxRecDepth 100000 in
theorem against15_any (p : M.Pg) (hn : 0 < p.l.length) (hl : p.l.length ≤ 1000000) (c : M.Cl) (w : World) (h : PgCl w p) :
    Calls Try.prog 141 #[pgV p, .agg (clA c)] w fun e w' => e = .returned (.int .i64 (agV p c)) ∧ Below w.heap.size w w' := by
  have hal := (Below.refl w.heap.size w).alloc (Nat.le_refl _) (.cells (clA c) 38)
  have HB := Lib.hid hal
  obtain ⟨x0, x1, x2⟩ := (h (p.l.length - 1) (by omega)).below hal
  have HX := rowIn_new (clA c) 38 w
  have y0 := HX.cell 0
  have y1 := HX.cell 1
  have y2 := HX.cell 2
  have hw1 : IntKind.i64.wrap ((p.l.length : Int) - 1) = ((p.l.length - 1 : Nat) : Int) := by rw [IntWalk.i64_in _ (by omega)]; omega
  have hw2 : ((p.l.length - 1 : Nat) : Int) < (p.l.length : Int) := by omega
  have hw3 : (0 : Int) ≤ ((p.l.length - 1 : Nat) : Int) := by omega
  have CA := Lib.hid (fun V => ahead15_any (M.lastP p) c V)
  have HV : Hid (agV p c = if M.aheadC (M.lastP p) c = true then -1 else 1) := Lib.hid rfl
  have e : p.l.getD (p.l.length - 1) M.cl0 = M.lastP p := rfl
  rw [e] at x0 x1 x2
  generalize M.lastP p = d at *
  generalize agV p c = av at *
  unfold pgV
  clear h hal e
  obtain ⟨W, hW⟩ : ∃ W, W = w.alloc (.cells (clA c) 38) := ⟨_, rfl⟩
  rw [← hW] at x0 x1 x2 y0 y1 y2 HB
  have HWs : Hid (w.heap.size = w.heap.size) := Lib.hid rfl
  subst hW
  have g0 := fun d os => cell_regrown x0 d os
  have g1 := fun d os => cell_regrown x1 d os
  have g2 := fun d os => cell_regrown x2 d os
  have g3 := fun d os => cell_regrown y0 d os
  have g4 := fun d os => cell_regrown y1 d os
  have g5 := fun d os => cell_regrown y2 d os
  clear x0 x1 x2 y0 y1 y2 HX
  go_enter Try.func141, Try.ntmps141
  cases ha : M.aheadC d c with
  | true =>
    rw [ha] at CA
    have HE := Lib.hid (show -1 = av from by rw [HV.out, if_pos ha])
    clear ha HV
    go_wp2_with fail
    refine wp_region_quiet_below (by kernel_rfl) (by kernel_rfl) ?_
    repeat (any_goals (first | go_big_quiet_step ((first | (go_at_call 143; with_reducible exact Calls.regrown_of (CA.out _)))) | quiet_step ((first | (go_at_call 143; with_reducible exact Calls.regrown_of (CA.out _))))))
    refine wpQuiet_nil ?_
    intro _ hw1
    obtain ⟨⟨d1, d1o⟩, hw1⟩ := hw1
    subst hw1
    replace HB := Lib.hid (HB.out.trans ((below_regrown _ d1 d1o).mono HB.out.size))
    go_wp2_with fail
    go_ret
    exact ⟨by rw [← HE.out]; rfl, HB.out⟩
  | false =>
    rw [ha] at CA
    have HE := Lib.hid (show 1 = av from by rw [HV.out, if_neg (by rw [ha]; simp)])
    clear ha HV
    go_wp2_with fail
    refine wp_region_quiet_below (by kernel_rfl) (by kernel_rfl) ?_
    repeat (any_goals (first | go_big_quiet_step ((first | (go_at_call 143; with_reducible exact Calls.regrown_of (CA.out _)))) | quiet_step ((first | (go_at_call 143; with_reducible exact Calls.regrown_of (CA.out _))))))
    refine wpQuiet_nil ?_
    intro _ hw1
    obtain ⟨⟨d1, d1o⟩, hw1⟩ := hw1
    subst hw1
    replace HB := Lib.hid (HB.out.trans ((below_regrown _ d1 d1o).mono HB.out.size))
    go_wp2_with fail
    go_ret
    exact ⟨by rw [← HE.out]; rfl, HB.out⟩

end Go.Proofs.Ythidmgnfdikppaa
