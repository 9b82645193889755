/- Layer 19: a tablet that is made, and what the document says of it, by a contract. -/
import Derived.Test.YtnhljlmelbiljaaGreatTbltH
import Derived.Test.YtnhljlmelbiljaaGreatTbltU
import Derived.Test.YtnhljlmelbiljaaGreatZJ
import Derived.OneCell
namespace Go.Proofs.YtnhljlmelbiljaaGreat
set_option linter.unusedVariables false
set_option linter.unusedSimpArgs false
open Go Go.RowKit
attribute [local go_sem ↓] run_index_S
attribute [local go_sem] S_append S_extract

theorem tab_len19 {L : List M.Cl} (h : M.srt none L = true) (hl : L.length ≤ 300) : (M.tableT L).length ≤ 90000 := by
  have h1 := M.body_len h (M.many L)
  have h2 := M.idx_len h (M.many L)
  have h3 := (M.putN_length (M.many L)).2
  have h4 : M.many L ≤ 75 := by unfold M.many; omega
  rw [M.tab_len]
  unfold M.bodyT M.idxT
  rw [List.length_append]
  omega
theorem buildOk19 (l : List M.Cl) (hs : M.srt none l = true) (hl : l.length ≤ 300) (ao : Option Addr) (cap : Nat) (hc : l.length ≤ cap) (w : World) (h : ClsAt w ao l) (hv : ∀ c ∈ l, ClOk c) :
    Calls Tryz.prog 23 #[.slice ao l.length cap] w fun e w' => e = .returned (.tuple #[.string (S (M.tableT l)), .int .i64 0]) ∧ Below w.heap.size w w' := by
  have := build10_any l (by omega) ao cap hc w h hv
  unfold BuildR at this
  rw [bE_ok hs (by omega)] at this
  exact this
theorem openOk19 (l : List M.Cl) (hs : M.srt none l = true) (hl : l.length ≤ 300) (w : World) (hv : ∀ c ∈ l, ClOk c) :
    Calls Tryz.prog 24 #[.string (S (M.tableT l))] w fun e w' => ∃ p, e = .returned (.tuple #[.pointer (some ⟨p, 0, none⟩), .int .i64 0]) ∧ TpOk w' ⟨some p, l⟩ ∧ Below w.heap.size w w' := by
  refine (open10_any (M.tableT l) (by have := tab_len19 hs hl; omega) w).mono ?_
  intro e w' h
  unfold OpenR10 at h
  rw [M.openT_some (⟨hs, by omega, fun c hc => (hv c hc).2.2.h2, rfl⟩ : M.IsT (M.tableT l) l)] at h
  obtain ⟨⟨p, e1, ht⟩, hb⟩ := h
  exact ⟨p, e1, ⟨fun q hq => by injection hq with hq; subst hq; exact ht, fun hq => (by cases hq), hs, by show l.length ≤ _; omega, hv⟩, hb⟩
theorem ret_cells2 {fn : Func} {p q r : Tmp} {T U : TypeId} {v u : Value} (hr : fn.results = #[.cell p T, .cell q U, .tmp r]) (tmps : Array Value) (w : World) (g h : Nat) (hp : tmps.getD p undef = .pointer (some ⟨g, 0, none⟩)) (hq : tmps.getD q undef = .pointer (some ⟨h, 0, none⟩)) (hl : (loadVar T ⟨g, 0, none⟩).run Tryz.prog w = .ok v w) (hm : (loadVar U ⟨h, 0, none⟩).run Tryz.prog w = .ok u w) :
    (results fn tmps).run Tryz.prog w = .ok (.tuple #[v, u, tmps.getD r undef]) w := by
  have hp' : tmps[p]?.getD undef = .pointer (some ⟨g, 0, none⟩) := by simpa using hp
  have hq' : tmps[q]?.getD undef = .pointer (some ⟨h, 0, none⟩) := by simpa using hq
  simp [results, hr, hp', hq', asAddr, hl, hm]
theorem infoPt_parts : ∃ (i0 : TypeInfo) (z : Value), Tryz.prog.info? 59 = some i0 ∧ i0.zero = some z ∧ i0.size = 1 ∧ i0.bytes = 8 ∧ z.cells.size = 1 := by
  have h : (Tryz.prog.info? 59).map (fun i => (i.zero.map (fun z => z.cells.size), i.size, i.bytes)) = some (some 1, 1, 8) := by kernel_rfl
  cases hi : Tryz.prog.info? 59 with
  | none => rw [hi] at h; cases h
  | some i0 =>
    rw [hi] at h
    cases hz : i0.zero with
    | none => simp [hz] at h
    | some z =>
      simp [hz] at h
      exact ⟨i0, z, rfl, hz, h.2.1, h.2.2, h.1⟩
theorem own_off19 {w : World} {B sz : Nat} {e : TypeId} {v : Value} {n : Nat} {xs : List Value} {C : Array Value} {T : TypeId} {b : Nat} (h : w.ownsRow B e sz v n xs) (hr : RowIn C T w b) (hne : T ≠ e) (j : Nat) (u : Value) : (w.setCell ⟨b, j, none⟩ u).ownsRow B e sz v n xs :=
  ownsRow_setCell_other (a := ⟨b, j, none⟩) h (fun q => row_apart hr h hne b q rfl) u
theorem TabAt.set19 {L : List M.Cl} {p : Nat} {w : World} {C : Array Value} {T : TypeId} {b : Nat} (h : TabAt L p w) (hr : RowIn C T w b) (h1 : T ≠ 99) (h2 : T ≠ 9) (j : Nat) (u : Value) : TabAt L p (w.setCell ⟨b, j, none⟩ u) := by
  obtain ⟨B, vB, vF, k⟩ := h
  refine ⟨B, vB, vF, k.row.other (fun e => ?_) j u, own_off19 k.b hr h2 j u, own_off19 k.f hr h2 j u, k.ne⟩
  subst e
  have := hr.symm.trans k.row
  injection this with this
  injection this with _ this
  exact h1 this
theorem TabAt.grown19 {L : List M.Cl} {p : Nat} {w w' : World} {v : Value} {B sz n : Nat} {e : TypeId} {xs : List Value} (h : TabAt L p w) (ho : w.ownsRow B e sz v n xs) (hg : w.grownBy w' v.ownBlock) (h1 : 99 ≠ e) (h2 : 9 ≠ e) : TabAt L p w' := by
  obtain ⟨A, vB, vF, k⟩ := h
  exact ⟨A, vB, vF, k.row.grownP hg (fun q hq => row_apart k.row ho h1 q hq), k.b.kept hg (own_apart k.b ho h2), k.f.kept hg (own_apart k.f ho h2), k.ne⟩
theorem TpOk.map19 {w w' : World} {t : M.Tp} (h : TpOk w t) (hb : ∀ p, TabAt t.l p w → TabAt t.l p w') : TpOk w' t := ⟨fun p hp => hb p (h.at_ p hp), h.nil, h.srt, h.len, h.ok⟩
def ptsV (Ts : List M.Tp) : List Value := Ts.map (fun t => ptrT t.p)
theorem ptsV_get {Ts : List M.Tp} {j : Nat} (h : j < Ts.length) : (ptsV Ts)[j]? = some (ptrT (Ts.getD j M.tp0).p) := by simp [ptsV, List.getD, h]
/-- What holds while a tablet is made. -/
structure Md19 (w w1 : World) (b7 b8 : Nat) (f t : List UInt8) (mv : Value) (ta : Option Addr) (tc : Nat) (Ts : List M.Tp) (ro : Option Addr) (rc : Nat) (Rs : List M.Rw) (W : World) : Prop where
  r7 : RowIn (tbV f t mv ta Ts.length tc) 32 W b7
  r8 : RowIn (rtV f t ro Rs.length rc) 34 W b8
  tabs : W.ownsRow w1.heap.size 59 1 (.slice ta Ts.length tc) Ts.length (ptsV Ts)
  ok : ∀ x, x ∈ Ts → TpOk W x
  rows : W.ownsRow w1.heap.size 22 1 (.slice ro Rs.length rc) Rs.length (rwsV Rs)
  each : ∀ r, r ∈ Rs → W.ownsRow w.heap.size 38 3 (.slice r.o r.l.length r.k) r.l.length (cls r.l)
  bel : Below w1.heap.size w1 W
  l7 : w1.heap.size ≤ b7
  l8 : w1.heap.size ≤ b8
section
variable {w w1 : World} {b7 b8 : Nat} {f t : List UInt8} {mv : Value} {ta ta' : Option Addr} {tc tc' : Nat} {Ts : List M.Tp} {ro ro' : Option Addr} {rc rc' : Nat} {Rs : List M.Rw} {W W' : World}
theorem Md19.below (h : Md19 w w1 b7 b8 f t mv ta tc Ts ro rc Rs W) (hb : Below W.heap.size W W') : Md19 w w1 b7 b8 f t mv ta tc Ts ro rc Rs W' :=
  ⟨h.r7.below hb, h.r8.below hb, ownP_below h.tabs hb, fun x hx => (h.ok x hx).below hb, ownP_below h.rows hb, fun r hr => ownP_below (h.each r hr) hb, below_step h.bel hb, h.l7, h.l8⟩
theorem types19 : (32 : TypeId) ≠ 34 := by decide
theorem Md19.ne (h : Md19 w w1 b7 b8 f t mv ta tc Ts ro rc Rs W) : b7 ≠ b8 := fun e => by
  have h7 := h.r7
  rw [e] at h7
  have := h7.symm.trans h.r8
  injection this with this
  injection this with _ this
  exact types19 this
/-- One more table. -/
theorem Md19.addT (h : Md19 w w1 b7 b8 f t mv ta tc Ts ro rc Rs W) {x : M.Tp} (hx : TpOk W x) (ho : W'.ownsRow w1.heap.size 59 1 (.slice ta' (Ts.length + 1) tc') (Ts.length + 1) (ptsV Ts ++ ptsV [x])) (hg : W.grownBy W' (Value.slice ta Ts.length tc).ownBlock) :
    Md19 w w1 b7 b8 f t mv ta' tc' (Ts ++ [x]) ro rc Rs (W'.setCell ⟨b7, 3, none⟩ (.slice ta' (Ts.length + 1) tc')) := by
  have k7 : RowIn (tbV f t mv ta Ts.length tc) 32 W' b7 := h.r7.grownP hg (fun q hq => row_apart h.r7 h.tabs (by decide) q hq)
  have k8 : RowIn (rtV f t ro Rs.length rc) 34 W' b8 := h.r8.grownP hg (fun q hq => row_apart h.r8 h.tabs (by decide) q hq)
  have hl : (Ts ++ [x]).length = Ts.length + 1 := by simp
  refine ⟨?_, k8.other (fun e => h.ne e.symm) _ _, ?_, fun y hy => ?_, own_off19 (h.rows.kept hg (own_apart h.rows h.tabs (by decide))) k7 (by decide) _ _, fun r hr => own_off19 ((h.each r hr).kept hg (own_apart (h.each r hr) h.tabs (by decide))) k7 (by decide) _ _, ?_, h.l7, h.l8⟩
  · have := k7.set 3 (.slice ta' (Ts.length + 1) tc')
    rw [hl]
    exact this
  · have e : ptsV (Ts ++ [x]) = ptsV Ts ++ ptsV [x] := by simp [ptsV]
    rw [hl, e]
    exact own_off19 ho k7 (by decide) _ _
  · have hy' : TpOk W y := by
      rcases List.mem_append.1 hy with q | q
      · exact h.ok y q
      · rw [List.mem_singleton] at q; rw [q]; exact hx
    exact hy'.map19 (fun p hp => (hp.grown19 h.tabs hg (by decide) (by decide)).set19 k7 (by decide) (by decide) _ _)
  · exact (h.bel.grown hg h.bel.size (fun q hq => (h.tabs.lt q hq).1)).setCell h.l7 _
/-- One more row. -/
theorem Md19.addR (h : Md19 w w1 b7 b8 f t mv ta tc Ts ro rc Rs W) {x : M.Rw} (hx : W.ownsRow w.heap.size 38 3 (.slice x.o x.l.length x.k) x.l.length (cls x.l)) (ho : W'.ownsRow w1.heap.size 22 1 (.slice ro' (Rs.length + 1) rc') (Rs.length + 1) (rwsV Rs ++ rwsV [x])) (hg : W.grownBy W' (Value.slice ro Rs.length rc).ownBlock) :
    Md19 w w1 b7 b8 f t mv ta tc Ts ro' rc' (Rs ++ [x]) (W'.setCell ⟨b8, 2, none⟩ (.slice ro' (Rs.length + 1) rc')) := by
  have k7 : RowIn (tbV f t mv ta Ts.length tc) 32 W' b7 := h.r7.grownP hg (fun q hq => row_apart h.r7 h.rows (by decide) q hq)
  have k8 : RowIn (rtV f t ro Rs.length rc) 34 W' b8 := h.r8.grownP hg (fun q hq => row_apart h.r8 h.rows (by decide) q hq)
  have hl : (Rs ++ [x]).length = Rs.length + 1 := by simp
  refine ⟨k7.other h.ne _ _, ?_, own_off19 (h.tabs.kept hg (own_apart h.tabs h.rows (by decide))) k8 (by decide) _ _, fun y hy => ?_, ?_, fun r hr => ?_, ?_, h.l7, h.l8⟩
  · have := k8.set 2 (.slice ro' (Rs.length + 1) rc')
    rw [hl]
    exact this
  · exact (h.ok y hy).map19 (fun p hp => (hp.grown19 h.rows hg (by decide) (by decide)).set19 k8 (by decide) (by decide) _ _)
  · rw [hl, rwsV_append]
    exact own_off19 ho k8 (by decide) _ _
  · have hr' : W.ownsRow w.heap.size 38 3 (.slice r.o r.l.length r.k) r.l.length (cls r.l) := by
      rcases List.mem_append.1 hr with q | q
      · exact h.each r q
      · rw [List.mem_singleton] at q; rw [q]; exact hx
    exact own_off19 (hr'.kept hg (own_apart hr' h.rows (by decide))) k8 (by decide) _ _
  · exact (h.bel.grown hg h.bel.size (fun q hq => (h.rows.lt q hq).1)).setCell h.l8 _
end
theorem rowIn_rowT {C : Array Value} {T : TypeId} {w : World} {b c : Nat} (h : RowIn C T w b) (hne : b ≠ c) (E : Array Value) : RowIn C T (w.setRow c E) b := by
  unfold RowIn at *
  simp only [World.setRow, Array.getElem?_modify]
  rw [if_neg (Ne.symm hne)]; exact h
theorem own_rowT {w : World} {B sz : Nat} {e : TypeId} {v : Value} {n : Nat} {xs : List Value} {C : Array Value} {T : TypeId} {r : Nat} (h : w.ownsRow B e sz v n xs) (hr : RowIn C T w r) (hne : T ≠ e) (E : Array Value) : (w.setRow r E).ownsRow B e sz v n xs := by
  have hx := fun q hq => row_apart hr h hne q hq
  refine ⟨h.1, ?_⟩
  rcases h.2 with hc | ⟨g, cap, cur, rfl, hBg, hgg, rest⟩
  · exact .inl hc
  · refine .inr ⟨g, cap, cur, rfl, hBg, ?_, rest⟩
    have hne : g ≠ r := hx g rfl
    simp only [World.setRow, Array.getElem?_modify]
    rw [if_neg (Ne.symm hne)]; exact hgg
theorem onlyS_row19 (w : World) (c : Nat) (E : Array Value) : OnlyS (fun k => k = c) w (w.setRow c E) :=
  ⟨rfl, rfl, rfl, by simp [World.setRow], fun k hk hn => by simp only [World.setRow, Array.getElem?_modify]; rw [if_neg (fun e => hn e.symm)]⟩
/-- What was made, while it is handed back. -/
structure Mf19 (w : World) (b : Nat) (ta : Option Addr) (tc : Nat) (Ts : List M.Tp) (ro : Option Addr) (rc : Nat) (Rs : List M.Rw) (K0 : List M.Cl) (N : Nat) (W : World) : Prop where
  mem : ∃ B, N < B ∧ MemX (fun _ => False) B b K0 W
  tabs : W.ownsRow w.heap.size 59 1 (.slice ta Ts.length tc) Ts.length (ptsV Ts)
  ok : ∀ x, x ∈ Ts → TpOk W x
  rows : W.ownsRow w.heap.size 22 1 (.slice ro Rs.length rc) Rs.length (rwsV Rs)
  each : ∀ r, r ∈ Rs → W.ownsRow w.heap.size 38 3 (.slice r.o r.l.length r.k) r.l.length (cls r.l)
  bel : Below w.heap.size w W
theorem Mf19.below {w : World} {b : Nat} {ta : Option Addr} {tc : Nat} {Ts : List M.Tp} {ro : Option Addr} {rc : Nat} {Rs : List M.Rw} {K0 : List M.Cl} {N : Nat} {W W' : World} (h : Mf19 w b ta tc Ts ro rc Rs K0 N W) (hb : Below W.heap.size W W') : Mf19 w b ta tc Ts ro rc Rs K0 N W' := by
  obtain ⟨B, hB, hm⟩ := h.mem
  exact ⟨⟨B, hB, hm.below hb⟩, ownP_below h.tabs hb, fun x hx => (h.ok x hx).below hb, ownP_below h.rows hb, fun r hr => ownP_below (h.each r hr) hb, below_step h.bel hb⟩
theorem Mf19.setR {w : World} {b : Nat} {ta : Option Addr} {tc : Nat} {Ts : List M.Tp} {ro : Option Addr} {rc : Nat} {Rs : List M.Rw} {K0 : List M.Cl} {N : Nat} {W : World} {C : Array Value} {T : TypeId} {c : Nat} (h : Mf19 w b ta tc Ts ro rc Rs K0 N W) (hr : RowIn C T W c) (hT : T = 32 ∨ T = 34) (hw : w.heap.size ≤ c) (hc : c ≤ N) (E : Array Value) : Mf19 w b ta tc Ts ro rc Rs K0 N (W.setRow c E) := by
  have n1 : T ≠ 59 := by rcases hT with rfl | rfl <;> decide
  have n2 : T ≠ 22 := by rcases hT with rfl | rfl <;> decide
  have n3 : T ≠ 38 := by rcases hT with rfl | rfl <;> decide
  have n4 : T ≠ 9 := by rcases hT with rfl | rfl <;> decide
  have n5 : T ≠ 99 := by rcases hT with rfl | rfl <;> decide
  refine ⟨?_, own_rowT h.tabs hr n1 E, fun x hx => (h.ok x hx).map19 (fun p hp => ?_), own_rowT h.rows hr n2 E, fun r hx => own_rowT (h.each r hx) hr n3 E, below_rowT h.bel hw E⟩
  · obtain ⟨B, hB, pa, pc, Ps, h1, h2, h3⟩ := h.mem
    exact ⟨B, hB, pa, pc, Ps, h1.only (onlyS_row19 W c E) (fun k hk e => by have := (h1.ft hk).1; omega), h2, h3⟩
  · obtain ⟨A, vB, vF, k⟩ := hp
    refine ⟨A, vB, vF, rowIn_rowT k.row (fun e => ?_) E, own_rowT k.b hr n4 E, own_rowT k.f hr n4 E, k.ne⟩
    subst e
    have := hr.symm.trans k.row
    injection this with this
    injection this with _ this
    exact n5 this
theorem Mf19.tps {w : World} {b : Nat} {ta : Option Addr} {tc : Nat} {Ts : List M.Tp} {ro : Option Addr} {rc : Nat} {Rs : List M.Rw} {K0 : List M.Cl} {N : Nat} {W : World} (h : Mf19 w b ta tc Ts ro rc Rs K0 N W) : TpsAt W ta Ts := fun hn => by
  have hl : 0 < Ts.length := by cases Ts with
    | nil => exact absurd rfl hn
    | cons _ _ => simp
  obtain ⟨g, cap', e, _, hc⟩ := own_slice10 h.tabs hl
  injection e with e1 e2 e3
  refine ⟨g, 0, e1, fun j hj => ⟨?_, h.ok _ ?_⟩⟩
  · rw [Nat.zero_add]; exact hc j _ (ptsV_get hj)
  · have e : Ts.getD j M.tp0 = Ts[j] := by simp [List.getD, hj]
    rw [e]; exact List.getElem_mem hj
/-- A tablet that was made, and what the document says of it. -/
structure MadeAt (x : M.Da) (b : Nat) (ta : Option Addr) (Ts : List M.Tp) (ro : Option Addr) (Rs : List M.Rw) (w w' : World) : Prop where
  mem : ∃ B, MemX (fun _ => False) B b (M.putsL [] x.L) w'
  tabs : TpsAt w' ta Ts
  rows : RwsAt w' ro Rs
  same : M.rls Rs = M.putsL [] x.L :: M.tls Ts
  tls : M.tls Ts = x.R.map (fun r => M.putsL [] r.l)
  bel : Below w.heap.size w w'
def MadeR (x : M.Da) (w : World) (e : Ending) (w' : World) : Prop := ∃ b ta tc Ts ro rc Rs, e = .returned (.tuple #[.agg (tbV x.f x.t (.pointer (some ⟨b, 0, none⟩)) ta Ts.length tc), .agg (rtV x.f x.t ro Rs.length rc), .bool true]) ∧ MadeAt x b ta Ts ro Rs w w' ∧ Rs.length ≤ rc
set_option maxHeartbeats 8000000 in
set_option maxRecDepth 100000 in
theorem made19_any (x : M.Da) (w : World) (h : DaAt w x) (hs : SmallDa x) (hl : ∀ c, c ∈ x.L → ClOk c) (hr : ∀ r, r ∈ x.R → ∀ c, c ∈ r.l → ClOk c) :
    Calls Tryz.prog 11 #[.agg (daV x)] w (MadeR x w) := by
  obtain ⟨f, t, L, Lo, Lk, R, Ro, Rk⟩ := x
  obtain ⟨i0, z0, hi0, hz0, hz1, hz2, hz3⟩ := infoPt_parts
  obtain ⟨j0, y0, hj0, hy0, hy1, hy2, hy3⟩ := infoRw_parts
  have hB0 : Below w.heap.size w (((w.alloc (.cells (daV ⟨f, t, L, Lo, Lk, R, Ro, Rk⟩) 25)).alloc (.cells (tbV [] [] (.pointer none) none 0 0) 32)).alloc (.cells (rtV [] [] none 0 0) 34)) := (((Below.refl w.heap.size w).alloc (Nat.le_refl _) _).alloc (by rw [szA]; omega) _).alloc (by rw [szA, szA]; omega) _
  have HB := Lib.hid hB0
  have HR0 := Lib.hid (show RowIn (daV ⟨f, t, L, Lo, Lk, R, Ro, Rk⟩) 25 (((w.alloc (.cells (daV ⟨f, t, L, Lo, Lk, R, Ro, Rk⟩) 25)).alloc (.cells (tbV [] [] (.pointer none) none 0 0) 32)).alloc (.cells (rtV [] [] none 0 0) 34)) w.heap.size from ((rowIn_new _ _ w).more _).more _)
  have HR2 := Lib.hid (show RowIn (tbV [] [] (.pointer none) none 0 0) 32 (((w.alloc (.cells (daV ⟨f, t, L, Lo, Lk, R, Ro, Rk⟩) 25)).alloc (.cells (tbV [] [] (.pointer none) none 0 0) 32)).alloc (.cells (rtV [] [] none 0 0) 34)) (w.heap.size + 1) from (show RowIn (tbV [] [] (.pointer none) none 0 0) 32 ((w.alloc (.cells (daV ⟨f, t, L, Lo, Lk, R, Ro, Rk⟩) 25)).alloc (.cells (tbV [] [] (.pointer none) none 0 0) 32)) (w.heap.size + 1) from rowIn_at _ _ _ _ (by rw [szA])).more _)
  have HR3 := Lib.hid (show RowIn (rtV [] [] none 0 0) 34 (((w.alloc (.cells (daV ⟨f, t, L, Lo, Lk, R, Ro, Rk⟩) 25)).alloc (.cells (tbV [] [] (.pointer none) none 0 0) 32)).alloc (.cells (rtV [] [] none 0 0) 34)) (w.heap.size + 1 + 1) from rowIn_at _ _ _ _ (by rw [szA, szA]))
  have HA := Lib.hid (h.below hB0)
  have HS := Lib.hid hs
  have HCR := Lib.hid hr
  have CL := Lib.hid (laid19_any Lo Lk L _ (h.below hB0).l hl (by have := hs.l.1; simp only at this; omega))
  unfold LaidM19 at CL
  have HK0 := Lib.hid (show M.Stt (M.putsL [] L) from M.puts_strict L List.Pairwise.nil)
  clear h hs hl hr hB0
  have hRn : R.length ≤ 5 := HS.out.n
  obtain ⟨K0, hK0⟩ : ∃ K, K = M.putsL [] L := ⟨_, rfl⟩
  rw [← hK0] at CL
  have HKE := Lib.hid hK0
  clear hK0
  unfold daV tbV rtV at *
  simp only at *
  go_enter Tryz.func11, Tryz.ntmps11
  go_wp2_with fail
  generalize ((w.alloc (.cells #[.string (S f), .string (S t), .slice Lo L.length Lk, .slice Ro R.length Rk] 25)).alloc (.cells #[.string (S []), .string (S []), .pointer none, .slice none 0 0] 32)).alloc (.cells #[.string (S []), .string (S []), .slice none 0 0] 34) = W0 at *
  have hsz0 : w.heap.size + 1 + 1 < W0.heap.size := HR3.out.lt
  with_reducible refine (CL.out).mono ?_
  rintro e w1 ⟨b, ro, rc, rfl, hm, hor, hbq⟩
  have hs0 : w.heap.size ≤ W0.heap.size := HB.out.size
  replace HB := carry hbq HB
  replace HR0 := carry hbq HR0
  replace HR2 := carry hbq HR2
  replace HR3 := carry hbq HR3
  replace HA := Lib.hid (HA.out.below hbq)
  have HM := Lib.hid (show MmAt w1 (.pointer (some ⟨b, 0, none⟩)) K0 from .inr ⟨_, b, rfl, hm⟩)
  have HMX := Lib.hid (show ∃ B, w.heap.size + 1 + 1 < B ∧ MemX (fun _ => False) B b K0 w1 from ⟨_, hsz0, hm⟩)
  have HO := Lib.hid (ownP_mono hor hs0)
  have hs1 : w.heap.size ≤ w1.heap.size := HB.out.size
  clear hbq hm hor CL
  have r0 := HR0.out.cell 0
  have r1 := HR0.out.cell 1
  simp at r0 r1
  have hlt1 : w.heap.size < w1.heap.size := HR0.out.lt
  have hb70 := (Below.refl w1.heap.size w1).alloc (Nat.le_refl _) (.cells #[.string (S f), .string (S t), .pointer (some ⟨b, 0, none⟩), .slice none 0 0] 32)
  have r0' := (HR0.out.below hb70).cell 0
  have r1' := (HR0.out.below hb70).cell 1
  simp at r0' r1'
  clear hb70
  go_wp2_with fail
  have HD := Lib.hid (show Md19 w w1 w1.heap.size (w1.heap.size + 1 + 1) f t (.pointer (some ⟨b, 0, none⟩)) none 0 [] (some ⟨w1.heap.size + 1, 0, none⟩) 1 [⟨K0, ro, rc⟩] (((w1.alloc (.cells #[.string (S f), .string (S t), .pointer (some ⟨b, 0, none⟩), .slice none 0 0] 32)).alloc (.cells #[.slice ro K0.length rc] 22)).alloc (.cells #[.string (S f), .string (S t), .slice (some ⟨w1.heap.size + 1, 0, none⟩) 1 1] 34)) from by
    refine ⟨((rowIn_new _ _ w1).more _).more _, rowIn_at _ _ _ _ (by rw [szA, szA]), World.ownsRow_nil _ _ _ _, fun x hx => (by cases hx), ?_, fun r hr => ?_, ?_, Nat.le_refl _, by omega⟩
    · have := World.ownsRow_lit (base := w1.heap.size) (e := 22) (size := 1) (w1.alloc (.cells #[.string (S f), .string (S t), .pointer (some ⟨b, 0, none⟩), .slice none 0 0] 32)) #[.slice ro K0.length rc] 1 (by rw [szA]; omega) (by unfold maxLen; omega) rfl
      rw [szA] at this
      exact this.alloc _
    · rw [List.mem_singleton] at hr
      subst hr
      exact ((HO.out.alloc _).alloc _).alloc _
    · exact (((Below.refl w1.heap.size w1).alloc (Nat.le_refl _) _).alloc (by rw [szA]; omega) _).alloc (by rw [szA, szA]; omega) _)
  generalize (((w1.alloc (.cells #[.string (S f), .string (S t), .pointer (some ⟨b, 0, none⟩), .slice none 0 0] 32)).alloc (.cells #[.slice ro K0.length rc] 22)).alloc (.cells #[.string (S f), .string (S t), .slice (some ⟨w1.heap.size + 1, 0, none⟩) 1 1] 34)) = W3 at *
  obtain ⟨b7, hb7⟩ : ∃ x, x = w1.heap.size := ⟨_, rfl⟩
  obtain ⟨b8, hb8⟩ : ∃ x, x = w1.heap.size + 1 + 1 := ⟨_, rfl⟩
  replace HD := Lib.hid (show Md19 w w1 b7 b8 f t (.pointer (some ⟨b, 0, none⟩)) none 0 [] (some ⟨w1.heap.size + 1, 0, none⟩) 1 [⟨K0, ro, rc⟩] W3 from by rw [hb8, hb7]; exact HD.out)
  rw [← hb8, ← hb7]
  clear hb7 hb8 r0 r1 r0' r1'
  have HS0 : Hid (M.rls [⟨K0, ro, rc⟩] = K0 :: M.tls []) := Lib.hid rfl
  have HT0 : Hid (M.tls [] = (R.take 0).map (fun r => M.putsL [] r.l)) := Lib.hid (by simp [M.tls])
  go_loopw [9] (fun iv wr => ∃ (i : Nat) (Ts : List M.Tp) (Rs : List M.Rw) (ta : Option Addr) (tc : Nat) (ra : Option Addr) (rc : Nat), i ≤ R.length ∧ iv = .int .i64 i ∧ Hid (Ts.length = i ∧ Rs.length = i + 1) ∧ Hid (M.rls Rs = K0 :: M.tls Ts) ∧ Hid (M.tls Ts = (R.take i).map (fun r => M.putsL [] r.l)) ∧ Hid (Md19 w w1 b7 b8 f t (.pointer (some ⟨b, 0, none⟩)) ta tc Ts ra rc Rs wr)) (fun iv _ => R.length - (intOf iv).toNat)
  case atStart => exact ⟨0, [], [⟨K0, ro, rc⟩], none, 0, _, 1, Nat.zero_le _, rfl, Lib.hid ⟨rfl, rfl⟩, HS0, HT0, HD⟩
  case round =>
    clear HS0 HT0 HD HO
    obtain ⟨i, Ts, Rs, ta, tc, ra, rc', hi, rfl, HLn, HSm, HTl, HD⟩ := hrel
    have hsw : w.heap.size ≤ wr.heap.size := Nat.le_trans hs1 HD.out.bel.size
    have hTn : Ts.length ≤ 5 := by have := HLn.out.1; omega
    have hRn2 : Rs.length ≤ 6 := by have := HLn.out.2; omega
    have r3 := (HR0.out.below HD.out.bel).cell 3
    simp at r3
    by_cases hlt : i < R.length
    · have d1 : decide ((i : Int) < (R.length : Int)) = true := by simp; omega
      have d2 : decide (i < R.length) = true := by simp; omega
      have hii : (i : Int) < (R.length : Int) := by omega
      obtain ⟨g, off, eao, hc⟩ := ((HA.out.below HD.out.bel).r).off i hlt
      simp only at eao
      subst eao
      have hmr := M.getD_memR hlt
      have HTK := Lib.hid (show (R.take (i + 1)).map (fun r => M.putsL [] r.l) = (R.take i).map (fun r => M.putsL [] r.l) ++ [M.putsL [] (R.getD i M.rw0).l] from by rw [M.takeR_snoc hlt]; simp)
      have HRK := Lib.hid (HCR.out _ hmr)
      have hsm := (HS.out.each _ hmr).1
      clear hmr
      simp only at hc
      generalize R.getD i M.rw0 = r at *
      obtain ⟨x0, hcl⟩ := hc
      obtain ⟨l, o, kc⟩ := r
      simp only at x0 hcl hsm HRK HTK
      have CL1 := Lib.hid (laid19_any o kc l wr hcl HRK.out (by omega))
      unfold LaidM19 at CL1
      have hKl : (M.putsL [] l).length ≤ 40 := by have := M.puts_len l []; simp at this; omega
      have HKs := Lib.hid (show M.Stt (M.putsL [] l) from M.puts_strict l List.Pairwise.nil)
      clear hcl HRK
      generalize M.putsL [] l = K at *
      go_wp2_with fail
      with_reducible refine (CL1.out).mono ?_
      rintro e w3 ⟨bm, ro3, rc3, rfl, hm, hor, hbq⟩
      have HKm := Lib.hid (show M.srt none K = true ∧ ∀ c, c ∈ K → ClOk c from ⟨M.srt_stt HKs.out (fun c hc => ((memX_is hm).2.2 c hc).2), fun c hc => ((memX_is hm).2.2 c hc).1⟩)
      replace HD := Lib.hid (HD.out.below hbq)
      have HO3 := Lib.hid (ownP_mono hor hsw)
      have CB := Lib.hid (buildOk19 K HKm.out.1 (by omega) ro3 rc3 (own_capT hor) w3 (clsAt_own hor rfl) HKm.out.2)
      clear hbq hm hor CL1 x0 r3
      go_wp2_with fail
      with_reducible refine (CB.out).mono ?_
      rintro e w4 ⟨rfl, hbq⟩
      replace HD := Lib.hid (HD.out.below hbq)
      replace HO3 := carry hbq HO3
      have CO := Lib.hid (openOk19 K HKm.out.1 (by omega) w4 HKm.out.2)
      clear hbq CB
      generalize M.tableT K = tx at *
      go_wp2_with fail
      with_reducible refine (CO.out).mono ?_
      rintro e w5 ⟨p, rfl, hok, hbq⟩
      replace HD := Lib.hid (HD.out.below hbq)
      replace HO3 := carry hbq HO3
      have HOK := Lib.hid hok
      clear hbq CO hok
      have x7 := HD.out.r7.cell 3
      simp [tbV] at x7
      have hal := (Below.refl w5.heap.size w5).alloc (Nat.le_refl _) (.cells #[.pointer (some ⟨p, 0, none⟩)] 59)
      have HXX := Lib.hid (rowIn_new #[.pointer (some ⟨p, 0, none⟩)] 59 w5)
      have HD6 := Lib.hid (HD.out.below hal)
      have HO6 := Lib.hid (ownP_below HO3.out hal)
      have HOK6 := Lib.hid (HOK.out.below hal)
      clear hal HD HO3 HOK
      go_upto_region 14 with fail
      go_wp2_with (at_builtin; refine wpList_append_own _ rfl _ _ 30 rfl w1.heap.size 59 i0 z0 1 8 Tryz.underlying30 hi0 hz0 hz1 hz2 hz3 (by decide) (.slice ta Ts.length tc) Ts.length (ptsV Ts) rfl HD6.out.tabs ⟨w5.heap.size, 0, none⟩ 1 1 (ptsV [⟨some p, K⟩]) rfl rfl ?c1 ?c5 ?c2 ?c3 ?c4 ?_)
      case c1 =>
        intro j u hu
        match j with
        | 0 => simp [ptsV, ptrT] at hu; subst hu; exact HXX.out.cell 0
        | j + 1 => simp [ptsV] at hu
      case c5 => intro u hu; simp [ptsV, ptrT] at hu; subst hu; rfl
      case c2 => unfold maxLen; omega
      case c3 => omega
      case c4 => exact HD6.out.bel.size
      intro v' w6 ho6 hg6 hat6
      obtain ⟨a6, c6, rfl⟩ := own_shapeT ho6
      have HG6 := Lib.hid hg6
      have HO7 := Lib.hid ((HO6.out).kept hg6 (own_apart HO6.out HD6.out.tabs (by decide)))
      have k7 := HD6.out.r7.grownP hg6 (fun q hq => row_apart HD6.out.r7 HD6.out.tabs (by decide) q hq)
      have HD7 := Lib.hid (HD6.out.addT HOK6.out ho6 hg6)
      have HO8 := Lib.hid (own_off19 HO7.out k7 (by decide) 3 (.slice a6 (Ts.length + 1) c6))
      have x7 := k7.cell 3
      have f7 := k7.free 3
      simp [tbV] at x7
      clear hg6 hat6 ho6 HXX HD6 HOK6 HO6 HG6 HO7 k7
      go_upto_region 15 with fail
      generalize w6.setCell ⟨b7, 3, none⟩ (.slice a6 (Ts.length + 1) c6) = w8 at *
      clear x7 f7
      have x8 := HD7.out.r8.cell 2
      simp [rtV] at x8
      have hal := (Below.refl w8.heap.size w8).alloc (Nat.le_refl _) (.cells #[.slice ro3 K.length rc3] 22)
      have HXX := Lib.hid (rowIn_new #[.slice ro3 K.length rc3] 22 w8)
      have HD9 := Lib.hid (HD7.out.below hal)
      have HO9 := Lib.hid (ownP_below HO8.out hal)
      clear hal HD7 HO8
      go_wp2_with (at_builtin; refine wpList_append_own _ rfl _ _ 23 rfl w1.heap.size 22 j0 y0 1 24 Tryz.underlying23 hj0 hy0 hy1 hy2 hy3 (by decide) (.slice ra Rs.length rc') Rs.length (rwsV Rs) rfl HD9.out.rows ⟨w8.heap.size, 0, none⟩ 1 1 (rwsV [⟨K, ro3, rc3⟩]) rfl rfl ?c1 (rwsV_one _) ?c2 ?c3 ?c4 ?_)
      case c1 =>
        intro j u hu
        match j with
        | 0 => simp [rwsV] at hu; subst hu; exact HXX.out.cell 0
        | j + 1 => simp [rwsV] at hu
      case c2 => unfold maxLen; omega
      case c3 => omega
      case c4 => exact HD9.out.bel.size
      intro v' w10 ho10 hg10 hat10
      obtain ⟨a10, c10, rfl⟩ := own_shapeT ho10
      have k8 := HD9.out.r8.grownP hg10 (fun q hq => row_apart HD9.out.r8 HD9.out.rows (by decide) q hq)
      have HD11 := Lib.hid (HD9.out.addR (x := ⟨K, ro3, rc3⟩) HO9.out ho10 hg10)
      have x9 := k8.cell 2
      have f9 := k8.free 2
      simp [rtV] at x9
      have HSm1 := Lib.hid (show M.rls (Rs ++ [⟨K, ro3, rc3⟩]) = K0 :: M.tls (Ts ++ [⟨some p, K⟩]) from by
        have := HSm.out
        simp only [M.rls, M.tls, List.map_append, List.map_cons, List.map_nil] at this ⊢
        rw [this]; rfl)
      have HTl1 := Lib.hid (show M.tls (Ts ++ [⟨some p, K⟩]) = (R.take (i + 1)).map (fun r => M.putsL [] r.l) from by
        rw [HTK.out, ← HTl.out]
        simp [M.tls])
      have HLn1 := Lib.hid (show (Ts ++ [(⟨some p, K⟩ : M.Tp)]).length = i + 1 ∧ (Rs ++ [(⟨K, ro3, rc3⟩ : M.Rw)]).length = i + 1 + 1 from by
        have := HLn.out
        simp only [List.length_append, List.length_cons, List.length_nil]
        omega)
      clear hg10 hat10 ho10 HXX HD9 HO9 k8 x8 HSm HTl HLn HTK
      go_wp2_with fail
      go_roundw
      case rel => exact ⟨i + 1, _, _, a6, c6, a10, c10, by omega, by go_num, HLn1, HSm1, HTl1, HD11⟩
      case measure => simp [intOf]; omega
    · obtain rfl : i = R.length := by omega
      have d1 : decide ((R.length : Int) < (R.length : Int)) = false := by simp
      have d2 : decide (R.length < R.length) = false := by simp
      rw [List.take_length] at HTl
      have HR7 := Lib.hid HD.out.r7
      have HR8 := Lib.hid HD.out.r8
      unfold tbV at HR7
      unfold rtV at HR8
      obtain ⟨BM, hBM, hMX⟩ := HMX.out
      have HF := Lib.hid (show Mf19 w b ta tc Ts ra rc' Rs K0 (w.heap.size + 1 + 1) wr from ⟨⟨BM, hBM, hMX.below HD.out.bel⟩, ownP_mono HD.out.tabs hs1, HD.out.ok, ownP_mono HD.out.rows hs1, HD.out.each, HB.out.trans (HD.out.bel.mono hs1)⟩)
      have h22 : w.heap.size + 1 < w1.heap.size := HR2.out.lt
      have h33 : w.heap.size + 1 + 1 < w1.heap.size := HR3.out.lt
      have HNE := Lib.hid (show b7 ≠ w.heap.size + 1 ∧ b8 ≠ w.heap.size + 1 ∧ w.heap.size + 1 ≤ w.heap.size + 1 + 1 ∧ w.heap.size ≤ w.heap.size + 1 ∧ w.heap.size + 1 + 1 ≠ w.heap.size + 1 from ⟨by have := HD.out.l7; omega, by have := HD.out.l8; omega, by omega, by omega, by omega⟩)
      have HNE2 := Lib.hid (show b7 ≠ w.heap.size + 1 + 1 ∧ b8 ≠ w.heap.size + 1 + 1 ∧ w.heap.size + 1 ≠ w.heap.size + 1 + 1 ∧ w.heap.size + 1 + 1 ≤ w.heap.size + 1 + 1 ∧ w.heap.size ≤ w.heap.size + 1 + 1 from ⟨by have := HD.out.l7; omega, by have := HD.out.l8; omega, by omega, by omega, by omega⟩)
      replace HR2 := Lib.hid (HR2.out.below HD.out.bel)
      replace HR3 := Lib.hid (HR3.out.below HD.out.bel)
      clear hBM hMX h22 h33 HD
      go_upto_region 16 with fail
      clear r3
      refine wp_region_held_drew (S := fun V => V.cell? ⟨b7, 0, none⟩ = some (.string (S f)) ∧ V.cell? ⟨b7, 1, none⟩ = some (.string (S t)) ∧ V.cell? ⟨b7, 2, none⟩ = some (.pointer (some ⟨b, 0, none⟩)) ∧ V.cell? ⟨b7, 3, none⟩ = some (.slice ta Ts.length tc) ∧ V.cell? ⟨b8, 0, none⟩ = some (.string (S f)) ∧ V.cell? ⟨b8, 1, none⟩ = some (.string (S t)) ∧ V.cell? ⟨b8, 2, none⟩ = some (.slice ra Rs.length rc')) (by kernel_rfl) ?_ (fun hHeld => ?_)
      · exact ⟨HR7.out.cell 0, HR7.out.cell 1, HR7.out.cell 2, HR7.out.cell 3, HR8.out.cell 0, HR8.out.cell 1, HR8.out.cell 2⟩
      obtain ⟨wd, hwd⟩ : ∃ x, x = World.drew wr := ⟨_, rfl⟩
      replace HR7 := Lib.hid (show RowIn #[.string (S f), .string (S t), .pointer (some ⟨b, 0, none⟩), .slice ta Ts.length tc] 32 wd b7 from by rw [hwd]; exact HR7.out)
      replace HR8 := Lib.hid (show RowIn #[.string (S f), .string (S t), .slice ra Rs.length rc'] 34 wd b8 from by rw [hwd]; exact HR8.out)
      replace HR2 := Lib.hid (show RowIn #[.string (S []), .string (S []), .pointer none, .slice none 0 0] 32 wd (w.heap.size + 1) from by rw [hwd]; exact HR2.out)
      replace HR3 := Lib.hid (show RowIn #[.string (S []), .string (S []), .slice none 0 0] 34 wd (w.heap.size + 1 + 1) from by rw [hwd]; exact HR3.out)
      replace HF := Lib.hid (show Mf19 w b ta tc Ts ra rc' Rs K0 (w.heap.size + 1 + 1) wd from by rw [hwd]; exact HF.out.below ((Below.refl _ _).drew))
      rw [← hwd] at hHeld ⊢
      clear hwd
      refine wpAnyH_take (i := 0) (oi := { dst := some 88, op := Op.load 32 (Operand.tmp 7), type := 32, pos := "law.go:60", after := #[], guard := none }) (v := ?_) rfl (by kernel_rfl) (by kernel_rfl) (by kernel_rfl) (fun _ _ _ h => h) (Or.inl ⟨by rfl, ?_⟩) (by assumption) ?_
      rotate_left
      · (intro w hSw; (try dsimp only at hSw); go_simp); (first | done | with_reducible rfl)
      try simp only [Act.put, List.setIfInBounds_toArray, List.set_cons_zero, List.set_cons_succ]
      refine wpAnyH_take (i := 1) (oi := { dst := some 89, op := Op.load 34 (Operand.tmp 8), type := 34, pos := "law.go:60", after := #[{ on := 2, ground := Ground.gcOnly Departure.lateStores }], guard := none }) (v := ?_) rfl (by kernel_rfl) (by kernel_rfl) (by kernel_rfl) (fun _ _ _ h => h) (Or.inl ⟨by rfl, ?_⟩) (by assumption) ?_
      rotate_left
      · (intro w hSw; (try dsimp only at hSw); go_simp); (first | done | with_reducible rfl)
      try simp only [Act.put, List.setIfInBounds_toArray, List.set_cons_zero, List.set_cons_succ]
      refine wpAnyH_ready (rs := [2]) (by kernel_rfl) (by simp) ?_
      refine AllReadyH.cons (o := { dst := none, op := Op.store 32 (Operand.tmp 2) (Operand.tmp 88), type := 0, pos := "law.go:60", after := #[{ on := 0, ground := Ground.data }, { on := 0, ground := Ground.phase }, { on := 1, ground := Ground.textOnly Departure.lateStores }], guard := none }) rfl (fun K hK => ?_) (AllReadyH.nil)
      refine step_store_rowT (by rfl) 32 _ _ (by rfl) (w.heap.size + 1) #[.string (S f), .string (S t), .pointer (some ⟨b, 0, none⟩), .slice ta Ts.length tc] (by rfl) (by rfl) 32 _ HR2.out (by kernel_rfl) rfl (by first | rfl | simp [Value.oneCell']) ?_
      have HX2 := Lib.hid (RowIn.row (D := #[.string (S f), .string (S t), .pointer (some ⟨b, 0, none⟩), .slice ta Ts.length tc]) HR2.out)
      replace HR7 := Lib.hid (rowIn_rowT HR7.out HNE.out.1 #[.string (S f), .string (S t), .pointer (some ⟨b, 0, none⟩), .slice ta Ts.length tc])
      replace HR8 := Lib.hid (rowIn_rowT HR8.out HNE.out.2.1 #[.string (S f), .string (S t), .pointer (some ⟨b, 0, none⟩), .slice ta Ts.length tc])
      replace HR3 := Lib.hid (rowIn_rowT HR3.out HNE.out.2.2.2.2 #[.string (S f), .string (S t), .pointer (some ⟨b, 0, none⟩), .slice ta Ts.length tc])
      replace HF := Lib.hid (HF.out.setR HR2.out (by decide) HNE.out.2.2.2.1 HNE.out.2.2.1 #[.string (S f), .string (S t), .pointer (some ⟨b, 0, none⟩), .slice ta Ts.length tc])
      generalize wd.setRow (w.heap.size + 1) #[.string (S f), .string (S t), .pointer (some ⟨b, 0, none⟩), .slice ta Ts.length tc] = wa at *
      refine hK.out _ _ ?_ (fun hHeld => ?_)
      · exact ⟨HR7.out.cell 0, HR7.out.cell 1, HR7.out.cell 2, HR7.out.cell 3, HR8.out.cell 0, HR8.out.cell 1, HR8.out.cell 2⟩
      clear hK K
      try simp only [Act.put, List.setIfInBounds_toArray, List.set_cons_zero, List.set_cons_succ]
      refine wpAnyH_ready (rs := [3]) (by kernel_rfl) (by simp) ?_
      refine AllReadyH.cons (o := { dst := none, op := Op.store 34 (Operand.tmp 3) (Operand.tmp 89), type := 0, pos := "law.go:60", after := #[{ on := 1, ground := Ground.data }, { on := 2, ground := Ground.chain }, { on := 0, ground := Ground.phase }, { on := 1, ground := Ground.phase }, { on := 2, ground := Ground.phase }], guard := none }) rfl (fun K hK => ?_) (AllReadyH.nil)
      refine step_store_rowT (by rfl) 34 _ _ (by rfl) (w.heap.size + 1 + 1) #[.string (S f), .string (S t), .slice ra Rs.length rc'] (by rfl) (by rfl) 34 _ HR3.out (by kernel_rfl) rfl (by first | rfl | simp [Value.oneCell']) ?_
      have HX3 := Lib.hid (RowIn.row (D := #[.string (S f), .string (S t), .slice ra Rs.length rc']) HR3.out)
      replace HX2 := Lib.hid (rowIn_rowT HX2.out HNE2.out.2.2.1 #[.string (S f), .string (S t), .slice ra Rs.length rc'])
      replace HR7 := Lib.hid (rowIn_rowT HR7.out HNE2.out.1 #[.string (S f), .string (S t), .slice ra Rs.length rc'])
      replace HR8 := Lib.hid (rowIn_rowT HR8.out HNE2.out.2.1 #[.string (S f), .string (S t), .slice ra Rs.length rc'])
      replace HF := Lib.hid (HF.out.setR HR3.out (by decide) HNE2.out.2.2.2.2 HNE2.out.2.2.2.1 #[.string (S f), .string (S t), .slice ra Rs.length rc'])
      generalize wa.setRow (w.heap.size + 1 + 1) #[.string (S f), .string (S t), .slice ra Rs.length rc'] = wz at *
      refine hK.out _ _ ?_ (fun hHeld => ?_)
      · exact ⟨HR7.out.cell 0, HR7.out.cell 1, HR7.out.cell 2, HR7.out.cell 3, HR8.out.cell 0, HR8.out.cell 1, HR8.out.cell 2⟩
      clear hK K
      try simp only [Act.put, List.setIfInBounds_toArray, List.set_cons_zero, List.set_cons_succ]
      refine wpAnyH_take (i := 4) (oi := { dst := some 4, op := Op.assign (Operand.const (Value.bool true)), type := 4, pos := "law.go:60", after := #[{ on := 3, ground := Ground.chain }, { on := 0, ground := Ground.phase }, { on := 1, ground := Ground.phase }, { on := 2, ground := Ground.phase }, { on := 3, ground := Ground.phase }], guard := none }) (v := ?_) rfl (by kernel_rfl) (by kernel_rfl) (by kernel_rfl) (fun _ _ _ h => h) (Or.inl ⟨by rfl, ?_⟩) (by assumption) ?_
      rotate_left
      · (intro w hSw; (try dsimp only at hSw); go_simp); (first | done | with_reducible rfl)
      refine wpAnyH_done (by kernel_rfl) ?_ _
      go_wp2_with fail
      try simp only [Exit.inBlock, Exit.then]
      exact bodyPost_ret (ret_cells2 rfl _ _ (w.heap.size + 1) (w.heap.size + 1 + 1) rfl rfl (load_struct Tryz.underlying32 (by kernel_rfl) HX2.out) (load_struct Tryz.underlying34 (by kernel_rfl) HX3.out)) rfl ⟨b, ta, tc, Ts, ra, rc', Rs, rfl, ⟨by obtain ⟨B, _, hm⟩ := HF.out.mem; rw [← HKE.out]; exact ⟨B, hm⟩, HF.out.tps, (RwO.mk HF.out.rows HF.out.each).at_, by rw [← HKE.out]; exact HSm.out, HTl.out, HF.out.bel⟩, own_capT HF.out.rows⟩

end Go.Proofs.YtnhljlmelbiljaaGreat

