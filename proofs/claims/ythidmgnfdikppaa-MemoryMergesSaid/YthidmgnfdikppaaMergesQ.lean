/- Layer 11: Iter.Next, by contracts. -/
import Derived.Test.YthidmgnfdikppaaMergesL
namespace Go.Proofs.Ythidmgnfdikppaa
set_option linter.unusedVariables false
open Go Go.RowKit
attribute [local go_sem ↓] run_index_S
attribute [local go_sem] S_append S_extract

/-- No row of heads, no Iter. -/
def NotHeads (o : Obj) : Prop := ∀ C fz, o ≠ .cells C 127 fz ∧ o ≠ .cells C 71 fz
theorem notHeads_cl (C : Array Value) (fz : Nat × Nat) : NotHeads (.cells C 38 fz) := fun C' fz' => ⟨fun e => by injection e with _ h _; revert h; decide, fun e => by injection e with _ h _; revert h; decide⟩
/-- Whatever is no row of heads, nor an Iter, stays. -/
structure NextKeeps (w w' : World) : Prop where
  os : w'.os = w.os
  tape : w'.tape = w.tape
  output : w'.output = w.output
  size : w.heap.size ≤ w'.heap.size
  same : ∀ (b : Nat) (o : Obj), w.heap[b]? = some o → NotHeads o → w'.heap[b]? = some o
theorem NextKeeps.below {w w' : World} (h : Below w.heap.size w w') : NextKeeps w w' := ⟨h.os, h.tape, h.output, h.size, fun b o hb _ => (h.block b (Array.getElem?_eq_some_iff.1 hb).1).trans hb⟩
theorem NextKeeps.trans {a b c : World} (h : NextKeeps a b) (k : NextKeeps b c) : NextKeeps a c := ⟨k.os.trans h.os, k.tape.trans h.tape, k.output.trans h.output, Nat.le_trans h.size k.size, fun q o hq hn => k.same q o (h.same q o hq hn) hn⟩
theorem Hq.keeps {B bi : Nat} {ao : Option Addr} {n cap : Nat} {H : List M.Hd} {w w' : World} (h : Hq B bi ao n cap H w) (ht : Two bi (Value.slice ao n cap).ownBlock w w') : NextKeeps w w' := by
  refine ⟨ht.os, ht.tape, ht.output, ht.size, fun b o hb hn => (ht.block b (Array.getElem?_eq_some_iff.1 hb).1 (fun e => ?_) (fun e => ?_)).trans hb⟩
  · subst e
    have := h.row
    unfold RowIn at this
    rw [hb] at this
    injection this with this
    exact (hn _ _).2 this
  · rcases h.own.2 with ⟨h0, _⟩ | ⟨g, cap', cur, hv, hB, hg, r⟩
    · rw [h0] at e; cases e
    · rw [hv] at e
      injection e with e
      subst e
      rw [hb] at hg
      injection hg with hg
      exact (hn _ _).1 hg
theorem Hq.cellKeep {B bi : Nat} {ao : Option Addr} {n cap : Nat} {H : List M.Hd} {w w' : World} (h : Hq B bi ao n cap H w) (ht : Two bi (Value.slice ao n cap).ownBlock w w') (b : Nat) (hC : ∃ C fz, w.heap[b]? = some (.cells C 38 fz)) : w'.heap[b]? = w.heap[b]? := by
  obtain ⟨C, fz, hC⟩ := hC
  rw [(h.keeps ht).same b _ hC (notHeads_cl _ _), hC]
theorem Hq.rowKeep {B bi : Nat} {ao : Option Addr} {n cap : Nat} {H : List M.Hd} {C : Array Value} {T : TypeId} {w w' : World} {b : Nat} (h : Hq B bi ao n cap H w) (ht : Two bi (Value.slice ao n cap).ownBlock w w') (hr : RowIn C T w b) (h1 : b ≠ bi) (h2 : (Value.slice ao n cap).ownBlock ≠ some b) : RowIn C T w' b :=
  (ht.block b hr.lt h1 (fun e => h2 e.symm)).trans hr
theorem Hq.lt {B bi : Nat} {ao : Option Addr} {n cap : Nat} {H : List M.Hd} {w : World} (h : Hq B bi ao n cap H w) {b : Nat} (e : (Value.slice ao n cap).ownBlock = some b) : B ≤ b ∧ b < w.heap.size := h.own.lt b e
/-- Ahead of what Next answers. -/
structure Nx (B N bi r hb : Nat) (c : M.Cl) (L0 : List M.Cl) (w w4 : World) : Prop where
  b : Below B w w4
  rr : RowIn (clA M.cl0) 38 w4 r
  h0 : w4.cell? ⟨hb, 0, none⟩ = some (.string (S c.key))
  h1 : w4.cell? ⟨hb, 1, none⟩ = some (.int .i64 c.seq)
  h2 : w4.cell? ⟨hb, 2, none⟩ = some (.string (S c.val))
  ic : ∃ ao n cap K R', Ic B N bi ao n cap K R' L0 w4
  br : B ≤ r
  nr : N ≤ r
  wr : w.heap.size ≤ r
  nk : NextKeeps w w4
theorem Nx.fin {B N bi r hb : Nat} {c : M.Cl} {L0 : List M.Cl} {w w4 wE : World} (h : Nx B N bi r hb c L0 w w4) (ht : Two r none w4 wE) (hk : ∀ k, k ≠ r → wE.heap[k]? = w4.heap[k]?) : It11 B N bi L0 wE ∧ Below B w wE ∧ NextKeeps w wE := by
  obtain ⟨ao, n, cap, K, R', hi⟩ := h.ic
  have h1 : bi ≠ r := rowIn_ne hi.hq.row h.rr (by decide)
  have h2 := row_apart h.rr hi.hq.own (by decide)
  refine ⟨⟨ao, n, cap, K, R', hi.keep ht.size (fun b hb => hk b ?_)⟩, h.b.trans (ht.toBelow h.br (by simp) (Nat.le_trans hi.hq.base (Nat.le_refl _))), ⟨ht.os.trans h.nk.os, ht.tape.trans h.nk.tape, ht.output.trans h.nk.output, Nat.le_trans h.nk.size ht.size, fun b o hb hn => (hk b (fun e => by have := (Array.getElem?_eq_some_iff.1 hb).1; have := h.wr; omega)).trans (h.nk.same b o hb hn)⟩⟩
  rcases hb with e | e | ⟨e, _⟩
  · rw [e]; exact h1
  · exact h2 b e
  · have := h.nr; omega
def NextR (B N bi : Nat) (L : List M.Cl) (w : World) (e : Ending) (w' : World) : Prop := e = .returned (.tuple #[.agg (clA (L.headD M.cl0)), .bool (!L.isEmpty)]) ∧ It11 B N bi L.tail w' ∧ Below B w w' ∧ NextKeeps w w'
set_option maxHeartbeats 4000000 in
set_option maxRecDepth 100000 in
theorem nextNil11_any (B N bi : Nat) (w : World) (h : It11 B N bi [] w) : Calls Try.prog 48 #[.pointer (some ⟨bi, 0, none⟩)] w (NextR B N bi [] w) := by
  have HI := Lib.hid h
  obtain ⟨ao, n, cap, H, R, hc⟩ := h
  have hn : n = 0 := by
    rcases Nat.eq_zero_or_pos n with q | q
    · exact q
    · obtain ⟨L', e, _⟩ := hc.hof.some (x := M.hAt H 0) (M.hAt_mem (by rw [hc.hq.len]; omega)) (fun y hy => by
        obtain ⟨i, hi, rfl⟩ := M.mem_hAt hy
        exact hc.hp.least i (by rw [← hc.hq.len]; exact hi)) hc.mrg
      cases e
  subst hn
  have HB := Lib.hid hc.hq.base
  have h0a : ∀ o, (w.alloc o).cell? ⟨bi, 0, none⟩ = some (.slice ao 0 cap) := fun o => (hc.hq.row.more o).cell 0
  clear hc
  go_enter Try.func48, Try.ntmps48
  go_wp2_with fail
  try simp only [Exit.inBlock, Exit.then]
  have HX := Lib.hid (rowIn_new (clA M.cl0) 38 w)
  exact bodyPost_ret (ret_rowP2 rfl _ _ w.heap.size rfl (load_struct Try.underlying38 (by kernel_rfl) HX.out)) rfl ⟨rfl, HI.out.below ((Below.refl _ _).alloc (Nat.le_refl _) _), (Below.refl _ _).alloc HB.out _, .below ((Below.refl _ _).alloc (Nat.le_refl _) _)⟩
set_option maxHeartbeats 4000000 in
set_option maxRecDepth 100000 in
theorem nextCons11_any (B N bi : Nat) (c0 : M.Cl) (L0 : List M.Cl) (w : World) (h : It11 B N bi (c0 :: L0) w) : Calls Try.prog 48 #[.pointer (some ⟨bi, 0, none⟩)] w (NextR B N bi (c0 :: L0) w) := by
  have HI := Lib.hid h
  obtain ⟨ao, n, cap, H, R, hc⟩ := h
  have hn : n ≠ 0 := fun e => by
    subst e
    have : H = [] := List.eq_nil_of_length_eq_zero hc.hq.len
    subst this
    have := hc.hof.none hc.mrg
    cases this
  obtain ⟨m, rfl⟩ : ∃ m, n = m + 1 := ⟨n - 1, by omega⟩
  have hm : m + 1 ≤ 1000000 := by
    have h1 := hc.hof.len
    have h2 := hc.rl
    have h3 := hc.hq.len
    omega
  obtain ⟨g, rfl, -⟩ := hc.hq.hv (by omega)
  have HIC := Lib.hid hc
  have h0a : ∀ o, (w.alloc o).cell? ⟨bi, 0, none⟩ = some (.slice (some ⟨g, 0, none⟩) (m + 1) cap) := fun o => (hc.hq.row.more o).cell 0
  have hz : (((m + 1 : Nat) : Int) == 0) = false := by simp; omega
  have hz2 : (((m : Int) + 1) == 0) = false := by simp; omega
  have hz3 : decide ((m : Int) + 1 = 0) = false := by simp; omega
  have hq1 : Hq B bi (some ⟨g, 0, none⟩) (m + 1) cap H (w.alloc (.cells (clA M.cl0) 38)) := hc.hq.below ((Below.refl _ _).alloc (Nat.le_refl _) _)
  have HC := Lib.hid (hpop11_any B bi g m cap H _ hq1 hm hc.hp)
  have HQ1 := Lib.hid hq1
  have HR1 := Lib.hid (rowIn_new (clA M.cl0) 38 w)
  have hta := ta11
  clear hc hq1
  go_enter Try.func48, Try.ntmps48
  go_wp2_with fail
  refine (HC.out).mono ?_
  rintro e w2 ⟨rfl, K, hpm, hpp, hq2, ht2⟩
  have HQ2 := Lib.hid hq2
  have HB2 := Lib.hid (show Below B w w2 from ((Below.refl B w).alloc HIC.out.hq.base (.cells (clA M.cl0) 38)).trans (ht2.toBelow HIC.out.bb (fun q e => by injection e with e; subst e; exact (HIC.out.hq.lt rfl).1) (Nat.le_trans HIC.out.hq.base (by simp))))
  have HK2 := Lib.hid (show ∀ b, b < w.heap.size → (∃ C fz, w.heap[b]? = some (.cells C 38 fz)) → w2.heap[b]? = w.heap[b]? from fun b hb hC => by
    have e1 : (w.alloc (.cells (clA M.cl0) 38)).heap[b]? = w.heap[b]? := Below.heap_alloc _ _ _ hb
    exact (HQ1.out.cellKeep ht2 b (by rw [e1]; exact hC)).trans e1)
  have HR2 := Lib.hid (show RowIn (clA M.cl0) 38 w2 w.heap.size from HQ1.out.rowKeep ht2 HR1.out (fun e => by have := HIC.out.hq.row.lt; omega) (fun e => by have := (HIC.out.hq.lt e).2; omega))
  have HS2 := Lib.hid (show w.heap.size ≤ w2.heap.size from HB2.out.size)
  have HNK := Lib.hid (show NextKeeps w w2 from (NextKeeps.below ((Below.refl _ _).alloc (Nat.le_refl _) (.cells (clA M.cl0) 38))).trans (HQ1.out.keeps ht2))
  have HPM := Lib.hid hpm
  have HPP := Lib.hid hpp
  clear hpm hpp hq2 ht2 HC HR1
  obtain ⟨x, hx⟩ : ∃ x, x = M.hAt H 0 := ⟨_, rfl⟩
  rw [← hx]
  obtain ⟨c, b, o, k, r⟩ := x
  have HX := Lib.hid hx
  clear hx
  simp only [hdA]
  cases b with
  | nil =>
    have HC := Lib.hid (layNil11_any bi o k r (w2.alloc (.cells (hdA ⟨c, [], o, k, r⟩) 127)))
    have HRO := rowIn_new (hdA ⟨c, [], o, k, r⟩) 127 w2
    have HN := Lib.hid (show c = c0 ∧ Nx B N bi w.heap.size w2.heap.size c L0 w (w2.alloc (.cells (hdA ⟨c, [], o, k, r⟩) 127)) from by
      obtain ⟨L', e, hic⟩ := HIC.out.popNil HPM.out HPP.out (HQ2.out.below ((Below.refl _ _).alloc (Nat.le_refl _) (.cells (hdA ⟨c, [], o, k, r⟩) 127))) (fun b hb hC => (Below.heap_alloc _ _ _ (Nat.lt_of_lt_of_le (Nat.lt_of_lt_of_le hb HIC.out.nl) HS2.out)).trans (HK2.out b (Nat.lt_of_lt_of_le hb HIC.out.nl) hC)) (Nat.le_trans HS2.out (by simp)) (by rw [← HX.out])
      rw [← HX.out] at e
      injection e with e1 e2
      subst e2
      exact ⟨e1.symm, HB2.out.alloc HQ2.out.base _, HR2.out.more _, HRO.cell 0, HRO.cell 1, HRO.cell 2, ⟨_, _, _, _, _, hic⟩, HIC.out.hq.base, HIC.out.nl, Nat.le_refl _, HNK.out.trans (.below ((Below.refl _ _).alloc (Nat.le_refl _) _))⟩)
    clear HRO
    go_wp2_with fail
    refine (HC.out).mono ?_
    rintro e w4 ⟨rfl, hw4⟩
    rw [← hw4] at HN
    obtain ⟨ec, hn4⟩ := HN.out
    subst ec
    have HN4 := Lib.hid hn4
    have y0 := hn4.h0
    have y1 := hn4.h1
    have y2 := hn4.h2
    have HR4 := Lib.hid hn4.rr
    clear hn4 hw4 HN HC HK2 HB2 HR2
    go_wp2_with ((refine wpList_store_two rfl 38 _ _ rfl w.heap.size (clA c) rfl rfl 38 (clA M.cl0) HR4.out (by kernel_rfl) rfl (clA_one _) ?_; intro wE hrE h2E hsE hkE; have HRE := Lib.hid hrE; have HFE := Lib.hid (HN4.out.fin h2E hkE); clear hrE h2E hsE hkE))
    try simp only [Exit.inBlock, Exit.then]
    exact bodyPost_ret (ret_rowP2 rfl _ _ w.heap.size rfl (load_struct Try.underlying38 (by kernel_rfl) HRE.out)) rfl ⟨rfl, HFE.out⟩
  | cons c2 t2 =>
    obtain ⟨q, off, eo, hBq, hNq, hCq, hclq, hlq⟩ := (HIC.out.beh (M.hAt H 0) (M.hAt_mem (by rw [HIC.out.hq.len]; omega))) (by rw [← HX.out]; simp)
    rw [← HX.out] at eo hclq hlq
    simp only at eo hclq hlq
    subst eo
    have HQ3 := Lib.hid (HQ2.out.below ((Below.refl _ _).alloc (Nat.le_refl _) (.cells (hdA ⟨c, c2 :: t2, some ⟨q, off, none⟩, k, r⟩) 127)))
    have hc3 : ClOff c2 (w2.alloc (.cells (hdA ⟨c, c2 :: t2, some ⟨q, off, none⟩, k, r⟩) 127)) q off := by
      have := hclq 0 (by simp)
      rw [show off + 0 * 3 = off from by omega] at this
      exact clOff_blk this ((Below.heap_alloc _ _ _ (Nat.lt_of_lt_of_le (Nat.lt_of_lt_of_le hNq HIC.out.nl) HS2.out)).trans (HK2.out q (Nat.lt_of_lt_of_le hNq HIC.out.nl) hCq))
    have hlk : t2.length + 1 ≤ k := by simpa using hlq
    have HC := Lib.hid (lay11_any B bi (some ⟨g, 0, none⟩) m cap K c2 t2 q off k r _ HQ3.out (by omega) HPP.out hc3 hlk)
    have HRO := Lib.hid (rowIn_new (hdA ⟨c, c2 :: t2, some ⟨q, off, none⟩, k, r⟩) 127 w2)
    have HB3 := Lib.hid (HB2.out.alloc HQ2.out.base (.cells (hdA ⟨c, c2 :: t2, some ⟨q, off, none⟩, k, r⟩) 127))
    have HR3 := Lib.hid (HR2.out.more (.cells (hdA ⟨c, c2 :: t2, some ⟨q, off, none⟩, k, r⟩) 127))
    have HK3 := Lib.hid (show ∀ b, b < w.heap.size → (∃ C fz, w.heap[b]? = some (.cells C 38 fz)) → (w2.alloc (.cells (hdA ⟨c, c2 :: t2, some ⟨q, off, none⟩, k, r⟩) 127)).heap[b]? = w.heap[b]? from fun b hb hC => (Below.heap_alloc _ _ _ (Nat.lt_of_lt_of_le hb HS2.out)).trans (HK2.out b hb hC))
    have HS3 := Lib.hid (show w.heap.size ≤ (w2.alloc (.cells (hdA ⟨c, c2 :: t2, some ⟨q, off, none⟩, k, r⟩) 127)).heap.size from Nat.le_trans HS2.out (by simp))
    clear hBq hCq hclq hlq hc3 HB2 HR2 HK2
    go_wp2_with fail
    refine (HC.out).mono ?_
    rintro e w4 ⟨rfl, ao', cap', K', hpm', hpp', hq4, ht4, hw4⟩
    have HN := Lib.hid (show c = c0 ∧ Nx B N bi w.heap.size w2.heap.size c L0 w w4 from by
      have hHR := HQ3.out.rowKeep ht4 HRO.out (fun e => by have := HQ2.out.row.lt; omega) (fun e => by have := (HQ2.out.lt e).2; omega)
      have hRR := HQ3.out.rowKeep ht4 HR3.out (rowIn_ne HR3.out HQ3.out.row (by decide)) (fun e => row_apart HR3.out HQ3.out.own (by decide) _ e rfl)
      have hk4 : ∀ b, b < w.heap.size → (∃ C fz, w.heap[b]? = some (.cells C 38 fz)) → w4.heap[b]? = w.heap[b]? := fun b hb hC => (HQ3.out.cellKeep ht4 b (by rw [HK3.out b hb hC]; exact hC)).trans (HK3.out b hb hC)
      have hX := HX.out
      obtain ⟨L', e, hic⟩ := HIC.out.popCons (c := c2) (t := t2) (q := q) (off := off) (k := k) HPM.out (by rw [← hX]; exact hpm') hpp' hq4 (fun b hb hC => hk4 b (Nat.lt_of_lt_of_le hb HIC.out.nl) hC) (Nat.le_trans HS3.out ht4.size) (by rw [← hX]) (by rw [← hX]) (by rw [← hX])
      rw [← hX] at e
      injection e with e1 e2
      subst e2
      exact ⟨e1.symm, HB3.out.trans (ht4.toBelow HIC.out.bb (fun q e => (HQ3.out.lt e).1) HQ3.out.base), hRR, hHR.cell 0, hHR.cell 1, hHR.cell 2, ⟨_, _, _, _, _, hic⟩, HIC.out.hq.base, HIC.out.nl, Nat.le_refl _, (HNK.out.trans (.below ((Below.refl _ _).alloc (Nat.le_refl _) _))).trans (HQ3.out.keeps ht4)⟩)
    clear hpm' hpp' hq4 ht4 hw4 HK3 HRO HR3 HB3 HC
    obtain ⟨ec, hn4⟩ := HN.out
    subst ec
    have HN4 := Lib.hid hn4
    have y0 := hn4.h0
    have y1 := hn4.h1
    have y2 := hn4.h2
    have HR4 := Lib.hid hn4.rr
    clear hn4 HN
    go_wp2_with ((refine wpList_store_two rfl 38 _ _ rfl w.heap.size (clA c) rfl rfl 38 (clA M.cl0) HR4.out (by kernel_rfl) rfl (clA_one _) ?_; intro wE hrE h2E hsE hkE; have HRE := Lib.hid hrE; have HFE := Lib.hid (HN4.out.fin h2E hkE); clear hrE h2E hsE hkE))
    try simp only [Exit.inBlock, Exit.then]
    exact bodyPost_ret (ret_rowP2 rfl _ _ w.heap.size rfl (load_struct Try.underlying38 (by kernel_rfl) HRE.out)) rfl ⟨rfl, HFE.out⟩

end Go.Proofs.Ythidmgnfdikppaa
