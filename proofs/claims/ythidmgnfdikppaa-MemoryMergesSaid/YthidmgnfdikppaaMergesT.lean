/- Layer 11: a range over the cells of an Iter: a law of its own (this iterator writes memory between rounds). -/
import Derived.Test.YthidmgnfdikppaaMergesS
namespace Go.Proofs.Ythidmgnfdikppaa
set_option linter.unusedVariables false
open Go Go.RowKit Go.Shelf
attribute [local go_sem ↓] run_index_S
attribute [local go_sem] S_append S_extract
attribute [local go_sem] Oper.semAt_some

theorem row_walk11 {C : Array Value} {T : TypeId} {w w' : World} {b : Nat} {row : Option Nat} (h : RowIn C T w b) (hg : w.grownBy w' row) (hr : ∀ r, row = some r → ∃ o : Obj, w.heap[r]? = some o ∧ o.isCells = false) : RowIn C T w' b :=
  (hg.block b h.lt (fun e => by
    obtain ⟨o, ho, hc⟩ := hr b e.symm
    unfold RowIn at h
    rw [h] at ho
    injection ho with ho
    subst ho
    cases hc)).trans h
theorem ItO.walk {B N : Nat} {p : Option Nat} {L : List M.Cl} {w w' : World} {row : Option Nat} (h : ItO B N p L w) (hg : w.grownBy w' row) (hr : ∀ r, row = some r → ∃ o : Obj, w.heap[r]? = some o ∧ o.isCells = false) : ItO B N p L w' := by
  cases p with
  | none => exact h
  | some bi =>
    obtain ⟨ao, n, cap, H, R, hi⟩ := h
    have key : ∀ (b : Nat) (C : Array Value) (T : TypeId) (fz : Nat × Nat), w.heap[b]? = some (Obj.cells C T fz) → w'.heap[b]? = w.heap[b]? := fun b C T fz hb => hg.block b (Array.getElem?_eq_some_iff.1 hb).1 (fun e => by
      obtain ⟨o, ho, hc⟩ := hr b e.symm
      rw [hb] at ho
      injection ho with ho
      subst ho
      cases hc)
    refine ⟨ao, n, cap, H, R, hi.keep hg.size (fun b hb => ?_)⟩
    rcases hb with e | e | ⟨_, C, fz, e⟩
    · subst e; exact key _ _ _ _ hi.hq.row
    · rcases hi.hq.own.2 with ⟨h0, _⟩ | ⟨g, cap', cur, hv, hB, hgg, r⟩
      · rw [h0] at e; cases e
      · rw [hv] at e; injection e with e; subst e; exact key _ _ _ _ hgg
    · exact key _ _ _ _ e
theorem putObj_grown11 {W : World} {l : Nat} {o o' : Obj} (hl : W.heap[l]? = some o) (ho : o.isCells = false) : W.grownBy (W.putObj l o') (some l) ∧ ∀ r, some l = some r → ∃ o : Obj, W.heap[r]? = some o ∧ o.isCells = false :=
  ⟨grownBy_putObj' W l o', fun r e => by injection e with e; subst e; exact ⟨o, hl, ho⟩⟩
set_option maxHeartbeats 2000000 in
theorem wpIn_rangeFunc_it11 {n : Nat} {g : Operand} {ps : Array Tmp} {assign body : Code} {Q : Exit → Act → World → Prop} {a : Act} {w : World}
    (h1 : 1 ≤ n) (h2 : 1 ≤ n - 1) {bx : Nat} (hg : a.eval g = .func (.func 126) #[] #[.pointer (some ⟨bx, 0, none⟩)]) (hps : ps.size = 1)
    (B N : Nat) (p : Option Nat) (L : List M.Cl) (hbx : RowIn #[pv11 p] 64 w bx) (hI : ItO B N p L w) (hB : B ≤ w.heap.size) (hN : N ≤ w.heap.size)
    (I : Nat → List M.Cl → World → Prop)
    (hIk : ∀ tc pre W W', I tc pre W → NextKeeps W W' → Below B W W' → I tc pre W')
    (hIs : ∀ tc pre W W', I tc pre W → Two tc none W W' → W'.heap.size = W.heap.size → I tc pre W')
    (hIo : ∀ tc pre W W' row, I tc pre W → W.grownBy W' row → (∀ r, row = some r → w.heap.size ≤ r ∧ ∃ o : Obj, W.heap[r]? = some o ∧ o.isCells = false) → I tc pre W')
    (hI0 : ∀ tc W', w.heap.size ≤ tc → NextKeeps w W' → Below B w W' → I tc [] W') (a₁ : M.Cl → Nat → Act)
    (hassign : ∀ (l : Nat) (x : M.Cl) (W : World) (K : Act → World → Prop), K (a₁ x W.heap.size) (W.alloc (.cells (clA x) 38)) →
      assign.wpIn (Fence.wide.inRound l) (n - 1 - 1) Try.prog (Exit.then K (fun _ _ _ => False)) { tmps := (ps.zip #[.agg (clA x)]).foldl (fun t (p, v) => t.setIfInBounds p v) a.tmps, defers := [] } W)
    (hbody : ∀ (l tc cb : Nat) (pre : List M.Cl) (x : M.Cl) (rest : List M.Cl) (W : World), RowIn (clA x) 38 W cb → I tc pre W → ItO B N p rest W → RowIn (clA x) 38 W tc → RowIn #[pv11 p] 64 W bx → L = pre ++ x :: rest →
      body.wpIn (Fence.wide.inRound l) (n - 1 - 1) Try.prog (fun e _ W' => e = .normal ∧ KeepsOthers W W' ∧ I tc (pre ++ [x]) W' ∧ ItO B N p rest W' ∧ RowIn (clA x) 38 W' tc ∧ RowIn #[pv11 p] 64 W' bx ∧ B ≤ W'.heap.size) (a₁ x cb) W)
    (hdone : ∀ (D tc : Nat) (W : World), w.heap.size ≤ D → I tc L W → W.heap[D]? = some (.deferred (some [])) → Q .normal { a with defers := { target := .collected D, args := #[] } :: a.defers } W) :
    (Code.rangeFunc g ps assign body).wpIn Fence.wide n Try.prog Q a w := by
  refine wpIn_rangeFunc ?_
  intro fn hfn
  obtain ⟨rec, hrec⟩ : ∃ rec : LoopState → Option Code → Loop, rec = fun st pe => { state := st, pending := pe, fn, tmps := a.tmps, params := ps, assign, body, defers := w.heap.size } := ⟨_, rfl⟩
  obtain ⟨W1, hW1⟩ : ∃ W1, (w.alloc (.deferred (some []))).alloc (.loop (rec .ready none)) = W1 := ⟨_, rfl⟩
  have hL1 : W1.heap[w.heap.size + 1]? = some (.loop (rec .ready none)) := by
    rw [← hW1]; have := World.alloc_heap_new (w.alloc (.deferred (some []))) (.loop (rec .ready none)); rwa [World.size_alloc] at this
  have hK1 : W1.heap[w.heap.size]? = some (.deferred (some [])) := by
    rw [← hW1]; exact (Below.heap_alloc _ _ _ (by simp)).trans (World.alloc_heap_new w _)
  have hb1 : Below w.heap.size w W1 := by
    rw [← hW1]; exact ((Below.refl _ w).alloc (Nat.le_refl _) _).alloc (by simp) _
  have hs1 : W1.heap.size = w.heap.size + 2 := by rw [← hW1]; simp
  refine ⟨w.heap.size + 1, [{ target := .collected w.heap.size, args := #[] }], W1, { target := .fn (.func 126) #[.pointer (some ⟨bx, 0, none⟩)], args := #[.func (.yield (w.heap.size + 1)) #[] #[]] }, W1, 126,
    #[.func (.yield (w.heap.size + 1)) #[] #[]] ++ #[.pointer (some ⟨bx, 0, none⟩)], W1, ?_, ?_, ?_, ?_, fun _ => h1, ?_⟩
  · rw [← hW1, hrec]; exact run_enterLoop_outer _ _ _ _ _
  · simp only [resolve, hg]
    simp [go_sem]
  · intro f' hf'; trivial
  · have eg := enters_of (P := Try.prog) Try.func126 (by kernel_rfl) rfl
    first | simp [invoke, go_sem] | simp [invoke, go_sem, eg]
  · refine (each11_in (n - 1) h2 B N p L (fun tc pre W => I tc pre W ∧ W.heap[w.heap.size + 1]? = some (.loop (rec .ready none)) ∧ W.heap[w.heap.size]? = some (.deferred (some [])) ∧ w.heap.size + 1 ≠ tc ∧ w.heap.size ≠ tc) (w.heap.size + 1) bx
      (fun tc pre W W' hs hk hb => ⟨hIk _ _ _ _ hs.1 hk hb, hk.same _ _ hs.2.1 (fun _ _ => ⟨nofun, nofun⟩), hk.same _ _ hs.2.2.1 (fun _ _ => ⟨nofun, nofun⟩), hs.2.2.2⟩)
      (fun tc pre W W' hs ht hz => ⟨hIs _ _ _ _ hs.1 ht hz, (ht.block _ (Array.getElem?_eq_some_iff.1 hs.2.1).1 hs.2.2.2.1 (by simp)).trans hs.2.1, (ht.block _ (Array.getElem?_eq_some_iff.1 hs.2.2.1).1 hs.2.2.2.2 (by simp)).trans hs.2.2.1, hs.2.2.2⟩)
      ?_ W1 (hbx.below hb1) (hI.below hb1) (Nat.le_trans hB hb1.size) (Nat.le_trans hN hb1.size)
      (fun tc W' htc hk hb => ⟨hI0 tc W' (by omega) ((NextKeeps.below hb1).trans hk) ((hb1.mono hB).trans hb), hk.same _ _ hL1 (fun _ _ => ⟨nofun, nofun⟩), hk.same _ _ hK1 (fun _ _ => ⟨nofun, nofun⟩), by omega, by omega⟩)).mono ?_
    · rintro tc pre x rest W ⟨hi, hl, hk, hn1, hn2⟩ hIt hrow hbW hL
      have hlt : w.heap.size + 1 < W.heap.size := (Array.getElem?_eq_some_iff.1 hl).1
      have hy := run_yield (P := Try.prog) (args := #[.agg (clA x)]) hl (by rw [hrec]; simp [hps])
      rw [hrec] at hy
      have hal : Below W.heap.size W (W.alloc (.cells (clA x) 38)) := (Below.refl _ _).alloc (Nat.le_refl _) _
      have hBW : B ≤ W.heap.size := by omega
      have hla : (W.alloc (.cells (clA x) 38)).heap[w.heap.size + 1]? = some (.loop (rec .ready none)) := (Below.heap_alloc _ _ _ hlt).trans hl
      have hka : (W.alloc (.cells (clA x) 38)).heap[w.heap.size]? = some (.deferred (some [])) := (Below.heap_alloc _ _ _ (by omega)).trans hk
      have hia := hIk _ _ _ _ hi (.below hal) (hal.mono hBW)
      have hIa := hIt.below hal
      have hra := hrow.more (.cells (clA x) 38)
      have hba := hbW.more (.cells (clA x) 38)
      have hca := rowIn_new (clA x) 38 W
      refine ⟨fn, _, assign, body, hy, roundIn_of_wpIn hfn (hassign _ x W _ ⟨_, run_beginRound hla (by rw [hrec]), ?_⟩)⟩
      generalize W.alloc (.cells (clA x) 38) = Wa at *
      have hl2 : (Wa.putObj (w.heap.size + 1) (.loop { rec .ready none with state := .busy })).heap[w.heap.size + 1]? = some (.loop { rec .ready none with state := .busy }) := World.putObj_heap_same (Array.getElem?_eq_some_iff.1 hla).1
      have hk2 : (Wa.putObj (w.heap.size + 1) (.loop { rec .ready none with state := .busy })).heap[w.heap.size]? = some (.deferred (some [])) := (World.putObj_heap_other (by omega)).trans hka
      obtain ⟨pg, pr⟩ := putObj_grown11 (o' := .loop { rec .ready none with state := .busy }) hla rfl
      refine wpIn_mono (hbody _ tc W.heap.size pre x rest _ (row_walk11 hca pg pr) (hIo _ _ _ _ _ hia pg (fun r e => ⟨by injection e with e; omega, pr r e⟩)) (hIa.walk pg pr) (row_walk11 hra pg pr) (row_walk11 hba pg pr) hL) ?_
      rintro e a3 W3 ⟨rfl, hk3, hi3, hIt3, hrow3, hb3, hB3⟩
      have hl3 := hk3.same _ _ hl2 rfl
      have hr := run_endRound (P := Try.prog) none hl3
      obtain ⟨qg, qr⟩ := putObj_grown11 (o' := .loop (rec .ready none)) hl3 rfl
      have hr2 : (Instr.endRound (w.heap.size + 1) none).run Try.prog W3 = .ok (.bool true) (W3.putObj (w.heap.size + 1) (.loop (rec .ready none))) := by rw [hrec] at hr ⊢; exact hr
      exact ⟨_, _, hr2, rfl, ⟨hIo _ _ _ _ _ hi3 qg (fun r e => ⟨by injection e with e; omega, qr r e⟩), World.putObj_heap_same (Array.getElem?_eq_some_iff.1 hl3).1, (World.putObj_heap_other (by omega)).trans (hk3.same _ _ hk2 rfl), hn1, hn2⟩, hIt3.walk qg qr, row_walk11 hrow3 qg qr, row_walk11 hb3 qg qr, Nat.le_trans hB3 (by simp)⟩
    · rintro e W2 ⟨⟨v, rfl⟩, tc, hi, hl, hk, _, _⟩
      exact ⟨none, _, by have := run_endLoop (P := Try.prog) hl (by rw [hrec]; simp); rw [hrec] at this; exact this, hdone _ tc _ (Nat.le_refl _) (hIo _ _ _ _ (some (w.heap.size + 1)) hi (grownBy_putObj' _ _ _) (fun r e => ⟨by injection e with e; omega, by injection e with e; subst e; exact ⟨_, hl, rfl⟩⟩)) ((World.putObj_heap_other (by omega)).trans hk)⟩

end Go.Proofs.Ythidmgnfdikppaa
