/- Layer 15: a memory in memory; seek, by a contract. -/
import Derived.Test.YthidmgnfdikppaaMemE
namespace Go.Proofs.Ythidmgnfdikppaa
set_option linter.unusedVariables false
set_option linter.unusedSimpArgs false
open Go Go.RowKit
attribute [local go_sem ↓] run_index_S
attribute [local go_sem] S_append S_extract

/-- Where a page lies, and what may be written of it. -/
def PgBlk (B : Nat) (w : World) (p : M.Pg) : Prop := B ≤ p.q ∧ (∃ C, RowIn C 38 w p.q) ∧ (p.l.length = p.k ∨ (p.o = 0 ∧ p.l.length < p.k ∧ w.ownsRow B 38 3 (pgV p) p.l.length (cls p.l)))
theorem PgBlk.below {B : Nat} {w w' : World} {p : M.Pg} (h : PgBlk B w p) (hb : Below w.heap.size w w') : PgBlk B w' p := by
  obtain ⟨h1, ⟨C, h2⟩, h3⟩ := h
  refine ⟨h1, ⟨C, h2.below hb⟩, ?_⟩
  rcases h3 with h3 | ⟨a, b, c⟩
  · exact .inl h3
  · exact .inr ⟨a, b, ownP_below c hb⟩
/-- Pages of which one may be written lie in blocks of their own. -/
def PgsAp (Ps : List M.Pg) : Prop := ∀ i j, i < Ps.length → j < Ps.length → i ≠ j → (Ps.getD i M.pg0).l.length ≠ (Ps.getD i M.pg0).k → (Ps.getD i M.pg0).q ≠ (Ps.getD j M.pg0).q
structure MemAt (B b : Nat) (pa : Option Addr) (pc : Nat) (Ps : List M.Pg) (L : List M.Cl) (w : World) : Prop where
  row : RowIn #[.slice pa Ps.length pc, .int .i64 L.length, .bool true] 132 w b
  pgs : PgsAt B pa pc Ps w
  flat : M.flat Ps = L
  st : M.Stt L
  blk : ∀ p, p ∈ Ps → PgBlk B w p
  sm : ∀ p, p ∈ Ps → 0 < p.l.length ∧ p.l.length ≤ 64
  ap : PgsAp Ps
  bb : B ≤ b
  nL : L.length ≤ 50000
  okc : ∀ c, c ∈ L → ClOk c ∧ M.mayC c = true
theorem MemAt.below {B b : Nat} {pa : Option Addr} {pc : Nat} {Ps : List M.Pg} {L : List M.Cl} {w w' : World} (h : MemAt B b pa pc Ps L w) (hb : Below w.heap.size w w') : MemAt B b pa pc Ps L w' :=
  ⟨h.row.below hb, h.pgs.below hb, h.flat, h.st, fun p hp => (h.blk p hp).below hb, h.sm, h.ap, h.bb, h.nL, h.okc⟩
instance car_mem {w w' : World} {B b : Nat} {pa : Option Addr} {pc : Nat} {Ps : List M.Pg} {L : List M.Cl} : Car w w' (MemAt B b pa pc Ps L w) (MemAt B b pa pc Ps L w') := ⟨fun hb h => h.below hb⟩
theorem M.flat_len : ∀ (Ps : List M.Pg), (∀ p, p ∈ Ps → 0 < p.l.length) → Ps.length ≤ (M.flat Ps).length
  | [], _ => Nat.zero_le _
  | p :: Ps, h => by
    have h1 := h p (by simp)
    have h2 := M.flat_len Ps (fun q hq => h q (by simp [hq]))
    rw [M.flat_cons]
    simp
    omega
theorem MemAt.ok {B b : Nat} {pa : Option Addr} {pc : Nat} {Ps : List M.Pg} {L : List M.Cl} {w : World} (h : MemAt B b pa pc Ps L w) : PgsOk Ps := by
  have h1 := M.flat_len Ps (fun p hp => (h.sm p hp).1)
  rw [h.flat] at h1
  have h2 := h.nL
  exact ⟨by omega, fun p hp => by have := h.sm p hp; omega, by rw [h.flat]; exact h.st⟩
def M.seekJ (Ps : List M.Pg) (c : M.Cl) : Nat := if M.seekA Ps c = Ps.length then 0 else M.seekI (Ps.getD (M.seekA Ps c) M.pg0).l c
/-- The first places of a list for which something holds, if it holds for no later one. -/
theorem M.filter_pre {α : Type} (f : α → Bool) (d : α) : ∀ (L : List α), (∀ i j, i ≤ j → j < L.length → f (L.getD j d) = true → f (L.getD i d) = true) → (∀ j, j < (L.filter f).length → f (L.getD j d) = true) ∧ (∀ j, (L.filter f).length ≤ j → j < L.length → f (L.getD j d) = false)
  | [], _ => ⟨fun j hj => by simp at hj, fun j _ hj => by simp at hj⟩
  | x :: t, h => by
    have ih := M.filter_pre f d t (fun i j hij hj hh => h (i + 1) (j + 1) (by omega) (by simpa using hj) hh)
    cases hx : f x with
    | true =>
      rw [List.filter_cons_of_pos hx]
      refine ⟨fun j hj => ?_, fun j hj hjl => ?_⟩
      · match j with
        | 0 => exact hx
        | j + 1 => exact ih.1 j (by simpa using hj)
      · match j with
        | 0 => simp at hj
        | j + 1 => exact ih.2 j (by simpa using hj) (by simpa using hjl)
    | false =>
      have hall : ∀ j, j < (x :: t).length → f ((x :: t).getD j d) = false := fun j hj => by
        cases q : f ((x :: t).getD j d) with
        | false => rfl
        | true =>
          have h0 : f x = true := h 0 j (Nat.zero_le _) hj q
          rw [hx] at h0; cases h0
      have e : (x :: t).filter f = [] := List.filter_eq_nil_iff.2 (fun y hy => by
        obtain ⟨j, hj, e⟩ := List.getElem_of_mem hy
        have := hall j hj
        rw [M.gD15 _ j d hj, e] at this
        simp [this])
      rw [e]
      exact ⟨fun j hj => by simp at hj, fun j _ hj => hall j hj⟩
theorem M.seek_ok {Ps : List M.Pg} (hok : PgsOk Ps) (c : M.Cl) : M.SeekOk Ps c (M.seekA Ps c) (M.seekJ Ps c) := by
  have hA := M.filter_pre (fun p => M.aheadC (M.lastP p) c) M.pg0 Ps (fun i j hij hj hh => M.last_mono hok.st (fun p hp => (hok.len p hp).1) hij hj hh)
  have hle : M.seekA Ps c ≤ Ps.length := List.length_filter_le _ _
  refine M.seek_of hok.st (fun p hp => (hok.len p hp).1) hle hA.1 (fun hlt => hA.2 _ (Nat.le_refl _) hlt) (fun he => by rw [M.seekJ, if_pos he]) (fun hlt => ?_)
  have hI := M.filter_pre (fun x => M.aheadC x c) M.cl0 (Ps.getD (M.seekA Ps c) M.pg0).l (fun i j hij hj hh => by
    rcases Nat.lt_or_ge i j with q | q
    · have := List.pairwise_iff_getElem.1 (M.page_strict hok.st (M.getD_memP hlt)) i j (by omega) hj q
      rw [M.gD15 _ j M.cl0 hj] at hh
      rw [M.gD15 _ i M.cl0 (by omega)]
      exact M.ahead_trans this hh
    · obtain rfl : i = j := by omega
      exact hh)
  rw [M.seekJ, if_neg (by omega)]
  exact ⟨List.length_filter_le _ _, hI.1, hI.2⟩
def SeekR (Ps : List M.Pg) (c : M.Cl) (w : World) (e : Ending) (w' : World) : Prop := e = .returned (.tuple #[.int .i64 (M.seekA Ps c : Nat), .int .i64 (M.seekJ Ps c : Nat)]) ∧ Below w.heap.size w w'
set_option maxHeartbeats 4000000 in
set_option maxRecDepth 100000 in
theorem seek15_any (B b : Nat) (pa : Option Addr) (pc : Nat) (Ps : List M.Pg) (L : List M.Cl) (c : M.Cl) (w : World) (h : MemAt B b pa pc Ps L w) :
    Calls Try.prog 129 #[.pointer (some ⟨b, 0, none⟩), .agg (clA c)] w (SeekR Ps c w) := by
  have hok := h.ok
  have hn := hok.n
  have HOK := Lib.hid hok
  have hal := (Below.refl w.heap.size w).alloc (Nat.le_refl _) (.cells (clA c) 38)
  have HB := Lib.hid hal
  have HM := Lib.hid (h.below hal)
  have HX := Lib.hid (rowIn_new (clA c) 38 w)
  have HJ : Hid (M.seekJ Ps c = if M.seekA Ps c = Ps.length then 0 else M.seekI (Ps.getD (M.seekA Ps c) M.pg0).l c) := Lib.hid rfl
  have hle : M.seekA Ps c ≤ Ps.length := List.length_filter_le _ _
  have CB := Lib.hid (fun V (hV : PgsAt B pa pc Ps V) => binary15_any B pa pc Ps hok c V hV)
  unfold BinR at CB
  unfold SeekR
  generalize M.seekA Ps c = a at *
  generalize M.seekJ Ps c = sj at *
  have hmf : ∀ (fn : Fn) (first cap : Array Value) (w : World), (Instr.makeFunc fn first cap).run Try.prog w = .ok (.func fn first cap) w := fun _ _ _ _ => rfl
  clear h hok hal
  go_enter Try.func129, Try.ntmps129
  go_wp2_with fail
  obtain ⟨W0, hW0⟩ : ∃ W, W = w.alloc (.cells (clA c) 38) := ⟨_, rfl⟩
  rw [← hW0] at HM HX HB
  have hW0' : w.alloc (.cells #[.string (S c.key), .int .i64 c.seq, .string (S c.val)] 38) = W0 := hW0.symm
  rw [hW0']
  clear hW0 hW0'
  obtain ⟨xb, hxb⟩ : ∃ x, x = w.heap.size := ⟨_, rfl⟩
  rw [← hxb] at HX ⊢
  clear hxb
  have y0 := HX.out.cell 0
  have y1 := HX.out.cell 1
  have y2 := HX.out.cell 2
  have r0 := HM.out.row.cell 0
  have HPG := Lib.hid (fun d os => HM.out.pgs.below (below_regrown W0 d os))
  have g0 := fun d os => cell_regrown y0 d os
  have g1 := fun d os => cell_regrown y1 d os
  have g2 := fun d os => cell_regrown y2 d os
  have g3 := fun d os => cell_regrown r0 d os
  clear y0 y1 y2 r0
  refine wp_region_quiet_below (by kernel_rfl) (by kernel_rfl) ?_
  repeat (any_goals (first | go_big_quiet_step ((first | (go_at_call 140; exact Calls.regrown_of (CB.out _ (HPG.out _ _))))) | quiet_step ((first | (go_at_call 140; exact Calls.regrown_of (CB.out _ (HPG.out _ _)))))))
  refine wpQuiet_nil ?_
  intro _ hw1
  obtain ⟨⟨d1, d1o⟩, hw1⟩ := hw1
  have hbq := below_regrown W0 d1 d1o
  rw [← hw1] at hbq
  clear hw1 g0 g1 g2 g3 HPG CB
  replace HM := Lib.hid (HM.out.below hbq)
  replace HX := Lib.hid (HX.out.below hbq)
  replace HB := Lib.hid (HB.out.trans (hbq.mono HB.out.size))
  clear hbq
  rename_i w1
  have r0 := HM.out.row.cell 0
  by_cases he : a = Ps.length
  · have HE := Lib.hid (show sj = 0 from by rw [HJ.out, if_pos he])
    have d0 : ((a : Int) == (Ps.length : Int)) = true := by rw [beq_iff_eq]; omega
    have d1 : decide ((a : Int) = (Ps.length : Int)) = true := by rw [decide_eq_true_eq]; omega
    clear he
    go_wp2_with fail
    go_ret2
    exact ⟨by rw [HE.out]; rfl, HB.out⟩
  · have HE := Lib.hid (show sj = M.seekI (Ps.getD a M.pg0).l c from by rw [HJ.out, if_neg he])
    have d0 : ((a : Int) == (Ps.length : Int)) = false := by rw [beq_eq_false_iff_ne]; omega
    have d1 : decide ((a : Int) = (Ps.length : Int)) = false := by rw [decide_eq_false_iff_not]; omega
    have hlt : a < Ps.length := by omega
    have hai : (a : Int) < (Ps.length : Int) := by omega
    obtain ⟨g, rfl, z0, hcl⟩ := HM.out.pgs.at_ hlt
    have hps := M.page_strict HOK.out.st (M.getD_memP hlt)
    have hpl := (HOK.out.len _ (M.getD_memP hlt)).2
    generalize Ps.getD a M.pg0 = p at *
    have hal := (Below.refl w1.heap.size w1).alloc (Nat.le_refl _) (.cells #[pgV p] 136)
    have CS := Lib.hid (search15_any p hps hpl c w1.heap.size xb (w1.alloc (.cells #[pgV p] 136)) (hcl.below hal) (rowIn_new _ _ _) (HX.out.below hal))
    have HBA := Lib.hid (HB.out.trans (hal.mono HB.out.size))
    have HPN := rowIn_new #[pgV p] 136 w1
    have p0 := HPN.cell 0
    unfold pgV at z0 p0 CS HBA
    clear he hps hcl hal HPN
    go_wp2_with fail
    refine (CS.out).mono ?_
    rintro e w2 ⟨rfl, hb⟩
    have HBZ := Lib.hid (HBA.out.trans (hb.mono HBA.out.size))
    clear hb CS
    go_wp2_with fail
    go_ret2
    exact ⟨by rw [HE.out]; rfl, HBZ.out⟩

end Go.Proofs.Ythidmgnfdikppaa
