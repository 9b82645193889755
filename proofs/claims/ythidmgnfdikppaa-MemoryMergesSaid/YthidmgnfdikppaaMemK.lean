/- Layer 15: lay, by a contract. -/
import Derived.Test.YthidmgnfdikppaaMemJ
import Derived.Deep.RegionHeld3
import Derived.Deep.RegionLaw
namespace Go.Proofs.Ythidmgnfdikppaa
set_option linter.unusedVariables false
set_option linter.unusedSimpArgs false
open Go Go.RowKit
attribute [local go_sem ↓] run_index_S
attribute [local go_sem] S_append S_extract

def SmP (Ps : List M.Pg) : Prop := ∀ p, p ∈ Ps → p.l.length < 64
def LayR (B b : Nat) (pa : Option Addr) (Ps : List M.Pg) (L' : List M.Cl) (w : World) (e : Ending) (w' : World) : Prop := e = .returned (.tuple #[]) ∧ ∃ pa' pc' Ps', MemAt B b pa' pc' Ps' L' w' ∧ SmP Ps' ∧ OnlyS (WrS b pa Ps) w w' ∧ Grw b pa Ps w pa' Ps'
theorem RepPg.rows {B b g pc : Nat} {Ps : List M.Pg} {L : List M.Cl} {w w2 : World} {p' : M.Pg} (h : MemAt B b (some ⟨g, 0, none⟩) pc Ps L w) {a : Nat} (ha : a < Ps.length) (hr : RepPg B w w2 (Ps.getD a M.pg0) p') :
    RowIn #[.slice (some ⟨g, 0, none⟩) Ps.length pc, .int .i64 L.length, .bool true] 132 w2 b ∧ w2.ownsRow B 136 1 (.slice (some ⟨g, 0, none⟩) Ps.length pc) Ps.length (pgsV Ps) ∧ g ≠ b := by
  have ho := hr.only
  obtain ⟨_, ⟨C, hC⟩, _⟩ := h.blk _ (M.getD_memP ha)
  exact ⟨ho.row h.row (fun e => rowIn_ne hC h.row (by decide) e.2), ho.own h.pgs.row (fun q e hq => by cases e; exact row_apart hC h.pgs.row (by decide) g rfl hq.2.symm), row_apart h.row h.pgs.row (by decide) g rfl⟩
/-- What a page taken in comes to, for the memory. -/
theorem lay_put15 {B b g pc : Nat} {Ps : List M.Pg} {L : List M.Cl} {c : M.Cl} {w w1 w2 : World} {p' : M.Pg} {a i : Nat} (hb : Below w.heap.size w w1) (h : MemAt B b (some ⟨g, 0, none⟩) pc Ps L w1) (hsm : SmP Ps) (hBw : B ≤ w.heap.size) (hc : ClOk c ∧ M.mayC c = true) (hn : L.length < 50000)
    (ha : a < Ps.length) (hi : i ≤ (Ps.getD a M.pg0).l.length) (hl : p'.l = (Ps.getD a M.pg0).l.take i ++ c :: (Ps.getD a M.pg0).l.drop i) (hr : RepPg B w1 w2 (Ps.getD a M.pg0) p') (hins : M.insC c L = M.flat (Ps.take a) ++ ((Ps.getD a M.pg0).l.take i ++ c :: (Ps.getD a M.pg0).l.drop i) ++ M.flat (Ps.drop (a + 1))) :
    MemAt B b (some ⟨g, 0, none⟩) pc (Ps.set a p') (M.insC c L) ((w2.setCell ⟨g, a, none⟩ (pgV p')).setCell ⟨b, 1, none⟩ (.int .i64 ((L.length : Int) + 1))) ∧
    OnlyS (WrS b (some ⟨g, 0, none⟩) Ps) w ((w2.setCell ⟨g, a, none⟩ (pgV p')).setCell ⟨b, 1, none⟩ (.int .i64 ((L.length : Int) + 1))) ∧ Grw b (some ⟨g, 0, none⟩) Ps w (some ⟨g, 0, none⟩) (Ps.set a p') ∧ p'.l.length ≤ 64 ∧ (p'.l.length < 64 → SmP (Ps.set a p')) ∧ p'.o = 0 ∧ 0 < p'.l.length ∧ p'.l.length ≤ p'.k := by
  have hpl := hsm _ (M.getD_memP ha)
  have hlen : p'.l.length = (Ps.getD a M.pg0).l.length + 1 := by rw [hl]; simp; omega
  have hf : M.flat (Ps.set a p') = M.insC c L := by rw [flat_set15 ha, hl, hins]
  have hL : M.flat Ps = L := h.flat
  have hll : (M.insC c L).length = L.length + 1 := by
    rw [hins, ← hL, M.flat_at ha]
    simp
    omega
  have hBw1 : B ≤ w1.heap.size := Nat.le_trans hBw hb.size
  obtain ⟨k1, k2, k3⟩ := h.put ha hr hBw1 ⟨by omega, by omega⟩ hf (M.insC_strict h.st) hll (by omega) (fun x hx => by
    rcases M.insC_mem hx with rfl | hx
    · exact hc
    · exact h.okc x hx)
  refine ⟨k1, (onlyS_below hb).trans2 k2 (fun x hx => .inl hx), k3.mono hb.size, by omega, fun h64 q hq => ?_, (hr.own hBw1).2, by omega, (pgOwn_row (hr.own hBw1).1 (by omega)).2.2.2⟩
  · obtain ⟨j, hj, e⟩ := List.getElem_of_mem hq
    rw [List.length_set] at hj
    rw [List.getElem_set] at e
    split at e
    · rw [← e]; exact h64
    · rw [← e]; exact hsm _ (List.getElem_mem _)
/-- .. and one that is full. -/
theorem lay_part15 {B b g g' pc pc' : Nat} {pa0 : Option Addr} {Ps0 Ps : List M.Pg} {L : List M.Cl} {w w1 w2 : World} {a : Nat} (h : MemAt B b (some ⟨g, 0, none⟩) pc Ps L w1) (ha : a < Ps.length) (h64 : (Ps.getD a M.pg0).l.length = 64) (hO1 : OnlyS (WrS b pa0 Ps0) w w1) (hW : Grw b pa0 Ps0 w (some ⟨g, 0, none⟩) Ps)
    (hO : OnlyS (fun k => k = g) w1 w2) (hrow2 : w2.ownsRow B 136 1 (.slice (some ⟨g', 0, none⟩) (Ps.length + 1) pc') (Ps.length + 1) (pgsV (parted Ps a))) (hg' : g' = g ∨ w1.heap.size ≤ g') (hsm : ∀ q, q ∈ Ps → q.l.length ≤ 64) (h1 : ∀ i, i < Ps.length → i ≠ a → (Ps.getD i M.pg0).l.length < 64) :
    ∃ pa' pc'' Ps', MemAt B b pa' pc'' Ps' L (w2.setCell ⟨b, 0, none⟩ (.slice (some ⟨g', 0, none⟩) (Ps.length + 1) pc')) ∧ SmP Ps' ∧ OnlyS (WrS b pa0 Ps0) w (w2.setCell ⟨b, 0, none⟩ (.slice (some ⟨g', 0, none⟩) (Ps.length + 1) pc')) ∧ Grw b pa0 Ps0 w pa' Ps' := by
  obtain ⟨k1, k2, k3⟩ := h.part ha h64 hO hrow2 hg'
  refine ⟨_, _, _, k1, fun q hq => ?_, hO1.trans2 k2 hW.1, hW.trans k3 hO1.size⟩
  · rcases parted_mem ha hq with rfl | rfl | ⟨i, hi, hia, rfl⟩
    · have : (pgA (Ps.getD a M.pg0)).l.length = 32 := by show (List.take 32 _).length = 32; rw [List.length_take, h64]; rfl
      omega
    · have : (pgB (Ps.getD a M.pg0)).l.length = 32 := by show (List.drop 32 _).length = 32; rw [List.length_drop, h64]
      omega
    · exact h1 i hi hia
set_option maxHeartbeats 8000000 in
set_option maxRecDepth 100000 in
theorem layCons15_any (B b : Nat) (pa : Option Addr) (pc : Nat) (Ps : List M.Pg) (L : List M.Cl) (c : M.Cl) (w : World) (h : MemAt B b pa pc Ps L w) (hsm : SmP Ps) (hBw : B ≤ w.heap.size) (hc : ClOk c ∧ M.mayC c = true) (hn : L.length < 50000) (hz : 0 < Ps.length) :
    Calls Try.prog 99 #[.pointer (some ⟨b, 0, none⟩), .agg (clA c)] w (LayR B b pa Ps (M.insC c L) w) := by
  obtain ⟨g, epa, -⟩ := h.pgs.at_ hz
  have HQL := Lib.hid (show ∀ q, q ∈ Ps → q.q < w.heap.size from fun q hq => by
    obtain ⟨_, ⟨C, hC⟩, _⟩ := h.blk q hq
    exact hC.lt)
  subst epa
  have hal := (Below.refl w.heap.size w).alloc (Nat.le_refl _) (.cells (clA c) 38)
  have HB := Lib.hid hal
  have HM := Lib.hid (h.below hal)
  have HX := Lib.hid (rowIn_new (clA c) 38 w)
  have CS := Lib.hid (seek15_any B b _ pc Ps L c _ (h.below hal))
  have HS := Lib.hid (M.seek_ok h.ok c)
  have HI := Lib.hid (show M.insC c L = if M.seekA Ps c = Ps.length then L ++ [c] else if M.sameC ((Ps.getD (M.seekA Ps c) M.pg0).l.getD (M.seekJ Ps c) M.cl0) c = true then L else M.flat (Ps.take (M.seekA Ps c)) ++ ((Ps.getD (M.seekA Ps c) M.pg0).l.take (M.seekJ Ps c) ++ c :: (Ps.getD (M.seekA Ps c) M.pg0).l.drop (M.seekJ Ps c)) ++ M.flat (Ps.drop (M.seekA Ps c + 1)) from by
    have := HS.out.ins
    rwa [h.flat] at this)
  have hPn := h.ok.n
  have HSM := Lib.hid hsm
  have HC := Lib.hid hc
  have HBW := Lib.hid hBw
  have hxlt : w.heap.size < (w.alloc (.cells (clA c) 38)).heap.size := by rw [szA]; exact Nat.lt_succ_self _
  unfold SeekR at CS
  generalize M.seekA Ps c = a at *
  generalize M.seekJ Ps c = j at *
  clear h hal hsm hc hBw
  go_enter Try.func99, Try.ntmps99
  go_wp2_with fail
  refine (CS.out).mono ?_
  rintro e w1 ⟨rfl, hb⟩
  replace HB := carry hb HB
  replace HM := carry hb HM
  replace HX := carry hb HX
  have hxlt1 : w.heap.size < w1.heap.size := Nat.lt_of_lt_of_le hxlt hb.size
  clear hb CS hxlt
  obtain ⟨xb, hxb⟩ : ∃ x, x = w.heap.size := ⟨_, rfl⟩
  rw [← hxb] at HX hxlt1 ⊢
  have HXB := Lib.hid hxb
  clear hxb
  have z0 : ¬ ((Ps.length : Int) = 0) := by omega
  have z1 : ((Ps.length : Int) == 0) = false := by rw [beq_eq_false_iff_ne]; exact z0
  have z2 : decide ((Ps.length : Int) = 0) = false := by rw [decide_eq_false_iff_not]; exact z0
  have r0 := HM.out.row.cell 0
  have hle := HS.out.le
  by_cases he : a = Ps.length
  · have d0 : ((a : Int) == (Ps.length : Int)) = true := by rw [beq_iff_eq]; omega
    have d1 : decide ((a : Int) = (Ps.length : Int)) = true := by rw [decide_eq_true_eq]; omega
    obtain ⟨n, hn1⟩ : ∃ n, Ps.length = n + 1 := ⟨Ps.length - 1, by omega⟩
    have hw1 : IntKind.i64.wrap ((a : Int) - 1) = (n : Int) := by rw [IntWalk.i64_in _ (by omega)]; omega
    have hnn : n < Ps.length := by omega
    have hni : (n : Int) < (Ps.length : Int) := by omega
    obtain ⟨_, eg, y0, hcl⟩ := HM.out.pgs.at_ hnn
    injection eg with eg
    injection eg with eg
    subst eg
    have hpsm := HSM.out _ (M.getD_memP hnn)
    have HIN := Lib.hid (show M.insC c L = M.flat (Ps.take n) ++ ((Ps.getD n M.pg0).l.take (Ps.getD n M.pg0).l.length ++ c :: (Ps.getD n M.pg0).l.drop (Ps.getD n M.pg0).l.length) ++ M.flat (Ps.drop (n + 1)) from by
      rw [HI.out, if_pos he, ← HM.out.flat, M.flat_at hnn, List.take_length, List.drop_length, List.drop_eq_nil_of_le (show Ps.length ≤ n + 1 by omega)]
      simp [M.flat])
    have hile : (Ps.getD n M.pg0).l.length ≤ (Ps.getD n M.pg0).l.length := Nat.le_refl _
    obtain ⟨ii, hii⟩ : ∃ ii, ii = (Ps.getD n M.pg0).l.length := ⟨_, rfl⟩
    rw [← hii] at HIN
    rw [← hii] at hile
    have HII := Lib.hid hii
    have HILE := Lib.hid (show ii ≤ (Ps.getD n M.pg0).l.length from by rw [hii]; exact Nat.le_refl _)
    have HC2 := Lib.hid (show ∀ (X : Nat) V, MemAt B b (some ⟨g, 0, none⟩) pc Ps L V → RowIn (clA c) 38 V X → w1.heap.size ≤ X → Calls Try.prog 130 #[pgV (Ps.getD n M.pg0), .int .i64 ii, .slice (some ⟨X, 0, none⟩) 1 1] V fun e w' => ∃ p', e = .returned (pgV p') ∧ p'.l = (Ps.getD n M.pg0).l.take ii ++ c :: (Ps.getD n M.pg0).l.drop ii ∧ RepPg B V w' (Ps.getD n M.pg0) p' from fun X V hV hX hXw => insPage15 hV hnn (by rw [hii]; exact Nat.le_refl _) c hX (fun e => by
      obtain ⟨_, ⟨C, hC⟩, _⟩ := HM.out.blk _ (M.getD_memP hnn)
      have := hC.lt
      omega))
    unfold pgV at y0
    clear he hle HI hii hn1
    have hqx : (Ps.getD n M.pg0).q ≠ xb := fun e => by have h1 := HQL.out _ (M.getD_memP hnn); rw [← HXB.out] at h1; omega
    have HRows := Lib.hid (fun V w2 p' (hV : MemAt B b (some ⟨g, 0, none⟩) pc Ps L V) (hr : RepPg B V w2 (Ps.getD n M.pg0) p') => RepPg.rows hV hnn hr)
    have HPut := Lib.hid (fun V w2 p' (hb : Below w.heap.size w V) (hV : MemAt B b (some ⟨g, 0, none⟩) pc Ps L V) (hl : p'.l = (Ps.getD n M.pg0).l.take ii ++ c :: (Ps.getD n M.pg0).l.drop ii) (hr : RepPg B V w2 (Ps.getD n M.pg0) p') => lay_put15 hb hV HSM.out HBW.out HC.out hn hnn HILE.out hl hr HIN.out)
    have HPg := Lib.hid (fun (V : World) (hV : V.ownsRow B 136 1 (.slice (some ⟨g, 0, none⟩) Ps.length pc) Ps.length (pgsV Ps)) => (show V.cell? ⟨g, n, none⟩ = some (pgV (Ps.getD n M.pg0)) from by
      obtain ⟨g2, cap2, e, _, hc⟩ := own_slice10 hV (by omega)
      injection e with e1 e2 e3
      injection e1 with e1
      injection e1 with e1
      subst e1
      exact hc n _ (pgsV_get hnn)))
    have HOn := Lib.hid (fun V w2 p' (hr : RepPg B V w2 (Ps.getD n M.pg0) p') => hr.only)
    obtain ⟨p, hp⟩ : ∃ p, p = Ps.getD n M.pg0 := ⟨_, rfl⟩
    rw [← hp] at hqx HRows HPut HPg HOn y0 HC2 hpsm
    have HP := Lib.hid hp
    have hii2 := HII.out
    rw [← hp] at hii2
    obtain ⟨l, q, o, k⟩ := p
    simp only at hqx y0 hpsm
    simp only at hii2
    subst hii2
    clear hp hcl
    obtain ⟨x0, x1, x2⟩ : w1.cell? ⟨xb, 0, none⟩ = some (.string (S c.key)) ∧ w1.cell? ⟨xb, 1, none⟩ = some (.int .i64 c.seq) ∧ w1.cell? ⟨xb, 2, none⟩ = some (.string (S c.val)) := ⟨HX.out.cell 0, HX.out.cell 1, HX.out.cell 2⟩
    have r0' : w1.cell? ⟨b, 0, none⟩ = some (.slice (some ⟨g, 0, none⟩) Ps.length pc) := r0
    clear r0
    have hal := ((Below.refl w1.heap.size w1).alloc (Nat.le_refl _) (.cells (clA c) 38)).drew
    have HMA := Lib.hid (HM.out.below hal)
    have HXA := Lib.hid (show RowIn (clA c) 38 (w1.alloc (.cells (clA c) 38)).drew xb from HX.out.below hal)
    have HBA := Lib.hid (HB.out.trans (hal.mono HB.out.size))
    clear hal
    go_wp2_with fail
    go_region_held3 (fun W => W.cell? ⟨b, 0, none⟩ = some (.slice (some ⟨g, 0, none⟩) Ps.length pc) ∧ W.cell? ⟨g, n, none⟩ = some (.slice (some ⟨q, o, none⟩) l.length k) ∧ W.cell? ⟨xb, 0, none⟩ = some (.string (S c.key)) ∧ W.cell? ⟨xb, 1, none⟩ = some (.int .i64 c.seq) ∧ W.cell? ⟨xb, 2, none⟩ = some (.string (S c.val))) (go_keep) (first
      | (go_at_call 130; refine (HC2.out w1.heap.size _ HMA.out (rowIn_new _ _ _) (Nat.le_refl _)).mono ?_; rintro e w2 ⟨p', e1, hl, hr⟩; obtain ⟨l', q', o', k'⟩ := p'; unfold pgV at e1; simp only at e1; subst e1; obtain ⟨hr1, hr2, hgb⟩ := HRows.out _ _ _ HMA.out hr; have HPT := Lib.hid (HPut.out _ _ _ HBA.out HMA.out hl hr); have HO2 := Lib.hid (HOn.out _ _ _ hr); have s0 : w2.cell? ⟨b, 0, none⟩ = some (.slice (some ⟨g, 0, none⟩) Ps.length pc) := hr1.cell 0; have s1 : w2.cell? ⟨b, 1, none⟩ = some (.int .i64 L.length) := hr1.cell 1; have f1 := hr1.free 1; have s2 : w2.cell? ⟨g, n, none⟩ = some (.slice (some ⟨q, o, none⟩) l.length k) := HPg.out _ hr2; have f2 := (own_cell15 hr2 hnn).2; have hX2 := HO2.out.row HXA.out (fun e => hqx e.2); obtain ⟨s3, s4, s5⟩ : w2.cell? ⟨xb, 0, none⟩ = some (.string (S c.key)) ∧ w2.cell? ⟨xb, 1, none⟩ = some (.int .i64 c.seq) ∧ w2.cell? ⟨xb, 2, none⟩ = some (.string (S c.val)) := ⟨hX2.cell 0, hX2.cell 1, hX2.cell 2⟩; have hbg := hgb.symm; have HR2 := Lib.hid (And.intro hr1 hr2); clear hr1 hr2 hX2 hl hr))
    all_goals
      have hpk : l'.length ≤ k' := HPT.out.2.2.2.2.2.2.2
      by_cases h64 : l'.length = 64
      · have t0 : ((l'.length : Int) == 64) = true := by rw [beq_iff_eq]; omega
        have t1 : decide ((l'.length : Int) = 64) = true := by rw [decide_eq_true_eq]; omega
        have H64 := Lib.hid h64
        have hk32 : (32 : Int) ≤ (k' : Int) := by omega
        have hk64 : (64 : Int) ≤ (k' : Int) := by omega
        clear h64 hpk HC2 HMA HXA HBA HPut HRows HPg HOn s3 s4 s5 HO2 HR2
        go_wp2_with fail
        obtain ⟨w4, hw4⟩ : ∃ W, W = (w2.setCell ⟨g, n, none⟩ (.slice (some ⟨q', o', none⟩) l'.length k')).setCell ⟨b, 1, none⟩ (.int .i64 ((L.length : Int) + 1)) := ⟨_, rfl⟩
        rw [← hw4]
        have HPT2 := HPT.out
        unfold pgV at HPT2
        simp only at HPT2
        rw [← hw4] at HPT2
        obtain ⟨k1, k2, k3, -, -, ko, -, -⟩ := HPT2
        have hP2l : (Ps.set n ⟨l', q', o', k'⟩).length = Ps.length := List.length_set
        have hP2g : (Ps.set n ⟨l', q', o', k'⟩).getD n M.pg0 = ⟨l', q', o', k'⟩ := by simp [List.getD, hnn]
        have hP2o : ∀ i, i < Ps.length → i ≠ n → ((Ps.set n ⟨l', q', o', k'⟩).getD i M.pg0).l.length < 64 := fun i hi hin => by
          rw [show (Ps.set n ⟨l', q', o', k'⟩).getD i M.pg0 = Ps.getD i M.pg0 from by simp only [List.getD, List.getElem?_set_ne (fun e : n = i => hin e.symm)]]
          exact HSM.out _ (M.getD_memP hi)
        clear HPT hw4 HM HX x0 x1 x2 y0 s0 s1 s2 f1 f2 r0'
        generalize Ps.set n ⟨l', q', o', k'⟩ = Ps2 at *
        have HP2 := Lib.hid (And.intro hP2l (And.intro hP2g hP2o))
        have HK := Lib.hid (And.intro k1 (And.intro k2 k3))
        have r4 := k1.row.cell 0
        have r4' : w4.cell? ⟨b, 0, none⟩ = some (.slice (some ⟨g, 0, none⟩) Ps.length pc) := by rw [← hP2l]; exact r4
        have hrow4 : w4.ownsRow B 136 1 (.slice (some ⟨g, 0, none⟩) Ps.length pc) Ps.length (pgsV Ps2) := by rw [← hP2l]; exact k1.pgs.row
        obtain ⟨⟨v4, c4⟩, f4⟩ := own_cell15 hrow4 hnn
        have HRow4 := Lib.hid hrow4
        have hb4 := k1.row.free 0
        clear k1 k2 k3 r4 hP2l hP2g hP2o hrow4
        subst ko
        have HVA : Hid (pgV (pgA ⟨l', q', 0, k'⟩) = .slice (some ⟨q', 0, none⟩) 32 32) := Lib.hid (by
          show Value.slice (some ⟨q', 0, none⟩) (l'.take 32).length 32 = _
          rw [List.length_take, H64.out]; rfl)
        have HVB : Hid (pgV (pgB ⟨l', q', 0, k'⟩) = .slice (some ⟨q', 96, none⟩) 32 32) := Lib.hid (by
          show Value.slice (some ⟨q', 0 + 96, none⟩) (l'.drop 32).length 32 = _
          rw [List.length_drop, H64.out])
        go_region
        all_goals
          obtain ⟨w5, hw5⟩ : ∃ W, W = (w4.setCell ⟨g, n, none⟩ (.slice (some ⟨q', 0, none⟩) 32 32)).drew := ⟨_, rfl⟩
          rw [← hw5]
          have HO5 := Lib.hid (show OnlyS (fun k => k = g) w4 w5 from by
            obtain ⟨a1, a2, a3, a4, a5⟩ := onlyS_set (A := fun k => k = g) w4 g n (.slice (some ⟨q', 0, none⟩) 32 32) rfl
            rw [hw5]
            exact ⟨a1, a2, a3, a4, a5⟩)
          have HRow5 := Lib.hid (show w5.ownsRow B 136 1 (.slice (some ⟨g, 0, none⟩) Ps.length pc) Ps.length ((pgsV Ps2).set n (.slice (some ⟨q', 0, none⟩) 32 32)) from by
            rw [hw5]; exact ownsRow_set15 HRow4.out n _)
          have HRB5 := Lib.hid (HO5.out.row HK.out.1.row (fun e => hbg e))
          have r5 : w5.cell? ⟨b, 0, none⟩ = some (.slice (some ⟨g, 0, none⟩) Ps.length pc) := by rw [← HP2.out.1]; exact HRB5.out.cell 0
          have hgl := (HRow5.out.lt g rfl).2
          have hw6 : IntKind.i64.wrap ((n : Int) + 1) = ((n + 1 : Nat) : Int) := by rw [IntWalk.i64_in _ (by omega)]; omega
          have hBw5 : B ≤ w5.heap.size := Nat.le_trans HBW.out (Nat.le_trans HK.out.2.1.size HO5.out.size)
          clear hw5 r4' c4 f4 hb4
          have hal5 := ((Below.refl w5.heap.size w5).alloc (Nat.le_refl _) (.cells #[.slice (some ⟨q', 96, none⟩) 32 32] 136))
          have CI := Lib.hid (insPages15 (B := B) (g := g) (n := Ps.length) (cap := pc) (i := n + 1) (X := w5.heap.size) (w := (w5.alloc (.cells #[.slice (some ⟨q', 96, none⟩) 32 32] 136)).drew) ((pgsV Ps2).set n (.slice (some ⟨q', 0, none⟩) 32 32)) (.slice (some ⟨q', 96, none⟩) 32 32) rfl (HRow5.out.alloc _) (fun u hu => by
            rcases List.mem_or_eq_of_mem_set hu with hu | rfl
            · exact pgsV_one _ u hu
            · rfl) (by omega) (by omega) (rowIn_new _ _ _) (by omega) (Nat.le_trans hBw5 (by show w5.heap.size ≤ (w5.alloc _).heap.size; rw [szA]; exact Nat.le_succ _)))
          have HRB6 := Lib.hid (show RowIn #[.slice (some ⟨g, 0, none⟩) Ps2.length pc, .int .i64 ((M.insC c L).length : Int), .bool true] 132 (w5.alloc (.cells #[.slice (some ⟨q', 96, none⟩) 32 32] 136)).drew b from HRB5.out.more _)
          have HO6 := Lib.hid (show OnlyS (fun k => k = g) w4 (w5.alloc (.cells #[.slice (some ⟨q', 96, none⟩) 32 32] 136)).drew from HO5.out.trans (onlyS_below hal5.drew))
          have hsz6 : w4.heap.size ≤ (w5.alloc (.cells #[.slice (some ⟨q', 96, none⟩) 32 32] 136)).drew.heap.size := HO6.out.size
          have r6a : (w5.alloc (.cells #[.slice (some ⟨q', 96, none⟩) 32 32] 136)).cell? ⟨b, 0, none⟩ = some (.slice (some ⟨g, 0, none⟩) Ps.length pc) := by rw [← HP2.out.1]; exact HRB6.out.cell 0
          have r6b : (w5.alloc (.cells #[.slice (some ⟨q', 96, none⟩) 32 32] 136)).drew.cell? ⟨b, 0, none⟩ = some (.slice (some ⟨g, 0, none⟩) Ps.length pc) := r6a
          clear hal5
          simp only [Int.natCast_add, Int.natCast_one] at hw6 CI
          go_wp2_with fail
          go_region_law (first
            | (go_simp; go_at_call 131; refine (CI.out).mono ?_; rintro e w6 ⟨g', c', rfl, h2, h3, h4⟩; have hr6 := h3.row HRB6.out (fun e => hbg e); have s6 : w6.cell? ⟨b, 0, none⟩ = some (.slice (some ⟨g, 0, none⟩) Ps2.length pc) := hr6.cell 0; have f6 := hr6.free 0; have HI6 := Lib.hid (And.intro h2 (And.intro h3 h4)); clear h2 h3 h4 hr6))
          all_goals
            go_wp2_with fail
            go_end0
            have hn2 : n < Ps2.length := by rw [HP2.out.1]; exact hnn
            have HF := lay_part15 (b := b) (Ps0 := Ps) (Ps := Ps2) (a := n) (w2 := w6) (g' := g') (pc' := c') HK.out.1 hn2 (by rw [HP2.out.2.1]; exact H64.out) HK.out.2.1 HK.out.2.2 (HO6.out.trans HI6.out.2.1) (by
              rw [HP2.out.1, ← parted_vals hn2, HP2.out.2.1, HVA.out, HVB.out]
              exact HI6.out.1) (by
              rcases HI6.out.2.2 with q1 | q1
              · exact .inl q1
              · exact .inr (by rw [q1]; exact hsz6)) (fun q hq => (HK.out.1.sm q hq).2) (fun i hi hin => HP2.out.2.2 i (by rw [← HP2.out.1]; exact hi) hin)
            rw [HP2.out.1] at HF
            exact ⟨rfl, HF⟩
      · have t0 : ((l'.length : Int) == 64) = false := by rw [beq_eq_false_iff_ne]; omega
        have t1 : decide ((l'.length : Int) = 64) = false := by rw [decide_eq_false_iff_not]; omega
        go_wp2_with fail
        go_end0
        exact ⟨rfl, _, _, _, HPT.out.1, HPT.out.2.2.2.2.1 (by have := HPT.out.2.2.2.1; omega), HPT.out.2.1, HPT.out.2.2.1⟩
  · have d0 : ((a : Int) == (Ps.length : Int)) = false := by rw [beq_eq_false_iff_ne]; omega
    have d1 : decide ((a : Int) = (Ps.length : Int)) = false := by rw [decide_eq_false_iff_not]; omega
    have hnn : a < Ps.length := by omega
    have hni : (a : Int) < (Ps.length : Int) := by omega
    have hjl := HS.out.in_ hnn
    replace HI := Lib.hid (HI.out.trans (if_neg he))
    obtain ⟨n, rfl⟩ : ∃ n, n = a := ⟨a, rfl⟩
    obtain ⟨ii, rfl⟩ : ∃ ii, ii = j := ⟨j, rfl⟩
    obtain ⟨_, eg, y0, hcl⟩ := HM.out.pgs.at_ hnn
    injection eg with eg
    injection eg with eg
    subst eg
    have hpsm := HSM.out _ (M.getD_memP hnn)
    have HILE := Lib.hid (Nat.le_of_lt hjl)
    have HC2 := Lib.hid (show ∀ (w1 : World), w.heap.size ≤ w1.heap.size → ∀ (X : Nat) V, MemAt B b (some ⟨g, 0, none⟩) pc Ps L V → RowIn (clA c) 38 V X → w1.heap.size ≤ X → Calls Try.prog 130 #[pgV (Ps.getD n M.pg0), .int .i64 ii, .slice (some ⟨X, 0, none⟩) 1 1] V fun e w' => ∃ p', e = .returned (pgV p') ∧ p'.l = (Ps.getD n M.pg0).l.take ii ++ c :: (Ps.getD n M.pg0).l.drop ii ∧ RepPg B V w' (Ps.getD n M.pg0) p' from fun w1 hw1 X V hV hX hXw => insPage15 hV hnn HILE.out c hX (fun e => by
      have := HQL.out _ (M.getD_memP hnn)
      omega))
    have HCL := Lib.hid hcl
    have hji : (ii : Int) < ((Ps.getD n M.pg0).l.length : Int) := by omega
    obtain ⟨u0, u1, u2⟩ := hcl ii hjl
    obtain ⟨v0, v1⟩ : w1.cell? ⟨xb, 0, none⟩ = some (.string (S c.key)) ∧ w1.cell? ⟨xb, 1, none⟩ = some (.int .i64 c.seq) := ⟨HX.out.cell 0, HX.out.cell 1⟩
    have r0q : w1.cell? ⟨b, 0, none⟩ = some (.slice (some ⟨g, 0, none⟩) Ps.length pc) := r0
    have HSame : Hid (M.sameC ((Ps.getD n M.pg0).l.getD ii M.cl0) c = (((Ps.getD n M.pg0).l.getD ii M.cl0).key == c.key && ((Ps.getD n M.pg0).l.getD ii M.cl0).seq == c.seq)) := Lib.hid rfl
    obtain ⟨d, hd⟩ : ∃ d, d = (Ps.getD n M.pg0).l.getD ii M.cl0 := ⟨_, rfl⟩
    obtain ⟨pq, hpq⟩ : ∃ x, x = (Ps.getD n M.pg0).q := ⟨_, rfl⟩
    obtain ⟨po, hpo⟩ : ∃ x, x = (Ps.getD n M.pg0).o := ⟨_, rfl⟩
    obtain ⟨pk, hpk⟩ : ∃ x, x = (Ps.getD n M.pg0).k := ⟨_, rfl⟩
    obtain ⟨pl, hpl⟩ : ∃ x, x = (Ps.getD n M.pg0).l.length := ⟨_, rfl⟩
    unfold pgV at y0
    rw [← hd] at u0 u1 u2 HSame HI
    rw [← hpq, ← hpo] at u0 u1 u2
    rw [← hpq, ← hpo, ← hpk, ← hpl] at y0
    rw [← hpl] at hji
    have HEQ := Lib.hid (And.intro hpq (And.intro hpo (And.intro hpk hpl)))
    clear he hle r0 hd hpq hpo hpk hpl hcl
    by_cases hkey : d.key = c.key
    · have b1 : (d.key == c.key) = true := by simpa using hkey
      by_cases hseq : d.seq = c.seq
      · have b2 : (d.seq == c.seq) = true := by simpa using hseq
        have HIE := Lib.hid (show M.insC c L = L from by rw [HI.out, if_pos (by rw [HSame.out, b1, b2]; rfl)])
        clear hkey hseq
        go_wp2_with fail
        go_quiet (fail)
        have hbq : Below w1.heap.size w1 (w1.drewN nq) := below_drewN (Below.refl _ _) nq
        obtain ⟨wq, hwq⟩ : ∃ x, x = w1.drewN nq := ⟨_, rfl⟩
        rw [← hwq] at hbq ⊢
        replace HB := carry hbq HB
        replace HM := carry hbq HM
        replace HX := carry hbq HX
        have hxlt2 : xb < wq.heap.size := Nat.lt_of_lt_of_le hxlt1 hbq.size
        clear hwq hbq u0 u1 u2 v0 v1 r0q y0 hxlt1
        go_wp2_with fail
        go_end0
        rw [HIE.out]
        exact ⟨rfl, _, _, _, HM.out, HSM.out, onlyS_below HB.out, Grw.refl _ _ _ _⟩
      · have b2 : (d.seq == c.seq) = false := by rw [beq_eq_false_iff_ne]; exact hseq
        have HIN := Lib.hid (HI.out.trans (if_neg (by rw [HSame.out, b1, b2]; decide)))
        clear hkey hseq
        go_wp2_with fail
        go_quiet (fail)
        have hbq : Below w1.heap.size w1 (w1.drewN nq) := below_drewN (Below.refl _ _) nq
        obtain ⟨wq, hwq⟩ : ∃ x, x = w1.drewN nq := ⟨_, rfl⟩
        rw [← hwq] at hbq ⊢
        replace HB := carry hbq HB
        replace HM := carry hbq HM
        replace HX := carry hbq HX
        have hxlt2 : xb < wq.heap.size := Nat.lt_of_lt_of_le hxlt1 hbq.size
        clear hwq hbq u0 u1 u2 v0 v1 r0q y0 hxlt1
        obtain ⟨w1, hw1q⟩ : ∃ x, x = wq := ⟨_, rfl⟩
        subst hw1q
        have hxlt1 := hxlt2
        have r0 := HM.out.row.cell 0
        obtain ⟨_, eg, y0, hcl⟩ := HM.out.pgs.at_ hnn
        injection eg with eg
        injection eg with eg
        subst eg
        unfold pgV at y0
        replace HC2 := Lib.hid (HC2.out _ HB.out.size)
        have hqx : (Ps.getD n M.pg0).q ≠ xb := fun e => by have h1 := HQL.out _ (M.getD_memP hnn); rw [← HXB.out] at h1; omega
        have HRows := Lib.hid (fun V w2 p' (hV : MemAt B b (some ⟨g, 0, none⟩) pc Ps L V) (hr : RepPg B V w2 (Ps.getD n M.pg0) p') => RepPg.rows hV hnn hr)
        have HPut := Lib.hid (fun V w2 p' (hb : Below w.heap.size w V) (hV : MemAt B b (some ⟨g, 0, none⟩) pc Ps L V) (hl : p'.l = (Ps.getD n M.pg0).l.take ii ++ c :: (Ps.getD n M.pg0).l.drop ii) (hr : RepPg B V w2 (Ps.getD n M.pg0) p') => lay_put15 hb hV HSM.out HBW.out HC.out hn hnn HILE.out hl hr HIN.out)
        have HPg := Lib.hid (fun (V : World) (hV : V.ownsRow B 136 1 (.slice (some ⟨g, 0, none⟩) Ps.length pc) Ps.length (pgsV Ps)) => (show V.cell? ⟨g, n, none⟩ = some (pgV (Ps.getD n M.pg0)) from by
          obtain ⟨g2, cap2, e, _, hc⟩ := own_slice10 hV (by omega)
          injection e with e1 e2 e3
          injection e1 with e1
          injection e1 with e1
          subst e1
          exact hc n _ (pgsV_get hnn)))
        have HOn := Lib.hid (fun V w2 p' (hr : RepPg B V w2 (Ps.getD n M.pg0) p') => hr.only)
        obtain ⟨p, hp⟩ : ∃ p, p = Ps.getD n M.pg0 := ⟨_, rfl⟩
        rw [← hp] at hqx HRows HPut HPg HOn y0 HC2 hpsm
        have HP := Lib.hid hp
        obtain ⟨l, q, o, k⟩ := p
        simp only at hqx y0 hpsm
        clear hp hcl
        obtain ⟨x0, x1, x2⟩ : w1.cell? ⟨xb, 0, none⟩ = some (.string (S c.key)) ∧ w1.cell? ⟨xb, 1, none⟩ = some (.int .i64 c.seq) ∧ w1.cell? ⟨xb, 2, none⟩ = some (.string (S c.val)) := ⟨HX.out.cell 0, HX.out.cell 1, HX.out.cell 2⟩
        have r0' : w1.cell? ⟨b, 0, none⟩ = some (.slice (some ⟨g, 0, none⟩) Ps.length pc) := r0
        clear r0
        have hal := ((Below.refl w1.heap.size w1).alloc (Nat.le_refl _) (.cells (clA c) 38)).drew
        have HMA := Lib.hid (HM.out.below hal)
        have HXA := Lib.hid (show RowIn (clA c) 38 (w1.alloc (.cells (clA c) 38)).drew xb from HX.out.below hal)
        have HBA := Lib.hid (HB.out.trans (hal.mono HB.out.size))
        clear hal
        go_wp2_with fail
        go_region_held3 (fun W => W.cell? ⟨b, 0, none⟩ = some (.slice (some ⟨g, 0, none⟩) Ps.length pc) ∧ W.cell? ⟨g, n, none⟩ = some (.slice (some ⟨q, o, none⟩) l.length k) ∧ W.cell? ⟨xb, 0, none⟩ = some (.string (S c.key)) ∧ W.cell? ⟨xb, 1, none⟩ = some (.int .i64 c.seq) ∧ W.cell? ⟨xb, 2, none⟩ = some (.string (S c.val))) (go_keep) (first
          | (go_at_call 130; refine (HC2.out w1.heap.size _ HMA.out (rowIn_new _ _ _) (Nat.le_refl _)).mono ?_; rintro e w2 ⟨p', e1, hl, hr⟩; obtain ⟨l', q', o', k'⟩ := p'; unfold pgV at e1; simp only at e1; subst e1; obtain ⟨hr1, hr2, hgb⟩ := HRows.out _ _ _ HMA.out hr; have HPT := Lib.hid (HPut.out _ _ _ HBA.out HMA.out hl hr); have HO2 := Lib.hid (HOn.out _ _ _ hr); have s0 : w2.cell? ⟨b, 0, none⟩ = some (.slice (some ⟨g, 0, none⟩) Ps.length pc) := hr1.cell 0; have s1 : w2.cell? ⟨b, 1, none⟩ = some (.int .i64 L.length) := hr1.cell 1; have f1 := hr1.free 1; have s2 : w2.cell? ⟨g, n, none⟩ = some (.slice (some ⟨q, o, none⟩) l.length k) := HPg.out _ hr2; have f2 := (own_cell15 hr2 hnn).2; have hX2 := HO2.out.row HXA.out (fun e => hqx e.2); obtain ⟨s3, s4, s5⟩ : w2.cell? ⟨xb, 0, none⟩ = some (.string (S c.key)) ∧ w2.cell? ⟨xb, 1, none⟩ = some (.int .i64 c.seq) ∧ w2.cell? ⟨xb, 2, none⟩ = some (.string (S c.val)) := ⟨hX2.cell 0, hX2.cell 1, hX2.cell 2⟩; have hbg := hgb.symm; have HR2 := Lib.hid (And.intro hr1 hr2); clear hr1 hr2 hX2 hl hr))
        all_goals
          have hpk : l'.length ≤ k' := HPT.out.2.2.2.2.2.2.2
          by_cases h64 : l'.length = 64
          · have t0 : ((l'.length : Int) == 64) = true := by rw [beq_iff_eq]; omega
            have t1 : decide ((l'.length : Int) = 64) = true := by rw [decide_eq_true_eq]; omega
            have H64 := Lib.hid h64
            have hk32 : (32 : Int) ≤ (k' : Int) := by omega
            have hk64 : (64 : Int) ≤ (k' : Int) := by omega
            clear h64 hpk HC2 HMA HXA HBA HPut HRows HPg HOn s3 s4 s5 HO2 HR2
            go_wp2_with fail
            obtain ⟨w4, hw4⟩ : ∃ W, W = (w2.setCell ⟨g, n, none⟩ (.slice (some ⟨q', o', none⟩) l'.length k')).setCell ⟨b, 1, none⟩ (.int .i64 ((L.length : Int) + 1)) := ⟨_, rfl⟩
            rw [← hw4]
            have HPT2 := HPT.out
            unfold pgV at HPT2
            simp only at HPT2
            rw [← hw4] at HPT2
            obtain ⟨k1, k2, k3, -, -, ko, -, -⟩ := HPT2
            have hP2l : (Ps.set n ⟨l', q', o', k'⟩).length = Ps.length := List.length_set
            have hP2g : (Ps.set n ⟨l', q', o', k'⟩).getD n M.pg0 = ⟨l', q', o', k'⟩ := by simp [List.getD, hnn]
            have hP2o : ∀ i, i < Ps.length → i ≠ n → ((Ps.set n ⟨l', q', o', k'⟩).getD i M.pg0).l.length < 64 := fun i hi hin => by
              rw [show (Ps.set n ⟨l', q', o', k'⟩).getD i M.pg0 = Ps.getD i M.pg0 from by simp only [List.getD, List.getElem?_set_ne (fun e : n = i => hin e.symm)]]
              exact HSM.out _ (M.getD_memP hi)
            clear HPT hw4 HM HX x0 x1 x2 y0 s0 s1 s2 f1 f2 r0'
            generalize Ps.set n ⟨l', q', o', k'⟩ = Ps2 at *
            have HP2 := Lib.hid (And.intro hP2l (And.intro hP2g hP2o))
            have HK := Lib.hid (And.intro k1 (And.intro k2 k3))
            have r4 := k1.row.cell 0
            have r4' : w4.cell? ⟨b, 0, none⟩ = some (.slice (some ⟨g, 0, none⟩) Ps.length pc) := by rw [← hP2l]; exact r4
            have hrow4 : w4.ownsRow B 136 1 (.slice (some ⟨g, 0, none⟩) Ps.length pc) Ps.length (pgsV Ps2) := by rw [← hP2l]; exact k1.pgs.row
            obtain ⟨⟨v4, c4⟩, f4⟩ := own_cell15 hrow4 hnn
            have HRow4 := Lib.hid hrow4
            have hb4 := k1.row.free 0
            clear k1 k2 k3 r4 hP2l hP2g hP2o hrow4
            subst ko
            have HVA : Hid (pgV (pgA ⟨l', q', 0, k'⟩) = .slice (some ⟨q', 0, none⟩) 32 32) := Lib.hid (by
              show Value.slice (some ⟨q', 0, none⟩) (l'.take 32).length 32 = _
              rw [List.length_take, H64.out]; rfl)
            have HVB : Hid (pgV (pgB ⟨l', q', 0, k'⟩) = .slice (some ⟨q', 96, none⟩) 32 32) := Lib.hid (by
              show Value.slice (some ⟨q', 0 + 96, none⟩) (l'.drop 32).length 32 = _
              rw [List.length_drop, H64.out])
            go_region
            all_goals
              obtain ⟨w5, hw5⟩ : ∃ W, W = (w4.setCell ⟨g, n, none⟩ (.slice (some ⟨q', 0, none⟩) 32 32)).drew := ⟨_, rfl⟩
              rw [← hw5]
              have HO5 := Lib.hid (show OnlyS (fun k => k = g) w4 w5 from by
                obtain ⟨a1, a2, a3, a4, a5⟩ := onlyS_set (A := fun k => k = g) w4 g n (.slice (some ⟨q', 0, none⟩) 32 32) rfl
                rw [hw5]
                exact ⟨a1, a2, a3, a4, a5⟩)
              have HRow5 := Lib.hid (show w5.ownsRow B 136 1 (.slice (some ⟨g, 0, none⟩) Ps.length pc) Ps.length ((pgsV Ps2).set n (.slice (some ⟨q', 0, none⟩) 32 32)) from by
                rw [hw5]; exact ownsRow_set15 HRow4.out n _)
              have HRB5 := Lib.hid (HO5.out.row HK.out.1.row (fun e => hbg e))
              have r5 : w5.cell? ⟨b, 0, none⟩ = some (.slice (some ⟨g, 0, none⟩) Ps.length pc) := by rw [← HP2.out.1]; exact HRB5.out.cell 0
              have hgl := (HRow5.out.lt g rfl).2
              have hw6 : IntKind.i64.wrap ((n : Int) + 1) = ((n + 1 : Nat) : Int) := by rw [IntWalk.i64_in _ (by omega)]; omega
              have hBw5 : B ≤ w5.heap.size := Nat.le_trans HBW.out (Nat.le_trans HK.out.2.1.size HO5.out.size)
              clear hw5 r4' c4 f4 hb4
              have hal5 := ((Below.refl w5.heap.size w5).alloc (Nat.le_refl _) (.cells #[.slice (some ⟨q', 96, none⟩) 32 32] 136))
              have CI := Lib.hid (insPages15 (B := B) (g := g) (n := Ps.length) (cap := pc) (i := n + 1) (X := w5.heap.size) (w := (w5.alloc (.cells #[.slice (some ⟨q', 96, none⟩) 32 32] 136)).drew) ((pgsV Ps2).set n (.slice (some ⟨q', 0, none⟩) 32 32)) (.slice (some ⟨q', 96, none⟩) 32 32) rfl (HRow5.out.alloc _) (fun u hu => by
                rcases List.mem_or_eq_of_mem_set hu with hu | rfl
                · exact pgsV_one _ u hu
                · rfl) (by omega) (by omega) (rowIn_new _ _ _) (by omega) (Nat.le_trans hBw5 (by show w5.heap.size ≤ (w5.alloc _).heap.size; rw [szA]; exact Nat.le_succ _)))
              have HRB6 := Lib.hid (show RowIn #[.slice (some ⟨g, 0, none⟩) Ps2.length pc, .int .i64 ((M.insC c L).length : Int), .bool true] 132 (w5.alloc (.cells #[.slice (some ⟨q', 96, none⟩) 32 32] 136)).drew b from HRB5.out.more _)
              have HO6 := Lib.hid (show OnlyS (fun k => k = g) w4 (w5.alloc (.cells #[.slice (some ⟨q', 96, none⟩) 32 32] 136)).drew from HO5.out.trans (onlyS_below hal5.drew))
              have hsz6 : w4.heap.size ≤ (w5.alloc (.cells #[.slice (some ⟨q', 96, none⟩) 32 32] 136)).drew.heap.size := HO6.out.size
              have r6a : (w5.alloc (.cells #[.slice (some ⟨q', 96, none⟩) 32 32] 136)).cell? ⟨b, 0, none⟩ = some (.slice (some ⟨g, 0, none⟩) Ps.length pc) := by rw [← HP2.out.1]; exact HRB6.out.cell 0
              have r6b : (w5.alloc (.cells #[.slice (some ⟨q', 96, none⟩) 32 32] 136)).drew.cell? ⟨b, 0, none⟩ = some (.slice (some ⟨g, 0, none⟩) Ps.length pc) := r6a
              clear hal5
              simp only [Int.natCast_add, Int.natCast_one] at hw6 CI
              go_wp2_with fail
              go_region_law (first
                | (go_simp; go_at_call 131; refine (CI.out).mono ?_; rintro e w6 ⟨g', c', rfl, h2, h3, h4⟩; have hr6 := h3.row HRB6.out (fun e => hbg e); have s6 : w6.cell? ⟨b, 0, none⟩ = some (.slice (some ⟨g, 0, none⟩) Ps2.length pc) := hr6.cell 0; have f6 := hr6.free 0; have HI6 := Lib.hid (And.intro h2 (And.intro h3 h4)); clear h2 h3 h4 hr6))
              all_goals
                go_wp2_with fail
                go_end0
                have hn2 : n < Ps2.length := by rw [HP2.out.1]; exact hnn
                have HF := lay_part15 (b := b) (Ps0 := Ps) (Ps := Ps2) (a := n) (w2 := w6) (g' := g') (pc' := c') HK.out.1 hn2 (by rw [HP2.out.2.1]; exact H64.out) HK.out.2.1 HK.out.2.2 (HO6.out.trans HI6.out.2.1) (by
                  rw [HP2.out.1, ← parted_vals hn2, HP2.out.2.1, HVA.out, HVB.out]
                  exact HI6.out.1) (by
                  rcases HI6.out.2.2 with q1 | q1
                  · exact .inl q1
                  · exact .inr (by rw [q1]; exact hsz6)) (fun q hq => (HK.out.1.sm q hq).2) (fun i hi hin => HP2.out.2.2 i (by rw [← HP2.out.1]; exact hi) hin)
                rw [HP2.out.1] at HF
                exact ⟨rfl, HF⟩
          · have t0 : ((l'.length : Int) == 64) = false := by rw [beq_eq_false_iff_ne]; omega
            have t1 : decide ((l'.length : Int) = 64) = false := by rw [decide_eq_false_iff_not]; omega
            go_wp2_with fail
            go_end0
            exact ⟨rfl, _, _, _, HPT.out.1, HPT.out.2.2.2.2.1 (by have := HPT.out.2.2.2.1; omega), HPT.out.2.1, HPT.out.2.2.1⟩
    · have b1 : (d.key == c.key) = false := by rw [beq_eq_false_iff_ne]; exact hkey
      have HIN := Lib.hid (HI.out.trans (if_neg (by rw [HSame.out, b1, Bool.false_and]; decide)))
      clear hkey
      go_wp2_with fail
      go_quiet (fail)
      have hbq : Below w1.heap.size w1 (w1.drewN nq) := below_drewN (Below.refl _ _) nq
      obtain ⟨wq, hwq⟩ : ∃ x, x = w1.drewN nq := ⟨_, rfl⟩
      rw [← hwq] at hbq ⊢
      replace HB := carry hbq HB
      replace HM := carry hbq HM
      replace HX := carry hbq HX
      have hxlt2 : xb < wq.heap.size := Nat.lt_of_lt_of_le hxlt1 hbq.size
      clear hwq hbq u0 u1 u2 v0 v1 r0q y0 hxlt1
      obtain ⟨w1, hw1q⟩ : ∃ x, x = wq := ⟨_, rfl⟩
      subst hw1q
      have hxlt1 := hxlt2
      have r0 := HM.out.row.cell 0
      obtain ⟨_, eg, y0, hcl⟩ := HM.out.pgs.at_ hnn
      injection eg with eg
      injection eg with eg
      subst eg
      unfold pgV at y0
      replace HC2 := Lib.hid (HC2.out _ HB.out.size)
      have hqx : (Ps.getD n M.pg0).q ≠ xb := fun e => by have h1 := HQL.out _ (M.getD_memP hnn); rw [← HXB.out] at h1; omega
      have HRows := Lib.hid (fun V w2 p' (hV : MemAt B b (some ⟨g, 0, none⟩) pc Ps L V) (hr : RepPg B V w2 (Ps.getD n M.pg0) p') => RepPg.rows hV hnn hr)
      have HPut := Lib.hid (fun V w2 p' (hb : Below w.heap.size w V) (hV : MemAt B b (some ⟨g, 0, none⟩) pc Ps L V) (hl : p'.l = (Ps.getD n M.pg0).l.take ii ++ c :: (Ps.getD n M.pg0).l.drop ii) (hr : RepPg B V w2 (Ps.getD n M.pg0) p') => lay_put15 hb hV HSM.out HBW.out HC.out hn hnn HILE.out hl hr HIN.out)
      have HPg := Lib.hid (fun (V : World) (hV : V.ownsRow B 136 1 (.slice (some ⟨g, 0, none⟩) Ps.length pc) Ps.length (pgsV Ps)) => (show V.cell? ⟨g, n, none⟩ = some (pgV (Ps.getD n M.pg0)) from by
        obtain ⟨g2, cap2, e, _, hc⟩ := own_slice10 hV (by omega)
        injection e with e1 e2 e3
        injection e1 with e1
        injection e1 with e1
        subst e1
        exact hc n _ (pgsV_get hnn)))
      have HOn := Lib.hid (fun V w2 p' (hr : RepPg B V w2 (Ps.getD n M.pg0) p') => hr.only)
      obtain ⟨p, hp⟩ : ∃ p, p = Ps.getD n M.pg0 := ⟨_, rfl⟩
      rw [← hp] at hqx HRows HPut HPg HOn y0 HC2 hpsm
      have HP := Lib.hid hp
      obtain ⟨l, q, o, k⟩ := p
      simp only at hqx y0 hpsm
      clear hp hcl
      obtain ⟨x0, x1, x2⟩ : w1.cell? ⟨xb, 0, none⟩ = some (.string (S c.key)) ∧ w1.cell? ⟨xb, 1, none⟩ = some (.int .i64 c.seq) ∧ w1.cell? ⟨xb, 2, none⟩ = some (.string (S c.val)) := ⟨HX.out.cell 0, HX.out.cell 1, HX.out.cell 2⟩
      have r0' : w1.cell? ⟨b, 0, none⟩ = some (.slice (some ⟨g, 0, none⟩) Ps.length pc) := r0
      clear r0
      have hal := ((Below.refl w1.heap.size w1).alloc (Nat.le_refl _) (.cells (clA c) 38)).drew
      have HMA := Lib.hid (HM.out.below hal)
      have HXA := Lib.hid (show RowIn (clA c) 38 (w1.alloc (.cells (clA c) 38)).drew xb from HX.out.below hal)
      have HBA := Lib.hid (HB.out.trans (hal.mono HB.out.size))
      clear hal
      go_wp2_with fail
      go_region_held3 (fun W => W.cell? ⟨b, 0, none⟩ = some (.slice (some ⟨g, 0, none⟩) Ps.length pc) ∧ W.cell? ⟨g, n, none⟩ = some (.slice (some ⟨q, o, none⟩) l.length k) ∧ W.cell? ⟨xb, 0, none⟩ = some (.string (S c.key)) ∧ W.cell? ⟨xb, 1, none⟩ = some (.int .i64 c.seq) ∧ W.cell? ⟨xb, 2, none⟩ = some (.string (S c.val))) (go_keep) (first
        | (go_at_call 130; refine (HC2.out w1.heap.size _ HMA.out (rowIn_new _ _ _) (Nat.le_refl _)).mono ?_; rintro e w2 ⟨p', e1, hl, hr⟩; obtain ⟨l', q', o', k'⟩ := p'; unfold pgV at e1; simp only at e1; subst e1; obtain ⟨hr1, hr2, hgb⟩ := HRows.out _ _ _ HMA.out hr; have HPT := Lib.hid (HPut.out _ _ _ HBA.out HMA.out hl hr); have HO2 := Lib.hid (HOn.out _ _ _ hr); have s0 : w2.cell? ⟨b, 0, none⟩ = some (.slice (some ⟨g, 0, none⟩) Ps.length pc) := hr1.cell 0; have s1 : w2.cell? ⟨b, 1, none⟩ = some (.int .i64 L.length) := hr1.cell 1; have f1 := hr1.free 1; have s2 : w2.cell? ⟨g, n, none⟩ = some (.slice (some ⟨q, o, none⟩) l.length k) := HPg.out _ hr2; have f2 := (own_cell15 hr2 hnn).2; have hX2 := HO2.out.row HXA.out (fun e => hqx e.2); obtain ⟨s3, s4, s5⟩ : w2.cell? ⟨xb, 0, none⟩ = some (.string (S c.key)) ∧ w2.cell? ⟨xb, 1, none⟩ = some (.int .i64 c.seq) ∧ w2.cell? ⟨xb, 2, none⟩ = some (.string (S c.val)) := ⟨hX2.cell 0, hX2.cell 1, hX2.cell 2⟩; have hbg := hgb.symm; have HR2 := Lib.hid (And.intro hr1 hr2); clear hr1 hr2 hX2 hl hr))
      all_goals
        have hpk : l'.length ≤ k' := HPT.out.2.2.2.2.2.2.2
        by_cases h64 : l'.length = 64
        · have t0 : ((l'.length : Int) == 64) = true := by rw [beq_iff_eq]; omega
          have t1 : decide ((l'.length : Int) = 64) = true := by rw [decide_eq_true_eq]; omega
          have H64 := Lib.hid h64
          have hk32 : (32 : Int) ≤ (k' : Int) := by omega
          have hk64 : (64 : Int) ≤ (k' : Int) := by omega
          clear h64 hpk HC2 HMA HXA HBA HPut HRows HPg HOn s3 s4 s5 HO2 HR2
          go_wp2_with fail
          obtain ⟨w4, hw4⟩ : ∃ W, W = (w2.setCell ⟨g, n, none⟩ (.slice (some ⟨q', o', none⟩) l'.length k')).setCell ⟨b, 1, none⟩ (.int .i64 ((L.length : Int) + 1)) := ⟨_, rfl⟩
          rw [← hw4]
          have HPT2 := HPT.out
          unfold pgV at HPT2
          simp only at HPT2
          rw [← hw4] at HPT2
          obtain ⟨k1, k2, k3, -, -, ko, -, -⟩ := HPT2
          have hP2l : (Ps.set n ⟨l', q', o', k'⟩).length = Ps.length := List.length_set
          have hP2g : (Ps.set n ⟨l', q', o', k'⟩).getD n M.pg0 = ⟨l', q', o', k'⟩ := by simp [List.getD, hnn]
          have hP2o : ∀ i, i < Ps.length → i ≠ n → ((Ps.set n ⟨l', q', o', k'⟩).getD i M.pg0).l.length < 64 := fun i hi hin => by
            rw [show (Ps.set n ⟨l', q', o', k'⟩).getD i M.pg0 = Ps.getD i M.pg0 from by simp only [List.getD, List.getElem?_set_ne (fun e : n = i => hin e.symm)]]
            exact HSM.out _ (M.getD_memP hi)
          clear HPT hw4 HM HX x0 x1 x2 y0 s0 s1 s2 f1 f2 r0'
          generalize Ps.set n ⟨l', q', o', k'⟩ = Ps2 at *
          have HP2 := Lib.hid (And.intro hP2l (And.intro hP2g hP2o))
          have HK := Lib.hid (And.intro k1 (And.intro k2 k3))
          have r4 := k1.row.cell 0
          have r4' : w4.cell? ⟨b, 0, none⟩ = some (.slice (some ⟨g, 0, none⟩) Ps.length pc) := by rw [← hP2l]; exact r4
          have hrow4 : w4.ownsRow B 136 1 (.slice (some ⟨g, 0, none⟩) Ps.length pc) Ps.length (pgsV Ps2) := by rw [← hP2l]; exact k1.pgs.row
          obtain ⟨⟨v4, c4⟩, f4⟩ := own_cell15 hrow4 hnn
          have HRow4 := Lib.hid hrow4
          have hb4 := k1.row.free 0
          clear k1 k2 k3 r4 hP2l hP2g hP2o hrow4
          subst ko
          have HVA : Hid (pgV (pgA ⟨l', q', 0, k'⟩) = .slice (some ⟨q', 0, none⟩) 32 32) := Lib.hid (by
            show Value.slice (some ⟨q', 0, none⟩) (l'.take 32).length 32 = _
            rw [List.length_take, H64.out]; rfl)
          have HVB : Hid (pgV (pgB ⟨l', q', 0, k'⟩) = .slice (some ⟨q', 96, none⟩) 32 32) := Lib.hid (by
            show Value.slice (some ⟨q', 0 + 96, none⟩) (l'.drop 32).length 32 = _
            rw [List.length_drop, H64.out])
          go_region
          all_goals
            obtain ⟨w5, hw5⟩ : ∃ W, W = (w4.setCell ⟨g, n, none⟩ (.slice (some ⟨q', 0, none⟩) 32 32)).drew := ⟨_, rfl⟩
            rw [← hw5]
            have HO5 := Lib.hid (show OnlyS (fun k => k = g) w4 w5 from by
              obtain ⟨a1, a2, a3, a4, a5⟩ := onlyS_set (A := fun k => k = g) w4 g n (.slice (some ⟨q', 0, none⟩) 32 32) rfl
              rw [hw5]
              exact ⟨a1, a2, a3, a4, a5⟩)
            have HRow5 := Lib.hid (show w5.ownsRow B 136 1 (.slice (some ⟨g, 0, none⟩) Ps.length pc) Ps.length ((pgsV Ps2).set n (.slice (some ⟨q', 0, none⟩) 32 32)) from by
              rw [hw5]; exact ownsRow_set15 HRow4.out n _)
            have HRB5 := Lib.hid (HO5.out.row HK.out.1.row (fun e => hbg e))
            have r5 : w5.cell? ⟨b, 0, none⟩ = some (.slice (some ⟨g, 0, none⟩) Ps.length pc) := by rw [← HP2.out.1]; exact HRB5.out.cell 0
            have hgl := (HRow5.out.lt g rfl).2
            have hw6 : IntKind.i64.wrap ((n : Int) + 1) = ((n + 1 : Nat) : Int) := by rw [IntWalk.i64_in _ (by omega)]; omega
            have hBw5 : B ≤ w5.heap.size := Nat.le_trans HBW.out (Nat.le_trans HK.out.2.1.size HO5.out.size)
            clear hw5 r4' c4 f4 hb4
            have hal5 := ((Below.refl w5.heap.size w5).alloc (Nat.le_refl _) (.cells #[.slice (some ⟨q', 96, none⟩) 32 32] 136))
            have CI := Lib.hid (insPages15 (B := B) (g := g) (n := Ps.length) (cap := pc) (i := n + 1) (X := w5.heap.size) (w := (w5.alloc (.cells #[.slice (some ⟨q', 96, none⟩) 32 32] 136)).drew) ((pgsV Ps2).set n (.slice (some ⟨q', 0, none⟩) 32 32)) (.slice (some ⟨q', 96, none⟩) 32 32) rfl (HRow5.out.alloc _) (fun u hu => by
              rcases List.mem_or_eq_of_mem_set hu with hu | rfl
              · exact pgsV_one _ u hu
              · rfl) (by omega) (by omega) (rowIn_new _ _ _) (by omega) (Nat.le_trans hBw5 (by show w5.heap.size ≤ (w5.alloc _).heap.size; rw [szA]; exact Nat.le_succ _)))
            have HRB6 := Lib.hid (show RowIn #[.slice (some ⟨g, 0, none⟩) Ps2.length pc, .int .i64 ((M.insC c L).length : Int), .bool true] 132 (w5.alloc (.cells #[.slice (some ⟨q', 96, none⟩) 32 32] 136)).drew b from HRB5.out.more _)
            have HO6 := Lib.hid (show OnlyS (fun k => k = g) w4 (w5.alloc (.cells #[.slice (some ⟨q', 96, none⟩) 32 32] 136)).drew from HO5.out.trans (onlyS_below hal5.drew))
            have hsz6 : w4.heap.size ≤ (w5.alloc (.cells #[.slice (some ⟨q', 96, none⟩) 32 32] 136)).drew.heap.size := HO6.out.size
            have r6a : (w5.alloc (.cells #[.slice (some ⟨q', 96, none⟩) 32 32] 136)).cell? ⟨b, 0, none⟩ = some (.slice (some ⟨g, 0, none⟩) Ps.length pc) := by rw [← HP2.out.1]; exact HRB6.out.cell 0
            have r6b : (w5.alloc (.cells #[.slice (some ⟨q', 96, none⟩) 32 32] 136)).drew.cell? ⟨b, 0, none⟩ = some (.slice (some ⟨g, 0, none⟩) Ps.length pc) := r6a
            clear hal5
            simp only [Int.natCast_add, Int.natCast_one] at hw6 CI
            go_wp2_with fail
            go_region_law (first
              | (go_simp; go_at_call 131; refine (CI.out).mono ?_; rintro e w6 ⟨g', c', rfl, h2, h3, h4⟩; have hr6 := h3.row HRB6.out (fun e => hbg e); have s6 : w6.cell? ⟨b, 0, none⟩ = some (.slice (some ⟨g, 0, none⟩) Ps2.length pc) := hr6.cell 0; have f6 := hr6.free 0; have HI6 := Lib.hid (And.intro h2 (And.intro h3 h4)); clear h2 h3 h4 hr6))
            all_goals
              go_wp2_with fail
              go_end0
              have hn2 : n < Ps2.length := by rw [HP2.out.1]; exact hnn
              have HF := lay_part15 (b := b) (Ps0 := Ps) (Ps := Ps2) (a := n) (w2 := w6) (g' := g') (pc' := c') HK.out.1 hn2 (by rw [HP2.out.2.1]; exact H64.out) HK.out.2.1 HK.out.2.2 (HO6.out.trans HI6.out.2.1) (by
                rw [HP2.out.1, ← parted_vals hn2, HP2.out.2.1, HVA.out, HVB.out]
                exact HI6.out.1) (by
                rcases HI6.out.2.2 with q1 | q1
                · exact .inl q1
                · exact .inr (by rw [q1]; exact hsz6)) (fun q hq => (HK.out.1.sm q hq).2) (fun i hi hin => HP2.out.2.2 i (by rw [← HP2.out.1]; exact hi) hin)
              rw [HP2.out.1] at HF
              exact ⟨rfl, HF⟩
        · have t0 : ((l'.length : Int) == 64) = false := by rw [beq_eq_false_iff_ne]; omega
          have t1 : decide ((l'.length : Int) = 64) = false := by rw [decide_eq_false_iff_not]; omega
          go_wp2_with fail
          go_end0
          exact ⟨rfl, _, _, _, HPT.out.1, HPT.out.2.2.2.2.1 (by have := HPT.out.2.2.2.1; omega), HPT.out.2.1, HPT.out.2.2.1⟩

end Go.Proofs.Ythidmgnfdikppaa
