/- Layer 15: Join, by a contract. -/
import Derived.Test.YthidmgnfdikppaaMemP
namespace Go.Proofs.Ythidmgnfdikppaa
set_option linter.unusedVariables false
set_option linter.unusedSimpArgs false
open Go Go.RowKit
attribute [local go_sem ↓] run_index_S
attribute [local go_sem] S_append S_extract

theorem ofIn_own {B : Nat} {ao : Option Addr} {cap : Nat} {L : List M.Cl} {w : World} (h : w.ownsRow B 38 3 (.slice ao L.length cap) L.length (cls L)) : ∃ q, OfIn B q 0 ao L w ∧ L.length ≤ cap ∧ (0 < L.length → (Value.slice ao L.length cap).ownBlock = some q) := by
  rcases Nat.eq_zero_or_pos L.length with e | e
  · exact ⟨0, fun k => absurd k (by omega), by omega, fun k => absurd k (by omega)⟩
  · obtain ⟨g, c, e1, _, _⟩ := own_slice10 h (by omega)
    obtain ⟨rfl, rfl⟩ : ao = some ⟨g, 0, none⟩ ∧ cap = c := by injection e1 with a b c; exact ⟨a, c⟩
    have h' : w.ownsRow B 38 3 (pgV ⟨L, g, 0, cap⟩) L.length (cls L) := h
    obtain ⟨k1, k2, k3, k4⟩ := pgOwn_row (p := ⟨L, g, 0, cap⟩) h' e
    exact ⟨g, fun _ => ⟨rfl, k1, k3, fun j hj => pgCl_own (p := ⟨L, g, 0, cap⟩) h' rfl j hj⟩, k4, fun _ => rfl⟩
/-- The cells of one, and those of another that it lacks. -/
def M.joinL (a b : List M.Cl) : List M.Cl := b.foldl (fun L c => M.insC c L) a
theorem M.join_snoc (a : List M.Cl) {b : List M.Cl} {i : Nat} (h : i < b.length) : M.joinL a (b.take (i + 1)) = M.insC (b.getD i M.cl0) (M.joinL a (b.take i)) := by
  rw [takeC_snoc h, M.joinL, List.foldl_append]
  rfl
theorem M.join_len (a : List M.Cl) : ∀ (b : List M.Cl), (M.joinL a b).length ≤ a.length + b.length
  | [] => by simp [M.joinL]
  | c :: b => by
    have h1 := M.join_len (M.insC c a) b
    have h2 := M.insC_len c a
    show (M.joinL (M.insC c a) b).length ≤ _
    simp only [List.length_cons]
    omega
theorem MemAt.mono {B B' b pc : Nat} {pa : Option Addr} {Ps : List M.Pg} {L : List M.Cl} {w : World} (h : MemAt B b pa pc Ps L w) (hB : B' ≤ B) : MemAt B' b pa pc Ps L w :=
  ⟨h.row, ⟨ownP_mono h.pgs.row hB, h.pgs.each⟩, h.flat, h.st, fun p hp => by
    obtain ⟨a, b, c⟩ := h.blk p hp
    refine ⟨Nat.le_trans hB a, b, ?_⟩
    rcases c with c | ⟨x, y, z⟩
    · exact .inl c
    · exact .inr ⟨x, y, ownP_mono z hB⟩, h.sm, h.ap, Nat.le_trans hB h.bb, h.nL, h.okc⟩
theorem MemAt.wr {B b pc : Nat} {pa : Option Addr} {Ps : List M.Pg} {L : List M.Cl} {w : World} (h : MemAt B b pa pc Ps L w) {k : Nat} (hk : WrS b pa Ps k) : B ≤ k ∧ k < w.heap.size := by
  rcases hk with rfl | ⟨o, rfl⟩ | ⟨p, hp, _, rfl⟩
  · exact ⟨h.bb, h.row.lt⟩
  · exact h.pgs.row.lt k rfl
  · obtain ⟨a, ⟨C, hC⟩, _⟩ := h.blk p hp
    exact ⟨a, hC.lt⟩
theorem MemAt.ft {B b pc : Nat} {pa : Option Addr} {Ps : List M.Pg} {L : List M.Cl} {w : World} (h : MemAt B b pa pc Ps L w) {k : Nat} (hk : FtS b pa Ps k) : B ≤ k ∧ k < w.heap.size := by
  rcases hk with rfl | ⟨o, rfl⟩ | ⟨p, hp, rfl⟩
  · exact ⟨h.bb, h.row.lt⟩
  · exact h.pgs.row.lt k rfl
  · obtain ⟨a, ⟨C, hC⟩, _⟩ := h.blk p hp
    exact ⟨a, hC.lt⟩
/-- A memory beside which something was written stands as it was. -/
theorem MemAt.only {A : Nat → Prop} {B b pc : Nat} {pa : Option Addr} {Ps : List M.Pg} {L : List M.Cl} {w w' : World} (h : MemAt B b pa pc Ps L w) (hO : OnlyS A w w') (hA : ∀ k, FtS b pa Ps k → ¬ A k) : MemAt B b pa pc Ps L w' := by
  refine ⟨hO.row h.row (hA b (.inl rfl)), ⟨hO.own h.pgs.row (fun q hq => ?_), fun p hp j hj => ?_⟩, h.flat, h.st, fun p hp => ?_, h.sm, h.ap, h.bb, h.nL, h.okc⟩
  · cases pa with
    | none => cases hq
    | some a =>
      injection hq with hq
      have hz : a = ⟨q, 0, none⟩ := by
        rcases h.pgs.row.2 with ⟨e, _⟩ | ⟨g, c, cur, e, _⟩
        · cases e
        · injection e with e
          injection e with e
          rw [e] at hq ⊢
          simp at hq
          rw [hq]
      exact hA q (.inr (.inl ⟨0, by rw [hz]⟩))
  · obtain ⟨_, ⟨C, hC⟩, _⟩ := h.blk p hp
    have hs := hO.block _ hC.lt (hA _ (.inr (.inr ⟨p, hp, rfl⟩)))
    obtain ⟨x, y, z⟩ := h.pgs.each p hp j hj
    refine ⟨?_, ?_, ?_⟩
    · rw [← x]; simp only [World.cell?, hs]
    · rw [← y]; simp only [World.cell?, hs]
    · rw [← z]; simp only [World.cell?, hs]
  · obtain ⟨k1, ⟨C, hC⟩, k3⟩ := h.blk p hp
    have hn := hA _ (.inr (.inr ⟨p, hp, rfl⟩))
    refine ⟨k1, ⟨C, hO.row hC hn⟩, ?_⟩
    rcases k3 with k3 | ⟨a, c, k3⟩
    · exact .inl k3
    · exact .inr ⟨a, c, hO.own k3 (fun q hq => by injection hq with hq; rw [← hq]; exact hn)⟩
/-- A memory that is being written, beside a row of cells. -/
structure JnS (B b g : Nat) (ao : Option Addr) (cap : Nat) (Lb L : List M.Cl) (w0 w : World) : Prop where
  mem : ∃ pa pc Ps, MemAt B b pa pc Ps L w ∧ SmP Ps ∧ ∀ k, WrS b pa Ps k → k ≠ g
  row : ClsAt w ao Lb
  blk : 0 < Lb.length → ∃ C, RowIn C 38 w g
  at_ : 0 < Lb.length → ao = some ⟨g, 0, none⟩
  bel : Below B w0 w
theorem JnS.below {B b g cap : Nat} {ao : Option Addr} {Lb L : List M.Cl} {w0 w w' : World} (h : JnS B b g ao cap Lb L w0 w) (hB : B ≤ w.heap.size) (hb : Below w.heap.size w w') : JnS B b g ao cap Lb L w0 w' := by
  obtain ⟨⟨pa, pc, Ps, h1, h2, h3⟩, h4, h5, h6, h7⟩ := h
  exact ⟨⟨pa, pc, Ps, h1.below hb, h2, h3⟩, h4.below hb, fun k => by obtain ⟨C, e⟩ := h5 k; exact ⟨C, e.below hb⟩, h6, h7.trans (hb.mono hB)⟩
theorem JnS.cell {B b g cap : Nat} {ao : Option Addr} {Lb L : List M.Cl} {w0 w : World} (h : JnS B b g ao cap Lb L w0 w) {i : Nat} (hi : i < Lb.length) : ClOff (Lb.getD i M.cl0) w g (i * 3) := by
  obtain ⟨g', o', e, hk⟩ := h.row (fun e => by rw [e] at hi; simp at hi)
  rw [h.at_ (by omega)] at e
  injection e with e
  injection e with e1 e2
  subst e1
  have := hk i hi
  rw [← e2, Nat.zero_add] at this
  exact this
theorem JnS.laid {B b g cap : Nat} {ao : Option Addr} {Lb L L' : List M.Cl} {w0 w w' : World} {e : Ending} {pa : Option Addr} {pc : Nat} {Ps : List M.Pg} (h : JnS B b g ao cap Lb L w0 w) (hm : MemAt B b pa pc Ps L w) (hg : ∀ k, WrS b pa Ps k → k ≠ g) (hgw : g < w.heap.size) (hB : B ≤ w.heap.size) (hl : LayR B b pa Ps L' w e w') : JnS B b g ao cap Lb L' w0 w' := by
  obtain ⟨_, pa', pc', Ps', k1, k2, k3, k4⟩ := hl
  have hne : ¬ WrS b pa Ps g := fun q => hg g q rfl
  refine ⟨⟨pa', pc', Ps', k1, k2, fun k hk => ?_⟩, ?_, fun q => ?_, h.at_, h.bel.trans (k3.below (fun k hk => (hm.wr hk).1) hB)⟩
  · rcases k4.1 k hk with q | q
    · exact hg k q
    · omega
  · intro hne2
    obtain ⟨g', o', e, hk⟩ := h.row hne2
    refine ⟨g', o', e, fun i hi => ?_⟩
    have hlt : 0 < Lb.length := by omega
    rw [h.at_ hlt] at e
    injection e with e
    injection e with e1 e2
    subst e1
    obtain ⟨x, y, z⟩ := hk i hi
    have hs := k3.block _ hgw hne
    refine ⟨?_, ?_, ?_⟩
    · rw [← x]; simp only [World.cell?, hs]
    · rw [← y]; simp only [World.cell?, hs]
    · rw [← z]; simp only [World.cell?, hs]
  · obtain ⟨C, hC⟩ := h.blk q
    exact ⟨C, k3.row hC hne⟩
set_option maxHeartbeats 4000000 in
set_option maxRecDepth 100000 in
theorem join15_any (Ba Bb ba bb : Nat) (pa pb : Option Addr) (pca pcb : Nat) (Pa Pb : List M.Pg) (La Lb : List M.Cl) (w : World) (ha : MemAt Ba ba pa pca Pa La w) (hb : MemAt Bb bb pb pcb Pb Lb w) (hn : La.length + Lb.length ≤ 40000) :
    Calls Try.prog 62 #[.pointer (some ⟨ba, 0, none⟩), .pointer (some ⟨bb, 0, none⟩)] w (OfR w.heap.size (M.joinL La Lb) w) := by
  have CA := Lib.hid (range15_any Ba ba pa pca Pa La [] [] w ha (by simp) (by simp))
  have CB := Lib.hid (fun W (hW : Below w.heap.size w W) => range15_any Bb bb pb pcb Pb Lb [] [] W (hb.below hW) (by simp) (by simp))
  have CO := Lib.hid (fun q ao cap W h hc hW => (of15_any w.heap.size q 0 ao cap La W h hc ha.st ha.okc (by omega) hW).mono (fun _ _ h => OfQ.one h))
  have CL := Lib.hid (fun B b' pa' pc' Ps' L c W h hs hB hc hl => lay15_any B b' pa' pc' Ps' L c W h hs hB hc hl)
  have HKB := Lib.hid hb.okc
  rw [M.range_nil] at CA
  simp only [M.range_nil] at CB
  unfold RangeR10 at CA CB
  clear ha hb
  go_enter Try.func62, Try.ntmps62
  go_wp2_with fail
  refine (CA.out).mono ?_
  rintro e w1 ⟨ao, cap, rfl, hown, hbel⟩
  obtain ⟨q, hq1, hq2, hq3⟩ := ofIn_own hown
  have CO1 := Lib.hid (CO.out q ao cap w1 hq1 hq2 hbel.size)
  have HB := Lib.hid hbel
  unfold OfR at CO1
  clear CA CO hown hq1 hq2 hq3 hbel
  go_wp2_with fail
  refine (CO1.out).mono ?_
  rintro e w2 ⟨b, pa', pc', Ps', rfl, hm, hsm, hwr, hbel⟩
  have HB2 := Lib.hid (HB.out.trans (hbel.mono HB.out.size))
  have HM := Lib.hid hm
  have HSM := Lib.hid hsm
  have CB1 := Lib.hid (CB.out w2 HB2.out)
  clear CB CO1 hm hsm hwr hbel HB
  go_wp2_with fail
  refine (CB1.out).mono ?_
  rintro e w3 ⟨ao2, cap2, rfl, hown2, hbel3⟩
  have HB3 := Lib.hid (HB2.out.trans (hbel3.mono HB2.out.size))
  obtain ⟨g, hg⟩ : ∃ g, g = ((Value.slice ao2 Lb.length cap2).ownBlock).getD w2.heap.size := ⟨_, rfl⟩
  have HJ := Lib.hid (show JnS w.heap.size b g ao2 cap2 Lb La w w3 from by
    obtain ⟨q, hq1, hq2, hq3⟩ := ofIn_own hown2
    refine ⟨⟨pa', pc', Ps', HM.out.below hbel3, HSM.out, fun k hk => ?_⟩, clsAt_own hown2 rfl, fun q => ?_, fun q => ?_, HB3.out⟩
    · have := (HM.out.wr hk).2
      have : w2.heap.size ≤ g := by
        rw [hg]
        cases e : (Value.slice ao2 Lb.length cap2).ownBlock with
        | none => exact Nat.le_refl _
        | some x => exact (hown2.lt x e).1
      omega
    · rw [hg, hq3 q]
      obtain ⟨_, _, e, _⟩ := hq1 q
      exact e
    · rw [hg, hq3 q]
      exact (hq1 q).1)
  clear hown2 hbel3 CB1 HB2 HM HSM hg HB3
  have hlb : Lb.length ≤ 40000 := by omega
  go_wp2_with fail
  go_loopw [14] (fun v14 wr => ∃ (i : Nat), i ≤ Lb.length ∧ v14 = .int .i64 i ∧ Hid (JnS w.heap.size b g ao2 cap2 Lb (M.joinL La (Lb.take i)) w wr)) (fun v _ => Lb.length - (intOf v).toNat)
  case atStart => exact ⟨0, Nat.zero_le _, rfl, HJ⟩
  case round =>
    clear HJ
    obtain ⟨i, hi, rfl, HJ⟩ := hrel
    by_cases hlt : i < Lb.length
    · have d1 : decide ((i : Int) < (Lb.length : Int)) = true := by simp; omega
      have d2 : decide (i < Lb.length) = true := by simp; omega
      have hii : (i : Int) < (Lb.length : Int) := by omega
      have HAT := Lib.hid (HJ.out.at_ (by omega))
      obtain rfl := HAT.out
      obtain ⟨y0, y1, y2⟩ := HJ.out.cell hlt
      have HSN := Lib.hid (M.join_snoc La hlt)
      have hlen : (M.joinL La (Lb.take i)).length < 50000 := by
        have h1 := M.join_len La (Lb.take i)
        rw [List.length_take] at h1
        omega
      have HCK := Lib.hid (HKB.out _ (M.getD_memC hlt))
      generalize Lb.getD i M.cl0 = c at *
      generalize M.joinL La (Lb.take i) = L at *
      have hbase := HJ.out.bel.size
      have HX := Lib.hid (rowIn_new (clA c) 38 wr)
      have HJ2 := Lib.hid (HJ.out.below hbase ((Below.refl wr.heap.size wr).alloc (Nat.le_refl _) (.cells (clA c) 38)))
      have hgw : g < (wr.alloc (.cells (clA c) 38)).heap.size := by
        obtain ⟨C, hC⟩ := HJ2.out.blk (by omega)
        exact hC.lt
      have hbase2 : w.heap.size ≤ (wr.alloc (.cells (clA c) 38)).heap.size := HJ2.out.bel.size
      obtain ⟨pa2, pc2, Ps2, m1, m2, m3⟩ := HJ2.out.mem
      have CL1 := Lib.hid (CL.out w.heap.size b pa2 pc2 Ps2 L c _ m1 m2 hbase2 HCK.out hlen)
      have HLD := Lib.hid (fun e w' (h : LayR w.heap.size b pa2 Ps2 (M.insC c L) (wr.alloc (.cells (clA c) 38)) e w') => And.intro (show e = .returned (.tuple #[]) from h.1) (HJ2.out.laid m1 m3 hgw hbase2 h))
      clear m1 m2 m3 HJ HJ2
      have x0 : (wr.alloc (.cells (clA c) 38)).cell? ⟨wr.heap.size, 0, none⟩ = some (.string (S c.key)) := HX.out.cell 0
      have x1 : (wr.alloc (.cells (clA c) 38)).cell? ⟨wr.heap.size, 1, none⟩ = some (.int .i64 c.seq) := HX.out.cell 1
      have x2 : (wr.alloc (.cells (clA c) 38)).cell? ⟨wr.heap.size, 2, none⟩ = some (.string (S c.val)) := HX.out.cell 2
      go_wp2_with fail
      refine (CL1.out).mono ?_
      intro e w5 hl
      obtain ⟨rfl, hj⟩ := HLD.out e w5 hl
      have HJ3 := Lib.hid hj
      rw [← HSN.out] at HJ3
      clear hj hl
      go_wp2_with fail
      go_roundw
      case rel => exact ⟨i + 1, by omega, by go_num, HJ3⟩
      case measure => simp [intOf]; omega
    · obtain rfl : i = Lb.length := by omega
      have d1 : decide ((Lb.length : Int) < (Lb.length : Int)) = false := by simp
      have d2 : decide (Lb.length < Lb.length) = false := by simp
      rw [List.take_length] at HJ
      go_wp2_with fail
      go_ret
      obtain ⟨⟨pa2, pc2, Ps2, m1, m2, m3⟩, m4, m5, m6, m7⟩ := HJ.out
      exact ⟨b, pa2, pc2, Ps2, rfl, m1, m2, fun k hk => (m1.wr hk).1, m7⟩

end Go.Proofs.Ythidmgnfdikppaa
