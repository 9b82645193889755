/- Layer 13: CursorsTorn, walked. -/
import Derived.Test.YtekmnpmeienhhaaCursQ
import Derived.Test.YtekmnpmeienhhaaCursO
namespace Go.Proofs.Ytekmnpmeienhhaa
set_option linter.unusedVariables false
open Go Go.RowKit Go.Maps

structure FewC (y : Ca) : Prop where
  keep : y.keep.length ≤ 100
  name : y.name.length ≤ 100
  data : y.data.length ≤ 300
structure Few13 (L : List Ca) : Prop where
  n : L.length ≤ 100
  each : ∀ j, j < L.length → FewC (L.getD j ca0)
def Great13 (L : List Ca) (w : World) (e : Ending) (w' : World) : Prop := (e = .returned (.bool true) ∧ w = w') ∨ (e = .returned (.bool false) ∧ Few13 L ∧ w = w')
set_option maxHeartbeats 1000000 in
theorem great13 (L : List Ca) (ao : Option Addr) (cap : Nat) (w : World) (hI : CasI L) (h : CasAt w ao L) : Calls Try.prog 49 #[.slice ao L.length cap] w (Great13 L w) := by
  have hn := hI.n
  have HI := Lib.hid hI
  have HA := Lib.hid h
  clear hI h
  go_enter Try.func49, Try.ntmps49
  go_wp2_with fail
  go_loop [3] (fun i => ∃ k : Nat, k ≤ L.length ∧ i = .int .i64 k ∧ Hid (∀ j, j < k → FewC (L.getD j ca0))) (fun i => L.length - (intOf i).toNat)
  case atStart => exact ⟨0, Nat.zero_le _, rfl, Lib.hid (fun j hj => by omega)⟩
  case round =>
    obtain ⟨k, hk, rfl, HF⟩ := hrel
    by_cases hlt : k < L.length
    · have d1 : decide (k < L.length) = true := by simpa using hlt
      obtain ⟨g, off, rfl, c0, c1, c2, c3, c4, c5, c6, -⟩ := HA.out.off hlt
      have HR := Lib.hid (HI.out.each (L.getD k ca0) (by rw [show L.getD k ca0 = L[k] from by simp [List.getD, hlt]]; exact List.getElem_mem hlt))
      have b1 := HR.out.name
      have b3 := HR.out.data
      have b4 := HR.out.keep.n
      have HG := Lib.hid (show FewC (L.getD k ca0) → ∀ j, j < k + 1 → FewC (L.getD j ca0) from fun h j hj => by
        by_cases e : j = k
        · rw [e]; exact h
        · exact HF.out j (by omega))
      clear c0 c1 c2 c3
      generalize L.getD k ca0 = r at *
      obtain ⟨rk, rc, rN, rkp, rn, rd, roA, rkk⟩ := r
      simp only at b1 b3 b4 c4 c5 c6
      go_wp2_with fail
      all_goals first
        | (go_ret; exact .inl ⟨rfl, rfl⟩)
        | (go_round
           case rel => exact ⟨k + 1, by omega, by go_num, Lib.hid (HG.out ⟨by simp only; omega, by simp only; omega, by simp only; omega⟩)⟩
           case measure => simp [intOf]; omega)
    · have d1 : decide (k < L.length) = false := by simpa using hlt
      obtain rfl : k = L.length := by omega
      by_cases h100 : 100 < L.length
      · have d2 : decide (100 < (L.length : Int)) = true := by simp; omega
        go_wp2_with fail
        go_ret
        exact .inl ⟨rfl, rfl⟩
      · have d2 : decide (100 < (L.length : Int)) = false := by simp; omega
        go_wp2_with fail
        go_ret
        exact .inr ⟨rfl, ⟨by omega, HF.out⟩, rfl⟩
section
variable {W w w' : World} {bs bs' : List (Nat × Array Value × TypeId)} {B d : Nat} {D : Dk.St}
theorem DB.less (h : DB W bs B d D w) (hb : ∀ p, p ∈ bs' → p ∈ bs) : DB W bs' B d D w :=
  ⟨h.dk.less (fun k ⟨p, hp, e⟩ => ⟨p, hb p hp, e⟩), fun p hp => h.bx p (hb p hp), h.bel, h.hB, h.hW⟩
theorem DB.set1 {b : Nat} {C C' : Array Value} {T : TypeId} (h : DB W ((b, C, T) :: bs) B d D w) (hk : Bk C' T w' b) (hw : Wr (fun q => q = b) w w') (hn : ∀ p, p ∈ bs → p.1 ≠ b) (hWb : W.heap.size ≤ b) : DB W ((b, C', T) :: bs) B d D w' := by
  refine ⟨(h.dk.wr hw (fun k hk => ⟨_, List.mem_cons_self .., hk⟩)).less (fun k hk => ?_), fun p hp => ?_, h.bel.trans (hw.below (fun q hq => by rw [hq]; exact hWb) h.bel.size), Nat.le_trans h.hB hw.size, h.hW⟩
  · obtain ⟨p, hp, e⟩ := hk
    rcases List.mem_cons.1 hp with rfl | hp
    · exact ⟨_, List.mem_cons_self .., e⟩
    · exact ⟨p, List.mem_cons_of_mem _ hp, e⟩
  · rcases List.mem_cons.1 hp with rfl | hp
    · exact hk
    · exact (h.bx p (List.mem_cons_of_mem _ hp)).wr hw (hn p hp)
end
def Dk.woke13 (D : Dk.St) : Dk.St := { D with up := true, starts := D.starts + 1 }
/-- What the law of torn cursors keeps. -/
def To13 (W : World) (B d lb i : Nat) (w : World) : Prop := ∃ (D : Dk.St) (a b : Int), DB W [(lb, #[.int .i64 a, .int .i64 b], 71)] B d D w ∧ Cu.Q [] D.L ⟨a, b⟩ ∧ D.up = true ∧ D.room = 1000 ∧ D.starts ≤ i
theorem Cu.fail_q {D : Dk.St} {n : Int} {ks : List Int} (hu : D.up = true) : ∃ s, (Dk.fail n ks D).2 = { D with set := s } := by
  unfold Dk.fail
  rw [if_neg (by rw [hu]; simp)]
  split
  · exact ⟨D.set, rfl⟩
  · exact ⟨_, rfl⟩
/-- A Save in the law of torn cursors. -/
theorem Cu.torn_save {D : Dk.St} {c c' : C} (h : Q [] D.L c) (hu : D.up = true) (hr : D.room = 1000) :
    (∃ s L', save c' D = (0, { D with set := s, L := L' }) ∧ Q [] L' c') ∨ (∃ L', save c' D = (51, { D with up := false, set := none, L := L' }) ∧ (Q [] L' c ∨ Q [] L' c')) ∨ save c' D = (2, D) := by
  cases hm : may c' with
  | false => exact .inr (.inr (save_no hu hm))
  | true =>
    rcases save_two h hu (.inr rfl) (Nat.zero_le _) (by rw [hr]; decide) hm with ⟨s, L', h1, h2, _⟩ | ⟨_, L', h1, h2⟩
    · exact .inl ⟨s, L', h1, h2⟩
    · exact .inr (.inl ⟨L', h1, h2⟩)
set_option maxRecDepth 100000 in
set_option maxHeartbeats 16000000 in
theorem cursorsTorn_calls (W : World) (v : Value) (hv : UCas W v) : Calls Try.prog 13 #[v] W fun e w' => e = .returned (.bool true) ∧ Below W.heap.size W w' := by
  obtain ⟨L, ao, cap, rfl, hI, hA⟩ := hv
  have CG := Lib.hid (great13 L ao cap W hI hA)
  have CD := Lib.hid does13
  have hi : (Try.prog.info? 71).map (·.size) = some 2 := by kernel_rfl
  have HII := Lib.hid hi
  have HI := Lib.hid hI
  have HA := Lib.hid hA
  clear hI hA hi
  have CN := Lib.hid (show Calls Try.prog 17 #[.int .i64 1000] W _ from newDB 1000 W (by decide) (by decide) (W := W) (Below.refl _ _))
  go_enter Try.func13, Try.ntmps13
  go_wp2_with fail
  with_reducible refine CG.out.mono ?_
  rintro e w1 (⟨rfl, rfl⟩ | ⟨rfl, hF, rfl⟩)
  · go_wp2_with fail
    go_ret
    exact ⟨rfl, Below.refl _ _⟩
  have HF := Lib.hid hF
  have hL := hF.n
  clear hF CG
  go_wp2_with fail
  with_reducible refine CN.out.mono ?_
  rintro e w1 ⟨d, rfl, hd, -⟩
  have H0 := Lib.hid (show To13 W W.heap.size d w1.heap.size 0 (w1.alloc (.cells #[.int .i64 0, .int .i64 0] 71)) from ⟨Dk.new 1000, 0, 0, hd.box _ _, Cu.q_new 1000, rfl, rfl, Nat.zero_le _⟩)
  have HWL := Lib.hid (hd.bel.size)
  clear hd CN
  go_wp2_with fail
  obtain ⟨lb, hlb⟩ : ∃ x, x = w1.heap.size := ⟨_, rfl⟩
  obtain ⟨w2, hw2⟩ : ∃ x, x = w1.alloc (.cells #[.int .i64 0, .int .i64 0] 71) := ⟨_, rfl⟩
  rw [← hw2, ← hlb] at H0
  rw [← hlb] at HWL
  simp only [← hw2, ← hlb]
  clear hw2 hlb
  go_loopw [6] (fun v wr => ∃ i : Nat, i ≤ L.length ∧ v = .int .i64 i ∧ Hid (To13 W W.heap.size d lb i wr)) (fun v _ => L.length - (intOf v).toNat)
  case atStart => exact ⟨0, Nat.zero_le _, rfl, H0⟩
  case round =>
    clear H0
    obtain ⟨w3, rfl⟩ : ∃ x, x = wr := ⟨_, rfl⟩
    obtain ⟨i, hi, rfl, HH⟩ := hrel
    obtain ⟨D, a, b, hD, hQ, hu, hr, hs⟩ := HH.out
    have HD := Lib.hid hD
    have HQ := Lib.hid hQ
    have HU := Lib.hid (show D.up = true ∧ D.room = 1000 ∧ D.starts ≤ i from ⟨hu, hr, hs⟩)
    clear HH hD hQ hu hr hs
    by_cases hlt : i < L.length
    · have d1 : decide (i < L.length) = true := by simpa using hlt
      have HRI := Lib.hid (HI.out.each (L.getD i ca0) (by rw [show L.getD i ca0 = L[i] from by simp [List.getD, hlt]]; exact List.getElem_mem hlt))
      have HRF := Lib.hid (HF.out.each i hlt)
      obtain ⟨g, off, rfl, hcell⟩ := HA.out.off hlt
      have HNA := Lib.hid (hcell.2.2.2.2.2.2.2)
      have HLX := Lib.hid (show lb < w3.heap.size from HD.out.xlt lb ⟨_, List.mem_singleton_self _, rfl⟩)
      have kk : ∀ j v, W.cell? ⟨g, j, none⟩ = some v → w3.cell? ⟨g, j, none⟩ = some v := fun j v hv => (HD.out.bel.cell (p := ⟨g, j, none⟩) (cell_lt5 hv)).trans hv
      have c0 := kk _ _ hcell.1
      have c1 := kk _ _ hcell.2.1
      have c2 := kk _ _ hcell.2.2.1
      have c3 := kk _ _ hcell.2.2.2.1
      have c4 := kk _ _ hcell.2.2.2.2.1
      have c5 := kk _ _ hcell.2.2.2.2.2.1
      have c6 := kk _ _ hcell.2.2.2.2.2.2.1
      have hi1 : (0 : Int) ≤ (i : Int) := by omega
      have hi2 : (i : Int) < (L.length : Int) := by omega
      clear hcell kk
      have hkb := HRI.out.kind
      have hkeepI := HRI.out.keep
      have hnI := HRI.out.n.2
      have hkeepF := HRF.out.keep
      generalize L.getD i ca0 = x at *
      obtain ⟨xk, ⟨p, q⟩, xn, xkp, xnm, xdt, xo, xc⟩ := x
      simp only at c0 c1 c2 c3 c4 c5 c6 hkb hkeepI hnI hkeepF HNA
      obtain ⟨hk0, hk1⟩ := hkb
      have HKS := Lib.hid (hkeepI.ks (by omega))
      have HNN := Lib.hid hnI
      have HKB := Lib.hid (show ∀ a, xkp ≠ [] → xo = some a → a.block < W.heap.size from fun a hn ha => by
        obtain ⟨g', off', e, hc⟩ := HNA.out hn
        rw [ha] at e
        cases e
        exact cell_lt5 (hc 0 (List.length_pos_iff.2 hn)))
      clear HRI HRF hkeepI hkeepF hnI
      obtain ⟨m, hm, hm11⟩ : ∃ m : Nat, xk % 11 = (m : Int) ∧ m < 11 := ⟨(xk % 11).toNat, by omega, by omega⟩
      replace HD := Lib.hid (HD.out.box #[.int .u8 xk, .int .i64 p, .int .i64 q, .int .i64 xn, .slice xo xkp.length xc, .string (S xnm), .string (S xdt)] 79)
      go_upto_region 11 with fail
      obtain ⟨xb, hxb⟩ : ∃ x, x = w3.heap.size := ⟨_, rfl⟩
      obtain ⟨w4, hw4⟩ : ∃ x, x = w3.alloc (.cells #[.int .u8 xk, .int .i64 p, .int .i64 q, .int .i64 xn, .slice xo xkp.length xc, .string (S xnm), .string (S xdt)] 79) := ⟨_, rfl⟩
      rw [← hw4, ← hxb] at HD
      rw [← hxb] at HLX
      simp only [← hw4, ← hxb]
      clear hw4 hxb c0 c1 c2 c3 c4 c5 c6
      have hx := HD.out.bx _ (List.mem_cons_self ..)
      have x0 : w4.cell? ⟨xb, 0, none⟩ = some (.int .u8 xk) := hx.cell 0
      have x3 : w4.cell? ⟨xb, 3, none⟩ = some (.int .i64 xn) := hx.cell 3
      have x4 : w4.cell? ⟨xb, 4, none⟩ = some (.slice xo xkp.length xc) := hx.cell 4
      clear hx
      go_upto_region 12 with fail
      clear x0
      rcases (show m = 7 ∨ m = 8 ∨ m < 5 ∨ (8 < m ∨ m = 5 ∨ m = 6) by omega) with rfl | rfl | h5 | ho
      · skip
        have CF := Lib.hid (HD.out.fail xn xkp xo xc HNN.out HKS.out (HNA.out.below HD.out.bel))
        obtain ⟨st, hst⟩ := Cu.fail_q (n := xn) (ks := xkp) HU.out.1
        rw [hst] at CF
        clear hst
        have HU9 := Lib.hid (show ({ D with set := st } : Dk.St).up = true ∧ ({ D with set := st } : Dk.St).room = 1000 ∧ ({ D with set := st } : Dk.St).starts ≤ i + 1 from ⟨HU.out.1, HU.out.2.1, by have := HU.out.2.2; simp only; omega⟩)
        have HQ9 := Lib.hid (show Cu.Q [] ({ D with set := st } : Dk.St).L ⟨a, b⟩ from HQ.out)
        generalize (Dk.fail xn xkp D).1 = fe at *
        generalize ({ D with set := st } : Dk.St) = D9 at *
        go_wp2_with fail
        with_reducible refine CF.out.mono ?_
        rintro e w5 ⟨rfl, hd5⟩
        replace HD := Lib.hid hd5
        clear hd5 CF x3 x4
        go_upto_region 16 with fail

        have hl := HD.out.bx (lb, #[.int .i64 a, .int .i64 b], 71) (by simp)
        have HLB := Lib.hid hl
        have HDm := Lib.hid (HD.out.box #[.int .i64 a, .int .i64 b] 71)
        clear hl
        go_upto_region 17 with (refine wpList_load_row rfl 71 _ rfl lb rfl 71 _ (0, 0) _ HLB.out Try.underlying71 rfl ?_ ?_; exact HII.out)
        obtain ⟨mb, hmb⟩ : ∃ x, x = w5.heap.size := ⟨_, rfl⟩
        obtain ⟨w6, hw6⟩ : ∃ x, x = w5.alloc (.cells #[.int .i64 a, .int .i64 b] 71) := ⟨_, rfl⟩
        have HXM := Lib.hid (show xb < mb from by rw [hmb]; exact HD.out.xlt xb ⟨_, List.mem_cons_self .., rfl⟩)
        replace HD := HDm
        rw [← hw6, ← hmb] at HD
        simp only [← hw6, ← hmb]
        clear hw6 hmb HDm HLB

        have CL := Lib.hid HD.out.load
        rw [show Cu.load D9 = (0, ⟨a, b⟩) from Cu.load_q (E := []) HQ9.out HU9.out.1] at CL
        go_wp2_with fail
        with_reducible refine CL.out.mono ?_
        rintro e wl ⟨rfl, hdl⟩
        have HCM := Lib.hid (show mb < wl.heap.size from hdl.xlt mb ⟨(mb, #[.int .i64 a, .int .i64 b], 71), by simp, rfl⟩)
        replace HD := Lib.hid (hdl.box #[.int .i64 a, .int .i64 b] 71)
        clear hdl CL
        unfold loadV13
        simp only
        go_upto_region 30 with fail
        obtain ⟨cb, hcb⟩ : ∃ x, x = wl.heap.size := ⟨_, rfl⟩
        obtain ⟨wt, hwt⟩ : ∃ x, x = wl.alloc (.cells #[.int .i64 a, .int .i64 b] 71) := ⟨_, rfl⟩
        rw [← hwt, ← hcb] at HD
        rw [← hcb] at HCM
        simp only [← hwt, ← hcb]
        clear hwt hcb
        have HCB := Lib.hid (HD.out.bx (cb, #[.int .i64 a, .int .i64 b], 71) (by simp))
        have HLB := Lib.hid (HD.out.bx (lb, #[.int .i64 a, .int .i64 b], 71) (by simp))
        have HMB := Lib.hid (HD.out.bx (mb, #[.int .i64 a, .int .i64 b], 71) (by simp))
        have y0 : wt.cell? ⟨cb, 0, none⟩ = some (.int .i64 a) := HCB.out.cell 0
        have y1 : wt.cell? ⟨cb, 1, none⟩ = some (.int .i64 b) := HCB.out.cell 1
        have y2 : wt.cell? ⟨lb, 0, none⟩ = some (.int .i64 a) := HLB.out.cell 0
        have y3 : wt.cell? ⟨lb, 1, none⟩ = some (.int .i64 b) := HLB.out.cell 1
        have y4 : wt.cell? ⟨mb, 0, none⟩ = some (.int .i64 a) := HMB.out.cell 0
        have y5 : wt.cell? ⟨mb, 1, none⟩ = some (.int .i64 b) := HMB.out.cell 1
        have HFIN := Lib.hid (fun (w9 : World) (h9 : Bk #[.int .i64 a, .int .i64 b] 71 w9 lb) (hw9 : Wr (fun q => q = lb) wt w9) => (show To13 W W.heap.size d lb (i + 1) w9 from by
          have h1 : DB W ((lb, #[.int .i64 a, .int .i64 b], 71) :: []) W.heap.size d D9 wt := HD.out.less (fun p hp => by simp only [List.mem_singleton] at hp; rw [hp]; simp)
          exact ⟨_, a, b, h1.set1 h9 hw9 (fun p hp => by cases hp) HWL.out, HQ9.out, HU9.out.1, HU9.out.2.1, HU9.out.2.2⟩))
        clear HD HMB
        go_wp2_with (first | (refine wpList_load_row rfl 71 _ rfl cb rfl 71 _ (0, 0) _ HCB.out Try.underlying71 rfl ?_ ?_; exact HII.out) | (refine wpList_store13 rfl 71 _ _ rfl lb #[.int .i64 a, .int .i64 b] rfl rfl 71 _ HLB.out HII.out rfl (by simp [Value.oneCell']) ?_; intro w9 h9 hw9; have HR9 := Lib.hid (HFIN.out w9 h9 hw9); clear h9 hw9))
        all_goals
          go_roundw
          case rel => exact ⟨i + 1, by omega, by go_num, HR9⟩
          case measure => simp [intOf]; omega
      · skip
        have CC := Lib.hid (HD.out.crash xkp xo xc HKS.out (HNA.out.below HD.out.bel) (fun x hn hx => .inr (HKB.out x hn hx)))
        rw [show Dk.crash xkp D = (0, Dk.fall xkp D) from by unfold Dk.crash; rw [if_neg (by rw [HU.out.1]; simp)]] at CC
        have HU9 := Lib.hid (show (Dk.woke13 (Dk.fall xkp D)).up = true ∧ (Dk.woke13 (Dk.fall xkp D)).room = 1000 ∧ (Dk.woke13 (Dk.fall xkp D)).starts ≤ i + 1 from ⟨rfl, HU.out.2.1, by have := HU.out.2.2; show D.starts + 1 ≤ i + 1; omega⟩)
        have HQ9 := Lib.hid (show Cu.Q [] (Dk.woke13 (Dk.fall xkp D)).L ⟨a, b⟩ from HQ.out.cut xkp)
        have HSL := Lib.hid (show (Dk.fall xkp D).starts ≤ 1000000000 from by have := HU.out.2.2; show D.starts ≤ _; omega)
        have HST := Lib.hid (show Dk.start (Dk.fall xkp D) = (0, Dk.woke13 (Dk.fall xkp D)) from rfl)
        generalize Dk.woke13 (Dk.fall xkp D) = D9 at *
        generalize Dk.fall xkp D = D8 at *
        go_wp2_with fail
        with_reducible refine CC.out.mono ?_
        rintro e w5 ⟨rfl, hd5⟩
        replace HD := Lib.hid hd5
        clear hd5 CC x3 x4
        have CT := Lib.hid (HD.out.start HSL.out)
        rw [HST.out] at CT
        go_wp2_with fail
        with_reducible refine CT.out.mono ?_
        rintro e w6 ⟨rfl, hd5⟩
        replace HD := Lib.hid hd5
        clear hd5 CT HST
        go_upto_region 16 with fail

        have hl := HD.out.bx (lb, #[.int .i64 a, .int .i64 b], 71) (by simp)
        have HLB := Lib.hid hl
        have HDm := Lib.hid (HD.out.box #[.int .i64 a, .int .i64 b] 71)
        clear hl
        go_upto_region 17 with (refine wpList_load_row rfl 71 _ rfl lb rfl 71 _ (0, 0) _ HLB.out Try.underlying71 rfl ?_ ?_; exact HII.out)
        obtain ⟨mb, hmb⟩ : ∃ x, x = w6.heap.size := ⟨_, rfl⟩
        obtain ⟨w7, hw7⟩ : ∃ x, x = w6.alloc (.cells #[.int .i64 a, .int .i64 b] 71) := ⟨_, rfl⟩
        have HXM := Lib.hid (show xb < mb from by rw [hmb]; exact HD.out.xlt xb ⟨_, List.mem_cons_self .., rfl⟩)
        replace HD := HDm
        rw [← hw7, ← hmb] at HD
        simp only [← hw7, ← hmb]
        clear hw7 hmb HDm HLB

        have CL := Lib.hid HD.out.load
        rw [show Cu.load D9 = (0, ⟨a, b⟩) from Cu.load_q (E := []) HQ9.out HU9.out.1] at CL
        go_wp2_with fail
        with_reducible refine CL.out.mono ?_
        rintro e wl ⟨rfl, hdl⟩
        have HCM := Lib.hid (show mb < wl.heap.size from hdl.xlt mb ⟨(mb, #[.int .i64 a, .int .i64 b], 71), by simp, rfl⟩)
        replace HD := Lib.hid (hdl.box #[.int .i64 a, .int .i64 b] 71)
        clear hdl CL
        unfold loadV13
        simp only
        go_upto_region 30 with fail
        obtain ⟨cb, hcb⟩ : ∃ x, x = wl.heap.size := ⟨_, rfl⟩
        obtain ⟨wt, hwt⟩ : ∃ x, x = wl.alloc (.cells #[.int .i64 a, .int .i64 b] 71) := ⟨_, rfl⟩
        rw [← hwt, ← hcb] at HD
        rw [← hcb] at HCM
        simp only [← hwt, ← hcb]
        clear hwt hcb
        have HCB := Lib.hid (HD.out.bx (cb, #[.int .i64 a, .int .i64 b], 71) (by simp))
        have HLB := Lib.hid (HD.out.bx (lb, #[.int .i64 a, .int .i64 b], 71) (by simp))
        have HMB := Lib.hid (HD.out.bx (mb, #[.int .i64 a, .int .i64 b], 71) (by simp))
        have y0 : wt.cell? ⟨cb, 0, none⟩ = some (.int .i64 a) := HCB.out.cell 0
        have y1 : wt.cell? ⟨cb, 1, none⟩ = some (.int .i64 b) := HCB.out.cell 1
        have y2 : wt.cell? ⟨lb, 0, none⟩ = some (.int .i64 a) := HLB.out.cell 0
        have y3 : wt.cell? ⟨lb, 1, none⟩ = some (.int .i64 b) := HLB.out.cell 1
        have y4 : wt.cell? ⟨mb, 0, none⟩ = some (.int .i64 a) := HMB.out.cell 0
        have y5 : wt.cell? ⟨mb, 1, none⟩ = some (.int .i64 b) := HMB.out.cell 1
        have HFIN := Lib.hid (fun (w9 : World) (h9 : Bk #[.int .i64 a, .int .i64 b] 71 w9 lb) (hw9 : Wr (fun q => q = lb) wt w9) => (show To13 W W.heap.size d lb (i + 1) w9 from by
          have h1 : DB W ((lb, #[.int .i64 a, .int .i64 b], 71) :: []) W.heap.size d D9 wt := HD.out.less (fun p hp => by simp only [List.mem_singleton] at hp; rw [hp]; simp)
          exact ⟨_, a, b, h1.set1 h9 hw9 (fun p hp => by cases hp) HWL.out, HQ9.out, HU9.out.1, HU9.out.2.1, HU9.out.2.2⟩))
        clear HD HMB
        go_wp2_with (first | (refine wpList_load_row rfl 71 _ rfl cb rfl 71 _ (0, 0) _ HCB.out Try.underlying71 rfl ?_ ?_; exact HII.out) | (refine wpList_store13 rfl 71 _ _ rfl lb #[.int .i64 a, .int .i64 b] rfl rfl 71 _ HLB.out HII.out rfl (by simp [Value.oneCell']) ?_; intro w9 h9 hw9; have HR9 := Lib.hid (HFIN.out w9 h9 hw9); clear h9 hw9))
        all_goals
          go_roundw
          case rel => exact ⟨i + 1, by omega, by go_num, HR9⟩
          case measure => simp [intOf]; omega
      · skip
        have e7 : ((m : Int) == 7) = false := by simp; omega
        have e8 : ((m : Int) == 8) = false := by simp; omega
        have e5 : decide ((m : Int) < 5) = true := by simp; omega
        clear x3 x4
        go_upto_region 16 with fail

        have hl := HD.out.bx (lb, #[.int .i64 a, .int .i64 b], 71) (by simp)
        have HLB := Lib.hid hl
        have HDm := Lib.hid (HD.out.box #[.int .i64 a, .int .i64 b] 71)
        clear hl
        go_upto_region 17 with (refine wpList_load_row rfl 71 _ rfl lb rfl 71 _ (0, 0) _ HLB.out Try.underlying71 rfl ?_ ?_; exact HII.out)
        obtain ⟨mb, hmb⟩ : ∃ x, x = w4.heap.size := ⟨_, rfl⟩
        obtain ⟨w5, hw5⟩ : ∃ x, x = w4.alloc (.cells #[.int .i64 a, .int .i64 b] 71) := ⟨_, rfl⟩
        have HXM := Lib.hid (show xb < mb from by rw [hmb]; exact HD.out.xlt xb ⟨_, List.mem_cons_self .., rfl⟩)
        replace HD := HDm
        rw [← hw5, ← hmb] at HD
        simp only [← hw5, ← hmb]
        clear hw5 hmb HDm HLB

        have CS := Lib.hid (HD.out.save ⟨p, q⟩)
        have hx := HD.out.bx (xb, #[.int .u8 xk, .int .i64 p, .int .i64 q, .int .i64 xn, .slice xo xkp.length xc, .string (S xnm), .string (S xdt)], 79) (by simp)
        have z1 : w5.cell? ⟨xb, 1, none⟩ = some (.int .i64 p) := hx.cell 1
        have z2 : w5.cell? ⟨xb, 2, none⟩ = some (.int .i64 q) := hx.cell 2
        clear hx
        have HTS := Lib.hid (Cu.torn_save (c' := ⟨p, q⟩) HQ.out HU.out.1 HU.out.2.1)
        go_wp2_with fail
        with_reducible refine CS.out.mono ?_
        rintro e w6 ⟨rfl, hd5⟩
        clear z1 z2
        rcases HTS.out with ⟨st, L9, hsv, hQ9⟩ | ⟨L9, hsv, hQ9⟩ | hsv
        · rw [hsv] at hd5 ⊢
          replace HD := Lib.hid hd5
          have HQ9 := Lib.hid (show Cu.Q [] ({ D with set := st, L := L9 } : Dk.St).L ⟨p, q⟩ from hQ9)
          have HU9 := Lib.hid (show ({ D with set := st, L := L9 } : Dk.St).up = true ∧ ({ D with set := st, L := L9 } : Dk.St).room = 1000 ∧ ({ D with set := st, L := L9 } : Dk.St).starts ≤ i + 1 from ⟨HU.out.1, HU.out.2.1, by have := HU.out.2.2; simp only; omega⟩)
          clear hd5 CS HTS hsv hQ9 HQ HU
          generalize ({ D with set := st, L := L9 } : Dk.St) = D9 at *
          go_upto_region 22 with fail
          have hx := HD.out.bx (xb, #[.int .u8 xk, .int .i64 p, .int .i64 q, .int .i64 xn, .slice xo xkp.length xc, .string (S xnm), .string (S xdt)], 79) (by simp)
          have HLB := Lib.hid (HD.out.bx (lb, #[.int .i64 a, .int .i64 b], 71) (by simp))
          have z1 : w6.cell? ⟨xb, 1, none⟩ = some (.int .i64 p) := hx.cell 1
          have z2 : w6.cell? ⟨xb, 2, none⟩ = some (.int .i64 q) := hx.cell 2
          clear hx
          go_upto_region 23 with (refine wpList_store13 rfl 71 _ _ rfl lb #[.int .i64 p, .int .i64 q] rfl rfl 71 _ HLB.out HII.out rfl (by simp [Value.oneCell']) ?_; intro w7 h7 hw7; have HK7 := Lib.hid h7; have HW7 := Lib.hid hw7; clear h7 hw7)
          replace HD := Lib.hid ((HD.out.less (bs' := [(lb, #[.int .i64 a, .int .i64 b], 71), (mb, #[.int .i64 a, .int .i64 b], 71)]) (fun z hz => by simp at hz ⊢; rcases hz with rfl | rfl <;> simp)).set1 HK7.out HW7.out (fun z hz => by simp only [List.mem_singleton] at hz; rw [hz]; have := HXM.out; have := HLX.out; simp only; omega) HWL.out)
          clear z1 z2 HLB
          have HMB := Lib.hid (HD.out.bx (mb, #[.int .i64 a, .int .i64 b], 71) (by simp))
          have HLB := Lib.hid (HD.out.bx (lb, #[.int .i64 p, .int .i64 q], 71) (by simp))
          have HWM := Lib.hid (show W.heap.size ≤ mb from by have := HXM.out; have := HLX.out; have := HWL.out; omega)
          go_upto_region 29 with (first | (refine wpList_load_row rfl 71 _ rfl lb rfl 71 _ (0, 0) _ HLB.out Try.underlying71 rfl ?_ ?_; exact HII.out) | (refine wpList_store13 rfl 71 _ _ rfl mb #[.int .i64 p, .int .i64 q] rfl rfl 71 _ HMB.out HII.out rfl (by simp [Value.oneCell']) ?_; intro w8 h8 hw8; have HK8 := Lib.hid h8; have HW8 := Lib.hid hw8; clear h8 hw8))
          replace HD := Lib.hid ((HD.out.less (bs' := [(mb, #[.int .i64 a, .int .i64 b], 71), (lb, #[.int .i64 p, .int .i64 q], 71)]) (fun z hz => by simp at hz ⊢; rcases hz with rfl | rfl <;> simp)).set1 HK8.out HW8.out (fun z hz => by simp only [List.mem_singleton] at hz; rw [hz]; have := HXM.out; have := HLX.out; simp only; omega) HWM.out)
          clear HMB HLB HK7 HW7 HK8 HW8
          have CL := Lib.hid HD.out.load
          rw [show Cu.load D9 = (0, ⟨p, q⟩) from Cu.load_q (E := []) HQ9.out HU9.out.1] at CL
          go_wp2_with fail
          with_reducible refine CL.out.mono ?_
          rintro e wl ⟨rfl, hdl⟩
          have HCM := Lib.hid (show mb < wl.heap.size from hdl.xlt mb ⟨(mb, #[.int .i64 p, .int .i64 q], 71), by simp, rfl⟩)
          replace HD := Lib.hid (hdl.box #[.int .i64 p, .int .i64 q] 71)
          clear hdl CL
          unfold loadV13
          simp only
          go_upto_region 30 with fail
          obtain ⟨cb, hcb⟩ : ∃ x, x = wl.heap.size := ⟨_, rfl⟩
          obtain ⟨wt, hwt⟩ : ∃ x, x = wl.alloc (.cells #[.int .i64 p, .int .i64 q] 71) := ⟨_, rfl⟩
          rw [← hwt, ← hcb] at HD
          rw [← hcb] at HCM
          simp only [← hwt, ← hcb]
          clear hwt hcb
          have HCB := Lib.hid (HD.out.bx (cb, #[.int .i64 p, .int .i64 q], 71) (by simp))
          have HLB := Lib.hid (HD.out.bx (lb, #[.int .i64 p, .int .i64 q], 71) (by simp))
          have HMB := Lib.hid (HD.out.bx (mb, #[.int .i64 p, .int .i64 q], 71) (by simp))
          have y0 : wt.cell? ⟨cb, 0, none⟩ = some (.int .i64 p) := HCB.out.cell 0
          have y1 : wt.cell? ⟨cb, 1, none⟩ = some (.int .i64 q) := HCB.out.cell 1
          have y2 : wt.cell? ⟨lb, 0, none⟩ = some (.int .i64 p) := HLB.out.cell 0
          have y3 : wt.cell? ⟨lb, 1, none⟩ = some (.int .i64 q) := HLB.out.cell 1
          have y4 : wt.cell? ⟨mb, 0, none⟩ = some (.int .i64 p) := HMB.out.cell 0
          have y5 : wt.cell? ⟨mb, 1, none⟩ = some (.int .i64 q) := HMB.out.cell 1
          have HFIN := Lib.hid (fun (w9 : World) (h9 : Bk #[.int .i64 p, .int .i64 q] 71 w9 lb) (hw9 : Wr (fun q => q = lb) wt w9) => (show To13 W W.heap.size d lb (i + 1) w9 from by
            have h1 : DB W ((lb, #[.int .i64 p, .int .i64 q], 71) :: []) W.heap.size d D9 wt := HD.out.less (fun p hp => by simp only [List.mem_singleton] at hp; rw [hp]; simp)
            exact ⟨_, p, q, h1.set1 h9 hw9 (fun p hp => by cases hp) HWL.out, HQ9.out, HU9.out.1, HU9.out.2.1, HU9.out.2.2⟩))
          clear HD HMB
          go_wp2_with (first | (refine wpList_load_row rfl 71 _ rfl cb rfl 71 _ (0, 0) _ HCB.out Try.underlying71 rfl ?_ ?_; exact HII.out) | (refine wpList_store13 rfl 71 _ _ rfl lb #[.int .i64 p, .int .i64 q] rfl rfl 71 _ HLB.out HII.out rfl (by simp [Value.oneCell']) ?_; intro w9 h9 hw9; have HR9 := Lib.hid (HFIN.out w9 h9 hw9); clear h9 hw9))
          all_goals
            go_roundw
            case rel => exact ⟨i + 1, by omega, by go_num, HR9⟩
            case measure => simp [intOf]; omega

        · rw [hsv] at hd5 ⊢
          replace HD := Lib.hid hd5
          have HU9 := Lib.hid (show (Dk.woke13 ({ D with up := false, set := none, L := L9 } : Dk.St)).up = true ∧ (Dk.woke13 ({ D with up := false, set := none, L := L9 } : Dk.St)).room = 1000 ∧ (Dk.woke13 ({ D with up := false, set := none, L := L9 } : Dk.St)).starts ≤ i + 1 from ⟨rfl, HU.out.2.1, by have := HU.out.2.2; show D.starts + 1 ≤ i + 1; omega⟩)
          have HQ9 := Lib.hid (show Cu.Q [] (Dk.woke13 ({ D with up := false, set := none, L := L9 } : Dk.St)).L ⟨a, b⟩ ∨ Cu.Q [] (Dk.woke13 ({ D with up := false, set := none, L := L9 } : Dk.St)).L ⟨p, q⟩ from hQ9)
          have HSL := Lib.hid (show ({ D with up := false, set := none, L := L9 } : Dk.St).starts ≤ 1000000000 from by have := HU.out.2.2; show D.starts ≤ _; omega)
          have HST := Lib.hid (show Dk.start ({ D with up := false, set := none, L := L9 } : Dk.St) = (0, Dk.woke13 ({ D with up := false, set := none, L := L9 } : Dk.St)) from rfl)
          clear hd5 CS HTS hsv hQ9 HQ HU
          generalize Dk.woke13 ({ D with up := false, set := none, L := L9 } : Dk.St) = D9 at *
          generalize ({ D with up := false, set := none, L := L9 } : Dk.St) = D8 at *
          go_upto_region 25 with fail
          have hx := HD.out.bx (xb, #[.int .u8 xk, .int .i64 p, .int .i64 q, .int .i64 xn, .slice xo xkp.length xc, .string (S xnm), .string (S xdt)], 79) (by simp)
          have HLB := Lib.hid (HD.out.bx (mb, #[.int .i64 a, .int .i64 b], 71) (by simp))
          have z1 : w6.cell? ⟨xb, 1, none⟩ = some (.int .i64 p) := hx.cell 1
          have z2 : w6.cell? ⟨xb, 2, none⟩ = some (.int .i64 q) := hx.cell 2
          have HWM := Lib.hid (show W.heap.size ≤ mb from by have := HXM.out; have := HLX.out; have := HWL.out; omega)
          clear hx
          go_upto_region 26 with (refine wpList_store13 rfl 71 _ _ rfl mb #[.int .i64 p, .int .i64 q] rfl rfl 71 _ HLB.out HII.out rfl (by simp [Value.oneCell']) ?_; intro w7 h7 hw7; have HK7 := Lib.hid h7; have HW7 := Lib.hid hw7; clear h7 hw7)
          replace HD := Lib.hid ((HD.out.less (bs' := [(mb, #[.int .i64 a, .int .i64 b], 71), (lb, #[.int .i64 a, .int .i64 b], 71)]) (fun z hz => by simp at hz ⊢; rcases hz with rfl | rfl <;> simp)).set1 HK7.out HW7.out (fun z hz => by simp only [List.mem_singleton] at hz; rw [hz]; have := HXM.out; have := HLX.out; simp only; omega) HWM.out)
          clear z1 z2 HLB HK7 HW7
          have CT := Lib.hid (HD.out.start HSL.out)
          rw [HST.out] at CT
          go_wp2_with fail
          with_reducible refine CT.out.mono ?_
          rintro e w8 ⟨rfl, hd5⟩
          replace HD := Lib.hid hd5
          clear hd5 CT HST
          go_upto_region 29 with fail
          rcases HQ9.out with hq9 | hq9
          · replace HQ9 := Lib.hid hq9
            clear hq9
            have CL := Lib.hid HD.out.load
            rw [show Cu.load D9 = (0, ⟨a, b⟩) from Cu.load_q (E := []) HQ9.out HU9.out.1] at CL
            go_wp2_with fail
            with_reducible refine CL.out.mono ?_
            rintro e wl ⟨rfl, hdl⟩
            have HCM := Lib.hid (show mb < wl.heap.size from hdl.xlt mb ⟨(mb, #[.int .i64 p, .int .i64 q], 71), by simp, rfl⟩)
            replace HD := Lib.hid (hdl.box #[.int .i64 a, .int .i64 b] 71)
            clear hdl CL
            unfold loadV13
            simp only
            go_upto_region 30 with fail
            obtain ⟨cb, hcb⟩ : ∃ x, x = wl.heap.size := ⟨_, rfl⟩
            obtain ⟨wt, hwt⟩ : ∃ x, x = wl.alloc (.cells #[.int .i64 a, .int .i64 b] 71) := ⟨_, rfl⟩
            rw [← hwt, ← hcb] at HD
            rw [← hcb] at HCM
            simp only [← hwt, ← hcb]
            clear hwt hcb
            have HCB := Lib.hid (HD.out.bx (cb, #[.int .i64 a, .int .i64 b], 71) (by simp))
            have HLB := Lib.hid (HD.out.bx (lb, #[.int .i64 a, .int .i64 b], 71) (by simp))
            have HMB := Lib.hid (HD.out.bx (mb, #[.int .i64 p, .int .i64 q], 71) (by simp))
            have y0 : wt.cell? ⟨cb, 0, none⟩ = some (.int .i64 a) := HCB.out.cell 0
            have y1 : wt.cell? ⟨cb, 1, none⟩ = some (.int .i64 b) := HCB.out.cell 1
            have y2 : wt.cell? ⟨lb, 0, none⟩ = some (.int .i64 a) := HLB.out.cell 0
            have y3 : wt.cell? ⟨lb, 1, none⟩ = some (.int .i64 b) := HLB.out.cell 1
            have y4 : wt.cell? ⟨mb, 0, none⟩ = some (.int .i64 p) := HMB.out.cell 0
            have y5 : wt.cell? ⟨mb, 1, none⟩ = some (.int .i64 q) := HMB.out.cell 1
            have HFIN := Lib.hid (fun (w9 : World) (h9 : Bk #[.int .i64 a, .int .i64 b] 71 w9 lb) (hw9 : Wr (fun q => q = lb) wt w9) => (show To13 W W.heap.size d lb (i + 1) w9 from by
              have h1 : DB W ((lb, #[.int .i64 a, .int .i64 b], 71) :: []) W.heap.size d D9 wt := HD.out.less (fun p hp => by simp only [List.mem_singleton] at hp; rw [hp]; simp)
              exact ⟨_, a, b, h1.set1 h9 hw9 (fun p hp => by cases hp) HWL.out, HQ9.out, HU9.out.1, HU9.out.2.1, HU9.out.2.2⟩))
            clear HD HMB
            go_wp2_with (first | (refine wpList_load_row rfl 71 _ rfl cb rfl 71 _ (0, 0) _ HCB.out Try.underlying71 rfl ?_ ?_; exact HII.out) | (refine wpList_store13 rfl 71 _ _ rfl lb #[.int .i64 a, .int .i64 b] rfl rfl 71 _ HLB.out HII.out rfl (by simp [Value.oneCell']) ?_; intro w9 h9 hw9; have HR9 := Lib.hid (HFIN.out w9 h9 hw9); clear h9 hw9))
            all_goals
              go_roundw
              case rel => exact ⟨i + 1, by omega, by go_num, HR9⟩
              case measure => simp [intOf]; omega

          · replace HQ9 := Lib.hid hq9
            clear hq9
            have CL := Lib.hid HD.out.load
            rw [show Cu.load D9 = (0, ⟨p, q⟩) from Cu.load_q (E := []) HQ9.out HU9.out.1] at CL
            go_wp2_with fail
            with_reducible refine CL.out.mono ?_
            rintro e wl ⟨rfl, hdl⟩
            have HCM := Lib.hid (show mb < wl.heap.size from hdl.xlt mb ⟨(mb, #[.int .i64 p, .int .i64 q], 71), by simp, rfl⟩)
            replace HD := Lib.hid (hdl.box #[.int .i64 p, .int .i64 q] 71)
            clear hdl CL
            unfold loadV13
            simp only
            go_upto_region 30 with fail
            obtain ⟨cb, hcb⟩ : ∃ x, x = wl.heap.size := ⟨_, rfl⟩
            obtain ⟨wt, hwt⟩ : ∃ x, x = wl.alloc (.cells #[.int .i64 p, .int .i64 q] 71) := ⟨_, rfl⟩
            rw [← hwt, ← hcb] at HD
            rw [← hcb] at HCM
            simp only [← hwt, ← hcb]
            clear hwt hcb
            have HCB := Lib.hid (HD.out.bx (cb, #[.int .i64 p, .int .i64 q], 71) (by simp))
            have HLB := Lib.hid (HD.out.bx (lb, #[.int .i64 a, .int .i64 b], 71) (by simp))
            have HMB := Lib.hid (HD.out.bx (mb, #[.int .i64 p, .int .i64 q], 71) (by simp))
            have y0 : wt.cell? ⟨cb, 0, none⟩ = some (.int .i64 p) := HCB.out.cell 0
            have y1 : wt.cell? ⟨cb, 1, none⟩ = some (.int .i64 q) := HCB.out.cell 1
            have y2 : wt.cell? ⟨lb, 0, none⟩ = some (.int .i64 a) := HLB.out.cell 0
            have y3 : wt.cell? ⟨lb, 1, none⟩ = some (.int .i64 b) := HLB.out.cell 1
            have y4 : wt.cell? ⟨mb, 0, none⟩ = some (.int .i64 p) := HMB.out.cell 0
            have y5 : wt.cell? ⟨mb, 1, none⟩ = some (.int .i64 q) := HMB.out.cell 1
            have HFIN := Lib.hid (fun (w9 : World) (h9 : Bk #[.int .i64 p, .int .i64 q] 71 w9 lb) (hw9 : Wr (fun q => q = lb) wt w9) => (show To13 W W.heap.size d lb (i + 1) w9 from by
              have h1 : DB W ((lb, #[.int .i64 a, .int .i64 b], 71) :: []) W.heap.size d D9 wt := HD.out.less (fun p hp => by simp only [List.mem_singleton] at hp; rw [hp]; simp)
              exact ⟨_, p, q, h1.set1 h9 hw9 (fun p hp => by cases hp) HWL.out, HQ9.out, HU9.out.1, HU9.out.2.1, HU9.out.2.2⟩))
            clear HD HMB
            go_wp2_with (first | (refine wpList_load_row rfl 71 _ rfl cb rfl 71 _ (0, 0) _ HCB.out Try.underlying71 rfl ?_ ?_; exact HII.out) | (refine wpList_store13 rfl 71 _ _ rfl lb #[.int .i64 p, .int .i64 q] rfl rfl 71 _ HLB.out HII.out rfl (by simp [Value.oneCell']) ?_; intro w9 h9 hw9; have HR9 := Lib.hid (HFIN.out w9 h9 hw9); clear h9 hw9))
            all_goals
              go_roundw
              case rel => exact ⟨i + 1, by omega, by go_num, HR9⟩
              case measure => simp [intOf]; omega

        · rw [hsv] at hd5 ⊢
          replace HD := Lib.hid hd5
          have HU9 := Lib.hid (show D.up = true ∧ D.room = 1000 ∧ D.starts ≤ i + 1 from ⟨HU.out.1, HU.out.2.1, by have := HU.out.2.2; omega⟩)
          clear hd5 CS HTS hsv
          go_upto_region 29 with fail
          have CL := Lib.hid HD.out.load
          rw [show Cu.load D = (0, ⟨a, b⟩) from Cu.load_q (E := []) HQ.out HU9.out.1] at CL
          go_wp2_with fail
          with_reducible refine CL.out.mono ?_
          rintro e wl ⟨rfl, hdl⟩
          have HCM := Lib.hid (show mb < wl.heap.size from hdl.xlt mb ⟨(mb, #[.int .i64 a, .int .i64 b], 71), by simp, rfl⟩)
          replace HD := Lib.hid (hdl.box #[.int .i64 a, .int .i64 b] 71)
          clear hdl CL
          unfold loadV13
          simp only
          go_upto_region 30 with fail
          obtain ⟨cb, hcb⟩ : ∃ x, x = wl.heap.size := ⟨_, rfl⟩
          obtain ⟨wt, hwt⟩ : ∃ x, x = wl.alloc (.cells #[.int .i64 a, .int .i64 b] 71) := ⟨_, rfl⟩
          rw [← hwt, ← hcb] at HD
          rw [← hcb] at HCM
          simp only [← hwt, ← hcb]
          clear hwt hcb
          have HCB := Lib.hid (HD.out.bx (cb, #[.int .i64 a, .int .i64 b], 71) (by simp))
          have HLB := Lib.hid (HD.out.bx (lb, #[.int .i64 a, .int .i64 b], 71) (by simp))
          have HMB := Lib.hid (HD.out.bx (mb, #[.int .i64 a, .int .i64 b], 71) (by simp))
          have y0 : wt.cell? ⟨cb, 0, none⟩ = some (.int .i64 a) := HCB.out.cell 0
          have y1 : wt.cell? ⟨cb, 1, none⟩ = some (.int .i64 b) := HCB.out.cell 1
          have y2 : wt.cell? ⟨lb, 0, none⟩ = some (.int .i64 a) := HLB.out.cell 0
          have y3 : wt.cell? ⟨lb, 1, none⟩ = some (.int .i64 b) := HLB.out.cell 1
          have y4 : wt.cell? ⟨mb, 0, none⟩ = some (.int .i64 a) := HMB.out.cell 0
          have y5 : wt.cell? ⟨mb, 1, none⟩ = some (.int .i64 b) := HMB.out.cell 1
          have HFIN := Lib.hid (fun (w9 : World) (h9 : Bk #[.int .i64 a, .int .i64 b] 71 w9 lb) (hw9 : Wr (fun q => q = lb) wt w9) => (show To13 W W.heap.size d lb (i + 1) w9 from by
            have h1 : DB W ((lb, #[.int .i64 a, .int .i64 b], 71) :: []) W.heap.size d D wt := HD.out.less (fun p hp => by simp only [List.mem_singleton] at hp; rw [hp]; simp)
            exact ⟨_, a, b, h1.set1 h9 hw9 (fun p hp => by cases hp) HWL.out, HQ.out, HU9.out.1, HU9.out.2.1, HU9.out.2.2⟩))
          clear HD HMB
          go_wp2_with (first | (refine wpList_load_row rfl 71 _ rfl cb rfl 71 _ (0, 0) _ HCB.out Try.underlying71 rfl ?_ ?_; exact HII.out) | (refine wpList_store13 rfl 71 _ _ rfl lb #[.int .i64 a, .int .i64 b] rfl rfl 71 _ HLB.out HII.out rfl (by simp [Value.oneCell']) ?_; intro w9 h9 hw9; have HR9 := Lib.hid (HFIN.out w9 h9 hw9); clear h9 hw9))
          all_goals
            go_roundw
            case rel => exact ⟨i + 1, by omega, by go_num, HR9⟩
            case measure => simp [intOf]; omega
      · skip
        have e7 : ((m : Int) == 7) = false := by simp; omega
        have e8 : ((m : Int) == 8) = false := by simp; omega
        have e5 : decide ((m : Int) < 5) = false := by simp; omega
        have HU9 := Lib.hid (show D.up = true ∧ D.room = 1000 ∧ D.starts ≤ i + 1 from ⟨HU.out.1, HU.out.2.1, by have := HU.out.2.2; omega⟩)
        go_upto_region 16 with fail

        have hl := HD.out.bx (lb, #[.int .i64 a, .int .i64 b], 71) (by simp)
        have HLB := Lib.hid hl
        have HDm := Lib.hid (HD.out.box #[.int .i64 a, .int .i64 b] 71)
        clear hl
        go_upto_region 17 with (refine wpList_load_row rfl 71 _ rfl lb rfl 71 _ (0, 0) _ HLB.out Try.underlying71 rfl ?_ ?_; exact HII.out)
        obtain ⟨mb, hmb⟩ : ∃ x, x = w4.heap.size := ⟨_, rfl⟩
        obtain ⟨w5, hw5⟩ : ∃ x, x = w4.alloc (.cells #[.int .i64 a, .int .i64 b] 71) := ⟨_, rfl⟩
        have HXM := Lib.hid (show xb < mb from by rw [hmb]; exact HD.out.xlt xb ⟨_, List.mem_cons_self .., rfl⟩)
        replace HD := HDm
        rw [← hw5, ← hmb] at HD
        simp only [← hw5, ← hmb]
        clear hw5 hmb HDm HLB

        have CL := Lib.hid HD.out.load
        rw [show Cu.load D = (0, ⟨a, b⟩) from Cu.load_q (E := []) HQ.out HU9.out.1] at CL
        go_wp2_with fail
        with_reducible refine CL.out.mono ?_
        rintro e wl ⟨rfl, hdl⟩
        have HCM := Lib.hid (show mb < wl.heap.size from hdl.xlt mb ⟨(mb, #[.int .i64 a, .int .i64 b], 71), by simp, rfl⟩)
        replace HD := Lib.hid (hdl.box #[.int .i64 a, .int .i64 b] 71)
        clear hdl CL
        unfold loadV13
        simp only
        go_upto_region 30 with fail
        obtain ⟨cb, hcb⟩ : ∃ x, x = wl.heap.size := ⟨_, rfl⟩
        obtain ⟨wt, hwt⟩ : ∃ x, x = wl.alloc (.cells #[.int .i64 a, .int .i64 b] 71) := ⟨_, rfl⟩
        rw [← hwt, ← hcb] at HD
        rw [← hcb] at HCM
        simp only [← hwt, ← hcb]
        clear hwt hcb
        have HCB := Lib.hid (HD.out.bx (cb, #[.int .i64 a, .int .i64 b], 71) (by simp))
        have HLB := Lib.hid (HD.out.bx (lb, #[.int .i64 a, .int .i64 b], 71) (by simp))
        have HMB := Lib.hid (HD.out.bx (mb, #[.int .i64 a, .int .i64 b], 71) (by simp))
        have y0 : wt.cell? ⟨cb, 0, none⟩ = some (.int .i64 a) := HCB.out.cell 0
        have y1 : wt.cell? ⟨cb, 1, none⟩ = some (.int .i64 b) := HCB.out.cell 1
        have y2 : wt.cell? ⟨lb, 0, none⟩ = some (.int .i64 a) := HLB.out.cell 0
        have y3 : wt.cell? ⟨lb, 1, none⟩ = some (.int .i64 b) := HLB.out.cell 1
        have y4 : wt.cell? ⟨mb, 0, none⟩ = some (.int .i64 a) := HMB.out.cell 0
        have y5 : wt.cell? ⟨mb, 1, none⟩ = some (.int .i64 b) := HMB.out.cell 1
        have HFIN := Lib.hid (fun (w9 : World) (h9 : Bk #[.int .i64 a, .int .i64 b] 71 w9 lb) (hw9 : Wr (fun q => q = lb) wt w9) => (show To13 W W.heap.size d lb (i + 1) w9 from by
          have h1 : DB W ((lb, #[.int .i64 a, .int .i64 b], 71) :: []) W.heap.size d D wt := HD.out.less (fun p hp => by simp only [List.mem_singleton] at hp; rw [hp]; simp)
          exact ⟨_, a, b, h1.set1 h9 hw9 (fun p hp => by cases hp) HWL.out, HQ.out, HU9.out.1, HU9.out.2.1, HU9.out.2.2⟩))
        clear HD HMB
        go_wp2_with (first | (refine wpList_load_row rfl 71 _ rfl cb rfl 71 _ (0, 0) _ HCB.out Try.underlying71 rfl ?_ ?_; exact HII.out) | (refine wpList_store13 rfl 71 _ _ rfl lb #[.int .i64 a, .int .i64 b] rfl rfl 71 _ HLB.out HII.out rfl (by simp [Value.oneCell']) ?_; intro w9 h9 hw9; have HR9 := Lib.hid (HFIN.out w9 h9 hw9); clear h9 hw9))
        all_goals
          go_roundw
          case rel => exact ⟨i + 1, by omega, by go_num, HR9⟩
          case measure => simp [intOf]; omega
    · have d1 : decide (i < L.length) = false := by simpa using hlt
      have HBL := Lib.hid HD.out.bel
      go_wp2_with fail
      with_reducible refine (CD.out _).mono ?_
      rintro e w4 ⟨rfl, hb⟩
      have HB := Lib.hid (below_step HBL.out hb)
      clear hb
      go_wp2_with fail
      go_ret
      exact ⟨rfl, HB.out⟩

end Go.Proofs.Ytekmnpmeienhhaa
