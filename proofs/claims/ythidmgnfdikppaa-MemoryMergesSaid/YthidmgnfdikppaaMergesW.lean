/- Layer 11: the program's Newest, by a contract. -/
import Derived.Test.YthidmgnfdikppaaMergesV
import Derived.BigQuiet
namespace Go.Proofs.Ythidmgnfdikppaa
set_option linter.unusedVariables false
open Go Go.RowKit Go.Shelf
attribute [local go_sem ↓] run_index_S
attribute [local go_sem] S_append S_extract
attribute [local go_sem] Oper.semAt_some

/-- Of each key the first, as they come. -/
def M.nwAdd (out : List M.Cl) (c : M.Cl) : List M.Cl := match out.getLast? with
  | none => out ++ [c]
  | some d => if d.key = c.key then out else out ++ [c]
def M.nw (L : List M.Cl) : List M.Cl := L.foldl M.nwAdd []
theorem M.nw_snoc (L : List M.Cl) (c : M.Cl) : M.nw (L ++ [c]) = M.nwAdd (M.nw L) c := by simp [M.nw]
theorem M.nwAdd_len (out : List M.Cl) (c : M.Cl) : (M.nwAdd out c).length ≤ out.length + 1 := by
  unfold M.nwAdd
  split
  · simp
  · split <;> simp
theorem M.nw_len_aux : ∀ (L out : List M.Cl), (L.foldl M.nwAdd out).length ≤ out.length + L.length
  | [], out => by simp
  | c :: L, out => by
    have h1 := M.nw_len_aux L (M.nwAdd out c)
    have h2 := M.nwAdd_len out c
    simp only [List.foldl_cons, List.length_cons] at *
    omega
theorem M.nw_len (L : List M.Cl) : (M.nw L).length ≤ L.length := by
  have := M.nw_len_aux L []
  simpa [M.nw] using this
theorem own_off11 {w : World} {B n cap q off sz : Nat} {e : TypeId} {ao : Option Addr} {xs : List Value} (h : w.ownsRow B e sz (.slice ao n cap) n xs) (hn : n ≠ 0) (ha : ao = some ⟨q, off, none⟩) : off = 0 := by
  rcases h.2 with ⟨_, h0⟩ | ⟨g, cap', cur, hv, _⟩
  · exact absurd h0 hn
  · cases hv; injection ha with ha; injection ha with _ ha; exact ha.symm
theorem Col11.same {f : List M.Cl → List M.Cl} {N lb : Nat} {w0 : World} {tc : Nat} {pre pre' : List M.Cl} {W : World} (h : Col11 f N lb w0 tc pre W) (e : f pre' = f pre) : Col11 f N lb w0 tc pre' W := by
  refine ⟨?_, h.bel, h.ne, h.nsz, h.tcw, h.nw⟩
  rw [e]
  exact h.out
set_option maxHeartbeats 4000000 in
set_option maxRecDepth 100000 in
theorem newest11_in (n : Nat) (hn : 4 ≤ n) (Rs : List M.Rw) (hR : RsOk Rs) (ao : Option Addr) (cap : Nat) (w : World) (h : RwsAt w ao Rs) :
    CallsIn Fence.wide n Try.prog 43 #[.slice ao Rs.length cap] w (AllR M.nw Rs w) := by
  have h1 : 1 ≤ n := by omega
  have CN := Lib.hid (new11_O Rs hR ao cap w h)
  clear h
  refine callsIn_of_wp_marks Try.func43 rfl trivial ?_ rfl
  simp only [Try.ntmps43, List.size_toArray, List.length_cons, List.length_nil, Nat.reduceAdd, Nat.reduceSub, Array.replicate_succ, Array.replicate_zero, List.push_toArray, List.append_toArray, List.nil_append, List.cons_append]
  gi_wp2
  refine ⟨trivial, (callsIn_wide.2 (CN.out)).mono ?_⟩
  rintro e w1 ⟨hb1, p, rfl, hI1⟩
  obtain ⟨er, her⟩ : ∃ er : Int, er = if M.mayR Rs = true then 0 else 2 := ⟨_, rfl⟩
  obtain ⟨LM, hLM⟩ : ∃ l, l = if M.mayR Rs = true then M.mrg (M.rls Rs) else [] := ⟨_, rfl⟩
  rw [← her]
  rw [← hLM] at hI1
  have HE := Lib.hid (And.intro her hLM)
  have HI1 := Lib.hid hI1
  have HB1 := Lib.hid hb1
  clear her hLM hI1 hb1 CN
  have CE := Lib.hid (fun W => each11F_any p W)
  gi_wp2
  refine ⟨trivial, (callsIn_wide.2 (CE.out _)).mono ?_⟩
  rintro e w2 ⟨rfl, rfl⟩
  gi_wp2
  have hb1 : Below w.heap.size w ((w1.alloc (.cells #[.slice none 0 0] 22)).alloc (.cells #[pv11 p] 64)) := (HB1.out.alloc HB1.out.size _).alloc (Nat.le_trans HB1.out.size (by simp)) _
  have hbB : Below w1.heap.size w1 ((w1.alloc (.cells #[.slice none 0 0] 22)).alloc (.cells #[pv11 p] 64)) := ((Below.refl _ _).alloc (Nat.le_refl _) _).alloc (by simp) _
  have hrl : RowIn #[.slice none 0 0] 22 ((w1.alloc (.cells #[.slice none 0 0] 22)).alloc (.cells #[pv11 p] 64)) w1.heap.size := (rowIn_new _ _ _).more _
  have hrb : RowIn #[pv11 p] 64 ((w1.alloc (.cells #[.slice none 0 0] 22)).alloc (.cells #[pv11 p] 64)) (w1.heap.size + 1) := by
    have := rowIn_new #[pv11 p] 64 (w1.alloc (.cells #[.slice none 0 0] 22))
    rwa [World.size_alloc] at this
  have hI2 := HI1.out.below hbB
  have hsz := hbB.size
  have hwl := HB1.out.size
  have hszE : ((w1.alloc (.cells #[.slice none 0 0] 22)).alloc (.cells #[pv11 p] 64)).heap.size = w1.heap.size + 2 := by simp
  obtain ⟨i0, z0, hi0, hz0, h01, h02, h03⟩ := infoCl_parts
  have hLl : LM.length ≤ 900000 := by
    rw [HE.out.2]
    by_cases hm : M.mayR Rs = true
    · rw [if_pos hm, M.mrg_len]; exact hR.tot
    · rw [if_neg hm]; simp
  generalize ((w1.alloc (.cells #[.slice none 0 0] 22)).alloc (.cells #[pv11 p] 64)) = W0 at *
  refine wpIn_rangeFunc_it11 h1 (by omega) (bx := w1.heap.size + 1) rfl rfl w.heap.size w1.heap.size p LM hrb hI2 (Nat.le_trans hwl hsz) hsz
    (Col11 M.nw w1.heap.size w1.heap.size w) (fun tc pre W W' hh hk hb => hh.next hk hb) (fun tc pre W W' hh ht _ => hh.two ht) (fun tc pre W W' row hh hg hr => hh.walk hg (fun r e => ⟨by have := (hr r e).1; omega, (hr r e).2⟩))
    (fun tc W' htc hk hb => ⟨⟨none, 0, hk.row hrl (by decide) (by decide), World.ownsRow_nil _ _ _ _, by simp [Value.ownBlock]⟩, hb1.trans hb, by omega, Nat.le_trans hsz hk.size, by omega, hwl⟩)
    (fun x cb => { tmps := #[.slice ao Rs.length cap, undef, .slice none 0 0, .int .i64 0, pv11 p, .int .i64 er, .pointer (some ⟨w1.heap.size, 0, none⟩), .pointer (some ⟨cb, 0, none⟩), .tuple #[pv11 p, .int .i64 er], .slice ao Rs.length cap, .tuple #[pv11 p, .int .i64 er], pv11 p, .int .i64 er, pv11 p, .func (.func 126) #[] #[.pointer (some ⟨w1.heap.size + 1, 0, none⟩)], .agg (clA x), undef, undef, undef, undef, undef, undef, undef, undef, undef, undef, undef, undef, undef, undef, undef, undef, undef, undef, undef, undef, undef], defers := [] }) ?assign ?body ?done
  case assign =>
    intro lp x W K hK
    gi_wp2
    exact hK
  case body =>
    rintro lp tc cb pre x rest W hcb hc hIt ht1 hbW hL
    obtain ⟨ao2, cap2, ho, hr, hne⟩ := hc.out
    have hnl : (M.nw pre).length ≤ pre.length := M.nw_len pre
    have hl2 : (M.nw pre).length + 1 ≤ 1000000 := by
      have : pre.length ≤ LM.length := by rw [hL]; simp
      omega
    have HC := Lib.hid hc
    have HIt := Lib.hid (And.intro hIt (And.intro ht1 hbW))
    have HNA := Lib.hid (M.nw_snoc pre x)
    have HR := Lib.hid (And.intro ho (And.intro hr hne))
    obtain ⟨K, hKf⟩ : ∃ K, K = M.nw pre := ⟨_, rfl⟩
    rw [← hKf] at ho hr hne hl2 HNA HR
    have HKF := Lib.hid hKf
    clear hKf hnl hIt ht1 hbW hne
    have o0 : W.cell? ⟨w1.heap.size, 0, none⟩ = some (.slice ao2 K.length cap2) := ho.cell 0
    have c0 : W.cell? ⟨cb, 0, none⟩ = some (.string (S x.key)) := hcb.cell 0
    have HCB := Lib.hid hcb
    clear hcb hc
    cases hlast : K.getLast? with
    | none =>
      have HFN := Lib.hid (show M.nw (pre ++ [x]) = M.nw pre ++ [x] from by rw [HNA.out, M.nwAdd, hlast, HKF.out])
      have hK0 : K.length = 0 := by rw [List.getLast?_eq_none_iff.1 hlast]; rfl
      have d0 : ((K.length : Int) == 0) = true := by rw [hK0]; rfl
      have d1 : decide ((K.length : Int) = 0) = true := by rw [hK0]; rfl
      clear hlast hK0
      gi_wp2
      refine wpIn_region_quiet_round (by kernel_rfl) (by kernel_rfl) (by kernel_rfl) (by rintro ⟨a, w, h⟩; simp only [Exit.then, Exit.inBlock] at h; exact absurd h.1 (by simp)) ?_
      repeat (go_big_quiet_step (fail))
      refine wpQuiet_nil ?_
      intro _ hw'
      obtain ⟨nq, hw''⟩ := hw'
      subst hw''
      have hbq : Below W.heap.size W (W.drewN nq) := below_drewN (Below.refl _ _) nq
      obtain ⟨Wq, hWq⟩ : ∃ x, x = W.drewN nq := ⟨_, rfl⟩
      rw [← hWq] at hbq ⊢
      clear hWq
      have HKO := Lib.hid (show KeepsOthers W Wq from ⟨hbq.size, fun k o hk _ => (hbq.block k (Array.getElem?_eq_some_iff.1 hk).1).trans hk⟩)
      replace HC := Lib.hid (HC.out.next (.below hbq) (hbq.mono HC.out.bel.size))
      replace HIt := Lib.hid (And.intro (HIt.out.1.below hbq) (And.intro (HIt.out.2.1.below hbq) (HIt.out.2.2.below hbq)))
      replace ho := HR.out.1.below hbq
      replace hr := own_below11 HR.out.2.1 hbq
      have hne := HR.out.2.2
      have hcb := HCB.out.below hbq
      clear hbq o0 c0
      have o0 : Wq.cell? ⟨w1.heap.size, 0, none⟩ = some (.slice ao2 K.length cap2) := ho.cell 0
      have c0 : Wq.cell? ⟨cb, 0, none⟩ = some (.string (S x.key)) := hcb.cell 0
      have c1 : Wq.cell? ⟨cb, 1, none⟩ = some (.int .i64 x.seq) := hcb.cell 1
      have c2 : Wq.cell? ⟨cb, 2, none⟩ = some (.string (S x.val)) := hcb.cell 2
      have hlb := row_apart ho hr (by decide)
      have HWa := Lib.hid ((Below.refl Wq.heap.size Wq).alloc (Nat.le_refl _) (.cells (clA x) 38))
      have hNW := HC.out.nsz
      gi_wp2_with (gi_at_builtin; refine wpListIn_append_own_at _ rfl _ _ 22 rfl w1.heap.size 38 i0 z0 3 40 Try.underlying22 hi0 hz0 h01 h02 h03 (by decide) (.slice ao2 K.length cap2) K.length (cls K) rfl (hr.alloc _) ⟨Wq.heap.size, 0, none⟩ 1 1 (clL x) rfl rfl (cl_new Wq x _) (clL_oneC x) (by unfold maxLen; omega) (by omega) (by rw [World.size_alloc]; omega) ?_; intro v' wN hown hg _ h7; obtain ⟨ao3, cap3, rfl⟩ := ownP_shape hown; have hrN : RowIn #[.slice ao2 K.length cap2] 22 wN w1.heap.size := (hg.block _ (ho.more (.cells (clA x) 38)).lt (fun e => hlb _ e.symm rfl)).trans (ho.more (.cells (clA x) 38)); have n0 : wN.cell? ⟨w1.heap.size, 0, none⟩ = some (.slice ao2 K.length cap2) := hrN.cell 0; have f0 := hrN.free 0)
      have hKf := HKF.out
      have hNA := HNA.out
      rw [hKf] at ho hr hne hg hown h7 hrN hNA
      obtain ⟨q1, q2, q3, q4, q5, q6⟩ := col_put11 (f := M.nw) (pre := pre) (x := x) (ao' := ao3) (cap' := cap3) HC.out ho hr hne (((Two.below HWa.out).trans (Two.of hg) (fun q e => .inl e)).set (p := ⟨w1.heap.size, 0, none⟩) rfl (.slice ao3 ((M.nw pre).length + 1) cap3)) (hrN.set 0 (.slice ao3 ((M.nw pre).length + 1) cap3)) (ownsRow_setCell_other hown (fun e => row_apart hrN hown (by decide) _ e rfl) _) (h7.imp (fun e => e) (fun e => ⟨_, e, HWa.out.size⟩)) HFN.out HIt.out.1 HIt.out.2.1 HIt.out.2.2 (Nat.le_refl _) hwl
      rw [← hKf] at q1 q2 q3 q4 q5 q6
      exact ⟨HKO.out.trans q1, q2, q3, q4, q5, by simpa using q6⟩
    | some d =>
      have hK1 : K.length ≠ 0 := fun e => by rw [List.eq_nil_of_length_eq_zero e] at hlast; cases hlast
      have hgd : K.getD (K.length - 1) M.cl0 = d := by rw [List.getLast?_eq_getElem?] at hlast; simp [List.getD, hlast]
      obtain ⟨gk, eg, hgk⟩ := (clsAt_own hr rfl).off (K.length - 1) (by omega)
      obtain ⟨hgk1, hgk2⟩ := hgk
      rw [hgd] at hgk2
      have eo : eg = 0 := own_off11 hr hK1 hgk1
      subst eo
      subst hgk1
      have k0 := hgk2.1
      rw [Nat.zero_add] at k0
      have d0 : ((K.length : Int) == 0) = false := by rw [beq_eq_false_iff_ne]; omega
      have d1 : decide ((K.length : Int) = 0) = false := by rw [decide_eq_false_iff_not]; omega
      obtain ⟨km, hkm⟩ : ∃ m, K.length = m + 1 := ⟨K.length - 1, by omega⟩
      have e1 : (K.length : Int) - 1 = (km : Int) := by omega
      have hlt : (km : Int) < (K.length : Int) := by omega
      rw [show K.length - 1 = km from by omega] at k0
      clear hgd hgk2 hK1 hkm
      by_cases hk : d.key = x.key
      · have HFN := Lib.hid (show M.nw (pre ++ [x]) = M.nw pre from by rw [HNA.out, M.nwAdd, hlast]; simp only; rw [if_pos hk, HKF.out])
        have b1 : (d.key == x.key) = true := by simpa using hk
        have b2 : (d.key != x.key) = false := by simpa using hk
        clear hlast hk
        gi_wp2
        refine wpIn_region_quiet_round (by kernel_rfl) (by kernel_rfl) (by kernel_rfl) (by rintro ⟨a, w, h⟩; simp only [Exit.then, Exit.inBlock] at h; exact absurd h.1 (by simp)) ?_
        repeat (go_big_quiet_step (fail))
        refine wpQuiet_nil ?_
        intro _ hw'
        obtain ⟨nq, hw''⟩ := hw'
        subst hw''
        have hbq : Below W.heap.size W (W.drewN nq) := below_drewN (Below.refl _ _) nq
        obtain ⟨Wq, hWq⟩ : ∃ x, x = W.drewN nq := ⟨_, rfl⟩
        rw [← hWq] at hbq ⊢
        clear hWq
        have HKO := Lib.hid (show KeepsOthers W Wq from ⟨hbq.size, fun k o hk _ => (hbq.block k (Array.getElem?_eq_some_iff.1 hk).1).trans hk⟩)
        replace HC := Lib.hid (HC.out.next (.below hbq) (hbq.mono HC.out.bel.size))
        replace HIt := Lib.hid (And.intro (HIt.out.1.below hbq) (And.intro (HIt.out.2.1.below hbq) (HIt.out.2.2.below hbq)))
        clear hbq k0 c0 o0
        gi_wp2
        exact ⟨HKO.out, HC.out.same HFN.out, HIt.out.1, HIt.out.2.1, HIt.out.2.2, Nat.le_trans hwl HC.out.nsz⟩
      · have HFN := Lib.hid (show M.nw (pre ++ [x]) = M.nw pre ++ [x] from by rw [HNA.out, M.nwAdd, hlast]; simp only; rw [if_neg hk, HKF.out])
        have b1 : (d.key == x.key) = false := by simpa using hk
        have b2 : (d.key != x.key) = true := by simpa using hk
        clear hlast hk
        gi_wp2
        refine wpIn_region_quiet_round (by kernel_rfl) (by kernel_rfl) (by kernel_rfl) (by rintro ⟨a, w, h⟩; simp only [Exit.then, Exit.inBlock] at h; exact absurd h.1 (by simp)) ?_
        repeat (go_big_quiet_step (fail))
        refine wpQuiet_nil ?_
        intro _ hw'
        obtain ⟨nq, hw''⟩ := hw'
        subst hw''
        have hbq : Below W.heap.size W (W.drewN nq) := below_drewN (Below.refl _ _) nq
        obtain ⟨Wq, hWq⟩ : ∃ x, x = W.drewN nq := ⟨_, rfl⟩
        rw [← hWq] at hbq ⊢
        clear hWq
        have HKO := Lib.hid (show KeepsOthers W Wq from ⟨hbq.size, fun k o hk _ => (hbq.block k (Array.getElem?_eq_some_iff.1 hk).1).trans hk⟩)
        replace HC := Lib.hid (HC.out.next (.below hbq) (hbq.mono HC.out.bel.size))
        replace HIt := Lib.hid (And.intro (HIt.out.1.below hbq) (And.intro (HIt.out.2.1.below hbq) (HIt.out.2.2.below hbq)))
        clear k0
        replace ho := HR.out.1.below hbq
        replace hr := own_below11 HR.out.2.1 hbq
        have hne := HR.out.2.2
        have hcb := HCB.out.below hbq
        clear hbq o0 c0
        have o0 : Wq.cell? ⟨w1.heap.size, 0, none⟩ = some (.slice (some ⟨gk, 0, none⟩) K.length cap2) := ho.cell 0
        have c0 : Wq.cell? ⟨cb, 0, none⟩ = some (.string (S x.key)) := hcb.cell 0
        have c1 : Wq.cell? ⟨cb, 1, none⟩ = some (.int .i64 x.seq) := hcb.cell 1
        have c2 : Wq.cell? ⟨cb, 2, none⟩ = some (.string (S x.val)) := hcb.cell 2
        have hlb := row_apart ho hr (by decide)
        have HWa := Lib.hid ((Below.refl Wq.heap.size Wq).alloc (Nat.le_refl _) (.cells (clA x) 38))
        have hNW := HC.out.nsz
        gi_wp2_with (gi_at_builtin; refine wpListIn_append_own_at _ rfl _ _ 22 rfl w1.heap.size 38 i0 z0 3 40 Try.underlying22 hi0 hz0 h01 h02 h03 (by decide) (.slice (some ⟨gk, 0, none⟩) K.length cap2) K.length (cls K) rfl (hr.alloc _) ⟨Wq.heap.size, 0, none⟩ 1 1 (clL x) rfl rfl (cl_new Wq x _) (clL_oneC x) (by unfold maxLen; omega) (by omega) (by rw [World.size_alloc]; omega) ?_; intro v' wN hown hg _ h7; obtain ⟨ao3, cap3, rfl⟩ := ownP_shape hown; have hrN : RowIn #[.slice (some ⟨gk, 0, none⟩) K.length cap2] 22 wN w1.heap.size := (hg.block _ (ho.more (.cells (clA x) 38)).lt (fun e => hlb _ e.symm rfl)).trans (ho.more (.cells (clA x) 38)); have n0 : wN.cell? ⟨w1.heap.size, 0, none⟩ = some (.slice (some ⟨gk, 0, none⟩) K.length cap2) := hrN.cell 0; have f0 := hrN.free 0)
        have hKf := HKF.out
        have hNA := HNA.out
        rw [hKf] at ho hr hne hg hown h7 hrN hNA
        obtain ⟨q1, q2, q3, q4, q5, q6⟩ := col_put11 (f := M.nw) (pre := pre) (x := x) (ao' := ao3) (cap' := cap3) HC.out ho hr hne (((Two.below HWa.out).trans (Two.of hg) (fun q e => .inl e)).set (p := ⟨w1.heap.size, 0, none⟩) rfl (.slice ao3 ((M.nw pre).length + 1) cap3)) (hrN.set 0 (.slice ao3 ((M.nw pre).length + 1) cap3)) (ownsRow_setCell_other hown (fun e => row_apart hrN hown (by decide) _ e rfl) _) (h7.imp (fun e => e) (fun e => ⟨_, e, HWa.out.size⟩)) HFN.out HIt.out.1 HIt.out.2.1 HIt.out.2.2 (Nat.le_refl _) hwl
        rw [← hKf] at q1 q2 q3 q4 q5 q6
        exact ⟨HKO.out.trans q1, q2, q3, q4, q5, by simpa using q6⟩
  case done =>
    rintro D tc W hD hc hK
    obtain ⟨ao2, cap2, ho, hr, hne⟩ := hc.out
    have o0 : W.cell? ⟨w1.heap.size, 0, none⟩ = some (.slice ao2 (M.nw LM).length cap2) := ho.cell 0
    gi_wp2
    have hKz := hc.bel.size
    refine ⟨by simp, .inl ⟨_, _, rfl, run_takeDeferred hK, ?_⟩⟩
    have hR5 := ownsRow_putObj hr (.deferred none) hK rfl
    have hL5 : Below w.heap.size w (W.putObj D (.deferred none)) := hc.bel.grown (grownBy_putObj' W D _) hKz (fun k e => by injection e with e; omega)
    generalize W.putObj D (.deferred none) = WZ at *
    refine ⟨.tuple #[.slice ao2 (M.nw LM).length cap2, .int .i64 er], by simp [results, Try.f43, go_sem], ?_⟩
    obtain ⟨he, hl⟩ := HE.out
    have hL : (if M.mayR Rs = true then M.nw (M.mrg (M.rls Rs)) else []) = M.nw LM := by
      rw [hl]
      by_cases hm : M.mayR Rs = true
      · rw [if_pos hm, if_pos hm]
      · rw [if_neg hm, if_neg hm]; rfl
    refine ⟨ao2, cap2, ?_, ?_, hL5⟩
    · rw [hL, ← he]
    · rw [hL]
      exact own_base11 hR5 hwl

theorem newest11_any (Rs : List M.Rw) (hR : RsOk Rs) (ao : Option Addr) (cap : Nat) (w : World) (h : RwsAt w ao Rs) : Calls Try.prog 43 #[.slice ao Rs.length cap] w (AllR M.nw Rs w) :=
  callsIn_wide.1 (newest11_in 4 (by omega) Rs hR ao cap w h)

end Go.Proofs.Ythidmgnfdikppaa
