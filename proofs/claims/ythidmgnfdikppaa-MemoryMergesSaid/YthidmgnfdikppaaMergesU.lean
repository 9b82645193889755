/- Layer 11: the program's All and Newest, by contracts. -/
import Derived.Test.YthidmgnfdikppaaMergesT
namespace Go.Proofs.Ythidmgnfdikppaa
set_option linter.unusedVariables false
open Go Go.RowKit Go.Shelf
attribute [local go_sem ↓] run_index_S
attribute [local go_sem] S_append S_extract
attribute [local go_sem] Oper.semAt_some

/-- What the caller of a range over an Iter keeps: the list that has been collected so far. -/
structure Col11 (f : List M.Cl → List M.Cl) (N lb : Nat) (w0 : World) (tc : Nat) (pre : List M.Cl) (W : World) : Prop where
  out : ∃ ao cap, RowIn #[.slice ao (f pre).length cap] 22 W lb ∧ W.ownsRow N 38 3 (.slice ao (f pre).length cap) (f pre).length (cls (f pre)) ∧ (Value.slice ao (f pre).length cap).ownBlock ≠ some tc
  bel : Below w0.heap.size w0 W
  ne : lb ≠ tc
  nsz : N ≤ W.heap.size
  tcw : w0.heap.size ≤ tc
  nw : w0.heap.size ≤ N
theorem Col11.next {f : List M.Cl → List M.Cl} {N lb : Nat} {w0 : World} {tc : Nat} {pre : List M.Cl} {W W' : World} (h : Col11 f N lb w0 tc pre W) (hk : NextKeeps W W') (hb : Below w0.heap.size W W') : Col11 f N lb w0 tc pre W' := by
  obtain ⟨ao, cap, h1, h2, h3⟩ := h.out
  exact ⟨⟨ao, cap, hk.row h1 (by decide) (by decide), hk.own h2 (by decide) (by decide), h3⟩, h.bel.trans hb, h.ne, Nat.le_trans h.nsz hk.size, h.tcw, h.nw⟩
theorem Col11.two {f : List M.Cl → List M.Cl} {N lb : Nat} {w0 : World} {tc : Nat} {pre : List M.Cl} {W W' : World} (h : Col11 f N lb w0 tc pre W) (ht : Two tc none W W') : Col11 f N lb w0 tc pre W' := by
  obtain ⟨ao, cap, h1, h2, h3⟩ := h.out
  refine ⟨⟨ao, cap, (ht.block lb h1.lt h.ne (by simp)).trans h1, ?_, h3⟩, h.bel.trans (ht.toBelow h.tcw (by simp) h.bel.size), h.ne, Nat.le_trans h.nsz ht.size, h.tcw, h.nw⟩
  refine ⟨h2.1, ?_⟩
  rcases h2.2 with h0 | ⟨g, cap', cur, hv, hB, hg, r⟩
  · exact .inl h0
  · exact .inr ⟨g, cap', cur, hv, hB, (ht.block g (Array.getElem?_eq_some_iff.1 hg).1 (fun e => h3 (by rw [hv, e]; rfl)) (by simp)).trans hg, r⟩
theorem Col11.walk {f : List M.Cl → List M.Cl} {N lb : Nat} {w0 : World} {tc : Nat} {pre : List M.Cl} {W W' : World} {row : Option Nat} (h : Col11 f N lb w0 tc pre W) (hg : W.grownBy W' row) (hr : ∀ r, row = some r → w0.heap.size ≤ r ∧ ∃ o : Obj, W.heap[r]? = some o ∧ o.isCells = false) : Col11 f N lb w0 tc pre W' := by
  obtain ⟨ao, cap, h1, h2, h3⟩ := h.out
  refine ⟨⟨ao, cap, row_walk11 h1 hg (fun r e => (hr r e).2), ?_, h3⟩, h.bel.grown hg h.bel.size (fun k e => (hr k e).1), h.ne, Nat.le_trans h.nsz hg.size, h.tcw, h.nw⟩
  refine ⟨h2.1, ?_⟩
  rcases h2.2 with h0 | ⟨g, cap', cur, hv, hB, hgg, r⟩
  · exact .inl h0
  · exact .inr ⟨g, cap', cur, hv, hB, row_walk11 (show RowIn cur _ W g from hgg) hg (fun r e => (hr r e).2), r⟩
theorem ItO.keepG {B N : Nat} {p : Option Nat} {L : List M.Cl} {w w' : World} (h : ItO B N p L w) (hs : w.heap.size ≤ w'.heap.size)
    (k : ∀ (b : Nat) (C : Array Value) (T : TypeId) (fz : Nat × Nat), w.heap[b]? = some (Obj.cells C T fz) → (T = 71 ∨ T = 127 ∨ T = 38 ∧ b < N) → w'.heap[b]? = w.heap[b]?) : ItO B N p L w' := by
  cases p with
  | none => exact h
  | some bi =>
    obtain ⟨ao, n, cap, H, R, hi⟩ := h
    refine ⟨ao, n, cap, H, R, hi.keep hs (fun b hb => ?_)⟩
    rcases hb with e | e | ⟨hn, C, fz, e⟩
    · subst e; exact k _ _ _ _ hi.hq.row (.inl rfl)
    · rcases hi.hq.own.2 with ⟨h0, _⟩ | ⟨g, cap', cur, hv, hB, hgg, r⟩
      · rw [h0] at e; cases e
      · rw [hv] at e; injection e with e; subst e; exact k _ _ _ _ hgg (.inr (.inl rfl))
    · exact k _ _ _ _ e (.inr (.inr ⟨rfl, hn⟩))
/-- A cell collected. -/
theorem col_put11 {f : List M.Cl → List M.Cl} {B N lb bx : Nat} {p : Option Nat} {w0 : World} {tc : Nat} {pre rest : List M.Cl} {x : M.Cl} {W WE : World} {ao ao' : Option Addr} {cap cap' : Nat} (h : Col11 f N lb w0 tc pre W)
    (ho : RowIn #[.slice ao (f pre).length cap] 22 W lb) (hr : W.ownsRow N 38 3 (.slice ao (f pre).length cap) (f pre).length (cls (f pre))) (hne : (Value.slice ao (f pre).length cap).ownBlock ≠ some tc)
    (ht : Two lb (Value.slice ao (f pre).length cap).ownBlock W WE) (ho' : RowIn #[.slice ao' ((f pre).length + 1) cap'] 22 WE lb) (hr' : WE.ownsRow N 38 3 (.slice ao' ((f pre).length + 1) cap') ((f pre).length + 1) (cls (f pre) ++ clL x)) (h7 : (Value.slice ao' ((f pre).length + 1) cap').ownBlock = (Value.slice ao (f pre).length cap).ownBlock ∨ ∃ q, (Value.slice ao' ((f pre).length + 1) cap').ownBlock = some q ∧ W.heap.size ≤ q)
    (hf : f (pre ++ [x]) = f pre ++ [x]) (hI : ItO B N p rest W) (ht1 : RowIn (clA x) 38 W tc) (hb1 : RowIn #[pv11 p] 64 W bx) (hB : B ≤ w0.heap.size) (hlb : w0.heap.size ≤ lb) :
    KeepsOthers W WE ∧ Col11 f N lb w0 tc (pre ++ [x]) WE ∧ ItO B N p rest WE ∧ RowIn (clA x) 38 WE tc ∧ RowIn #[pv11 p] 64 WE bx ∧ B ≤ WE.heap.size := by
  have hq := fun q e => hr.lt q e
  have key : ∀ (b : Nat) (o : Obj), W.heap[b]? = some o → (∀ C fz, o ≠ .cells C 22 fz) → some b ≠ (Value.slice ao (f pre).length cap).ownBlock → WE.heap[b]? = some o := fun b o hb h1 h2 =>
    (ht.block b (Array.getElem?_eq_some_iff.1 hb).1 (fun e => by subst e; rw [ho] at hb; injection hb with hb; exact h1 _ _ hb.symm) h2).trans hb
  have keyT : ∀ (b : Nat) (C : Array Value) (T : TypeId) (fz : Nat × Nat), W.heap[b]? = some (.cells C T fz) → T ≠ 22 → T ≠ 38 → WE.heap[b]? = some (.cells C T fz) := fun b C T fz hb h1 h2 =>
    key b _ hb (fun C' fz' e => by injection e with _ e _; exact h1 e) (fun e => by
      rcases hr.2 with ⟨h0, _⟩ | ⟨g, cap', cur, hv, hB, hgg, r⟩
      · rw [h0] at e; cases e
      · rw [hv] at e; injection e with e; subst e; rw [hb] at hgg; injection hgg with hgg; injection hgg with _ e _; exact h2 e)
  refine ⟨⟨ht.size, fun k o hk hc => key k o hk (fun C fz e => by subst e; cases hc) (fun e => by
      rcases hr.2 with ⟨h0, _⟩ | ⟨g, cap', cur, hv, hB, hgg, r⟩
      · rw [h0] at e; cases e
      · rw [hv] at e; injection e with e; subst e; rw [hk] at hgg; injection hgg with hgg; subst hgg; cases hc)⟩, ?_, ?_, ?_, ?_, ?_⟩
  · refine ⟨⟨ao', cap', ?_, ?_, ?_⟩, h.bel.trans (ht.toBelow hlb (fun q e => Nat.le_trans h.nw (hq q e).1) h.bel.size), h.ne, Nat.le_trans h.nsz ht.size, h.tcw, h.nw⟩
    · rw [hf, List.length_append]; exact ho'
    · rw [hf, List.length_append, cls_append, cls_one]; exact hr'
    · rw [hf, List.length_append]
      show (Value.slice ao' ((f pre).length + 1) cap').ownBlock ≠ _
      rcases h7 with e | ⟨q, e, hq2⟩
      · rw [e]; exact hne
      · rw [e]; intro e2; injection e2 with e2; have := ht1.lt; omega
  · refine hI.keepG ht.size (fun b C T fz hb hT => ?_)
    rcases hT with e | e | ⟨e, hn⟩
    · subst e; rw [keyT _ _ _ _ hb (by decide) (by decide), hb]
    · subst e; rw [keyT _ _ _ _ hb (by decide) (by decide), hb]
    · subst e
      rw [key _ _ hb (fun C' fz' e => by injection e with _ e _; revert e; decide) (fun e => by have := (hq b e.symm).1; omega), hb]
  · exact key _ _ ht1 (fun C' fz' e => by injection e with _ e _; revert e; decide) (fun e => hne e.symm)
  · exact keyT _ _ _ _ hb1 (by decide) (by decide)
  · exact Nat.le_trans (Nat.le_trans hB h.bel.size) ht.size
def AllR (f : List M.Cl → List M.Cl) (Rs : List M.Rw) (w : World) (e : Ending) (w' : World) : Prop :=
  ∃ ao cap, e = .returned (.tuple #[.slice ao (if M.mayR Rs = true then f (M.mrg (M.rls Rs)) else []).length cap, .int .i64 (if M.mayR Rs = true then 0 else 2)]) ∧ w'.ownsRow w.heap.size 38 3 (.slice ao (if M.mayR Rs = true then f (M.mrg (M.rls Rs)) else []).length cap) (if M.mayR Rs = true then f (M.mrg (M.rls Rs)) else []).length (cls (if M.mayR Rs = true then f (M.mrg (M.rls Rs)) else [])) ∧ Below w.heap.size w w'
/-- What New answers, in one form. -/
theorem new11_O (Rs : List M.Rw) (hR : RsOk Rs) (ao : Option Addr) (cap : Nat) (w : World) (h : RwsAt w ao Rs) :
    Calls Try.prog 47 #[.slice ao Rs.length cap] w fun e w' => Below w.heap.size w w' ∧ ∃ p, e = .returned (.tuple #[pv11 p, .int .i64 (if M.mayR Rs = true then 0 else 2)]) ∧ ItO w.heap.size w'.heap.size p (if M.mayR Rs = true then M.mrg (M.rls Rs) else []) w' := by
  refine (new11_any Rs hR ao cap w h).mono ?_
  rintro e w' ⟨hb, hh⟩
  refine ⟨hb, ?_⟩
  by_cases hm : M.mayR Rs = true
  · rw [if_pos hm] at hh ⊢
    rw [if_pos hm]
    obtain ⟨bi, e1, h1⟩ := hh
    exact ⟨some bi, e1, h1⟩
  · rw [if_neg hm] at hh ⊢
    rw [if_neg hm]
    exact ⟨none, hh, rfl⟩
theorem own_base11 {w : World} {B B' : Nat} {e : TypeId} {sz n : Nat} {v : Value} {xs : List Value} (h : w.ownsRow B e sz v n xs) (hB : B' ≤ B) : w.ownsRow B' e sz v n xs := by
  refine ⟨h.1, ?_⟩
  rcases h.2 with h0 | ⟨g, cap', cur, hv, hb, r⟩
  · exact .inl h0
  · exact .inr ⟨g, cap', cur, hv, Nat.le_trans hB hb, r⟩
set_option maxHeartbeats 4000000 in
set_option maxRecDepth 100000 in
theorem all11_in (n : Nat) (hn : 4 ≤ n) (Rs : List M.Rw) (hR : RsOk Rs) (ao : Option Addr) (cap : Nat) (w : World) (h : RwsAt w ao Rs) :
    CallsIn Fence.wide n Try.prog 41 #[.slice ao Rs.length cap] w (AllR id Rs w) := by
  have h1 : 1 ≤ n := by omega
  have CN := Lib.hid (new11_O Rs hR ao cap w h)
  clear h
  refine callsIn_of_wp_marks Try.func41 rfl trivial ?_ rfl
  simp only [Try.ntmps41, List.size_toArray, List.length_cons, List.length_nil, Nat.reduceAdd, Nat.reduceSub, Array.replicate_succ, Array.replicate_zero, List.push_toArray, List.append_toArray, List.nil_append, List.cons_append]
  gi_wp2
  refine ⟨trivial, (callsIn_wide.2 (CN.out)).mono ?_⟩
  rintro e w1 ⟨hb1, p, rfl, hI1⟩
  obtain ⟨er, her⟩ : ∃ er : Int, er = if M.mayR Rs = true then 0 else 2 := ⟨_, rfl⟩
  obtain ⟨LM, hLM⟩ : ∃ l, l = if M.mayR Rs = true then M.mrg (M.rls Rs) else [] := ⟨_, rfl⟩
  rw [← her]
  rw [← hLM] at hI1
  have HE := Lib.hid (And.intro her hLM)
  have HI1 := Lib.hid hI1
  have HB1 := Lib.hid hb1
  clear her hLM hI1 hb1 CN
  have CE := Lib.hid (fun W => each11F_any p W)
  gi_wp2
  refine ⟨trivial, (callsIn_wide.2 (CE.out _)).mono ?_⟩
  rintro e w2 ⟨rfl, rfl⟩
  gi_wp2
  have hb1 : Below w.heap.size w ((w1.alloc (.cells #[.slice none 0 0] 22)).alloc (.cells #[pv11 p] 64)) := (HB1.out.alloc HB1.out.size _).alloc (Nat.le_trans HB1.out.size (by simp)) _
  have hbB : Below w1.heap.size w1 ((w1.alloc (.cells #[.slice none 0 0] 22)).alloc (.cells #[pv11 p] 64)) := ((Below.refl _ _).alloc (Nat.le_refl _) _).alloc (by simp) _
  have hrl : RowIn #[.slice none 0 0] 22 ((w1.alloc (.cells #[.slice none 0 0] 22)).alloc (.cells #[pv11 p] 64)) w1.heap.size := (rowIn_new _ _ _).more _
  have hrb : RowIn #[pv11 p] 64 ((w1.alloc (.cells #[.slice none 0 0] 22)).alloc (.cells #[pv11 p] 64)) (w1.heap.size + 1) := by
    have := rowIn_new #[pv11 p] 64 (w1.alloc (.cells #[.slice none 0 0] 22))
    rwa [World.size_alloc] at this
  have hI2 := HI1.out.below hbB
  have hsz := hbB.size
  have hwl := HB1.out.size
  have hszE : ((w1.alloc (.cells #[.slice none 0 0] 22)).alloc (.cells #[pv11 p] 64)).heap.size = w1.heap.size + 2 := by simp
  obtain ⟨i0, z0, hi0, hz0, h01, h02, h03⟩ := infoCl_parts
  have hLl : LM.length ≤ 900000 := by
    rw [HE.out.2]
    by_cases hm : M.mayR Rs = true
    · rw [if_pos hm, M.mrg_len]; exact hR.tot
    · rw [if_neg hm]; simp
  generalize ((w1.alloc (.cells #[.slice none 0 0] 22)).alloc (.cells #[pv11 p] 64)) = W0 at *
  refine wpIn_rangeFunc_it11 h1 (by omega) (bx := w1.heap.size + 1) rfl rfl w.heap.size w1.heap.size p LM hrb hI2 (Nat.le_trans hwl hsz) hsz
    (Col11 id w1.heap.size w1.heap.size w) (fun tc pre W W' hh hk hb => hh.next hk hb) (fun tc pre W W' hh ht _ => hh.two ht) (fun tc pre W W' row hh hg hr => hh.walk hg (fun r e => ⟨by have := (hr r e).1; omega, (hr r e).2⟩))
    (fun tc W' htc hk hb => ⟨⟨none, 0, hk.row hrl (by decide) (by decide), World.ownsRow_nil _ _ _ _, by simp [Value.ownBlock]⟩, hb1.trans hb, by omega, Nat.le_trans hsz hk.size, by omega, hwl⟩)
    (fun x cb => { tmps := #[.slice ao Rs.length cap, undef, .slice none 0 0, .int .i64 0, pv11 p, .int .i64 er, .pointer (some ⟨w1.heap.size, 0, none⟩), .pointer (some ⟨cb, 0, none⟩), .tuple #[pv11 p, .int .i64 er], .slice ao Rs.length cap, .tuple #[pv11 p, .int .i64 er], pv11 p, .int .i64 er, pv11 p, .func (.func 126) #[] #[.pointer (some ⟨w1.heap.size + 1, 0, none⟩)], .agg (clA x), undef, undef, undef, undef, undef, undef], defers := [] }) ?assign ?body ?done
  case assign =>
    intro lp x W K hK
    gi_wp2
    exact hK
  case body =>
    rintro lp tc cb pre x rest W hcb hc hIt ht1 hbW hL
    obtain ⟨ao2, cap2, ho, hr, hne⟩ := hc.out
    have hl2 : (id pre).length + 1 ≤ 1000000 := by
      have : pre.length ≤ LM.length := by rw [hL]; simp
      simp only [id]; omega
    obtain ⟨K, hKf⟩ : ∃ K, K = id pre := ⟨_, rfl⟩
    rw [← hKf] at ho hr hne hl2
    have HKF := Lib.hid hKf
    clear hKf
    have o0 : W.cell? ⟨w1.heap.size, 0, none⟩ = some (.slice ao2 K.length cap2) := ho.cell 0
    have c0 : W.cell? ⟨cb, 0, none⟩ = some (.string (S x.key)) := hcb.cell 0
    have c1 : W.cell? ⟨cb, 1, none⟩ = some (.int .i64 x.seq) := hcb.cell 1
    have c2 : W.cell? ⟨cb, 2, none⟩ = some (.string (S x.val)) := hcb.cell 2
    have hlb := row_apart ho hr (by decide)
    have HWa := Lib.hid ((Below.refl W.heap.size W).alloc (Nat.le_refl _) (.cells (clA x) 38))
    have hNW := hc.nsz
    gi_wp2_with (gi_at_builtin; refine wpListIn_append_own_at _ rfl _ _ 22 rfl w1.heap.size 38 i0 z0 3 40 Try.underlying22 hi0 hz0 h01 h02 h03 (by decide) (.slice ao2 K.length cap2) K.length (cls K) rfl (hr.alloc _) ⟨W.heap.size, 0, none⟩ 1 1 (clL x) rfl rfl (cl_new W x _) (clL_oneC x) (by unfold maxLen; omega) (by omega) (by rw [World.size_alloc]; omega) ?_; intro v' wN hown hg _ h7; obtain ⟨ao3, cap3, rfl⟩ := ownP_shape hown; have hrN : RowIn #[.slice ao2 K.length cap2] 22 wN w1.heap.size := (hg.block _ (ho.more (.cells (clA x) 38)).lt (fun e => hlb _ e.symm rfl)).trans (ho.more (.cells (clA x) 38)); have n0 : wN.cell? ⟨w1.heap.size, 0, none⟩ = some (.slice ao2 K.length cap2) := hrN.cell 0; have f0 := hrN.free 0)
    have hKf := HKF.out
    subst hKf
    obtain ⟨q1, q2, q3, q4, q5, q6⟩ := col_put11 (f := id) (pre := K) (x := x) (ao' := ao3) (cap' := cap3) hc ho hr hne (((Two.below HWa.out).trans (Two.of hg) (fun q e => .inl e)).set (p := ⟨w1.heap.size, 0, none⟩) rfl (.slice ao3 (K.length + 1) cap3)) (hrN.set 0 (.slice ao3 (K.length + 1) cap3)) (ownsRow_setCell_other hown (fun e => row_apart hrN hown (by decide) _ e rfl) _) (h7.imp (fun e => e) (fun e => ⟨_, e, HWa.out.size⟩)) rfl hIt ht1 hbW (Nat.le_refl _) hwl
    exact ⟨q1, q2, q3, q4, q5, by simpa using q6⟩
  case done =>
    rintro D tc W hD hc hK
    obtain ⟨ao2, cap2, ho, hr, hne⟩ := hc.out
    have o0 : W.cell? ⟨w1.heap.size, 0, none⟩ = some (.slice ao2 LM.length cap2) := ho.cell 0
    gi_wp2
    have hKz := hc.bel.size
    refine ⟨by simp, .inl ⟨_, _, rfl, run_takeDeferred hK, ?_⟩⟩
    have hR5 := ownsRow_putObj hr (.deferred none) hK rfl
    have hL5 : Below w.heap.size w (W.putObj D (.deferred none)) := hc.bel.grown (grownBy_putObj' W D _) hKz (fun k e => by injection e with e; omega)
    generalize W.putObj D (.deferred none) = WZ at *
    refine ⟨.tuple #[.slice ao2 LM.length cap2, .int .i64 er], by simp [results, Try.f41, go_sem], ?_⟩
    obtain ⟨he, hl⟩ := HE.out
    have hL : (if M.mayR Rs = true then id (M.mrg (M.rls Rs)) else []) = LM := hl.symm
    refine ⟨ao2, cap2, ?_, ?_, hL5⟩
    · rw [hL, ← he]
    · rw [hL]
      exact own_base11 hR5 hwl

theorem all11_any (Rs : List M.Rw) (hR : RsOk Rs) (ao : Option Addr) (cap : Nat) (w : World) (h : RwsAt w ao Rs) : Calls Try.prog 41 #[.slice ao Rs.length cap] w (AllR id Rs w) :=
  callsIn_wide.1 (all11_in 4 (by omega) Rs hR ao cap w h)

end Go.Proofs.Ythidmgnfdikppaa
