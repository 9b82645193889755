/- Layer 11: MergesOrder, walked. -/
import Derived.Test.YthidmgnfdikppaaMergesLa
import Derived.Test.YthidmgnfdikppaaMergePt
import Derived.Test.YthidmgnfdikppaaMergesLp
import Derived.BigQuiet
import Derived.Deep.RegionHeld3
namespace Go.Proofs.Ythidmgnfdikppaa
set_option linter.unusedVariables false
open Go Go.RowKit
attribute [local go_sem ↓] run_index_S
attribute [local go_sem] S_append S_extract

theorem M.strict_adj : ∀ (L : List M.Cl), (∀ i, i + 1 < L.length → M.aheadC (L.getD i M.cl0) (L.getD (i + 1) M.cl0) = true) → M.Strict L
  | [], _ => List.Pairwise.nil
  | [c], _ => List.pairwise_singleton _ _
  | c :: d :: s, h => by
    have ih := M.strict_adj (d :: s) (fun i hi => h (i + 1) (by simpa using hi))
    have h0 : M.aheadC c d = true := h 0 (by simp)
    refine List.Pairwise.cons (fun x hx => ?_) ih
    rcases List.mem_cons.1 hx with rfl | hx
    · exact h0
    · exact M.ahead_trans h0 ((List.pairwise_cons.1 ih).1 x hx)
theorem M.ahead_of {a b : M.Cl} (h : M.aheadC b a = false) (k : ¬ (a.key = b.key ∧ a.seq = b.seq)) : M.aheadC a b = true := by
  rw [M.ahead_iff]
  by_cases e : a.key = b.key
  · refine .inr ⟨e, ?_⟩
    rcases Int.lt_trichotomy a.seq b.seq with q | q | q
    · have : M.aheadC b a = true := M.ahead_iff.2 (.inr ⟨e.symm, q⟩)
      rw [h] at this; cases this
    · exact absurd ⟨e, q⟩ k
    · exact q
  · exact .inl (M.asc_less h e)
theorem M.cntR_perm (c : M.Cl) {R Q : List (List M.Cl)} (h : R.Perm Q) : M.cntR c R = M.cntR c Q := by
  unfold M.cntR
  induction h with
  | nil => rfl
  | cons x _ ih => simp only [List.map_cons, List.sum_cons, ih]
  | swap x y l => simp only [List.map_cons, List.sum_cons]; omega
  | trans _ _ h1 h2 => exact h1.trans h2
theorem M.mayR_perm {Q Rs : List M.Rw} (h : Q.Perm Rs) (hm : M.mayR Rs = true) : M.mayR Q = true := by
  unfold M.mayR at *
  rw [List.all_eq_true] at *
  exact fun r hr => hm r (h.mem_iff.1 hr)
theorem M.mrg_perm {Q Rs : List M.Rw} (h : Q.Perm Rs) (hm : M.mayR Rs = true) (hs : M.Strict (M.mrg (M.rls Rs))) : M.mrg (M.rls Rs) = M.mrg (M.rls Q) := by
  refine M.strict_eq hs ((M.mrg_is _).asc (M.mayR_pw (M.mayR_perm h hm))) (fun c => ?_)
  rw [(M.mrg_is (M.rls Rs)).cnt, (M.mrg_is (M.rls Q)).cnt]
  exact M.cntR_perm c (h.symm.map _)
theorem rsOk_perm {Q Rs : List M.Rw} (h : Q.Perm Rs) (hR : RsOk Rs) : RsOk Q := by
  refine ⟨by rw [h.length_eq]; exact hR.n, fun r hr => hR.len r (h.mem_iff.1 hr), fun r hr => hR.ok r (h.mem_iff.1 hr), ?_⟩
  have h1 := hR.tot
  have h2 : ∀ {A B : List M.Rw}, A.Perm B → ((A.map (fun r => r.l)).map List.length).sum = ((B.map (fun r => r.l)).map List.length).sum := fun h => by
    induction h with
    | nil => rfl
    | cons x _ ih => simp only [List.map_cons, List.sum_cons, ih]
    | swap x y l => simp only [List.map_cons, List.sum_cons]; omega
    | trans _ _ h1 h2 => exact h1.trans h2
  have h3 := h2 h
  unfold M.rls at *
  omega
/-- A row of rows from a block's beginning, which may be written. -/
def rwV (r : M.Rw) : Value := .slice r.o r.l.length r.k
def RwI11 (w : World) (g : Nat) (Q : List M.Rw) : Prop := ∃ C : Array Value, RowIn C 22 w g ∧ ∀ j, j < Q.length → C[j]? = some (rwV (Q.getD j M.rw0))
theorem RwI11.cell {w : World} {g : Nat} {Q : List M.Rw} (h : RwI11 w g Q) (j : Nat) (hj : j < Q.length) : w.cell? ⟨g, j, none⟩ = some (rwV (Q.getD j M.rw0)) := by
  obtain ⟨C, h1, h2⟩ := h
  exact (h1.cell j).trans (h2 j hj)
theorem RwI11.free {w : World} {g : Nat} {Q : List M.Rw} (h : RwI11 w g Q) (j : Nat) : w.frozen? ⟨g, j, none⟩ = false := by
  obtain ⟨C, h1, h2⟩ := h
  exact h1.free j
theorem RwI11.set {w : World} {g : Nat} {Q : List M.Rw} (h : RwI11 w g Q) (i : Nat) (r : M.Rw) : RwI11 (w.setCell ⟨g, i, none⟩ (rwV r)) g (Q.set i r) := by
  obtain ⟨C, h1, h2⟩ := h
  refine ⟨_, h1.set i (rwV r), fun j hj => ?_⟩
  rw [List.length_set] at hj
  have h3 := h2 j hj
  have hl : j < C.size := (Array.getElem?_eq_some_iff.1 h3).1
  rw [Array.getElem?_setIfInBounds]
  by_cases e : i = j
  · subst e
    rw [if_pos rfl, if_pos hl]
    simp [List.getD, hj]
  · rw [if_neg e, h3]
    simp [List.getD, e]
theorem RwI11.below {w w' : World} {g : Nat} {Q : List M.Rw} (h : RwI11 w g Q) (hb : Below w.heap.size w w') : RwI11 w' g Q := by
  obtain ⟨C, h1, h2⟩ := h
  exact ⟨C, h1.below hb, h2⟩
theorem RwI11.own {B : Nat} {w : World} {v : Value} {n : Nat} {Q : List M.Rw} (h : w.ownsRow B 22 1 v n (rwsV Q)) (hQ : Q.length = n) (hn : 0 < n) : ∃ g cap, v = .slice (some ⟨g, 0, none⟩) n cap ∧ n ≤ cap ∧ B ≤ g ∧ g < w.heap.size ∧ RwI11 w g Q := by
  rcases h.2 with ⟨_, e⟩ | ⟨g, cap, cur, e, hB, hg, hc, hm, hs, ht⟩
  · omega
  · refine ⟨g, cap, e, hc, hB, (Array.getElem?_eq_some_iff.1 hg).1, cur, hg, fun j hj => ?_⟩
    have h1 := rwsV_get hj
    rw [← ht, List.getElem?_take, if_pos (by omega), Array.getElem?_toList] at h1
    exact h1
theorem RwI11.at_ {w : World} {g : Nat} {Q : List M.Rw} (h : RwI11 w g Q) (hQ : ∀ r, r ∈ Q → ClsAt w r.o r.l) : RwsAt w (some ⟨g, 0, none⟩) Q := fun _ =>
  ⟨g, 0, rfl, fun j hj => by rw [Nat.zero_add]; exact ⟨h.cell j hj, hQ _ (M.getD_memR hj)⟩⟩
theorem swapRw_perm {Q : List M.Rw} {i j : Nat} (hi : i < Q.length) (hj : j < Q.length) : ((Q.set i (Q.getD j M.rw0)).set j (Q.getD i M.rw0)).Perm Q := by
  have e1 : Q.getD j M.rw0 = Q[j] := by simp [List.getD, hj]
  have e2 : Q.getD i M.rw0 = Q[i] := by simp [List.getD, hi]
  rw [e1, e2]
  exact List.set_set_perm hi hj
theorem RwsAt.each {w : World} {ao : Option Addr} {Rs : List M.Rw} (h : RwsAt w ao Rs) : ∀ r, r ∈ Rs → ClsAt w r.o r.l := fun r hr => by
  obtain ⟨j, hj, e⟩ := List.getElem_of_mem hr
  obtain ⟨g, off, _, hc⟩ := h.off j hj
  have e2 : Rs.getD j M.rw0 = r := by simp [List.getD, hj, e]
  rw [e2] at hc
  exact hc.2
theorem step_append_rw11 {P : Program} {w : World} {ops : Array Oper} {o : Oper} {a : Act} {K : Act → World → Prop} {Q : Exit → Act → World → Prop} {E : Prop} (hgd : o.guard = none) (s x : Operand) (t : TypeId)
    (ho : o.op = .call { callee := .builtin .append, args := #[s, x], argTypes := #[t, t] })
    (base : Nat) (e : TypeId) (i : TypeInfo) (z : Value) (size bytes : Nat) (ht : P.underlying t = some (.slice e)) (hi : P.info? e = some i) (hz : i.zero = some z)
    (hsize : i.size = size) (hby : i.bytes = bytes) (hzs : z.cells.size = size) (hsz : 0 < size)
    (v : Value) (n : Nat) (xs : List Value) (hs : a.eval s = v) (hown : w.ownsRow base e size v n xs)
    (ad : Addr) (m c : Nat) (news : List Value) (hx : a.eval x = .slice (some ad) m c) (hl : news.length = m * size) (hnews : ∀ j u, news[j]? = some u → w.cell? (ad.add j) = some u) (h1 : ∀ u ∈ news, u.oneCell' = true)
    (h63 : n + m ≤ maxLen) (hbytes : (n + m) * bytes ≤ 140737488355328) (hbase : base ≤ w.heap.size)
    (h : ∀ v' w', w'.ownsRow base e size v' (n + m) (xs ++ news) → w.grownBy w' v.ownBlock → (v' = .slice none 0 0 ↔ v = .slice none 0 0 ∧ m = 0) → K (a.put o.dst v') w') :
    if Region.wanted o (yielded ops a.tmps) = true then Oper.wp P o a w K Q else E := by
  have hw : Region.wanted o (yielded ops a.tmps) = true := by simp [Region.wanted, hgd]
  rw [if_pos hw]
  exact wp_append_own w s x t ho base e i z size bytes ht hi hz hsize hby hzs hsz v n xs hs hown ad m c news hx hl hnews h1 h63 hbytes hbase h
theorem rws_srcs {w : World} {g off : Nat} {Rs : List M.Rw} (h : ∀ j, j < Rs.length → RwAt w g (off + j) (Rs.getD j M.rw0)) (k m : Nat) : ∀ j u, (rwsV ((Rs.drop k).take m))[j]? = some u → w.cell? ((⟨g, off + k, none⟩ : Addr).add j) = some u := fun j u hu => by
  rw [Addr.add_lit]
  have hj : j < ((Rs.drop k).take m).length := by
    have := (List.getElem?_eq_some_iff.1 hu).1
    simpa [rwsV] using this
  have hj2 : k + j < Rs.length := by simp at hj; omega
  rw [rwsV_get hj] at hu
  have e : ((Rs.drop k).take m).getD j M.rw0 = Rs.getD (k + j) M.rw0 := by
    simp only [List.length_take] at hj
    simp [List.getD, show j < m from by omega]
  rw [e] at hu
  rw [show off + k + j = off + (k + j) from by omega]
  exact (h (k + j) hj2).1.trans hu

set_option maxHeartbeats 8000000 in
set_option maxRecDepth 100000 in
theorem mergesOrder_calls (W : World) (v : Value) (o : URs W v) (u : Int) (wu : (Lit.int .u8 u).wf = true) : Calls Try.prog 15 #[v, .int .u8 u] W fun e w' => e = .returned (.bool true) ∧ Below W.heap.size W w' := by
  obtain ⟨Rs, ao, cap, rfl, hn, hi, hcap, hA⟩ := o
  obtain ⟨hu0, hu1⟩ := u8_wf11 wu
  have CG := Lib.hid (great11_any Rs ao cap W hA hn hi)
  have CD := Lib.hid (fun V => does11_any V)
  have HA := Lib.hid hA
  have HI := Lib.hid hi
  clear hA hi
  go_enter Try.func15, Try.ntmps15
  go_wp2_with fail
  with_reducible refine (CG.out).mono ?_
  rintro e w1 ⟨he, rfl⟩
  rcases he with rfl | ⟨rfl, hsm⟩
  · go_wp2_with fail
    with_reducible refine (CD.out _).mono ?_
    rintro e w3 ⟨rfl, hb3⟩
    have HB2 := Lib.hid hb3
    clear hb3
    go_wp2_with fail
    go_ret
    exact ⟨rfl, HB2.out⟩
  have CA := Lib.hid (all11_any Rs (hsm.ok HI.out) ao cap W HA.out)
  have HSM := Lib.hid hsm
  have HOK := Lib.hid (hsm.ok HI.out)
  have hn20 := hsm.n
  clear hsm CG
  by_cases hz : Rs.length = 0
  · have d0 : ((Rs.length : Int) == 0) = true := by rw [beq_iff_eq]; omega
    have d1 : decide ((Rs.length : Int) = 0) = true := by rw [decide_eq_true_eq]; omega
    go_wp2_with fail
    with_reducible refine (CD.out _).mono ?_
    rintro e w3 ⟨rfl, hb3⟩
    have HB2 := Lib.hid hb3
    clear hb3
    go_wp2_with fail
    go_ret
    exact ⟨rfl, HB2.out⟩
  have d0 : ((Rs.length : Int) == 0) = false := by rw [beq_eq_false_iff_ne]; omega
  have d1 : decide ((Rs.length : Int) = 0) = false := by rw [decide_eq_false_iff_not]; omega
  go_wp2_with fail
  with_reducible refine (CA.out).mono ?_
  rintro e w2 ⟨a2, c2, rfl, ho2, hb2⟩
  by_cases hm : M.mayR Rs = true
  · rw [if_pos hm] at ho2
    rw [if_pos hm, if_pos hm]
    simp only [id] at ho2 ⊢
    have HLC := Lib.hid (clsAt_own ho2 rfl)
    have HB2 := Lib.hid hb2
    have HA2 := Lib.hid (HA.out.below hb2)
    have hL300 : (M.mrg (M.rls Rs)).length ≤ 300 := by
      rw [M.mrg_len]; exact HSM.out.tot
    have HM := Lib.hid hm
    have HAsc := Lib.hid ((M.mrg_is (M.rls Rs)).asc (M.mayR_pw hm))
    have HOkL := Lib.hid (show ∀ c, c ∈ M.mrg (M.rls Rs) → ClOk c from fun c hc => by
      obtain ⟨l, h1, h2⟩ := M.mem_mrg.1 hc
      obtain ⟨r, hr, e⟩ := List.mem_map.1 h1
      exact HOK.out.ok r hr c (e ▸ h2))
    have HMay := Lib.hid (M.mayR_may hm)
    obtain ⟨L, hL⟩ : ∃ L, L = M.mrg (M.rls Rs) := ⟨_, rfl⟩
    rw [← hL] at HLC hL300 HAsc HOkL HMay ⊢
    have HL := Lib.hid hL
    clear hm ho2 hb2 CA hL d0 d1
    go_wp2_with fail
    go_loopw [7] (fun i wr => ∃ k : Nat, 1 ≤ k ∧ i = .int .i64 k ∧ Hid (∀ j, j + 1 < k → j + 1 < L.length → M.aheadC (L.getD j M.cl0) (L.getD (j + 1) M.cl0) = true) ∧ Hid (Below w2.heap.size w2 wr) ∧ (k ≤ L.length ∨ k = 1)) (fun i _ => L.length - (intOf i).toNat)
    case atStart => exact ⟨1, Nat.le_refl _, rfl, Lib.hid (fun j hj => by omega), Lib.hid (Below.refl _ _), .inr rfl⟩
    case round =>
      obtain ⟨k, hk1, rfl, HJ, HB, hkk⟩ := hrel
      by_cases hlt : k < L.length
      · have hki : (k : Int) < (L.length : Int) := by omega
        have HCR := Lib.hid (HLC.out.below HB.out)
        obtain ⟨g, off, rfl, hc⟩ := HCR.out.off k hlt
        obtain ⟨g', off', he, hc'⟩ := HCR.out.off (k - 1) (by omega)
        obtain ⟨rfl, rfl⟩ : g = g' ∧ off = off' := by cases he; exact ⟨rfl, rfl⟩
        clear he
        have hw1 : IntKind.i64.wrap ((k : Int) - 1) = ((k - 1 : Nat) : Int) := by rw [IntWalk.i64_in _ (by omega)]; omega
        have hw2 : ((k - 1 : Nat) : Int) < (L.length : Int) := by omega
        have hw3 : (0 : Int) ≤ ((k - 1 : Nat) : Int) := by omega
        obtain ⟨x0, x1, _⟩ := hc
        obtain ⟨y0, y1, _⟩ := hc'
        have HND : Hid (M.aheadC (L.getD k M.cl0) (L.getD (k - 1) M.cl0) = false) := Lib.hid (by
          have h := List.pairwise_iff_getElem.1 HAsc.out (k - 1) k (by omega) hlt (by omega)
          simpa [List.getD, hlt, show k - 1 < L.length from by omega] using h)
        have HST := Lib.hid (show ¬ ((L.getD (k - 1) M.cl0).key = (L.getD k M.cl0).key ∧ (L.getD (k - 1) M.cl0).seq = (L.getD k M.cl0).seq) → ∀ j, j + 1 < k + 1 → j + 1 < L.length → M.aheadC (L.getD j M.cl0) (L.getD (j + 1) M.cl0) = true from fun hne j hj hjl => by
          rcases Nat.lt_or_ge (j + 1) k with q | q
          · exact HJ.out j q hjl
          · obtain rfl : j = k - 1 := by omega
            rw [show k - 1 + 1 = k from by omega]
            exact M.ahead_of HND.out hne)
        generalize L.getD (k - 1) M.cl0 = d at *
        generalize L.getD k M.cl0 = c at *
        clear HND
        by_cases hkey : d.key = c.key
        · have b1 : (c.key == d.key) = true := by simpa using hkey.symm
          by_cases hseq : d.seq = c.seq
          · have b2 : (c.seq == d.seq) = true := by simpa using hseq.symm
            clear HST
            clear hkey hseq
            go_wp2_with fail
            go_quiet (fail)
            have hbq : Below wr.heap.size wr (wr.drewN nq) := below_drewN (Below.refl _ _) nq
            obtain ⟨wq, hwq⟩ : ∃ x, x = wr.drewN nq := ⟨_, rfl⟩
            rw [← hwq] at hbq ⊢
            replace HB := Lib.hid (HB.out.trans (hbq.mono HB.out.size))
            clear hwq hbq x0 x1 y0 y1
            go_wp2_with fail
            with_reducible refine (CD.out _).mono ?_
            rintro e w3 ⟨rfl, hb3⟩
            replace HB2 := Lib.hid ((HB2.out.trans (HB.out.mono HB2.out.size)).trans (hb3.mono (HB2.out.trans (HB.out.mono HB2.out.size)).size))
            clear hb3
            go_wp2_with fail
            go_ret
            exact ⟨rfl, HB2.out⟩
          · have b2 : (c.seq == d.seq) = false := by rw [beq_eq_false_iff_ne]; exact fun h => hseq h.symm
            have HST2 := Lib.hid (HST.out (fun h => hseq h.2))
            clear hkey hseq HST
            go_wp2_with fail
            go_quiet (fail)
            have hbq : Below wr.heap.size wr (wr.drewN nq) := below_drewN (Below.refl _ _) nq
            obtain ⟨wq, hwq⟩ : ∃ x, x = wr.drewN nq := ⟨_, rfl⟩
            rw [← hwq] at hbq ⊢
            replace HB := Lib.hid (HB.out.trans (hbq.mono HB.out.size))
            clear hwq hbq x0 x1 y0 y1
            go_wp2_with fail
            go_roundw
            case rel => exact ⟨k + 1, by omega, by go_num, HST2, HB, .inl (by omega)⟩
            case measure => simp [intOf]; omega
        · have b1 : (c.key == d.key) = false := by rw [beq_eq_false_iff_ne]; exact fun h => hkey h.symm
          have HST2 := Lib.hid (HST.out (fun h => hkey h.1))
          clear hkey HST
          go_wp2_with fail
          go_quiet (fail)
          have hbq : Below wr.heap.size wr (wr.drewN nq) := below_drewN (Below.refl _ _) nq
          obtain ⟨wq, hwq⟩ : ∃ x, x = wr.drewN nq := ⟨_, rfl⟩
          rw [← hwq] at hbq ⊢
          replace HB := Lib.hid (HB.out.trans (hbq.mono HB.out.size))
          clear hwq hbq x0 x1 y0 y1
          go_wp2_with fail
          go_roundw
          case rel => exact ⟨k + 1, by omega, by go_num, HST2, HB, .inl (by omega)⟩
          case measure => simp [intOf]; omega
      · have hstr := Lib.hid (M.strict_adj L (fun i hi => HJ.out i (by omega) hi))
        have hkn : ¬ ((k : Int) < (L.length : Int)) := by omega
        replace HB2 := Lib.hid (HB2.out.trans (HB.out.mono HB2.out.size))
        replace HA2 := Lib.hid (HA2.out.below HB.out)
        replace HLC := Lib.hid (HLC.out.below HB.out)
        clear HJ HB hkk HAsc
        obtain ⟨q, hq⟩ : ∃ q : Nat, q = u.toNat % Rs.length := ⟨_, rfl⟩
        have hql : q < Rs.length := by rw [hq]; exact Nat.mod_lt _ (by omega)
        have ek : u.tmod (Rs.length : Int) = (q : Int) := by
          rw [Int.tmod_eq_emod_of_nonneg hu0, hq]
          have h1 : (u.toNat : Int) = u := Int.toNat_of_nonneg hu0
          rw [Int.natCast_emod, h1]
        have hz1 : ¬ ((Rs.length : Int) = 0) := by omega
        have hz2 : ((Rs.length : Int) == 0) = false := by rw [beq_eq_false_iff_ne]; omega
        obtain ⟨gR, offR, eao, hR⟩ := HA2.out (fun h => hz (by rw [h]; rfl))
        have HR := Lib.hid hR
        subst eao
        have hcq : ¬ cap = q := by omega
        have bq0 : (0 : Int) ≤ (q : Int) := by omega
        have bq1 : (q : Int) ≤ (Rs.length : Int) := by omega
        have bq2 : (Rs.length : Int) ≤ (cap : Int) := by omega
        have bq3 : (q : Int) ≤ (cap : Int) := by omega
        obtain ⟨i0, z0, hi0, hz0, hz01, hz02, hz03⟩ := infoRw_parts
        have HS0 := Lib.hid (show ∀ V, Below wr.heap.size wr V → ∀ j u, (rwsV (Rs.take q))[j]? = some u → V.cell? ((⟨gR, offR, none⟩ : Addr).add j) = some u from fun V hV => rws_srcs (k := 0) (fun j hj => (HR.out j hj).below hV) q)
        have HS1 := Lib.hid (show ∀ V, Below wr.heap.size wr V → ∀ j u, (rwsV (Rs.drop q))[j]? = some u → V.cell? ((⟨gR, offR + q, none⟩ : Addr).add j) = some u from fun V hV j u hu => rws_srcs (fun j hj => (HR.out j hj).below hV) q (Rs.length - q) j u (by rw [List.take_of_length_le (by simp)]; exact hu))
        clear hR hq
        go_wp2_with fail
        go_region_held3 (fun _ => True) (trivial) (first
          | (have _t := HO1; clear _t; refine step_append_rw11 (by rfl) _ _ 59 (by rfl) wr.heap.size 22 i0 z0 1 24 Try.underlying59 hi0 hz0 hz01 hz02 hz03 (by decide) (.slice ao1 (Rs.length - q) cap1) (Rs.length - q) (rwsV (Rs.drop q)) (by rfl) HO1.out ⟨gR, offR, none⟩ q cap (rwsV (Rs.take q)) (by rfl) (by simp [rwsV]; omega) (fun j u hu => (HS0.out w3 HB3.out) j u hu) (rwsV_one _) (by unfold maxLen; omega) (by omega) HB3.out.size ?_; intro v4 w4 ho4 hg4 _; have HO4 := Lib.hid (show w4.ownsRow wr.heap.size 22 1 v4 Rs.length (rwsV (Rs.drop q ++ Rs.take q)) from by rw [rwsV_append]; have e : Rs.length - q + q = Rs.length := (by omega); rw [e] at ho4; exact ho4); have HB4 := Lib.hid (HB3.out.grown hg4 HB3.out.size (fun q hq => (HO1.out.lt q hq).1)); clear ho4 hg4)
          | (refine step_append_rw11 (by rfl) _ _ 59 (by rfl) wr.heap.size 22 i0 z0 1 24 Try.underlying59 hi0 hz0 hz01 hz02 hz03 (by decide) (.slice (some ⟨wr.heap.size, 0, none⟩) 0 0) 0 [] (by rfl) (World.ownsRow_made wr #[] 0 (Nat.le_refl _) (by unfold maxLen; omega) rfl) ⟨gR, offR + q, none⟩ (Rs.length - q) (cap - q) (rwsV (Rs.drop q)) (by rfl) (by simp [rwsV]) (fun j u hu => (HS1.out _ ((Below.refl wr.heap.size wr).alloc (Nat.le_refl _) _)) j u hu) (rwsV_one _) (by unfold maxLen; omega) (by omega) (by show wr.heap.size ≤ (wr.alloc _).heap.size; rw [szA]; exact Nat.le_succ _) ?_; intro v3 w3 ho3 hg3 _; rw [Nat.zero_add, List.nil_append] at ho3; obtain ⟨ao1, cap1, rfl⟩ := ownP_shape ho3; have HO1 := Lib.hid ho3; have HB3 := Lib.hid ((((Below.refl wr.heap.size wr).alloc (Nat.le_refl _) _).drew).grown hg3 (by show wr.heap.size ≤ (wr.alloc _).heap.size; rw [szA]; exact Nat.le_succ _) (fun q hq => by cases hq; exact Nat.le_refl _)); clear ho3 hg3))
        have HPm := Lib.hid (show (Rs.drop q ++ Rs.take q).Perm Rs from by
          have h := List.perm_append_comm (l₁ := Rs.drop q) (l₂ := Rs.take q)
          rwa [List.take_append_drop] at h)
        obtain ⟨gT, capT, eT, hcT, hgT, hgT2, hRI⟩ := RwI11.own HO4.out (by simp; omega) (by omega)
        have HRI := Lib.hid hRI
        have HEach := Lib.hid (show ∀ V, Below wr.heap.size wr V → ∀ r, r ∈ Rs → ClsAt V r.o r.l from fun V hV r hr => (HA2.out.each r hr).below hV)
        have HLC4 := Lib.hid (HLC.out.below HB4.out)
        have HSrt := Lib.hid (M.srt_of L none HMay.out (fun q hq => by cases hq) hstr.out)
        have HMrg := Lib.hid (show ∀ Q, Q.Perm Rs → M.mrg (M.rls Q) = L from fun Q hQ => by
          have h := M.mrg_perm hQ HM.out (by rw [← HL.out]; exact hstr.out)
          rw [← h, HL.out])
        subst eT
        have hQl : (Rs.drop q ++ Rs.take q).length = Rs.length := by simp; omega
        generalize Rs.drop q ++ Rs.take q = Q at *
        clear hRI HO4 HO1 HB3 HS0 HS1 hi0 hz0 hz01 hz02 hz03 hkn ek hcq
        have HQl := Lib.hid hQl
        clear hQl
        by_cases hu : u ≥ 128
        · have du : decide (u ≥ 128) = true := by rw [decide_eq_true_eq]; exact hu
          go_wp2_with fail
          have hdq : Int.tdiv (Rs.length : Int) 2 = ((Rs.length / 2 : Nat) : Int) := by rw [Int.tdiv_eq_ediv_of_nonneg (by omega)]; rfl
          go_loopw [10] (fun i wq => ∃ (k : Nat) (Q : List M.Rw), i = .int .i64 k ∧ k ≤ Rs.length / 2 ∧ Hid (Q.length = Rs.length) ∧ Hid (Q.Perm Rs) ∧ Hid (RwI11 wq gT Q) ∧ Hid (Below wr.heap.size wr wq)) (fun i _ => Rs.length - (intOf i).toNat)
          case atStart => exact ⟨0, Q, rfl, Nat.zero_le _, HQl, HPm, HRI, HB4⟩
          case round =>
            clear HPm HRI HB4 HQl HLC4
            obtain ⟨k, Q, rfl, hk, HQl, HPm, HRI, HB4⟩ := hrel
            by_cases hlt : k < Rs.length / 2
            · have hki : (k : Int) < ((Rs.length / 2 : Nat) : Int) := by omega
              have hkn : (k : Int) < (Rs.length : Int) := by omega
              obtain ⟨m, hm⟩ : ∃ m, m = Rs.length - 1 - k := ⟨_, rfl⟩
              have hmn : (m : Int) < (Rs.length : Int) := by omega
              have hm0 : (0 : Int) ≤ (m : Int) := by omega
              have hkm : ¬ (k = m) := by omega
              have hmk : ¬ (m = k) := by omega
              have ew1 : IntKind.i64.wrap ((Rs.length : Int) - 1) = ((Rs.length - 1 : Nat) : Int) := by rw [IntWalk.i64_in _ (by omega)]; omega
              have ew2 : IntKind.i64.wrap (((Rs.length - 1 : Nat) : Int) - (k : Int)) = (m : Int) := by rw [IntWalk.i64_in _ (by omega)]; omega
              have HSw := Lib.hid (swapRw_perm (Q := Q) (i := k) (j := m) (by rw [HQl.out]; omega) (by rw [HQl.out]; omega))
              have c1 := HRI.out.cell k (by rw [HQl.out]; omega)
              have c2 := HRI.out.cell m (by rw [HQl.out]; omega)
              have f1 := HRI.out.free k
              have f2 := HRI.out.free m
              generalize Q.getD k M.rw0 = r1 at *
              generalize Q.getD m M.rw0 = r2 at *
              unfold rwV at c1 c2
              clear hm hk
              go_wp2_with fail
              go_region
              all_goals
                go_wp2_with fail
                go_roundw
                case rel => exact ⟨k + 1, (Q.set k r2).set m r1, by go_num, by omega, Lib.hid (by simp; exact HQl.out), Lib.hid (HSw.out.trans HPm.out), Lib.hid ((HRI.out.set k r2).set m r1), Lib.hid (((HB4.out.setCell (p := ⟨gT, k, none⟩) hgT _).setCell (p := ⟨gT, m, none⟩) hgT _).drew)⟩
                case measure => simp [intOf]; omega
            · obtain rfl : k = Rs.length / 2 := by omega
              have HLC4 := Lib.hid (HLC.out.below HB4.out)
              generalize wr = w4 at *
              go_wp2_with fail
              have HQA := Lib.hid (HRI.out.at_ (fun r hr => HEach.out _ HB4.out r (HPm.out.mem_iff.1 hr)))
              have CC := Lib.hid (allL11 Q (rsOk_perm HPm.out HOK.out) (M.mayR_perm HPm.out HM.out) (some ⟨gT, 0, none⟩) capT w4 HQA.out L (HMrg.out Q HPm.out) Rs.length HQl.out)
              go_wp2_with fail
              refine (CC.out).mono ?_
              rintro e w5 ⟨a5, c5, rfl, hk, hb⟩
              have HB5 := Lib.hid ((HB2.out.trans (HB4.out.mono HB2.out.size)).trans (hb.mono (HB2.out.trans (HB4.out.mono HB2.out.size)).size))
              have HLC5 := Lib.hid (HLC4.out.below hb)
              have HK5 := Lib.hid hk
              clear hk hb CC
              go_wp2_with fail
              refine (sameCells9_yes L L.length rfl _ _ _ _ (by omega) HLC5.out HK5.out).mono ?_
              rintro e w6 ⟨rfl, hb⟩
              replace HB5 := Lib.hid (HB5.out.trans (hb.mono HB5.out.size))
              replace HLC5 := Lib.hid (HLC5.out.below hb)
              clear hb
              have CS := Lib.hid (sorted9_any L (by omega) a2 c2 w6 HLC5.out HOkL.out)
              rw [HSrt.out] at CS
              go_wp2_with fail
              refine (CS.out).mono ?_
              rintro e w7 ⟨rfl, hb⟩
              replace HB5 := Lib.hid (HB5.out.trans (hb.mono HB5.out.size))
              clear hb
              go_wp2_with fail
              with_reducible refine (CD.out _).mono ?_
              rintro e w8 ⟨rfl, hb⟩
              replace HB5 := Lib.hid (HB5.out.trans (hb.mono HB5.out.size))
              clear hb
              go_wp2_with fail
              go_ret
              exact ⟨rfl, HB5.out⟩
        · have du : decide (u ≥ 128) = false := by rw [decide_eq_false_iff_not]; exact hu
          go_wp2_with fail
          have HQA := Lib.hid (HRI.out.at_ (fun r hr => HEach.out _ HB4.out r (HPm.out.mem_iff.1 hr)))
          have CC := Lib.hid (allL11 Q (rsOk_perm HPm.out HOK.out) (M.mayR_perm HPm.out HM.out) (some ⟨gT, 0, none⟩) capT w4 HQA.out L (HMrg.out Q HPm.out) Rs.length HQl.out)
          go_wp2_with fail
          refine (CC.out).mono ?_
          rintro e w5 ⟨a5, c5, rfl, hk, hb⟩
          have HB5 := Lib.hid ((HB2.out.trans (HB4.out.mono HB2.out.size)).trans (hb.mono (HB2.out.trans (HB4.out.mono HB2.out.size)).size))
          have HLC5 := Lib.hid (HLC4.out.below hb)
          have HK5 := Lib.hid hk
          clear hk hb CC
          go_wp2_with fail
          refine (sameCells9_yes L L.length rfl _ _ _ _ (by omega) HLC5.out HK5.out).mono ?_
          rintro e w6 ⟨rfl, hb⟩
          replace HB5 := Lib.hid (HB5.out.trans (hb.mono HB5.out.size))
          replace HLC5 := Lib.hid (HLC5.out.below hb)
          clear hb
          have CS := Lib.hid (sorted9_any L (by omega) a2 c2 w6 HLC5.out HOkL.out)
          rw [HSrt.out] at CS
          go_wp2_with fail
          refine (CS.out).mono ?_
          rintro e w7 ⟨rfl, hb⟩
          replace HB5 := Lib.hid (HB5.out.trans (hb.mono HB5.out.size))
          clear hb
          go_wp2_with fail
          with_reducible refine (CD.out _).mono ?_
          rintro e w8 ⟨rfl, hb⟩
          replace HB5 := Lib.hid (HB5.out.trans (hb.mono HB5.out.size))
          clear hb
          go_wp2_with fail
          go_ret
          exact ⟨rfl, HB5.out⟩
  · rw [if_neg hm] at ho2
    rw [if_neg hm, if_neg hm]
    have HB2 := Lib.hid hb2
    clear ho2 hb2 CA
    go_wp2_with fail
    with_reducible refine (CD.out _).mono ?_
    rintro e w3 ⟨rfl, hb3⟩
    replace HB2 := Lib.hid (HB2.out.trans (hb3.mono HB2.out.size))
    clear hb3
    go_wp2_with fail
    go_ret
    exact ⟨rfl, HB2.out⟩

end Go.Proofs.Ythidmgnfdikppaa
