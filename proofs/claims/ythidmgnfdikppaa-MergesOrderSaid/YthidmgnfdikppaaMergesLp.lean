/- Layer 11: MergesParts, walked. -/
import Derived.Test.YthidmgnfdikppaaMergePt
namespace Go.Proofs.Ythidmgnfdikppaa
set_option linter.unusedVariables false
open Go Go.RowKit
attribute [local go_sem ↓] run_index_S
attribute [local go_sem] S_append S_extract

theorem RwsAt.take {w : World} {ao : Option Addr} {Rs : List M.Rw} (h : RwsAt w ao Rs) (k : Nat) : RwsAt w ao (Rs.take k) := fun hn => by
  have hR : Rs ≠ [] := fun e => hn (by rw [e]; simp)
  obtain ⟨g, off, e, hc⟩ := h hR
  refine ⟨g, off, e, fun j hj => ?_⟩
  rw [List.length_take] at hj
  have := hc j (by omega)
  have e2 : (Rs.take k).getD j M.rw0 = Rs.getD j M.rw0 := by simp [List.getD, show j < k from by omega]
  rw [e2]; exact this
theorem RwsAt.drop {w : World} {ao : Option Addr} {Rs : List M.Rw} {cap : Nat} (h : RwsAt w ao Rs) (k : Nat) (hcap : Rs.length ≤ cap) : RwsAt w (if cap = k then ao else ao.map (fun a => a.add k)) (Rs.drop k) := fun hn => by
  have hR : Rs ≠ [] := fun e => hn (by rw [e]; simp)
  have hk : k < Rs.length := by
    rcases Nat.lt_or_ge k Rs.length with q | q
    · exact q
    · exact absurd (List.drop_eq_nil_of_le q) hn
  obtain ⟨g, off, e, hc⟩ := h hR
  refine ⟨g, off + k, by rw [if_neg (by omega), e]; simp [Addr.add_lit], fun j hj => ?_⟩
  rw [List.length_drop] at hj
  have := hc (k + j) (by omega)
  have e2 : (Rs.drop k).getD j M.rw0 = Rs.getD (k + j) M.rw0 := by simp [List.getD]
  rw [e2, show off + k + j = off + (k + j) from by omega]; exact this
theorem rwsAt_two {w : World} {r : Nat} {o1 o2 : Option Addr} {l1 l2 : List M.Cl} {k1 k2 : Nat} (h : RowIn #[.slice o1 l1.length k1, .slice o2 l2.length k2] 22 w r) (h1 : ClsAt w o1 l1) (h2 : ClsAt w o2 l2) : RwsAt w (some ⟨r, 0, none⟩) [⟨l1, o1, k1⟩, ⟨l2, o2, k2⟩] := fun _ =>
  ⟨r, 0, rfl, fun j hj => by
    match j, hj with
    | 0, _ => exact ⟨h.cell 0, h1⟩
    | 1, _ => exact ⟨h.cell 1, h2⟩
    | j + 2, hj => simp at hj; omega⟩
theorem allL11 (Rs : List M.Rw) (hR : RsOk Rs) (hm : M.mayR Rs = true) (ao : Option Addr) (cap : Nat) (w : World) (h : RwsAt w ao Rs) (K : List M.Cl) (hK : M.mrg (M.rls Rs) = K) (n : Nat) (hn : Rs.length = n) :
    Calls Try.prog 41 #[.slice ao n cap] w fun e w' => ∃ a c, e = .returned (.tuple #[.slice a K.length c, .int .i64 0]) ∧ ClsAt w' a K ∧ Below w.heap.size w w' := by
  subst hn
  refine (all11_any Rs hR ao cap w h).mono ?_
  rintro e w' ⟨a, c, e1, h1, h2⟩
  rw [if_pos hm, id, hK] at e1 h1
  rw [if_pos hm] at e1
  exact ⟨a, c, e1, clsAt_own h1 rfl, h2⟩
theorem newL11 (Rs : List M.Rw) (hR : RsOk Rs) (hm : M.mayR Rs = true) (ao : Option Addr) (cap : Nat) (w : World) (h : RwsAt w ao Rs) (K : List M.Cl) (hK : M.nw (M.mrg (M.rls Rs)) = K) (n : Nat) (hn : Rs.length = n) :
    Calls Try.prog 43 #[.slice ao n cap] w fun e w' => ∃ a c, e = .returned (.tuple #[.slice a K.length c, .int .i64 0]) ∧ ClsAt w' a K ∧ Below w.heap.size w w' := by
  subst hn
  refine (newest11_any Rs hR ao cap w h).mono ?_
  rintro e w' ⟨a, c, e1, h1, h2⟩
  rw [if_pos hm, hK] at e1 h1
  rw [if_pos hm] at e1
  exact ⟨a, c, e1, clsAt_own h1 rfl, h2⟩
/-- What is known of rows that are parted. -/
structure Pt11 (Rs : List M.Rw) (k : Nat) (L : List M.Cl) : Prop where
  ok1 : RsOk (Rs.take k)
  ok2 : RsOk (Rs.drop k)
  m1 : M.mayR (Rs.take k) = true
  m2 : M.mayR (Rs.drop k) = true
  okA : ∀ {o1 o2 : Option Addr} {k1 k2 : Nat}, RsOk [⟨M.mrg (M.rls (Rs.take k)), o1, k1⟩, ⟨M.mrg (M.rls (Rs.drop k)), o2, k2⟩]
  mA : ∀ {o1 o2 : Option Addr} {k1 k2 : Nat}, M.mayR [⟨M.mrg (M.rls (Rs.take k)), o1, k1⟩, ⟨M.mrg (M.rls (Rs.drop k)), o2, k2⟩] = true
  all : M.mrg [M.mrg (M.rls (Rs.take k)), M.mrg (M.rls (Rs.drop k))] = L
  okN : ∀ {o1 o2 : Option Addr} {k1 k2 : Nat}, RsOk [⟨M.nw (M.mrg (M.rls (Rs.take k))), o1, k1⟩, ⟨M.nw (M.mrg (M.rls (Rs.drop k))), o2, k2⟩]
  mN : ∀ {o1 o2 : Option Addr} {k1 k2 : Nat}, M.mayR [⟨M.nw (M.mrg (M.rls (Rs.take k))), o1, k1⟩, ⟨M.nw (M.mrg (M.rls (Rs.drop k))), o2, k2⟩] = true
  new : M.nw (M.mrg [M.nw (M.mrg (M.rls (Rs.take k))), M.nw (M.mrg (M.rls (Rs.drop k)))]) = M.nw L
theorem rsOk_two {l1 l2 : List M.Cl} {o1 o2 : Option Addr} {k1 k2 : Nat} (h1 : l1.length ≤ 1000) (h2 : l2.length ≤ 1000) (h3 : ∀ c, c ∈ l1 → ClOk c) (h4 : ∀ c, c ∈ l2 → ClOk c) : RsOk [⟨l1, o1, k1⟩, ⟨l2, o2, k2⟩] := by
  refine ⟨by simp, fun r hr => ?_, fun r hr => ?_, ?_⟩
  · simp only [List.mem_cons, List.not_mem_nil, or_false] at hr
    rcases hr with rfl | rfl
    · show l1.length ≤ _; omega
    · show l2.length ≤ _; omega
  · simp only [List.mem_cons, List.not_mem_nil, or_false] at hr
    rcases hr with rfl | rfl
    · exact h3
    · exact h4
  · simp; omega
theorem parts11 {Rs : List M.Rw} {k : Nat} {L : List M.Cl} (hR : RsOk Rs) (hm : M.mayR Rs = true) (hL : L = M.mrg (M.rls Rs)) (hs : M.srt none L = true) (ht : ((M.rls Rs).map List.length).sum ≤ 300) (hk : k ≤ Rs.length) : Pt11 Rs k L := by
  have e : M.rls (Rs.take k) ++ M.rls (Rs.drop k) = M.rls Rs := by unfold M.rls; rw [← List.map_append, List.take_append_drop]
  have hsum : ((M.rls (Rs.take k)).map List.length).sum + ((M.rls (Rs.drop k)).map List.length).sum ≤ 300 := by
    rw [← List.sum_append, ← List.map_append, e]; exact ht
  have hmem1 : ∀ r, r ∈ Rs.take k → r ∈ Rs := fun r hr => List.mem_of_mem_take hr
  have hmem2 : ∀ r, r ∈ Rs.drop k → r ∈ Rs := fun r hr => List.mem_of_mem_drop hr
  have hm1 : M.mayR (Rs.take k) = true := by
    unfold M.mayR at *
    rw [List.all_eq_true] at *
    exact fun r hr => hm r (hmem1 r hr)
  have hm2 : M.mayR (Rs.drop k) = true := by
    unfold M.mayR at *
    rw [List.all_eq_true] at *
    exact fun r hr => hm r (hmem2 r hr)
  have hP : M.Pts (M.rls (Rs.take k)) (M.rls (Rs.drop k)) := ⟨by rw [e]; exact M.mayR_pw hm, by rw [e, ← hL]; exact M.srt_pw hs⟩
  have ok : ∀ (Q : List M.Rw), (∀ r, r ∈ Q → r ∈ Rs) → ∀ c, c ∈ M.mrg (M.rls Q) → ClOk c := fun Q hQ c hc => by
    obtain ⟨l, h1, h2⟩ := M.mem_mrg.1 hc
    obtain ⟨r, hr, e⟩ := List.mem_map.1 h1
    exact hR.ok r (hQ r hr) c (e ▸ h2)
  have l1 : (M.mrg (M.rls (Rs.take k))).length ≤ 300 := by rw [M.mrg_len]; omega
  have l2 : (M.mrg (M.rls (Rs.drop k))).length ≤ 300 := by rw [M.mrg_len]; omega
  have n1 := M.nw_len (M.mrg (M.rls (Rs.take k)))
  have n2 := M.nw_len (M.mrg (M.rls (Rs.drop k)))
  have s1 : M.srt none (M.mrg (M.rls (Rs.take k))) = true := M.srt_of _ _ (M.mayR_may hm1) (fun q hq => by cases hq) hP.left
  have s2 : M.srt none (M.mrg (M.rls (Rs.drop k))) = true := M.srt_of _ _ (M.mayR_may hm2) (fun q hq => by cases hq) hP.right
  have a1 := (M.mrg_is (M.rls (Rs.take k))).asc (M.mayR_pw hm1)
  have a2 := (M.mrg_is (M.rls (Rs.drop k))).asc (M.mayR_pw hm2)
  have t1 := M.nw_srt a1 (M.mayR_may hm1)
  have t2 := M.nw_srt a2 (M.mayR_may hm2)
  have q1 : ((M.rls (Rs.take k)).map List.length).sum ≤ 300 := by omega
  have q2 : ((M.rls (Rs.drop k)).map List.length).sum ≤ 300 := by omega
  have b1 : (Rs.take k).length ≤ 1000 := by have := hR.n; simp; omega
  have b2 : (Rs.drop k).length ≤ 1000 := by have := hR.n; simp; omega
  unfold M.rls at q1 q2
  refine ⟨⟨b1, fun r hr => hR.len r (hmem1 r hr), fun r hr => hR.ok r (hmem1 r hr), by omega⟩, ⟨b2, fun r hr => hR.len r (hmem2 r hr), fun r hr => hR.ok r (hmem2 r hr), by omega⟩, hm1, hm2, ?_, ?_, ?_, ?_, ?_, ?_⟩
  · intro o1 o2 k1 k2
    exact rsOk_two (by omega) (by omega) (ok _ hmem1) (ok _ hmem2)
  · intro o1 o2 k1 k2
    simp [M.mayR, s1, s2]
  · rw [hP.all, e, hL]
  · intro o1 o2 k1 k2
    exact rsOk_two (by omega) (by omega) (fun c hc => ok _ hmem1 c (M.nw_mem hc)) (fun c hc => ok _ hmem2 c (M.nw_mem hc))
  · intro o1 o2 k1 k2
    simp [M.mayR, t1, t2]
  · rw [hP.new, e, hL]
theorem u8_wf11 {n : Int} (h : (Lit.int .u8 n).wf = true) : 0 ≤ n ∧ n ≤ 255 := by
  simp [Lit.wf, IntKind.min, IntKind.max, IntKind.signed, IntKind.bits] at h
  omega

set_option maxHeartbeats 8000000 in
set_option maxRecDepth 100000 in
theorem mergesParts_calls (W : World) (v : Value) (o : URs W v) (u : Int) (wu : (Lit.int .u8 u).wf = true) : Calls Try.prog 16 #[v, .int .u8 u] W fun e w' => e = .returned (.bool true) ∧ Below W.heap.size W w' := by
  obtain ⟨Rs, ao, cap, rfl, hn, hi, hcap, hA⟩ := o
  obtain ⟨hu0, hu1⟩ := u8_wf11 wu
  have CG := Lib.hid (great11_any Rs ao cap W hA hn hi)
  have CD := Lib.hid (fun V => does11_any V)
  have HA := Lib.hid hA
  have HI := Lib.hid hi
  clear hA hi
  go_enter Try.func16, Try.ntmps16
  go_wp2_with fail
  with_reducible refine (CG.out).mono ?_
  rintro e w1 ⟨he, rfl⟩
  rcases he with rfl | ⟨rfl, hsm⟩
  · go_wp2_with fail
    go_ret
    exact ⟨rfl, Below.refl _ _⟩
  have CA := Lib.hid (all11_any Rs (hsm.ok HI.out) ao cap W HA.out)
  have HSM := Lib.hid hsm
  have HOK := Lib.hid (hsm.ok HI.out)
  have hn20 := hsm.n
  clear hsm CG
  go_wp2_with fail
  with_reducible refine (CA.out).mono ?_
  rintro e w2 ⟨a2, c2, rfl, ho2, hb2⟩
  by_cases hm : M.mayR Rs = true
  · rw [if_pos hm] at ho2
    rw [if_pos hm, if_pos hm]
    simp only [id] at ho2 ⊢
    have HLC := Lib.hid (clsAt_own ho2 rfl)
    have HB2 := Lib.hid hb2
    have HA2 := Lib.hid (HA.out.below hb2)
    have hL300 : (M.mrg (M.rls Rs)).length ≤ 300 := by
      rw [M.mrg_len]; exact HSM.out.tot
    have HM := Lib.hid hm
    have CS := Lib.hid (sorted9_any (M.mrg (M.rls Rs)) (by omega) a2 c2 w2 (clsAt_own ho2 rfl) (fun c hc => by
      obtain ⟨l, h1, h2⟩ := M.mem_mrg.1 hc
      obtain ⟨r, hr, e⟩ := List.mem_map.1 h1
      exact HOK.out.ok r hr c (e ▸ h2)))
    obtain ⟨L, hL⟩ : ∃ L, L = M.mrg (M.rls Rs) := ⟨_, rfl⟩
    rw [← hL] at HLC hL300 CS ⊢
    have HL := Lib.hid hL
    clear hm ho2 hb2 CA hL
    go_wp2_with fail
    with_reducible refine (CS.out).mono ?_
    rintro e w3 ⟨rfl, hb3⟩
    replace HB2 := Lib.hid (HB2.out.trans (hb3.mono HB2.out.size))
    replace HA2 := Lib.hid (HA2.out.below hb3)
    replace HLC := Lib.hid (HLC.out.below hb3)
    clear hb3 CS
    cases hs : M.srt none L with
    | false =>
      go_wp2_with fail
      with_reducible refine (CD.out _).mono ?_
      rintro e w3 ⟨rfl, hb3⟩
      replace HB2 := Lib.hid (HB2.out.trans (hb3.mono HB2.out.size))
      clear hb3
      go_wp2_with fail
      go_ret
      exact ⟨rfl, HB2.out⟩
    | true =>
      have HS := Lib.hid hs
      obtain ⟨k, hk⟩ : ∃ k : Nat, k = u.toNat % (Rs.length + 1) := ⟨_, rfl⟩
      have hkl : k ≤ Rs.length := by have := Nat.mod_lt u.toNat (show Rs.length + 1 > 0 by omega); omega
      have ek : u.tmod ((Rs.length : Int) + 1) = (k : Int) := by
        rw [Int.tmod_eq_emod_of_nonneg hu0, hk]
        have h1 : (u.toNat : Int) = u := Int.toNat_of_nonneg hu0
        have h2 : ((u.toNat % (Rs.length + 1) : Nat) : Int) = (u.toNat : Int) % ((Rs.length + 1 : Nat) : Int) := Int.natCast_emod _ _
        rw [h2, h1]
        rfl
      have hz : ¬ ((Rs.length : Int) + 1 = 0) := by omega
      have hz2 : (((Rs.length : Int) + 1) == 0) = false := by rw [beq_eq_false_iff_ne]; omega
      have HP := Lib.hid (parts11 HOK.out HM.out HL.out HS.out HSM.out.tot hkl)
      have HCP := Lib.hid hcap
      clear hs hk
      by_cases hck : cap = k
      · obtain rfl : k = cap := hck.symm
        have HD := Lib.hid (fun (V : World) (_ : RwsAt V ao Rs) => (show RwsAt V ao (Rs.drop k) from fun hn => absurd (List.drop_eq_nil_of_le (HCP.out)) hn))
        have CC := Lib.hid (allL11 (Rs.take k) HP.out.ok1 HP.out.m1 ao k w3 (HA2.out.take k) (M.mrg (M.rls (Rs.take k))) rfl k (by simp; omega))
        go_wp2_with fail
        refine (CC.out).mono ?_
        rintro e w4 ⟨a4, c4, rfl, hk, hb⟩
        replace HB2 := Lib.hid (HB2.out.trans (hb.mono HB2.out.size))
        replace HA2 := Lib.hid (HA2.out.below hb)
        replace HLC := Lib.hid (HLC.out.below hb)
        have K4 := Lib.hid hk
        clear hk hb CC
        have CC := Lib.hid (allL11 (Rs.drop k) HP.out.ok2 HP.out.m2 ao 0 w4 (HD.out _ HA2.out) (M.mrg (M.rls (Rs.drop k))) rfl 0 (by simp; try omega))
        go_wp2_with fail
        refine (CC.out).mono ?_
        rintro e w5 ⟨a5, c5, rfl, hk, hb⟩
        replace HB2 := Lib.hid (HB2.out.trans (hb.mono HB2.out.size))
        replace HA2 := Lib.hid (HA2.out.below hb)
        replace HLC := Lib.hid (HLC.out.below hb)
        replace K4 := Lib.hid (K4.out.below hb)
        have K5 := Lib.hid hk
        clear hk hb CC
        have hal := (Below.refl w5.heap.size w5).alloc (Nat.le_refl _) (.cells #[.slice a4 (M.mrg (M.rls (Rs.take k))).length c4, .slice a5 (M.mrg (M.rls (Rs.drop k))).length c5] 22)
        have HR := Lib.hid (rwsAt_two (rowIn_new #[.slice a4 (M.mrg (M.rls (Rs.take k))).length c4, .slice a5 (M.mrg (M.rls (Rs.drop k))).length c5] 22 w5) (K4.out.below hal) (K5.out.below hal))
        replace HB2 := Lib.hid (HB2.out.trans (hal.mono HB2.out.size))
        replace HA2 := Lib.hid (HA2.out.below hal)
        replace HLC := Lib.hid (HLC.out.below hal)
        replace K4 := Lib.hid (K4.out.below hal)
        replace K5 := Lib.hid (K5.out.below hal)
        clear hal
        have CC := Lib.hid (allL11 _ HP.out.okA HP.out.mA _ 2 _ HR.out L HP.out.all 2 rfl)
        go_wp2_with fail
        refine (CC.out).mono ?_
        rintro e w6 ⟨a6, c6, rfl, hk, hb⟩
        replace HB2 := Lib.hid (HB2.out.trans (hb.mono HB2.out.size))
        replace HA2 := Lib.hid (HA2.out.below hb)
        replace HLC := Lib.hid (HLC.out.below hb)
        replace K4 := Lib.hid (K4.out.below hb)
        replace K5 := Lib.hid (K5.out.below hb)
        replace HR := Lib.hid (HR.out.below hb)
        have K6 := Lib.hid hk
        clear hk hb CC
        clear HR
        have CC := Lib.hid (newL11 (Rs.take k) HP.out.ok1 HP.out.m1 ao k w6 (HA2.out.take k) (M.nw (M.mrg (M.rls (Rs.take k)))) rfl k (by simp; omega))
        go_wp2_with fail
        refine (CC.out).mono ?_
        rintro e w7 ⟨a7, c7, rfl, hk, hb⟩
        replace HB2 := Lib.hid (HB2.out.trans (hb.mono HB2.out.size))
        replace HA2 := Lib.hid (HA2.out.below hb)
        replace HLC := Lib.hid (HLC.out.below hb)
        replace K4 := Lib.hid (K4.out.below hb)
        replace K5 := Lib.hid (K5.out.below hb)
        replace K6 := Lib.hid (K6.out.below hb)
        have K7 := Lib.hid hk
        clear hk hb CC
        have CC := Lib.hid (newL11 (Rs.drop k) HP.out.ok2 HP.out.m2 ao 0 w7 (HD.out _ HA2.out) (M.nw (M.mrg (M.rls (Rs.drop k)))) rfl 0 (by simp; try omega))
        go_wp2_with fail
        refine (CC.out).mono ?_
        rintro e w8 ⟨a8, c8, rfl, hk, hb⟩
        replace HB2 := Lib.hid (HB2.out.trans (hb.mono HB2.out.size))
        replace HA2 := Lib.hid (HA2.out.below hb)
        replace HLC := Lib.hid (HLC.out.below hb)
        replace K4 := Lib.hid (K4.out.below hb)
        replace K5 := Lib.hid (K5.out.below hb)
        replace K6 := Lib.hid (K6.out.below hb)
        replace K7 := Lib.hid (K7.out.below hb)
        have K8 := Lib.hid hk
        clear hk hb CC
        have hal := (Below.refl w8.heap.size w8).alloc (Nat.le_refl _) (.cells #[.slice a7 (M.nw (M.mrg (M.rls (Rs.take k)))).length c7, .slice a8 (M.nw (M.mrg (M.rls (Rs.drop k)))).length c8] 22)
        have HR := Lib.hid (rwsAt_two (rowIn_new #[.slice a7 (M.nw (M.mrg (M.rls (Rs.take k)))).length c7, .slice a8 (M.nw (M.mrg (M.rls (Rs.drop k)))).length c8] 22 w8) (K7.out.below hal) (K8.out.below hal))
        replace HB2 := Lib.hid (HB2.out.trans (hal.mono HB2.out.size))
        replace HA2 := Lib.hid (HA2.out.below hal)
        replace HLC := Lib.hid (HLC.out.below hal)
        replace K4 := Lib.hid (K4.out.below hal)
        replace K5 := Lib.hid (K5.out.below hal)
        replace K6 := Lib.hid (K6.out.below hal)
        replace K7 := Lib.hid (K7.out.below hal)
        replace K8 := Lib.hid (K8.out.below hal)
        clear hal
        have CC := Lib.hid (newL11 _ HP.out.okN HP.out.mN _ 2 _ HR.out (M.nw L) HP.out.new 2 rfl)
        go_wp2_with fail
        refine (CC.out).mono ?_
        rintro e w9 ⟨a9, c9, rfl, hk, hb⟩
        replace HB2 := Lib.hid (HB2.out.trans (hb.mono HB2.out.size))
        replace HA2 := Lib.hid (HA2.out.below hb)
        replace HLC := Lib.hid (HLC.out.below hb)
        replace K4 := Lib.hid (K4.out.below hb)
        replace K5 := Lib.hid (K5.out.below hb)
        replace K6 := Lib.hid (K6.out.below hb)
        replace K7 := Lib.hid (K7.out.below hb)
        replace K8 := Lib.hid (K8.out.below hb)
        replace HR := Lib.hid (HR.out.below hb)
        have K9 := Lib.hid hk
        clear hk hb CC
        clear HR
        have CC := Lib.hid (newL11 Rs HOK.out HM.out ao k w9 HA2.out (M.nw L) (by rw [HL.out]) Rs.length rfl)
        go_wp2_with fail
        refine (CC.out).mono ?_
        rintro e w10 ⟨a10, c10, rfl, hk, hb⟩
        replace HB2 := Lib.hid (HB2.out.trans (hb.mono HB2.out.size))
        replace HA2 := Lib.hid (HA2.out.below hb)
        replace HLC := Lib.hid (HLC.out.below hb)
        replace K4 := Lib.hid (K4.out.below hb)
        replace K5 := Lib.hid (K5.out.below hb)
        replace K6 := Lib.hid (K6.out.below hb)
        replace K7 := Lib.hid (K7.out.below hb)
        replace K8 := Lib.hid (K8.out.below hb)
        replace K9 := Lib.hid (K9.out.below hb)
        have KA := Lib.hid hk
        clear hk hb CC
        go_wp2_with fail
        refine (sameCells9_yes L L.length rfl _ _ _ _ (by omega) K6.out HLC.out).mono ?_
        rintro e w11 ⟨rfl, hb⟩
        replace HB2 := Lib.hid (HB2.out.trans (hb.mono HB2.out.size))
        replace HA2 := Lib.hid (HA2.out.below hb)
        replace HLC := Lib.hid (HLC.out.below hb)
        replace K4 := Lib.hid (K4.out.below hb)
        replace K5 := Lib.hid (K5.out.below hb)
        replace K6 := Lib.hid (K6.out.below hb)
        replace K7 := Lib.hid (K7.out.below hb)
        replace K8 := Lib.hid (K8.out.below hb)
        replace K9 := Lib.hid (K9.out.below hb)
        replace KA := Lib.hid (KA.out.below hb)
        clear hb
        go_wp2_with fail
        refine (sameCells9_yes (M.nw L) (M.nw L).length rfl _ _ _ _ (by have := M.nw_len L; omega) K9.out KA.out).mono ?_
        rintro e w12 ⟨rfl, hb⟩
        replace HB2 := Lib.hid (HB2.out.trans (hb.mono HB2.out.size))
        replace HA2 := Lib.hid (HA2.out.below hb)
        replace HLC := Lib.hid (HLC.out.below hb)
        replace K4 := Lib.hid (K4.out.below hb)
        replace K5 := Lib.hid (K5.out.below hb)
        replace K6 := Lib.hid (K6.out.below hb)
        replace K7 := Lib.hid (K7.out.below hb)
        replace K8 := Lib.hid (K8.out.below hb)
        replace K9 := Lib.hid (K9.out.below hb)
        replace KA := Lib.hid (KA.out.below hb)
        clear hb
        go_wp2_with fail
        with_reducible refine (CD.out _).mono ?_
        rintro e w13 ⟨rfl, hb3⟩
        replace HB2 := Lib.hid (HB2.out.trans (hb3.mono HB2.out.size))
        clear hb3
        go_wp2_with fail
        go_ret
        exact ⟨rfl, HB2.out⟩
      · have HD := Lib.hid (fun (V : World) (h : RwsAt V ao Rs) => (show RwsAt V (Option.map (fun x => x.add k) ao) (Rs.drop k) from by have := h.drop k HCP.out; rwa [if_neg hck] at this))
        have CC := Lib.hid (allL11 (Rs.take k) HP.out.ok1 HP.out.m1 ao cap w3 (HA2.out.take k) (M.mrg (M.rls (Rs.take k))) rfl k (by simp; omega))
        go_wp2_with fail
        refine (CC.out).mono ?_
        rintro e w4 ⟨a4, c4, rfl, hk, hb⟩
        replace HB2 := Lib.hid (HB2.out.trans (hb.mono HB2.out.size))
        replace HA2 := Lib.hid (HA2.out.below hb)
        replace HLC := Lib.hid (HLC.out.below hb)
        have K4 := Lib.hid hk
        clear hk hb CC
        have CC := Lib.hid (allL11 (Rs.drop k) HP.out.ok2 HP.out.m2 (Option.map (fun x => x.add k) ao) (cap - k) w4 (HD.out _ HA2.out) (M.mrg (M.rls (Rs.drop k))) rfl (Rs.length - k) (by simp; try omega))
        go_wp2_with fail
        refine (CC.out).mono ?_
        rintro e w5 ⟨a5, c5, rfl, hk, hb⟩
        replace HB2 := Lib.hid (HB2.out.trans (hb.mono HB2.out.size))
        replace HA2 := Lib.hid (HA2.out.below hb)
        replace HLC := Lib.hid (HLC.out.below hb)
        replace K4 := Lib.hid (K4.out.below hb)
        have K5 := Lib.hid hk
        clear hk hb CC
        have hal := (Below.refl w5.heap.size w5).alloc (Nat.le_refl _) (.cells #[.slice a4 (M.mrg (M.rls (Rs.take k))).length c4, .slice a5 (M.mrg (M.rls (Rs.drop k))).length c5] 22)
        have HR := Lib.hid (rwsAt_two (rowIn_new #[.slice a4 (M.mrg (M.rls (Rs.take k))).length c4, .slice a5 (M.mrg (M.rls (Rs.drop k))).length c5] 22 w5) (K4.out.below hal) (K5.out.below hal))
        replace HB2 := Lib.hid (HB2.out.trans (hal.mono HB2.out.size))
        replace HA2 := Lib.hid (HA2.out.below hal)
        replace HLC := Lib.hid (HLC.out.below hal)
        replace K4 := Lib.hid (K4.out.below hal)
        replace K5 := Lib.hid (K5.out.below hal)
        clear hal
        have CC := Lib.hid (allL11 _ HP.out.okA HP.out.mA _ 2 _ HR.out L HP.out.all 2 rfl)
        go_wp2_with fail
        refine (CC.out).mono ?_
        rintro e w6 ⟨a6, c6, rfl, hk, hb⟩
        replace HB2 := Lib.hid (HB2.out.trans (hb.mono HB2.out.size))
        replace HA2 := Lib.hid (HA2.out.below hb)
        replace HLC := Lib.hid (HLC.out.below hb)
        replace K4 := Lib.hid (K4.out.below hb)
        replace K5 := Lib.hid (K5.out.below hb)
        replace HR := Lib.hid (HR.out.below hb)
        have K6 := Lib.hid hk
        clear hk hb CC
        clear HR
        have CC := Lib.hid (newL11 (Rs.take k) HP.out.ok1 HP.out.m1 ao cap w6 (HA2.out.take k) (M.nw (M.mrg (M.rls (Rs.take k)))) rfl k (by simp; omega))
        go_wp2_with fail
        refine (CC.out).mono ?_
        rintro e w7 ⟨a7, c7, rfl, hk, hb⟩
        replace HB2 := Lib.hid (HB2.out.trans (hb.mono HB2.out.size))
        replace HA2 := Lib.hid (HA2.out.below hb)
        replace HLC := Lib.hid (HLC.out.below hb)
        replace K4 := Lib.hid (K4.out.below hb)
        replace K5 := Lib.hid (K5.out.below hb)
        replace K6 := Lib.hid (K6.out.below hb)
        have K7 := Lib.hid hk
        clear hk hb CC
        have CC := Lib.hid (newL11 (Rs.drop k) HP.out.ok2 HP.out.m2 (Option.map (fun x => x.add k) ao) (cap - k) w7 (HD.out _ HA2.out) (M.nw (M.mrg (M.rls (Rs.drop k)))) rfl (Rs.length - k) (by simp; try omega))
        go_wp2_with fail
        refine (CC.out).mono ?_
        rintro e w8 ⟨a8, c8, rfl, hk, hb⟩
        replace HB2 := Lib.hid (HB2.out.trans (hb.mono HB2.out.size))
        replace HA2 := Lib.hid (HA2.out.below hb)
        replace HLC := Lib.hid (HLC.out.below hb)
        replace K4 := Lib.hid (K4.out.below hb)
        replace K5 := Lib.hid (K5.out.below hb)
        replace K6 := Lib.hid (K6.out.below hb)
        replace K7 := Lib.hid (K7.out.below hb)
        have K8 := Lib.hid hk
        clear hk hb CC
        have hal := (Below.refl w8.heap.size w8).alloc (Nat.le_refl _) (.cells #[.slice a7 (M.nw (M.mrg (M.rls (Rs.take k)))).length c7, .slice a8 (M.nw (M.mrg (M.rls (Rs.drop k)))).length c8] 22)
        have HR := Lib.hid (rwsAt_two (rowIn_new #[.slice a7 (M.nw (M.mrg (M.rls (Rs.take k)))).length c7, .slice a8 (M.nw (M.mrg (M.rls (Rs.drop k)))).length c8] 22 w8) (K7.out.below hal) (K8.out.below hal))
        replace HB2 := Lib.hid (HB2.out.trans (hal.mono HB2.out.size))
        replace HA2 := Lib.hid (HA2.out.below hal)
        replace HLC := Lib.hid (HLC.out.below hal)
        replace K4 := Lib.hid (K4.out.below hal)
        replace K5 := Lib.hid (K5.out.below hal)
        replace K6 := Lib.hid (K6.out.below hal)
        replace K7 := Lib.hid (K7.out.below hal)
        replace K8 := Lib.hid (K8.out.below hal)
        clear hal
        have CC := Lib.hid (newL11 _ HP.out.okN HP.out.mN _ 2 _ HR.out (M.nw L) HP.out.new 2 rfl)
        go_wp2_with fail
        refine (CC.out).mono ?_
        rintro e w9 ⟨a9, c9, rfl, hk, hb⟩
        replace HB2 := Lib.hid (HB2.out.trans (hb.mono HB2.out.size))
        replace HA2 := Lib.hid (HA2.out.below hb)
        replace HLC := Lib.hid (HLC.out.below hb)
        replace K4 := Lib.hid (K4.out.below hb)
        replace K5 := Lib.hid (K5.out.below hb)
        replace K6 := Lib.hid (K6.out.below hb)
        replace K7 := Lib.hid (K7.out.below hb)
        replace K8 := Lib.hid (K8.out.below hb)
        replace HR := Lib.hid (HR.out.below hb)
        have K9 := Lib.hid hk
        clear hk hb CC
        clear HR
        have CC := Lib.hid (newL11 Rs HOK.out HM.out ao cap w9 HA2.out (M.nw L) (by rw [HL.out]) Rs.length rfl)
        go_wp2_with fail
        refine (CC.out).mono ?_
        rintro e w10 ⟨a10, c10, rfl, hk, hb⟩
        replace HB2 := Lib.hid (HB2.out.trans (hb.mono HB2.out.size))
        replace HA2 := Lib.hid (HA2.out.below hb)
        replace HLC := Lib.hid (HLC.out.below hb)
        replace K4 := Lib.hid (K4.out.below hb)
        replace K5 := Lib.hid (K5.out.below hb)
        replace K6 := Lib.hid (K6.out.below hb)
        replace K7 := Lib.hid (K7.out.below hb)
        replace K8 := Lib.hid (K8.out.below hb)
        replace K9 := Lib.hid (K9.out.below hb)
        have KA := Lib.hid hk
        clear hk hb CC
        go_wp2_with fail
        refine (sameCells9_yes L L.length rfl _ _ _ _ (by omega) K6.out HLC.out).mono ?_
        rintro e w11 ⟨rfl, hb⟩
        replace HB2 := Lib.hid (HB2.out.trans (hb.mono HB2.out.size))
        replace HA2 := Lib.hid (HA2.out.below hb)
        replace HLC := Lib.hid (HLC.out.below hb)
        replace K4 := Lib.hid (K4.out.below hb)
        replace K5 := Lib.hid (K5.out.below hb)
        replace K6 := Lib.hid (K6.out.below hb)
        replace K7 := Lib.hid (K7.out.below hb)
        replace K8 := Lib.hid (K8.out.below hb)
        replace K9 := Lib.hid (K9.out.below hb)
        replace KA := Lib.hid (KA.out.below hb)
        clear hb
        go_wp2_with fail
        refine (sameCells9_yes (M.nw L) (M.nw L).length rfl _ _ _ _ (by have := M.nw_len L; omega) K9.out KA.out).mono ?_
        rintro e w12 ⟨rfl, hb⟩
        replace HB2 := Lib.hid (HB2.out.trans (hb.mono HB2.out.size))
        replace HA2 := Lib.hid (HA2.out.below hb)
        replace HLC := Lib.hid (HLC.out.below hb)
        replace K4 := Lib.hid (K4.out.below hb)
        replace K5 := Lib.hid (K5.out.below hb)
        replace K6 := Lib.hid (K6.out.below hb)
        replace K7 := Lib.hid (K7.out.below hb)
        replace K8 := Lib.hid (K8.out.below hb)
        replace K9 := Lib.hid (K9.out.below hb)
        replace KA := Lib.hid (KA.out.below hb)
        clear hb
        go_wp2_with fail
        with_reducible refine (CD.out _).mono ?_
        rintro e w13 ⟨rfl, hb3⟩
        replace HB2 := Lib.hid (HB2.out.trans (hb3.mono HB2.out.size))
        clear hb3
        go_wp2_with fail
        go_ret
        exact ⟨rfl, HB2.out⟩
  · rw [if_neg hm] at ho2
    rw [if_neg hm, if_neg hm]
    have HB2 := Lib.hid hb2
    clear ho2 hb2 CA
    go_wp2_with fail
    with_reducible refine (CD.out _).mono ?_
    rintro e w3 ⟨rfl, hb3⟩
    replace HB2 := Lib.hid (HB2.out.trans (hb3.mono HB2.out.size))
    clear hb3
    go_wp2_with fail
    go_ret
    exact ⟨rfl, HB2.out⟩

end Go.Proofs.Ythidmgnfdikppaa
