/- Layer 11: MergesAll, walked. -/
import Derived.Test.YthidmgnfdikppaaMergesRb
import Derived.Test.YthidmgnfdikppaaMergesTw
namespace Go.Proofs.Ythidmgnfdikppaa
set_option linter.unusedVariables false
open Go Go.RowKit
attribute [local go_sem ↓] run_index_S
attribute [local go_sem] S_append S_extract

/-- What rows' cells may be told by: a list and an errno. -/
structure Out11 (f : List M.Cl → List M.Cl) (R : List (List M.Cl)) (may : Bool) (K : List M.Cl) (er : Int) : Prop where
  yes : may = true → K = f (M.mrg R) ∧ er = 0
  no : may = false → K = [] ∧ er = 2
theorem out11_ex (f : List M.Cl → List M.Cl) (R : List (List M.Cl)) (may : Bool) : ∃ K er, Out11 f R may K er := by
  cases may with
  | false => exact ⟨[], 2, by simp, by simp⟩
  | true => exact ⟨f (M.mrg R), 0, by simp, by simp⟩
theorem out11_of {f : List M.Cl → List M.Cl} {Rs : List M.Rw} {w w' : World} {e : Ending} {K : List M.Cl} {er : Int} (h : AllR f Rs w e w') {R : List (List M.Cl)} (hR : M.rls Rs = R) {may : Bool} (hm : M.mayR Rs = may) (ho : Out11 f R may K er) :
    ∃ a c, e = .returned (.tuple #[.slice a K.length c, .int .i64 er]) ∧ ClsAt w' a K ∧ Below w.heap.size w w' := by
  obtain ⟨a, c, e1, h1, h2⟩ := h
  subst hR
  cases hb : may with
  | false =>
    rw [hb] at hm ho
    obtain ⟨e3, e4⟩ := ho.no rfl
    subst e3 e4
    rw [if_neg (by rw [hm]; simp), if_neg (by rw [hm]; simp)] at e1
    exact ⟨a, c, e1, clsAt_nil _ _, h2⟩
  | true =>
    rw [hb] at hm ho
    obtain ⟨e3, e4⟩ := ho.yes rfl
    subst e3 e4
    rw [if_pos hm, if_pos hm] at e1
    rw [if_pos hm] at h1
    exact ⟨a, c, e1, clsAt_own h1 rfl, h2⟩
theorem M.mayR_rls (Rs : List M.Rw) : M.mayR Rs = (M.rls Rs).all (fun l => M.srt none l) := by
  unfold M.mayR M.rls
  rw [List.all_map]
  rfl
theorem M.mayR_same {Rs Ts : List M.Rw} (h : M.rls Ts = M.rls Rs) : M.mayR Ts = M.mayR Rs := by rw [M.mayR_rls, M.mayR_rls, h]
theorem rls_mem {Rs : List M.Rw} {r : M.Rw} (h : r ∈ Rs) : r.l ∈ M.rls Rs := List.mem_map.2 ⟨r, h, rfl⟩
theorem RsOk.same {Rs Ts : List M.Rw} (h : RsOk Rs) (e : M.rls Ts = M.rls Rs) : RsOk Ts := by
  have hx : ∀ r, r ∈ Ts → ∃ q, q ∈ Rs ∧ q.l = r.l := fun r hr => by
    have := rls_mem hr
    rw [e] at this
    obtain ⟨q, hq, e⟩ := List.mem_map.1 this
    exact ⟨q, hq, e⟩
  refine ⟨?_, fun r hr => ?_, fun r hr => ?_, ?_⟩
  · have := congrArg List.length e
    simp only [M.rls, List.length_map] at this
    rw [this]; exact h.n
  · obtain ⟨q, hq, e⟩ := hx r hr
    rw [← e]; exact h.len q hq
  · obtain ⟨q, hq, e⟩ := hx r hr
    rw [← e]; exact h.ok q hq
  · have := h.tot
    unfold M.rls at e
    rw [← e] at this
    exact this
set_option maxHeartbeats 8000000 in
set_option maxRecDepth 100000 in
theorem mergesAll_calls (W : World) (v : Value) (o : URs W v) : Calls Try.prog 11 #[v] W fun e w' => e = .returned (.bool true) ∧ Below W.heap.size W w' := by
  obtain ⟨Rs, ao, cap, rfl, hn, hi, hcap, hA⟩ := o
  have CG := Lib.hid (great11_any Rs ao cap W hA hn hi)
  have CD := Lib.hid (fun V => does11_any V)
  have HA := Lib.hid hA
  have HI := Lib.hid hi
  clear hA hi
  go_enter Try.func11, Try.ntmps11
  go_wp2_with fail
  with_reducible refine (CG.out).mono ?_
  rintro e w1 ⟨he, rfl⟩
  rcases he with rfl | ⟨rfl, hsm⟩
  · go_wp2_with fail
    go_ret
    exact ⟨rfl, Below.refl _ _⟩
  have CT := Lib.hid (twins11_any Rs hsm ao cap W HA.out)
  have HSM := Lib.hid hsm
  have HOK := Lib.hid (hsm.ok HI.out)
  have hn20 := hsm.n
  clear hsm CG
  obtain ⟨may, hmay⟩ : ∃ b, b = M.mayR Rs := ⟨_, rfl⟩
  obtain ⟨R, hR⟩ : ∃ R, R = M.rls Rs := ⟨_, rfl⟩
  obtain ⟨K, er, hK⟩ := out11_ex id R may
  obtain ⟨K2, er2, hK2⟩ := out11_ex M.nw R may
  have hKl : K.length ≤ 300 := by
    cases hb : may with
    | false => rw [(hK.no hb).1]; simp
    | true => rw [(hK.yes hb).1, hR]; show (M.mrg (M.rls Rs)).length ≤ 300; rw [M.mrg_len]; exact HSM.out.tot
  have hKl2 : K2.length ≤ 300 := by
    cases hb : may with
    | false => rw [(hK2.no hb).1]; simp
    | true =>
      rw [(hK2.yes hb).1, hR]
      have h1 := M.nw_len (M.mrg (M.rls Rs))
      have h2 := HSM.out.tot
      rw [M.mrg_len] at h1
      omega
  go_wp2_with fail
  with_reducible refine (CT.out).mono ?_
  rintro e w2 ⟨Ts, to, tc, rfl, hTl, hT, hb⟩
  have HB := Lib.hid hb
  have HT := Lib.hid hT
  have HA2 := Lib.hid (HA.out.below hb)
  have HTL := Lib.hid hTl
  have HTS := Lib.hid hT.same
  have HTOK := Lib.hid (HOK.out.same hT.same)
  clear hb hT hTl CT
  have HKK := Lib.hid (And.intro hK (And.intro hK2 (And.intro hR hmay)))
  clear hK hK2 hR hmay
  have C := Lib.hid ((show Calls Try.prog 41 #[.slice to Rs.length tc] w2 (AllR id Ts w2) from by have := all11_any Ts HTOK.out to tc w2 HT.out.at_; rwa [HTL.out] at this))
  go_wp2_with fail
  refine (C.out).mono ?_
  intro e w3 hh
  obtain ⟨a3, c3, rfl, hk, hb⟩ := out11_of hh (HTS.out.trans HKK.out.2.2.1.symm) ((M.mayR_same HTS.out).trans HKK.out.2.2.2.symm) HKK.out.1
  replace HB := Lib.hid (HB.out.trans (hb.mono HB.out.size))
  replace HT := Lib.hid (HT.out.below hb)
  replace HA2 := Lib.hid (HA2.out.below hb)
  have Kw3 := Lib.hid hk
  clear hk hb C hh
  have C := Lib.hid (refAll11_any Rs HOK.out ao cap w3 HA2.out)
  go_wp2_with fail
  refine (C.out).mono ?_
  intro e w4 hh
  obtain ⟨a4, c4, rfl, hk, hb⟩ := out11_of hh HKK.out.2.2.1.symm HKK.out.2.2.2.symm HKK.out.1
  replace HB := Lib.hid (HB.out.trans (hb.mono HB.out.size))
  replace HT := Lib.hid (HT.out.below hb)
  replace HA2 := Lib.hid (HA2.out.below hb)
  replace Kw3 := Lib.hid (Kw3.out.below hb)
  have Kw4 := Lib.hid hk
  clear hk hb C hh
  have C := Lib.hid ((show Calls Try.prog 43 #[.slice to Rs.length tc] w4 (AllR M.nw Ts w4) from by have := newest11_any Ts HTOK.out to tc w4 HT.out.at_; rwa [HTL.out] at this))
  go_wp2_with fail
  refine (C.out).mono ?_
  intro e w5 hh
  obtain ⟨a5, c5, rfl, hk, hb⟩ := out11_of hh (HTS.out.trans HKK.out.2.2.1.symm) ((M.mayR_same HTS.out).trans HKK.out.2.2.2.symm) HKK.out.2.1
  replace HB := Lib.hid (HB.out.trans (hb.mono HB.out.size))
  replace HT := Lib.hid (HT.out.below hb)
  replace HA2 := Lib.hid (HA2.out.below hb)
  replace Kw3 := Lib.hid (Kw3.out.below hb)
  replace Kw4 := Lib.hid (Kw4.out.below hb)
  have Kw5 := Lib.hid hk
  clear hk hb C hh
  have C := Lib.hid (refNewest11_any Rs HOK.out ao cap w5 HA2.out)
  go_wp2_with fail
  refine (C.out).mono ?_
  intro e w6 hh
  obtain ⟨a6, c6, rfl, hk, hb⟩ := out11_of hh HKK.out.2.2.1.symm HKK.out.2.2.2.symm HKK.out.2.1
  replace HB := Lib.hid (HB.out.trans (hb.mono HB.out.size))
  replace HT := Lib.hid (HT.out.below hb)
  replace HA2 := Lib.hid (HA2.out.below hb)
  replace Kw3 := Lib.hid (Kw3.out.below hb)
  replace Kw4 := Lib.hid (Kw4.out.below hb)
  replace Kw5 := Lib.hid (Kw5.out.below hb)
  have Kw6 := Lib.hid hk
  clear hk hb C hh
  go_wp2_with fail
  refine (sameCells9_yes K K.length rfl _ _ _ _ (by omega) Kw3.out Kw4.out).mono ?_
  rintro e w7 ⟨rfl, hb⟩
  replace HB := Lib.hid (HB.out.trans (hb.mono HB.out.size))
  replace HT := Lib.hid (HT.out.below hb)
  replace HA2 := Lib.hid (HA2.out.below hb)
  replace Kw5 := Lib.hid (Kw5.out.below hb)
  replace Kw6 := Lib.hid (Kw6.out.below hb)
  clear hb
  go_wp2_with fail
  refine (sameCells9_yes K2 K2.length rfl _ _ _ _ (by omega) Kw5.out Kw6.out).mono ?_
  rintro e w8 ⟨rfl, hb⟩
  replace HB := Lib.hid (HB.out.trans (hb.mono HB.out.size))
  replace HT := Lib.hid (HT.out.below hb)
  replace HA2 := Lib.hid (HA2.out.below hb)
  clear hb
  have CL := Lib.hid (left11_any Rs Ts HSM.out HTL.out _ ao to cap tc Rs.length rfl w8 HA2.out HT.out)
  go_wp2_with fail
  with_reducible refine (CL.out).mono ?_
  rintro e w9 ⟨rfl, hb⟩
  replace HB := Lib.hid (HB.out.trans (hb.mono HB.out.size))
  clear hb
  go_wp2_with fail
  with_reducible refine (CD.out _).mono ?_
  rintro e w10 ⟨rfl, hb⟩
  replace HB := Lib.hid (HB.out.trans (hb.mono HB.out.size))
  clear hb
  go_wp2_with fail
  go_ret
  exact ⟨rfl, HB.out⟩

end Go.Proofs.Ythidmgnfdikppaa
