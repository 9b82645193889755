/- Layer 11: heap.down, by a contract. -/
import Derived.Test.YthidmgnfdikppaaMergesF
namespace Go.Proofs.Ythidmgnfdikppaa
set_option linter.unusedVariables false
open Go Go.RowKit
attribute [local go_sem ↓] run_index_S
attribute [local go_sem] S_append S_extract

set_option maxHeartbeats 4000000 in
set_option maxRecDepth 100000 in
theorem down11_any (B bi g n cap m : Nat) (H : List M.Hd) (w : World) (hv : Hv B bi g n cap H w) (hm : m ≤ n) (hn : n ≤ 1000000) (hu : M.DnI H m 0) :
    Calls Try.prog 128 #[.iface 129 (.pointer (some ⟨bi, 0, none⟩)), .int .i64 0, .int .i64 m] w fun e w' => (∃ b, e = .returned (.bool b)) ∧ ∃ H', H'.Perm H ∧ M.Hp H' m ∧ Hv B bi g n cap H' w' ∧ w.grownBy w' (some g) ∧ ∀ i, m ≤ i → M.hAt H' i = M.hAt H i := by
  have HU := Lib.hid hu
  have HV := Lib.hid hv
  clear hu hv
  go_enter Try.func128, Try.ntmps128
  go_wp2_with fail
  go_loopw [7] (fun vj wr => ∃ (k : Nat) (K : List M.Hd), vj = .int .i64 k ∧ k ≤ m ∧ Hid (K.Perm H) ∧ Hid (M.DnI K m k) ∧ Hid (Hv B bi g n cap K wr) ∧ Hid (w.grownBy wr (some g)) ∧ Hid (∀ i, m ≤ i → M.hAt K i = M.hAt H i)) (fun vj _ => m - (intOf vj).toNat)
  case atStart => exact ⟨0, H, rfl, Nat.zero_le _, Lib.hid (List.Perm.refl _), HU, HV, Lib.hid (World.grownBy.refl _ _), Lib.hid (fun _ _ => rfl)⟩
  case round =>
    obtain ⟨k, K, rfl, hk, HP, HD, HV, HG, HT⟩ := hrel
    have e1 : 2 * (k : Int) + 1 = ((2 * k + 1 : Nat) : Int) := by omega
    obtain ⟨c, hc⟩ : ∃ c, c = 2 * k + 1 := ⟨_, rfl⟩
    rw [← hc] at e1
    have hcb : c ≤ 3000000 := by omega
    by_cases hcm : m ≤ c
    · have d1 : decide (c < m) = false := by simp; omega
      have HP1 := Lib.hid (HD.out.done (fun i h0 hi hp => by omega))
      clear hc
      have hcn : ¬ (c < m) := by omega
      go_wp2_with fail
      go_ret
      exact ⟨⟨_, rfl⟩, K, HP.out, HP1.out, HV.out, HG.out, HT.out⟩
    · have d1 : decide (c < m) = true := by simp; omega
      have d2 : decide ((c : Int) < 0) = false := by simp
      have e2 : (c : Int) + 1 = ((c + 1 : Nat) : Int) := by omega
      obtain ⟨d, hd⟩ : ∃ d, d = c + 1 := ⟨_, rfl⟩
      rw [← hd] at e2
      have hdb : d ≤ 3000001 := by omega
      have HCD := Lib.hid (And.intro hc hd)
      clear hc hd
      by_cases h2 : d < m
      · have d3 : decide (d < m) = true := by simp; omega
        have HL := Lib.hid (HV.out.less (i := d) (j := c) hn (by omega) (by omega))
        have m1 := meth_less11 HV.out.cell
        go_wp2_with fail
        with_reducible refine (HL.out).mono ?_
        rintro e w1 ⟨rfl, hv1, hg1⟩
        have HV1 := Lib.hid hv1
        have HG1 := Lib.hid (HG.out.trans hg1)
        clear hv1 hg1 HL m1
        cases ha : M.hLess (M.hAt K d) (M.hAt K c) with
        | true =>
          obtain ⟨hc, hd⟩ := HCD.out
          have h0q : 0 < d := by omega
          have HPQ := Lib.hid (show (d - 1) / 2 = k from by omega)
          have HMIN := Lib.hid (show ∀ i, 0 < i → i < m → (i - 1) / 2 = k → M.hLess (M.hAt K i) (M.hAt K d) = false from fun i h0 hi hp => by
            rcases (by omega : i = c ∨ i = d) with e | e
            · rw [e]; exact M.hLess_le ha
            · rw [e]; exact M.hLess_irr _)
          clear ha hc hd
          have HC := Lib.hid (HV1.out.less (i := d) (j := k) hn (by omega) (by omega))
          have m3 := meth_less11 HV1.out.cell
          go_wp2_with fail
          with_reducible refine (HC.out).mono ?_
          rintro e w2 ⟨rfl, hv2, hg2⟩
          have HV2 := Lib.hid hv2
          have HG2 := Lib.hid (HG1.out.trans hg2)
          have m4 := meth_swap11 hv2.cell
          have HS := Lib.hid (hv2.swap (i := k) (j := d) hn (by omega) (by omega))
          clear hv2 hg2 m3
          cases hb : M.hLess (M.hAt K d) (M.hAt K k) with
          | false =>
            have HP1 := Lib.hid (HD.out.done (fun i h0 hi hp => M.hLe_trans hb (HMIN.out i h0 hi hp)))
            clear hb
            go_wp2_with fail
            go_ret
            exact ⟨⟨_, rfl⟩, K, HP.out, HP1.out, HV2.out, HG2.out, HT.out⟩
          | true =>
            have HST := Lib.hid (HD.out.step (by rw [HV1.out.len]; exact hm) h0q (by omega) HPQ.out HMIN.out hb)
            have HPS := Lib.hid ((M.hSw_perm (H := K) (a := k) (b := d) (by rw [HV1.out.len]; omega) (by rw [HV1.out.len]; omega)).trans HP.out)
            have HTS := Lib.hid (fun i (hi : m ≤ i) => show M.hAt (M.hSw K k d) i = M.hAt H i from by rw [M.hSw_at (by rw [HV1.out.len]; omega) (by rw [HV1.out.len]; omega), if_neg (by omega), if_neg (by omega)]; exact HT.out i hi)
            clear hb
            go_wp2_with fail
            with_reducible refine (HS.out).mono ?_
            rintro e w3 ⟨rfl, hv3, hg3⟩
            have HV3 := Lib.hid hv3
            have HG3 := Lib.hid (HG2.out.trans hg3)
            clear hv3 hg3
            go_wp2_with fail
            go_roundw
            · exact ⟨d, _, rfl, by omega, HPS, HST, HV3, HG3, HTS⟩
            · simp only [intOf, Int.toNat_natCast]; omega
        | false =>
          obtain ⟨hc, hd⟩ := HCD.out
          have h0q : 0 < c := by omega
          have HPQ := Lib.hid (show (c - 1) / 2 = k from by omega)
          have HMIN := Lib.hid (show ∀ i, 0 < i → i < m → (i - 1) / 2 = k → M.hLess (M.hAt K i) (M.hAt K c) = false from fun i h0 hi hp => by
            rcases (by omega : i = c ∨ i = d) with e | e
            · rw [e]; exact M.hLess_irr _
            · rw [e]; exact ha)
          clear ha hc hd
          have HC := Lib.hid (HV1.out.less (i := c) (j := k) hn (by omega) (by omega))
          have m3 := meth_less11 HV1.out.cell
          go_wp2_with fail
          with_reducible refine (HC.out).mono ?_
          rintro e w2 ⟨rfl, hv2, hg2⟩
          have HV2 := Lib.hid hv2
          have HG2 := Lib.hid (HG1.out.trans hg2)
          have m4 := meth_swap11 hv2.cell
          have HS := Lib.hid (hv2.swap (i := k) (j := c) hn (by omega) (by omega))
          clear hv2 hg2 m3
          cases hb : M.hLess (M.hAt K c) (M.hAt K k) with
          | false =>
            have HP1 := Lib.hid (HD.out.done (fun i h0 hi hp => M.hLe_trans hb (HMIN.out i h0 hi hp)))
            clear hb
            go_wp2_with fail
            go_ret
            exact ⟨⟨_, rfl⟩, K, HP.out, HP1.out, HV2.out, HG2.out, HT.out⟩
          | true =>
            have HST := Lib.hid (HD.out.step (by rw [HV1.out.len]; exact hm) h0q (by omega) HPQ.out HMIN.out hb)
            have HPS := Lib.hid ((M.hSw_perm (H := K) (a := k) (b := c) (by rw [HV1.out.len]; omega) (by rw [HV1.out.len]; omega)).trans HP.out)
            have HTS := Lib.hid (fun i (hi : m ≤ i) => show M.hAt (M.hSw K k c) i = M.hAt H i from by rw [M.hSw_at (by rw [HV1.out.len]; omega) (by rw [HV1.out.len]; omega), if_neg (by omega), if_neg (by omega)]; exact HT.out i hi)
            clear hb
            go_wp2_with fail
            with_reducible refine (HS.out).mono ?_
            rintro e w3 ⟨rfl, hv3, hg3⟩
            have HV3 := Lib.hid hv3
            have HG3 := Lib.hid (HG2.out.trans hg3)
            clear hv3 hg3
            go_wp2_with fail
            go_roundw
            · exact ⟨c, _, rfl, by omega, HPS, HST, HV3, HG3, HTS⟩
            · simp only [intOf, Int.toNat_natCast]; omega
      · have d3 : decide (d < m) = false := by simp; omega
        have HV1 := HV
        have HG1 := HG
        obtain ⟨hc, hd⟩ := HCD.out
        have h0q : 0 < c := by omega
        have HPQ := Lib.hid (show (c - 1) / 2 = k from by omega)
        have HMIN := Lib.hid (show ∀ i, 0 < i → i < m → (i - 1) / 2 = k → M.hLess (M.hAt K i) (M.hAt K c) = false from fun i h0 hi hp => by
          rcases (by omega : i = c ∨ i = d) with e | e
          · rw [e]; exact M.hLess_irr _
          · omega)
        clear hc hd
        have HC := Lib.hid (HV1.out.less (i := c) (j := k) hn (by omega) (by omega))
        have m3 := meth_less11 HV1.out.cell
        go_wp2_with fail
        with_reducible refine (HC.out).mono ?_
        rintro e w2 ⟨rfl, hv2, hg2⟩
        have HV2 := Lib.hid hv2
        have HG2 := Lib.hid (HG1.out.trans hg2)
        have m4 := meth_swap11 hv2.cell
        have HS := Lib.hid (hv2.swap (i := k) (j := c) hn (by omega) (by omega))
        clear hv2 hg2 m3
        cases hb : M.hLess (M.hAt K c) (M.hAt K k) with
        | false =>
          have HP1 := Lib.hid (HD.out.done (fun i h0 hi hp => M.hLe_trans hb (HMIN.out i h0 hi hp)))
          clear hb
          go_wp2_with fail
          go_ret
          exact ⟨⟨_, rfl⟩, K, HP.out, HP1.out, HV2.out, HG2.out, HT.out⟩
        | true =>
          have HST := Lib.hid (HD.out.step (by rw [HV1.out.len]; exact hm) h0q (by omega) HPQ.out HMIN.out hb)
          have HPS := Lib.hid ((M.hSw_perm (H := K) (a := k) (b := c) (by rw [HV1.out.len]; omega) (by rw [HV1.out.len]; omega)).trans HP.out)
          have HTS := Lib.hid (fun i (hi : m ≤ i) => show M.hAt (M.hSw K k c) i = M.hAt H i from by rw [M.hSw_at (by rw [HV1.out.len]; omega) (by rw [HV1.out.len]; omega), if_neg (by omega), if_neg (by omega)]; exact HT.out i hi)
          clear hb
          go_wp2_with fail
          with_reducible refine (HS.out).mono ?_
          rintro e w3 ⟨rfl, hv3, hg3⟩
          have HV3 := Lib.hid hv3
          have HG3 := Lib.hid (HG2.out.trans hg3)
          clear hv3 hg3
          go_wp2_with fail
          go_roundw
          · exact ⟨c, _, rfl, by omega, HPS, HST, HV3, HG3, HTS⟩
          · simp only [intOf, Int.toNat_natCast]; omega

end Go.Proofs.Ythidmgnfdikppaa
