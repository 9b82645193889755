/- Layer 12: PostsBack, walked. -/
import Derived.Test.YtblgfhljaafmhaaPostsU2
import Derived.Deep.CutRange
namespace Go.Proofs.Ytblgfhljaafmhaa
set_option linter.unusedVariables false
open Go Go.RowKit
attribute [local go_sem ↓] run_index_S
attribute [local go_sem] S_append S_extract

set_option maxHeartbeats 8000000 in
set_option maxRecDepth 100000 in
theorem postsBack_calls (W : World) (v : Value) (hv : UBt W v) (u : Value) (hu : UAk u) (s : List UInt8) (hsl : s.length ≤ 140737488351232) :
    Calls Try.prog 5 #[v, u, .string (S s)] W fun e w' => e = .returned (.bool true) ∧ Below W.heap.size W w' := by
  obtain ⟨h, f, L, ao, cap, rfl, hbd, hlen, hint, hcap, hs⟩ := hv
  obtain ⟨a, rfl, hai⟩ := hu
  have bw := ((Below.refl W.heap.size W).alloc (Nat.le_refl _) (.cells #[.int .i64 h, .int .i64 f, .slice ao L.length cap] 24)).alloc (by rw [szA]; omega) (.cells #[.int .i64 a.host, .int .i64 a.first, .int .i64 a.next] 26)
  have HB0 := Lib.hid bw
  have HS0 := Lib.hid (hs.below bw)
  have HR0 := Lib.hid ((rowIn_new #[.int .i64 h, .int .i64 f, .slice ao L.length cap] 24 W).more (.cells #[.int .i64 a.host, .int .i64 a.first, .int .i64 a.next] 26))
  have HA0 := Lib.hid (rowIn_at #[.int .i64 a.host, .int .i64 a.first, .int .i64 a.next] 26 (W.alloc (.cells #[.int .i64 h, .int .i64 f, .slice ao L.length cap] 24)) (W.heap.size + 1) (by rw [szA]))
  have CG := Lib.hid (fun W' hs' => great12_any (w := W') (ao := ao) h f L cap hs' hlen)
  clear bw hs
  go_enter Try.func5, Try.ntmps5
  go_wp2_with fail
  with_reducible refine (CG.out _ HS0.out).mono ?_
  rintro e w1 ⟨rfl | ⟨rfl, hsm⟩, hb1⟩
  · go_wp2_with fail
    go_ret
    exact ⟨rfl, below_step HB0.out hb1⟩
  by_cases hm1 : 3000 < s.length
  · have d1 : decide (3000 < (s.length : Int)) = true := by simp; omega
    go_wp2_with fail
    go_ret
    exact ⟨rfl, below_step HB0.out hb1⟩
  have d1 : decide (3000 < (s.length : Int)) = false := by simp; omega
  have HF := Lib.hid (fun x (hx : x ∈ L) => by
    have h1 := hsm.2 x hx
    exact (hint x hx).fits (by have := h1.1; omega) (by have := h1.2.1; omega) (by have := h1.2.2; omega))
  have h50 := hsm.1
  have HR1 := Lib.hid (HR0.out.below hb1)
  have HA1 := Lib.hid (HA0.out.below hb1)
  have HS1 := Lib.hid (HS0.out.below hb1)
  have HB1 := Lib.hid (below_step HB0.out hb1)
  clear hb1 hsm hint hlen hcap
  have r0 : w1.cell? ⟨W.heap.size, 0, none⟩ = some (.int .i64 h) := HR1.out.cell 0
  have r1 : w1.cell? ⟨W.heap.size, 1, none⟩ = some (.int .i64 f) := HR1.out.cell 1
  have r2 : w1.cell? ⟨W.heap.size, 2, none⟩ = some (.slice ao L.length cap) := HR1.out.cell 2
  have CB := Lib.hid (fun W' hs' => encB_l ⟨h, f, L⟩ ao cap W' (by dsimp only; omega) HF.out hs')
  dsimp only at CB
  generalize hq : encBl ⟨h, f, L⟩ = q at *
  generalize he1 : M.errOf (M.bOk ⟨h, f, L⟩) = e1 at *
  have HE1 := Lib.hid he1
  have HQ := Lib.hid hq
  clear hq he1
  go_wp2_with fail
  with_reducible refine (CB.out _ HS1.out).mono ?_
  rintro e w2 ⟨rfl, hb2⟩
  have HR2 := Lib.hid (HR1.out.below hb2)
  have HA2 := Lib.hid (HA1.out.below hb2)
  have HS2 := Lib.hid (HS1.out.below hb2)
  have HB2 := Lib.hid (below_step HB1.out hb2)
  clear hb2
  clear r0 r1 r2
  have r0 : w2.cell? ⟨W.heap.size, 0, none⟩ = some (.int .i64 h) := HR2.out.cell 0
  have r1 : w2.cell? ⟨W.heap.size, 1, none⟩ = some (.int .i64 f) := HR2.out.cell 1
  have r2 : w2.cell? ⟨W.heap.size, 2, none⟩ = some (.slice ao L.length cap) := HR2.out.cell 2
  go_upto_if 40 with (fail)
  go_cut [6] from 7 to 73 (fun c wx => c = .bool false ∧ RowIn #[.int .i64 a.host, .int .i64 a.first, .int .i64 a.next] 26 wx (W.heap.size + 1) ∧ Below W.heap.size W wx)
  case first =>
    cases hbo : M.bOk ⟨h, f, L⟩ with
    | true =>
      obtain rfl : e1 = 0 := by rw [← HE1.out, hbo]; rfl
      have hqe : q = M.encB ⟨h, f, L⟩ := by rw [← HQ.out]; unfold encBl; rw [if_pos hbo]
      have hel := M.encB_len hbo
      rw [← hqe] at hel
      have hdq : M.decB q = some ⟨h, f, L⟩ := by rw [hqe]; exact M.decB_enc HF.out hbo
      have hda : M.decA q = none := by rw [hqe]; exact M.decA_hd (by rw [M.hd_encB]; omega)
      have CC := Lib.hid (fun W' => by have := decBatch_any q (by omega) W'; rw [hdq] at this; exact this)
      have CE := Lib.hid (fun W' => by have := decAck_any q (by omega) W'; rw [hda] at this; exact this)
      have CS := Lib.hid (fun W' bo c1 hb1 hb2 => (sameBatch_any (w := W') (ao := bo) (bo := ao) ⟨h, f, L⟩ ⟨h, f, L⟩ c1 cap hb1 hb2 (by dsimp only; omega) (by dsimp only; omega)).mono fun e w' h => h.is rfl)
      simp only [DecB, decAV, akE, akX] at CC CE CS
      have d8 : decide (800 < (q.length : Int)) = false := by simp; omega
      clear hbo hqe hdq hda HE1 HQ
      go_wp2_with fail
      with_reducible refine (CC.out _).mono ?_
      rintro e w3 ⟨ao3, cap3, rfl, ho3, hb3⟩
      have HO3 := Lib.hid (spsAt_own ho3 rfl)
      clear ho3 r0 r1 r2
      have HR3 := Lib.hid (HR2.out.below hb3)
      have HA3 := Lib.hid (HA2.out.below hb3)
      have HS3 := Lib.hid (HS2.out.below hb3)
      have HB3 := Lib.hid (below_step HB2.out hb3)
      clear hb3
      go_wp2_with (refine wpList_store_hid rfl 24 _ _ rfl w3.heap.size _ rfl rfl 24 bz (rowIn_new bz 24 w3) ?_ rfl (btC_one h f ao3 L.length cap3) ?_; kernel_rfl; intro w4 hr hbel hoth hsz; have hb := hbel w3.heap.size w3 (Nat.le_refl _) ((Below.refl _ _).alloc (Nat.le_refl _) _); have HR4 := Lib.hid (HR3.out.below hb); have HA4 := Lib.hid (HA3.out.below hb); have HS4 := Lib.hid (HS3.out.below hb); have HO4 := Lib.hid (HO3.out.below hb); have HB4 := Lib.hid (below_step HB3.out hb); have HC4 := Lib.hid (show RowIn #[.int .i64 h, .int .i64 f, .slice ao3 L.length cap3] 24 w4 w3.heap.size from hr); clear hr hbel hoth hsz hb)
      generalize w3.heap.size = X at *
      with_reducible refine (CE.out _).mono ?_
      rintro e w5 ⟨rfl, hb5⟩
      have HR5 := Lib.hid (HR4.out.below hb5)
      have HA5 := Lib.hid (HA4.out.below hb5)
      have HS5 := Lib.hid (HS4.out.below hb5)
      have HO5 := Lib.hid (HO4.out.below hb5)
      have HC5 := Lib.hid (HC4.out.below hb5)
      have HB5 := Lib.hid (below_step HB4.out hb5)
      clear hb5
      go_wp2_with (first | (refine wpList_store_hid rfl 26 _ _ rfl w5.heap.size _ rfl rfl 26 (akC ak0) (rowIn_new (akC ak0) 26 w5) ?_ rfl (akC_one ak0) ?_; kernel_rfl; intro w6 hr hbel hoth hsz; have hb := hbel w5.heap.size w5 (Nat.le_refl _) ((Below.refl _ _).alloc (Nat.le_refl _) _); have HR6 := Lib.hid (HR5.out.below hb); have HA6 := Lib.hid (HA5.out.below hb); have HS6 := Lib.hid (HS5.out.below hb); have HO6 := Lib.hid (HO5.out.below hb); have HC6 := Lib.hid (HC5.out.below hb); have HB6 := Lib.hid (below_step HB5.out hb); have r0 : w6.cell? ⟨W.heap.size, 0, none⟩ = some (.int .i64 h) := HR6.out.cell 0; have r1 : w6.cell? ⟨W.heap.size, 1, none⟩ = some (.int .i64 f) := HR6.out.cell 1; have r2 : w6.cell? ⟨W.heap.size, 2, none⟩ = some (.slice ao L.length cap) := HR6.out.cell 2; have c0 : w6.cell? ⟨X, 0, none⟩ = some (.int .i64 h) := HC6.out.cell 0; have c1 : w6.cell? ⟨X, 1, none⟩ = some (.int .i64 f) := HC6.out.cell 1; have c2 : w6.cell? ⟨X, 2, none⟩ = some (.slice ao3 L.length cap3) := HC6.out.cell 2; clear hr hbel hoth hsz hb) | (go_at_call 14; have _t := HB6; clear _t; refine (CS.out _ _ _ HO6.out HS6.out).mono ?_; rintro e w7 ⟨rfl, hb7⟩; have HR7 := Lib.hid (HR6.out.below hb7); have HA7 := Lib.hid (HA6.out.below hb7); have HS7 := Lib.hid (HS6.out.below hb7); have HO7 := Lib.hid (HO6.out.below hb7); have HC7 := Lib.hid (HC6.out.below hb7); have HB7 := Lib.hid (below_step HB6.out hb7); clear hb7; clear r0 r1 r2 c0 c1 c2))
      all_goals
        go_meet
        case rel => exact ⟨rfl, HA7.out, HB7.out⟩
    | false =>
      obtain rfl : e1 = 2 := by rw [← HE1.out, hbo]; rfl
      obtain rfl : q = [] := by rw [← HQ.out]; unfold encBl; rw [hbo]; rfl
      clear hbo HE1 HQ
      go_wp2_with fail
      all_goals
        go_meet
        case rel => exact ⟨rfl, HA2.out, HB2.out⟩
  case rest =>
  rename_i wc
  obtain ⟨rfl, hA, hB⟩ := hcut
  have HAc := Lib.hid hA
  have HBc := Lib.hid hB
  clear hA hB r0 r1 r2
  have q0 : wc.cell? ⟨W.heap.size + 1, 0, none⟩ = some (.int .i64 a.host) := HAc.out.cell 0
  have q1 : wc.cell? ⟨W.heap.size + 1, 1, none⟩ = some (.int .i64 a.first) := HAc.out.cell 1
  have q2 : wc.cell? ⟨W.heap.size + 1, 2, none⟩ = some (.int .i64 a.next) := HAc.out.cell 2
  have CA := Lib.hid (fun W' => encA_l a W')
  generalize hq : encAl a = q at *
  generalize he1 : M.errOf (M.aMay a) = e1 at *
  have HE1 := Lib.hid he1
  have HQ := Lib.hid hq
  have hql : q.length ≤ 800 := by have := encAl_len a; rw [HQ.out] at this; exact this
  clear hq he1
  go_wp2_with fail
  with_reducible refine (CA.out _).mono ?_
  rintro e w2 ⟨rfl, hb2⟩
  have HA2 := Lib.hid (HAc.out.below hb2)
  have HB2 := Lib.hid (below_step HBc.out hb2)
  clear hb2
  clear q0 q1 q2
  go_upto_if 80 with (fail)
  go_cut [6] from 13 to 107 (fun c wx => c = .bool false ∧ Below W.heap.size W wx)
  case first =>
    cases ham : M.aMay a with
    | true =>
      obtain rfl : e1 = 0 := by rw [← HE1.out, ham]; rfl
      have hqe : q = M.encA a := by rw [← HQ.out]; unfold encAl; rw [if_pos ham]
      have hda : M.decA q = some a := by rw [hqe]; exact M.decA_enc ham
      have hdq : M.decB q = none := by rw [hqe]; exact M.decB_hd (by rw [M.hd_encA]; omega)
      have CC := Lib.hid (fun W' => by have := decAck_any q (by omega) W'; rw [hda] at this; exact this)
      have CE := Lib.hid (fun W' => by have := decBatch_any q (by omega) W'; rw [hdq] at this; exact this)
      simp only [DecB, decAV, akE, akX] at CC CE
      clear ham hqe hdq hda HE1 HQ
      go_wp2_with fail
      with_reducible refine (CC.out _).mono ?_
      rintro e w3 ⟨rfl, hb3⟩
      have HA3 := Lib.hid (HA2.out.below hb3)
      have HB3 := Lib.hid (below_step HB2.out hb3)
      clear hb3
      go_wp2_with (refine wpList_store_hid rfl 26 _ _ rfl w3.heap.size _ rfl rfl 26 (akC ak0) (rowIn_new (akC ak0) 26 w3) ?_ rfl (akC_one a) ?_; kernel_rfl; intro w4 hr hbel hoth hsz; have hb := hbel w3.heap.size w3 (Nat.le_refl _) ((Below.refl _ _).alloc (Nat.le_refl _) _); have HA4 := Lib.hid (HA3.out.below hb); have HB4 := Lib.hid (below_step HB3.out hb); have HC4 := Lib.hid (show RowIn (akC a) 26 w4 w3.heap.size from hr); clear hr hbel hoth hsz hb)
      generalize w3.heap.size = X at *
      with_reducible refine (CE.out _).mono ?_
      rintro e w5 ⟨rfl, hb5⟩
      have HA5 := Lib.hid (HA4.out.below hb5)
      have HC5 := Lib.hid (HC4.out.below hb5)
      have HB5 := Lib.hid (below_step HB4.out hb5)
      clear hb5
      go_wp2_with (refine wpList_store_hid rfl 24 _ _ rfl w5.heap.size _ rfl rfl 24 bz (rowIn_new bz 24 w5) ?_ rfl bz_one ?_; kernel_rfl; intro w6 hr hbel hoth hsz; have hb := hbel w5.heap.size w5 (Nat.le_refl _) ((Below.refl _ _).alloc (Nat.le_refl _) _); have HA6 := Lib.hid (HA5.out.below hb); have HC6 := Lib.hid (HC5.out.below hb); have HB6 := Lib.hid (below_step HB5.out hb); have q0 : w6.cell? ⟨W.heap.size + 1, 0, none⟩ = some (.int .i64 a.host) := HA6.out.cell 0; have q1 : w6.cell? ⟨W.heap.size + 1, 1, none⟩ = some (.int .i64 a.first) := HA6.out.cell 1; have q2 : w6.cell? ⟨W.heap.size + 1, 2, none⟩ = some (.int .i64 a.next) := HA6.out.cell 2; have c0 : w6.cell? ⟨X, 0, none⟩ = some (.int .i64 a.host) := HC6.out.cell 0; have c1 : w6.cell? ⟨X, 1, none⟩ = some (.int .i64 a.first) := HC6.out.cell 1; have c2 : w6.cell? ⟨X, 2, none⟩ = some (.int .i64 a.next) := HC6.out.cell 2; clear hr hbel hoth hsz hb)
      all_goals
        go_meet
        case rel => exact ⟨rfl, HB6.out⟩
    | false =>
      obtain rfl : e1 = 2 := by rw [← HE1.out, ham]; rfl
      obtain rfl : q = [] := by rw [← HQ.out]; unfold encAl; rw [ham]; rfl
      clear ham HE1 HQ
      go_wp2_with fail
      all_goals
        go_meet
        case rel => exact ⟨rfl, HB2.out⟩
  case rest =>
  rename_i wd
  obtain ⟨rfl, hB⟩ := hcut
  have HBd := Lib.hid hB
  clear hB HAc HBc HR0 HA0 HB0 HS0 HR1 HA1 HB1 HS1 HF CG
  cases hd : M.decB s with
  | some b3 =>
    obtain ⟨h3, f3, L3⟩ := b3
    have hda : M.decA s = none := M.decA_hd (by have := (M.encB_dec hd).1; rw [← this, M.hd_encB]; omega)
    have CC := Lib.hid (fun W' => by have := decBatch_any s (by omega) W'; rw [hd] at this; exact this)
    have CE := Lib.hid (fun W' => by have := decAck_any s (by omega) W'; rw [hda] at this; exact this)
    have hen := M.encB_dec hd
    have hok := M.bMay_true.1 (by have := hen.2; unfold M.bOk at this; simp at this; exact this.1 : M.bMay ⟨h3, f3, L3⟩ = true)
    have hal : ∀ x ∈ L3, x.fits := fun x hx => M.may_fits (List.all_eq_true.1 (by have := hen.2; unfold M.bOk at this; simp only [Bool.and_eq_true] at this; exact this.2) x hx)
    dsimp only at hok
    have CB := Lib.hid (fun W' ao' c1 hs' => by have := encBatch_any ⟨h3, f3, L3⟩ ao' c1 W' (by dsimp only; omega) hal hs'; rw [encBV_good hen.2, hen.1] at this; exact this)
    simp only [DecB, decAV, akE, akX] at CB CC CE
    clear hd hda hen hal
    go_wp2_with fail
    with_reducible refine (CC.out _).mono ?_
    rintro e w3 ⟨ao3, cap3, rfl, ho3, hb3⟩
    have HO3 := Lib.hid (spsAt_own ho3 rfl)
    clear ho3
    have HB3 := Lib.hid (below_step HBd.out hb3)
    clear hb3
    go_wp2_with (refine wpList_store_hid rfl 24 _ _ rfl w3.heap.size _ rfl rfl 24 bz (rowIn_new bz 24 w3) ?_ rfl (btC_one h3 f3 ao3 L3.length cap3) ?_; kernel_rfl; intro w4 hr hbel hoth hsz; have hb := hbel w3.heap.size w3 (Nat.le_refl _) ((Below.refl _ _).alloc (Nat.le_refl _) _); have HO4 := Lib.hid (HO3.out.below hb); have HB4 := Lib.hid (below_step HB3.out hb); have HC4 := Lib.hid (show RowIn #[.int .i64 h3, .int .i64 f3, .slice ao3 L3.length cap3] 24 w4 w3.heap.size from hr); clear hr hbel hoth hsz hb)
    generalize w3.heap.size = X at *
    with_reducible refine (CE.out _).mono ?_
    rintro e w5 ⟨rfl, hb5⟩
    have HO5 := Lib.hid (HO4.out.below hb5)
    have HC5 := Lib.hid (HC4.out.below hb5)
    have HB5 := Lib.hid (below_step HB4.out hb5)
    clear hb5
    go_wp2_with (refine wpList_store_hid rfl 26 _ _ rfl w5.heap.size _ rfl rfl 26 (akC ak0) (rowIn_new (akC ak0) 26 w5) ?_ rfl (akC_one ak0) ?_; kernel_rfl; intro w6 hr hbel hoth hsz; have hb := hbel w5.heap.size w5 (Nat.le_refl _) ((Below.refl _ _).alloc (Nat.le_refl _) _); have HO6 := Lib.hid (HO5.out.below hb); have HC6 := Lib.hid (HC5.out.below hb); have HB6 := Lib.hid (below_step HB5.out hb); have c0 : w6.cell? ⟨X, 0, none⟩ = some (.int .i64 h3) := HC6.out.cell 0; have c1 : w6.cell? ⟨X, 1, none⟩ = some (.int .i64 f3) := HC6.out.cell 1; have c2 : w6.cell? ⟨X, 2, none⟩ = some (.slice ao3 L3.length cap3) := HC6.out.cell 2; clear hr hbel hoth hsz hb)
    with_reducible refine (CB.out _ _ _ HO6.out).mono ?_
    rintro e w7 ⟨rfl, hb7⟩
    have HB7 := Lib.hid (below_step HB6.out hb7)
    clear hb7
    go_wp2_with (go_at_call 15; refine (does12 _).mono ?_; rintro e wD ⟨rfl, hbD⟩)
    go_ret
    exact ⟨rfl, below_step HB7.out hbD⟩
  | none =>
    cases hda : M.decA s with
    | some d =>
      have CC := Lib.hid (fun W' => by have := decBatch_any s (by omega) W'; rw [hd] at this; exact this)
      have CE := Lib.hid (fun W' => by have := decAck_any s (by omega) W'; rw [hda] at this; exact this)
      have hen := M.encA_dec hda
      have CA := Lib.hid (fun W' => by have := encAck_any d W'; rw [hen.2, if_pos rfl, hen.1] at this; exact this)
      simp only [DecB, decAV, akE, akX, M.errOf, if_true] at CA CC CE
      clear hd hda hen
      go_wp2_with fail
      with_reducible refine (CC.out _).mono ?_
      rintro e w3 ⟨rfl, hb3⟩
      have HB3 := Lib.hid (below_step HBd.out hb3)
      clear hb3
      go_wp2_with (refine wpList_store_hid rfl 24 _ _ rfl w3.heap.size _ rfl rfl 24 bz (rowIn_new bz 24 w3) ?_ rfl bz_one ?_; kernel_rfl; intro w4 hr hbel hoth hsz; have hb := hbel w3.heap.size w3 (Nat.le_refl _) ((Below.refl _ _).alloc (Nat.le_refl _) _); have HB4 := Lib.hid (below_step HB3.out hb); clear hr hbel hoth hsz hb)
      with_reducible refine (CE.out _).mono ?_
      rintro e w5 ⟨rfl, hb5⟩
      have HB5 := Lib.hid (below_step HB4.out hb5)
      clear hb5
      go_wp2_with (refine wpList_store_hid rfl 26 _ _ rfl w5.heap.size _ rfl rfl 26 (akC ak0) (rowIn_new (akC ak0) 26 w5) ?_ rfl (akC_one d) ?_; kernel_rfl; intro w6 hr hbel hoth hsz; have hb := hbel w5.heap.size w5 (Nat.le_refl _) ((Below.refl _ _).alloc (Nat.le_refl _) _); have HB6 := Lib.hid (below_step HB5.out hb); have HC6 := Lib.hid (show RowIn (akC d) 26 w6 w5.heap.size from hr); have c0 : w6.cell? ⟨w5.heap.size, 0, none⟩ = some (.int .i64 d.host) := HC6.out.cell 0; have c1 : w6.cell? ⟨w5.heap.size, 1, none⟩ = some (.int .i64 d.first) := HC6.out.cell 1; have c2 : w6.cell? ⟨w5.heap.size, 2, none⟩ = some (.int .i64 d.next) := HC6.out.cell 2; clear hr hbel hoth hsz hb)
      with_reducible refine (CA.out _).mono ?_
      rintro e w7 ⟨rfl, hb7⟩
      have HB7 := Lib.hid (below_step HB6.out hb7)
      clear hb7
      go_wp2_with (go_at_call 15; refine (does12 _).mono ?_; rintro e wD ⟨rfl, hbD⟩)
      go_ret
      exact ⟨rfl, below_step HB7.out hbD⟩
    | none =>
      have CC := Lib.hid (fun W' => by have := decBatch_any s (by omega) W'; rw [hd] at this; exact this)
      have CE := Lib.hid (fun W' => by have := decAck_any s (by omega) W'; rw [hda] at this; exact this)
      simp only [DecB, decAV, akE, akX] at CC CE
      clear hd hda
      go_wp2_with fail
      with_reducible refine (CC.out _).mono ?_
      rintro e w3 ⟨rfl, hb3⟩
      have HB3 := Lib.hid (below_step HBd.out hb3)
      clear hb3
      go_wp2_with (refine wpList_store_hid rfl 24 _ _ rfl w3.heap.size _ rfl rfl 24 bz (rowIn_new bz 24 w3) ?_ rfl bz_one ?_; kernel_rfl; intro w4 hr hbel hoth hsz; have hb := hbel w3.heap.size w3 (Nat.le_refl _) ((Below.refl _ _).alloc (Nat.le_refl _) _); have HB4 := Lib.hid (below_step HB3.out hb); clear hr hbel hoth hsz hb)
      with_reducible refine (CE.out _).mono ?_
      rintro e w5 ⟨rfl, hb5⟩
      have HB5 := Lib.hid (below_step HB4.out hb5)
      clear hb5
      go_wp2_with (first | (refine wpList_store_hid rfl 26 _ _ rfl w5.heap.size _ rfl rfl 26 (akC ak0) (rowIn_new (akC ak0) 26 w5) ?_ rfl (akC_one ak0) ?_; kernel_rfl; intro w6 hr hbel hoth hsz; have hb := hbel w5.heap.size w5 (Nat.le_refl _) ((Below.refl _ _).alloc (Nat.le_refl _) _); have HB6 := Lib.hid (below_step HB5.out hb); clear hr hbel hoth hsz hb) | (go_at_call 15; refine (does12 _).mono ?_; rintro e wD ⟨rfl, hbD⟩))
      go_ret
      exact ⟨rfl, below_step HB6.out hbD⟩

end Go.Proofs.Ytblgfhljaafmhaa
