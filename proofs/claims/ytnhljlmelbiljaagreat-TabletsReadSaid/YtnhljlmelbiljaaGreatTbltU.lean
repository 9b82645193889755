/- Layer 19: where the document parts a tablet, by a contract. -/
import Derived.Test.YtnhljlmelbiljaaGreatTbltT
namespace Go.Proofs.YtnhljlmelbiljaaGreat
set_option linter.unusedVariables false
set_option linter.unusedSimpArgs false
open Go Go.RowKit
attribute [local go_sem ↓] run_index_S
attribute [local go_sem] S_append S_extract

theorem M.putKs_len : ∀ (L acc : List (List UInt8)), (L.foldl (fun a r => M.putK r a) acc).length ≤ acc.length + L.length
  | [], acc => by simp
  | c :: t, acc => by
    have h1 := M.putKs_len t (M.putK c acc)
    have h2 := M.putK_len c acc
    simp only [List.foldl_cons, List.length_cons]
    omega
theorem M.rowsR_len (L : List M.Cl) : (M.rowsR L).length ≤ L.length := by
  have h1 := M.putKs_len (M.rowsS L) []
  have h2 := M.rowsS_len L
  unfold M.rowsR
  simp only [List.length_nil, Nat.zero_add] at h1
  omega
set_option maxHeartbeats 8000000 in
set_option maxRecDepth 100000 in
theorem refMiddle19_any (f t : List UInt8) (ro : Option Addr) (cap : Nat) (Rs : List M.Rw) (w : World) (h : RwsAt w ro Rs) (hst : StR Rs) (hn : Rs.length ≤ 100) (hnl : ∀ r, r ∈ Rs → r.l.length ≤ 500) (hok : ∀ r, r ∈ Rs → ∀ c, c ∈ r.l → ClOk c) :
    Calls Tryz.prog 16 #[.agg (rtV f t ro Rs.length cap)] w (MidR19 (M.midT f (M.rowsR (M.refRange f t (M.rls Rs) [] []))) w) := by
  have hB0 := (Below.refl w.heap.size w).alloc (Nat.le_refl _) (.cells (rtV f t ro Rs.length cap) 34)
  have HB := Lib.hid hB0
  have HR := Lib.hid (rowIn_new (rtV f t ro Rs.length cap) 34 w)
  have CRG := Lib.hid (refRange19_any f t ro cap Rs [] [] _ (h.below hB0) hst hn hnl)
  unfold RangeR10 at CRG
  have HKL := Lib.hid (show (M.refRange f t (M.rls Rs) [] []).length ≤ 50000 from by
    have h1 := M.keys_bound hnl Rs.length
    rw [List.take_length] at h1
    have h2 : Rs.length * 500 ≤ 100 * 500 := Nat.mul_le_mul_right _ hn
    have h3 := M.refFlat_len f t (M.rls Rs) [] [] (M.keysR (M.rls Rs))
    show (List.flatMap _ _).length ≤ _
    omega)
  have HKK := Lib.hid (show ∀ c, c ∈ M.refRange f t (M.rls Rs) [] [] → c.key.length ≤ 140737488351232 from fun c hc => by
    obtain ⟨k, hk, hc⟩ := List.mem_flatMap.1 hc
    obtain ⟨_, L, h1, h2⟩ := M.getT_key (M.refStep_mem.1 hc).1
    obtain ⟨r, hr, rfl⟩ := List.mem_map.1 h1
    exact (hok r hr c h2).1)
  have CK := Lib.hid (fun l w hl => keyRefRow_any l hl w)
  clear h hst hB0 hok hnl
  generalize M.refRange f t (M.rls Rs) [] [] = K at *
  unfold rtV at *
  go_enter Tryz.func16, Tryz.ntmps16
  go_wp2_with fail
  generalize w.alloc (.cells #[.string (S f), .string (S t), .slice ro Rs.length cap] 34) = W0 at *
  with_reducible refine (CRG.out).mono ?_
  rintro e w1 ⟨aK, cK, rfl, hoK, hbq⟩
  replace HB := carry hbq HB
  replace HR := carry hbq HR
  have HC := Lib.hid (clsAt_own hoK rfl)
  clear hbq CRG hoK
  go_wp2_with fail
  have HB0 := Lib.hid (Below.refl w1.heap.size w1)
  go_loopw [4, 6] (fun rv kv wr => ∃ (k n : Nat) (ao : Option Addr) (c : Nat), k ≤ K.length ∧ kv = .int .i64 k ∧ rv = .slice ao n c ∧ Hid (n = (M.rowsR (K.take k)).length) ∧ n ≤ c ∧ Hid (TsAt wr ao (M.rowsR (K.take k))) ∧ Hid (Below w1.heap.size w1 wr)) (fun _ kv _ => K.length - (intOf kv).toNat)
  case atStart => exact ⟨0, 0, none, 0, Nat.zero_le _, rfl, rfl, Lib.hid rfl, Nat.le_refl _, Lib.hid (tsAt_nil _ _), HB0⟩
  case round =>
    clear HB0
    obtain ⟨k, n, ao, c, hk, rfl, rfl, HN, hnc, HA, HB1⟩ := hrel
    have hKL := HKL.out
    by_cases hlt : k < K.length
    · have d1 : decide ((k : Int) < (K.length : Int)) = true := by simp; omega
      have d2 : decide (k < K.length) = true := by simp; omega
      have hki : (k : Int) < (K.length : Int) := by omega
      obtain ⟨g, o, eg, hcl⟩ := (HC.out.below HB1.out) (fun e => by rw [e] at hlt; simp at hlt)
      subst eg
      obtain ⟨y0, y1, y2⟩ := hcl k hlt
      have HTS := Lib.hid (M.rowsR_snoc hlt)
      have hck := HKK.out _ (M.getD_memC hlt)
      have hrl := M.rowsR_len (K.take k)
      rw [List.length_take] at hrl
      clear hcl
      generalize K.getD k M.cl0 = x at *
      have CK1 := Lib.hid (CK.out x.key wr hck)
      have CP := Lib.hid (fun s (W : World) (hb : Below wr.heap.size wr W) => putK19_any (M.rowsR (K.take k)) (by omega) ao c (by rw [← HN.out]; exact hnc) s W (HA.out.below hb))
      unfold PutK19 at CP
      rw [← HN.out] at CP
      generalize M.rowK x.key = row at *
      go_wp2_with fail
      with_reducible refine (CK1.out).mono ?_
      rintro e w3 ⟨rfl, hbq⟩
      have HA3 := Lib.hid (HA.out.below hbq)
      have HB3 := Lib.hid (below_step HB1.out hbq)
      have CP3 := Lib.hid (CP.out row w3 hbq)
      clear hbq CK1 y0 y1 y2 CP HA HB1 hrl
      cases row with
      | nil =>
        have HE := Lib.hid (show M.rowsR (K.take (k + 1)) = M.rowsR (K.take k) from by rw [HTS.out]; simp)
        rw [← HE.out] at HN HA3
        go_wp2_with fail
        go_roundw
        case rel => exact ⟨k + 1, n, ao, c, by omega, by go_num, rfl, HN, hnc, HA3, HB3⟩
        case measure => simp [intOf]; omega
      | cons z row =>
        have HE := Lib.hid (show M.putK (z :: row) (M.rowsR (K.take k)) = M.rowsR (K.take (k + 1)) from by rw [HTS.out]; simp)
        rw [HE.out] at CP3
        go_wp2_with fail
        with_reducible refine (CP3.out).mono ?_
        rintro e w5 ⟨a5, c5, rfl, ht5, hc5, hb5⟩
        have HT5 := Lib.hid ht5
        have HB5 := Lib.hid (below_step HB3.out hb5)
        clear ht5 hb5 CP3
        go_wp2_with fail
        go_roundw
        case rel => exact ⟨k + 1, _, a5, c5, by omega, by go_num, rfl, Lib.hid rfl, hc5, HT5, HB5⟩
        case measure => simp [intOf]; omega
    · obtain rfl : k = K.length := by omega
      have d1 : decide ((K.length : Int) < (K.length : Int)) = false := by simp
      have d2 : decide (K.length < K.length) = false := by simp
      rw [List.take_length] at HN HA
      have hRL := M.rowsR_len K
      have HR5 := Lib.hid (HR.out.below HB1.out)
      have HBE := Lib.hid (HB.out.trans (HB1.out.mono HB.out.size))
      generalize M.rowsR K = rows at *
      have hn5 := HN.out
      subst hn5
      have r0 := HR5.out.cell 0
      simp at r0
      have HM := Lib.hid (show M.midT f rows = if rows.length < 2 ∨ Op.bytesLess f (rows.getD (rows.length / 2) []) = false then none else some (rows.getD (rows.length / 2) []) from rfl)
      generalize M.midT f rows = res at *
      go_upto_region 9 with fail
      by_cases h2 : rows.length < 2
      · have d3 : decide ((rows.length : Int) < 2) = true := by simp; omega
        rw [if_pos (.inl h2)] at HM
        go_quiet (fail)
        have HB9 := Lib.hid (show Below w.heap.size w (wr.drewN nq) from below_drewN HBE.out nq)
        go_wp2_with fail
        go_ret2
        exact ⟨by rw [HM.out]; rfl, HB9.out⟩
      · have d3 : decide ((rows.length : Int) < 2) = false := by simp; omega
        have hm : rows.length / 2 < rows.length := by omega
        obtain ⟨g, off, rfl, x0⟩ := HA.out.off _ hm
        have hdq : Int.tdiv (rows.length : Int) 2 = ((rows.length / 2 : Nat) : Int) := by rw [Int.tdiv_eq_ediv_of_nonneg (by omega)]; rfl
        have hdq2 : ((rows.length : Int) / 2) = ((rows.length / 2 : Nat) : Int) := by omega
        generalize rows.length / 2 = m at *
        have hmi : (m : Int) < (rows.length : Int) := by omega
        generalize rows.getD m [] = row at *
        cases q : Op.bytesLess f row with
        | false =>
          rw [if_pos (.inr q)] at HM
          have e1 : Op.bytesLess row f = true ∨ (row == f) = true := by
            rcases M.not_less q with e | e
            · exact .inr (by simp [e])
            · exact .inl e
          rcases e1 with e1 | e1
          · go_quiet (fail)
            have HB9 := Lib.hid (show Below w.heap.size w (wr.drewN nq) from below_drewN HBE.out nq)
            go_wp2_with fail
            go_ret2
            exact ⟨by rw [HM.out]; rfl, HB9.out⟩
          · go_quiet (fail)
            have HB9 := Lib.hid (show Below w.heap.size w (wr.drewN nq) from below_drewN HBE.out nq)
            go_wp2_with fail
            go_ret2
            exact ⟨by rw [HM.out]; rfl, HB9.out⟩
        | true =>
          rw [if_neg (by simp [h2, q])] at HM
          have e1 : Op.bytesLess row f = false := M.less_asym19 q
          have e2 : (row == f) = false := by
            cases e : (row == f) with
            | false => rfl
            | true => rw [eq_of_beq e, M.less_irr] at q; cases q
          go_quiet (fail)
          have HB9 := Lib.hid (show Below w.heap.size w (wr.drewN nq) from below_drewN HBE.out nq)
          have y0 : (wr.drewN nq).cell? ⟨g, off + m, none⟩ = some (.string (S row)) := by
            have hw : ∀ n (W : World), (W.drewN n).heap = W.heap := fun n => by
              induction n with
              | zero => intro W; rfl
              | succ n ih => intro W; exact ih W.drew
            unfold World.cell? at x0 ⊢
            rw [hw]; exact x0
          go_wp2_with fail
          go_ret2
          exact ⟨by rw [HM.out]; rfl, HB9.out⟩

end Go.Proofs.YtnhljlmelbiljaaGreat
