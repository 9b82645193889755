/- Layer 19: where a tablet would be parted, by a contract. -/
import Derived.Test.YtnhljlmelbiljaaGreatTbltF
import Derived.Test.YtnhljlmelbiljaaGreatTbltS
import Derived.Test.YtnhljlmelbiljaaGreatZY
import Derived.Sort.OwnSorted
import Derived.Lib.OwnBridge
import Derived.BigQuiet
import Derived.Deep.Cut
import Derived.Deep.CutRange
namespace Go.Proofs.YtnhljlmelbiljaaGreat
set_option linter.unusedVariables false
set_option linter.unusedSimpArgs false
open Go Go.RowKit Go.Sort
attribute [local go_sem ↓] run_index_S
attribute [local go_sem] S_append S_extract

/-- Where rows are parted. -/
def M.midT (f : List UInt8) (rows : List (List UInt8)) : Option (List UInt8) := if rows.length < 2 ∨ Op.bytesLess f (rows.getD (rows.length / 2) []) = false then none else some (rows.getD (rows.length / 2) [])
def MidR19 (r : Option (List UInt8)) (w : World) (e : Ending) (w' : World) : Prop := e = .returned (.tuple #[.string (S (r.getD [])), .bool r.isSome]) ∧ Below w.heap.size w w'
theorem compactOwnT (l : List (List UInt8)) (hl : l.length ≤ 1000000) {B : Nat} (ao : Option Addr) (cap : Nat) (w : World) (hB : B ≤ w.heap.size) (h : w.ownsRow B 9 1 (.slice ao l.length cap) l.length (tsV l)) :
    Calls Tryz.prog 36 #[.slice ao l.length cap] w fun e w' => ∃ c, e = .returned (.slice ao (Lib.compact l).length c) ∧ w'.ownsRow B 9 1 (.slice ao (Lib.compact l).length c) (Lib.compact l).length (tsV (Lib.compact l)) ∧ (∀ W0, Below B W0 w → Below B W0 w') := by
  rcases h.2 with ⟨e, h0⟩ | ⟨g, cap', cur, e, hb, hg, hn, hm, hs, ht⟩
  · have hl0 : l = [] := List.eq_nil_of_length_eq_zero h0
    subst hl0
    injection e with e1 e2 e3
    subst e1 e3
    refine (Tryz.slices_Compact_string_empty none 0 w).mono ?_
    rintro e w' ⟨rfl, rfl⟩
    exact ⟨0, rfl, World.ownsRow_nil _ _ _ _, fun _ h => h⟩
  · injection e with e1 e2 e3
    subst e1 e3
    have hH : Holds encStr w g 0 l.toArray := holds_of_block hg (by rw [← Nat.mul_one l.length]; exact ht)
    refine (Tryz.slices_Compact_string g 0 cap l w hH (by omega) hn).mono ?_
    rintro e w' ⟨rfl, q, rfl⟩
    have hle := Lib.compact_length_le l
    have hr := Lib.ownsRow_putRow (enc := encStr) (q := q) (k := (Lib.compact l).length) (ys := Lib.compact l ++ List.replicate (l.length - (Lib.compact l).length) []) h (by simp; omega) (by omega)
    rw [List.take_left] at hr
    exact ⟨cap, rfl, hr, fun W0 hb0 => Lib.below_putRow hb0 hb⟩
theorem M.rowsS_len (L : List M.Cl) : (M.rowsS L).length ≤ L.length := by
  unfold M.rowsS
  exact Nat.le_trans (List.length_filter_le _ _) (by simp)
theorem tsAt_ownC {w : World} {B : Nat} {e : TypeId} {ao : Option Addr} {cap : Nat} {l : List (List UInt8)} (h : w.ownsRow B e 1 (.slice ao l.length cap) l.length (tsV l)) : TsAt w ao l := tsAt_own h
set_option maxHeartbeats 8000000 in
set_option maxRecDepth 100000 in
theorem middle19_any (f t : List UInt8) (mv : Value) (ao : Option Addr) (cap : Nat) (L : List M.Cl) (Ts : List M.Tp) (w : World) (h : TtAt w mv ao L Ts) (hL : L.length ≤ 4096) (hf : f.length ≤ 1000000) (ht : t.length ≤ 1000000) :
    Calls Tryz.prog 15 #[.agg (tbV f t mv ao Ts.length cap)] w (MidR19 (M.midT f (M.rowsR (M.rangeT f t (L :: M.tls Ts) [] []))) w) := by
  obtain ⟨i0, z0, hi0, hz0, hz1, hz2, hz3⟩ := infoTx_parts
  have HB := Lib.hid ((Below.refl w.heap.size w).alloc (Nat.le_refl _) (.cells (tbV f t mv ao Ts.length cap) 32))
  have HR := Lib.hid (rowIn_new (tbV f t mv ao Ts.length cap) 32 w)
  have CRG := Lib.hid (range19_any f t mv ao cap L Ts [] [] _ (h.below HB.out) hL hf ht (by simp) (by simp))
  unfold NewR19 at CRG
  have hn := h.n
  have HPW := Lib.hid (show M.PW (L :: M.tls Ts) from okL_pw (fun l hl => by
    rcases List.mem_cons.1 hl with rfl | hl
    · exact h.mem.okL hL
    · exact h.tabs.okL l hl))
  have HK := Lib.hid (M.rows_compact (M.rangeT_pwk f t HPW.out [] []))
  have HKL := Lib.hid (show (M.rangeT f t (L :: M.tls Ts) [] []).length ≤ 1000000 from by
    have h1 := M.newR_len ((L :: M.tls Ts).map (M.rangeL (M.winA f []) (M.winB t [])))
    have h2 : ∀ (A : List (List M.Cl)), (∀ l, l ∈ A → l.length ≤ 4096) → (A.map List.length).sum ≤ A.length * 4096 := fun A => by
      induction A with
      | nil => intro _; simp
      | cons r A ih =>
        intro h
        have i1 := ih (fun r hr => h r (List.mem_cons_of_mem _ hr))
        have i2 := h r (by simp)
        simp only [List.map_cons, List.sum_cons, List.length_cons, Nat.add_mul]
        omega
    have h3 := h2 ((L :: M.tls Ts).map (M.rangeL (M.winA f []) (M.winB t []))) (fun l hl => by
      obtain ⟨m, hm, rfl⟩ := List.mem_map.1 hl
      refine Nat.le_trans (M.range_len _ _ m) ?_
      rcases List.mem_cons.1 hm with rfl | hm
      · exact hL
      · exact (h.tabs.okL m hm).2.1)
    have h4 : ((L :: M.tls Ts).map (M.rangeL (M.winA f []) (M.winB t []))).length = Ts.length + 1 := by simp [M.tls]
    rw [h4] at h3
    have h5 : (Ts.length + 1) * 4096 ≤ 101 * 4096 := Nat.mul_le_mul_right _ (by omega)
    show (M.newR _).length ≤ _
    omega)
  have HKK := Lib.hid (show ∀ c, c ∈ M.rangeT f t (L :: M.tls Ts) [] [] → c.key.length ≤ 140737488351232 from fun c hc => by
    obtain ⟨l, h1, h2⟩ := M.newR_mem hc
    obtain ⟨m, hm, rfl⟩ := List.mem_map.1 h1
    have h3 := (List.mem_filter.1 h2).1
    rcases List.mem_cons.1 hm with rfl | hm
    · exact ((h.mem.okL hL).2.2 c h3).1
    · exact ((h.tabs.okL m hm).2.2 c h3).1)
  have CK := Lib.hid (fun l w hl => keyRow_any l hl w)
  clear h HPW
  generalize M.rangeT f t (L :: M.tls Ts) [] [] = K at *
  unfold tbV at *
  go_enter Tryz.func15, Tryz.ntmps15
  go_wp2_with fail
  generalize w.alloc (.cells #[.string (S f), .string (S t), mv, .slice ao Ts.length cap] 32) = W0 at *
  with_reducible refine (CRG.out).mono ?_
  rintro e w1 ⟨aK, cK, rfl, hoK, hbq⟩
  replace HB := carry hbq HB
  replace HR := carry hbq HR
  have HC := Lib.hid (clsAt_own hoK rfl)
  clear hbq CRG hoK
  go_wp2_with fail
  have HO0 := Lib.hid (show w1.ownsRow w1.heap.size 9 1 (.slice none 0 0) 0 (tsV []) from World.ownsRow_nil _ _ _ _)
  have HB0 := Lib.hid (Below.refl w1.heap.size w1)
  go_loopw [6, 20] (fun rv kv wr => ∃ (k n : Nat) (ro : Option Addr) (rc : Nat), k ≤ K.length ∧ kv = .int .i64 k ∧ rv = .slice ro n rc ∧ Hid (n = (M.rowsS (K.take k)).length) ∧ n ≤ k ∧ Hid (wr.ownsRow w1.heap.size 9 1 (.slice ro n rc) n (tsV (M.rowsS (K.take k)))) ∧ Hid (Below w1.heap.size w1 wr)) (fun _ kv _ => K.length - (intOf kv).toNat)
  case atStart => exact ⟨0, 0, none, 0, Nat.zero_le _, rfl, rfl, Lib.hid rfl, Nat.le_refl _, HO0, HB0⟩
  case round =>
    clear HO0 HB0
    obtain ⟨k, n, ro, rc, hk, rfl, rfl, HN, hnk, HO, HB1⟩ := hrel
    have hKL := HKL.out
    by_cases hlt : k < K.length
    · have d1 : decide ((k : Int) < (K.length : Int)) = true := by simp; omega
      have d2 : decide (k < K.length) = true := by simp; omega
      have hki : (k : Int) < (K.length : Int) := by omega
      obtain ⟨g, o, eg, hcl⟩ := (HC.out.below HB1.out) (fun e => by rw [e] at hlt; simp at hlt)
      subst eg
      obtain ⟨y0, y1, y2⟩ := hcl k hlt
      have HTS := Lib.hid (M.rowsS_snoc hlt)
      have hck := HKK.out _ (M.getD_memC hlt)
      clear hcl
      generalize K.getD k M.cl0 = c at *
      have hal : Below wr.heap.size wr (wr.alloc (.cells (clA c) 38)) := (Below.refl _ _).alloc (Nat.le_refl _) _
      replace HO := carry hal HO
      replace HB1 := carry hal HB1
      have CK1 := Lib.hid (CK.out c.key (wr.alloc (.cells (clA c) 38)) hck)
      clear hal
      generalize M.rowK c.key = row at *
      go_wp2_with fail
      generalize (wr.alloc (.cells #[.string (S c.key), .int .i64 c.seq, .string (S c.val)] 38)) = W1 at *
      with_reducible refine (CK1.out).mono ?_
      rintro e w3 ⟨rfl, hbq⟩
      replace HO := carry hbq HO
      replace HB1 := carry hbq HB1
      clear hbq CK1 y0 y1 y2
      cases row with
      | nil =>
        have HE := Lib.hid (show M.rowsS (K.take (k + 1)) = M.rowsS (K.take k) from by rw [HTS.out]; simp)
        rw [← HE.out] at HN HO
        go_wp2_with fail
        go_roundw
        case rel => exact ⟨k + 1, n, ro, rc, by omega, by go_num, rfl, HN, by omega, HO, HB1⟩
        case measure => simp [intOf]; omega
      | cons x row =>
        have HE := Lib.hid (show M.rowsS (K.take (k + 1)) = M.rowsS (K.take k) ++ [x :: row] from by rw [HTS.out]; simp)
        have hal : Below w3.heap.size w3 (w3.alloc (.cells #[.string (S (x :: row))] 9)) := (Below.refl _ _).alloc (Nat.le_refl _) _
        have HX := Lib.hid (rowIn_new #[.string (S (x :: row))] 9 w3)
        replace HO := carry hal HO
        replace HB1 := carry hal HB1
        clear hal
        go_wp2_with (at_builtin; refine wpList_append_txsm rfl _ _ 73 rfl w1.heap.size i0 z0 Tryz.underlying73 hi0 hz0 hz1 hz2 hz3 (.slice ro n rc) n _ rfl HO.out (some ⟨w3.heap.size, 0, none⟩) 1 1 [x :: row] rfl rfl (tsAt_cell HX.out) (by omega) HB1.out.size ?_; intro v5 w5 ho5 hg5; obtain ⟨a5, c5, rfl⟩ := own_shapeT ho5; have HO5 := Lib.hid ho5; have HG5 := Lib.hid hg5; clear ho5 hg5)
        have HB5 := Lib.hid (HB1.out.grown HG5.out HB1.out.size (fun q hq => (HO.out.lt q hq).1))
        have HN5 := Lib.hid (show n + 1 = (M.rowsS (K.take (k + 1))).length from by rw [HE.out, List.length_append, ← HN.out]; rfl)
        rw [← tsV_append, ← HE.out] at HO5
        go_roundw
        case rel => exact ⟨k + 1, n + 1, a5, c5, by omega, by go_num, rfl, HN5, by omega, HO5, HB5⟩
        case measure => simp [intOf]; omega
    · obtain rfl : k = K.length := by omega
      have d1 : decide ((K.length : Int) < (K.length : Int)) = false := by simp
      have d2 : decide (K.length < K.length) = false := by simp
      rw [List.take_length] at HN HO
      have CC := Lib.hid (compactOwnT (M.rowsS K) (by have := M.rowsS_len K; omega) ro rc wr HB1.out.size (by rw [← HN.out]; exact HO.out))
      rw [← HN.out, HK.out] at CC
      have hRL : (M.rowsR K).length ≤ 1000000 := by
        have h1 := Lib.compact_length_le (M.rowsS K)
        have h2 := M.rowsS_len K
        rw [HK.out] at h1
        omega
      clear HO HN HK
      generalize M.rowsR K = rows at *
      go_wp2_with fail
      with_reducible refine (CC.out).mono ?_
      rintro e w5 ⟨c5, rfl, ho5, hbk⟩
      have HB5 := Lib.hid (hbk _ HB1.out)
      have HT5 := Lib.hid (tsAt_ownC ho5)
      have HR5 := Lib.hid (HR.out.below HB5.out)
      have HBE := Lib.hid (HB.out.trans (HB5.out.mono HB.out.size))
      clear ho5 hbk CC
      have r0 := HR5.out.cell 0
      simp at r0
      go_upto_region 14 with fail
      rw [show ((rows.length : Int) / 2) = ((rows.length / 2 : Nat) : Int) from by omega]
      have HM := Lib.hid (show M.midT f rows = if rows.length < 2 ∨ Op.bytesLess f (rows.getD (rows.length / 2) []) = false then none else some (rows.getD (rows.length / 2) []) from rfl)
      by_cases h2 : rows.length < 2
      · have d3 : decide ((rows.length : Int) < 2) = true := by simp; omega
        rw [if_pos (.inl h2)] at HM
        go_quiet (fail)
        have HB9 := Lib.hid (show Below w.heap.size w (w5.drewN nq) from below_drewN HBE.out nq)
        go_wp2_with fail
        go_ret2
        exact ⟨by rw [HM.out]; rfl, HB9.out⟩
      · have d3 : decide ((rows.length : Int) < 2) = false := by simp; omega
        have hm : rows.length / 2 < rows.length := by omega
        obtain ⟨g, off, rfl, x0⟩ := HT5.out.off _ hm
        generalize rows.length / 2 = m at *
        have hmi : (m : Int) < (rows.length : Int) := by omega
        generalize rows.getD m [] = row at *
        cases q : Op.bytesLess f row with
        | false =>
          rw [if_pos (.inr q)] at HM
          have e1 : Op.bytesLess row f = true ∨ (row == f) = true := by
            rcases M.not_less q with e | e
            · exact .inr (by simp [e])
            · exact .inl e
          rcases e1 with e1 | e1
          · go_quiet (fail)
            have HB9 := Lib.hid (show Below w.heap.size w (w5.drewN nq) from below_drewN HBE.out nq)
            go_wp2_with fail
            go_ret2
            exact ⟨by rw [HM.out]; rfl, HB9.out⟩
          · go_quiet (fail)
            have HB9 := Lib.hid (show Below w.heap.size w (w5.drewN nq) from below_drewN HBE.out nq)
            go_wp2_with fail
            go_ret2
            exact ⟨by rw [HM.out]; rfl, HB9.out⟩
        | true =>
          rw [if_neg (by simp [h2, q])] at HM
          have e1 : Op.bytesLess row f = false := M.less_asym19 q
          have e2 : (row == f) = false := by
            cases e : (row == f) with
            | false => rfl
            | true => rw [eq_of_beq e, M.less_irr] at q; cases q
          go_quiet (fail)
          have HB9 := Lib.hid (show Below w.heap.size w (w5.drewN nq) from below_drewN HBE.out nq)
          go_wp2_with fail
          go_ret2
          exact ⟨by rw [HM.out]; rfl, HB9.out⟩

end Go.Proofs.YtnhljlmelbiljaaGreat
