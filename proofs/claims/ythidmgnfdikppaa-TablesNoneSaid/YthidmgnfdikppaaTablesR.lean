/- Layer 10: the document's text of a table, by a contract. -/
import Derived.Test.YthidmgnfdikppaaTablesE
import Derived.BigQuiet
namespace Go.Proofs.Ythidmgnfdikppaa
set_option linter.unusedVariables false
open Go Go.RowKit
attribute [local go_sem ↓] run_index_S
attribute [local go_sem] S_append S_extract

set_option maxHeartbeats 2000000 in
set_option maxRecDepth 100000 in
theorem refSum10_any (l : List UInt8) (hl : l.length ≤ 140737488351232) (w : World) :
    Calls Try.prog 75 #[.string (S l)] w fun e w' => e = .returned (.string (S (M.big 4 (M.sumP l)))) ∧ Below w.heap.size w w' := by
  have C1 := Lib.hid (refSum_any l (by omega) w)
  have C2 := Lib.hid (fun W => refBytes_any (M.sumP l) (M.sumP_lt l) W)
  go_enter Try.func75, Try.ntmps75
  go_wp2_with fail
  with_reducible refine (C1.out).mono ?_
  rintro e w1 ⟨rfl, rfl⟩
  go_wp2_with fail
  with_reducible refine (C2.out w).mono ?_
  rintro e w2 ⟨rfl, hb1⟩
  have HB := Lib.hid hb1
  clear hb1
  go_wp2_with fail
  go_ret
  exact ⟨rfl, HB.out⟩
set_option maxHeartbeats 4000000 in
set_option maxRecDepth 100000 in
theorem refBuild10_any (L : List M.Cl) (hl : L.length ≤ 1000000) (ao : Option Addr) (cap : Nat) (hcap : L.length ≤ cap) (w : World) (hC : ClsAt w ao L) (hv : ∀ c ∈ L, ClOk c) :
    Calls Try.prog 25 #[.slice ao L.length cap] w fun e w' => BuildR L w e w' := by
  have HC := Lib.hid hC
  have HV := Lib.hid hv
  have CS := Lib.hid (refSorted9_any L hl ao cap w hC hv)
  have HCAP := Lib.hid hcap
  clear hC hv hcap
  go_enter Try.func25, Try.ntmps25
  go_wp2_with fail
  with_reducible refine (CS.out).mono ?_
  rintro e w1 ⟨rfl, hb⟩
  have HB := Lib.hid hb
  clear hb CS
  cases hs : M.srt none L with
  | false =>
    have HS := Lib.hid hs
    clear hs
    go_wp2_with fail
    go_ret2
    exact ⟨by rw [bE_no HS.out]; rfl, HB.out⟩
  | true =>
    have HS := Lib.hid hs
    clear hs
    by_cases hL : 4096 < L.length
    · have q0 : decide ((4096 : Int) < (L.length : Int)) = true := by simp; omega
      go_wp2_with fail
      go_ret2
      exact ⟨by rw [bE_long HS.out hL]; rfl, HB.out⟩
    have q0 : decide ((4096 : Int) < (L.length : Int)) = false := by simp; omega
    have hmb : M.many L ≤ 1024 := by unfold M.many; omega
    go_wp2_with fail
    go_loopw [4, 5, 6, 7] (fun v4 v5 v6 v7 wr => ∃ k i : Nat, k ≤ M.many L ∧ Hid (i = 4 * k) ∧ v4 = .string (S (M.bodyS k L)) ∧ v5 = .string (S (M.idxS k L)) ∧ v6 = .int .i64 k ∧ v7 = .int .i64 i ∧ Hid (Below w.heap.size w wr)) (fun _ _ _ v _ => L.length + 4 - (intOf v).toNat)
    case atStart => exact ⟨0, 0, Nat.zero_le _, Lib.hid rfl, rfl, rfl, rfl, rfl, HB⟩
    case round =>
      clear HB
      obtain ⟨k, i, hk, HI, rfl, rfl, rfl, rfl, HBr⟩ := hrel
      by_cases hlt : i < L.length
      · have hd : decide ((i : Int) < (L.length : Int)) = true := by simp; omega
        obtain ⟨j, hj⟩ : ∃ j, j = min (i + 4) L.length := ⟨_, rfl⟩
        obtain ⟨ao', cp, hrun, hcls⟩ := cut_blk L ao cap k i j HI.out hj hlt HCAP.out
        have HBC := Lib.hid (hcls wr (HC.out.below HBr.out))
        have CE := Lib.hid (refEncode9_any (M.blk L k) (by have := M.blk_len4 L k; omega) ao' cp wr HBC.out (fun c hc => HV.out c (M.blk_mem hc)))
        unfold EncR at CE
        rw [M.srt_blk HS.out k] at CE
        simp only [if_true] at CE
        have hel := M.encCs_len (M.srt_blk HS.out k) (M.blk_len4 L k)
        have HBS := Lib.hid (show M.bodyS (k + 1) L = M.bodyS k L ++ (M.encCs (M.blk L k) ++ M.big 4 (M.sumP (M.encCs (M.blk L k)))) from M.bodyS_snoc k L)
        have HIS := Lib.hid (show M.idxS (k + 1) L = M.idxS k L ++ (M.putT (L.getD i M.cl0).key ++ M.putN (M.encCs (M.blk L k)).length) from by rw [HI.out]; exact M.idxS_snoc k L)
        have hbl := M.body_len HS.out k
        have hil := M.idx_len HS.out k
        have hkl := M.key_len HS.out i
        have hsl : (M.big 4 (M.sumP (M.encCs (M.blk L k)))).length ≤ 4 := by rw [M.big_length]; omega
        obtain ⟨g, off, rfl, hc⟩ := HC.out.off i hlt
        have HCL := Lib.hid hc
        have hj1 : j ≤ L.length := by omega
        have hj2 : i < j := by omega
        have hmin : min ((i : Int) + 4) (L.length : Int) = (j : Int) := by omega
        clear hj hc
        generalize L.getD i M.cl0 = c at *
        generalize M.blk L k = bk at *
        generalize M.encCs bk = eb at *
        generalize M.bodyS k L = bs at *
        generalize M.idxS k L = is at *
        go_wp2_with fail
        with_reducible refine (CE.out).mono ?_
        rintro e w4 ⟨rfl, hb4⟩
        replace HBr := carry hb4 HBr
        clear hb4 hrun hcls HBC CE
        go_wp2_with fail
        with_reducible refine (refSum10_any eb (by omega) w4).mono ?_
        rintro e w5 ⟨rfl, hb4⟩
        replace HBr := carry hb4 HBr
        clear hb4
        generalize M.big 4 (M.sumP eb) = sm at *
        obtain ⟨x0, -, -⟩ := HCL.out.below HBr.out
        have hii : (i : Int) < (L.length : Int) := by omega
        go_wp2_with fail
        with_reducible refine (refPutText_any c.key w5 (by omega)).mono ?_
        rintro e w7 ⟨rfl, hb4⟩
        replace HBr := carry hb4 HBr
        clear hb4 x0
        have hp1 := (M.putN_length c.key.length).2
        have HIS2 := Lib.hid (show M.idxS (k + 1) L = is ++ ((M.putN c.key.length ++ c.key) ++ M.putN eb.length) from HIS.out)
        clear HIS
        generalize M.putN c.key.length = e1 at *
        go_wp2_with fail
        with_reducible refine (refPut_nat eb.length w7 (by omega)).mono ?_
        rintro e w8 ⟨rfl, hb4⟩
        replace HBr := carry hb4 HBr
        clear hb4
        have hp2 := (M.putN_length eb.length).2
        generalize M.putN eb.length = e2 at *
        have HK1 := Lib.hid (show k + 1 ≤ M.many L from by have := HI.out; unfold M.many; omega)
        go_wp2_with fail
        go_roundw
        case rel => exact ⟨k + 1, i + 4, HK1.out, Lib.hid (by rw [HI.out]; omega), by rw [HBS.out], by rw [HIS2.out]; simp only [List.append_assoc], by go_num, by go_num, HBr⟩
        case measure => simp [intOf]; omega
      · have hd : decide ((i : Int) < (L.length : Int)) = false := by simp; omega
        obtain rfl : k = M.many L := by have := HI.out; unfold M.many at *; omega
        have HTT := Lib.hid (show M.tableT L = M.bodyS (M.many L) L ++ ((M.putN (M.many L) ++ M.idxS (M.many L) L) ++ M.big 4 (M.sumP (M.putN (M.many L) ++ M.idxS (M.many L) L))) ++ (M.bigN (M.bodyS (M.many L) L).length ++ M.bigN L.length ++ M.spoorT) from rfl)
        have HBE := Lib.hid (bE_ok HS.out hL)
        have hbl := M.body_len HS.out (M.many L)
        have hil := M.idx_len HS.out (M.many L)
        have hpl := (M.putN_length (M.many L)).2
        generalize M.bodyS (M.many L) L = bs at *
        generalize M.idxS (M.many L) L = is at *
        go_wp2_with fail
        with_reducible refine (refPut_nat (M.many L) wr (by omega)).mono ?_
        rintro e w4 ⟨rfl, hb4⟩
        replace HBr := carry hb4 HBr
        clear hb4
        generalize M.putN (M.many L) = pm at *
        go_wp2_with fail
        with_reducible refine (refSum10_any (pm ++ is) (by simp only [List.length_append]; omega) w4).mono ?_
        rintro e w5 ⟨rfl, hb4⟩
        replace HBr := carry hb4 HBr
        clear hb4
        have hsl : (M.big 4 (M.sumP (pm ++ is))).length ≤ 4 := by rw [M.big_length]; omega
        generalize M.big 4 (M.sumP (pm ++ is)) = sm at *
        go_wp2_with fail
        with_reducible refine (refBig_nat bs.length w5 (by omega)).mono ?_
        rintro e w6 ⟨rfl, hb4⟩
        replace HBr := carry hb4 HBr
        clear hb4
        have hg1 : (M.bigN bs.length).length ≤ 8 := by rw [M.bigN_length]; omega
        generalize M.bigN bs.length = f1 at *
        go_wp2_with fail
        with_reducible refine (refBig_nat L.length w6 (by omega)).mono ?_
        rintro e w7 ⟨rfl, hb4⟩
        replace HBr := carry hb4 HBr
        clear hb4
        have hg2 : (M.bigN L.length).length ≤ 8 := by rw [M.bigN_length]; omega
        generalize M.bigN L.length = f2 at *
        go_wp2_with fail
        go_ret2
        exact ⟨by rw [HBE.out, HTT.out]; simp only [List.append_assoc, M.spoorT]; rfl, HBr.out⟩

end Go.Proofs.Ythidmgnfdikppaa
