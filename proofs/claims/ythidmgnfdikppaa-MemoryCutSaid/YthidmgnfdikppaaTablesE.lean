/- Layer 10: the text of a table, by a contract. -/
import Derived.Test.YthidmgnfdikppaaTablesC
import Derived.BigQuiet
namespace Go.Proofs.Ythidmgnfdikppaa
set_option linter.unusedVariables false
open Go Go.RowKit
attribute [local go_sem ↓] run_index_S
attribute [local go_sem] S_append S_extract

/-- A piece of a row of cells. -/
def pieceC (L : List M.Cl) (i j : Nat) : List M.Cl := (L.drop i).take (j - i)
theorem pieceC_len (L : List M.Cl) {i j : Nat} (h1 : i ≤ j) (h2 : j ≤ L.length) : (pieceC L i j).length = j - i := by simp [pieceC]; omega
theorem pieceC_get (L : List M.Cl) {i j n : Nat} (hn : n < j - i) : (pieceC L i j).getD n M.cl0 = L.getD (i + n) M.cl0 := by
  simp [pieceC, List.getD, hn]
theorem pieceC_blk (L : List M.Cl) (k : Nat) : pieceC L (4 * k) (4 * k + 4) = M.blk L k := by
  rw [pieceC, M.blk, show 4 * k + 4 - 4 * k = 4 from by omega]
theorem pieceC_blk' (L : List M.Cl) (k : Nat) (h : L.length ≤ 4 * k + 4) : pieceC L (4 * k) L.length = M.blk L k := by
  rw [pieceC, M.blk, List.take_of_length_le (by simp), List.take_of_length_le (by simp; omega)]
theorem sizeCl10 (w : World) : (sizeOf (Try.prog.elem 22)).run Try.prog w = .ok 3 w := by kernel_rfl
theorem sizeSt10 (w : World) : (sizeOf (Try.prog.elem 55)).run Try.prog w = .ok 1 w := by kernel_rfl
theorem elemCl10 : Try.prog.elem 22 = 38 := by kernel_rfl
theorem cut_cells (L : List M.Cl) (ao : Option Addr) (cap i j : Nat) (h1 : i ≤ j) (h2 : j ≤ L.length) (h3 : L.length ≤ cap) : ∃ ao' : Option Addr,
    (∀ (w : World) (k k' : IntKind), (Instr.slice 22 (.slice ao L.length cap) (some (.int k (i : Int))) (some (.int k' (j : Int))) none).run Try.prog w = .ok (.slice ao' (pieceC L i j).length (cap - i)) w) ∧
    (∀ w : World, ClsAt w ao L → ClsAt w ao' (pieceC L i j)) := by
  refine ⟨if cap = i then ao else ao.map (·.add (i * 3)), fun w k k' => ?_, fun w h => ?_⟩
  · rw [run_slice_lh w 22 ao L.length cap (by rw [elemCl10]; exact Try.underlying22) k k' _ _ (by omega) (by omega) (by omega), sizeCl10]
    simp only [Result.andThen, sliced, Int.toNat_natCast]
    rw [pieceC_len L h1 h2]
  · intro hne
    have hl : 0 < (pieceC L i j).length := List.length_pos_iff.2 hne
    rw [pieceC_len L h1 h2] at hl
    have hL : L ≠ [] := fun e => by rw [e] at h2; simp at h2; omega
    obtain ⟨g, off, rfl, hc⟩ := h hL
    rw [if_neg (by omega)]
    refine ⟨g, off + i * 3, by simp [Addr.add_lit], fun n hn => ?_⟩
    rw [pieceC_len L h1 h2] at hn
    rw [pieceC_get L hn]
    have := hc (i + n) (by omega)
    rwa [show off + (i + n) * 3 = off + i * 3 + n * 3 from by omega] at this
theorem cut_blk (L : List M.Cl) (ao : Option Addr) (cap k i j : Nat) (hi : i = 4 * k) (hj : j = min (i + 4) L.length) (hlt : i < L.length) (h3 : L.length ≤ cap) : ∃ (ao' : Option Addr) (cp : Nat),
    (∀ (w : World) (kk k' : IntKind), (Instr.slice 22 (.slice ao L.length cap) (some (.int kk (i : Int))) (some (.int k' (j : Int))) none).run Try.prog w = .ok (.slice ao' (M.blk L k).length cp) w) ∧
    (∀ w : World, ClsAt w ao L → ClsAt w ao' (M.blk L k)) := by
  obtain ⟨ao', h1, h2⟩ := cut_cells L ao cap i j (by omega) (by omega) h3
  have e : pieceC L i j = M.blk L k := by
    subst hi
    by_cases h : 4 * k + 4 ≤ L.length
    · rw [hj, Nat.min_eq_left h]; exact pieceC_blk L k
    · rw [hj, Nat.min_eq_right (by omega)]; exact pieceC_blk' L k (by omega)
  rw [e] at h1 h2
  exact ⟨ao', cap - i, h1, h2⟩
set_option maxHeartbeats 2000000 in
set_option maxRecDepth 100000 in
theorem withSum_any (l : List UInt8) (hl : l.length ≤ 140737488351232) (w : World) :
    Calls Try.prog 68 #[.string (S l)] w fun e w' => e = .returned (.string (S (M.wsum l))) ∧ Below w.heap.size w w' := by
  have C1 := Lib.hid (sum0_any l (by omega) w)
  have C2 := Lib.hid (fun W => bytes_any (M.sumP l) (M.sumP_lt l) W)
  have HWS : Hid (M.wsum l = l ++ M.big 4 (M.sumP l)) := Lib.hid rfl
  have hbl : (M.big 4 (M.sumP l)).length ≤ 4 := by rw [M.big_length]; omega
  rw [HWS.out]
  clear HWS
  generalize M.big 4 (M.sumP l) = q at *
  go_enter Try.func68, Try.ntmps68
  go_wp2_with fail
  with_reducible refine (C1.out).mono ?_
  rintro e w1 ⟨rfl, hb1⟩
  have HB := Lib.hid hb1
  clear hb1
  go_wp2_with fail
  with_reducible refine (C2.out w1).mono ?_
  rintro e w2 ⟨rfl, hb1⟩
  replace HB := carry hb1 HB
  clear hb1
  go_wp2_with fail
  go_ret
  exact ⟨rfl, HB.out⟩
/-- What Build comes to. -/
def bE (L : List M.Cl) : Value := if M.srt none L = false then .tuple #[.string ⟨#[]⟩, .int .i64 2] else if 4096 < L.length then .tuple #[.string ⟨#[]⟩, .int .i64 3] else .tuple #[.string (S (M.tableT L)), .int .i64 0]
theorem bE_no {L : List M.Cl} (h : M.srt none L = false) : bE L = .tuple #[.string ⟨#[]⟩, .int .i64 2] := by rw [bE, if_pos h]
theorem bE_long {L : List M.Cl} (h : M.srt none L = true) (k : 4096 < L.length) : bE L = .tuple #[.string ⟨#[]⟩, .int .i64 3] := by rw [bE, if_neg (by rw [h]; decide), if_pos k]
theorem bE_ok {L : List M.Cl} (h : M.srt none L = true) (k : ¬ 4096 < L.length) : bE L = .tuple #[.string (S (M.tableT L)), .int .i64 0] := by rw [bE, if_neg (by rw [h]; decide), if_neg k]
def BuildR (L : List M.Cl) (w : World) (e : Ending) (w' : World) : Prop := e = .returned (bE L) ∧ Below w.heap.size w w'

set_option maxHeartbeats 4000000 in
set_option maxRecDepth 100000 in
theorem build10_any (L : List M.Cl) (hl : L.length ≤ 1000000) (ao : Option Addr) (cap : Nat) (hcap : L.length ≤ cap) (w : World) (hC : ClsAt w ao L) (hv : ∀ c ∈ L, ClOk c) :
    Calls Try.prog 24 #[.slice ao L.length cap] w fun e w' => BuildR L w e w' := by
  have HC := Lib.hid hC
  have HV := Lib.hid hv
  have CS := Lib.hid (sorted9_any L hl ao cap w hC hv)
  have HCAP := Lib.hid hcap
  clear hC hv hcap
  go_enter Try.func24, Try.ntmps24
  go_wp2_with fail
  with_reducible refine (CS.out).mono ?_
  rintro e w1 ⟨rfl, hb⟩
  have HB := Lib.hid hb
  clear hb CS
  cases hs : M.srt none L with
  | false =>
    have HS := Lib.hid hs
    clear hs
    go_wp2_with fail
    go_ret2
    exact ⟨by rw [bE_no HS.out]; rfl, HB.out⟩
  | true =>
    have HS := Lib.hid hs
    clear hs
    by_cases hL : 4096 < L.length
    · have q0 : decide ((4096 : Int) < (L.length : Int)) = true := by simp; omega
      go_wp2_with fail
      go_ret2
      exact ⟨by rw [bE_long HS.out hL]; rfl, HB.out⟩
    have q0 : decide ((4096 : Int) < (L.length : Int)) = false := by simp; omega
    have HM := Lib.hid (M.srt_may HS.out)
    have HWS := Lib.hid HB.out.size
    have HT := Lib.hid (bd2_new (w := (w1.alloc (.cells #[.pointer none, .slice none 0 0] 94)).alloc (.cells #[.pointer none, .slice none 0 0] 94)) (B := w1.heap.size) (b := w1.heap.size) (c := w1.heap.size + 1) (Nat.le_refl _) (Nat.le_succ _) (by omega) ((rowIn_new _ _ w1).more _) (rowIn_at _ _ _ _ (by rw [szA])))
    replace HB := carryA (w := w1) (.cells #[.pointer none, .slice none 0 0] 94) HB
    replace HB := carryA (w := w1.alloc (.cells #[.pointer none, .slice none 0 0] 94)) (.cells #[.pointer none, .slice none 0 0] 94) HB
    have hmany : ((L.length : Int) + 4 - 1).tdiv 4 = ((M.many L : Nat) : Int) := by unfold M.many; rw [Int.tdiv_eq_ediv_of_nonneg (by omega)]; omega
    have hmb : M.many L ≤ 1024 := by unfold M.many; omega
    have hlb := hL
    go_wp2_with fail
    with_reducible refine (put_nat (M.many L) _ (by omega)).mono ?_
    rintro e w2 ⟨rfl, hb2⟩
    replace HB := carry hb2 HB
    replace HT := carry hb2 HT
    have HSZ := Lib.hid (show w1.heap.size ≤ w2.heap.size from Nat.le_trans (by rw [szA, szA]; omega) hb2.size)
    clear hb2
    have hpl := (M.putN_length (M.many L)).2
    go_wp2_with fail
    with_reducible refine (write2_any w1.heap.size (w1.heap.size + 1) w1.heap.size [] [] (M.putN (M.many L)) w2 HT.out.symm (by simp; omega) HSZ.out).mono ?_
    rintro e w3 ⟨rfl, h3, hb3, -⟩
    rw [List.nil_append] at h3
    replace HT := Lib.hid h3.symm
    replace HB := Lib.hid (HB.out.trans (hb3.mono HWS.out))
    replace HSZ := Lib.hid (Nat.le_trans HSZ.out hb3.size)
    clear h3 hb3
    go_wp2_with fail
    go_loopw [6] (fun v wr => ∃ k i : Nat, k ≤ M.many L ∧ Hid (i = 4 * k) ∧ v = .int .i64 i ∧ Hid (Bd2 w1.heap.size w1.heap.size (w1.heap.size + 1) (M.bodyS k L) (M.putN (M.many L) ++ M.idxS k L) wr ∧ Below w.heap.size w wr ∧ w1.heap.size ≤ wr.heap.size)) (fun v _ => L.length + 4 - (intOf v).toNat)
    case atStart => exact ⟨0, 0, Nat.zero_le _, Lib.hid rfl, rfl, Lib.hid ⟨by simpa [M.bodyS, M.idxS] using HT.out, HB.out, HSZ.out⟩⟩
    case round =>
      clear HT HB HSZ
      obtain ⟨k, i, hk, HI, rfl, HH⟩ := hrel
      by_cases hlt : i < L.length
      · have hd : decide ((i : Int) < (L.length : Int)) = true := by simp; omega
        obtain ⟨j, hj⟩ : ∃ j, j = min (i + 4) L.length := ⟨_, rfl⟩
        obtain ⟨ao', cp, hrun, hcls⟩ := cut_blk L ao cap k i j HI.out hj hlt HCAP.out
        have HBC := Lib.hid (hcls wr (HC.out.below HH.out.2.1))
        have CE := Lib.hid (encode9_any (M.blk L k) (by have := M.blk_len4 L k; omega) ao' cp wr HBC.out (fun c hc => HV.out c (M.blk_mem hc)))
        unfold EncR at CE
        rw [M.srt_blk HS.out k] at CE
        simp only [if_true] at CE
        have hel := M.encCs_len (M.srt_blk HS.out k) (M.blk_len4 L k)
        have HBS := Lib.hid (show M.bodyS (k + 1) L = M.bodyS k L ++ M.wsum (M.encCs (M.blk L k)) from M.bodyS_snoc k L)
        have HIS := Lib.hid (show M.idxS (k + 1) L = M.idxS k L ++ (M.putT (L.getD i M.cl0).key ++ M.putN (M.encCs (M.blk L k)).length) from by rw [HI.out]; exact M.idxS_snoc k L)
        have hbl := M.body_len HS.out k
        have hil := M.idx_len HS.out k
        have hkl := M.key_len HS.out i
        have hwl := M.wsum_len (M.encCs (M.blk L k))
        have HWL := Lib.hid hwl
        clear hwl
        obtain ⟨g, off, rfl, hc⟩ := HC.out.off i hlt
        have HCL := Lib.hid hc
        have HMIN := Lib.hid hj
        have hj1 : j ≤ L.length := by omega
        have hj2 : i < j := by omega
        have hmin : min ((i : Int) + 4) (L.length : Int) = (j : Int) := by omega
        clear hj hc
        generalize L.getD i M.cl0 = c at *
        generalize M.blk L k = bk at *
        generalize M.encCs bk = eb at *
        generalize M.bodyS k L = bs at *
        generalize M.idxS k L = is at *
        go_wp2_with fail
        with_reducible refine (CE.out).mono ?_
        rintro e w4 ⟨rfl, hb4⟩
        replace HH := Lib.hid (⟨HH.out.1.below hb4, below_step HH.out.2.1 hb4, Nat.le_trans HH.out.2.2 hb4.size⟩ : Bd2 w1.heap.size w1.heap.size (w1.heap.size + 1) bs (M.putN (M.many L) ++ is) w4 ∧ Below w.heap.size w w4 ∧ w1.heap.size ≤ w4.heap.size)
        clear hb4 hrun hcls HBC CE
        go_wp2_with fail
        with_reducible refine (withSum_any eb (by omega) w4).mono ?_
        rintro e w5 ⟨rfl, hb4⟩
        replace HH := Lib.hid (⟨HH.out.1.below hb4, below_step HH.out.2.1 hb4, Nat.le_trans HH.out.2.2 hb4.size⟩ : Bd2 w1.heap.size w1.heap.size (w1.heap.size + 1) bs (M.putN (M.many L) ++ is) w5 ∧ Below w.heap.size w w5 ∧ w1.heap.size ≤ w5.heap.size)
        clear hb4
        go_wp2_with fail
        with_reducible refine (write2_any w1.heap.size w1.heap.size (w1.heap.size + 1) bs (M.putN (M.many L) ++ is) (M.wsum eb) w5 HH.out.1 (by rw [HWL.out]; omega) HH.out.2.2).mono ?_
        rintro e w6 ⟨rfl, h6, hb6, -⟩
        replace HH := Lib.hid (⟨h6, HH.out.2.1.trans (hb6.mono HWS.out), Nat.le_trans HH.out.2.2 hb6.size⟩ : Bd2 w1.heap.size w1.heap.size (w1.heap.size + 1) (bs ++ M.wsum eb) (M.putN (M.many L) ++ is) w6 ∧ Below w.heap.size w w6 ∧ w1.heap.size ≤ w6.heap.size)
        clear h6 hb6
        obtain ⟨x0, -, -⟩ := HCL.out.below HH.out.2.1
        have hii : (i : Int) < (L.length : Int) := by omega
        go_wp2_with fail
        with_reducible refine (putText_any c.key w6 (by omega)).mono ?_
        rintro e w7 ⟨rfl, hb4⟩
        replace HH := Lib.hid (⟨HH.out.1.below hb4, below_step HH.out.2.1 hb4, Nat.le_trans HH.out.2.2 hb4.size⟩ : Bd2 w1.heap.size w1.heap.size (w1.heap.size + 1) (bs ++ M.wsum eb) (M.putN (M.many L) ++ is) w7 ∧ Below w.heap.size w w7 ∧ w1.heap.size ≤ w7.heap.size)
        clear hb4 x0
        go_wp2_with fail
        with_reducible refine (put_nat eb.length w7 (by omega)).mono ?_
        rintro e w8 ⟨rfl, hb4⟩
        replace HH := Lib.hid (⟨HH.out.1.below hb4, below_step HH.out.2.1 hb4, Nat.le_trans HH.out.2.2 hb4.size⟩ : Bd2 w1.heap.size w1.heap.size (w1.heap.size + 1) (bs ++ M.wsum eb) (M.putN (M.many L) ++ is) w8 ∧ Below w.heap.size w w8 ∧ w1.heap.size ≤ w8.heap.size)
        clear hb4
        have hp1 := (M.putN_length c.key.length).2
        have hp2 := (M.putN_length eb.length).2
        have HIS2 := Lib.hid (show M.idxS (k + 1) L = is ++ ((M.putN c.key.length ++ c.key) ++ M.putN eb.length) from HIS.out)
        clear HIS
        generalize M.putN c.key.length = e1 at *
        generalize M.putN eb.length = e2 at *
        go_wp2_with fail
        with_reducible refine (write2_any w1.heap.size (w1.heap.size + 1) w1.heap.size (M.putN (M.many L) ++ is) (bs ++ M.wsum eb) _ w8 HH.out.1.symm (by simp only [List.length_append]; omega) HH.out.2.2).mono ?_
        rintro e w9 ⟨rfl, h6, hb6, -⟩
        have HH9 := Lib.hid (⟨by have h7 := h6.symm; rw [HBS.out, HIS2.out]; simpa only [List.append_assoc] using h7, HH.out.2.1.trans (hb6.mono HWS.out), Nat.le_trans HH.out.2.2 hb6.size⟩ : Bd2 w1.heap.size w1.heap.size (w1.heap.size + 1) (M.bodyS (k + 1) L) (M.putN (M.many L) ++ M.idxS (k + 1) L) w9 ∧ Below w.heap.size w w9 ∧ w1.heap.size ≤ w9.heap.size)
        clear h6 hb6 HH
        have HK1 := Lib.hid (show k + 1 ≤ M.many L from by have := HI.out; unfold M.many; omega)
        go_wp2_with fail
        go_roundw
        case rel => exact ⟨k + 1, i + 4, HK1.out, Lib.hid (by rw [HI.out]; omega), by go_num, HH9⟩
        case measure => simp [intOf]; omega
      · have hd : decide ((i : Int) < (L.length : Int)) = false := by simp; omega
        obtain rfl : k = M.many L := by have := HI.out; unfold M.many at *; omega
        have HBL := Lib.hid (M.body_len HS.out (M.many L))
        have HIL := Lib.hid (M.idx_len HS.out (M.many L))
        have HTT := Lib.hid (show M.tableT L = M.bodyS (M.many L) L ++ M.wsum (M.putN (M.many L) ++ M.idxS (M.many L) L) ++ (M.bigN (M.bodyS (M.many L) L).length ++ M.bigN L.length ++ M.spoorT) from rfl)
        have HBE := Lib.hid (bE_ok HS.out hL)
        have hbl := HBL.out
        have hil := HIL.out
        clear HBL HIL
        have HF := Lib.hid (HH.out.1.first)
        have HBc : Hid ((Lib.byteCells (M.bodyS (M.many L) L)).length = (M.bodyS (M.many L) L).length) := Lib.hid (by simp [Lib.byteCells])
        have CL := Lib.hid (Try.Builder_Len w1.heap.size w1.heap.size (Lib.byteCells (M.bodyS (M.many L) L)) wr HF.out)
        rw [HBc.out] at CL
        have hwl := M.wsum_len (M.putN (M.many L) ++ M.idxS (M.many L) L)
        rw [List.length_append] at hwl
        have HWL := Lib.hid hwl
        clear hwl HBc
        generalize M.bodyS (M.many L) L = bs at *
        generalize M.idxS (M.many L) L = is at *
        go_wp2_with fail
        with_reducible refine (CL.out).mono ?_
        rintro e w4 ⟨rfl, rfl⟩
        clear CL HF
        go_wp2_with fail
        with_reducible refine (big_nat bs.length w4 (by omega)).mono ?_
        rintro e w5 ⟨rfl, hb4⟩
        replace HH := Lib.hid (⟨HH.out.1.below hb4, below_step HH.out.2.1 hb4, Nat.le_trans HH.out.2.2 hb4.size⟩ : Bd2 w1.heap.size w1.heap.size (w1.heap.size + 1) bs (M.putN (M.many L) ++ is) w5 ∧ Below w.heap.size w w5 ∧ w1.heap.size ≤ w5.heap.size)
        clear hb4
        go_wp2_with fail
        with_reducible refine (big_nat L.length w5 (by omega)).mono ?_
        rintro e w6 ⟨rfl, hb4⟩
        replace HH := Lib.hid (⟨HH.out.1.below hb4, below_step HH.out.2.1 hb4, Nat.le_trans HH.out.2.2 hb4.size⟩ : Bd2 w1.heap.size w1.heap.size (w1.heap.size + 1) bs (M.putN (M.many L) ++ is) w6 ∧ Below w.heap.size w w6 ∧ w1.heap.size ≤ w6.heap.size)
        clear hb4
        have hg1 : (M.bigN bs.length).length ≤ 8 := by rw [M.bigN_length]; omega
        have hg2 : (M.bigN L.length).length ≤ 8 := by rw [M.bigN_length]; omega
        generalize M.bigN bs.length = f1 at *
        generalize M.bigN L.length = f2 at *
        go_wp2_with fail
        with_reducible refine (string2_any w1.heap.size w1.heap.size (w1.heap.size + 1) bs (M.putN (M.many L) ++ is) w6 HH.out.1 HH.out.2.2).mono ?_
        rintro e w7 ⟨rfl, h6, hb6⟩
        have HH7 := Lib.hid (⟨h6, HH.out.2.1.trans (hb6.mono HWS.out), Nat.le_trans HH.out.2.2 hb6.size⟩ : BdAt w1.heap.size (w1.heap.size + 1) (M.putN (M.many L) ++ is) w7 ∧ Below w.heap.size w w7 ∧ w1.heap.size ≤ w7.heap.size)
        clear h6 hb6 HH
        go_wp2_with fail
        with_reducible refine (bd_any HH7.out.1 HH7.out.2.2).mono ?_
        rintro e w8 ⟨rfl, hb6⟩
        have HB8 := Lib.hid (HH7.out.2.1.trans (hb6.mono HWS.out))
        clear hb6 HH7
        go_wp2_with fail
        with_reducible refine (withSum_any (M.putN (M.many L) ++ is) (by simp only [List.length_append]; omega) w8).mono ?_
        rintro e w9 ⟨rfl, hb4⟩
        have HB9 := Lib.hid (below_step HB8.out hb4)
        have hwl : (M.wsum (M.putN (M.many L) ++ is)).length ≤ 100000000 := by rw [HWL.out]; omega
        clear hb4 HB8 HWL
        generalize M.wsum (M.putN (M.many L) ++ is) = ws at *
        go_wp2_with fail
        go_ret2
        exact ⟨by rw [HBE.out, HTT.out]; simp only [List.append_assoc, M.spoorT]; rfl, HB9.out⟩

end Go.Proofs.Ythidmgnfdikppaa
