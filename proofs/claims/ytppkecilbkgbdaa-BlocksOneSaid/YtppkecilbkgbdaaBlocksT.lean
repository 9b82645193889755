/- Layer 9: the document's cells of bytes, by a contract. -/
import Derived.Test.YtppkecilbkgbdaaBlocksS
import Derived.Test.YtppkecilbkgbdaaBlocksJ
namespace Go.Proofs.Ytppkecilbkgbdaa
set_option linter.unusedVariables false
open Go Go.RowKit
attribute [local go_sem ↓] run_index_S
attribute [local go_sem] S_append S_extract

theorem M.readC_ok {s last : List UInt8} {at_ nx : Nat} {c : M.Cl} {chk : Bool} (hs : s.length ≤ 1000000) (hl : last.length ≤ at_) (hat : at_ ≤ s.length) (h : M.readC chk s at_ last = some (c, nx)) : c.key.length ≤ nx ∧ nx ≤ s.length ∧ ClOk c ∧ at_ + 4 ≤ nx := by
  obtain ⟨n, q, hn, hq, hsq, ⟨rest, hk, hd⟩, hc, hnx, h4⟩ := M.readC_drop h
  have hdl := congrArg List.length hd
  simp only [List.length_drop, List.length_append, M.putT] at hdl
  have hkl : c.key.length ≤ nx := by rw [hk]; simp only [List.length_append, List.length_take]; omega
  exact ⟨hkl, hnx, ⟨by omega, by omega, ⟨by omega, by omega⟩⟩, h4⟩
set_option maxHeartbeats 8000000 in
set_option maxRecDepth 100000 in
theorem refDecode9_any (s : List UInt8) (hs : s.length ≤ 1000000) (w : World) :
    Calls Try.prog 21 #[.string (S s)] w fun e w' => DecR9 (M.decC s) w e w' := by
  rw [← M.dec_same]
  obtain ⟨j0, y0, hj, hy0, hy1, hy2, hy3⟩ := infoCl_parts
  have C0 := Lib.hid (fun W => refGet_any s 0 W (by omega))
  cases h1 : M.gets s 0 with
  | none =>
    rw [h1] at C0
    simp only [tri] at C0
    have HE := Lib.hid (M.decR_nogets h1)
    clear h1
    go_enter Try.func21, Try.ntmps21
    go_wp2_with fail
    with_reducible refine (C0.out _).mono ?_
    rintro e w1 ⟨rfl, hbq⟩
    have HB := Lib.hid hbq
    clear hbq
    go_wp2_with fail
    go_ret2
    exact HE.out ▸ ⟨rfl, HB.out⟩
  | some z =>
    obtain ⟨n, a0⟩ := z
    rw [h1] at C0
    simp only [tri] at C0
    have HST := Lib.hid (M.stG_start (chk := false) h1)
    have hn9 := (M.gets_bounds h1).2.2.2.1
    have hale : a0 ≤ s.length := (M.gets_bounds h1).2.2.1
    clear h1
    go_enter Try.func21, Try.ntmps21
    go_wp2_with fail
    with_reducible refine (C0.out _).mono ?_
    rintro e w1 ⟨rfl, hbq⟩
    have HB := Lib.hid hbq
    clear C0 hbq
    go_wp2_with fail
    go_loopw [5, 7, 8, 9] (fun v5 v7 v8 i wr => ∃ (a : Nat) (pre : List M.Cl) (ao : Option Addr) (cap : Nat), v5 = .int .i64 a ∧ v7 = .slice ao pre.length cap ∧ v8 = .string (S (M.lastK [] pre)) ∧ i = .int .i64 pre.length ∧ pre.length ≤ n ∧ 4 * pre.length ≤ a ∧ a ≤ s.length ∧ Hid (M.StG false s pre a (n - pre.length)) ∧ Hid ((M.lastK [] pre).length ≤ a ∧ ∀ c ∈ pre, ClOk c) ∧ Hid (wr.ownsRow w.heap.size 32 3 (.slice ao pre.length cap) pre.length (cls pre) ∧ Below w.heap.size w wr)) (fun _ _ _ i _ => n - (intOf i).toNat)
    case atStart => exact ⟨a0, [], none, 0, rfl, rfl, rfl, rfl, Nat.zero_le _, by simp, hale, HST, Lib.hid ⟨by simp [M.lastK], fun c hc => by simp at hc⟩, Lib.hid ⟨World.ownsRow_nil _ _ _ _, HB.out⟩⟩
    case round =>
      obtain ⟨a, pre, ao, cap, rfl, rfl, rfl, rfl, hpn, hpl, hal, HS, HK, HH⟩ := hrel
      by_cases hlt : pre.length < n
      · have hd : decide ((pre.length : Int) < (n : Int)) = true := by simp; omega
        have hd' : decide (pre.length < n) = true := by simpa using hlt
        have hS2 : M.StG false s pre a (n - (pre.length + 1) + 1) := by rw [show n - (pre.length + 1) + 1 = n - pre.length from by omega]; exact HS.out
        have hlk := HK.out.1
        have HS2 := Lib.hid hS2
        clear hS2
        generalize hlke : M.lastK [] pre = lk at *
        have HLK := Lib.hid hlke
        clear hlke
        have C1 := Lib.hid (fun W => refGet_any s a W (by omega))
        cases g1 : M.gets s a with
        | none =>
          rw [g1] at C1
          simp only [tri] at C1
          have HE := Lib.hid (M.decR_none1 HS2.out (by rw [HLK.out]; simp [M.readC, g1]))
          clear g1
          go_wp2_with fail
          with_reducible refine (C1.out _).mono ?_
          rintro e wqC1 ⟨rfl, hbq⟩
          replace HH := carry hbq HH
          clear hbq
          go_wp2_with fail
          go_ret2
          exact HE.out ▸ ⟨rfl, HH.out.2⟩
        | some x =>
          obtain ⟨m, a1⟩ := x
          rw [g1] at C1
          simp only [tri] at C1
          by_cases g2 : m ≤ lk.length
          case neg =>
            have d2 : decide ((lk.length : Int) < (m : Int)) = true := by simp; omega
            have d2' : decide (lk.length < m) = true := by simp; omega
            have HE := Lib.hid (M.decR_none1 HS2.out (by rw [HLK.out]; simp [M.readC, g1, g2]))
            clear g1 g2
            go_wp2_with fail
            with_reducible refine (C1.out _).mono ?_
            rintro e wqC1 ⟨rfl, hbq⟩
            replace HH := carry hbq HH
            clear hbq
            go_wp2_with fail
            go_ret2
            exact HE.out ▸ ⟨rfl, HH.out.2⟩
          have d2 : decide ((lk.length : Int) < (m : Int)) = false := by simp; omega
          have d2' : decide (lk.length < m) = false := by simp; omega
          have C2 := Lib.hid (fun W => refGetText_any s a1 W (by omega))
          cases g3 : M.getTs s a1 with
          | none =>
            rw [g3] at C2
            simp only [triT] at C2
            have HE := Lib.hid (M.decR_none1 HS2.out (by rw [HLK.out]; simp [M.readC, g1, g2, g3]))
            clear g1 g2 g3
            go_wp2_with fail
            with_reducible refine (C1.out _).mono ?_
            rintro e wqC1 ⟨rfl, hbq⟩
            replace HH := carry hbq HH
            clear hbq
            go_wp2_with fail
            with_reducible refine (C2.out _).mono ?_
            rintro e wqC2 ⟨rfl, hbq⟩
            replace HH := carry hbq HH
            clear hbq
            go_wp2_with fail
            go_ret2
            exact HE.out ▸ ⟨rfl, HH.out.2⟩
          | some x =>
            obtain ⟨rest, a2⟩ := x
            rw [g3] at C2
            simp only [triT] at C2
            have C3 := Lib.hid (fun W => refGet_any s a2 W (by omega))
            cases g5 : M.gets s a2 with
            | none =>
              rw [g5] at C3
              simp only [tri] at C3
              have HE := Lib.hid (M.decR_none1 HS2.out (by rw [HLK.out]; simp [M.readC, g1, g2, g3, g5]))
              clear g1 g2 g3 g5
              go_wp2_with fail
              with_reducible refine (C1.out _).mono ?_
              rintro e wqC1 ⟨rfl, hbq⟩
              replace HH := carry hbq HH
              clear hbq
              go_wp2_with fail
              with_reducible refine (C2.out _).mono ?_
              rintro e wqC2 ⟨rfl, hbq⟩
              replace HH := carry hbq HH
              clear hbq
              go_wp2_with fail
              with_reducible refine (C3.out _).mono ?_
              rintro e wqC3 ⟨rfl, hbq⟩
              replace HH := carry hbq HH
              clear hbq
              go_wp2_with fail
              go_ret2
              exact HE.out ▸ ⟨rfl, HH.out.2⟩
            | some x =>
              obtain ⟨q, a3⟩ := x
              rw [g5] at C3
              simp only [tri] at C3
              have C4 := Lib.hid (fun W => refGetText_any s a3 W (by omega))
              cases g6 : M.getTs s a3 with
              | none =>
                rw [g6] at C4
                simp only [triT] at C4
                have HE := Lib.hid (M.decR_none1 HS2.out (by rw [HLK.out]; simp [M.readC, g1, g2, g3, g5, g6]))
                clear g1 g2 g3 g5 g6
                go_wp2_with fail
                with_reducible refine (C1.out _).mono ?_
                rintro e wqC1 ⟨rfl, hbq⟩
                replace HH := carry hbq HH
                clear hbq
                go_wp2_with fail
                with_reducible refine (C2.out _).mono ?_
                rintro e wqC2 ⟨rfl, hbq⟩
                replace HH := carry hbq HH
                clear hbq
                go_wp2_with fail
                with_reducible refine (C3.out _).mono ?_
                rintro e wqC3 ⟨rfl, hbq⟩
                replace HH := carry hbq HH
                clear hbq
                go_wp2_with fail
                with_reducible refine (C4.out _).mono ?_
                rintro e wqC4 ⟨rfl, hbq⟩
                replace HH := carry hbq HH
                clear hbq
                go_wp2_with fail
                go_ret2
                exact HE.out ▸ ⟨rfl, HH.out.2⟩
              | some x =>
                obtain ⟨v, a4⟩ := x
                rw [g6] at C4
                simp only [triT] at C4
                have hrd : M.readC false s a lk = some (⟨lk.take m ++ rest, (q : Int), v⟩, a4) := by simp [M.readC, g1, g2, g3, g5, g6]
                obtain ⟨hkl, hnx, hok, hadv⟩ := M.readC_ok hs hlk hal hrd
                have HSS := Lib.hid (M.stG_step HS2.out (by rw [HLK.out]; exact hrd))
                have HOK := Lib.hid hok
                have HKL := Lib.hid hkl
                have hs0 := run_piece_to (P := Try.prog) 9 Try.underlying9 lk (m : Int) m rfl g2
                have hl1 : (lk.take m).length ≤ 1000000 := by simp; omega
                have hl2 : rest.length ≤ 1000000 := by simp only [List.length_append] at hkl; omega
                clear g1 g2 g3 g5 g6 hrd hok hkl
                generalize lk.take m = hd0 at *
                go_wp2_with fail
                with_reducible refine (C1.out _).mono ?_
                rintro e wqC1 ⟨rfl, hbq⟩
                replace HH := carry hbq HH
                clear hbq
                go_wp2_with fail
                with_reducible refine (C2.out _).mono ?_
                rintro e wqC2 ⟨rfl, hbq⟩
                replace HH := carry hbq HH
                clear hbq
                go_wp2_with fail
                with_reducible refine (C3.out _).mono ?_
                rintro e wqC3 ⟨rfl, hbq⟩
                replace HH := carry hbq HH
                clear hbq
                go_wp2_with fail
                with_reducible refine (C4.out _).mono ?_
                rintro e wqC4 ⟨rfl, hbq⟩
                replace HH := carry hbq HH
                clear hbq
                go_wp2_with (at_builtin; refine wpList_append_own _ rfl _ _ 22 rfl w.heap.size 32 j0 y0 3 40 Try.underlying22 hj hy0 hy1 hy2 hy3 (by decide) (.slice ao pre.length cap) pre.length (cls pre) rfl (HH.out.1.alloc _) ⟨wqC4.heap.size, 0, none⟩ 1 1 (clL ⟨hd0 ++ rest, (q : Int), v⟩) rfl rfl (cl_new _ ⟨hd0 ++ rest, (q : Int), v⟩ _) (clL_oneC _) (by unfold maxLen; omega) (by omega) (by have := HH.out.2.size; rw [szA]; omega) ?_; intro v8 w8 ho8 hg8 hn8; obtain ⟨a8, c8, rfl⟩ := ownP_shape ho8; have HO8 := Lib.hid (show w8.ownsRow w.heap.size 32 3 (.slice a8 (pre.length + 1) c8) (pre.length + 1) (cls (pre ++ [⟨hd0 ++ rest, (q : Int), v⟩])) from by rw [cls_append, cls_one]; exact ho8); have HB8 := Lib.hid ((HH.out.2.alloc HH.out.2.size _).grown hg8 (by have := HH.out.2.size; rw [szA]; omega) (fun q hq => (HH.out.1.lt q hq).1)); clear ho8 hg8 hn8)
                go_roundw
                case rel =>
                  have hlen : (pre ++ [(⟨hd0 ++ rest, (q : Int), v⟩ : M.Cl)]).length = pre.length + 1 := by simp
                  exact ⟨a4, pre ++ [⟨hd0 ++ rest, (q : Int), v⟩], a8, c8, rfl, by rw [hlen], by rw [M.lastK_snoc], by rw [hlen]; go_num, by rw [hlen]; omega, by rw [hlen]; omega, hnx, by rw [hlen]; exact HSS, Lib.hid ⟨by rw [M.lastK_snoc]; exact HKL.out, fun c hc => by
                    rcases List.mem_append.1 hc with hc | hc
                    · exact HK.out.2 c hc
                    · obtain rfl : c = ⟨hd0 ++ rest, (q : Int), v⟩ := (by simpa using hc)
                      exact HOK.out⟩, Lib.hid ⟨by rw [hlen]; exact HO8.out, HB8.out⟩⟩
                case measure => simp [intOf]; omega
      · have HEN := Lib.hid (show pre.length = n from by omega)
        have hd : decide ((pre.length : Int) < (n : Int)) = false := by simp; omega
        have hd' : decide (pre.length < n) = false := by simpa using hlt
        have HE := Lib.hid (M.decR_end (by have := HS.out; rwa [HEN.out, Nat.sub_self] at this))
        have HCL := Lib.hid (clsAt_own HH.out.1 rfl)
        have CE := Lib.hid (fun W h => refEncode9_any pre (by omega) ao cap W h HK.out.2)
        unfold EncR at CE
        clear hlt
        cases hsr : M.srt none pre with
        | false =>
          rw [hsr] at CE HE
          simp only [Bool.false_and, Bool.false_eq_true, if_false] at HE CE
          clear hsr
          go_wp2_with fail
          with_reducible refine (CE.out _ HCL.out).mono ?_
          rintro e w3 ⟨rfl, hb3⟩
          have HB3 := Lib.hid (below_step HH.out.2 hb3)
          clear hb3
          go_wp2_with fail
          go_ret2
          exact HE.out ▸ ⟨rfl, HB3.out⟩
        | true =>
          rw [hsr] at CE HE
          simp only [Bool.true_and, if_true] at HE CE
          clear hsr
          generalize M.encCs pre = t at *
          by_cases hts : t = s
          · have HD := Lib.hid (show M.decR s = some pre from by rw [HE.out, hts]; simp)
            have hq1 : (t == s) = true := by simpa using hts
            have hq2 : (t != s) = false := by simpa using hts
            clear hts HE
            go_wp2_with fail
            with_reducible refine (CE.out _ HCL.out).mono ?_
            rintro e w3 ⟨rfl, hb3⟩
            have HB3 := Lib.hid (below_step HH.out.2 hb3)
            have HO3 := Lib.hid (ownP_below HH.out.1 hb3)
            clear hb3
            go_wp2_with fail
            go_ret2
            exact HD.out ▸ ⟨⟨ao, cap, rfl, HO3.out⟩, HB3.out⟩
          · have HD := Lib.hid (show M.decR s = none from by rw [HE.out]; simp [hts])
            have hq1 : (t == s) = false := by simpa using hts
            have hq2 : (t != s) = true := by simpa using hts
            clear hts HE
            go_wp2_with fail
            with_reducible refine (CE.out _ HCL.out).mono ?_
            rintro e w3 ⟨rfl, hb3⟩
            have HB3 := Lib.hid (below_step HH.out.2 hb3)
            clear hb3
            go_wp2_with fail
            go_ret2
            exact HD.out ▸ ⟨rfl, HB3.out⟩

end Go.Proofs.Ytppkecilbkgbdaa
