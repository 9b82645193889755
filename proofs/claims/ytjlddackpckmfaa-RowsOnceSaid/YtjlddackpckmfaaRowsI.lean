/- Layer 21: the spans of cells that have not expired, the program's, by a contract. -/
import Derived.Test.YtjlddackpckmfaaRowsH
namespace Go.Proofs.Ytjlddackpckmfaa
set_option linter.unusedVariables false
open Go Go.RowKit
attribute [local go_sem ↓] run_index_S
attribute [local go_sem] S_append S_extract

theorem take_snocC {L : List M.Cl} {k : Nat} (h : k < L.length) : L.take (k + 1) = L.take k ++ [L.getD k M.cl0] := by
  rw [List.take_succ_eq_append_getElem h]; simp [List.getD, List.getElem?_eq_getElem h]
theorem live_step (n : Int) {L : List M.Cl} {k : Nat} (h : k < L.length) : M.live (L.take (k + 1)) n = M.live (L.take k) n ++ (M.liveF n (L.getD k M.cl0)).toList := by
  rw [take_snocC h, M.live_snoc]
theorem live_len (L : List M.Cl) (n : Int) : (M.live L n).length ≤ L.length := List.length_filterMap_le _ _
theorem cl_mem {cs : List M.Cl} {P : M.Cl → Prop} (h : ∀ c ∈ cs, P c) {k : Nat} (hk : k < cs.length) : P (cs.getD k M.cl0) := by
  rw [show cs.getD k M.cl0 = cs[k] from by simp [List.getD, List.getElem?_eq_getElem hk]]
  exact h _ (List.getElem_mem hk)
theorem sp_mem {L : List M.Sp} {P : M.Sp → Prop} (h : ∀ c ∈ L, P c) {k : Nat} (hk : k < L.length) : P (L.getD k M.sp0) := by
  rw [show L.getD k M.sp0 = L[k] from by simp [List.getD, List.getElem?_eq_getElem hk]]
  exact h _ (List.getElem_mem hk)
/-- What a row of spans that is handed back comes to. -/
def SpsR (T : List M.Sp) (w : World) (e : Ending) (w' : World) : Prop := ∃ ao c, e = .returned (.slice ao T.length c) ∧ w'.ownsRow w.heap.size 23 8 (.slice ao T.length c) T.length (sps T) ∧ Below w.heap.size w w'

set_option maxHeartbeats 4000000 in
set_option maxRecDepth 100000 in
theorem live_any (cs : List M.Cl) (ao : Option Addr) (cap : Nat) (n : Int) (hn1 : -9223372036854775808 ≤ n) (hn2 : n ≤ 9223372036854775807) (w : World)
    (hlen : cs.length ≤ 100000) (hcv : ∀ c ∈ cs, c.val.length ≤ 140737488351232) (hC : ClsAt w ao cs) :
    Calls Try.prog 23 #[.slice ao cs.length cap, .int .i64 n] w fun e w' => SpsR (M.live cs n) w e w' := by
  obtain ⟨i0, z0, hi, hz0, hz1, hz2, hz3⟩ := infoSp_parts
  have HV := Lib.hid hcv
  have HC := Lib.hid hC
  clear hcv hC
  go_enter Try.func23, Try.ntmps23
  go_wp2_with fail
  go_loopw [5, 12] (fun v1 i wr => ∃ (k : Nat) (T : List M.Sp) (a1 : Option Addr) (c1 : Nat), k ≤ cs.length ∧ i = .int .i64 k ∧ v1 = .slice a1 T.length c1 ∧ Hid (T = M.live (cs.take k) n) ∧
      Hid (wr.ownsRow w.heap.size 23 8 (.slice a1 T.length c1) T.length (sps T) ∧ Below w.heap.size w wr)) (fun _ i _ => cs.length - (intOf i).toNat)
  case atStart => exact ⟨0, [], none, 0, Nat.zero_le _, rfl, rfl, Lib.hid rfl, Lib.hid ⟨World.ownsRow_nil _ _ _ _, Below.refl _ _⟩⟩
  case round =>
    rename_i wr
    obtain ⟨k, T, a1, c1, hk, rfl, rfl, HT, HH⟩ := hrel
    by_cases hlt : k < cs.length
    · have hd : decide ((k : Int) < (cs.length : Int)) = true := by simp; omega
      obtain ⟨g, off, rfl, hc⟩ := (HC.out.below HH.out.2).off k hlt
      obtain ⟨x0, x1, x2⟩ := hc
      have HST := Lib.hid (live_step n hlt)
      rw [← HT.out] at HST
      have hTl : T.length ≤ k := by rw [HT.out]; exact Nat.le_trans (live_len _ _) (List.length_take_le _ _)
      have hcv := cl_mem HV.out hlt
      generalize cs.getD k M.cl0 = c at *
      have CS := Lib.hid (fun W => span_any c hcv W)
      have hsf := fun x => spanC_fits (x := x) hcv
      clear hcv
      cases hsp : M.spanC c with
      | none =>
        rw [hsp] at CS
        unfold SpanR at CS
        simp only [decX, Option.isSome] at CS
        have HF := Lib.hid (show M.liveF n c = none from by simp [M.liveF, hsp])
        clear hsp hsf
        go_wp2_with (first | (refine wpList_store_hid rfl 25 _ _ rfl wr.heap.size _ rfl rfl 25 clZ (rowIn_new clZ 25 wr) ?_ rfl (clA_one c) ?_; kernel_rfl; intro w1 hr1 hbel1 hoth1 hsz1; have hb1 := hbel1 wr.heap.size wr (Nat.le_refl _) ((Below.refl _ _).alloc (Nat.le_refl _) _); replace HH := carry hb1 HH; have HX := Lib.hid (show RowIn (clA c) 25 w1 wr.heap.size from hr1); clear hr1 hbel1 hoth1 hsz1 hb1) | (refine wpList_load_row rfl 25 _ rfl wr.heap.size rfl 25 _ (0, 0) _ HX.out Try.underlying25 rfl ?_ ?_; kernel_rfl))
        with_reducible refine (CS.out _).mono ?_
        rintro e w2 ⟨rfl, hb2⟩
        replace HH := carry hb2 HH
        clear hb2
        go_wp2_with (refine wpList_store_hid rfl 23 _ _ rfl w2.heap.size _ rfl rfl 23 (spC M.sp0) (spIn_new w2) ?_ rfl (spC_one M.sp0) ?_; kernel_rfl; intro w3 hr3 hbel3 hoth3 hsz3; have hb3 := hbel3 w2.heap.size w2 (Nat.le_refl _) ((Below.refl _ _).alloc (Nat.le_refl _) _); replace HH := carry hb3 HH; clear hr3 hbel3 hoth3 hsz3 hb3)
        go_roundw
        case rel => exact ⟨k + 1, T, a1, c1, by omega, by go_num, rfl, Lib.hid (by rw [HST.out, HF.out]; simp), HH⟩
        case measure => simp [intOf]; omega
      | some x =>
        rw [hsp] at CS
        unfold SpanR at CS
        simp only [decX, Option.isSome] at CS
        have CE := Lib.hid (fun W => expired_any x (hsf x hsp) n hn1 hn2 W)
        have HSP := Lib.hid hsp
        clear hsp hsf
        go_wp2_with (first | (refine wpList_store_hid rfl 25 _ _ rfl wr.heap.size _ rfl rfl 25 clZ (rowIn_new clZ 25 wr) ?_ rfl (clA_one c) ?_; kernel_rfl; intro w1 hr1 hbel1 hoth1 hsz1; have hb1 := hbel1 wr.heap.size wr (Nat.le_refl _) ((Below.refl _ _).alloc (Nat.le_refl _) _); replace HH := carry hb1 HH; have HX := Lib.hid (show RowIn (clA c) 25 w1 wr.heap.size from hr1); clear hr1 hbel1 hoth1 hsz1 hb1) | (refine wpList_load_row rfl 25 _ rfl wr.heap.size rfl 25 _ (0, 0) _ HX.out Try.underlying25 rfl ?_ ?_; kernel_rfl))
        with_reducible refine (CS.out _).mono ?_
        rintro e w2 ⟨rfl, hb2⟩
        replace HH := carry hb2 HH
        clear hb2 HX
        go_wp2_with (refine wpList_store_hid rfl 23 _ _ rfl w2.heap.size _ rfl rfl 23 (spC M.sp0) (spIn_new w2) ?_ rfl (spC_one x) ?_; kernel_rfl; intro w3 hr3 hbel3 hoth3 hsz3; have hb3 := hbel3 w2.heap.size w2 (Nat.le_refl _) ((Below.refl _ _).alloc (Nat.le_refl _) _); replace HH := carry hb3 HH; have HX := Lib.hid (show RowIn (spA x) 23 w3 w2.heap.size from hr3); clear hr3 hbel3 hoth3 hsz3 hb3; obtain ⟨q0, q1, q2, q3, q4, q5, q6, q7, -⟩ := HX.out.spAt)
        with_reducible refine (CE.out _).mono ?_
        rintro e w4 ⟨rfl, hb4⟩
        replace HH := carry hb4 HH
        replace HX := carry hb4 HX
        clear hb4 q0 q1 q2 q3 q4 q5 q6 q7
        cases hp : M.pastB x.start n with
        | true =>
          have HP := Lib.hid hp
          clear hp
          go_wp2_with fail
          go_roundw
          case rel => exact ⟨k + 1, T, a1, c1, by omega, by go_num, rfl, Lib.hid (by rw [HST.out]; simp [M.liveF, HSP.out, HP.out]), HH⟩
          case measure => simp [intOf]; omega
        | false =>
          have HP := Lib.hid hp
          clear hp
          go_wp2_with (first
            | (refine wpList_load_row rfl 23 _ rfl w2.heap.size rfl 23 _ (0, 0) _ HX.out Try.underlying23 rfl ?_ ?_; kernel_rfl)
            | (at_builtin; refine wpList_append_own _ rfl _ _ 27 rfl w.heap.size 23 i0 z0 8 88 Try.underlying27 hi hz0 hz1 hz2 hz3 (by decide) (.slice a1 T.length c1) T.length (sps T) rfl (HH.out.1.alloc _) ⟨w4.heap.size, 0, none⟩ 1 1 (spL x) rfl rfl (sp_new _ _ _) (spL_one x) (by unfold maxLen; omega) (by omega) (by have := HH.out.2.size; rw [szA]; omega) ?_; intro v8 w8 ho8 hg8 hn8; obtain ⟨a8, c8, rfl⟩ := ownP_shape ho8; have HO8 := Lib.hid (show w8.ownsRow w.heap.size 23 8 (.slice a8 (T.length + 1) c8) (T.length + 1) (sps (T ++ [x])) from by rw [sps_append, sps_one]; exact ho8); have HB8 := Lib.hid ((HH.out.2.alloc HH.out.2.size _).grown hg8 (by have := HH.out.2.size; rw [szA]; omega) (fun q hq => (HH.out.1.lt q hq).1)); clear ho8 hg8 hn8))
          go_roundw
          case rel =>
            have hl : (T ++ [x]).length = T.length + 1 := by simp
            exact ⟨k + 1, T ++ [x], a8, c8, by omega, by go_num, by rw [hl], Lib.hid (by rw [HST.out]; simp [M.liveF, HSP.out, HP.out]), Lib.hid ⟨by rw [hl]; exact HO8.out, HB8.out⟩⟩
          case measure => simp [intOf]; omega
    · obtain rfl : k = cs.length := by omega
      have hd : decide ((cs.length : Int) < (cs.length : Int)) = false := by simp
      have HE := Lib.hid (show T = M.live cs n from by rw [HT.out, List.take_length])
      go_wp2_with fail
      go_ret
      exact HE.out ▸ ⟨a1, c1, rfl, HH.out.1, HH.out.2⟩

end Go.Proofs.Ytjlddackpckmfaa
