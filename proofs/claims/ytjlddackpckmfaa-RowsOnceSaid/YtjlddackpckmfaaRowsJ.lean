/- Layer 21: the spans of a batch that are taken, the document's, by a contract. -/
import Derived.Test.YtjlddackpckmfaaRowsI
import Derived.Lib.QuietBelow
import Derived.Deep.QuietTactic
import Derived.BigQuiet
namespace Go.Proofs.Ytjlddackpckmfaa
set_option linter.unusedVariables false
open Go Go.RowKit
attribute [local go_sem ↓] run_index_S
attribute [local go_sem] S_append S_extract

theorem any_snocK {L : List M.Sp} {k : Nat} (p : M.Sp → Bool) (h : k < L.length) : (L.take (k + 1)).any p = ((L.take k).any p || p (L.getD k M.sp0)) := by
  rw [take_snocK h, List.any_append]; simp
theorem tkR_step (R : List M.Sp) (n : Int) {L : List M.Sp} {k : Nat} (h : k < L.length) : M.tkR R n (L.take (k + 1)) = if M.okR R n (M.tkR R n (L.take k)) (L.getD k M.sp0) then M.tkR R n (L.take k) ++ [L.getD k M.sp0] else M.tkR R n (L.take k) := by
  rw [take_snocK h, M.tkR_snoc, M.tkRS]
theorem tkR_memL {R : List M.Sp} {n : Int} {L : List M.Sp} {x : M.Sp} (h : x ∈ M.tkR R n L) : x ∈ L ∧ M.mayB x = true ∧ M.pastB x.start n = false := by
  induction L using M.snocI with
  | h0 => simp [M.tkR] at h
  | h1 L y ih =>
    rw [M.tkR_snoc, M.tkRS] at h
    split at h
    · rename_i hok
      rcases List.mem_append.1 h with h | h
      · have := ih h
        exact ⟨List.mem_append.2 (.inl this.1), this.2⟩
      · obtain rfl : x = y := by simpa using h
        simp only [M.okR, Bool.and_eq_true, Bool.not_eq_true'] at hok
        exact ⟨by simp, hok.1.1.1, hok.1.1.2⟩
    · have := ih h
      exact ⟨List.mem_append.2 (.inl this.1), this.2⟩
/-- The test of the first inner loop. -/
def thereB (n : Int) (x y : M.Sp) : Bool := M.same y x && !M.pastB y.start n

set_option maxHeartbeats 8000000 in
set_option maxRecDepth 100000 in
theorem refTake_rows (R L : List M.Sp) (ao bo : Option Addr) (cap cap2 : Nat) (n : Int) (hn1 : -9223372036854775808 ≤ n) (hn2 : n ≤ 9223372036854775807) (w : World)
    (hlen : L.length ≤ 100000) (hlenR : R.length ≤ 100000) (hf : ∀ x ∈ L, x.fits) (hfR : ∀ x ∈ R, x.fits) (hL : SpsAt w ao L) (hR : SpsAt w bo R) :
    Calls Try.prog 22 #[.slice bo R.length cap2, .slice ao L.length cap, .int .i64 n] w fun e w' => SpsR (M.tkR R n L) w e w' := by
  obtain ⟨i0, z0, hi, hz0, hz1, hz2, hz3⟩ := infoSp_parts
  have HF := Lib.hid hf
  have HFR := Lib.hid hfR
  have HL := Lib.hid hL
  have HR := Lib.hid hR
  clear hf hfR hL hR
  go_enter Try.func22, Try.ntmps22
  go_wp2_with fail
  go_loopw [7, 8] (fun v1 i wr => ∃ (k : Nat) (T : List M.Sp) (a1 : Option Addr) (c1 : Nat), k ≤ L.length ∧ i = .int .i64 k ∧ v1 = .slice a1 T.length c1 ∧ Hid (T = M.tkR R n (L.take k)) ∧
      Hid (wr.ownsRow w.heap.size 23 8 (.slice a1 T.length c1) T.length (sps T) ∧ Below w.heap.size w wr)) (fun _ i _ => L.length - (intOf i).toNat)
  case atStart => exact ⟨0, [], none, 0, Nat.zero_le _, rfl, rfl, Lib.hid rfl, Lib.hid ⟨World.ownsRow_nil _ _ _ _, Below.refl _ _⟩⟩
  case round =>
    rename_i wr
    obtain ⟨k, T, a1, c1, hk, rfl, rfl, HT, HH⟩ := hrel
    by_cases hlt : k < L.length
    · have hd : decide ((k : Int) < (L.length : Int)) = true := by simp; omega
      have hki : (k : Int) < (L.length : Int) := by omega
      obtain ⟨g, off, rfl, hc⟩ := (HL.out.below HH.out.2).off k hlt
      have HX := Lib.hid hc
      obtain ⟨x0, x1, x2, x3, x4, x5, x6, x7⟩ := hc
      have hfx := sp_mem HF.out hlt
      have HST := Lib.hid (tkR_step R n hlt)
      rw [← HT.out] at HST
      have hTl : T.length ≤ k := by rw [HT.out]; exact Nat.le_trans (M.tkR_len _ _ _) (List.length_take_le _ _)
      have HTl := Lib.hid hTl
      generalize hxe : L.getD k M.sp0 = x at *
      have HXE := Lib.hid hxe
      clear hxe
      have CC := Lib.hid (fun W => refCheck_any x hfx W)
      have CE := Lib.hid (fun W => refExpired_any x hfx n hn1 hn2 W)
      clear hfx hTl
      obtain ⟨ok0, hok0⟩ : ∃ b, b = (M.mayB x && !M.pastB x.start n) := ⟨_, rfl⟩
      cases hm : M.mayB x with
      | false =>
        rw [hm] at CC hok0
        have HOK := Lib.hid hok0
        clear hok0
        have HMB := Lib.hid hm
        clear hm
        go_wp2_with fail
        with_reducible refine (CC.out _).mono ?_
        rintro e w1 ⟨rfl, hb1⟩
        replace HH := carry hb1 HH
        clear hb1 x0 x1 x2 x3 x4 x5 x6 x7
        go_wp2_with fail
        clear HX
        go_loopw [9, 10] (fun okv j wq => ∃ (m : Nat) (bq : Bool), m ≤ R.length ∧ j = .int .i64 m ∧ okv = .bool bq ∧ Hid (bq = (ok0 && !((R.take m).any (thereB n x)))) ∧ Hid (wq.ownsRow w.heap.size 23 8 (.slice a1 T.length c1) T.length (sps T) ∧ Below w.heap.size w wq)) (fun _ j _ => R.length - (intOf j).toNat)
        case atStart => exact ⟨0, _, Nat.zero_le _, rfl, rfl, Lib.hid (by rw [HOK.out]; simp), HH⟩
        case round =>
          obtain ⟨m, bq, hm, rfl, rfl, HBQ, HQ⟩ := hrel
          by_cases hmt : m < R.length
          · have hdm : decide ((m : Int) < (R.length : Int)) = true := by simp; omega
            have hmi : (m : Int) < (R.length : Int) := by omega
            obtain ⟨g2, off2, rfl, hc2⟩ := (HR.out.below HQ.out.2).off m hmt
            obtain ⟨g', off', he, hcx⟩ := (HL.out.below HQ.out.2).off k hlt
            cases he
            have hfy := sp_mem HFR.out hmt
            have HAS := Lib.hid (any_snocK (thereB n x) hmt)
            rw [HXE.out] at hcx
            generalize R.getD m M.sp0 = y at *
            obtain ⟨y0, y1, y2, y3, y4, y5, y6, y7⟩ := hc2
            have xg0 := fun d os => cell_regrown hcx.1 d os
            have xg1 := fun d os => cell_regrown hcx.2.1 d os
            have yg0 := fun d os => cell_regrown y0 d os
            have yg1 := fun d os => cell_regrown y1 d os
            have yg2 := fun d os => cell_regrown y2 d os
            have yg3 := fun d os => cell_regrown y3 d os
            have yg4 := fun d os => cell_regrown y4 d os
            have yg5 := fun d os => cell_regrown y5 d os
            have yg6 := fun d os => cell_regrown y6 d os
            have yg7 := fun d os => cell_regrown y7 d os
            have CY := Lib.hid (fun W => refExpired_any y hfy n hn1 hn2 W)
            clear hcx y0 y1 y2 y3 y4 y5 y6 y7 hfy
            by_cases e1 : y.trace = x.trace
            · by_cases e2 : y.id = x.id
              · have d1 : (y.trace == x.trace) = true := by simpa using e1
                have d2 : (y.id == x.id) = true := by simpa using e2
                cases hp : M.pastB y.start n with
                | true =>
                  rw [hp] at CY
                  have HE := Lib.hid (show thereB n x y = false from by simp [thereB, hp])
                  clear e1 e2 hp
                  go_wp2_with fail
                  refine wp_region_quiet_below (by kernel_rfl) (by kernel_rfl) ?_
                  repeat (any_goals (first | go_big_quiet_step ((first | (go_at_call 37; with_reducible exact Calls.regrown_of (CY.out _)))) | quiet_step ((first | (go_at_call 37; with_reducible exact Calls.regrown_of (CY.out _))))))
                  refine wpQuiet_nil ?_
                  intro _ hw1
                  obtain ⟨⟨d1, d1o⟩, hw1⟩ := hw1
                  subst hw1
                  replace HQ := carry (below_regrown wr d1 d1o) HQ
                  go_wp2_with fail
                  go_roundw
                  case rel => exact ⟨m + 1, bq, by omega, by go_num, rfl, Lib.hid (by rw [HAS.out, HE.out, HBQ.out]; simp), HQ⟩
                  case measure => simp [intOf]; omega
                | false =>
                  rw [hp] at CY
                  have HE := Lib.hid (show thereB n x y = true from by simp [thereB, hp, M.same, e1, e2])
                  clear e1 e2 hp
                  go_wp2_with fail
                  refine wp_region_quiet_below (by kernel_rfl) (by kernel_rfl) ?_
                  repeat (any_goals (first | go_big_quiet_step ((first | (go_at_call 37; with_reducible exact Calls.regrown_of (CY.out _)))) | quiet_step ((first | (go_at_call 37; with_reducible exact Calls.regrown_of (CY.out _))))))
                  refine wpQuiet_nil ?_
                  intro _ hw1
                  obtain ⟨⟨d1, d1o⟩, hw1⟩ := hw1
                  subst hw1
                  replace HQ := carry (below_regrown wr d1 d1o) HQ
                  go_wp2_with fail
                  go_roundw
                  case rel => exact ⟨m + 1, false, by omega, by go_num, rfl, Lib.hid (by rw [HAS.out, HE.out]; simp), HQ⟩
                  case measure => simp [intOf]; omega
              · have d1 : (y.trace == x.trace) = true := by simpa using e1
                have d2 : (y.id == x.id) = false := by simpa using e2
                have HE := Lib.hid (show thereB n x y = false from by simp [thereB, M.same, e2])
                clear e1 e2
                go_wp2_with fail
                refine wp_region_quiet_below (by kernel_rfl) (by kernel_rfl) ?_
                repeat (any_goals (first | go_big_quiet_step ((fail)) | quiet_step ((fail))))
                refine wpQuiet_nil ?_
                intro _ hw1
                obtain ⟨⟨d1, d1o⟩, hw1⟩ := hw1
                subst hw1
                replace HQ := carry (below_regrown wr d1 d1o) HQ
                go_wp2_with fail
                go_roundw
                case rel => exact ⟨m + 1, bq, by omega, by go_num, rfl, Lib.hid (by rw [HAS.out, HE.out, HBQ.out]; simp), HQ⟩
                case measure => simp [intOf]; omega
            · have d1 : (y.trace == x.trace) = false := by simpa using e1
              have HE := Lib.hid (show thereB n x y = false from by simp [thereB, M.same, e1])
              clear e1
              go_wp2_with fail
              refine wp_region_quiet_below (by kernel_rfl) (by kernel_rfl) ?_
              repeat (any_goals (first | go_big_quiet_step ((fail)) | quiet_step ((fail))))
              refine wpQuiet_nil ?_
              intro _ hw1
              obtain ⟨⟨d1, d1o⟩, hw1⟩ := hw1
              subst hw1
              replace HQ := carry (below_regrown wr d1 d1o) HQ
              go_wp2_with fail
              go_roundw
              case rel => exact ⟨m + 1, bq, by omega, by go_num, rfl, Lib.hid (by rw [HAS.out, HE.out, HBQ.out]; simp), HQ⟩
              case measure => simp [intOf]; omega
          · obtain rfl : m = R.length := by omega
            have hdm : decide ((R.length : Int) < (R.length : Int)) = false := by simp
            replace HBQ := Lib.hid (HBQ.out.trans (by rw [List.take_length]))
            go_wp2_with fail
            go_loopw [9, 11] (fun okv j wq => ∃ (m : Nat) (bt : Bool), m ≤ T.length ∧ j = .int .i64 m ∧ okv = .bool bt ∧ Hid (bt = (bq && !((T.take m).any fun y => M.same y x))) ∧ Hid (wq.ownsRow w.heap.size 23 8 (.slice a1 T.length c1) T.length (sps T) ∧ Below w.heap.size w wq)) (fun _ j _ => T.length - (intOf j).toNat)
            case atStart => exact ⟨0, _, Nat.zero_le _, rfl, rfl, Lib.hid (by simp), HQ⟩
            case round =>
              obtain ⟨m, bt, hm, rfl, rfl, HBT, HU⟩ := hrel
              have hTl := HTl.out
              clear HQ
              by_cases hmt : m < T.length
              · have hdm : decide ((m : Int) < (T.length : Int)) = true := by simp; omega
                have hmi : (m : Int) < (T.length : Int) := by omega
                obtain ⟨g2, off2, rfl, hc2⟩ := (spsAt_own HU.out.1 rfl).off m hmt
                obtain ⟨g', off', he, hcx⟩ := (HL.out.below HU.out.2).off k hlt
                cases he
                have HAS := Lib.hid (any_snocK (fun y => M.same y x) hmt)
                rw [HXE.out] at hcx
                generalize T.getD m M.sp0 = y at *
                have xg0 := fun d os => cell_regrown hcx.1 d os
                have xg1 := fun d os => cell_regrown hcx.2.1 d os
                have yg0 := fun d os => cell_regrown hc2.1 d os
                have yg1 := fun d os => cell_regrown hc2.2.1 d os
                clear hcx hc2
                by_cases e1 : y.trace = x.trace
                · by_cases e2 : y.id = x.id
                  · have d1 : (y.trace == x.trace) = true := by simpa using e1
                    have d2 : (y.id == x.id) = true := by simpa using e2
                    have HE := Lib.hid (show M.same y x = true from by simp [M.same, e1, e2])
                    clear e1 e2
                    go_wp2_with fail
                    refine wp_region_quiet_below (by kernel_rfl) (by kernel_rfl) ?_
                    repeat (any_goals (first | go_big_quiet_step ((fail)) | quiet_step ((fail))))
                    refine wpQuiet_nil ?_
                    intro _ hw1
                    obtain ⟨⟨d1, d1o⟩, hw1⟩ := hw1
                    subst hw1
                    replace HU := carry (below_regrown wr d1 d1o) HU
                    go_wp2_with fail
                    go_roundw
                    case rel => exact ⟨m + 1, false, by omega, by go_num, rfl, Lib.hid (by rw [HAS.out, HE.out]; simp), HU⟩
                    case measure => simp [intOf]; omega
                  · have d1 : (y.trace == x.trace) = true := by simpa using e1
                    have d2 : (y.id == x.id) = false := by simpa using e2
                    have HE := Lib.hid (show M.same y x = false from by simp [M.same, e2])
                    clear e1 e2
                    go_wp2_with fail
                    refine wp_region_quiet_below (by kernel_rfl) (by kernel_rfl) ?_
                    repeat (any_goals (first | go_big_quiet_step ((fail)) | quiet_step ((fail))))
                    refine wpQuiet_nil ?_
                    intro _ hw1
                    obtain ⟨⟨d1, d1o⟩, hw1⟩ := hw1
                    subst hw1
                    replace HU := carry (below_regrown wr d1 d1o) HU
                    go_wp2_with fail
                    go_roundw
                    case rel => exact ⟨m + 1, bt, by omega, by go_num, rfl, Lib.hid (by rw [HAS.out, HE.out, HBT.out]; simp), HU⟩
                    case measure => simp [intOf]; omega
                · have d1 : (y.trace == x.trace) = false := by simpa using e1
                  have HE := Lib.hid (show M.same y x = false from by simp [M.same, e1])
                  clear e1
                  go_wp2_with fail
                  refine wp_region_quiet_below (by kernel_rfl) (by kernel_rfl) ?_
                  repeat (any_goals (first | go_big_quiet_step ((fail)) | quiet_step ((fail))))
                  refine wpQuiet_nil ?_
                  intro _ hw1
                  obtain ⟨⟨d1, d1o⟩, hw1⟩ := hw1
                  subst hw1
                  replace HU := carry (below_regrown wr d1 d1o) HU
                  go_wp2_with fail
                  go_roundw
                  case rel => exact ⟨m + 1, bt, by omega, by go_num, rfl, Lib.hid (by rw [HAS.out, HE.out, HBT.out]; simp), HU⟩
                  case measure => simp [intOf]; omega
              · obtain rfl : m = T.length := by omega
                have hdm : decide ((T.length : Int) < (T.length : Int)) = false := by simp
                have HOKR := Lib.hid (show M.okR R n T x = bt from by rw [HBT.out, HBQ.out, HOK.out, List.take_length, HMB.out.symm]; rfl)
                cases bt with
                | false =>
                  go_wp2_with fail
                  go_roundw
                  case rel => exact ⟨k + 1, T, a1, c1, by omega, by go_num, rfl, Lib.hid (by rw [HST.out, HOKR.out]; rfl), HU⟩
                  case measure => simp [intOf]; omega
                | true =>
                  obtain ⟨g', off', he, hcx⟩ := (HL.out.below HU.out.2).off k hlt
                  cases he
                  rw [HXE.out] at hcx
                  obtain ⟨x0, x1, x2, x3, x4, x5, x6, x7⟩ := hcx
                  go_wp2_with (at_builtin; refine wpList_append_own _ rfl _ _ 27 rfl w.heap.size 23 i0 z0 8 88 Try.underlying27 hi hz0 hz1 hz2 hz3 (by decide) (.slice a1 T.length c1) T.length (sps T) rfl (HU.out.1.alloc _) ⟨wr.heap.size, 0, none⟩ 1 1 (spL x) rfl rfl (sp_new _ _ _) (spL_one x) (by have := HTl.out; unfold maxLen; omega) (by have := HTl.out; omega) (by have := HU.out.2.size; rw [szA]; omega) ?_; intro v8 w8 ho8 hg8 hn8; obtain ⟨a8, c8, rfl⟩ := ownP_shape ho8; have HO8 := Lib.hid (show w8.ownsRow w.heap.size 23 8 (.slice a8 (T.length + 1) c8) (T.length + 1) (sps (T ++ [x])) from by rw [sps_append, sps_one]; exact ho8); have HB8 := Lib.hid ((HU.out.2.alloc HU.out.2.size _).grown hg8 (by have := HU.out.2.size; rw [szA]; omega) (fun q hq => (HU.out.1.lt q hq).1)); clear ho8 hg8 hn8)
                  go_roundw
                  case rel =>
                    have hl : (T ++ [x]).length = T.length + 1 := by simp
                    exact ⟨k + 1, T ++ [x], a8, c8, by omega, by go_num, by rw [hl], Lib.hid (by rw [HST.out, HOKR.out]; rfl), Lib.hid ⟨by rw [hl]; exact HO8.out, HB8.out⟩⟩
                  case measure => simp [intOf]; omega
      | true =>
        rw [hm] at CC hok0
        have HOK := Lib.hid hok0
        clear hok0
        have HMB := Lib.hid hm
        clear hm
        go_wp2_with fail
        with_reducible refine (CC.out _).mono ?_
        rintro e w0 ⟨rfl, hb0⟩
        replace HH := carry hb0 HH
        replace HX := Lib.hid (HX.out.below hb0)
        clear hb0 x0 x1 x2 x3 x4 x5 x6 x7
        obtain ⟨x0, x1, x2, x3, x4, x5, x6, x7⟩ := HX.out
        go_wp2_with fail
        with_reducible refine (CE.out _).mono ?_
        rintro e w1 ⟨rfl, hb1⟩
        replace HH := carry hb1 HH
        clear hb1 x0 x1 x2 x3 x4 x5 x6 x7
        go_wp2_with fail
        clear HX
        go_loopw [9, 10] (fun okv j wq => ∃ (m : Nat) (bq : Bool), m ≤ R.length ∧ j = .int .i64 m ∧ okv = .bool bq ∧ Hid (bq = (ok0 && !((R.take m).any (thereB n x)))) ∧ Hid (wq.ownsRow w.heap.size 23 8 (.slice a1 T.length c1) T.length (sps T) ∧ Below w.heap.size w wq)) (fun _ j _ => R.length - (intOf j).toNat)
        case atStart => exact ⟨0, _, Nat.zero_le _, rfl, rfl, Lib.hid (by rw [HOK.out]; simp), HH⟩
        case round =>
          obtain ⟨m, bq, hm, rfl, rfl, HBQ, HQ⟩ := hrel
          by_cases hmt : m < R.length
          · have hdm : decide ((m : Int) < (R.length : Int)) = true := by simp; omega
            have hmi : (m : Int) < (R.length : Int) := by omega
            obtain ⟨g2, off2, rfl, hc2⟩ := (HR.out.below HQ.out.2).off m hmt
            obtain ⟨g', off', he, hcx⟩ := (HL.out.below HQ.out.2).off k hlt
            cases he
            have hfy := sp_mem HFR.out hmt
            have HAS := Lib.hid (any_snocK (thereB n x) hmt)
            rw [HXE.out] at hcx
            generalize R.getD m M.sp0 = y at *
            obtain ⟨y0, y1, y2, y3, y4, y5, y6, y7⟩ := hc2
            have xg0 := fun d os => cell_regrown hcx.1 d os
            have xg1 := fun d os => cell_regrown hcx.2.1 d os
            have yg0 := fun d os => cell_regrown y0 d os
            have yg1 := fun d os => cell_regrown y1 d os
            have yg2 := fun d os => cell_regrown y2 d os
            have yg3 := fun d os => cell_regrown y3 d os
            have yg4 := fun d os => cell_regrown y4 d os
            have yg5 := fun d os => cell_regrown y5 d os
            have yg6 := fun d os => cell_regrown y6 d os
            have yg7 := fun d os => cell_regrown y7 d os
            have CY := Lib.hid (fun W => refExpired_any y hfy n hn1 hn2 W)
            clear hcx y0 y1 y2 y3 y4 y5 y6 y7 hfy
            by_cases e1 : y.trace = x.trace
            · by_cases e2 : y.id = x.id
              · have d1 : (y.trace == x.trace) = true := by simpa using e1
                have d2 : (y.id == x.id) = true := by simpa using e2
                cases hp : M.pastB y.start n with
                | true =>
                  rw [hp] at CY
                  have HE := Lib.hid (show thereB n x y = false from by simp [thereB, hp])
                  clear e1 e2 hp
                  go_wp2_with fail
                  refine wp_region_quiet_below (by kernel_rfl) (by kernel_rfl) ?_
                  repeat (any_goals (first | go_big_quiet_step ((first | (go_at_call 37; with_reducible exact Calls.regrown_of (CY.out _)))) | quiet_step ((first | (go_at_call 37; with_reducible exact Calls.regrown_of (CY.out _))))))
                  refine wpQuiet_nil ?_
                  intro _ hw1
                  obtain ⟨⟨d1, d1o⟩, hw1⟩ := hw1
                  subst hw1
                  replace HQ := carry (below_regrown wr d1 d1o) HQ
                  go_wp2_with fail
                  go_roundw
                  case rel => exact ⟨m + 1, bq, by omega, by go_num, rfl, Lib.hid (by rw [HAS.out, HE.out, HBQ.out]; simp), HQ⟩
                  case measure => simp [intOf]; omega
                | false =>
                  rw [hp] at CY
                  have HE := Lib.hid (show thereB n x y = true from by simp [thereB, hp, M.same, e1, e2])
                  clear e1 e2 hp
                  go_wp2_with fail
                  refine wp_region_quiet_below (by kernel_rfl) (by kernel_rfl) ?_
                  repeat (any_goals (first | go_big_quiet_step ((first | (go_at_call 37; with_reducible exact Calls.regrown_of (CY.out _)))) | quiet_step ((first | (go_at_call 37; with_reducible exact Calls.regrown_of (CY.out _))))))
                  refine wpQuiet_nil ?_
                  intro _ hw1
                  obtain ⟨⟨d1, d1o⟩, hw1⟩ := hw1
                  subst hw1
                  replace HQ := carry (below_regrown wr d1 d1o) HQ
                  go_wp2_with fail
                  go_roundw
                  case rel => exact ⟨m + 1, false, by omega, by go_num, rfl, Lib.hid (by rw [HAS.out, HE.out]; simp), HQ⟩
                  case measure => simp [intOf]; omega
              · have d1 : (y.trace == x.trace) = true := by simpa using e1
                have d2 : (y.id == x.id) = false := by simpa using e2
                have HE := Lib.hid (show thereB n x y = false from by simp [thereB, M.same, e2])
                clear e1 e2
                go_wp2_with fail
                refine wp_region_quiet_below (by kernel_rfl) (by kernel_rfl) ?_
                repeat (any_goals (first | go_big_quiet_step ((fail)) | quiet_step ((fail))))
                refine wpQuiet_nil ?_
                intro _ hw1
                obtain ⟨⟨d1, d1o⟩, hw1⟩ := hw1
                subst hw1
                replace HQ := carry (below_regrown wr d1 d1o) HQ
                go_wp2_with fail
                go_roundw
                case rel => exact ⟨m + 1, bq, by omega, by go_num, rfl, Lib.hid (by rw [HAS.out, HE.out, HBQ.out]; simp), HQ⟩
                case measure => simp [intOf]; omega
            · have d1 : (y.trace == x.trace) = false := by simpa using e1
              have HE := Lib.hid (show thereB n x y = false from by simp [thereB, M.same, e1])
              clear e1
              go_wp2_with fail
              refine wp_region_quiet_below (by kernel_rfl) (by kernel_rfl) ?_
              repeat (any_goals (first | go_big_quiet_step ((fail)) | quiet_step ((fail))))
              refine wpQuiet_nil ?_
              intro _ hw1
              obtain ⟨⟨d1, d1o⟩, hw1⟩ := hw1
              subst hw1
              replace HQ := carry (below_regrown wr d1 d1o) HQ
              go_wp2_with fail
              go_roundw
              case rel => exact ⟨m + 1, bq, by omega, by go_num, rfl, Lib.hid (by rw [HAS.out, HE.out, HBQ.out]; simp), HQ⟩
              case measure => simp [intOf]; omega
          · obtain rfl : m = R.length := by omega
            have hdm : decide ((R.length : Int) < (R.length : Int)) = false := by simp
            replace HBQ := Lib.hid (HBQ.out.trans (by rw [List.take_length]))
            go_wp2_with fail
            go_loopw [9, 11] (fun okv j wq => ∃ (m : Nat) (bt : Bool), m ≤ T.length ∧ j = .int .i64 m ∧ okv = .bool bt ∧ Hid (bt = (bq && !((T.take m).any fun y => M.same y x))) ∧ Hid (wq.ownsRow w.heap.size 23 8 (.slice a1 T.length c1) T.length (sps T) ∧ Below w.heap.size w wq)) (fun _ j _ => T.length - (intOf j).toNat)
            case atStart => exact ⟨0, _, Nat.zero_le _, rfl, rfl, Lib.hid (by simp), HQ⟩
            case round =>
              obtain ⟨m, bt, hm, rfl, rfl, HBT, HU⟩ := hrel
              have hTl := HTl.out
              clear HQ
              by_cases hmt : m < T.length
              · have hdm : decide ((m : Int) < (T.length : Int)) = true := by simp; omega
                have hmi : (m : Int) < (T.length : Int) := by omega
                obtain ⟨g2, off2, rfl, hc2⟩ := (spsAt_own HU.out.1 rfl).off m hmt
                obtain ⟨g', off', he, hcx⟩ := (HL.out.below HU.out.2).off k hlt
                cases he
                have HAS := Lib.hid (any_snocK (fun y => M.same y x) hmt)
                rw [HXE.out] at hcx
                generalize T.getD m M.sp0 = y at *
                have xg0 := fun d os => cell_regrown hcx.1 d os
                have xg1 := fun d os => cell_regrown hcx.2.1 d os
                have yg0 := fun d os => cell_regrown hc2.1 d os
                have yg1 := fun d os => cell_regrown hc2.2.1 d os
                clear hcx hc2
                by_cases e1 : y.trace = x.trace
                · by_cases e2 : y.id = x.id
                  · have d1 : (y.trace == x.trace) = true := by simpa using e1
                    have d2 : (y.id == x.id) = true := by simpa using e2
                    have HE := Lib.hid (show M.same y x = true from by simp [M.same, e1, e2])
                    clear e1 e2
                    go_wp2_with fail
                    refine wp_region_quiet_below (by kernel_rfl) (by kernel_rfl) ?_
                    repeat (any_goals (first | go_big_quiet_step ((fail)) | quiet_step ((fail))))
                    refine wpQuiet_nil ?_
                    intro _ hw1
                    obtain ⟨⟨d1, d1o⟩, hw1⟩ := hw1
                    subst hw1
                    replace HU := carry (below_regrown wr d1 d1o) HU
                    go_wp2_with fail
                    go_roundw
                    case rel => exact ⟨m + 1, false, by omega, by go_num, rfl, Lib.hid (by rw [HAS.out, HE.out]; simp), HU⟩
                    case measure => simp [intOf]; omega
                  · have d1 : (y.trace == x.trace) = true := by simpa using e1
                    have d2 : (y.id == x.id) = false := by simpa using e2
                    have HE := Lib.hid (show M.same y x = false from by simp [M.same, e2])
                    clear e1 e2
                    go_wp2_with fail
                    refine wp_region_quiet_below (by kernel_rfl) (by kernel_rfl) ?_
                    repeat (any_goals (first | go_big_quiet_step ((fail)) | quiet_step ((fail))))
                    refine wpQuiet_nil ?_
                    intro _ hw1
                    obtain ⟨⟨d1, d1o⟩, hw1⟩ := hw1
                    subst hw1
                    replace HU := carry (below_regrown wr d1 d1o) HU
                    go_wp2_with fail
                    go_roundw
                    case rel => exact ⟨m + 1, bt, by omega, by go_num, rfl, Lib.hid (by rw [HAS.out, HE.out, HBT.out]; simp), HU⟩
                    case measure => simp [intOf]; omega
                · have d1 : (y.trace == x.trace) = false := by simpa using e1
                  have HE := Lib.hid (show M.same y x = false from by simp [M.same, e1])
                  clear e1
                  go_wp2_with fail
                  refine wp_region_quiet_below (by kernel_rfl) (by kernel_rfl) ?_
                  repeat (any_goals (first | go_big_quiet_step ((fail)) | quiet_step ((fail))))
                  refine wpQuiet_nil ?_
                  intro _ hw1
                  obtain ⟨⟨d1, d1o⟩, hw1⟩ := hw1
                  subst hw1
                  replace HU := carry (below_regrown wr d1 d1o) HU
                  go_wp2_with fail
                  go_roundw
                  case rel => exact ⟨m + 1, bt, by omega, by go_num, rfl, Lib.hid (by rw [HAS.out, HE.out, HBT.out]; simp), HU⟩
                  case measure => simp [intOf]; omega
              · obtain rfl : m = T.length := by omega
                have hdm : decide ((T.length : Int) < (T.length : Int)) = false := by simp
                have HOKR := Lib.hid (show M.okR R n T x = bt from by rw [HBT.out, HBQ.out, HOK.out, List.take_length, HMB.out.symm]; rfl)
                cases bt with
                | false =>
                  go_wp2_with fail
                  go_roundw
                  case rel => exact ⟨k + 1, T, a1, c1, by omega, by go_num, rfl, Lib.hid (by rw [HST.out, HOKR.out]; rfl), HU⟩
                  case measure => simp [intOf]; omega
                | true =>
                  obtain ⟨g', off', he, hcx⟩ := (HL.out.below HU.out.2).off k hlt
                  cases he
                  rw [HXE.out] at hcx
                  obtain ⟨x0, x1, x2, x3, x4, x5, x6, x7⟩ := hcx
                  go_wp2_with (at_builtin; refine wpList_append_own _ rfl _ _ 27 rfl w.heap.size 23 i0 z0 8 88 Try.underlying27 hi hz0 hz1 hz2 hz3 (by decide) (.slice a1 T.length c1) T.length (sps T) rfl (HU.out.1.alloc _) ⟨wr.heap.size, 0, none⟩ 1 1 (spL x) rfl rfl (sp_new _ _ _) (spL_one x) (by have := HTl.out; unfold maxLen; omega) (by have := HTl.out; omega) (by have := HU.out.2.size; rw [szA]; omega) ?_; intro v8 w8 ho8 hg8 hn8; obtain ⟨a8, c8, rfl⟩ := ownP_shape ho8; have HO8 := Lib.hid (show w8.ownsRow w.heap.size 23 8 (.slice a8 (T.length + 1) c8) (T.length + 1) (sps (T ++ [x])) from by rw [sps_append, sps_one]; exact ho8); have HB8 := Lib.hid ((HU.out.2.alloc HU.out.2.size _).grown hg8 (by have := HU.out.2.size; rw [szA]; omega) (fun q hq => (HU.out.1.lt q hq).1)); clear ho8 hg8 hn8)
                  go_roundw
                  case rel =>
                    have hl : (T ++ [x]).length = T.length + 1 := by simp
                    exact ⟨k + 1, T ++ [x], a8, c8, by omega, by go_num, by rw [hl], Lib.hid (by rw [HST.out, HOKR.out]; rfl), Lib.hid ⟨by rw [hl]; exact HO8.out, HB8.out⟩⟩
                  case measure => simp [intOf]; omega
    · obtain rfl : k = L.length := by omega
      have hd : decide ((L.length : Int) < (L.length : Int)) = false := by simp
      have HE := Lib.hid (show T = M.tkR R n L from by rw [HT.out, List.take_length])
      go_wp2_with fail
      go_ret
      exact HE.out ▸ ⟨a1, c1, rfl, HH.out.1, HH.out.2⟩

end Go.Proofs.Ytjlddackpckmfaa

