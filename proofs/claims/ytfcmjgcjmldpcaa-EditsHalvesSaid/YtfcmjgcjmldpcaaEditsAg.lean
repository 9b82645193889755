/- Layer 16: EditsHalves. -/
import Derived.Test.YtfcmjgcjmldpcaaEditsAf
namespace Go.Proofs.Ytfcmjgcjmldpcaa
set_option linter.unusedVariables false
set_option linter.unusedSimpArgs false
open Go Go.RowKit
attribute [local go_sem ↓] run_index_S
attribute [local go_sem] S_append S_extract

namespace Ed
theorem split_getD {T : List Tb} {k : Nat} (hk : k < T.length) (x : Tb) (i : Nat) : (T.take (k + 1) ++ x :: T.drop (k + 1)).getD i tb0 = if i < k + 1 then T.getD i tb0 else if i = k + 1 then x else T.getD (i - 1) tb0 := by
  have hl : (T.take (k + 1)).length = k + 1 := by rw [List.length_take]; omega
  by_cases h1 : i < k + 1
  · rw [if_pos h1]
    simp only [List.getD]
    rw [List.getElem?_append_left (by omega), List.getElem?_take, if_pos h1]
  · rw [if_neg h1]
    simp only [List.getD]
    rw [List.getElem?_append_right (by omega), hl]
    by_cases h2 : i = k + 1
    · rw [if_pos h2, h2, Nat.sub_self]; rfl
    · rw [if_neg h2]
      rw [show i - (k + 1) = (i - (k + 2)) + 1 from by omega, List.getElem?_cons_succ, List.getElem?_drop, show k + 1 + (i - (k + 2)) = i - 1 from by omega]
theorem split_length {T : List Tb} {k : Nat} (hk : k < T.length) (x : Tb) : (T.take (k + 1) ++ x :: T.drop (k + 1)).length = T.length + 1 := by
  simp only [List.length_append, List.length_take, List.length_cons, List.length_drop]; omega
def spl (s : St) (k : Nat) (key : List UInt8) : St := ⟨s.T.take (k + 1) ++ ⟨key, (s.T.getD k tb0).l⟩ :: s.T.drop (k + 1), s.log, s.next⟩
theorem split_ok {s : St} (h : Ok s) {k : Nat} (hk : k < s.T.length) {key : List UInt8} (h64 : key.length ≤ 64) (h16 : s.T.length < 16) (h1 : Op.bytesLess (s.T.getD k tb0).f key = true) (h2 : k + 1 < s.T.length → Op.bytesLess key (s.T.getD (k + 1) tb0).f = true) : Ok (spl s k key) := by
  refine ⟨by unfold spl; simp only; rw [split_length hk]; omega, by unfold spl; simp only; rw [split_length hk]; omega, h.log1, h.logN, h.nextM, ?_, fun i hi => ?_⟩
  · unfold spl; simp only; rw [split_getD hk, if_pos (by omega)]; exact h.fst
  · unfold spl at hi ⊢
    simp only at hi ⊢
    rw [split_length hk] at hi
    unfold okAt
    rw [split_getD hk, split_getD hk]
    by_cases a1 : i < k + 1
    · rw [if_pos a1, if_pos (by omega)]
      exact h.each i (by omega)
    · rw [if_neg a1]
      by_cases a2 : i = k + 1
      · rw [if_pos a2, if_pos (by omega)]
        refine ⟨fun _ => ?_, h64, (h.each k hk).2.2⟩
        rw [show i - 1 = k from by omega]; exact h1
      · rw [if_neg a2]
        have h3 := h.each (i - 1) (by omega)
        by_cases a3 : i = k + 2
        · rw [if_neg (by omega), if_pos (by omega)]
          refine ⟨fun _ => ?_, h3.2⟩
          rw [show i - 1 = k + 1 from by omega]; exact h2 (by omega)
        · rw [if_neg (by omega), if_neg (by omega)]
          exact ⟨fun _ => h3.1 (by omega), h3.2⟩
theorem up_strict {next : Int} : ∀ {l : List Int} {last : Int}, up last next l → l.Pairwise (· < ·)
  | [], _, _ => List.Pairwise.nil
  | x :: t, last, ⟨_, _, h⟩ => List.pairwise_cons.2 ⟨fun y hy => (up_take h y hy).1, up_strict h⟩
theorem uni_twice {l : List Int} (h : l.Pairwise (· < ·)) : uni (l ++ l) = l :=
  strict_eq (uni_spec _).1 h (fun x => by rw [(uni_spec _).2]; simp)
theorem merge_back {s : St} (h : Ok s) {k : Nat} (hk : k < s.T.length) (key : List UInt8) : edit (spl s k key) ⟨4, k, 0, [], []⟩ = some s := by
  rw [edit_in (k := k) (by simp) rfl (by unfold spl; simp only; rw [split_length hk]; omega)]
  have hT : (spl s k key).T = s.T.take (k + 1) ++ ⟨key, (s.T.getD k tb0).l⟩ :: s.T.drop (k + 1) := rfl
  rw [if_neg (by simp), if_neg (by simp), if_neg (by simp), if_pos rfl, if_pos (by rw [hT, split_length hk]; omega)]
  congr 1
  have hg0 : (spl s k key).T.getD k tb0 = s.T.getD k tb0 := by rw [hT, split_getD hk, if_pos (by omega)]
  have hg1 : (spl s k key).T.getD (k + 1) tb0 = ⟨key, (s.T.getD k tb0).l⟩ := by rw [hT, split_getD hk, if_neg (by omega), if_pos rfl]
  refine St_ext ?_ rfl rfl
  simp only
  rw [hg0, hg1]
  simp only
  rw [uni_twice (up_strict (h.each k hk).2.2.1)]
  have e1 : (spl s k key).T.take k = s.T.take k := by
    rw [hT, List.take_append_of_le_length (by rw [List.length_take]; omega), List.take_take, Nat.min_eq_left (by omega)]
  have e2 : (spl s k key).T.drop (k + 2) = s.T.drop (k + 1) := by
    rw [hT, List.drop_append, List.drop_eq_nil_of_le (by rw [List.length_take]; omega), List.nil_append]
    have : k + 2 - (s.T.take (k + 1)).length = 1 := by rw [List.length_take]; omega
    rw [this]; rfl
  rw [e1, e2]
  have e3 : s.T.drop k = s.T.getD k tb0 :: s.T.drop (k + 1) := by
    have : s.T.getD k tb0 = s.T[k] := by simp [List.getD, hk]
    rw [this]; exact List.drop_eq_getElem_cons hk
  show s.T.take k ++ s.T.getD k tb0 :: s.T.drop (k + 1) = s.T
  rw [← e3, List.take_append_drop]
open Classical in
theorem apply_split {s : St} (h : Ok s) {k : Nat} (hk : k < s.T.length) (key : List UInt8) : apply s ⟨3, k, 0, [], key⟩ = if Ok (spl s k key) then some (spl s k key) else none :=
  apply_some (e := ⟨3, k, 0, [], key⟩) ⟨h, by simp, by simp⟩ (by rw [edit_in (k := k) (by simp) rfl hk, if_neg (by simp), if_neg (by simp), if_pos rfl]; rfl)
theorem apply_merge_back {s : St} (h : Ok s) {k : Nat} (hk : k < s.T.length) {key : List UInt8} (h2 : Ok (spl s k key)) : apply (spl s k key) ⟨4, k, 0, [], []⟩ = some s := apply_eq h2 ⟨by simp, by simp⟩ (merge_back h hk key) h
/-- A key at which a tablet may not be parted. -/
theorem split_not {s : St} (h : Ok s) {k : Nat} (hk : k < s.T.length) {key : List UInt8} (h64 : key.length ≤ 64) (hno : ¬ Ok (spl s k key)) :
    (Op.bytesLess key (s.T.getD k tb0).f || (key == (s.T.getD k tb0).f)) = true ∨ (k + 1 < s.T.length ∧ Op.bytesLess key (s.T.getD (k + 1) tb0).f = false) ∨ s.T.length = 16 := by
  by_cases h1 : Op.bytesLess (s.T.getD k tb0).f key = true
  · by_cases h2 : k + 1 < s.T.length → Op.bytesLess key (s.T.getD (k + 1) tb0).f = true
    · right; right
      have := h.n16
      by_cases h16 : s.T.length < 16
      · exact absurd (split_ok h hk h64 h16 h1 h2) hno
      · omega
    · right; left
      by_cases h3 : k + 1 < s.T.length
      · refine ⟨h3, ?_⟩
        cases q : Op.bytesLess key (s.T.getD (k + 1) tb0).f with
        | false => rfl
        | true => exact absurd (fun _ => q) h2
      · exact absurd (fun h => absurd h h3) h2
  · left
    have h1' : Op.bytesLess (s.T.getD k tb0).f key = false := by simpa using h1
    by_cases e : key = (s.T.getD k tb0).f
    · simp [e]
    · have := less_flip (s.T.getD k tb0).f key (fun h => e h.symm)
      rw [h1'] at this
      rw [this]; rfl
end Ed

set_option maxHeartbeats 8000000 in
set_option maxRecDepth 100000 in
theorem editsHalves_calls (W : World) (v : Value) (hv : UEds W v) (a : Int) (ha : (Lit.int .u8 a).wf = true) (key : List UInt8) (hkl : key.length ≤ 140737488351232) :
    Calls Try.prog 8 #[v, .int .u8 a, .string (S key)] W fun e w' => e = .returned (.bool true) ∧ Below W.heap.size W w' := by
  obtain ⟨L, lo, lc, rfl, hin, hN⟩ := hv
  have ha2 : 0 ≤ a ∧ a ≤ 255 := by simp [Lit.wf, IntKind.min, IntKind.max, IntKind.bits, IntKind.signed] at ha; omega
  have HIN := Lib.hid hin
  have HN := Lib.hid hN
  have CB := Lib.hid (beyond16_any L hin.ok lo lc 40 W hN)
  have hLn := hin.n
  have CL := Lib.hid lives16_any
  clear hin hN ha
  go_enter Try.func8, Try.ntmps8
  go_wp2_with fail
  with_reducible refine (CB.out).mono ?_
  rintro e w1 ⟨rfl | ⟨rfl, hn40, hsm⟩, rfl⟩
  · go_wp2_with fail
    with_reducible refine (CL.out _).mono ?_
    rintro e w2 ⟨rfl, hb⟩
    have HB := Lib.hid hb
    clear hb
    go_wp2_with fail
    go_ret
    exact ⟨rfl, HB.out⟩
  have HRI := Lib.hid (resIn_of HIN.out hn40 hsm)
  clear hsm
  by_cases hk64 : 64 < key.length
  · have d1 : decide ((64 : Int) < (key.length : Int)) = true := decide_eq_true (by omega)
    have d2 : decide (64 < key.length) = true := decide_eq_true hk64
    go_wp2_with fail
    with_reducible refine (CL.out _).mono ?_
    rintro e w2 ⟨rfl, hb⟩
    have HB := Lib.hid hb
    clear hb
    go_wp2_with fail
    go_ret
    exact ⟨rfl, HB.out⟩
  have d1 : decide ((64 : Int) < (key.length : Int)) = false := decide_eq_false (by omega)
  have d2 : decide (64 < key.length) = false := decide_eq_false hk64
  have C0 := Lib.hid (behind16_any L HRI.out lo lc W HN.out)
  go_wp2_with fail
  with_reducible refine (C0.out).mono ?_
  rintro e w1 ⟨R, ao, c, rfl, hT, hR, hok, hb1⟩
  generalize Ed.bhd Ed.first (eds L) = s at *
  have hba := (Below.refl w1.heap.size w1).alloc (Nat.le_refl _) (.cells (stA ao R.length c s.log s.next) 24)
  have HT := Lib.hid (hT.below hba)
  have HX := Lib.hid (bkIn_new (stA ao R.length c s.log s.next) 24 w1)
  have HB := Lib.hid (below_step hb1 hba)
  have HO := Lib.hid hok
  have HR := Lib.hid hR
  have hn1 := hok.n1
  have hn16 := hok.n16
  rw [← hR, tbs_length] at hn1 hn16
  unfold stA at HT HX HB
  unfold stV
  clear hba hT hb1 C0 CB d1 d2 hok hR
  have e0 : ((R.length : Int) == 0) = false := by rw [beq_eq_false_iff_ne]; omega
  have e00 : (R.length == 0) = false := by rw [beq_eq_false_iff_ne]; omega
  obtain ⟨k, hkm⟩ : ∃ k : Nat, a % (R.length : Int) = (k : Int) := ⟨(a % (R.length : Int)).toNat, (Int.toNat_of_nonneg (Int.emod_nonneg a (by omega))).symm⟩
  have hkn : k < R.length := by
    have := Int.emod_lt_of_pos a (show (0 : Int) < (R.length : Int) by omega)
    omega
  have HSM := Lib.hid (small_ok (log := s.log) (next := s.next) (show Ed.Ok ⟨tbs R, s.log, s.next⟩ from by rw [HR.out]; exact HO.out))
  have HST := Lib.hid (show (⟨tbs R, s.log, s.next⟩ : Ed.St) = s from by rw [HR.out])
  have HKT := Lib.hid (show k < s.T.length from by rw [← HR.out, tbs_length]; exact hkn)
  have HFK := Lib.hid (show ∀ i, (s.T.getD i Ed.tb0).f = (R.getD i rt0).f from fun i => by rw [← HR.out, tbs_at]; rfl)
  have HLN := Lib.hid (show s.T.length = R.length from by rw [← HR.out, tbs_length])
  have CA := Lib.hid (show Calls Try.prog 12 #[.agg #[.slice ao R.length c, .int .i64 s.log, .int .i64 s.next], .agg #[.int .i64 3, .int .i64 k, .int .i64 0, .slice none 0 0, .string (S key)]] (w1.alloc (.cells #[.slice ao R.length c, .int .i64 s.log, .int .i64 s.next] 24)) (ApplyU s ⟨3, k, 0, [], none, 0, key⟩ (w1.alloc (.cells #[.slice ao R.length c, .int .i64 s.log, .int .i64 s.next] 24))) from by
    have := applyU_any R HSM.out ao c s.log s.next ⟨3, k, 0, [], none, 0, key⟩ (by simp) (by simp only; omega) (fun n hn => by simp at hn) _ HT.out (nsAt_nil _ _)
    rwa [HST.out] at this)
  go_wp2_with fail
  with_reducible refine (CA.out).mono ?_
  rintro e w2 ⟨a6, n6, c6, lg6, nx6, bo, rfl, hb2, hr⟩
  have hba := (Below.refl w2.heap.size w2).alloc (Nat.le_refl _) (.cells #[.slice a6 n6 c6, .int .i64 lg6, .int .i64 nx6] 24)
  have HX2 := Lib.hid ((HX.out.below hb2).below hba)
  have HT2 := Lib.hid ((HT.out.below hb2).below hba)
  have HB2 := Lib.hid (below_step (below_step HB.out hb2) hba)
  have HY2 := Lib.hid (bkIn_new #[.slice a6 n6 c6, .int .i64 lg6, .int .i64 nx6] 24 w2)
  have HG := Lib.hid (show w1.heap.size < w2.heap.size from by have := hb2.size; simp at this; omega)
  have hr2 := hr.below hba
  have HW := Lib.hid (show Below W.heap.size W (w1.alloc (.cells #[.slice ao R.length c, .int .i64 s.log, .int .i64 s.next] 24)) from HB.out)
  clear hba hb2 hr CA HX HT HB
  by_cases hsp : Ed.Ok (Ed.spl s k key)
  · obtain ⟨R6, g6, rfl, rfl, rfl, rfl, rfl, hO6, hT6⟩ : ∃ (R6 : List Rt) (g6 : Nat), bo = true ∧ a6 = some ⟨g6, 0, none⟩ ∧ n6 = R6.length ∧ lg6 = (Ed.spl s k key).log ∧ nx6 = (Ed.spl s k key).next ∧ Own16 (w1.alloc (.cells #[.slice ao R.length c, .int .i64 s.log, .int .i64 s.next] 24)) g6 c6 R6 (w2.alloc (.cells #[.slice a6 n6 c6, .int .i64 lg6, .int .i64 nx6] 24)) ∧ tbs R6 = (Ed.spl s k key).T := by
      have h7 : Ed.apply s (⟨3, k, 0, [], none, 0, key⟩ : Re).ed = some (Ed.spl s k key) := (Ed.apply_split HO.out HKT.out key).trans (if_pos hsp)
      rcases hr2 with ⟨hb, t, Rk, g, h2, h3, h4, h5, h6, h8, h9⟩ | ⟨_, h⟩
      · rw [h7] at h6
        injection h6 with h6
        subst h6
        exact ⟨Rk, g, hb, h2, h3, h4, h5, h8, h9⟩
      · rw [h7] at h; cases h
    have HA6 := Lib.hid hO6.at_
    have HSP := Lib.hid hsp
    have HT6 := Lib.hid hT6
    have HS6 := Lib.hid (small_ok (log := (Ed.spl s k key).log) (next := (Ed.spl s k key).next) (show Ed.Ok ⟨tbs R6, (Ed.spl s k key).log, (Ed.spl s k key).next⟩ from by rw [hT6]; exact hsp))
    have HL6 := Lib.hid (show R6.length = R.length + 1 from by rw [← tbs_length, hT6]; unfold Ed.spl; simp only; rw [Ed.split_length HKT.out, HLN.out])
    have CA := Lib.hid (show Calls Try.prog 12 #[.agg #[.slice (some ⟨g6, 0, none⟩) R6.length c6, .int .i64 (Ed.spl s k key).log, .int .i64 (Ed.spl s k key).next], .agg #[.int .i64 4, .int .i64 k, .int .i64 0, .slice none 0 0, .string ⟨#[]⟩]] (w2.alloc (.cells #[.slice (some ⟨g6, 0, none⟩) R6.length c6, .int .i64 (Ed.spl s k key).log, .int .i64 (Ed.spl s k key).next] 24)) (ApplyU (Ed.spl s k key) ⟨4, k, 0, [], none, 0, []⟩ (w2.alloc (.cells #[.slice (some ⟨g6, 0, none⟩) R6.length c6, .int .i64 (Ed.spl s k key).log, .int .i64 (Ed.spl s k key).next] 24))) from by
      have := applyU_any R6 HS6.out (some ⟨g6, 0, none⟩) c6 (Ed.spl s k key).log (Ed.spl s k key).next ⟨4, k, 0, [], none, 0, []⟩ (by simp) (by simp) (fun n hn => by simp at hn) _ HA6.out (nsAt_nil _ _)
      rwa [show (⟨tbs R6, (Ed.spl s k key).log, (Ed.spl s k key).next⟩ : Ed.St) = Ed.spl s k key from by rw [hT6]] at this)
    have HAP := Lib.hid (Ed.apply_merge_back HO.out HKT.out hsp)
    clear hr2 hsp hO6 hT6
    go_wp2_with fail
    with_reducible refine (CA.out).mono ?_
    rintro e w3 ⟨a8, n8, c8, lg8, nx8, bo, rfl, hb3, hr⟩
    have hba := (Below.refl w3.heap.size w3).alloc (Nat.le_refl _) (.cells #[.slice a8 n8 c8, .int .i64 lg8, .int .i64 nx8] 24)
    have hr3 := hr.below hba
    have HX3 := Lib.hid ((HX2.out.below hb3).below hba)
    have HY3 := Lib.hid ((HY2.out.below hb3).below hba)
    have HT3 := Lib.hid ((HT2.out.below hb3).below hba)
    have HB3 := Lib.hid (below_step (below_step HB2.out hb3) hba)
    obtain ⟨R8, g8, rfl, rfl, rfl, rfl, rfl, hO8, hT8⟩ : ∃ (R8 : List Rt) (g8 : Nat), bo = true ∧ a8 = some ⟨g8, 0, none⟩ ∧ n8 = R8.length ∧ lg8 = s.log ∧ nx8 = s.next ∧ TbsAt (w3.alloc (.cells #[.slice a8 n8 c8, .int .i64 lg8, .int .i64 nx8] 24)) (some ⟨g8, 0, none⟩) R8 ∧ tbs R8 = s.T := by
      have h7 : Ed.apply (Ed.spl s k key) (⟨4, k, 0, [], none, 0, []⟩ : Re).ed = some s := HAP.out
      rcases hr3 with ⟨hb, t, Rk, g, h2, h3, h4, h5, h6, h8, h9⟩ | ⟨_, h⟩
      · rw [h7] at h6
        injection h6 with h6
        subst h6
        exact ⟨Rk, g, hb, h2, h3, h4, h5, h8.at_, h9⟩
      · rw [h7] at h; cases h
    have HS8 := Lib.hid (small_ok (log := s.log) (next := s.next) (show Ed.Ok ⟨tbs R8, s.log, s.next⟩ from by rw [hT8]; exact HO.out))
    have CSS := Lib.hid (show Calls Try.prog 16 #[.agg #[.slice (some ⟨g8, 0, none⟩) R8.length c8, .int .i64 s.log, .int .i64 s.next], .agg #[.slice ao R.length c, .int .i64 s.log, .int .i64 s.next]] (w3.alloc (.cells #[.slice (some ⟨g8, 0, none⟩) R8.length c8, .int .i64 s.log, .int .i64 s.next] 24)) (SameStR s s (w3.alloc (.cells #[.slice (some ⟨g8, 0, none⟩) R8.length c8, .int .i64 s.log, .int .i64 s.next] 24))) from by
      have := sameState16_any R8 R HS8.out HSM.out (some ⟨g8, 0, none⟩) ao c8 c s.log s.next s.log s.next _ hO8 HT3.out
      rwa [show (⟨tbs R8, s.log, s.next⟩ : Ed.St) = s from by rw [hT8], HST.out] at this)
    have s0 : (w3.alloc (.cells #[.slice (some ⟨g8, 0, none⟩) R8.length c8, .int .i64 s.log, .int .i64 s.next] 24)).cell? ⟨w1.heap.size, 0, none⟩ = some (.slice ao R.length c) := HX3.out.cell 0
    have s1 : (w3.alloc (.cells #[.slice (some ⟨g8, 0, none⟩) R8.length c8, .int .i64 s.log, .int .i64 s.next] 24)).cell? ⟨w1.heap.size, 1, none⟩ = some (.int .i64 s.log) := HX3.out.cell 1
    have s2 : (w3.alloc (.cells #[.slice (some ⟨g8, 0, none⟩) R8.length c8, .int .i64 s.log, .int .i64 s.next] 24)).cell? ⟨w1.heap.size, 2, none⟩ = some (.int .i64 s.next) := HX3.out.cell 2
    have y0 : (w3.alloc (.cells #[.slice (some ⟨g8, 0, none⟩) R8.length c8, .int .i64 s.log, .int .i64 s.next] 24)).cell? ⟨w2.heap.size, 0, none⟩ = some (.slice (some ⟨g6, 0, none⟩) R6.length c6) := HY3.out.cell 0
    have e9 : ((R6.length : Int) == (R.length : Int) + 1) = true := by rw [HL6.out]; simp
    have ew : IntKind.i64.wrap ((R.length : Int) + 1) = (R.length : Int) + 1 := IntWalk.i64_in _ (by omega)
    clear hr3 hr hb3 hba hO8 hT8 CA HX2 HY2 HT2 HB2 HX3 HY3 HT3 HAP HA6
    go_wp2_with fail
    with_reducible refine (CSS.out).mono ?_
    rintro e w7 ⟨r, rfl, hr, hb7⟩
    obtain rfl : r = true := hr.2 rfl
    have HB7 := Lib.hid (below_step HB3.out hb7)
    have CLV := Lib.hid (CL.out w7)
    clear hb7 hr CSS s0 s1 s2 y0
    go_wp2_with fail
    with_reducible refine (CLV.out).mono ?_
    rintro e w9 ⟨rfl, hb9⟩
    have HB9 := Lib.hid (below_step HB7.out hb9)
    clear hb9
    go_wp2_with fail
    go_ret
    exact ⟨rfl, HB9.out⟩
  · have HNOT := Lib.hid (Ed.split_not HO.out HKT.out (by omega) hsp)
    obtain rfl : bo = false := by
      rcases hr2 with ⟨_, t, Rk, g, _, _, _, _, h6, _⟩ | ⟨h, _⟩
      · have h7 : Ed.apply s (⟨3, k, 0, [], none, 0, key⟩ : Re).ed = none := (Ed.apply_split HO.out HKT.out key).trans (if_neg hsp)
        rw [h7] at h6; cases h6
      · exact h
    clear hr2 HY2 hsp
    have s0 : (w2.alloc (.cells #[.slice a6 n6 c6, .int .i64 lg6, .int .i64 nx6] 24)).cell? ⟨w1.heap.size, 0, none⟩ = some (.slice ao R.length c) := HX2.out.cell 0
    have s1 : (w2.alloc (.cells #[.slice a6 n6 c6, .int .i64 lg6, .int .i64 nx6] 24)).cell? ⟨w1.heap.size, 1, none⟩ = some (.int .i64 s.log) := HX2.out.cell 1
    have s2 : (w2.alloc (.cells #[.slice a6 n6 c6, .int .i64 lg6, .int .i64 nx6] 24)).cell? ⟨w1.heap.size, 2, none⟩ = some (.int .i64 s.next) := HX2.out.cell 2
    have CS := Lib.hid (stretch16_any R HSM.out ao c s.log s.next k _ HT2.out)
    unfold stV at CS
    go_wp2_with fail
    with_reducible refine (CS.out).mono ?_
    rintro e w7 ⟨hb7, (⟨k', e1, e2, _, rfl⟩ | ⟨hno, rfl⟩)⟩
    rotate_left
    · exact absurd ⟨by unfold stArg; rw [HST.out]; exact HO.out, by omega, by omega⟩ hno
    obtain rfl : k = k' := by omega
    have HB7 := Lib.hid (below_step HB2.out hb7)
    have s7 : w7.cell? ⟨w1.heap.size, 0, none⟩ = some (.slice ao R.length c) := (HX2.out.below hb7).cell 0
    have CLV := Lib.hid (CL.out w7)
    have HNO := Lib.hid (show (Op.bytesLess key (R.getD k rt0).f || (key == (R.getD k rt0).f)) = true ∨ (stretchTo R k ≠ [] ∧ Op.bytesLess key (stretchTo R k) = false) ∨ R.length = 16 from by
      rcases HNOT.out with h | ⟨h1, h2⟩ | h
      · left; rw [← HFK.out]; exact h
      · right; left
        rw [HLN.out] at h1
        unfold stretchTo
        rw [if_pos h1, ← HFK.out]
        refine ⟨fun e => ?_, h2⟩
        have := (HO.out.each (k + 1) (by rw [HLN.out]; exact h1)).1 (by omega)
        rw [e, Ed.less_nil] at this
        cases this
      · right; right; rw [← HLN.out]; exact h)
    clear hb7 e1 CS s0 s1 s2 HNOT HX2 HT2
    generalize (R.getD k rt0).f = f at *
    generalize stretchTo R k = to_ at *
    cases l1 : (Op.bytesLess key f || (key == f)) with
    | true =>
      clear HNO
      go_wp2_with fail
      with_reducible refine (CLV.out).mono ?_
      rintro e w9 ⟨rfl, hb9⟩
      have HB9 := Lib.hid (below_step HB7.out hb9)
      clear hb9
      go_wp2_with fail
      go_ret
      exact ⟨rfl, HB9.out⟩
    | false =>
      by_cases h5 : to_ ≠ [] ∧ Op.bytesLess key to_ = false
      · obtain ⟨h6, h7⟩ := h5
        have h8 : (to_ == []) = false := by simpa using h6
        clear HNO
        go_wp2_with fail
        with_reducible refine (CLV.out).mono ?_
        rintro e w9 ⟨rfl, hb9⟩
        have HB9 := Lib.hid (below_step HB7.out hb9)
        clear hb9
        go_wp2_with fail
        go_ret
        exact ⟨rfl, HB9.out⟩
      · have h16 : R.length = 16 := by
          rcases HNO.out with h | h | h
          · rw [l1] at h; cases h
          · exact absurd h h5
          · exact h
        have e16 : ((R.length : Int) == 16) = true := by rw [h16]; rfl
        have e17 : (R.length == 16) = true := by rw [h16]; rfl
        clear HNO h16
        by_cases h6 : to_ = []
        · subst h6
          clear h5
          go_wp2_with fail
          with_reducible refine (CLV.out).mono ?_
          rintro e w9 ⟨rfl, hb9⟩
          have HB9 := Lib.hid (below_step HB7.out hb9)
          clear hb9
          go_wp2_with fail
          go_ret
          exact ⟨rfl, HB9.out⟩
        · have h7 : Op.bytesLess key to_ = true := by
            cases q : Op.bytesLess key to_ with
            | true => rfl
            | false => exact absurd ⟨h6, q⟩ h5
          have h8 : (to_ == []) = false := by simpa using h6
          clear h5
          go_wp2_with fail
          with_reducible refine (CLV.out).mono ?_
          rintro e w9 ⟨rfl, hb9⟩
          have HB9 := Lib.hid (below_step HB7.out hb9)
          clear hb9
          go_wp2_with fail
          go_ret
          exact ⟨rfl, HB9.out⟩

end Go.Proofs.Ytfcmjgcjmldpcaa
