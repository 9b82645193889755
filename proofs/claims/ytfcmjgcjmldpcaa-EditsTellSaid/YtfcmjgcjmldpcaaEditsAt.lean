/- Layer 16: EditsTell (gentell.py). -/
import Derived.Test.YtfcmjgcjmldpcaaEditsAp
import Derived.Test.YtfcmjgcjmldpcaaEditsAr
import Derived.Test.YtfcmjgcjmldpcaaEditsAs
import Derived.Test.YtfcmjgcjmldpcaaEditsV
import Derived.Deep.RegionHeld
namespace Go.Proofs.Ytfcmjgcjmldpcaa
set_option linter.unusedVariables false
set_option linter.unusedSimpArgs false
open Go Go.RowKit
attribute [local go_sem ↓] run_index_S
attribute [local go_sem] S_append S_extract

/-- What Apply gives back. -/
def resOf : Option Ed.St → Ed.St × Bool
  | some t => (t, true)
  | none => (⟨[], 0, 0⟩, false)
def ApV (r : Ed.St × Bool) (w : World) (e : Ending) (w' : World) : Prop :=
  ∃ ao R c, e = .returned (.tuple #[.agg #[.slice ao (R : List Rt).length c, .int .i64 r.1.log, .int .i64 r.1.next], .bool r.2]) ∧ TbsAt w' ao R ∧ tbs R = r.1.T ∧ RtsOk R ∧ Below w.heap.size w w'
theorem apV_of {s : Ed.St} {y : Re} {w w' : World} {e : Ending} (h : ApplyR s y w e w') : ApV (resOf (Ed.apply s y.ed)) w e w' := by
  obtain ⟨hb, ⟨t, R, g, c, h1, h2, h3, h4⟩ | ⟨h1, h2⟩⟩ := h
  · rw [h1]
    exact ⟨_, R, c, h2, h3.at_, h4, small_ok (log := t.log) (next := t.next) (by rw [h4]; exact Ed.apply_ok h1), hb⟩
  · rw [h1]
    exact ⟨none, [], 0, h2, fun h => absurd rfl h, rfl, ⟨by simp, fun r hr => by simp at hr, fun r hr => by simp at hr⟩, hb⟩
set_option maxHeartbeats 8000000 in
set_option maxRecDepth 100000 in
theorem editsTell_calls (W : World) (v : Value) (hv : UStC W v) (v2 : Value) (hv2 : UEd W v2) (key : List UInt8) (hkl : key.length ≤ 140737488351232) :
    Calls Try.prog 3 #[v, v2, .string (S key)] W fun e w' => e = .returned (.bool true) ∧ Below W.heap.size W w' := by
  obtain ⟨R, ao, cap, log, next, rfl, hin, hT, hcap, hlg, hnx⟩ := hv
  obtain ⟨⟨kind, at_, file, fs, fo, fk, key2⟩, rfl, hein, hns⟩ := hv2
  unfold stV
  have CL := Lib.hid lives16_any
  have hRok := hin.ok
  have HRok := Lib.hid hRok
  have HT := Lib.hid hT
  have HNS := Lib.hid hns
  have HCAP := Lib.hid hcap
  have HEI := Lib.hid hein
  have hb2 : Below W.heap.size W ((W.alloc (.cells #[.slice ao R.length cap, .int .i64 log, .int .i64 next] 24)).alloc (.cells #[.int .i64 kind, .int .i64 at_, .int .i64 file, .slice fo fs.length fk, .string (S key2)] 27)) := bel_two _ _ _
  have CB := Lib.hid (beyondState16_any R hRok ao cap log next ((W.alloc (.cells #[.slice ao R.length cap, .int .i64 log, .int .i64 next] 24)).alloc (.cells #[.int .i64 kind, .int .i64 at_, .int .i64 file, .slice fo fs.length fk, .string (S key2)] 27)) (hT.below hb2))
  unfold stV at CB
  have HB2 := Lib.hid hb2
  have HS2 := Lib.hid (show BkIn (stA ao R.length cap log next) 24 ((W.alloc (.cells #[.slice ao R.length cap, .int .i64 log, .int .i64 next] 24)).alloc (.cells #[.int .i64 kind, .int .i64 at_, .int .i64 file, .slice fo fs.length fk, .string (S key2)] 27)) W.heap.size from (bkIn_new _ _ W).below ((Below.refl _ _).alloc (Nat.le_refl _) _))
  have HE2 := Lib.hid (show BkIn (edA ⟨kind, at_, file, fs, fo, fk, key2⟩) 27 ((W.alloc (.cells #[.slice ao R.length cap, .int .i64 log, .int .i64 next] 24)).alloc (.cells #[.int .i64 kind, .int .i64 at_, .int .i64 file, .slice fo fs.length fk, .string (S key2)] 27)) (W.heap.size + 1) from bkIn_at _ _ (by simp))
  simp only at hns
  clear hRok hin hT hb2 hns hein hcap
  go_enter Try.func3, Try.ntmps3
  go_wp2_with fail
  with_reducible refine (CB.out).mono ?_
  rintro e w3 ⟨rfl | ⟨rfl, hn40, hsm⟩, hb3⟩
  · have HB3 := Lib.hid (below_step HB2.out hb3)
    clear hb3 CB
    go_wp2_with fail
    with_reducible refine (CL.out _).mono ?_
    rintro e w4 ⟨rfl, hb⟩
    have HB := Lib.hid (below_step HB3.out hb)
    clear hb
    go_wp2_with fail
    go_ret
    exact ⟨rfl, HB.out⟩
  have HSM := Lib.hid hsm
  have HB3 := Lib.hid (below_step HB2.out hb3)
  have HS3 := Lib.hid (HS2.out.below hb3)
  have HE3 := Lib.hid (HE2.out.below hb3)
  have y0 : w3.cell? ⟨W.heap.size + 1, 0, none⟩ = some (.int .i64 kind) := HE3.out.cell 0
  have y1 : w3.cell? ⟨W.heap.size + 1, 1, none⟩ = some (.int .i64 at_) := HE3.out.cell 1
  have y2 : w3.cell? ⟨W.heap.size + 1, 2, none⟩ = some (.int .i64 file) := HE3.out.cell 2
  have y3 : w3.cell? ⟨W.heap.size + 1, 3, none⟩ = some (.slice fo fs.length fk) := HE3.out.cell 3
  have y4 : w3.cell? ⟨W.heap.size + 1, 4, none⟩ = some (.string (S key2)) := HE3.out.cell 4
  have hba := (Below.refl w3.heap.size w3).alloc (Nat.le_refl _) (.cells #[.int .i64 kind, .int .i64 at_, .int .i64 file, .slice fo fs.length fk, .string (S key2)] 27)
  have CY := Lib.hid (show Calls Try.prog 10 #[.slice (some ⟨w3.heap.size, 0, none⟩) 1 1, .int .i64 1] (w3.alloc (.cells #[.int .i64 kind, .int .i64 at_, .int .i64 file, .slice fo fs.length fk, .string (S key2)] 27)) (BeyR [⟨kind, at_, file, fs, fo, fk, key2⟩] 1 (w3.alloc (.cells #[.int .i64 kind, .int .i64 at_, .int .i64 file, .slice fo fs.length fk, .string (S key2)] 27))) from
    beyond16_any [⟨kind, at_, file, fs, fo, fk, key2⟩] ⟨by simp, fun r hr => by rw [List.mem_singleton.1 hr]; exact HEI.out.fs.n, fun r hr => by rw [List.mem_singleton.1 hr]; exact HEI.out.key⟩ (some ⟨w3.heap.size, 0, none⟩) 1 1 _ (edsAt_one (y := ⟨kind, at_, file, fs, fo, fk, key2⟩) (bkIn_new _ _ w3) (HNS.out.below (below_step HB3.out hba))))
  have HB4 := Lib.hid (below_step HB3.out hba)
  have HS4 := Lib.hid (HS3.out.below hba)
  have HE4 := Lib.hid (HE3.out.below hba)
  clear hb3 CB hba hsm HB3 HS3 HE3
  go_wp2_with fail
  with_reducible refine (CY.out).mono ?_
  rintro e w4 ⟨rfl | ⟨rfl, hn1, hse⟩, hw4⟩
  · subst hw4
    go_wp2_with fail
    with_reducible refine (CL.out _).mono ?_
    rintro e w5 ⟨rfl, hb⟩
    have HB := Lib.hid (below_step HB4.out hb)
    clear hb
    go_wp2_with fail
    go_ret
    exact ⟨rfl, HB.out⟩
  have HSE := Lib.hid (hse _ (List.mem_singleton.2 rfl))
  rw [hw4] at HB4 HS4 HE4
  clear hw4 CY hse hn1 y0 y1 y2 y3 y4
  by_cases hk200 : 200 < key.length
  · have d1 : decide ((200 : Int) < (key.length : Int)) = true := decide_eq_true (by omega)
    have d2 : decide (200 < key.length) = true := decide_eq_true hk200
    go_wp2_with fail
    with_reducible refine (CL.out _).mono ?_
    rintro e w5 ⟨rfl, hb⟩
    have HB := Lib.hid (below_step HB4.out hb)
    clear hb
    go_wp2_with fail
    go_ret
    exact ⟨rfl, HB.out⟩
  have d1 : decide ((200 : Int) < (key.length : Int)) = false := decide_eq_false (by omega)
  have d2 : decide (200 < key.length) = false := decide_eq_false hk200
  have y0 : w4.cell? ⟨W.heap.size + 1, 0, none⟩ = some (.int .i64 kind) := HE4.out.cell 0
  have y1 : w4.cell? ⟨W.heap.size + 1, 1, none⟩ = some (.int .i64 at_) := HE4.out.cell 1
  have y2 : w4.cell? ⟨W.heap.size + 1, 2, none⟩ = some (.int .i64 file) := HE4.out.cell 2
  have y3 : w4.cell? ⟨W.heap.size + 1, 3, none⟩ = some (.slice fo fs.length fk) := HE4.out.cell 3
  have y4 : w4.cell? ⟨W.heap.size + 1, 4, none⟩ = some (.string (S key2)) := HE4.out.cell 4
  have s0 : w4.cell? ⟨W.heap.size, 0, none⟩ = some (.slice ao R.length cap) := HS4.out.cell 0
  have s1 : w4.cell? ⟨W.heap.size, 1, none⟩ = some (.int .i64 log) := HS4.out.cell 1
  have s2 : w4.cell? ⟨W.heap.size, 2, none⟩ = some (.int .i64 next) := HS4.out.cell 2
  have HFL := Lib.hid (show fs.length ≤ 100000 ∧ key2.length ≤ 9223372036854775807 ∧ ∀ n ∈ fs, -9223372036854775808 ≤ n ∧ n ≤ 9223372036854775807 from ⟨by have := HSE.out.1; simp only at this; omega, HEI.out.key, fun n hn => HEI.out.fs.each n hn⟩)
  have CA := Lib.hid (show Calls Try.prog 12 #[.agg #[.slice ao R.length cap, .int .i64 log, .int .i64 next], .agg #[.int .i64 kind, .int .i64 at_, .int .i64 file, .slice fo fs.length fk, .string (S key2)]] w4 (ApV (resOf (Ed.apply ⟨tbs R, log, next⟩ (⟨kind, at_, file, fs, fo, fk, key2⟩ : Re).ed)) w4) from
    (apply16_any R HRok.out ao cap log next ⟨kind, at_, file, fs, fo, fk, key2⟩ HFL.out.1 HFL.out.2.1 HFL.out.2.2 w4 (HT.out.below HB4.out) (HNS.out.below HB4.out)).mono (fun e w' h => apV_of h))
  have CR := Lib.hid (show ∀ x, Below W.heap.size W x → Calls Try.prog 13 #[.agg #[.slice ao R.length cap, .int .i64 log, .int .i64 next], .agg #[.int .i64 kind, .int .i64 at_, .int .i64 file, .slice fo fs.length fk, .string (S key2)]] x (ApV (resOf (Ed.apply ⟨tbs R, log, next⟩ (⟨kind, at_, file, fs, fo, fk, key2⟩ : Re).ed)) x) from fun x hx =>
    (refApply16_any R HRok.out ao cap log next ⟨kind, at_, file, fs, fo, fk, key2⟩ HFL.out.1 HFL.out.2.1 HFL.out.2.2 HCAP.out x (HT.out.below hx) (HNS.out.below hx)).mono (fun e w' h => apV_of h))
  generalize resOf (Ed.apply ⟨tbs R, log, next⟩ (⟨kind, at_, file, fs, fo, fk, key2⟩ : Re).ed) = rr at *
  obtain ⟨⟨TT, lt, nt⟩, bo⟩ := rr
  unfold ApV at CA CR
  simp only at CA CR
  go_wp2_with fail
  with_reducible refine (CA.out).mono ?_
  rintro e w5 ⟨a5, R5, c5, rfl, hT5, hR5, hk5, hb5⟩
  have hba5 := (Below.refl w5.heap.size w5).alloc (Nat.le_refl _) (.cells #[.slice a5 R5.length c5, .int .i64 lt, .int .i64 nt] 24)
  have HB5 := Lib.hid (below_step (below_step HB4.out hb5) hba5)
  have HS5 := Lib.hid ((HS4.out.below hb5).below hba5)
  have HE5 := Lib.hid ((HE4.out.below hb5).below hba5)
  have HT5 := Lib.hid (hT5.below hba5)
  have HX5 := Lib.hid (bkIn_new #[.slice a5 R5.length c5, .int .i64 lt, .int .i64 nt] 24 w5)
  have HR5 := Lib.hid (And.intro hR5 hk5)
  clear hba5 hb5 hT5 hR5 hk5 CA y0 y1 y2 y3 y4 s0 s1 s2 d1 d2 hk200 HB4 HS4 HE4
  have y0 : (w5.alloc (.cells #[.slice a5 R5.length c5, .int .i64 lt, .int .i64 nt] 24)).cell? ⟨W.heap.size + 1, 0, none⟩ = some (.int .i64 kind) := HE5.out.cell 0
  have y1 : (w5.alloc (.cells #[.slice a5 R5.length c5, .int .i64 lt, .int .i64 nt] 24)).cell? ⟨W.heap.size + 1, 1, none⟩ = some (.int .i64 at_) := HE5.out.cell 1
  have y2 : (w5.alloc (.cells #[.slice a5 R5.length c5, .int .i64 lt, .int .i64 nt] 24)).cell? ⟨W.heap.size + 1, 2, none⟩ = some (.int .i64 file) := HE5.out.cell 2
  have y3 : (w5.alloc (.cells #[.slice a5 R5.length c5, .int .i64 lt, .int .i64 nt] 24)).cell? ⟨W.heap.size + 1, 3, none⟩ = some (.slice fo fs.length fk) := HE5.out.cell 3
  have y4 : (w5.alloc (.cells #[.slice a5 R5.length c5, .int .i64 lt, .int .i64 nt] 24)).cell? ⟨W.heap.size + 1, 4, none⟩ = some (.string (S key2)) := HE5.out.cell 4
  have s0 : (w5.alloc (.cells #[.slice a5 R5.length c5, .int .i64 lt, .int .i64 nt] 24)).cell? ⟨W.heap.size, 0, none⟩ = some (.slice ao R.length cap) := HS5.out.cell 0
  have s1 : (w5.alloc (.cells #[.slice a5 R5.length c5, .int .i64 lt, .int .i64 nt] 24)).cell? ⟨W.heap.size, 1, none⟩ = some (.int .i64 log) := HS5.out.cell 1
  have s2 : (w5.alloc (.cells #[.slice a5 R5.length c5, .int .i64 lt, .int .i64 nt] 24)).cell? ⟨W.heap.size, 2, none⟩ = some (.int .i64 next) := HS5.out.cell 2
  have CR5 := Lib.hid (CR.out _ HB5.out)
  go_wp2_with fail
  with_reducible refine (CR5.out).mono ?_
  rintro e w6 ⟨a6, R6, c6, rfl, hT6, hR6, hk6, hb6⟩
  have hba6 := (Below.refl w6.heap.size w6).alloc (Nat.le_refl _) (.cells #[.slice a6 R6.length c6, .int .i64 lt, .int .i64 nt] 24)
  have HB6 := Lib.hid (below_step (below_step HB5.out hb6) hba6)
  have HS6 := Lib.hid ((HS5.out.below hb6).below hba6)
  have HT6 := Lib.hid (hT6.below hba6)
  have HT56 := Lib.hid ((HT5.out.below hb6).below hba6)
  have HX6 := Lib.hid ((HX5.out.below hb6).below hba6)
  have HY6 := Lib.hid (bkIn_new #[.slice a6 R6.length c6, .int .i64 lt, .int .i64 nt] 24 w6)
  have HR6 := Lib.hid (And.intro hR6 hk6)
  clear hba6 hb6 hT6 hR6 hk6 CR5 CR y0 y1 y2 y3 y4 s0 s1 s2 HB5 HS5 HE5 HT5 HX5
  go_wp2_with fail
  generalize w6.alloc (.cells #[.slice a6 R6.length c6, .int .i64 lt, .int .i64 nt] 24) = wb at *
  generalize w5.heap.size = A at *
  generalize w6.heap.size = B at *
  have HBB := Lib.hid (Below.refl wb.heap.size wb)
  have HSX := Lib.hid (show ∀ x, Below wb.heap.size wb x → x.cell? ⟨W.heap.size, 0, none⟩ = some (.slice ao R.length cap) ∧ x.cell? ⟨W.heap.size, 1, none⟩ = some (.int .i64 log) ∧ x.cell? ⟨W.heap.size, 2, none⟩ = some (.int .i64 next) ∧ x.cell? ⟨A, 0, none⟩ = some (.slice a5 R5.length c5) ∧ x.cell? ⟨A, 1, none⟩ = some (.int .i64 lt) ∧ x.cell? ⟨A, 2, none⟩ = some (.int .i64 nt) ∧ x.cell? ⟨B, 0, none⟩ = some (.slice a6 R6.length c6) ∧ x.cell? ⟨B, 1, none⟩ = some (.int .i64 lt) ∧ x.cell? ⟨B, 2, none⟩ = some (.int .i64 nt) from fun x hx => ⟨(HS6.out.below hx).cell 0, (HS6.out.below hx).cell 1, (HS6.out.below hx).cell 2, (HX6.out.below hx).cell 0, (HX6.out.below hx).cell 1, (HX6.out.below hx).cell 2, (HY6.out.below hx).cell 0, (HY6.out.below hx).cell 1, (HY6.out.below hx).cell 2⟩)
  obtain ⟨ok, hok⟩ : ∃ b : Bool, b = true ↔ Ed.Ok ⟨tbs R, log, next⟩ := ⟨Classical.propDecidable (Ed.Ok ⟨tbs R, log, next⟩) |>.decide, by simp⟩
  obtain ⟨I, hI1, hI2⟩ : ∃ I : Int, (Ed.Ok ⟨tbs R, log, next⟩ → I = Ed.find ⟨tbs R, log, next⟩ key) ∧ (¬ Ed.Ok ⟨tbs R, log, next⟩ → I = -1) := by
    by_cases h : Ed.Ok ⟨tbs R, log, next⟩
    · exact ⟨_, fun _ => rfl, fun h2 => absurd h h2⟩
    · exact ⟨-1, fun h2 => absurd h2 h, fun _ => rfl⟩
  obtain ⟨FL, hF1, hF2⟩ : ∃ FL : List Int, (Ed.Ok ⟨tbs R, log, next⟩ → FL = Ed.uni (catL R)) ∧ (¬ Ed.Ok ⟨tbs R, log, next⟩ → FL = []) := by
    by_cases h : Ed.Ok ⟨tbs R, log, next⟩
    · exact ⟨_, fun _ => rfl, fun h2 => absurd h h2⟩
    · exact ⟨[], fun h2 => absurd h2 h, fun _ => rfl⟩
  have HFLN := Lib.hid (show FL.length ≤ 9223372036854775807 from by
    by_cases h : Ed.Ok ⟨tbs R, log, next⟩
    · rw [hF1 h]
      have h1 := ok_sizes h
      have h2 := catL_len (Rs := R) (m := 256) h1.2.2
      have h3 := uni_len (catL R)
      have h4 : R.length * 256 ≤ 16 * 256 := Nat.mul_le_mul_right _ h1.2.1
      omega
    · rw [hF2 h]; simp)
  have C1 := Lib.hid (show ∀ x, Below wb.heap.size wb x → Calls Try.prog 14 #[.agg #[.slice ao R.length cap, .int .i64 log, .int .i64 next]] x (fun e w' => e = .returned (.bool ok) ∧ Below x.heap.size x w') from fun x hx => (check16_any R HRok.out ao cap log next x ((HT.out.below HB6.out).below hx)).mono (fun e w' ⟨b, h1, h2, h3⟩ => ⟨h1.trans (by rw [Bool.eq_iff_iff.2 (h2.trans hok.symm)]), h3⟩))
  have C3 := Lib.hid (show ∀ x, Below wb.heap.size wb x → Calls Try.prog 15 #[.agg #[.slice ao R.length cap, .int .i64 log, .int .i64 next]] x (fun e w' => e = .returned (.bool ok) ∧ Below x.heap.size x w') from fun x hx => (refCheck16_any R HRok.out ao cap log next x ((HT.out.below HB6.out).below hx)).mono (fun e w' ⟨b, h1, h2, h3⟩ => ⟨h1.trans (by rw [Bool.eq_iff_iff.2 (h2.trans hok.symm)]), h3⟩))
  have C13 := Lib.hid (show ∀ x, Below wb.heap.size wb x → Calls Try.prog 16 #[.agg #[.slice a5 R5.length c5, .int .i64 lt, .int .i64 nt], .agg #[.slice a6 R6.length c6, .int .i64 lt, .int .i64 nt]] x (fun e w' => e = .returned (.bool true) ∧ Below x.heap.size x w') from fun x hx => (sameState16_any R5 R6 HR5.out.2 HR6.out.2 a5 a6 c5 c6 lt nt lt nt x (HT56.out.below hx) (HT6.out.below hx)).mono (fun e w' ⟨r, h1, h2, h3⟩ => ⟨by rw [h1, h2.2 (by rw [HR5.out.1, HR6.out.1])], h3⟩))
  have C18 := Lib.hid (show ∀ x, Below wb.heap.size wb x → Calls Try.prog 17 #[.agg #[.slice ao R.length cap, .int .i64 log, .int .i64 next], .string (S key)] x (fun e w' => e = .returned (.int .i64 I) ∧ Below x.heap.size x w') from fun x hx => (find16_any R HRok.out ao cap log next key x ((HT.out.below HB6.out).below hx)).mono (fun e w' ⟨i, h1, h2, h3, h4⟩ => ⟨by rw [h1]; by_cases h : Ed.Ok ⟨tbs R, log, next⟩; (· rw [h2 h, hI1 h]; rfl); rw [h3 h, hI2 h], h4⟩))
  have C21 := Lib.hid (show ∀ x, Below wb.heap.size wb x → Calls Try.prog 18 #[.agg #[.slice ao R.length cap, .int .i64 log, .int .i64 next], .string (S key)] x (fun e w' => e = .returned (.int .i64 I) ∧ Below x.heap.size x w') from fun x hx => (refFind16_any R HRok.out ao cap log next key hkl x ((HT.out.below HB6.out).below hx)).mono (fun e w' ⟨i, h1, h2, h3, h4⟩ => ⟨by rw [h1]; by_cases h : Ed.Ok ⟨tbs R, log, next⟩; (· rw [h2 h, hI1 h]); rw [h3 h, hI2 h], h4⟩))
  have C26 := Lib.hid (show ∀ x, Below wb.heap.size wb x → Calls Try.prog 20 #[.agg #[.slice ao R.length cap, .int .i64 log, .int .i64 next]] x (fun e w' => ∃ a c, e = .returned (.slice a FL.length c) ∧ NsAt w' a FL ∧ Below x.heap.size x w') from fun x hx => (files16_any R HRok.out ao cap log next x ((HT.out.below HB6.out).below hx)).mono (fun e w' ⟨a, c, l, h1, h2, h3, h4, h5⟩ => by
    have e9 : l = FL := by by_cases h : Ed.Ok ⟨tbs R, log, next⟩; (· rw [h4 h, hF1 h]); rw [h5 h, hF2 h]
    subst e9
    exact ⟨a, c, h1, h2, h3⟩))
  have C28 := Lib.hid (show ∀ x, Below wb.heap.size wb x → Calls Try.prog 21 #[.agg #[.slice ao R.length cap, .int .i64 log, .int .i64 next]] x (fun e w' => ∃ a c, e = .returned (.slice a FL.length c) ∧ NsAt w' a FL ∧ Below x.heap.size x w') from fun x hx => (refFiles16_any R HRok.out ao cap log next x ((HT.out.below HB6.out).below hx)).mono (fun e w' ⟨a, c, l, h1, h2, h3, h4, h5⟩ => by
    have e9 : l = FL := by by_cases h : Ed.Ok ⟨tbs R, log, next⟩; (· rw [h4 h, hF1 h]); rw [h5 h, hF2 h]
    subst e9
    exact ⟨a, c, h1, h2, h3⟩))
  have HBW := Lib.hid HB6.out
  clear hok hI1 hI2 hF1 hF2
  have HB := HBB
  refine wp_region_held_drew (S := fun V => V.cell? ⟨W.heap.size, 0, none⟩ = some (.slice ao R.length cap) ∧ V.cell? ⟨W.heap.size, 1, none⟩ = some (.int .i64 log) ∧ V.cell? ⟨W.heap.size, 2, none⟩ = some (.int .i64 next) ∧ V.cell? ⟨A, 0, none⟩ = some (.slice a5 R5.length c5) ∧ V.cell? ⟨A, 1, none⟩ = some (.int .i64 lt) ∧ V.cell? ⟨A, 2, none⟩ = some (.int .i64 nt) ∧ V.cell? ⟨B, 0, none⟩ = some (.slice a6 R6.length c6) ∧ V.cell? ⟨B, 1, none⟩ = some (.int .i64 lt) ∧ V.cell? ⟨B, 2, none⟩ = some (.int .i64 nt)) (by kernel_rfl) ?_ (fun hHeld => ?_)
  · exact HSX.out _ HB.out.drew
  replace HB := Lib.hid HB.out.drew
  obtain ⟨wd, hwd⟩ : ∃ x, x = World.drew wb := ⟨_, rfl⟩
  rw [← hwd] at HB hHeld ⊢
  clear hwd
  refine wpAnyH_take (i := 0) (oi := { dst := some 36, op := Op.load 24 (Operand.tmp 3), type := 24, pos := "law.go:69", after := #[], guard := none }) (v := ?_) rfl (by kernel_rfl) (by kernel_rfl) (by kernel_rfl) (fun _ _ _ h => h) (Or.inl ⟨by rfl, ?_⟩) (by assumption) ?_
  rotate_left
  · (intro w hSw; (try dsimp only at hSw); go_simp); (first | done | with_reducible rfl)
  try simp only [Act.put, List.setIfInBounds_toArray, List.set_cons_zero, List.set_cons_succ]
  refine wpAnyH_take (i := 2) (oi := { dst := some 38, op := Op.load 24 (Operand.tmp 3), type := 24, pos := "law.go:69", after := #[], guard := none }) (v := ?_) rfl (by kernel_rfl) (by kernel_rfl) (by kernel_rfl) (fun _ _ _ h => h) (Or.inl ⟨by rfl, ?_⟩) (by assumption) ?_
  rotate_left
  · (intro w hSw; (try dsimp only at hSw); go_simp); (first | done | with_reducible rfl)
  try simp only [Act.put, List.setIfInBounds_toArray, List.set_cons_zero, List.set_cons_succ]
  refine wpAnyH_ready (rs := [1]) (by kernel_rfl) (by simp) ?_
  refine AllReadyH.cons (o := { dst := some 37, op := Op.call { callee := Callee.value (Operand.func 14), args := #[Operand.tmp 36], argTypes := #[24] }, type := 4, pos := "law.go:69", after := #[{ on := 0, ground := Ground.data }], guard := none }) rfl (fun K hK => ?_) (AllReadyH.nil)
  have CJ := Lib.hid (C1.out _ HB.out)
  go_simp
  go_at_call 14
  with_reducible refine (CJ.out).mono ?_
  rintro e u1 ⟨rfl, hbq⟩
  replace HB := Lib.hid (below_step HB.out hbq)
  clear hbq CJ
  go_wp2_with fail
  refine hK.out _ _ ?_ (fun hHeld => ?_)
  · exact HSX.out _ HB.out
  clear hK K
  try simp only [Act.put, List.setIfInBounds_toArray, List.set_cons_zero, List.set_cons_succ]
  refine wpAnyH_ready (rs := [3]) (by kernel_rfl) (by simp) ?_
  refine AllReadyH.cons (o := { dst := some 39, op := Op.call { callee := Callee.value (Operand.func 15), args := #[Operand.tmp 38], argTypes := #[24] }, type := 4, pos := "law.go:69", after := #[{ on := 2, ground := Ground.data }, { on := 1, ground := Ground.chain }], guard := none }) rfl (fun K hK => ?_) (AllReadyH.nil)
  have CJ := Lib.hid (C3.out _ HB.out)
  go_simp
  go_at_call 15
  with_reducible refine (CJ.out).mono ?_
  rintro e u3 ⟨rfl, hbq⟩
  replace HB := Lib.hid (below_step HB.out hbq)
  clear hbq CJ
  go_wp2_with fail
  refine hK.out _ _ ?_ (fun hHeld => ?_)
  · exact HSX.out _ HB.out
  clear hK K
  try simp only [Act.put, List.setIfInBounds_toArray, List.set_cons_zero, List.set_cons_succ]
  refine wpAnyH_take (i := 4) (oi := { dst := some 40, op := Op.binOp BinOp.eql 4 (Operand.tmp 37) (Operand.tmp 39) 4, type := 4, pos := "law.go:69", after := #[{ on := 1, ground := Ground.data }, { on := 3, ground := Ground.data }], guard := none }) (v := ?_) rfl (by kernel_rfl) (by kernel_rfl) (by kernel_rfl) (fun _ _ _ h => h) (Or.inl ⟨by rfl, ?_⟩) (by assumption) ?_
  rotate_left
  · (intro w hSw; (try dsimp only at hSw); go_simp); (first | done | with_reducible rfl)
  try simp only [Act.put, List.setIfInBounds_toArray, List.set_cons_zero, List.set_cons_succ]
  refine wpAnyH_take (i := 5) (oi := { dst := some 41, op := Op.move (Operand.tmp 40), type := 4, pos := "law.go:69", after := #[{ on := 4, ground := Ground.data }, { on := 3, ground := Ground.chain }], guard := none }) (v := ?_) rfl (by kernel_rfl) (by kernel_rfl) (by kernel_rfl) (fun _ _ _ h => h) (Or.inl ⟨by rfl, ?_⟩) (by assumption) ?_
  rotate_left
  · (intro w hSw; (try dsimp only at hSw); go_simp); (first | done | with_reducible rfl)
  try simp only [Act.put, List.setIfInBounds_toArray, List.set_cons_zero, List.set_cons_succ]
  refine wpAnyH_take (i := 6) (oi := { dst := some 42, op := Op.move (Operand.tmp 8), type := 4, pos := "law.go:69", after := #[{ on := 5, ground := Ground.guard }], guard := some (5, true) }) (v := ?_) rfl (by kernel_rfl) (by kernel_rfl) (by kernel_rfl) (fun _ _ _ h => h) (Or.inl ⟨by rfl, ?_⟩) (by assumption) ?_
  rotate_left
  · (intro w hSw; (try dsimp only at hSw); go_simp); (first | done | with_reducible rfl)
  try simp only [Act.put, List.setIfInBounds_toArray, List.set_cons_zero, List.set_cons_succ]
  refine wpAnyH_take (i := 7) (oi := { dst := some 43, op := Op.move (Operand.tmp 10), type := 4, pos := "law.go:69", after := #[{ on := 5, ground := Ground.guard }], guard := some (5, true) }) (v := ?_) rfl (by kernel_rfl) (by kernel_rfl) (by kernel_rfl) (fun _ _ _ h => h) (Or.inl ⟨by rfl, ?_⟩) (by assumption) ?_
  rotate_left
  · (intro w hSw; (try dsimp only at hSw); go_simp); (first | done | with_reducible rfl)
  try simp only [Act.put, List.setIfInBounds_toArray, List.set_cons_zero, List.set_cons_succ]
  refine wpAnyH_take (i := 8) (oi := { dst := some 44, op := Op.binOp BinOp.eql 4 (Operand.tmp 42) (Operand.tmp 43) 4, type := 4, pos := "law.go:69", after := #[{ on := 6, ground := Ground.data }, { on := 7, ground := Ground.data }, { on := 5, ground := Ground.guard }], guard := some (5, true) }) (v := ?_) rfl (by kernel_rfl) (by kernel_rfl) (by kernel_rfl) (fun _ _ _ h => h) (Or.inl ⟨by rfl, ?_⟩) (by assumption) ?_
  rotate_left
  · (intro w hSw; (try dsimp only at hSw); go_simp); (first | done | with_reducible rfl)
  try simp only [Act.put, List.setIfInBounds_toArray, List.set_cons_zero, List.set_cons_succ]
  refine wpAnyH_take (i := 9) (oi := { dst := some 45, op := Op.pick (Operand.tmp 41) (Operand.tmp 44) (Operand.const (Value.bool false)), type := 4, pos := "law.go:69", after := #[{ on := 5, ground := Ground.data }, { on := 8, ground := Ground.data }], guard := none }) (v := ?_) rfl (by kernel_rfl) (by kernel_rfl) (by kernel_rfl) (fun _ _ _ h => h) (Or.inl ⟨by rfl, ?_⟩) (by assumption) ?_
  rotate_left
  · (intro w hSw; (try dsimp only at hSw); go_simp); (first | done | with_reducible rfl)
  try simp only [Act.put, List.setIfInBounds_toArray, List.set_cons_zero, List.set_cons_succ]
  refine wpAnyH_take (i := 10) (oi := { dst := some 46, op := Op.move (Operand.tmp 45), type := 4, pos := "law.go:69", after := #[{ on := 9, ground := Ground.data }, { on := 5, ground := Ground.chain }], guard := none }) (v := ?_) rfl (by kernel_rfl) (by kernel_rfl) (by kernel_rfl) (fun _ _ _ h => h) (Or.inl ⟨by rfl, ?_⟩) (by assumption) ?_
  rotate_left
  · (intro w hSw; (try dsimp only at hSw); go_simp); (first | done | with_reducible rfl)
  try simp only [Act.put, List.setIfInBounds_toArray, List.set_cons_zero, List.set_cons_succ]
  refine wpAnyH_take (i := 11) (oi := { dst := some 47, op := Op.load 24 (Operand.tmp 7), type := 24, pos := "law.go:69", after := #[{ on := 10, ground := Ground.guard }], guard := some (10, true) }) (v := ?_) rfl (by kernel_rfl) (by kernel_rfl) (by kernel_rfl) (fun _ _ _ h => h) (Or.inl ⟨by rfl, ?_⟩) (by assumption) ?_
  rotate_left
  · (intro w hSw; (try dsimp only at hSw); go_simp); (first | done | with_reducible rfl)
  try simp only [Act.put, List.setIfInBounds_toArray, List.set_cons_zero, List.set_cons_succ]
  refine wpAnyH_take (i := 12) (oi := { dst := some 48, op := Op.load 24 (Operand.tmp 9), type := 24, pos := "law.go:69", after := #[{ on := 10, ground := Ground.guard }], guard := some (10, true) }) (v := ?_) rfl (by kernel_rfl) (by kernel_rfl) (by kernel_rfl) (fun _ _ _ h => h) (Or.inl ⟨by rfl, ?_⟩) (by assumption) ?_
  rotate_left
  · (intro w hSw; (try dsimp only at hSw); go_simp); (first | done | with_reducible rfl)
  try simp only [Act.put, List.setIfInBounds_toArray, List.set_cons_zero, List.set_cons_succ]
  refine wpAnyH_ready (rs := [13]) (by kernel_rfl) (by simp) ?_
  refine AllReadyH.cons (o := { dst := some 49, op := Op.call { callee := Callee.value (Operand.func 16), args := #[Operand.tmp 47, Operand.tmp 48], argTypes := #[24, 24] }, type := 4, pos := "law.go:69", after := #[{ on := 11, ground := Ground.data }, { on := 12, ground := Ground.data }, { on := 10, ground := Ground.chain }, { on := 10, ground := Ground.guard }], guard := some (10, true) }) rfl (fun K hK => ?_) (AllReadyH.nil)
  have CJ := Lib.hid (C13.out _ HB.out)
  go_simp
  go_at_call 16
  with_reducible refine (CJ.out).mono ?_
  rintro e u13 ⟨rfl, hbq⟩
  replace HB := Lib.hid (below_step HB.out hbq)
  clear hbq CJ
  go_wp2_with fail
  refine hK.out _ _ ?_ (fun hHeld => ?_)
  · exact HSX.out _ HB.out
  clear hK K
  try simp only [Act.put, List.setIfInBounds_toArray, List.set_cons_zero, List.set_cons_succ]
  refine wpAnyH_take (i := 14) (oi := { dst := some 50, op := Op.pick (Operand.tmp 46) (Operand.tmp 49) (Operand.const (Value.bool false)), type := 4, pos := "law.go:69", after := #[{ on := 10, ground := Ground.data }, { on := 13, ground := Ground.data }], guard := none }) (v := ?_) rfl (by kernel_rfl) (by kernel_rfl) (by kernel_rfl) (fun _ _ _ h => h) (Or.inl ⟨by rfl, ?_⟩) (by assumption) ?_
  rotate_left
  · (intro w hSw; (try dsimp only at hSw); go_simp); (first | done | with_reducible rfl)
  try simp only [Act.put, List.setIfInBounds_toArray, List.set_cons_zero, List.set_cons_succ]
  refine wpAnyH_take (i := 15) (oi := { dst := some 51, op := Op.move (Operand.tmp 50), type := 4, pos := "law.go:69", after := #[{ on := 14, ground := Ground.data }, { on := 13, ground := Ground.chain }], guard := none }) (v := ?_) rfl (by kernel_rfl) (by kernel_rfl) (by kernel_rfl) (fun _ _ _ h => h) (Or.inl ⟨by rfl, ?_⟩) (by assumption) ?_
  rotate_left
  · (intro w hSw; (try dsimp only at hSw); go_simp); (first | done | with_reducible rfl)
  try simp only [Act.put, List.setIfInBounds_toArray, List.set_cons_zero, List.set_cons_succ]
  refine wpAnyH_take (i := 16) (oi := { dst := some 52, op := Op.load 24 (Operand.tmp 3), type := 24, pos := "law.go:69", after := #[{ on := 15, ground := Ground.guard }], guard := some (15, true) }) (v := ?_) rfl (by kernel_rfl) (by kernel_rfl) (by kernel_rfl) (fun _ _ _ h => h) (Or.inl ⟨by rfl, ?_⟩) (by assumption) ?_
  rotate_left
  · (intro w hSw; (try dsimp only at hSw); go_simp); (first | done | with_reducible rfl)
  try simp only [Act.put, List.setIfInBounds_toArray, List.set_cons_zero, List.set_cons_succ]
  refine wpAnyH_take (i := 17) (oi := { dst := some 53, op := Op.move (Operand.tmp 2), type := 9, pos := "law.go:69", after := #[{ on := 15, ground := Ground.guard }], guard := some (15, true) }) (v := ?_) rfl (by kernel_rfl) (by kernel_rfl) (by kernel_rfl) (fun _ _ _ h => h) (Or.inl ⟨by rfl, ?_⟩) (by assumption) ?_
  rotate_left
  · (intro w hSw; (try dsimp only at hSw); go_simp); (first | done | with_reducible rfl)
  try simp only [Act.put, List.setIfInBounds_toArray, List.set_cons_zero, List.set_cons_succ]
  refine wpAnyH_take (i := 19) (oi := { dst := some 55, op := Op.load 24 (Operand.tmp 3), type := 24, pos := "law.go:69", after := #[{ on := 15, ground := Ground.guard }], guard := some (15, true) }) (v := ?_) rfl (by kernel_rfl) (by kernel_rfl) (by kernel_rfl) (fun _ _ _ h => h) (Or.inl ⟨by rfl, ?_⟩) (by assumption) ?_
  rotate_left
  · (intro w hSw; (try dsimp only at hSw); go_simp); (first | done | with_reducible rfl)
  try simp only [Act.put, List.setIfInBounds_toArray, List.set_cons_zero, List.set_cons_succ]
  refine wpAnyH_take (i := 20) (oi := { dst := some 56, op := Op.move (Operand.tmp 2), type := 9, pos := "law.go:69", after := #[{ on := 15, ground := Ground.guard }], guard := some (15, true) }) (v := ?_) rfl (by kernel_rfl) (by kernel_rfl) (by kernel_rfl) (fun _ _ _ h => h) (Or.inl ⟨by rfl, ?_⟩) (by assumption) ?_
  rotate_left
  · (intro w hSw; (try dsimp only at hSw); go_simp); (first | done | with_reducible rfl)
  try simp only [Act.put, List.setIfInBounds_toArray, List.set_cons_zero, List.set_cons_succ]
  refine wpAnyH_ready (rs := [18]) (by kernel_rfl) (by simp) ?_
  refine AllReadyH.cons (o := { dst := some 54, op := Op.call { callee := Callee.value (Operand.func 17), args := #[Operand.tmp 52, Operand.tmp 53], argTypes := #[24, 9] }, type := 3, pos := "law.go:69", after := #[{ on := 16, ground := Ground.data }, { on := 17, ground := Ground.data }, { on := 15, ground := Ground.chain }, { on := 15, ground := Ground.guard }], guard := some (15, true) }) rfl (fun K hK => ?_) (AllReadyH.nil)
  have CJ := Lib.hid (C18.out _ HB.out)
  go_simp
  go_at_call 17
  with_reducible refine (CJ.out).mono ?_
  rintro e u18 ⟨rfl, hbq⟩
  replace HB := Lib.hid (below_step HB.out hbq)
  clear hbq CJ
  go_wp2_with fail
  refine hK.out _ _ ?_ (fun hHeld => ?_)
  · exact HSX.out _ HB.out
  clear hK K
  try simp only [Act.put, List.setIfInBounds_toArray, List.set_cons_zero, List.set_cons_succ]
  refine wpAnyH_ready (rs := [21]) (by kernel_rfl) (by simp) ?_
  refine AllReadyH.cons (o := { dst := some 57, op := Op.call { callee := Callee.value (Operand.func 18), args := #[Operand.tmp 55, Operand.tmp 56], argTypes := #[24, 9] }, type := 3, pos := "law.go:69", after := #[{ on := 19, ground := Ground.data }, { on := 20, ground := Ground.data }, { on := 18, ground := Ground.chain }, { on := 15, ground := Ground.guard }], guard := some (15, true) }) rfl (fun K hK => ?_) (AllReadyH.nil)
  have CJ := Lib.hid (C21.out _ HB.out)
  go_simp
  go_at_call 18
  with_reducible refine (CJ.out).mono ?_
  rintro e u21 ⟨rfl, hbq⟩
  replace HB := Lib.hid (below_step HB.out hbq)
  clear hbq CJ
  go_wp2_with fail
  refine hK.out _ _ ?_ (fun hHeld => ?_)
  · exact HSX.out _ HB.out
  clear hK K
  try simp only [Act.put, List.setIfInBounds_toArray, List.set_cons_zero, List.set_cons_succ]
  refine wpAnyH_take (i := 22) (oi := { dst := some 58, op := Op.binOp BinOp.eql 3 (Operand.tmp 54) (Operand.tmp 57) 3, type := 4, pos := "law.go:69", after := #[{ on := 18, ground := Ground.data }, { on := 21, ground := Ground.data }, { on := 15, ground := Ground.guard }], guard := some (15, true) }) (v := ?_) rfl (by kernel_rfl) (by kernel_rfl) (by kernel_rfl) (fun _ _ _ h => h) (Or.inl ⟨by rfl, ?_⟩) (by assumption) ?_
  rotate_left
  · (intro w hSw; (try dsimp only at hSw); go_simp); (first | done | with_reducible rfl)
  try simp only [Act.put, List.setIfInBounds_toArray, List.set_cons_zero, List.set_cons_succ]
  refine wpAnyH_take (i := 23) (oi := { dst := some 59, op := Op.pick (Operand.tmp 51) (Operand.tmp 58) (Operand.const (Value.bool false)), type := 4, pos := "law.go:69", after := #[{ on := 15, ground := Ground.data }, { on := 22, ground := Ground.data }], guard := none }) (v := ?_) rfl (by kernel_rfl) (by kernel_rfl) (by kernel_rfl) (fun _ _ _ h => h) (Or.inl ⟨by rfl, ?_⟩) (by assumption) ?_
  rotate_left
  · (intro w hSw; (try dsimp only at hSw); go_simp); (first | done | with_reducible rfl)
  try simp only [Act.put, List.setIfInBounds_toArray, List.set_cons_zero, List.set_cons_succ]
  refine wpAnyH_take (i := 24) (oi := { dst := some 60, op := Op.move (Operand.tmp 59), type := 4, pos := "law.go:69", after := #[{ on := 23, ground := Ground.data }, { on := 21, ground := Ground.chain }], guard := none }) (v := ?_) rfl (by kernel_rfl) (by kernel_rfl) (by kernel_rfl) (fun _ _ _ h => h) (Or.inl ⟨by rfl, ?_⟩) (by assumption) ?_
  rotate_left
  · (intro w hSw; (try dsimp only at hSw); go_simp); (first | done | with_reducible rfl)
  try simp only [Act.put, List.setIfInBounds_toArray, List.set_cons_zero, List.set_cons_succ]
  refine wpAnyH_take (i := 25) (oi := { dst := some 61, op := Op.load 24 (Operand.tmp 3), type := 24, pos := "law.go:69", after := #[{ on := 24, ground := Ground.guard }], guard := some (24, true) }) (v := ?_) rfl (by kernel_rfl) (by kernel_rfl) (by kernel_rfl) (fun _ _ _ h => h) (Or.inl ⟨by rfl, ?_⟩) (by assumption) ?_
  rotate_left
  · (intro w hSw; (try dsimp only at hSw); go_simp); (first | done | with_reducible rfl)
  try simp only [Act.put, List.setIfInBounds_toArray, List.set_cons_zero, List.set_cons_succ]
  refine wpAnyH_take (i := 27) (oi := { dst := some 63, op := Op.load 24 (Operand.tmp 3), type := 24, pos := "law.go:69", after := #[{ on := 24, ground := Ground.guard }], guard := some (24, true) }) (v := ?_) rfl (by kernel_rfl) (by kernel_rfl) (by kernel_rfl) (fun _ _ _ h => h) (Or.inl ⟨by rfl, ?_⟩) (by assumption) ?_
  rotate_left
  · (intro w hSw; (try dsimp only at hSw); go_simp); (first | done | with_reducible rfl)
  try simp only [Act.put, List.setIfInBounds_toArray, List.set_cons_zero, List.set_cons_succ]
  refine wpAnyH_ready (rs := [26]) (by kernel_rfl) (by simp) ?_
  refine AllReadyH.cons (o := { dst := some 62, op := Op.call { callee := Callee.value (Operand.func 20), args := #[Operand.tmp 61], argTypes := #[24] }, type := 25, pos := "law.go:69", after := #[{ on := 25, ground := Ground.data }, { on := 24, ground := Ground.chain }, { on := 24, ground := Ground.guard }], guard := some (24, true) }) rfl (fun K hK => ?_) (AllReadyH.nil)
  have CJ := Lib.hid (C26.out _ HB.out)
  go_simp
  go_at_call 20
  with_reducible refine (CJ.out).mono ?_
  rintro e u26 ⟨a26, c26, rfl, hn, hbq⟩
  have HN26 := Lib.hid hn
  replace HB := Lib.hid (below_step HB.out hbq)
  clear hbq hn CJ
  go_wp2_with fail
  refine hK.out _ _ ?_ (fun hHeld => ?_)
  · exact HSX.out _ HB.out
  clear hK K
  try simp only [Act.put, List.setIfInBounds_toArray, List.set_cons_zero, List.set_cons_succ]
  refine wpAnyH_ready (rs := [28]) (by kernel_rfl) (by simp) ?_
  refine AllReadyH.cons (o := { dst := some 64, op := Op.call { callee := Callee.value (Operand.func 21), args := #[Operand.tmp 63], argTypes := #[24] }, type := 25, pos := "law.go:69", after := #[{ on := 27, ground := Ground.data }, { on := 26, ground := Ground.chain }, { on := 24, ground := Ground.guard }], guard := some (24, true) }) rfl (fun K hK => ?_) (AllReadyH.nil)
  have CJ := Lib.hid (C28.out _ HB.out)
  go_simp
  go_at_call 21
  with_reducible refine (CJ.out).mono ?_
  rintro e u28 ⟨a28, c28, rfl, hn, hbq⟩
  have HN28 := Lib.hid hn
  replace HN26 := Lib.hid (HN26.out.below hbq)
  replace HB := Lib.hid (below_step HB.out hbq)
  clear hbq hn CJ
  go_wp2_with fail
  refine hK.out _ _ ?_ (fun hHeld => ?_)
  · exact HSX.out _ HB.out
  clear hK K
  try simp only [Act.put, List.setIfInBounds_toArray, List.set_cons_zero, List.set_cons_succ]
  refine wpAnyH_ready (rs := [29]) (by kernel_rfl) (by simp) ?_
  refine AllReadyH.cons (o := { dst := some 65, op := Op.call { callee := Callee.value (Operand.func 19), args := #[Operand.tmp 62, Operand.tmp 64], argTypes := #[25, 25] }, type := 4, pos := "law.go:69", after := #[{ on := 26, ground := Ground.data }, { on := 28, ground := Ground.data }, { on := 28, ground := Ground.chain }, { on := 24, ground := Ground.guard }], guard := some (24, true) }) rfl (fun K hK => ?_) (AllReadyH.nil)
  have CJ := Lib.hid (sameInts16_any FL FL HFLN.out HFLN.out a26 a28 c26 c28 u28 HN26.out HN28.out)
  go_simp
  go_at_call 19
  with_reducible refine (CJ.out).mono ?_
  rintro e u29 ⟨r, rfl, hr, m, hwq⟩
  obtain rfl : r = true := hr.2 rfl
  have hbq := below_drewN (Below.refl u28.heap.size u28) m
  rw [← hwq] at hbq
  replace HB := Lib.hid (below_step HB.out hbq)
  clear hbq hwq hr CJ
  go_wp2_with fail
  refine hK.out _ _ ?_ (fun hHeld => ?_)
  · exact HSX.out _ HB.out
  clear hK K
  try simp only [Act.put, List.setIfInBounds_toArray, List.set_cons_zero, List.set_cons_succ]
  refine wpAnyH_take (i := 30) (oi := { dst := some 66, op := Op.pick (Operand.tmp 60) (Operand.tmp 65) (Operand.const (Value.bool false)), type := 4, pos := "law.go:69", after := #[{ on := 24, ground := Ground.data }, { on := 29, ground := Ground.data }], guard := none }) (v := ?_) rfl (by kernel_rfl) (by kernel_rfl) (by kernel_rfl) (fun _ _ _ h => h) (Or.inl ⟨by rfl, ?_⟩) (by assumption) ?_
  rotate_left
  · (intro w hSw; (try dsimp only at hSw); go_simp); (first | done | with_reducible rfl)
  try simp only [Act.put, List.setIfInBounds_toArray, List.set_cons_zero, List.set_cons_succ]
  refine wpAnyH_take (i := 31) (oi := { dst := some 67, op := Op.move (Operand.tmp 66), type := 4, pos := "law.go:69", after := #[{ on := 30, ground := Ground.data }, { on := 29, ground := Ground.chain }], guard := none }) (v := ?_) rfl (by kernel_rfl) (by kernel_rfl) (by kernel_rfl) (fun _ _ _ h => h) (Or.inl ⟨by rfl, ?_⟩) (by assumption) ?_
  rotate_left
  · (intro w hSw; (try dsimp only at hSw); go_simp); (first | done | with_reducible rfl)
  try simp only [Act.put, List.setIfInBounds_toArray, List.set_cons_zero, List.set_cons_succ]
  refine wpAnyH_ready (rs := [32]) (by kernel_rfl) (by simp) ?_
  refine AllReadyH.cons (o := { dst := some 68, op := Op.call { callee := Callee.value (Operand.func 11), args := #[], argTypes := #[] }, type := 4, pos := "law.go:69", after := #[{ on := 31, ground := Ground.chain }, { on := 31, ground := Ground.guard }], guard := some (31, true) }) rfl (fun K hK => ?_) (AllReadyH.nil)
  have CJ := Lib.hid (CL.out u29)
  go_simp
  go_at_call 11
  with_reducible refine (CJ.out).mono ?_
  rintro e u32 ⟨rfl, hbq⟩
  replace HB := Lib.hid (below_step HB.out hbq)
  clear hbq CJ
  go_wp2_with fail
  refine hK.out _ _ ?_ (fun hHeld => ?_)
  · exact HSX.out _ HB.out
  clear hK K
  try simp only [Act.put, List.setIfInBounds_toArray, List.set_cons_zero, List.set_cons_succ]
  refine wpAnyH_take (i := 33) (oi := { dst := some 69, op := Op.pick (Operand.tmp 67) (Operand.tmp 68) (Operand.const (Value.bool false)), type := 4, pos := "law.go:69", after := #[{ on := 31, ground := Ground.data }, { on := 32, ground := Ground.data }], guard := none }) (v := ?_) rfl (by kernel_rfl) (by kernel_rfl) (by kernel_rfl) (fun _ _ _ h => h) (Or.inl ⟨by rfl, ?_⟩) (by assumption) ?_
  rotate_left
  · (intro w hSw; (try dsimp only at hSw); go_simp); (first | done | with_reducible rfl)
  try simp only [Act.put, List.setIfInBounds_toArray, List.set_cons_zero, List.set_cons_succ]
  refine wpAnyH_take (i := 34) (oi := { dst := some 6, op := Op.assign (Operand.tmp 69), type := 4, pos := "law.go:69", after := #[{ on := 33, ground := Ground.data }, { on := 32, ground := Ground.chain }, { on := 0, ground := Ground.phase }, { on := 1, ground := Ground.phase }, { on := 2, ground := Ground.phase }, { on := 3, ground := Ground.phase }, { on := 4, ground := Ground.phase }, { on := 5, ground := Ground.phase }, { on := 6, ground := Ground.phase }, { on := 7, ground := Ground.phase }, { on := 8, ground := Ground.phase }, { on := 9, ground := Ground.phase }, { on := 10, ground := Ground.phase }, { on := 11, ground := Ground.phase }, { on := 12, ground := Ground.phase }, { on := 13, ground := Ground.phase }, { on := 14, ground := Ground.phase }, { on := 15, ground := Ground.phase }, { on := 16, ground := Ground.phase }, { on := 17, ground := Ground.phase }, { on := 18, ground := Ground.phase }, { on := 19, ground := Ground.phase }, { on := 20, ground := Ground.phase }, { on := 21, ground := Ground.phase }, { on := 22, ground := Ground.phase }, { on := 23, ground := Ground.phase }, { on := 24, ground := Ground.phase }, { on := 25, ground := Ground.phase }, { on := 26, ground := Ground.phase }, { on := 27, ground := Ground.phase }, { on := 28, ground := Ground.phase }, { on := 29, ground := Ground.phase }, { on := 30, ground := Ground.phase }, { on := 31, ground := Ground.phase }, { on := 32, ground := Ground.phase }, { on := 33, ground := Ground.phase }], guard := none }) (v := ?_) rfl (by kernel_rfl) (by kernel_rfl) (by kernel_rfl) (fun _ _ _ h => h) (Or.inl ⟨by rfl, ?_⟩) (by assumption) ?_
  rotate_left
  · (intro w hSw; (try dsimp only at hSw); go_simp); (first | done | with_reducible rfl)
  refine wpAnyH_done (by kernel_rfl) ?_ _
  go_wp2_with fail
  go_ret
  exact ⟨rfl, below_step HBW.out HB.out⟩

end Go.Proofs.Ytfcmjgcjmldpcaa
