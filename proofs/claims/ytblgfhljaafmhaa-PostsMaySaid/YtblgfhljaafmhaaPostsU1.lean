/- Layer 12: PostsMay, walked. -/
import Derived.Test.YtblgfhljaafmhaaPostsQ
import Derived.Deep.CutRange
namespace Go.Proofs.Ytblgfhljaafmhaa
set_option linter.unusedVariables false
open Go Go.RowKit

theorem M.all_take_succ (L : List M.Sp) (k : Nat) (hk : k < L.length) : (L.take (k + 1)).all M.mayB = ((L.take k).all M.mayB && M.mayB (L.getD k M.sp0)) := by
  rw [List.take_succ_eq_append_getElem hk, List.all_append]
  simp [List.getD, List.getElem?_eq_getElem hk]

set_option maxHeartbeats 8000000 in
set_option maxRecDepth 100000 in
theorem postsMay_calls (W : World) (v : Value) (hv : UBt W v) (u : Value) (hu : UAk u) :
    Calls Try.prog 6 #[v, u] W fun e w' => e = .returned (.bool true) ∧ Below W.heap.size W w' := by
  obtain ⟨h, f, L, ao, cap, rfl, hbd, hlen, hint, hcap, hs⟩ := hv
  obtain ⟨a, rfl, hai⟩ := hu
  have bw := ((Below.refl W.heap.size W).alloc (Nat.le_refl _) (.cells #[.int .i64 h, .int .i64 f, .slice ao L.length cap] 24)).alloc (by rw [szA]; omega) (.cells #[.int .i64 a.host, .int .i64 a.first, .int .i64 a.next] 26)
  have HB0 := Lib.hid bw
  have HS0 := Lib.hid (hs.below bw)
  have HR0 := Lib.hid ((rowIn_new #[.int .i64 h, .int .i64 f, .slice ao L.length cap] 24 W).more (.cells #[.int .i64 a.host, .int .i64 a.first, .int .i64 a.next] 26))
  have HA0 := Lib.hid (rowIn_at #[.int .i64 a.host, .int .i64 a.first, .int .i64 a.next] 26 (W.alloc (.cells #[.int .i64 h, .int .i64 f, .slice ao L.length cap] 24)) (W.heap.size + 1) (by rw [szA]))
  have CG := Lib.hid (fun W' hs' => great12_any (w := W') (ao := ao) h f L cap hs' hlen)
  clear bw hs
  go_enter Try.func6, Try.ntmps6
  go_wp2_with fail
  with_reducible refine (CG.out _ HS0.out).mono ?_
  rintro e w1 ⟨rfl | ⟨rfl, hsm⟩, hb1⟩
  · go_wp2_with fail
    go_ret
    exact ⟨rfl, below_step HB0.out hb1⟩
  · have HF := Lib.hid (show ∀ x ∈ L, x.fits from fun x hx => by
      have h1 := hsm.2 x hx
      exact (hint x hx).fits (by have := h1.1; omega) (by have := h1.2.1; omega) (by have := h1.2.2; omega))
    have h50 := hsm.1
    have HR1 := Lib.hid (HR0.out.below hb1)
    have HA1 := Lib.hid (HA0.out.below hb1)
    have HS1 := Lib.hid (HS0.out.below hb1)
    have HB1 := Lib.hid (below_step HB0.out hb1)
    clear hb1 hsm hint hlen hcap
    have r0 : w1.cell? ⟨W.heap.size, 0, none⟩ = some (.int .i64 h) := HR1.out.cell 0
    have r1 : w1.cell? ⟨W.heap.size, 1, none⟩ = some (.int .i64 f) := HR1.out.cell 1
    have r2 : w1.cell? ⟨W.heap.size, 2, none⟩ = some (.slice ao L.length cap) := HR1.out.cell 2
    go_upto_region 3 with (fail)
    go_cut [5] from 13 to 51 (fun c wx => c = .bool (M.bMay ⟨h, f, L⟩) ∧ wx = w1)
    case first =>
      go_wp2_with fail
      all_goals
        go_meet
        case rel =>
          refine ⟨congrArg Value.bool ?_, rfl⟩
          rw [Bool.eq_iff_iff, M.bMay_true]
          simp only [decide_eq_true_eq, Bool.false_eq_true, false_iff]
          omega
    case rest =>
    obtain ⟨rfl, rfl⟩ := hcut
    cases hm : M.bMay ⟨h, f, L⟩ with
    | false =>
      have hbo := M.bOk_no1 hm
      have HBO := Lib.hid hbo
      clear hm hbo
      go_wp2_with fail
      · clear r0 r1 r2
        go_loopw [5, 6] (fun ok i wr => ∃ k : Nat, k ≤ L.length ∧ ok = .bool false ∧ i = .int .i64 k ∧ RowIn #[.int .i64 h, .int .i64 f, .slice ao L.length cap] 24 wr W.heap.size ∧ RowIn #[.int .i64 a.host, .int .i64 a.first, .int .i64 a.next] 26 wr (W.heap.size + 1) ∧ SpsAt wr ao L ∧ Below W.heap.size W wr) (fun _ i _ => L.length - (intOf i).toNat)
        case atStart =>
          exact ⟨0, by omega, rfl, rfl, HR1.out, HA1.out, HS1.out, HB1.out⟩
        case round =>
          rename_i wr
          obtain ⟨k, hk, rfl, rfl, hR, hA, hS, hb⟩ := hrel
          have HRr := Lib.hid hR
          have HAr := Lib.hid hA
          have HSr := Lib.hid hS
          have HBr := Lib.hid hb
          clear hR hA hS hb
          by_cases hlt : k < L.length
          · have d1 : decide ((k : Int) < (L.length : Int)) = true := by simp; omega
            have r2 : wr.cell? ⟨W.heap.size, 2, none⟩ = some (.slice ao L.length cap) := HRr.out.cell 2
            go_wp2_with fail
            go_roundw
            case rel => exact ⟨k + 1, by omega, rfl, by go_num, HRr.out, HAr.out, HSr.out, HBr.out⟩
            case measure => simp [intOf]; omega
          · obtain rfl : k = L.length := by omega
            have d1 : decide ((L.length : Int) < (L.length : Int)) = false := by simp
            have hbo := HBO.out
            have CB := Lib.hid (fun W' (hs : SpsAt W' ao L) => by have := encBatch_any ⟨h, f, L⟩ ao cap W' (by dsimp only; omega) HF.out hs; rw [encBV_bad hbo] at this; exact this)
            clear hbo
            have r0 : wr.cell? ⟨W.heap.size, 0, none⟩ = some (.int .i64 h) := HRr.out.cell 0
            have r1 : wr.cell? ⟨W.heap.size, 1, none⟩ = some (.int .i64 f) := HRr.out.cell 1
            have r2 : wr.cell? ⟨W.heap.size, 2, none⟩ = some (.slice ao L.length cap) := HRr.out.cell 2
            cases ham : M.aMay a with
            | true =>
              have CA := Lib.hid (fun W' => by have := encAck_any a W'; rw [ham] at this; exact this)
              obtain ⟨⟨t1, t2⟩, t3, t4, t5⟩ := M.aMay_true.1 ham
              clear ham
              go_wp2_with fail
              with_reducible refine (CB.out _ HSr.out).mono ?_
              rintro e w5 ⟨rfl, hb5⟩
              have HA5 := Lib.hid (HAr.out.below hb5)
              have HB5 := Lib.hid (below_step HBr.out hb5)
              clear hb5 r0 r1 r2
              have q0 : w5.cell? ⟨W.heap.size + 1, 0, none⟩ = some (.int .i64 a.host) := HA5.out.cell 0
              have q1 : w5.cell? ⟨W.heap.size + 1, 1, none⟩ = some (.int .i64 a.first) := HA5.out.cell 1
              have q2 : w5.cell? ⟨W.heap.size + 1, 2, none⟩ = some (.int .i64 a.next) := HA5.out.cell 2
              go_wp2_with fail
              with_reducible refine (CA.out _).mono ?_
              rintro e w6 ⟨rfl, hb6⟩
              have HA6 := Lib.hid (HA5.out.below hb6)
              have HB6 := Lib.hid (below_step HB5.out hb6)
              clear hb6 q0 q1 q2
              have q0 : w6.cell? ⟨W.heap.size + 1, 0, none⟩ = some (.int .i64 a.host) := HA6.out.cell 0
              have q1 : w6.cell? ⟨W.heap.size + 1, 1, none⟩ = some (.int .i64 a.first) := HA6.out.cell 1
              have q2 : w6.cell? ⟨W.heap.size + 1, 2, none⟩ = some (.int .i64 a.next) := HA6.out.cell 2
              simp only [M.errOf]
              go_wp2_with (go_at_call 15; refine (does12 _).mono ?_; rintro e w7 ⟨rfl, hb7⟩)
              all_goals
                go_ret
                exact ⟨rfl, below_step HB6.out (by assumption)⟩
            | false =>
              have CA := Lib.hid (fun W' => by have := encAck_any a W'; rw [ham] at this; exact this)
              have HAM := Lib.hid (M.aMay_false.1 ham)
              clear ham
              have hlast : decide (a.next ≤ 2147483647) = true ∨ decide (a.next ≤ 2147483647) = false := by cases decide (a.next ≤ 2147483647) <;> simp
              rcases hlast with hlast | hlast
              all_goals
                go_wp2_with fail
                with_reducible refine (CB.out _ HSr.out).mono ?_
                rintro e w5 ⟨rfl, hb5⟩
                have HA5 := Lib.hid (HAr.out.below hb5)
                have HB5 := Lib.hid (below_step HBr.out hb5)
                clear hb5 r0 r1 r2
                have q0 : w5.cell? ⟨W.heap.size + 1, 0, none⟩ = some (.int .i64 a.host) := HA5.out.cell 0
                have q1 : w5.cell? ⟨W.heap.size + 1, 1, none⟩ = some (.int .i64 a.first) := HA5.out.cell 1
                have q2 : w5.cell? ⟨W.heap.size + 1, 2, none⟩ = some (.int .i64 a.next) := HA5.out.cell 2
                go_wp2_with fail
                with_reducible refine (CA.out _).mono ?_
                rintro e w6 ⟨rfl, hb6⟩
                have HA6 := Lib.hid (HA5.out.below hb6)
                have HB6 := Lib.hid (below_step HB5.out hb6)
                clear hb6 q0 q1 q2
                have q0 : w6.cell? ⟨W.heap.size + 1, 0, none⟩ = some (.int .i64 a.host) := HA6.out.cell 0
                have q1 : w6.cell? ⟨W.heap.size + 1, 1, none⟩ = some (.int .i64 a.first) := HA6.out.cell 1
                have q2 : w6.cell? ⟨W.heap.size + 1, 2, none⟩ = some (.int .i64 a.next) := HA6.out.cell 2
                simp only [M.errOf]
                go_wp2_with (go_at_call 15; refine (does12 _).mono ?_; rintro e w7 ⟨rfl, hb7⟩)
                all_goals first
                  | (go_ret; exact ⟨rfl, below_step HB6.out (by assumption)⟩)
                  | (exfalso; have h9 := HAM.out; simp at hlast; omega)
    | true =>
      obtain ⟨⟨i1, i2⟩, ⟨i3, i4⟩, i5, i6, i7⟩ := M.bMay_true.1 hm
      dsimp only at i1 i2 i3 i4 i5 i6 i7
      have HM := Lib.hid hm
      clear hm
      have j5 : (1 : Int) ≤ (L.length : Int) := by omega
      have j6 : (L.length : Int) ≤ 8 := by omega
      go_wp2_with fail
      clear r0 r1 r2
      go_loopw [5, 6] (fun ok i wr => ∃ k : Nat, k ≤ L.length ∧ ok = .bool ((L.take k).all M.mayB) ∧ i = .int .i64 k ∧ RowIn #[.int .i64 h, .int .i64 f, .slice ao L.length cap] 24 wr W.heap.size ∧ RowIn #[.int .i64 a.host, .int .i64 a.first, .int .i64 a.next] 26 wr (W.heap.size + 1) ∧ SpsAt wr ao L ∧ Below W.heap.size W wr) (fun _ i _ => L.length - (intOf i).toNat)
      case atStart => exact ⟨0, by omega, by simp, rfl, HR1.out, HA1.out, HS1.out, HB1.out⟩
      case round =>
        rename_i wr
        obtain ⟨k, hk, rfl, rfl, hR, hA, hS, hb⟩ := hrel
        have HRr := Lib.hid hR
        have HAr := Lib.hid hA
        have HSr := Lib.hid hS
        have HBr := Lib.hid hb
        clear hR hA hS hb
        by_cases hlt : k < L.length
        · have d1 : decide ((k : Int) < (L.length : Int)) = true := by simp; omega
          have r2 : wr.cell? ⟨W.heap.size, 2, none⟩ = some (.slice ao L.length cap) := HRr.out.cell 2
          have hst := M.all_take_succ L k hlt
          cases hA : (L.take k).all M.mayB with
          | false =>
            rw [hA, Bool.false_and] at hst
            have HST := Lib.hid hst
            clear hst hA
            go_wp2_with fail
            go_roundw
            case rel => exact ⟨k + 1, by omega, by rw [HST.out], by go_num, HRr.out, HAr.out, HSr.out, HBr.out⟩
            case measure => simp [intOf]; omega
          | true =>
            rw [hA, Bool.true_and] at hst
            have HST := Lib.hid hst
            clear hst hA
            obtain ⟨g, off, rfl, hc⟩ := HSr.out.off k hlt
            obtain ⟨x0, x1, x2, x3, x4, x5, x6, x7⟩ := hc
            have hf := HF.out (L.getD k M.sp0) (by simp [List.getD, List.getElem?_eq_getElem hlt])
            have CC := Lib.hid (fun W' => check_any (L.getD k M.sp0) hf W')
            clear hf
            generalize L.getD k M.sp0 = x at *
            cases hx : M.mayB x with
            | false =>
              rw [hx] at CC HST
              clear hx
              go_wp2_with fail
              with_reducible refine (CC.out _).mono ?_
              rintro e w3 ⟨rfl, hb3⟩
              simp only [M.errOf]
              go_wp2_with fail
              go_roundw
              case rel => exact ⟨k + 1, by omega, by rw [HST.out], by go_num, HRr.out.below hb3, HAr.out.below hb3, HSr.out.below hb3, below_step HBr.out hb3⟩
              case measure => simp [intOf]; omega
            | true =>
              rw [hx] at CC HST
              clear hx
              go_wp2_with fail
              with_reducible refine (CC.out _).mono ?_
              rintro e w3 ⟨rfl, hb3⟩
              simp only [M.errOf]
              go_wp2_with fail
              go_roundw
              case rel => exact ⟨k + 1, by omega, by rw [HST.out], by go_num, HRr.out.below hb3, HAr.out.below hb3, HSr.out.below hb3, below_step HBr.out hb3⟩
              case measure => simp [intOf]; omega
        · obtain rfl : k = L.length := by omega
          have d1 : decide ((L.length : Int) < (L.length : Int)) = false := by simp
          rw [List.take_length]
          cases hall : L.all M.mayB with
          | true =>
            have hbo := M.bOk_of HM.out hall
            clear hall
            have CB := Lib.hid (fun W' (hs : SpsAt W' ao L) => by have := encBatch_any ⟨h, f, L⟩ ao cap W' (by dsimp only; omega) HF.out hs; rw [encBV_good hbo] at this; exact this)
            clear hbo
            have r0 : wr.cell? ⟨W.heap.size, 0, none⟩ = some (.int .i64 h) := HRr.out.cell 0
            have r1 : wr.cell? ⟨W.heap.size, 1, none⟩ = some (.int .i64 f) := HRr.out.cell 1
            have r2 : wr.cell? ⟨W.heap.size, 2, none⟩ = some (.slice ao L.length cap) := HRr.out.cell 2
            cases ham : M.aMay a with
            | true =>
              have CA := Lib.hid (fun W' => by have := encAck_any a W'; rw [ham] at this; exact this)
              obtain ⟨⟨t1, t2⟩, t3, t4, t5⟩ := M.aMay_true.1 ham
              clear ham
              go_wp2_with fail
              with_reducible refine (CB.out _ HSr.out).mono ?_
              rintro e w5 ⟨rfl, hb5⟩
              have HA5 := Lib.hid (HAr.out.below hb5)
              have HB5 := Lib.hid (below_step HBr.out hb5)
              clear hb5 r0 r1 r2
              have q0 : w5.cell? ⟨W.heap.size + 1, 0, none⟩ = some (.int .i64 a.host) := HA5.out.cell 0
              have q1 : w5.cell? ⟨W.heap.size + 1, 1, none⟩ = some (.int .i64 a.first) := HA5.out.cell 1
              have q2 : w5.cell? ⟨W.heap.size + 1, 2, none⟩ = some (.int .i64 a.next) := HA5.out.cell 2
              go_wp2_with fail
              with_reducible refine (CA.out _).mono ?_
              rintro e w6 ⟨rfl, hb6⟩
              have HA6 := Lib.hid (HA5.out.below hb6)
              have HB6 := Lib.hid (below_step HB5.out hb6)
              clear hb6 q0 q1 q2
              have q0 : w6.cell? ⟨W.heap.size + 1, 0, none⟩ = some (.int .i64 a.host) := HA6.out.cell 0
              have q1 : w6.cell? ⟨W.heap.size + 1, 1, none⟩ = some (.int .i64 a.first) := HA6.out.cell 1
              have q2 : w6.cell? ⟨W.heap.size + 1, 2, none⟩ = some (.int .i64 a.next) := HA6.out.cell 2
              simp only [M.errOf]
              go_wp2_with (go_at_call 15; refine (does12 _).mono ?_; rintro e w7 ⟨rfl, hb7⟩)
              all_goals
                go_ret
                exact ⟨rfl, below_step HB6.out (by assumption)⟩
            | false =>
              have CA := Lib.hid (fun W' => by have := encAck_any a W'; rw [ham] at this; exact this)
              have HAM := Lib.hid (M.aMay_false.1 ham)
              clear ham
              have hlast : decide (a.next ≤ 2147483647) = true ∨ decide (a.next ≤ 2147483647) = false := by cases decide (a.next ≤ 2147483647) <;> simp
              rcases hlast with hlast | hlast
              all_goals
                go_wp2_with fail
                with_reducible refine (CB.out _ HSr.out).mono ?_
                rintro e w5 ⟨rfl, hb5⟩
                have HA5 := Lib.hid (HAr.out.below hb5)
                have HB5 := Lib.hid (below_step HBr.out hb5)
                clear hb5 r0 r1 r2
                have q0 : w5.cell? ⟨W.heap.size + 1, 0, none⟩ = some (.int .i64 a.host) := HA5.out.cell 0
                have q1 : w5.cell? ⟨W.heap.size + 1, 1, none⟩ = some (.int .i64 a.first) := HA5.out.cell 1
                have q2 : w5.cell? ⟨W.heap.size + 1, 2, none⟩ = some (.int .i64 a.next) := HA5.out.cell 2
                go_wp2_with fail
                with_reducible refine (CA.out _).mono ?_
                rintro e w6 ⟨rfl, hb6⟩
                have HA6 := Lib.hid (HA5.out.below hb6)
                have HB6 := Lib.hid (below_step HB5.out hb6)
                clear hb6 q0 q1 q2
                have q0 : w6.cell? ⟨W.heap.size + 1, 0, none⟩ = some (.int .i64 a.host) := HA6.out.cell 0
                have q1 : w6.cell? ⟨W.heap.size + 1, 1, none⟩ = some (.int .i64 a.first) := HA6.out.cell 1
                have q2 : w6.cell? ⟨W.heap.size + 1, 2, none⟩ = some (.int .i64 a.next) := HA6.out.cell 2
                simp only [M.errOf]
                go_wp2_with (go_at_call 15; refine (does12 _).mono ?_; rintro e w7 ⟨rfl, hb7⟩)
                all_goals first
                  | (go_ret; exact ⟨rfl, below_step HB6.out (by assumption)⟩)
                  | (exfalso; have h9 := HAM.out; simp at hlast; omega)
          | false =>
            have hbo := M.bOk_no2 (b := ⟨h, f, L⟩) hall
            clear hall
            have CB := Lib.hid (fun W' (hs : SpsAt W' ao L) => by have := encBatch_any ⟨h, f, L⟩ ao cap W' (by dsimp only; omega) HF.out hs; rw [encBV_bad hbo] at this; exact this)
            clear hbo
            have r0 : wr.cell? ⟨W.heap.size, 0, none⟩ = some (.int .i64 h) := HRr.out.cell 0
            have r1 : wr.cell? ⟨W.heap.size, 1, none⟩ = some (.int .i64 f) := HRr.out.cell 1
            have r2 : wr.cell? ⟨W.heap.size, 2, none⟩ = some (.slice ao L.length cap) := HRr.out.cell 2
            cases ham : M.aMay a with
            | true =>
              have CA := Lib.hid (fun W' => by have := encAck_any a W'; rw [ham] at this; exact this)
              obtain ⟨⟨t1, t2⟩, t3, t4, t5⟩ := M.aMay_true.1 ham
              clear ham
              go_wp2_with fail
              with_reducible refine (CB.out _ HSr.out).mono ?_
              rintro e w5 ⟨rfl, hb5⟩
              have HA5 := Lib.hid (HAr.out.below hb5)
              have HB5 := Lib.hid (below_step HBr.out hb5)
              clear hb5 r0 r1 r2
              have q0 : w5.cell? ⟨W.heap.size + 1, 0, none⟩ = some (.int .i64 a.host) := HA5.out.cell 0
              have q1 : w5.cell? ⟨W.heap.size + 1, 1, none⟩ = some (.int .i64 a.first) := HA5.out.cell 1
              have q2 : w5.cell? ⟨W.heap.size + 1, 2, none⟩ = some (.int .i64 a.next) := HA5.out.cell 2
              go_wp2_with fail
              with_reducible refine (CA.out _).mono ?_
              rintro e w6 ⟨rfl, hb6⟩
              have HA6 := Lib.hid (HA5.out.below hb6)
              have HB6 := Lib.hid (below_step HB5.out hb6)
              clear hb6 q0 q1 q2
              have q0 : w6.cell? ⟨W.heap.size + 1, 0, none⟩ = some (.int .i64 a.host) := HA6.out.cell 0
              have q1 : w6.cell? ⟨W.heap.size + 1, 1, none⟩ = some (.int .i64 a.first) := HA6.out.cell 1
              have q2 : w6.cell? ⟨W.heap.size + 1, 2, none⟩ = some (.int .i64 a.next) := HA6.out.cell 2
              simp only [M.errOf]
              go_wp2_with (go_at_call 15; refine (does12 _).mono ?_; rintro e w7 ⟨rfl, hb7⟩)
              all_goals
                go_ret
                exact ⟨rfl, below_step HB6.out (by assumption)⟩
            | false =>
              have CA := Lib.hid (fun W' => by have := encAck_any a W'; rw [ham] at this; exact this)
              have HAM := Lib.hid (M.aMay_false.1 ham)
              clear ham
              have hlast : decide (a.next ≤ 2147483647) = true ∨ decide (a.next ≤ 2147483647) = false := by cases decide (a.next ≤ 2147483647) <;> simp
              rcases hlast with hlast | hlast
              all_goals
                go_wp2_with fail
                with_reducible refine (CB.out _ HSr.out).mono ?_
                rintro e w5 ⟨rfl, hb5⟩
                have HA5 := Lib.hid (HAr.out.below hb5)
                have HB5 := Lib.hid (below_step HBr.out hb5)
                clear hb5 r0 r1 r2
                have q0 : w5.cell? ⟨W.heap.size + 1, 0, none⟩ = some (.int .i64 a.host) := HA5.out.cell 0
                have q1 : w5.cell? ⟨W.heap.size + 1, 1, none⟩ = some (.int .i64 a.first) := HA5.out.cell 1
                have q2 : w5.cell? ⟨W.heap.size + 1, 2, none⟩ = some (.int .i64 a.next) := HA5.out.cell 2
                go_wp2_with fail
                with_reducible refine (CA.out _).mono ?_
                rintro e w6 ⟨rfl, hb6⟩
                have HA6 := Lib.hid (HA5.out.below hb6)
                have HB6 := Lib.hid (below_step HB5.out hb6)
                clear hb6 q0 q1 q2
                have q0 : w6.cell? ⟨W.heap.size + 1, 0, none⟩ = some (.int .i64 a.host) := HA6.out.cell 0
                have q1 : w6.cell? ⟨W.heap.size + 1, 1, none⟩ = some (.int .i64 a.first) := HA6.out.cell 1
                have q2 : w6.cell? ⟨W.heap.size + 1, 2, none⟩ = some (.int .i64 a.next) := HA6.out.cell 2
                simp only [M.errOf]
                go_wp2_with (go_at_call 15; refine (does12 _).mono ?_; rintro e w7 ⟨rfl, hb7⟩)
                all_goals first
                  | (go_ret; exact ⟨rfl, below_step HB6.out (by assumption)⟩)
                  | (exfalso; have h9 := HAM.out; simp at hlast; omega)

end Go.Proofs.Ytblgfhljaafmhaa
