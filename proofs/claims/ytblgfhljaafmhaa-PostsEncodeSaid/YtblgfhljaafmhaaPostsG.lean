/- Layer 12: a batch's bytes, the document's, by a contract. -/
import Derived.Test.YtblgfhljaafmhaaPostsF
namespace Go.Proofs.Ytblgfhljaafmhaa
set_option linter.unusedVariables false
open Go Go.RowKit
attribute [local go_sem ↓] run_index_S
attribute [local go_sem] S_append S_extract

theorem refEncBatch_no (h f : Int) (L : List M.Sp) (ao : Option Addr) (cap : Nat) (w : World) (hl : L.length ≤ 140737488351232) (hm : M.bMay ⟨h, f, L⟩ = false) :
    Calls Try.prog 11 #[.agg #[.int .i64 h, .int .i64 f, .slice ao L.length cap]] w fun e w' => e = encBV ⟨h, f, L⟩ ∧ Below w.heap.size w w' := by
  have HM := Lib.hid (encBV_no (M.bOk_no1 hm))
  have HN := Lib.hid (M.bMay_false.1 hm)
  clear hm
  have bw := (Below.refl w.heap.size w).alloc (Nat.le_refl _) (.cells #[.int .i64 h, .int .i64 f, .slice ao L.length cap] 24)
  cases hn : M.numB h f with
  | false =>
    have C0 := Lib.hid (fun W => by have := number_any h f W; rw [hn] at this; exact this)
    clear hn
    go_enter Try.func11, Try.ntmps11
    go_wp2_with fail
    with_reducible refine (C0.out _).mono ?_
    rintro e w1 ⟨rfl, rfl⟩
    go_wp2_with fail
    go_ret2
    exact ⟨HM.out, bw⟩
  | true =>
    have C0 := Lib.hid (fun W => by have := number_any h f W; rw [hn] at this; exact this)
    have h2 := M.numB_true.1 hn
    clear hn
    by_cases h3 : 1 ≤ L.length ∧ L.length ≤ 8
    · have hn : M.numB h (f + L.length) = false := by
        cases hc : M.numB h (f + L.length) with
        | false => rfl
        | true => exact absurd ⟨h2.1, h2.2, h3.1, h3.2, (M.numB_true.1 hc).2.2⟩ HN.out
      have C1 := Lib.hid (fun W => by have := number_any h (f + L.length) W; rw [hn] at this; exact this)
      clear hn
      go_enter Try.func11, Try.ntmps11
      go_wp2_with fail
      with_reducible refine (C0.out _).mono ?_
      rintro e w1 ⟨rfl, rfl⟩
      have d1 : decide ((L.length : Int) < 1) = false := by simp; omega
      have d2 : decide ((8 : Int) < (L.length : Int)) = false := by simp; omega
      go_wp2_with fail
      with_reducible refine (C1.out _).mono ?_
      rintro e w1 ⟨rfl, rfl⟩
      go_wp2_with fail
      go_ret2
      exact ⟨HM.out, bw⟩
    · by_cases h4 : 1 ≤ L.length
      · have d1 : decide ((L.length : Int) < 1) = false := by simp; omega
        have d2 : decide ((8 : Int) < (L.length : Int)) = true := by simp; omega
        go_enter Try.func11, Try.ntmps11
        go_wp2_with fail
        with_reducible refine (C0.out _).mono ?_
        rintro e w1 ⟨rfl, rfl⟩
        go_wp2_with fail
        go_ret2
        exact ⟨HM.out, bw⟩
      · have d1 : decide ((L.length : Int) < 1) = true := by simp; omega
        go_enter Try.func11, Try.ntmps11
        go_wp2_with fail
        with_reducible refine (C0.out _).mono ?_
        rintro e w1 ⟨rfl, rfl⟩
        go_wp2_with fail
        go_ret2
        exact ⟨HM.out, bw⟩

set_option maxHeartbeats 2000000 in
set_option maxRecDepth 100000 in
theorem refEncBatch_yes (h f : Nat) (L : List M.Sp) (ao : Option Addr) (cap : Nat) (w : World) (hx : ∀ x ∈ L, x.fits) (hs : SpsAt w ao L) (hm : M.bMay ⟨h, f, L⟩ = true) :
    Calls Try.prog 11 #[.agg #[.int .i64 h, .int .i64 f, .slice ao L.length cap]] w fun e w' => e = encBV ⟨h, f, L⟩ ∧ Below w.heap.size w w' := by
  have hb := M.bMay_true.1 hm
  dsimp only at hb
  have C0 := Lib.hid (fun W => by have := number_any h f W; rw [M.numB_true.2 ⟨hb.1, hb.2.1⟩] at this; exact this)
  have C9 := Lib.hid (fun W => by have := number_any h (f + L.length) W; rw [M.numB_true.2 ⟨hb.1, by omega⟩] at this; exact this)
  have HM := Lib.hid hm
  have HX := Lib.hid hx
  have HS := Lib.hid hs
  have c1 := fun W => refPut_nat h W (by omega)
  have c2 := fun W => refPut_nat f W (by omega)
  have c3 := fun W => refPut_nat L.length W (by omega)
  have p1 := (M.putN_length h).2
  have p2 := (M.putN_length f).2
  have p3 := (M.putN_length L.length).2
  have hz : M.encK ⟨h, f, L⟩ 0 = 66 :: (M.putN h ++ M.putN f ++ M.putN L.length) := M.encK_zero ⟨h, f, L⟩
  have hst := fun k (hk : k < L.length) => M.encK_step ⟨h, f, L⟩ k hk
  have hle := fun k (hj : ∀ j, j < k → M.mayB (L.getD j M.sp0) = true) (hk : k ≤ L.length) => M.encK_len ⟨h, f, L⟩ k hj hk (by dsimp only; omega)
  have hall := M.encK_all ⟨h, f, L⟩
  dsimp only at hst hall
  generalize M.encK ⟨h, f, L⟩ = q at *
  generalize M.putN h = e1 at *
  generalize M.putN f = e2 at *
  generalize M.putN L.length = e3 at *
  have C1 := Lib.hid c1
  have C2 := Lib.hid c2
  have C3 := Lib.hid c3
  have HZ := Lib.hid hz
  have HST := Lib.hid hst
  have HALL := Lib.hid hall
  have HLE := Lib.hid hle
  clear c1 c2 c3 hz hst hall hle hm hx hs
  go_enter Try.func11, Try.ntmps11
  go_wp2_with fail
  with_reducible refine (C0.out _).mono ?_
  rintro e w1 ⟨rfl, rfl⟩
  have HR := Lib.hid (rowIn_new #[.int .i64 h, .int .i64 f, .slice ao L.length cap] 24 w)
  have HB := Lib.hid ((Below.refl w.heap.size w).alloc (Nat.le_refl _) (.cells #[.int .i64 h, .int .i64 f, .slice ao L.length cap] 24))
  have d1 : decide ((L.length : Int) < 1) = false := by simp; omega
  have d2 : decide ((8 : Int) < (L.length : Int)) = false := by simp; omega
  go_wp2_with fail
  with_reducible refine (C9.out _).mono ?_
  rintro e w1 ⟨rfl, rfl⟩
  clear d1 d2
  go_wp2_with fail
  generalize w.alloc (.cells #[.int .i64 h, .int .i64 f, .slice ao L.length cap] 24) = w1 at *
  have g0 := HR.out.gcell 0 rfl
  have g1 := HR.out.gcell 1 rfl
  have g2 := HR.out.gcell 2 rfl
  refine wp_region_quiet_below (by kernel_rfl) (by kernel_rfl) ?_
  repeat (go_big_quiet_step ((first | (go_at_call 26; with_reducible exact Calls.regrown_of (C1.out _)) | (go_at_call 26; with_reducible exact Calls.regrown_of (C2.out _)) | (go_at_call 26; with_reducible exact Calls.regrown_of (C3.out _)))))
  refine wpQuiet_nil ?_
  intro _ hw1
  obtain ⟨⟨d1, o1⟩, hw1⟩ := hw1
  subst hw1
  have HR2 := Lib.hid (HR.out.grown d1 o1)
  have HB2 := Lib.hid (below_step HB.out (below_regrown _ d1 o1))
  generalize Sort.grow (redrawn w1 d1) o1 = w2 at *
  clear g0 g1 g2
  have g2 := HR2.out.cell 2
  go_wp2_with fail
  clear g2
  go_loopw [4, 5] (fun s i wr => ∃ k : Nat, k ≤ L.length ∧ s = .string ⟨(q k).toArray⟩ ∧ i = .int .i64 k ∧ (∀ j, j < k → M.mayB (L.getD j M.sp0) = true) ∧ RowIn #[.int .i64 h, .int .i64 f, .slice ao L.length cap] 24 wr w.heap.size ∧ Below w.heap.size w wr) (fun _ i _ => L.length - (intOf i).toNat)
  case atStart => exact ⟨0, by omega, by rw [HZ.out]; simp, rfl, fun j hj => by omega, HR2.out, HB2.out⟩
  case round =>
    rename_i wr
    obtain ⟨k, hk, rfl, rfl, hj, hR, hb⟩ := hrel
    have r2 := hR.cell 2
    have HR3 := Lib.hid hR
    clear hR
    have HJ := Lib.hid hj
    have HW := Lib.hid hb
    have hq := HLE.out k hj hk
    clear hj
    by_cases hlt : k < L.length
    · obtain ⟨g, off, rfl, hc⟩ := (HS.out.below hb).off k hlt
      obtain ⟨x0, x1, x2, x3, x4, x5, x6, x7⟩ := hc
      have hf := HX.out (L.getD k M.sp0) (by simp [List.getD, List.getElem?_eq_getElem hlt])
      have HQ := Lib.hid (HST.out k hlt)
      have hsz := hb.size
      clear hb
      cases hmx : M.mayB (L.getD k M.sp0) with
      | false =>
        have HN := Lib.hid (encBV_no (b := ⟨h, f, L⟩) (M.bOk_no2 (M.all_not k hlt hmx)))
        have C4 := Lib.hid (fun W => refEncode_no (L.getD k M.sp0) hf hmx W)
        clear hf hmx
        generalize L.getD k M.sp0 = x at *
        go_wp2_with fail
        with_reducible refine (C4.out _).mono ?_
        rintro e w3 ⟨rfl, hb3⟩
        go_wp2_with fail
        go_ret2
        exact ⟨HN.out, below_step HW.out hb3⟩
      | true =>
        have C4 := Lib.hid (fun W => refEncode_yes (L.getD k M.sp0) hf hmx W)
        have hlx := M.enc_len hmx
        have C5 := Lib.hid (fun W => refPutText_any (M.enc (L.getD k M.sp0)) W (by omega))
        have hl5 : (M.putN (M.enc (L.getD k M.sp0)).length ++ M.enc (L.getD k M.sp0)).length ≤ 100 := by have := (M.putN_length (M.enc (L.getD k M.sp0)).length).2; simp only [List.length_append]; omega
        have HMX := Lib.hid hmx
        clear hf hmx
        generalize hxe : L.getD k M.sp0 = x at *
        have HXE := Lib.hid hxe
        clear hxe
        generalize M.enc x = ex at *
        generalize M.putN ex.length ++ ex = px at *
        go_wp2_with fail
        with_reducible refine (C4.out _).mono ?_
        rintro e w3 ⟨rfl, hb3⟩
        go_wp2_with fail
        with_reducible refine (C5.out _).mono ?_
        rintro e w4 ⟨rfl, hb4⟩
        go_wp2_with fail
        go_roundw
        case rel => exact ⟨k + 1, by omega, by rw [HQ.out], by go_num, fun j hj => by
          by_cases e : j = k
          · rw [e, HXE.out]; exact HMX.out
          · exact HJ.out j (by omega), (HR3.out.below hb3).below hb4, below_step (below_step HW.out hb3) hb4⟩
        case measure => simp [intOf]; omega
    · obtain rfl : k = L.length := by omega
      have d1 : decide ((L.length : Int) < (L.length : Int)) = false := by simp
      have HY := Lib.hid (encBV_yes (b := ⟨h, f, L⟩) (M.bOk_of HM.out (M.all_of HJ.out)) HALL.out)
      go_wp2_with fail
      go_ret2
      exact ⟨HY.out, HW.out⟩


theorem refEncBatch_any (b : M.Bt) (ao : Option Addr) (cap : Nat) (w : World) (hl : b.sps.length ≤ 140737488351232) (hx : ∀ x ∈ b.sps, x.fits) (hs : SpsAt w ao b.sps) :
    Calls Try.prog 11 #[.agg #[.int .i64 b.host, .int .i64 b.first, .slice ao b.sps.length cap]] w fun e w' => e = encBV b ∧ Below w.heap.size w w' := by
  obtain ⟨h, f, L⟩ := b
  cases hm : M.bMay ⟨h, f, L⟩ with
  | false => exact refEncBatch_no h f L ao cap w hl hm
  | true =>
    have hb := M.bMay_true.1 hm
    dsimp only at hb
    obtain ⟨h, rfl⟩ := Int.eq_ofNat_of_zero_le (show 0 ≤ h by omega)
    obtain ⟨f, rfl⟩ := Int.eq_ofNat_of_zero_le (show 0 ≤ f by omega)
    exact refEncBatch_yes h f L ao cap w hx hs hm

end Go.Proofs.Ytblgfhljaafmhaa
