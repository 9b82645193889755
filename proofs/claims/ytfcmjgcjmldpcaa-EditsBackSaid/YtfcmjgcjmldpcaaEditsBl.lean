/- Layer 16: EditsBack (genback.py). -/
import Derived.Test.YtfcmjgcjmldpcaaEditsBk
import Derived.Test.YtfcmjgcjmldpcaaEditsAe
namespace Go.Proofs.Ytfcmjgcjmldpcaa
set_option linter.unusedVariables false
set_option linter.unusedSimpArgs false
open Go Go.RowKit
attribute [local go_sem ↓] run_index_S
attribute [local go_sem] S_append S_extract

theorem resIn_of2 {L : List Re} (h : EdsIn L) (hn : (L.length : Int) ≤ 40) (hs : ∀ r, r ∈ L → SmallE r) : ResIn L :=
  ⟨by omega, fun r hr => ⟨by have := (hs r hr).1; omega, (h.each r hr).key, (h.each r hr).fs.each⟩⟩
theorem edN_len {l : List UInt8} : ∀ {n p q : Nat} {xs : List Ed.Ed}, Rd.edN l n p = some (xs, q) → p ≤ l.length → p + xs.length ≤ q ∧ q ≤ l.length
  | 0, p, q, xs, h, hp => by simp only [Rd.edN, Option.some.injEq, Prod.mk.injEq] at h; obtain ⟨rfl, rfl⟩ := h; simpa using hp
  | n + 1, p, q, xs, h, hp => by
    simp only [Rd.edN] at h
    cases hg : Rd.ed l p with
    | none => rw [hg] at h; cases h
    | some x =>
      obtain ⟨v, p'⟩ := x
      have hb : p < p' ∧ p' ≤ l.length := by
        unfold Rd.ed at hg
        cases h1 : M.gets l p with
        | none => simp only [h1] at hg; cases hg
        | some x1 =>
          obtain ⟨v1, p1⟩ := x1
          simp only [h1] at hg
          cases h2 : M.gets l p1 with
          | none => simp only [h2] at hg; cases hg
          | some x2 =>
            obtain ⟨v2, p2⟩ := x2
            simp only [h2] at hg
            cases h3 : M.gets l p2 with
            | none => simp only [h3] at hg; cases hg
            | some x3 =>
              obtain ⟨v3, p3⟩ := x3
              simp only [h3] at hg
              cases h4 : Rd.lst l p3 with
              | none => simp only [h4] at hg; cases hg
              | some x4 =>
                obtain ⟨xs4, p4⟩ := x4
                simp only [h4] at hg
                cases h5 : M.getTs l p4 with
                | none => simp only [h5] at hg; cases hg
                | some x5 =>
                  obtain ⟨t, p5⟩ := x5
                  simp only [h5, Option.some.injEq, Prod.mk.injEq] at hg
                  have b1 := M.gets_bounds h1
                  have b2 := M.gets_bounds h2
                  have b3 := M.gets_bounds h3
                  have b4 := lst_bounds h4
                  have b5 := getTs_bounds h5
                  omega
      rw [hg] at h
      simp only at h
      cases hl2 : Rd.edN l n p' with
      | none => rw [hl2] at h; cases h
      | some y =>
        obtain ⟨ys, q'⟩ := y
        have ih := edN_len hl2 hb.2
        rw [hl2] at h
        simp only [Option.some.injEq, Prod.mk.injEq] at h
        obtain ⟨rfl, rfl⟩ := h
        simp only [List.length_cons]
        omega
theorem dec_len {l : List UInt8} {es : List Ed.Ed} (h : Rd.dec l = some es) : es.length ≤ l.length := by
  unfold Rd.dec Rd.eds at h
  cases hg : M.gets l (0 : Nat) with
  | none => rw [hg] at h; cases h
  | some x =>
    obtain ⟨n, p⟩ := x
    have hb := M.gets_bounds hg
    rw [hg] at h
    simp only at h
    cases he : Rd.edN l n p with
    | none => rw [he] at h; cases h
    | some y =>
      obtain ⟨xs, q⟩ := y
      have := edN_len he hb.2.2.1
      rw [he] at h
      simp only at h
      split at h
      · simp only [Option.some.injEq] at h
        subst h
        omega
      · cases h
/-- A state in memory, in a box. -/
structure SBox (W : World) (b : Nat) (Rs : List Rt) (a : Option Addr) (c : Nat) (lg nx : Int) (w : World) : Prop where
  bx : BkIn (stA a Rs.length c lg nx) 24 w b
  at_ : TbsAt w a Rs
theorem SBox.below {W w w' : World} {b : Nat} {Rs : List Rt} {a : Option Addr} {c : Nat} {lg nx : Int} (h : SBox W b Rs a c lg nx w) (hb : Below w.heap.size w w') : SBox W b Rs a c lg nx w' := ⟨h.bx.below hb, h.at_.below hb⟩
theorem encS_len {s : Ed.St} (h : Ed.Ok s) {Rs : List Rt} (hT : tbs Rs = s.T) : (Ed.encS s).length ≤ 60000 := by
  obtain ⟨T, lg, nx⟩ := s
  simp only at hT
  subst hT
  have h1 := pbs_len Rs (ok_mem16 h)
  have h2 := Ed.pns_len [lg, nx, ((tbs Rs).length : Int)]
  have h3 := (Ok.small h).2.1
  simp only [Ed.encS, List.length_append, List.length_cons, List.length_nil] at *
  omega
set_option maxHeartbeats 8000000 in
set_option maxRecDepth 100000 in
theorem editsBack_calls (W : World) (v : Value) (hv : UEds W v) (b : List UInt8) (hbl : b.length ≤ 140737488351232) :
    Calls Try.prog 6 #[v, .string (S b)] W fun e w' => e = .returned (.bool true) ∧ Below W.heap.size W w' := by
  obtain ⟨L, lo, lc, rfl, hin, hN⟩ := hv
  have HIN := Lib.hid hin
  have HN := Lib.hid hN
  have CB := Lib.hid (beyond16_any L hin.ok lo lc 40 W hN)
  have hLn := hin.n
  have CL := Lib.hid lives16_any
  have HB := Lib.hid (Below.refl W.heap.size W)
  clear hin hN
  go_enter Try.func6, Try.ntmps6
  go_wp2_with fail
  with_reducible refine (CB.out).mono ?_
  rintro e w1 ⟨rfl | ⟨rfl, hn40, hsm⟩, rfl⟩
  · go_wp2_with fail
    with_reducible refine (CL.out _).mono ?_
    rintro e wz ⟨rfl, hb⟩
    have HBZ := Lib.hid (HB.out.trans (hb.mono HB.out.size))
    clear hb
    go_wp2_with fail
    go_ret
    exact ⟨rfl, HBZ.out⟩
  by_cases hb3 : 300 < b.length
  · have d3 : decide ((300 : Int) < (b.length : Int)) = true := decide_eq_true (by omega)
    have d4 : decide (300 < b.length) = true := decide_eq_true hb3
    go_wp2_with fail
    with_reducible refine (CL.out _).mono ?_
    rintro e wz ⟨rfl, hb⟩
    have HBZ := Lib.hid (HB.out.trans (hb.mono HB.out.size))
    clear hb
    go_wp2_with fail
    go_ret
    exact ⟨rfl, HBZ.out⟩
  have d3 : decide ((300 : Int) < (b.length : Int)) = false := decide_eq_false (by omega)
  have d4 : decide (300 < b.length) = false := decide_eq_false hb3
  have HB3 := Lib.hid (show b.length ≤ 300 from by omega)
  have CH := Lib.hid (behind16_any L (resIn_of2 HIN.out hn40 hsm) lo lc W HN.out)
  clear hsm CB hb3
  go_wp2_with fail
  with_reducible refine (CH.out).mono ?_
  rintro e w2 ⟨Rk, ao, c, rfl, hat, hT, hok, hb⟩
  unfold stV
  generalize Ed.bhd Ed.first (eds L) = s at *
  obtain ⟨T, lg, nx⟩ := s
  simp only at hT
  subst hT
  have HOK := Lib.hid hok
  replace HB := Lib.hid hb
  have hba := (Below.refl w2.heap.size w2).alloc (Nat.le_refl _) (.cells #[.slice ao Rk.length c, .int .i64 lg, .int .i64 nx] 24)
  have HS := Lib.hid (show SBox W w2.heap.size Rk ao c lg nx (w2.alloc (.cells #[.slice ao Rk.length c, .int .i64 lg, .int .i64 nx] 24)) from ⟨bkIn_new _ _ w2, hat.below hba⟩)
  replace HB := Lib.hid (HB.out.trans (hba.mono HB.out.size))
  have CE := Lib.hid (encodeState16_any Rk (small_ok HOK.out) ao c lg nx _ HS.out.at_)
  clear hat hok hb hba CH
  go_wp2_with fail
  generalize w2.alloc (.cells #[.slice ao Rk.length c, .int .i64 lg, .int .i64 nx] 24) = w3 at *
  generalize w2.heap.size = sb at *
  with_reducible refine (CE.out).mono ?_
  rintro e w4 ⟨hb, ⟨_, rfl⟩ | ⟨hno, _⟩⟩
  rotate_left
  · exact absurd HOK.out hno
  replace HS := Lib.hid (HS.out.below hb)
  replace HB := Lib.hid (below_step HB.out hb)
  have HSE := Lib.hid (st_enc HOK.out.wr)
  have HSM := Lib.hid (st_more HOK.out.wr 0)
  have HLE := Lib.hid (encS_len HOK.out (Rs := Rk) rfl)
  clear hb CE
  generalize Ed.encS ⟨tbs Rk, lg, nx⟩ = t at *
  have CD := Lib.hid (decodeState16_any t (by have := HLE.out; omega) w4)
  go_wp2_with fail
  with_reducible refine (CD.out).mono ?_
  rintro e w5 ⟨hb, ⟨Rq, aq, cq, s2, h2, _, rfl, hatq, hTq⟩ | ⟨hno, _⟩⟩
  rotate_left
  · exact absurd HOK.out (hno _ HSE.out)
  obtain rfl : s2 = ⟨tbs Rk, lg, nx⟩ := by rw [HSE.out] at h2; exact (Option.some.inj h2).symm
  simp only at hTq ⊢
  have hba := (Below.refl w5.heap.size w5).alloc (Nat.le_refl _) (.cells #[.slice aq Rq.length cq, .int .i64 lg, .int .i64 nx] 24)
  have HU := Lib.hid (show SBox W w5.heap.size Rq aq cq lg nx (w5.alloc (.cells #[.slice aq Rq.length cq, .int .i64 lg, .int .i64 nx] 24)) from ⟨bkIn_new _ _ w5, hatq.below hba⟩)
  replace HS := Lib.hid ((HS.out.below hb).below hba)
  replace HB := Lib.hid (below_step (below_step HB.out hb) hba)
  have HTQ := Lib.hid hTq
  clear hb hba hatq hTq CD h2
  have HLT := Lib.hid (show (t ++ [0]).length ≤ 90000 from by have := HLE.out; simp; omega)
  have hle := HLE.out
  have CD2 := Lib.hid (decodeState16_any (t ++ [0]) HLT.out (w5.alloc (.cells #[.slice aq Rq.length cq, .int .i64 lg, .int .i64 nx] 24)))
  go_wp2_with fail
  generalize w5.alloc (.cells #[.slice aq Rq.length cq, .int .i64 lg, .int .i64 nx] 24) = w6 at *
  generalize w5.heap.size = ub at *
  with_reducible refine (CD2.out).mono ?_
  rintro e w7 ⟨hb, ⟨_, _, _, s3, h3, _⟩ | ⟨_, rfl⟩⟩
  · rw [HSM.out] at h3; cases h3
  have hba := (Below.refl w7.heap.size w7).alloc (Nat.le_refl _) (.cells #[.slice none 0 0, .int .i64 0, .int .i64 0] 24)
  replace HS := Lib.hid ((HS.out.below hb).below hba)
  replace HU := Lib.hid ((HU.out.below hb).below hba)
  replace HB := Lib.hid (below_step (below_step HB.out hb) hba)
  clear hb hba CD2 HSM HLT
  have CSS := Lib.hid (sameState16_any Rk Rq (small_ok HOK.out) (small_ok (log := lg) (next := nx) (by rw [HTQ.out]; exact HOK.out)) ao aq c cq lg nx lg nx _ HS.out.at_ HU.out.at_)
  unfold stV at CSS
  have s0 := HS.out.bx.cell 0
  have s1 := HS.out.bx.cell 1
  have s2 := HS.out.bx.cell 2
  have u0 := HU.out.bx.cell 0
  have u1 := HU.out.bx.cell 1
  have u2 := HU.out.bx.cell 2
  simp only [stA, List.getElem?_toArray, List.getElem?_cons_zero, List.getElem?_cons_succ] at s0 s1 s2 u0 u1 u2
  go_wp2_with fail
  generalize w7.alloc (.cells #[.slice none 0 0, .int .i64 0, .int .i64 0] 24) = w8 at *
  with_reducible refine (CSS.out).mono ?_
  rintro e w9 ⟨r, rfl, hr, hb⟩
  obtain rfl : r = true := hr.2 (by rw [HTQ.out])
  replace HB := Lib.hid (below_step HB.out hb)
  clear hb hr CSS s0 s1 s2 u0 u1 u2 HS HU HSE HLE HTQ
  have CX := Lib.hid (decode16_any b (by have := HB3.out; omega) w9)
  go_wp2_with fail
  with_reducible refine (CX.out).mono ?_
  rintro e w10 (⟨D, ad, cd, hD, rfl, hm⟩ | ⟨hno, rfl, hb⟩)
  · have hinv := dec_inv (l := b) (by have := HB3.out; omega) hD
    have HEN := Lib.hid hinv.1
    have HDK := Lib.hid (show ∀ r ∈ D, EncOk r from fun r hr => by
      have h1 := hinv.2 r.ed (List.mem_map.2 ⟨r, hr, rfl⟩)
      have h2 := HB3.out
      exact ⟨by have := h1.2.1; simp only [Re.ed] at this; omega, by have := h1.2.2; simp only [Re.ed] at this; omega, h1.1.kind.2, h1.1.at_.2, h1.1.file.2, fun n hn => (h1.1.fs n hn).2⟩)
    have HDL := Lib.hid (show D.length ≤ 100000 from by
      have h1 := dec_len hD
      have h2 := HB3.out
      simp only [eds, List.length_map] at h1
      omega)
    have CE2 := Lib.hid (encode16_any D HDL.out HDK.out ad cd w10 hm.at_)
    replace HB := Lib.hid (below_step HB.out hm.bel)
    clear hinv hm CX hD
    go_wp2_with fail
    with_reducible refine (CE2.out).mono ?_
    rintro e w11 ⟨rfl, hb⟩
    rw [HEN.out]
    replace HB := Lib.hid (below_step HB.out hb)
    clear hb CE2
    have CY := Lib.hid (decodeState16_any b (by have := HB3.out; omega) w11)
    go_wp2_with fail
    with_reducible refine (CY.out).mono ?_
    rintro e y1 ⟨hb, ⟨Ry, ay, cy, s4, h4, hk4, rfl, hat4, hT4⟩ | ⟨hno4, rfl⟩⟩
    · obtain ⟨T4, lg4, nx4⟩ := s4
      simp only at hT4 ⊢
      subst hT4
      have hba := (Below.refl y1.heap.size y1).alloc (Nat.le_refl _) (.cells #[.slice ay Ry.length cy, .int .i64 lg4, .int .i64 nx4] 24)
      have HY := Lib.hid (show SBox W y1.heap.size Ry ay cy lg4 nx4 (y1.alloc (.cells #[.slice ay Ry.length cy, .int .i64 lg4, .int .i64 nx4] 24)) from ⟨bkIn_new _ _ y1, hat4.below hba⟩)
      replace HB := Lib.hid (below_step (below_step HB.out hb) hba)
      have HK4 := Lib.hid hk4
      have HEQ := Lib.hid (st_inv h4)
      have CE3 := Lib.hid (encodeState16_any Ry (small_ok HK4.out) ay cy lg4 nx4 _ HY.out.at_)
      clear hb hba hat4 hk4 h4 CY
      go_wp2_with fail
      generalize y1.alloc (.cells #[.slice ay Ry.length cy, .int .i64 lg4, .int .i64 nx4] 24) = y2 at *
      generalize y1.heap.size = yb at *
      with_reducible refine (CE3.out).mono ?_
      rintro e y3 ⟨hb, ⟨_, rfl⟩ | ⟨hno, _⟩⟩
      rotate_left
      · exact absurd HK4.out hno
      replace HY := Lib.hid (HY.out.below hb)
      replace HB := Lib.hid (below_step HB.out hb)
      rw [HEQ.out]
      have CC := Lib.hid (check16_any Ry (small_ok HK4.out) ay cy lg4 nx4 y3 HY.out.at_)
      unfold stV at CC
      have s0 := HY.out.bx.cell 0
      have s1 := HY.out.bx.cell 1
      have s2 := HY.out.bx.cell 2
      simp only [stA, List.getElem?_toArray, List.getElem?_cons_zero, List.getElem?_cons_succ] at s0 s1 s2
      clear hb CE3
      go_wp2_with fail
      with_reducible refine (CC.out).mono ?_
      rintro e y4 ⟨bk, rfl, hok4, hb⟩
      obtain rfl : bk = true := hok4.2 HK4.out
      replace HB := Lib.hid (below_step HB.out hb)
      clear hb hok4 CC s0 s1 s2
      go_wp2_with fail
      with_reducible refine (CL.out _).mono ?_
      rintro e wz ⟨rfl, hb⟩
      have HBZ := Lib.hid (HB.out.trans (hb.mono HB.out.size))
      clear hb
      go_wp2_with fail
      go_ret
      exact ⟨rfl, HBZ.out⟩
    · have hba := (Below.refl y1.heap.size y1).alloc (Nat.le_refl _) (.cells #[.slice none 0 0, .int .i64 0, .int .i64 0] 24)
      replace HB := Lib.hid (below_step (below_step HB.out hb) hba)
      clear hb hba CY
      go_wp2_with fail
      with_reducible refine (CL.out _).mono ?_
      rintro e wz ⟨rfl, hb⟩
      have HBZ := Lib.hid (HB.out.trans (hb.mono HB.out.size))
      clear hb
      go_wp2_with fail
      go_ret
      exact ⟨rfl, HBZ.out⟩
  · replace HB := Lib.hid (below_step HB.out hb)
    clear hb CX
    have CY := Lib.hid (decodeState16_any b (by have := HB3.out; omega) w10)
    go_wp2_with fail
    with_reducible refine (CY.out).mono ?_
    rintro e y1 ⟨hb, ⟨Ry, ay, cy, s4, h4, hk4, rfl, hat4, hT4⟩ | ⟨hno4, rfl⟩⟩
    · obtain ⟨T4, lg4, nx4⟩ := s4
      simp only at hT4 ⊢
      subst hT4
      have hba := (Below.refl y1.heap.size y1).alloc (Nat.le_refl _) (.cells #[.slice ay Ry.length cy, .int .i64 lg4, .int .i64 nx4] 24)
      have HY := Lib.hid (show SBox W y1.heap.size Ry ay cy lg4 nx4 (y1.alloc (.cells #[.slice ay Ry.length cy, .int .i64 lg4, .int .i64 nx4] 24)) from ⟨bkIn_new _ _ y1, hat4.below hba⟩)
      replace HB := Lib.hid (below_step (below_step HB.out hb) hba)
      have HK4 := Lib.hid hk4
      have HEQ := Lib.hid (st_inv h4)
      have CE3 := Lib.hid (encodeState16_any Ry (small_ok HK4.out) ay cy lg4 nx4 _ HY.out.at_)
      clear hb hba hat4 hk4 h4 CY
      go_wp2_with fail
      generalize y1.alloc (.cells #[.slice ay Ry.length cy, .int .i64 lg4, .int .i64 nx4] 24) = y2 at *
      generalize y1.heap.size = yb at *
      with_reducible refine (CE3.out).mono ?_
      rintro e y3 ⟨hb, ⟨_, rfl⟩ | ⟨hno, _⟩⟩
      rotate_left
      · exact absurd HK4.out hno
      replace HY := Lib.hid (HY.out.below hb)
      replace HB := Lib.hid (below_step HB.out hb)
      rw [HEQ.out]
      have CC := Lib.hid (check16_any Ry (small_ok HK4.out) ay cy lg4 nx4 y3 HY.out.at_)
      unfold stV at CC
      have s0 := HY.out.bx.cell 0
      have s1 := HY.out.bx.cell 1
      have s2 := HY.out.bx.cell 2
      simp only [stA, List.getElem?_toArray, List.getElem?_cons_zero, List.getElem?_cons_succ] at s0 s1 s2
      clear hb CE3
      go_wp2_with fail
      with_reducible refine (CC.out).mono ?_
      rintro e y4 ⟨bk, rfl, hok4, hb⟩
      obtain rfl : bk = true := hok4.2 HK4.out
      replace HB := Lib.hid (below_step HB.out hb)
      clear hb hok4 CC s0 s1 s2
      go_wp2_with fail
      with_reducible refine (CL.out _).mono ?_
      rintro e wz ⟨rfl, hb⟩
      have HBZ := Lib.hid (HB.out.trans (hb.mono HB.out.size))
      clear hb
      go_wp2_with fail
      go_ret
      exact ⟨rfl, HBZ.out⟩
    · have hba := (Below.refl y1.heap.size y1).alloc (Nat.le_refl _) (.cells #[.slice none 0 0, .int .i64 0, .int .i64 0] 24)
      replace HB := Lib.hid (below_step (below_step HB.out hb) hba)
      clear hb hba CY
      go_wp2_with fail
      with_reducible refine (CL.out _).mono ?_
      rintro e wz ⟨rfl, hb⟩
      have HBZ := Lib.hid (HB.out.trans (hb.mono HB.out.size))
      clear hb
      go_wp2_with fail
      go_ret
      exact ⟨rfl, HBZ.out⟩

end Go.Proofs.Ytfcmjgcjmldpcaa
