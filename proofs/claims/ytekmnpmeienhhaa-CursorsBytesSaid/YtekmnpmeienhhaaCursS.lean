/- Layer 13: the document's Decode, Save, Load, by contracts. -/
import Derived.Test.YtekmnpmeienhhaaCursR
namespace Go.Proofs.Ytekmnpmeienhhaa
set_option linter.unusedVariables false
open Go Go.RowKit Go.Maps
attribute [local go_sem ↓] run_index_S
attribute [local go_sem] S_append S_extract

theorem Cu.dec_no0 {l : List UInt8} (h : l.head? ≠ some 67) : Cu.dec l = none := by
  unfold Cu.dec
  cases M.gets l 1 with
  | none => rfl
  | some p =>
    obtain ⟨n, k⟩ := p
    simp only
    cases M.gets l (k : Int) with
    | none => rfl
    | some q =>
      obtain ⟨g, e⟩ := q
      simp only
      rw [if_neg (fun q => h q.2.1)]
set_option maxHeartbeats 1000000 in
set_option maxRecDepth 100000 in
theorem refDec13_bad (l : List UInt8) (hl : l.length ≤ 140737488351232) (w : World) (h : l.head? ≠ some 67) :
    Calls Try.prog 47 #[.string (S l)] w fun e w' => e = Cu.decV (Cu.dec l) ∧ Below w.heap.size w w' := by
  have HF := Lib.hid (Cu.decV_none (Cu.dec_no0 h))
  have hi : (Try.prog.info? 71).map (·.size) = some 2 := by kernel_rfl
  have HI := Lib.hid hi
  clear hi
  cases l with
  | nil =>
    clear h
    go_enter Try.func47, Try.ntmps47
    go_wp2_with fail
    exact bodyPost_ret (v := .tuple #[.agg #[.int .i64 0, .int .i64 0], .int .i64 30]) (ret_cell2 (p := 2) (q := 3) (C := #[.int .i64 0, .int .i64 0]) Try.underlying71 HI.out rfl _ _ w.heap.size rfl (bk_new _ _ _)) rfl ⟨HF.out, (Below.refl _ _).alloc (Nat.le_refl _) _⟩
  | cons x r =>
    have hx : ¬ x = 67 := fun e => h (by rw [e]; rfl)
    have hB : B (x :: r) 0 = (x.toNat : Int) := by simp [B]
    have db : (B (x :: r) 0 != 67) = true := by
      rw [hB]
      have : ¬ ((x.toNat : Int) = 67) := fun e => hx (M.u8_ext (by have : ((67 : UInt8).toNat : Int) = 67 := rfl; omega))
      simpa using this
    have hi0 : (0 : Int) ≤ 0 := Int.le_refl 0
    clear h hx hB
    go_enter Try.func47, Try.ntmps47
    go_wp2_with fail
    exact bodyPost_ret (v := .tuple #[.agg #[.int .i64 0, .int .i64 0], .int .i64 30]) (ret_cell2 (p := 2) (q := 3) (C := #[.int .i64 0, .int .i64 0]) Try.underlying71 HI.out rfl _ _ w.heap.size rfl (bk_new _ _ _)) rfl ⟨HF.out, (Below.refl _ _).alloc (Nat.le_refl _) _⟩
set_option maxHeartbeats 2000000 in
set_option maxRecDepth 100000 in
theorem refDec13_C (r : List UInt8) (hl : (67 :: r).length ≤ 140737488351232) (w : World) :
    Calls Try.prog 47 #[.string (S (67 :: r))] w fun e w' => e = Cu.decV (Cu.dec (67 :: r)) ∧ Below w.heap.size w w' := by
  have C1 := Lib.hid (fun W => refGet_any (67 :: r) 1 W (by omega))
  have CG := Lib.hid (fun k W => refGet_any (67 :: r) k W (by omega))
  have CM := Lib.hid (fun a b W => refMay13_any a b W)
  have hi : (Try.prog.info? 71).map (·.size) = some 2 := by kernel_rfl
  have HI := Lib.hid hi
  have HN1 := Lib.hid (fun h => Cu.decV_none (Cu.dec_no1 (l := 67 :: r) h))
  have HN2 := Lib.hid (fun n k h h2 => Cu.decV_none (Cu.dec_no2 (l := 67 :: r) (n := n) (k := k) h h2))
  have HD := Lib.hid (fun n k g e h h2 => Cu.dec_eq (l := 67 :: r) (n := n) (k := k) (g := g) (e := e) h h2)
  have hB : B (67 :: r) 0 = 67 := by simp [B]
  have db : (B (67 :: r) 0 != 67) = false := by rw [hB]; rfl
  have HX0 := Lib.hid (bk_new #[.int .i64 0, .int .i64 0] 71 w)
  have HB0 := Lib.hid ((Below.refl w.heap.size w).alloc (Nat.le_refl _) (.cells #[.int .i64 0, .int .i64 0] 71))
  clear hi hB
  have HLEN := Lib.hid (show ((67 :: r).length : Int) = (r.length : Int) + 1 from by rw [List.length_cons]; omega)
  cases h1 : M.gets (67 :: r) 1 with
  | none =>
    have HF := Lib.hid (HN1.out h1)
    rw [h1] at C1
    clear HN1 HN2 HD h1
    go_enter Try.func47, Try.ntmps47
    go_wp2_with fail
    with_reducible refine (C1.out _).mono ?_
    rintro e w1 ⟨rfl, hb⟩
    replace HX0 := Lib.hid (HX0.out.below hb)
    replace HB0 := Lib.hid (below_step HB0.out hb)
    clear hb C1
    unfold tri
    go_wp2_with fail
    with_reducible refine (CG.out 0 _).mono ?_
    rintro e w2 ⟨rfl, hb⟩
    replace HX0 := Lib.hid ((HX0.out.below hb))
    replace HB0 := Lib.hid (below_step HB0.out hb)
    clear hb CG
    cases h2 : M.gets (67 :: r) 0 with
    | none =>
      unfold tri
      replace HX0 := Lib.hid (HX0.out.more (.cells #[.int .i64 0, .int .i64 0] 71))
      replace HB0 := Lib.hid (HB0.out.alloc HB0.out.size (.cells #[.int .i64 0, .int .i64 0] 71))
      go_wp2_with (refine wpList_store13 rfl 71 _ _ rfl w.heap.size #[.int .i64 0, .int .i64 0] rfl rfl 71 _ HX0.out HI.out rfl (by simp [Value.oneCell']) ?_; intro w5 h5 hw5; have HR5 := Lib.hid h5; have HW5 := Lib.hid hw5; clear h5 hw5)
      exact bodyPost_ret (v := .tuple #[.agg #[.int .i64 0, .int .i64 0], .int .i64 30]) (ret_cell2 (p := 2) (q := 3) (C := #[.int .i64 0, .int .i64 0]) Try.underlying71 HI.out rfl _ _ w.heap.size rfl HR5.out) rfl ⟨HF.out, HB0.out.trans (HW5.out.below (fun k hk => by omega) HB0.out.size)⟩
    | some q =>
      obtain ⟨g, e⟩ := q
      unfold tri
      replace HX0 := Lib.hid (HX0.out.more (.cells #[.int .i64 0, .int .i64 g] 71))
      replace HB0 := Lib.hid (HB0.out.alloc HB0.out.size (.cells #[.int .i64 0, .int .i64 g] 71))
      go_wp2_with (refine wpList_store13 rfl 71 _ _ rfl w.heap.size #[.int .i64 0, .int .i64 0] rfl rfl 71 _ HX0.out HI.out rfl (by simp [Value.oneCell']) ?_; intro w5 h5 hw5; have HR5 := Lib.hid h5; have HW5 := Lib.hid hw5; clear h5 hw5)
      exact bodyPost_ret (v := .tuple #[.agg #[.int .i64 0, .int .i64 0], .int .i64 30]) (ret_cell2 (p := 2) (q := 3) (C := #[.int .i64 0, .int .i64 0]) Try.underlying71 HI.out rfl _ _ w.heap.size rfl HR5.out) rfl ⟨HF.out, HB0.out.trans (HW5.out.below (fun k hk => by omega) HB0.out.size)⟩
  | some p =>
    obtain ⟨n, k⟩ := p
    rw [h1] at C1
    cases h2 : M.gets (67 :: r) (k : Int) with
    | none =>
      have HF := Lib.hid (HN2.out n k h1 h2)
      have CG2 := Lib.hid (fun W => CG.out (k : Int) W)
      rw [h2] at CG2
      clear HN1 HN2 HD h1 h2 CG
      go_enter Try.func47, Try.ntmps47
      go_wp2_with fail
      with_reducible refine (C1.out _).mono ?_
      rintro e w1 ⟨rfl, hb⟩
      replace HX0 := Lib.hid (HX0.out.below hb)
      replace HB0 := Lib.hid (below_step HB0.out hb)
      clear hb C1
      unfold tri
      go_wp2_with fail
      with_reducible refine (CG2.out _).mono ?_
      rintro e w2 ⟨rfl, hb⟩
      replace HX0 := Lib.hid ((HX0.out.below hb))
      replace HB0 := Lib.hid (below_step HB0.out hb)
      clear hb CG2
      unfold tri
      replace HX0 := Lib.hid (HX0.out.more (.cells #[.int .i64 n, .int .i64 0] 71))
      replace HB0 := Lib.hid (HB0.out.alloc HB0.out.size (.cells #[.int .i64 n, .int .i64 0] 71))
      go_wp2_with (refine wpList_store13 rfl 71 _ _ rfl w.heap.size #[.int .i64 0, .int .i64 0] rfl rfl 71 _ HX0.out HI.out rfl (by simp [Value.oneCell']) ?_; intro w5 h5 hw5; have HR5 := Lib.hid h5; have HW5 := Lib.hid hw5; clear h5 hw5)
      exact bodyPost_ret (v := .tuple #[.agg #[.int .i64 0, .int .i64 0], .int .i64 30]) (ret_cell2 (p := 2) (q := 3) (C := #[.int .i64 0, .int .i64 0]) Try.underlying71 HI.out rfl _ _ w.heap.size rfl HR5.out) rfl ⟨HF.out, HB0.out.trans (HW5.out.below (fun k hk => by omega) HB0.out.size)⟩
    | some q =>
      obtain ⟨g, e⟩ := q
      have CG2 := Lib.hid (fun W => CG.out (k : Int) W)
      rw [h2] at CG2
      have HE := Lib.hid (HD.out n k g e h1 h2)
      have CM2 := Lib.hid (fun W => CM.out n g W)
      clear HN1 HN2 HD h1 h2 CG CM
      by_cases he : (e : Int) = (r.length : Int) + 1
      case neg =>
        have HF := Lib.hid (Cu.decV_none (r := Cu.dec (67 :: r)) (by rw [HE.out, if_neg (fun q => he (by rw [q.1, List.length_cons]; omega))]))
        clear HE CM2
        go_enter Try.func47, Try.ntmps47
        go_wp2_with fail
        with_reducible refine (C1.out _).mono ?_
        rintro e w1 ⟨rfl, hb⟩
        replace HX0 := Lib.hid (HX0.out.below hb)
        replace HB0 := Lib.hid (below_step HB0.out hb)
        clear hb C1
        unfold tri
        go_wp2_with fail
        with_reducible refine (CG2.out _).mono ?_
        rintro e w2 ⟨rfl, hb⟩
        replace HX0 := Lib.hid ((HX0.out.below hb))
        replace HB0 := Lib.hid (below_step HB0.out hb)
        clear hb CG2
        unfold tri
        replace HX0 := Lib.hid (HX0.out.more (.cells #[.int .i64 n, .int .i64 g] 71))
        replace HB0 := Lib.hid (HB0.out.alloc HB0.out.size (.cells #[.int .i64 n, .int .i64 g] 71))
        go_wp2_with (refine wpList_store13 rfl 71 _ _ rfl w.heap.size #[.int .i64 0, .int .i64 0] rfl rfl 71 _ HX0.out HI.out rfl (by simp [Value.oneCell']) ?_; intro w5 h5 hw5; have HR5 := Lib.hid h5; have HW5 := Lib.hid hw5; clear h5 hw5)
        exact bodyPost_ret (v := .tuple #[.agg #[.int .i64 0, .int .i64 0], .int .i64 30]) (ret_cell2 (p := 2) (q := 3) (C := #[.int .i64 0, .int .i64 0]) Try.underlying71 HI.out rfl _ _ w.heap.size rfl HR5.out) rfl ⟨HF.out, HB0.out.trans (HW5.out.below (fun k hk => by omega) HB0.out.size)⟩
      have HE2 := Lib.hid (show Cu.dec (67 :: r) = if Cu.may ⟨n, g⟩ = true then some ⟨n, g⟩ else none from by
        rw [HE.out]
        by_cases hm : Cu.may ⟨n, g⟩ = true
        · rw [if_pos hm, if_pos ⟨by rw [List.length_cons]; omega, rfl, hm⟩]
        · rw [if_neg hm, if_neg (fun q => hm q.2.2)])
      have de : ((e : Int) != (r.length : Int) + 1) = false := by simpa using he
      clear HE
      go_enter Try.func47, Try.ntmps47
      go_wp2_with fail
      with_reducible refine (C1.out _).mono ?_
      rintro e w1 ⟨rfl, hb⟩
      replace HX0 := Lib.hid (HX0.out.below hb)
      replace HB0 := Lib.hid (below_step HB0.out hb)
      clear hb C1
      unfold tri
      go_wp2_with fail
      with_reducible refine (CG2.out _).mono ?_
      rintro e w2 ⟨rfl, hb⟩
      replace HX0 := Lib.hid ((HX0.out.below hb).more (.cells #[.int .i64 n, .int .i64 g] 71))
      replace HB0 := Lib.hid ((below_step HB0.out hb).alloc (below_step HB0.out hb).size (.cells #[.int .i64 n, .int .i64 g] 71))
      have HY := Lib.hid (bk_new #[.int .i64 n, .int .i64 g] 71 w2)
      clear hb CG2
      unfold tri
      go_wp2_with fail
      with_reducible refine (CM2.out _).mono ?_
      rintro e w3 ⟨rfl, hb⟩
      replace HX0 := Lib.hid (HX0.out.below hb)
      replace HB0 := Lib.hid (below_step HB0.out hb)
      replace HY := Lib.hid (HY.out.below hb)
      clear hb CM2
      cases hm : Cu.may ⟨n, g⟩ with
      | false =>
        have HF := Lib.hid (Cu.decV_none (r := Cu.dec (67 :: r)) (by rw [HE2.out, hm]; rfl))
        clear HE2 hm
        go_wp2_with (refine wpList_store13 rfl 71 _ _ rfl w.heap.size #[.int .i64 0, .int .i64 0] rfl rfl 71 _ HX0.out HI.out rfl (by simp [Value.oneCell']) ?_; intro w5 h5 hw5; have HR5 := Lib.hid h5; have HW5 := Lib.hid hw5; clear h5 hw5)
        exact bodyPost_ret (v := .tuple #[.agg #[.int .i64 0, .int .i64 0], .int .i64 30]) (ret_cell2 (p := 2) (q := 3) (C := #[.int .i64 0, .int .i64 0]) Try.underlying71 HI.out rfl _ _ w.heap.size rfl HR5.out) rfl ⟨HF.out, HB0.out.trans (HW5.out.below (fun k hk => by omega) HB0.out.size)⟩
      | true =>
        have HF := Lib.hid (Cu.decV_some (r := Cu.dec (67 :: r)) (c := ⟨n, g⟩) (by rw [HE2.out, hm]; rfl))
        clear HE2 hm
        go_wp2_with (first | (refine wpList_load_row rfl 71 _ rfl w2.heap.size rfl 71 _ (0, 0) _ HY.out Try.underlying71 rfl ?_ ?_; exact HI.out) | (refine wpList_store13 rfl 71 _ _ rfl w.heap.size #[.int .i64 n, .int .i64 g] rfl rfl 71 _ HX0.out HI.out rfl (by simp [Value.oneCell']) ?_; intro w5 h5 hw5; have HR5 := Lib.hid h5; have HW5 := Lib.hid hw5; clear h5 hw5))
        exact bodyPost_ret (v := .tuple #[.agg #[.int .i64 n, .int .i64 g], .int .i64 0]) (ret_cell2 (p := 2) (q := 3) (C := #[.int .i64 n, .int .i64 g]) Try.underlying71 HI.out rfl _ _ w.heap.size rfl HR5.out) rfl ⟨HF.out, HB0.out.trans (HW5.out.below (fun k hk => by omega) HB0.out.size)⟩
theorem refDec13_any (l : List UInt8) (hl : l.length ≤ 140737488351232) (w : World) :
    Calls Try.prog 47 #[.string (S l)] w fun e w' => e = Cu.decV (Cu.dec l) ∧ Below w.heap.size w w' := by
  by_cases h : l.head? = some 67
  · cases l with
    | nil => cases h
    | cons x r =>
      simp only [List.head?_cons, Option.some.injEq] at h
      subst h
      exact refDec13_C r hl w
  · exact refDec13_bad l hl w h

end Go.Proofs.Ytekmnpmeienhhaa
