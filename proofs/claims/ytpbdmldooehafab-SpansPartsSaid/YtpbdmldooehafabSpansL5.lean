/- Layer 3: the laws' walks: SpansParts. -/
import Derived.Test.YtpbdmldooehafabSpansL2
import Derived.Test.YtpbdmldooehafabSpansM2
namespace Go.Proofs.Ytpbdmldooehafab
set_option linter.unusedVariables false
open Go Go.RowKit
attribute [local go_sem ↓] run_index_S
attribute [local go_sem] S_append S_extract

theorem M.encN_split (ns : List Nat) (k : Nat) (h : k < ns.length) : M.encN ns = M.encN (ns.take k) ++ M.putN (ns.getD k 0) ++ M.encN (ns.drop (k + 1)) := by
  have e : ns = ns.take k ++ ([ns.getD k 0] ++ ns.drop (k + 1)) := by
    have hd := List.drop_eq_getElem_cons h
    rw [show ns.getD k 0 = ns[k] from by simp [List.getD, h]]
    simp only [List.singleton_append]
    rw [← hd, List.take_append_drop]
  calc M.encN ns = M.encN (ns.take k ++ ([ns.getD k 0] ++ ns.drop (k + 1))) := by rw [← e]
    _ = _ := by simp [M.encN, List.flatMap_append]
theorem M.encT_split (ts : List (List UInt8)) (k : Nat) (h : k < ts.length) : M.encT ts = M.encT (ts.take k) ++ M.putT (ts.getD k []) ++ M.encT (ts.drop (k + 1)) := by
  have e : ts = ts.take k ++ ([ts.getD k []] ++ ts.drop (k + 1)) := by
    have hd := List.drop_eq_getElem_cons h
    rw [show ts.getD k [] = ts[k] from by simp [List.getD, h]]
    simp only [List.singleton_append]
    rw [← hd, List.take_append_drop]
  calc M.encT ts = M.encT (ts.take k ++ ([ts.getD k []] ++ ts.drop (k + 1))) := by rw [← e]
    _ = _ := by simp [M.encT, List.flatMap_append]
theorem gets_nums {x : M.Sp} (hx : x.fits) (k : Nat) (hk : k < 5) : M.gets (M.enc x) ((M.encN ((M.nums x).take k)).length : Nat) = some ((M.nums x).getD k 0, (M.encN ((M.nums x).take (k + 1))).length) := by
  have e : M.enc x = M.encN ((M.nums x).take k) ++ M.putN ((M.nums x).getD k 0) ++ (M.encN ((M.nums x).drop (k + 1)) ++ M.encT (M.txts x)) := by
    rw [M.enc, M.encN_split (M.nums x) k (by simpa [M.nums] using hk)]
    simp only [List.append_assoc]
  rw [e, M.gets_put _ _ _ (M.nums_le hx k), M.nums_take x k hk, M.encN_snoc, List.length_append]
theorem gets_txts {x : M.Sp} (h : M.mayB x = true) (k : Nat) (hk : k < 3) : M.getTs (M.enc x) ((M.encN (M.nums x) ++ M.encT ((M.txts x).take k)).length : Nat) = some ((M.txts x).getD k [], (M.encN (M.nums x) ++ M.encT ((M.txts x).take (k + 1))).length) := by
  have e : M.enc x = (M.encN (M.nums x) ++ M.encT ((M.txts x).take k)) ++ (M.putN ((M.txts x).getD k []).length ++ (M.txts x).getD k []) ++ M.encT ((M.txts x).drop (k + 1)) := by
    rw [M.enc, M.encT_split (M.txts x) k (by simpa [M.txts] using hk), M.putT]
    simp only [List.append_assoc]
  have hl := M.txts_le h k
  rw [e, M.getTs_put _ _ _ (by omega), M.txts_take x k hk, M.encT_snoc, M.putT]
  simp only [List.length_append]
  congr 2
  omega

set_option maxHeartbeats 2000000 in
set_option maxRecDepth 100000 in
theorem parts_great (x : M.Sp) (w : World) (hg : M.greatB x = true) :
    Calls Try.prog 12 #[.agg #[.int .i64 x.trace, .int .i64 x.id, .int .i64 x.parent, .string (S x.svc), .string (S x.host), .int .i64 x.start, .int .i64 x.dur, .string (S x.note)]] w fun e w' => e = .returned (.bool true) ∧ Below w.heap.size w w' := by
  have cg := fun W => great_any x W
  rw [hg] at cg
  have CG := Lib.hid cg
  clear cg hg
  have BW := Lib.hid ((Below.refl w.heap.size w).alloc (Nat.le_refl _) (.cells #[.int .i64 x.trace, .int .i64 x.id, .int .i64 x.parent, .string (S x.svc), .string (S x.host), .int .i64 x.start, .int .i64 x.dur, .string (S x.note)] 30))
  go_enter Try.func12, Try.ntmps12
  go_wp2_with fail
  with_reducible refine (CG.out _).mono ?_
  rintro e w1 ⟨rfl, hb1⟩
  go_wp2_with fail
  go_ret
  exact ⟨rfl, below_step BW.out hb1⟩

set_option maxHeartbeats 2000000 in
set_option maxRecDepth 100000 in
theorem parts_no (x : M.Sp) (w : World) (hx : x.fits) (hg : M.greatB x = false) (hm : M.mayB x = false) :
    Calls Try.prog 12 #[.agg #[.int .i64 x.trace, .int .i64 x.id, .int .i64 x.parent, .string (S x.svc), .string (S x.host), .int .i64 x.start, .int .i64 x.dur, .string (S x.note)]] w fun e w' => e = .returned (.bool true) ∧ Below w.heap.size w w' := by
  have cg := fun W => great_any x W
  rw [hg] at cg
  have CG := Lib.hid cg
  have C1 := Lib.hid (fun W => encode_no x hx hm W)
  clear cg hg hm
  have RX := Lib.hid (rowIn_new #[.int .i64 x.trace, .int .i64 x.id, .int .i64 x.parent, .string (S x.svc), .string (S x.host), .int .i64 x.start, .int .i64 x.dur, .string (S x.note)] 30 w)
  have BW := Lib.hid ((Below.refl w.heap.size w).alloc (Nat.le_refl _) (.cells #[.int .i64 x.trace, .int .i64 x.id, .int .i64 x.parent, .string (S x.svc), .string (S x.host), .int .i64 x.start, .int .i64 x.dur, .string (S x.note)] 30))
  go_enter Try.func12, Try.ntmps12
  go_wp2_with fail
  with_reducible refine (CG.out _).mono ?_
  rintro e w1 ⟨rfl, hb1⟩
  have RX1 := Lib.hid (RX.out.below hb1)
  have BW1 := Lib.hid (below_step BW.out hb1)
  clear hb1
  obtain ⟨x0, x1, x2, x3, x4, x5, x6, x7⟩ := span_cells RX1.out
  go_wp2_with fail
  with_reducible refine (C1.out _).mono ?_
  rintro e w2 ⟨rfl, hb2⟩
  clear x0 x1 x2 x3 x4 x5 x6 x7
  go_wp2_with fail
  with_reducible refine (does3 _).mono ?_
  rintro e w3 ⟨rfl, hb3⟩
  go_wp2_with fail
  go_ret
  exact ⟨rfl, below_step (below_step BW1.out hb2) hb3⟩

set_option maxHeartbeats 4000000 in
set_option maxRecDepth 100000 in
theorem parts_yes (x : M.Sp) (w : World) (hx : x.fits) (hg : M.greatB x = false) (hm : M.mayB x = true) :
    Calls Try.prog 12 #[.agg #[.int .i64 x.trace, .int .i64 x.id, .int .i64 x.parent, .string (S x.svc), .string (S x.host), .int .i64 x.start, .int .i64 x.dur, .string (S x.note)]] w fun e w' => e = .returned (.bool true) ∧ Below w.heap.size w w' := by
  have cg := fun W => great_any x W
  rw [hg] at cg
  have CG := Lib.hid cg
  have C1 := Lib.hid (fun W => encode_yes x hx hm W)
  have HM := Lib.hid hm
  have hql := M.enc_len hm
  have GN := Lib.hid (fun k hk => gets_nums hx k hk)
  have GT := Lib.hid (fun k hk => gets_txts hm k hk)
  have HQ := Lib.hid (show (M.encN (M.nums x) ++ M.encT ((M.txts x).take 3)).length = (M.enc x).length from by simp [M.enc, M.txts])
  clear cg hg hm
  have RX := Lib.hid (rowIn_new #[.int .i64 x.trace, .int .i64 x.id, .int .i64 x.parent, .string (S x.svc), .string (S x.host), .int .i64 x.start, .int .i64 x.dur, .string (S x.note)] 30 w)
  have BW := Lib.hid ((Below.refl w.heap.size w).alloc (Nat.le_refl _) (.cells #[.int .i64 x.trace, .int .i64 x.id, .int .i64 x.parent, .string (S x.svc), .string (S x.host), .int .i64 x.start, .int .i64 x.dur, .string (S x.note)] 30))
  go_enter Try.func12, Try.ntmps12
  go_wp2_with fail
  with_reducible refine (CG.out _).mono ?_
  rintro e w1 ⟨rfl, hb1⟩
  have RX1 := Lib.hid (RX.out.below hb1)
  have BW1 := Lib.hid (below_step BW.out hb1)
  clear hb1
  obtain ⟨x0, x1, x2, x3, x4, x5, x6, x7⟩ := span_cells RX1.out
  go_wp2_with fail
  with_reducible refine (C1.out _).mono ?_
  rintro e w2 ⟨rfl, hb2⟩
  clear x0 x1 x2 x3 x4 x5 x6 x7
  have RX2 := Lib.hid (RX1.out.below hb2)
  have BW2 := Lib.hid (below_step BW1.out hb2)
  clear hb2
  obtain ⟨x0, x1, x2, x3, x4, x5, x6, x7⟩ := span_cells RX2.out
  generalize M.enc x = q at *
  go_wp2_with fail
  clear x0 x1 x2 x3 x4 x5 x6 x7
  have NA := Lib.hid (numsAt_new x HM.out w2 3)
  have RX3 := Lib.hid (RX2.out.more (.cells #[.int .i64 x.trace, .int .i64 x.id, .int .i64 x.parent, .int .i64 x.start, .int .i64 x.dur] 3))
  have BW3 := Lib.hid (BW2.out.alloc BW2.out.size (.cells #[.int .i64 x.trace, .int .i64 x.id, .int .i64 x.parent, .int .i64 x.start, .int .i64 x.dur] 3))
  go_loop [6, 7] (fun p i => ∃ k : Nat, k ≤ 5 ∧ p = .int .i64 ((M.encN ((M.nums x).take k)).length : Nat) ∧ i = .int .i64 k) (fun _ i => 5 - (intOf i).toNat)
  case atStart => exact ⟨0, by omega, rfl, rfl⟩
  case round =>
    obtain ⟨k, hk, rfl, rfl⟩ := hrel
    by_cases hk5 : k < 5
    · have hck := NA.out.c k hk5
      have cp := fun W => get_any q ((M.encN ((M.nums x).take k)).length : Nat) W (by omega)
      rw [GN.out k hk5] at cp
      simp only [tri] at cp
      have CP := Lib.hid cp
      generalize (M.encN ((M.nums x).take k)).length = a at *
      generalize hE : (M.encN ((M.nums x).take (k + 1))).length = b at *
      have HE := Lib.hid hE
      generalize (M.nums x).getD k 0 = n at *
      clear cp hE
      go_wp2_with fail
      with_reducible refine (CP.out _).mono ?_
      rintro e w4 ⟨rfl, rfl⟩
      go_wp2_with fail
      go_round
      case rel => exact ⟨k + 1, by omega, by rw [HE.out], by go_num⟩
      case measure => simp [intOf]; omega
    · have hE : ((M.encN ((M.nums x).take k)).length : Int) = ((M.encN (M.nums x) ++ M.encT ((M.txts x).take 0)).length : Nat) := by
        rw [show (M.nums x).take k = M.nums x from List.take_of_length_le (by simp [M.nums]; omega)]; simp [M.encT]
      rw [hE]
      generalize hz : (M.encN (M.nums x) ++ M.encT ((M.txts x).take 0)).length = z0
      clear hE
      have HZ := Lib.hid hz.symm
      clear hz
      obtain ⟨x0, x1, x2, x3, x4, x5, x6, x7⟩ := span_cells RX3.out
      go_wp2_with fail
      clear x0 x1 x2 x3 x4 x5 x6 x7
      have TA := Lib.hid (txtsAt_new x (w2.alloc (.cells #[.int .i64 x.trace, .int .i64 x.id, .int .i64 x.parent, .int .i64 x.start, .int .i64 x.dur] 3)) 9)
      have BW4 := Lib.hid (BW3.out.alloc BW3.out.size (.cells #[.string (S x.svc), .string (S x.host), .string (S x.note)] 9))
      go_loop [6, 12] (fun p i => ∃ j : Nat, j ≤ 3 ∧ p = .int .i64 ((M.encN (M.nums x) ++ M.encT ((M.txts x).take j)).length : Nat) ∧ i = .int .i64 j) (fun _ i => 3 - (intOf i).toNat)
      case atStart => exact ⟨0, by omega, by rw [HZ.out], rfl⟩
      case round =>
        obtain ⟨j, hj, rfl, rfl⟩ := hrel
        by_cases hj3 : j < 3
        · have hcj : ((w2.alloc (.cells #[.int .i64 x.trace, .int .i64 x.id, .int .i64 x.parent, .int .i64 x.start, .int .i64 x.dur] 3)).alloc (.cells #[.string (S x.svc), .string (S x.host), .string (S x.note)] 9)).cell? ⟨w2.heap.size + 1, j, none⟩ = some (.string (S ((M.txts x).getD j []))) := by
            have := TA.out.c j hj3
            rw [show (w2.alloc (.cells #[.int .i64 x.trace, .int .i64 x.id, .int .i64 x.parent, .int .i64 x.start, .int .i64 x.dur] 3)).heap.size = w2.heap.size + 1 from by simp] at this
            exact this
          have cp := fun W => getText_any q ((M.encN (M.nums x) ++ M.encT ((M.txts x).take j)).length : Nat) W (by omega)
          rw [GT.out j hj3] at cp
          simp only [triT] at cp
          have CP := Lib.hid cp
          generalize (M.encN (M.nums x) ++ M.encT ((M.txts x).take j)).length = a at *
          generalize hE : (M.encN (M.nums x) ++ M.encT ((M.txts x).take (j + 1))).length = b at *
          have HE := Lib.hid hE
          generalize (M.txts x).getD j [] = n at *
          clear cp hE
          go_wp2_with fail
          with_reducible refine (CP.out _).mono ?_
          rintro e w4 ⟨rfl, rfl⟩
          go_wp2_with fail
          go_round
          case rel => exact ⟨j + 1, by omega, by rw [HE.out], by go_num⟩
          case measure => simp [intOf]; omega
        · have hE : ((M.encN (M.nums x) ++ M.encT ((M.txts x).take j)).length : Int) = (q.length : Int) := by
            rw [show j = 3 from by omega, HQ.out]
          rw [hE]
          clear hE
          have BW5 := BW4.out
          go_wp2_with fail
          with_reducible refine (does3 _).mono ?_
          rintro e w5 ⟨rfl, hb5⟩
          go_wp2_with fail
          go_ret
          exact ⟨rfl, below_step BW5 hb5⟩

theorem spansParts_calls (u : Value) (hu : USp u) (w : World) :
    Calls Try.prog 12 #[u] w fun e w' => e = .returned (.bool true) ∧ Below w.heap.size w w' := by
  obtain ⟨x, rfl, hi⟩ := hu
  cases hg : M.greatB x with
  | true => exact parts_great x w hg
  | false =>
    obtain ⟨g1, g2, g3⟩ := M.greatB_false hg
    cases hm : M.mayB x with
    | true => exact parts_yes x w (hi.fits g1 g2 g3) hg hm
    | false => exact parts_no x w (hi.fits g1 g2 g3) hg hm

end Go.Proofs.Ytpbdmldooehafab
