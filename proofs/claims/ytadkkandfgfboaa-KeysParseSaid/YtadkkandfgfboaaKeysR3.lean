/- Layer 8: the document's Parse, Row, by contracts; the laws' walks: KeysParse. -/
import Derived.Test.YtadkkandfgfboaaKeysR2
import Derived.Test.YtadkkandfgfboaaKeysL
namespace Go.Proofs.Ytadkkandfgfboaa
set_option linter.unusedVariables false
open Go Go.RowKit Go.Sort
attribute [local go_sem ↓] run_index_S
attribute [local go_sem] S_append S_extract

theorem numsP_len {kind : Nat} {r a b : List UInt8} {st : Nat} (h : ¬ r.length = 16) : M.numsP kind r a b st = none := by
  unfold M.numsP
  cases M.ofBigs r 0 with
  | none => rfl
  | some t => cases M.ofBigs r 8 with
    | none => rfl
    | some i => simp [h]
theorem ofBigs_nil : M.ofBigs [] 0 = none := M.ofBigs_short [] (by simp)
theorem idxP_eq {rest a b r1 r2 : List UInt8} (h1 : M.cut0 rest = (a, r1)) (h2 : M.cut0 r1 = (b, r2)) : M.idxP rest = if M.nameB a && M.nameB b then
    match M.ofBigs r2 0 with
    | some st => if st ≤ 1073741824 then M.numsP 120 (r2.drop 8) a b st else none
    | none => none
  else none := by
  rw [M.idxP, h1]
  simp only [h2]
  rfl

theorem refParse_any (l : List UInt8) (hl : l.length ≤ 140737488351232) (w : World) :
    Calls Try.prog 20 #[.string (S l)] w fun e w' => e = .returned (ptR (M.parse l)) ∧ Below w.heap.size w w' := by
  cases l with
  | nil => exact rp_s [] hl rfl w
  | cons c rest =>
    have hlen : (c :: rest).length = rest.length + 1 := rfl
    have hd1 : (c :: rest).drop 1 = rest := rfl
    have hp : 1 ≤ (c :: rest).length := by omega
    by_cases hA : (c :: rest).length = 17 ∧ c = 115
    · obtain ⟨h17, rfl⟩ := hA
      have h0 : (115 :: rest : List UInt8).getD 0 0 = 115 := rfl
      have e1 : M.ofBigs (115 :: rest) 1 = M.ofBigs rest 0 := by have := ofBigs_drop (115 :: rest) 1 0; rwa [hd1] at this
      have e2 : M.ofBigs (115 :: rest) 9 = M.ofBigs rest 8 := by have := ofBigs_drop (115 :: rest) 1 8; rwa [hd1] at this
      have hpar : M.parse (115 :: rest) = M.numsP 115 rest [] [] 0 := by rw [M.parse, if_pos rfl]
      rw [hpar]
      have h16 : rest.length = 16 := by omega
      cases ho1 : M.ofBigs rest 0 with
      | none => rw [numsP_none (.inl ho1), ptR_none]; exact rp_a1 _ hl h17 h0 (e1.trans ho1) w
      | some t =>
        cases ho2 : M.ofBigs rest 8 with
        | none => rw [numsP_none (.inr ho2), ptR_none]; exact rp_a2 _ hl h17 h0 t (e1.trans ho1) (e2.trans ho2) w
        | some i =>
          rw [numsP_if ho1 ho2]
          cases hi1 : M.idB t with
          | false => rw [if_neg (by simp), ptR_none]; exact rp_a4 _ hl h17 h0 t i (e1.trans ho1) (e2.trans ho2) hi1 w
          | true =>
            cases hi2 : M.idB i with
            | false => rw [if_neg (by simp), ptR_none]; exact rp_a5 _ hl h17 h0 t i (e1.trans ho1) (e2.trans ho2) hi1 hi2 w
            | true => rw [if_pos ⟨h16, rfl, rfl⟩]; exact rp_aok _ hl h17 h0 t i (e1.trans ho1) (e2.trans ho2) hi1 hi2 w
    · have hV : ¬ (c :: rest).length = 17 ∨ ((c :: rest).length = 17 ∧ ¬ (c :: rest).getD 0 0 = 115) := by
        by_cases h : (c :: rest).length = 17
        · exact .inr ⟨h, fun e => hA ⟨h, e⟩⟩
        · exact .inl h
      by_cases hx : c = 120
      · subst hx
        have hx : (120 :: rest : List UInt8).getD 0 0 = 120 := rfl
        have hpar : M.parse (120 :: rest) = M.idxP rest := by rw [M.parse, if_neg (by decide), if_pos rfl]
        rw [hpar]
        have z1 := zf_spec (120 :: rest) 1 hp
        rcases z1 with ⟨hz, hno⟩ | ⟨i, hz1, hi1, hil, hc1⟩
        · rw [hd1] at hno
          have hn : M.idxP rest = none := by
            rw [idxP_eq (M.cut0_none rest hno) (M.cut0_none [] (by simp))]
            simp [M.nameB]
          rw [hn, ptR_none]
          rcases hV with h | ⟨h, h'⟩
          · exact rp_zL _ hl h hp hx hz w
          · exact rp_zM _ hl h h' hp hx hz w
        · rw [hd1] at hc1
          have z2 := zf_spec (120 :: rest) (i + 1) (by omega)
          rcases z2 with ⟨hz2, hno⟩ | ⟨k, hz2, hik, hkl, hc2⟩
          · have hn : M.idxP rest = none := by
              rw [idxP_eq hc1 (M.cut0_none _ hno), ofBigs_nil]
              split <;> rfl
            rw [hn, ptR_none]
            rcases hV with h | ⟨h, h'⟩
            · exact rp_yL _ hl h hp hx i hil hz1 hz2 w
            · exact rp_yM _ hl h h' hp hx i hil hz1 hz2 w
          · rw [idxP_eq hc1 hc2]
            by_cases hlk : (120 :: rest).length = k + 25
            · generalize hL : (120 :: rest : List UInt8) = L at *
              have f0 : M.ofBigs (L.drop (k + 1)) 0 = M.ofBigs L ((k : Int) + 1) := (ofBigs_drop L (k + 1) 0).symm
              have f1 : M.ofBigs ((L.drop (k + 1)).drop 8) 0 = M.ofBigs L ((k : Int) + 9) := by
                rw [List.drop_drop]; exact (ofBigs_drop L (k + 1 + 8) 0).symm
              have f2 : M.ofBigs ((L.drop (k + 1)).drop 8) 8 = M.ofBigs L ((k : Int) + 17) := by
                rw [List.drop_drop]; exact (ofBigs_drop L (k + 1 + 8) 8).symm
              have f3 : ((L.drop (k + 1)).drop 8).length = 16 := by simp; omega
              obtain ⟨a, ha⟩ : ∃ a, piece L 1 i = a := ⟨_, rfl⟩
              obtain ⟨b, hb⟩ : ∃ b, piece L (i + 1) k = b := ⟨_, rfl⟩
              rw [ha, hb, f0]
              cases h1 : M.ofBigs L ((k : Int) + 1) with
              | none =>
                have : (if M.nameB a && M.nameB b then (match (none : Option Nat) with | some st => if st ≤ 1073741824 then M.numsP 120 ((L.drop (k + 1)).drop 8) a b st else none | none => none) else none : Option M.Pt) = none := by split <;> rfl
                rw [this, ptR_none]
                exact rp_k1 L hl hx i k hi1 hik hz1 hz2 hlk a b ha hb h1 w
              | some st =>
                cases h2 : M.ofBigs L ((k : Int) + 9) with
                | none =>
                  have : (if M.nameB a && M.nameB b then (match some st with | some st => if st ≤ 1073741824 then M.numsP 120 ((L.drop (k + 1)).drop 8) a b st else none | none => none) else none : Option M.Pt) = none := by
                    simp only [numsP_none (kind := 120) (a := a) (b := b) (st := st) (.inl (f1.trans h2))]
                    split
                    · split <;> rfl
                    · rfl
                  rw [this, ptR_none]
                  exact rp_k2 L hl hx i k hi1 hik hz1 hz2 hlk a b ha hb st h1 h2 w
                | some t =>
                  cases h3 : M.ofBigs L ((k : Int) + 17) with
                  | none =>
                    have : (if M.nameB a && M.nameB b then (match some st with | some st => if st ≤ 1073741824 then M.numsP 120 ((L.drop (k + 1)).drop 8) a b st else none | none => none) else none : Option M.Pt) = none := by
                      simp only [numsP_none (kind := 120) (a := a) (b := b) (st := st) (.inr (f2.trans h3))]
                      split
                      · split <;> rfl
                      · rfl
                    rw [this, ptR_none]
                    exact rp_k3 L hl hx i k hi1 hik hz1 hz2 hlk a b ha hb st h1 t h2 h3 w
                  | some d =>
                    have b1 := M.ofBigs_bounds h1
                    have b2 := M.ofBigs_bounds h2
                    have b3 := M.ofBigs_bounds h3
                    have hfa : a.length ≤ 140737488351232 := by rw [← ha, piece_length _ _ _ hi1 (by omega)]; omega
                    have hfb : b.length ≤ 140737488351232 := by rw [← hb, piece_length _ _ _ hik (by omega)]; omega
                    have hmay : M.mayB ⟨(t : Int), (d : Int), 0, a, b, (st : Int), 0, []⟩ = (M.nameB a && M.nameB b && decide (st ≤ 1073741824) && M.idB t && M.idB d) := by
                      rw [Bool.eq_iff_iff]
                      simp [M.mayB, M.idB, M.win]
                      constructor
                      · rintro ⟨⟨⟨⟨q1, q2⟩, q3⟩, q4⟩, q5⟩; exact ⟨⟨⟨⟨q3, q4⟩, by omega⟩, q1⟩, q2⟩
                      · rintro ⟨⟨⟨⟨q3, q4⟩, q5⟩, q1⟩, q2⟩; exact ⟨⟨⟨⟨q1, q2⟩, q3⟩, q4⟩, by omega⟩
                    have hres : (if M.nameB a && M.nameB b then (match some st with | some st => if st ≤ 1073741824 then M.numsP 120 ((L.drop (k + 1)).drop 8) a b st else none | none => none) else none : Option M.Pt) = if M.mayB ⟨(t : Int), (d : Int), 0, a, b, (st : Int), 0, []⟩ then some ⟨120, t, d, st, a, b⟩ else none := by
                      simp only [numsP_if (kind := 120) (a := a) (b := b) (st := st) (f1.trans h2) (f2.trans h3), f3, hmay]
                      cases M.nameB a <;> cases M.nameB b <;> cases M.idB t <;> cases M.idB d <;> by_cases hst : st ≤ 1073741824 <;> simp [hst]
                    rw [hres]
                    cases hm : M.mayB ⟨(t : Int), (d : Int), 0, a, b, (st : Int), 0, []⟩ with
                    | false =>
                      rw [if_neg (by simp), ptR_none]
                      exact rp_k4 L hl hx i k hi1 hik hz1 hz2 hlk a b ha hb st h1 t h2 d h3 hm hfa hfb (by omega) (by omega) (by omega) w
                    | true =>
                      rw [if_pos rfl]
                      exact rp_k5 L hl hx i k hi1 hik hz1 hz2 hlk a b ha hb st h1 t h2 d h3 hm hfa hfb (by omega) (by omega) (by omega) w
            · have hn : (if M.nameB (piece (120 :: rest) 1 i) && M.nameB (piece (120 :: rest) (i + 1) k) then (match M.ofBigs ((120 :: rest : List UInt8).drop (k + 1)) 0 with | some st => if st ≤ 1073741824 then M.numsP 120 (((120 :: rest : List UInt8).drop (k + 1)).drop 8) (piece (120 :: rest) 1 i) (piece (120 :: rest) (i + 1) k) st else none | none => none) else none : Option M.Pt) = none := by
                cases ho : M.ofBigs ((120 :: rest : List UInt8).drop (k + 1)) 0 with
                | none => simp
                | some st =>
                  have := (M.ofBigs_bounds ho).2.1
                  have hne : ¬ (((120 :: rest : List UInt8).drop (k + 1)).drop 8).length = 16 := by
                    rw [List.length_drop, List.length_drop]
                    rw [List.length_drop] at this
                    omega
                  simp only [numsP_len hne]
                  split
                  · split <;> rfl
                  · rfl
              rw [hn, ptR_none]
              rcases hV with h | ⟨h, h'⟩
              · exact rp_lL _ hl h hp hx i hil hz1 k hkl hz2 hlk w
              · exact rp_lM _ hl h h' hp hx i hil hz1 k hkl hz2 hlk w
      · have hn : M.parse (c :: rest) = none := by
          rw [M.parse]
          by_cases h5 : c = 115
          · rw [if_pos h5]
            exact numsP_len (fun e => hA ⟨by omega, h5⟩)
          · rw [if_neg h5, if_neg hx]
        rw [hn, ptR_none]
        have hx' : ¬ (c :: rest).getD 0 0 = 120 := hx
        rcases hV with h | ⟨h, h'⟩
        · exact rp_nL _ hl h hp hx' w
        · exact rp_nM _ hl h h' hp hx' w

set_option maxHeartbeats 1000000 in
theorem keyRefRow_any (l : List UInt8) (hl : l.length ≤ 140737488351232) (w : World) :
    Calls Try.prog 23 #[.string (S l)] w fun e w' => e = .returned (.string (S (M.rowK l))) ∧ Below w.heap.size w w' := by
  have cp := fun W => refParse_any l hl W
  cases hp : M.parse l with
  | none =>
    rw [M.rowK, hp]
    rw [hp, ptR_none] at cp
    have CP := Lib.hid cp
    clear cp hp
    go_enter Try.func23, Try.ntmps23
    go_wp2_with fail
    with_reducible refine (CP.out _).mono ?_
    rintro e w1 ⟨rfl, hb1⟩
    have HX := Lib.hid (rowIn_new pt0 39 w1)
    have HB := Lib.hid (below_setRow (g := w1.heap.size) (hb1.alloc hb1.size (.cells pt0 39)) hb1.size pt0)
    clear hb1
    go_wp2_with ((with_reducible show wpList _ _ _ _ _ _); refine wpList_store_row rfl 39 _ _ rfl w1.heap.size _ rfl rfl 39 pt0 HX.out ?_ rfl ?_ ?_; kernel_rfl; simp [Value.oneCell'])
    go_ret
    exact ⟨rfl, HB.out⟩
  | some p =>
    have hps := M.parse_some hp
    rw [M.rowK, hp]
    rw [hp] at cp
    have cp2 : ∀ W, Calls Try.prog 20 #[.string (S l)] W fun e w' => e = .returned (.tuple #[.agg #[.int .u8 (p.kind : Nat), .int .i64 (p.trace : Nat), .int .i64 (p.id : Nat), .int .i64 (p.start : Nat), .string (S p.svc), .string (S p.host)], .bool true]) ∧ Below W.heap.size W w' := cp
    have CP := Lib.hid cp2
    clear cp cp2 hp
    rcases hps with ⟨_, _, ⟨hk, hl17, hrest⟩ | ⟨hk, hrest⟩⟩
    · simp only [hk, if_true]
      have q : (((p.kind : Nat) : Int) == 115) = true := by rw [hk]; rfl
      have h17 : l.length = 17 := by rw [hl17]; simp [M.spanK, M.bigN_length]
      have sl := fun W k => run_piece_to (P := Try.prog) 9 Try.underlying9 l 9 9 rfl (by omega) W k
      clear hk hl17 h17 hrest
      generalize p.kind = pk at *
      generalize p.trace = p1 at *
      generalize p.id = p2 at *
      generalize p.start = p3 at *
      generalize p.svc = p4 at *
      generalize p.host = p5 at *
      go_enter Try.func23, Try.ntmps23
      go_wp2_with fail
      with_reducible refine (CP.out _).mono ?_
      rintro e w1 ⟨rfl, hb1⟩
      have HX := Lib.hid (rowIn_new pt0 39 w1)
      have hc : (((w1.alloc (.cells pt0 39))).setRow w1.heap.size #[.int .u8 (pk : Nat), .int .i64 (p1 : Nat), .int .i64 (p2 : Nat), .int .i64 (p3 : Nat), .string (S p4), .string (S p5)]).cell? ⟨w1.heap.size, 0, none⟩ = some (.int .u8 (pk : Nat)) := (HX.out.row).cell 0
      have HB := Lib.hid (below_setRow (g := w1.heap.size) (hb1.alloc hb1.size (.cells pt0 39)) hb1.size #[.int .u8 (pk : Nat), .int .i64 (p1 : Nat), .int .i64 (p2 : Nat), .int .i64 (p3 : Nat), .string (S p4), .string (S p5)])
      clear hb1
      go_wp2_with ((with_reducible show wpList _ _ _ _ _ _); refine wpList_store_row rfl 39 _ _ rfl w1.heap.size _ rfl rfl 39 pt0 HX.out ?_ rfl ?_ ?_; kernel_rfl; simp [Value.oneCell'])
      go_ret
      exact ⟨rfl, HB.out⟩
    · simp only [hk, show ¬ (120 : Nat) = 115 by decide, if_false]
      have q : (((p.kind : Nat) : Int) == 115) = false := by rw [hk]; rfl
      clear hk hrest
      generalize p.kind = pk at *
      generalize p.trace = p1 at *
      generalize p.id = p2 at *
      generalize p.start = p3 at *
      generalize p.svc = p4 at *
      generalize p.host = p5 at *
      go_enter Try.func23, Try.ntmps23
      go_wp2_with fail
      with_reducible refine (CP.out _).mono ?_
      rintro e w1 ⟨rfl, hb1⟩
      have HX := Lib.hid (rowIn_new pt0 39 w1)
      have hc : (((w1.alloc (.cells pt0 39))).setRow w1.heap.size #[.int .u8 (pk : Nat), .int .i64 (p1 : Nat), .int .i64 (p2 : Nat), .int .i64 (p3 : Nat), .string (S p4), .string (S p5)]).cell? ⟨w1.heap.size, 0, none⟩ = some (.int .u8 (pk : Nat)) := (HX.out.row).cell 0
      have HB := Lib.hid (below_setRow (g := w1.heap.size) (hb1.alloc hb1.size (.cells pt0 39)) hb1.size #[.int .u8 (pk : Nat), .int .i64 (p1 : Nat), .int .i64 (p2 : Nat), .int .i64 (p3 : Nat), .string (S p4), .string (S p5)])
      clear hb1
      go_wp2_with ((with_reducible show wpList _ _ _ _ _ _); refine wpList_store_row rfl 39 _ _ rfl w1.heap.size _ rfl rfl 39 pt0 HX.out ?_ rfl ?_ ?_; kernel_rfl; simp [Value.oneCell'])
      go_ret
      exact ⟨rfl, HB.out⟩

abbrev ptA (p : M.Pt) : Array Value := #[.int .u8 (p.kind : Nat), .int .i64 (p.trace : Nat), .int .i64 (p.id : Nat), .int .i64 (p.start : Nat), .string (S p.svc), .string (S p.host)]
set_option maxHeartbeats 1000000 in
theorem same8_any (p : M.Pt) (w : World) :
    Calls Try.prog 21 #[.agg (ptA p), .agg (ptA p)] w fun e w' => e = .returned (.bool true) ∧ Below w.heap.size w w' := by
  have RX := Lib.hid ((rowIn_new (ptA p) 36 w).more (.cells (ptA p) 39))
  have RY := Lib.hid (rowIn_at (ptA p) 39 (w.alloc (.cells (ptA p) 36)) (w.heap.size + 1) (by simp))
  have BW := Lib.hid (((Below.refl w.heap.size w).alloc (Nat.le_refl _) (.cells (ptA p) 36)).alloc (by simp) (.cells (ptA p) 39))
  have m0 := RX.out.cell 0
  have m1 := RX.out.cell 1
  have m2 := RX.out.cell 2
  have m3 := RX.out.cell 3
  have m4 := RX.out.cell 4
  have m5 := RX.out.cell 5
  have n0 := RY.out.cell 0
  have n1 := RY.out.cell 1
  have n2 := RY.out.cell 2
  have n3 := RY.out.cell 3
  have n4 := RY.out.cell 4
  have n5 := RY.out.cell 5
  simp only [List.getElem?_toArray, List.getElem?_cons_zero, List.getElem?_cons_succ] at m0 m1 m2 m3 m4 m5 n0 n1 n2 n3 n4 n5
  go_enter Try.func21, Try.ntmps21
  go_wp2_with fail
  go_ret
  exact ⟨rfl, BW.out⟩

set_option maxHeartbeats 2000000 in
set_option maxRecDepth 100000 in
theorem keysParse_calls (l : List UInt8) (hl : l.length ≤ 140737488351232) (w : World) :
    Calls Try.prog 5 #[.string (S l)] w fun e w' => e = .returned (.bool true) ∧ Below w.heap.size w w' := by
  by_cases h1 : 1000 < l.length
  · have d1 : decide (1000 < (l.length : Int)) = true := by simp; omega
    go_enter Try.func5, Try.ntmps5
    go_wp2_with fail
    go_ret
    exact ⟨rfl, Below.refl _ _⟩
  have d1 : decide (1000 < (l.length : Int)) = false := by simp; omega
  obtain ⟨p, hp⟩ : ∃ p : M.Pt, (M.parse l).getD ⟨0, 0, 0, 0, [], []⟩ = p := ⟨_, rfl⟩
  obtain ⟨ok, hok⟩ : ∃ ok, (M.parse l).isSome = ok := ⟨_, rfl⟩
  have hpr : ptR (M.parse l) = .tuple #[.agg (ptA p), .bool ok] := by rw [← hp, ← hok]; rfl
  have c1 := fun W => parse_any l hl W
  have c2 := fun W => refParse_any l hl W
  rw [hpr] at c1 c2
  have c3 := fun W => keyRow_any l hl W
  have c4 := fun W => keyRefRow_any l hl W
  generalize M.rowK l = rk at *
  have C1 := Lib.hid c1
  have C2 := Lib.hid c2
  have C3 := Lib.hid c3
  have C4 := Lib.hid c4
  have C5 := Lib.hid (fun W => same8_any p W)
  clear c1 c2 c3 c4 hpr hp hok
  go_enter Try.func5, Try.ntmps5
  go_wp2_with fail
  with_reducible refine (C1.out _).mono ?_
  rintro e w1 ⟨rfl, hb1⟩
  have HX := Lib.hid (rowIn_new pt0 36 w1)
  have RX := Lib.hid (HX.out.row (D := ptA p))
  have HB1 := Lib.hid (below_setRow (g := w1.heap.size) (hb1.alloc hb1.size (.cells pt0 36)) hb1.size (ptA p))
  clear hb1
  go_wp2_with ((with_reducible show wpList _ _ _ _ _ _); refine wpList_store_row rfl 36 _ _ rfl w1.heap.size _ rfl rfl 36 pt0 HX.out ?_ rfl ?_ ?_; kernel_rfl; simp [Value.oneCell'])
  generalize (w1.alloc (.cells pt0 36)).setRow w1.heap.size (ptA p) = W1 at *
  with_reducible refine (C2.out _).mono ?_
  rintro e w2 ⟨rfl, hb2⟩
  have RX2 := Lib.hid (RX.out.below hb2)
  have HB2 := Lib.hid (below_step HB1.out hb2)
  clear hb2 RX HB1
  have HY := Lib.hid (rowIn_new pt0 39 w2)
  have RY := Lib.hid (HY.out.row (D := ptA p))
  have RX3 := Lib.hid ((RX2.out.more (.cells pt0 39)).rowAbove (c := w2.heap.size) (D := ptA p) RX2.out.lt)
  have HB3 := Lib.hid (below_setRow (g := w2.heap.size) (HB2.out.alloc HB2.out.size (.cells pt0 39)) HB2.out.size (ptA p))
  go_wp2_with (first | ((with_reducible show wpList _ _ _ _ _ _); refine wpList_store_row rfl 39 _ _ rfl w2.heap.size _ rfl rfl 39 pt0 HY.out ?_ rfl ?_ ?_; kernel_rfl; simp [Value.oneCell']) | ((with_reducible show wpList _ _ _ _ _ _); refine wpList_load_row rfl 36 _ rfl w1.heap.size rfl 36 _ (0, 0) _ RX3.out Try.underlying36 rfl ?_ ?_; kernel_rfl) | ((with_reducible show wpList _ _ _ _ _ _); refine wpList_load_row rfl 39 _ rfl w2.heap.size rfl 39 _ (0, 0) _ RY.out Try.underlying39 rfl ?_ ?_; kernel_rfl))
  with_reducible refine (C5.out _).mono ?_
  rintro e w3 ⟨rfl, hb3⟩
  have HB4 := Lib.hid (below_step HB3.out hb3)
  clear hb3 HX HY RX2 RX3 RY
  go_wp2_with fail
  with_reducible refine (C3.out _).mono ?_
  rintro e w4 ⟨rfl, hb4⟩
  have HB5 := Lib.hid (below_step HB4.out hb4)
  clear hb4
  go_wp2_with fail
  with_reducible refine (C4.out _).mono ?_
  rintro e w5 ⟨rfl, hb5⟩
  have HB6 := Lib.hid (below_step HB5.out hb5)
  clear hb5
  go_wp2_with fail
  with_reducible refine (does8 _).mono ?_
  rintro e w6 ⟨rfl, hb6⟩
  go_wp2_with fail
  go_ret
  exact ⟨rfl, below_step HB6.out hb6⟩

end Go.Proofs.Ytadkkandfgfboaa
