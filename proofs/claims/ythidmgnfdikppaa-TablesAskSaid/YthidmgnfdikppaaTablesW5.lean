/- Layer 10: TablesAsk, walked. -/
import Derived.Test.YthidmgnfdikppaaTablesP
import Derived.Test.YthidmgnfdikppaaTablesX
namespace Go.Proofs.Ythidmgnfdikppaa
set_option linter.unusedVariables false
open Go Go.RowKit
attribute [local go_sem ↓] run_index_S
attribute [local go_sem] S_append S_extract

def RngA (K : List M.Cl) (w : World) (e : Ending) (w' : World) : Prop := ∃ a c, e = .returned (.slice a K.length c) ∧ ClsAt w' a K ∧ Below w.heap.size w w'
theorem rng_clsA {K : List M.Cl} {w : World} {e : Ending} {w' : World} (h : RangeR10 K w e w') : RngA K w e w' := by
  obtain ⟨a, c, h1, h2, h3⟩ := h
  exact ⟨a, c, h1, clsAt_own h2 rfl, h3⟩
/-- What the last region of TablesAsk stands on. -/
structure Ek10 (W : World) (L : List M.Cl) (ao : Option Addr) (p b5 b6 b7 : Nat) (x y : List UInt8) (cf : M.Cl) (w : World) : Prop where
  b : Below W.heap.size W w
  t : TabAt L p w
  c : ClsAt w ao L
  r5 : RowIn #[.string (S x), .string (S y)] 31 w b5
  r6 : RowIn (clA cf) 38 w b6
  r7 : RowIn (clA cf) 38 w b7
theorem Ek10.below {W : World} {L : List M.Cl} {ao : Option Addr} {p b5 b6 b7 : Nat} {x y : List UInt8} {cf : M.Cl} {w w' : World} (h : Ek10 W L ao p b5 b6 b7 x y cf w) (hb : Below w.heap.size w w') : Ek10 W L ao p b5 b6 b7 x y cf w' :=
  ⟨below_step h.b hb, h.t.below hb, h.c.below hb, h.r5.below hb, h.r6.below hb, h.r7.below hb⟩
theorem Ek10.drew {W : World} {L : List M.Cl} {ao : Option Addr} {p b5 b6 b7 : Nat} {x y : List UInt8} {cf : M.Cl} {w : World} (h : Ek10 W L ao p b5 b6 b7 x y cf w) : Ek10 W L ao p b5 b6 b7 x y cf w.drew :=
  ⟨h.b.drew, h.t.same10 rfl, h.c.same rfl, h.r5, h.r6, h.r7⟩
theorem Ek10.s {W : World} {L : List M.Cl} {ao : Option Addr} {p b5 b6 b7 : Nat} {x y : List UInt8} {cf : M.Cl} {V : World} (h : Ek10 W L ao p b5 b6 b7 x y cf V) :
    V.cell? ⟨b5, 0, none⟩ = some (.string (S x)) ∧ V.cell? ⟨b5, 1, none⟩ = some (.string (S y)) ∧ V.cell? ⟨b6, 0, none⟩ = some (.string (S cf.key)) ∧ V.cell? ⟨b6, 1, none⟩ = some (.int .i64 cf.seq) ∧ V.cell? ⟨b6, 2, none⟩ = some (.string (S cf.val)) ∧ V.cell? ⟨b7, 0, none⟩ = some (.string (S cf.key)) ∧ V.cell? ⟨b7, 1, none⟩ = some (.int .i64 cf.seq) ∧ V.cell? ⟨b7, 2, none⟩ = some (.string (S cf.val)) :=
  ⟨h.r5.cell 0, h.r5.cell 1, h.r6.cell 0, h.r6.cell 1, h.r6.cell 2, h.r7.cell 0, h.r7.cell 1, h.r7.cell 2⟩
set_option maxHeartbeats 8000000 in
set_option maxRecDepth 100000 in
theorem tablesAsk_calls (W : World) (v : Value) (hv : UCs W v) (key : List UInt8) (hkl : key.length ≤ 140737488351232) (v2 : Value) (hv2 : U2s v2) :
    Calls Try.prog 5 #[v, .string (S key), v2] W fun e w' => e = .returned (.bool true) ∧ Below W.heap.size W w' := by
  obtain ⟨L, ao, cap, rfl, hl, hi, hc, hL⟩ := hv
  obtain ⟨x, y, rfl⟩ := hv2
  have CG := Lib.hid (fun V (h : ClsAt V ao L) => (show Calls Try.prog 22 #[.slice ao L.length cap, .int .i64 300] V fun e w' => GreatR9 L 300 V e w' from great9_any L cap 300 (by omega) h hl))
  unfold GreatR9 at CG
  have CB := Lib.hid (fun (h : SmallCs9 L 300) V (h1 : ClsAt V ao L) => build10_any L (by have := h.1; omega) ao cap hc V h1 (h.oks hi))
  unfold BuildR at CB
  have CD := Lib.hid does10
  have HLw := Lib.hid (hL.below ((Below.refl _ _).alloc (Nat.le_refl _) (.cells #[.string (S x), .string (S y)] 31)))
  have HB := Lib.hid ((Below.refl W.heap.size W).alloc (Nat.le_refl _) (.cells #[.string (S x), .string (S y)] 31))
  have HX := Lib.hid (rowIn_new #[.string (S x), .string (S y)] 31 W)
  have HI := Lib.hid hi
  have z0 := HX.out.cell 0
  have z1 := HX.out.cell 1
  clear hL hi
  go_enter Try.func5, Try.ntmps5
  go_wp2_with fail
  with_reducible refine (CG.out _ HLw.out).mono ?_
  rintro e w0 ⟨rfl | ⟨rfl, hsm⟩, rfl⟩
  · go_wp2_with fail
    go_ret
    exact ⟨rfl, HB.out⟩
  by_cases q1 : 1000 < key.length
  · have d1 : decide ((1000 : Int) < (key.length : Int)) = true := by simp; omega
    go_wp2_with fail
    go_ret
    exact ⟨rfl, HB.out⟩
  have d1 : decide ((1000 : Int) < (key.length : Int)) = false := by simp; omega
  by_cases q2 : 1000 < x.length
  · have d2 : decide ((1000 : Int) < (x.length : Int)) = true := by simp; omega
    go_wp2_with fail
    go_ret
    exact ⟨rfl, HB.out⟩
  have d2 : decide ((1000 : Int) < (x.length : Int)) = false := by simp; omega
  by_cases q3 : 1000 < y.length
  · have d3 : decide ((1000 : Int) < (y.length : Int)) = true := by simp; omega
    go_wp2_with fail
    go_ret
    exact ⟨rfl, HB.out⟩
  have d3 : decide ((1000 : Int) < (y.length : Int)) = false := by simp; omega
  replace CB := Lib.hid (CB.out hsm)
  have hl2 : L.length ≤ 300 := hsm.1
  have HOK := Lib.hid (hsm.oks HI.out)
  rw [bE_few (by omega)] at CB
  clear hsm CG hl
  go_wp2_with fail
  clear z0 z1
  cases hs : M.srt none L with
  | false =>
    rw [bN_no hs] at CB
    clear hs
    with_reducible refine (CB.out _ HLw.out).mono ?_
    rintro e w1 ⟨rfl, hbq⟩
    replace HB := carry hbq HB
    clear hbq
    go_wp2_with fail
    with_reducible refine (CD.out _).mono ?_
    rintro e w2 ⟨rfl, hbq⟩
    replace HB := carry hbq HB
    clear hbq
    go_wp2_with fail
    go_ret
    exact ⟨rfl, HB.out⟩
  | true =>
    have HS := Lib.hid hs
    have HQ : Hid (∀ c ∈ L, c.seq ≤ 9223372036854775807) := Lib.hid fun c hc => (HI.out c hc).h2
    have htl := tab_len10 hs (by omega)
    rw [bN_ok hs, bS_ok hs] at CB
    have CO := Lib.hid (fun V => by
      have := open10_any (M.tableT L) (by omega) V
      unfold OpenR10 at this
      rw [M.openT_some (isT_self hs (by omega) HI.out)] at this
      exact this)
    simp only at CO
    generalize M.tableT L = t at *
    clear hs htl
    with_reducible refine (CB.out _ HLw.out).mono ?_
    rintro e w1 ⟨rfl, hbq⟩
    replace HB := carry hbq HB
    replace HLw := carry hbq HLw
    replace HX := carry hbq HX
    clear hbq CB
    go_wp2_with fail
    with_reducible refine (CO.out _).mono ?_
    rintro e w2 ⟨⟨p, rfl, ht⟩, hbq⟩
    replace HB := carry hbq HB
    replace HLw := carry hbq HLw
    replace HX := carry hbq HX
    have HT := Lib.hid ht
    clear hbq ht CO
    have CGt := Lib.hid (get10_any L p key w2 HT.out HS.out (by omega) HQ.out (by omega))
    have CGr := Lib.hid (fun V (h : ClsAt V ao L) => refGet10_any L (by omega) ao cap key V h)
    unfold FindR9 at CGt CGr
    generalize M.findL key L = r at *
    obtain ⟨cf, hcf⟩ : ∃ c, r.getD M.cl0 = c := ⟨_, rfl⟩
    rw [hcf] at CGt CGr
    clear hcf
    go_wp2_with fail
    with_reducible refine (CGt.out).mono ?_
    rintro e w3 ⟨rfl, hbq⟩
    replace HB := carry hbq HB
    replace HLw := carry hbq HLw
    replace HX := carry hbq HX
    replace HT := carry hbq HT
    clear hbq CGt
    have HY := Lib.hid (rowIn_new (clA cf) 38 w3)
    replace HB := carryA (w := w3) (.cells (clA cf) 38) HB
    replace HLw := carryA (w := w3) (.cells (clA cf) 38) HLw
    replace HX := carryA (w := w3) (.cells (clA cf) 38) HX
    replace HT := carryA (w := w3) (.cells (clA cf) 38) HT
    go_wp2_with fail
    with_reducible refine (CGr.out _ HLw.out).mono ?_
    rintro e w4 ⟨rfl, hbq⟩
    replace HB := carry hbq HB
    replace HLw := carry hbq HLw
    replace HX := carry hbq HX
    replace HT := carry hbq HT
    replace HY := carry hbq HY
    clear hbq CGr
    have HZ := Lib.hid (rowIn_new (clA cf) 38 w4)
    replace HB := carryA (w := w4) (.cells (clA cf) 38) HB
    replace HLw := carryA (w := w4) (.cells (clA cf) 38) HLw
    replace HX := carryA (w := w4) (.cells (clA cf) 38) HX
    replace HT := carryA (w := w4) (.cells (clA cf) 38) HT
    replace HY := carryA (w := w4) (.cells (clA cf) 38) HY
    go_wp2_with fail
    have HE := Lib.hid (show Ek10 W L ao p W.heap.size w3.heap.size w4.heap.size x y cf (w4.alloc (.cells #[.string (S cf.key), .int .i64 cf.seq, .string (S cf.val)] 38)) from ⟨HB.out, HT.out, HLw.out, HX.out, HY.out, HZ.out⟩)
    clear HB HT HLw HX HY HZ
    have CLn := Lib.hid (fun V (h : TabAt L p V) => len10_any L p V h (by omega))
    have CR1 := Lib.hid (fun V (h : TabAt L p V) => (range10_any L p x y V h HS.out (by omega) HQ.out (by omega) (by omega)).mono fun e w' h => rng_clsA h)
    have CR2 := Lib.hid (fun V (h : ClsAt V ao L) => (refRange10_any L (by omega) ao cap x y V h HOK.out (by omega) (by omega)).mono fun e w' h => rng_clsA h)
    have hkl : (M.rangeL x y L).length ≤ 1000 := by have := M.range_len x y L; omega
    have CSm := Lib.hid (fun V a b c d (h1 : ClsAt V a (M.rangeL x y L)) (h2 : ClsAt V b (M.rangeL x y L)) => sameCells9_yes (M.rangeL x y L) (M.rangeL x y L).length rfl a b c d (by omega) (w := V) h1 h2)
    unfold RngA at CR1 CR2
    clear hkl q1 q2 q3 d1 d2 d3
    generalize M.rangeL x y L = K1 at *
    generalize r.isSome = ri at *
    generalize w4.alloc (.cells #[.string (S cf.key), .int .i64 cf.seq, .string (S cf.val)] 38) = w9 at *
    generalize w4.heap.size = b7 at *
    generalize w3.heap.size = b6 at *
    refine wp_region_held_drew (S := fun V => V.cell? ⟨W.heap.size, 0, none⟩ = some (.string (S x)) ∧ V.cell? ⟨W.heap.size, 1, none⟩ = some (.string (S y)) ∧ V.cell? ⟨b6, 0, none⟩ = some (.string (S cf.key)) ∧ V.cell? ⟨b6, 1, none⟩ = some (.int .i64 cf.seq) ∧ V.cell? ⟨b6, 2, none⟩ = some (.string (S cf.val)) ∧ V.cell? ⟨b7, 0, none⟩ = some (.string (S cf.key)) ∧ V.cell? ⟨b7, 1, none⟩ = some (.int .i64 cf.seq) ∧ V.cell? ⟨b7, 2, none⟩ = some (.string (S cf.val))) (by kernel_rfl) ?_ (fun hHeld => ?_)
    · exact HE.out.drew.s
    replace HE := Lib.hid HE.out.drew
    refine wpAnyH_take (i := 0) (oi := { dst := some 59, op := Op.move (Operand.tmp 10), type := 25, pos := "law.go:74", after := #[], guard := none }) (v := ?_) rfl (by kernel_rfl) (by kernel_rfl) (by kernel_rfl) (fun _ _ _ h => h) (Or.inl ⟨by rfl, ?_⟩) (by assumption) ?_
    rotate_left
    · (intro w hSw; (try dsimp only at hSw); go_simp); (first | done | with_reducible rfl)
    try simp only [Act.put, List.setIfInBounds_toArray, List.set_cons_zero, List.set_cons_succ]
    refine wpAnyH_take (i := 1) (oi := { dst := some 60, op := Op.binOp BinOp.eql 25 (Operand.tmp 59) (Operand.const (Value.int IntKind.i64 0)) 25, type := 4, pos := "law.go:74", after := #[{ on := 0, ground := Ground.data }], guard := none }) (v := ?_) rfl (by kernel_rfl) (by kernel_rfl) (by kernel_rfl) (fun _ _ _ h => h) (Or.inl ⟨by rfl, ?_⟩) (by assumption) ?_
    rotate_left
    · (intro w hSw; (try dsimp only at hSw); go_simp); (first | done | with_reducible rfl)
    try simp only [Act.put, List.setIfInBounds_toArray, List.set_cons_zero, List.set_cons_succ]
    refine wpAnyH_take (i := 2) (oi := { dst := some 61, op := Op.move (Operand.tmp 60), type := 4, pos := "law.go:74", after := #[{ on := 1, ground := Ground.data }], guard := none }) (v := ?_) rfl (by kernel_rfl) (by kernel_rfl) (by kernel_rfl) (fun _ _ _ h => h) (Or.inl ⟨by rfl, ?_⟩) (by assumption) ?_
    rotate_left
    · (intro w hSw; (try dsimp only at hSw); go_simp); (first | done | with_reducible rfl)
    try simp only [Act.put, List.setIfInBounds_toArray, List.set_cons_zero, List.set_cons_succ]
    refine wpAnyH_take (i := 3) (oi := { dst := some 62, op := Op.load 38 (Operand.tmp 11), type := 38, pos := "law.go:74", after := #[{ on := 2, ground := Ground.guard }], guard := some (2, true) }) (v := ?_) rfl (by kernel_rfl) (by kernel_rfl) (by kernel_rfl) (fun _ _ _ h => h) (Or.inl ⟨by rfl, ?_⟩) (by assumption) ?_
    rotate_left
    · (intro w hSw; (try dsimp only at hSw); go_simp); (first | done | with_reducible rfl)
    try simp only [Act.put, List.setIfInBounds_toArray, List.set_cons_zero, List.set_cons_succ]
    refine wpAnyH_take (i := 4) (oi := { dst := some 63, op := Op.load 38 (Operand.tmp 13), type := 38, pos := "law.go:74", after := #[{ on := 2, ground := Ground.guard }], guard := some (2, true) }) (v := ?_) rfl (by kernel_rfl) (by kernel_rfl) (by kernel_rfl) (fun _ _ _ h => h) (Or.inl ⟨by rfl, ?_⟩) (by assumption) ?_
    rotate_left
    · (intro w hSw; (try dsimp only at hSw); go_simp); (first | done | with_reducible rfl)
    try simp only [Act.put, List.setIfInBounds_toArray, List.set_cons_zero, List.set_cons_succ]
    refine wpAnyH_take (i := 5) (oi := { dst := some 64, op := Op.binOp BinOp.eql 38 (Operand.tmp 62) (Operand.tmp 63) 38, type := 4, pos := "law.go:74", after := #[{ on := 3, ground := Ground.data }, { on := 4, ground := Ground.data }, { on := 2, ground := Ground.guard }], guard := some (2, true) }) (v := ?_) rfl (by kernel_rfl) (by kernel_rfl) (by kernel_rfl) (fun _ _ _ h => h) (Or.inl ⟨by rfl, ?_⟩) (by assumption) ?_
    rotate_left
    · (intro w hSw; (try dsimp only at hSw); go_simp); (first | done | with_reducible rfl)
    try simp only [Act.put, List.setIfInBounds_toArray, List.set_cons_zero, List.set_cons_succ]
    refine wpAnyH_take (i := 6) (oi := { dst := some 65, op := Op.pick (Operand.tmp 61) (Operand.tmp 64) (Operand.const (Value.bool false)), type := 4, pos := "law.go:74", after := #[{ on := 2, ground := Ground.data }, { on := 5, ground := Ground.data }], guard := none }) (v := ?_) rfl (by kernel_rfl) (by kernel_rfl) (by kernel_rfl) (fun _ _ _ h => h) (Or.inl ⟨by rfl, ?_⟩) (by assumption) ?_
    rotate_left
    · (intro w hSw; (try dsimp only at hSw); go_simp); (first | done | with_reducible rfl)
    try simp only [Act.put, List.setIfInBounds_toArray, List.set_cons_zero, List.set_cons_succ]
    refine wpAnyH_take (i := 7) (oi := { dst := some 66, op := Op.move (Operand.tmp 65), type := 4, pos := "law.go:74", after := #[{ on := 6, ground := Ground.data }, { on := 2, ground := Ground.chain }], guard := none }) (v := ?_) rfl (by kernel_rfl) (by kernel_rfl) (by kernel_rfl) (fun _ _ _ h => h) (Or.inl ⟨by rfl, ?_⟩) (by assumption) ?_
    rotate_left
    · (intro w hSw; (try dsimp only at hSw); go_simp); (first | done | with_reducible rfl)
    try simp only [Act.put, List.setIfInBounds_toArray, List.set_cons_zero, List.set_cons_succ]
    refine wpAnyH_take (i := 8) (oi := { dst := some 67, op := Op.move (Operand.tmp 12), type := 4, pos := "law.go:74", after := #[{ on := 7, ground := Ground.guard }], guard := some (7, true) }) (v := ?_) rfl (by kernel_rfl) (by kernel_rfl) (by kernel_rfl) (fun _ _ _ h => h) (Or.inl ⟨by rfl, ?_⟩) (by assumption) ?_
    rotate_left
    · (intro w hSw; (try dsimp only at hSw); go_simp); (first | done | with_reducible rfl)
    try simp only [Act.put, List.setIfInBounds_toArray, List.set_cons_zero, List.set_cons_succ]
    refine wpAnyH_take (i := 9) (oi := { dst := some 68, op := Op.move (Operand.tmp 14), type := 4, pos := "law.go:74", after := #[{ on := 7, ground := Ground.guard }], guard := some (7, true) }) (v := ?_) rfl (by kernel_rfl) (by kernel_rfl) (by kernel_rfl) (fun _ _ _ h => h) (Or.inl ⟨by rfl, ?_⟩) (by assumption) ?_
    rotate_left
    · (intro w hSw; (try dsimp only at hSw); go_simp); (first | done | with_reducible rfl)
    try simp only [Act.put, List.setIfInBounds_toArray, List.set_cons_zero, List.set_cons_succ]
    refine wpAnyH_take (i := 10) (oi := { dst := some 69, op := Op.binOp BinOp.eql 4 (Operand.tmp 67) (Operand.tmp 68) 4, type := 4, pos := "law.go:74", after := #[{ on := 8, ground := Ground.data }, { on := 9, ground := Ground.data }, { on := 7, ground := Ground.guard }], guard := some (7, true) }) (v := ?_) rfl (by kernel_rfl) (by kernel_rfl) (by kernel_rfl) (fun _ _ _ h => h) (Or.inl ⟨by rfl, ?_⟩) (by assumption) ?_
    rotate_left
    · (intro w hSw; (try dsimp only at hSw); go_simp); (first | done | with_reducible rfl)
    try simp only [Act.put, List.setIfInBounds_toArray, List.set_cons_zero, List.set_cons_succ]
    refine wpAnyH_take (i := 11) (oi := { dst := some 70, op := Op.pick (Operand.tmp 66) (Operand.tmp 69) (Operand.const (Value.bool false)), type := 4, pos := "law.go:74", after := #[{ on := 7, ground := Ground.data }, { on := 10, ground := Ground.data }], guard := none }) (v := ?_) rfl (by kernel_rfl) (by kernel_rfl) (by kernel_rfl) (fun _ _ _ h => h) (Or.inl ⟨by rfl, ?_⟩) (by assumption) ?_
    rotate_left
    · (intro w hSw; (try dsimp only at hSw); go_simp); (first | done | with_reducible rfl)
    try simp only [Act.put, List.setIfInBounds_toArray, List.set_cons_zero, List.set_cons_succ]
    refine wpAnyH_take (i := 12) (oi := { dst := some 71, op := Op.move (Operand.tmp 70), type := 4, pos := "law.go:74", after := #[{ on := 11, ground := Ground.data }, { on := 7, ground := Ground.chain }], guard := none }) (v := ?_) rfl (by kernel_rfl) (by kernel_rfl) (by kernel_rfl) (fun _ _ _ h => h) (Or.inl ⟨by rfl, ?_⟩) (by assumption) ?_
    rotate_left
    · (intro w hSw; (try dsimp only at hSw); go_simp); (first | done | with_reducible rfl)
    try simp only [Act.put, List.setIfInBounds_toArray, List.set_cons_zero, List.set_cons_succ]
    refine wpAnyH_take (i := 13) (oi := { dst := some 72, op := Op.move (Operand.tmp 9), type := 32, pos := "law.go:74", after := #[{ on := 12, ground := Ground.guard }], guard := some (12, true) }) (v := ?_) rfl (by kernel_rfl) (by kernel_rfl) (by kernel_rfl) (fun _ _ _ h => h) (Or.inl ⟨by rfl, ?_⟩) (by assumption) ?_
    rotate_left
    · (intro w hSw; (try dsimp only at hSw); go_simp); (first | done | with_reducible rfl)
    try simp only [Act.put, List.setIfInBounds_toArray, List.set_cons_zero, List.set_cons_succ]
    refine wpAnyH_take (i := 15) (oi := { dst := some 74, op := Op.move (Operand.tmp 0), type := 22, pos := "law.go:74", after := #[{ on := 12, ground := Ground.guard }], guard := some (12, true) }) (v := ?_) rfl (by kernel_rfl) (by kernel_rfl) (by kernel_rfl) (fun _ _ _ h => h) (Or.inl ⟨by rfl, ?_⟩) (by assumption) ?_
    rotate_left
    · (intro w hSw; (try dsimp only at hSw); go_simp); (first | done | with_reducible rfl)
    try simp only [Act.put, List.setIfInBounds_toArray, List.set_cons_zero, List.set_cons_succ]
    refine wpAnyH_take (i := 16) (oi := { dst := some 75, op := Op.call { callee := Callee.builtin Builtin.len, args := #[Operand.tmp 74], argTypes := #[22] }, type := 3, pos := "law.go:74", after := #[{ on := 15, ground := Ground.data }, { on := 12, ground := Ground.guard }], guard := some (12, true) }) (v := ?_) rfl (by kernel_rfl) (by kernel_rfl) (by kernel_rfl) (fun _ _ _ h => h) (Or.inl ⟨by rfl, ?_⟩) (by assumption) ?_
    rotate_left
    · (intro w hSw; (try dsimp only at hSw); go_simp); (first | done | with_reducible rfl)
    try simp only [Act.put, List.setIfInBounds_toArray, List.set_cons_zero, List.set_cons_succ]
    refine wpAnyH_ready (rs := [14]) (by kernel_rfl) (by simp) ?_
    refine AllReadyH.cons (o := { dst := some 73, op := Op.call { callee := Callee.value (Operand.func 34), args := #[Operand.tmp 72], argTypes := #[32] }, type := 3, pos := "law.go:74", after := #[{ on := 13, ground := Ground.data }, { on := 12, ground := Ground.chain }, { on := 12, ground := Ground.guard }], guard := some (12, true) }) rfl (fun K hK => ?_) AllReadyH.nil
    go_simp
    go_at_call 34
    with_reducible refine (CLn.out _ HE.out.t).mono ?_
    rintro e wL ⟨rfl, rfl⟩
    go_wp2_with fail
    refine hK.out _ _ ?_ (fun hHeld => ?_)
    · exact HE.out.s
    clear hK K
    try simp only [Act.put, List.setIfInBounds_toArray, List.set_cons_zero, List.set_cons_succ]
    refine wpAnyH_take (i := 17) (oi := { dst := some 76, op := Op.binOp BinOp.eql 3 (Operand.tmp 73) (Operand.tmp 75) 3, type := 4, pos := "law.go:74", after := #[{ on := 14, ground := Ground.data }, { on := 16, ground := Ground.data }, { on := 12, ground := Ground.guard }], guard := some (12, true) }) (v := ?_) rfl (by kernel_rfl) (by kernel_rfl) (by kernel_rfl) (fun _ _ _ h => h) (Or.inl ⟨by rfl, ?_⟩) (by assumption) ?_
    rotate_left
    · (intro w hSw; (try dsimp only at hSw); go_simp); (first | done | with_reducible rfl)
    try simp only [Act.put, List.setIfInBounds_toArray, List.set_cons_zero, List.set_cons_succ]
    refine wpAnyH_take (i := 18) (oi := { dst := some 77, op := Op.pick (Operand.tmp 71) (Operand.tmp 76) (Operand.const (Value.bool false)), type := 4, pos := "law.go:74", after := #[{ on := 12, ground := Ground.data }, { on := 17, ground := Ground.data }], guard := none }) (v := ?_) rfl (by kernel_rfl) (by kernel_rfl) (by kernel_rfl) (fun _ _ _ h => h) (Or.inl ⟨by rfl, ?_⟩) (by assumption) ?_
    rotate_left
    · (intro w hSw; (try dsimp only at hSw); go_simp); (first | done | with_reducible rfl)
    try simp only [Act.put, List.setIfInBounds_toArray, List.set_cons_zero, List.set_cons_succ]
    refine wpAnyH_take (i := 19) (oi := { dst := some 78, op := Op.move (Operand.tmp 77), type := 4, pos := "law.go:74", after := #[{ on := 18, ground := Ground.data }, { on := 14, ground := Ground.chain }], guard := none }) (v := ?_) rfl (by kernel_rfl) (by kernel_rfl) (by kernel_rfl) (fun _ _ _ h => h) (Or.inl ⟨by rfl, ?_⟩) (by assumption) ?_
    rotate_left
    · (intro w hSw; (try dsimp only at hSw); go_simp); (first | done | with_reducible rfl)
    try simp only [Act.put, List.setIfInBounds_toArray, List.set_cons_zero, List.set_cons_succ]
    refine wpAnyH_take (i := 20) (oi := { dst := some 79, op := Op.move (Operand.tmp 9), type := 32, pos := "law.go:74", after := #[{ on := 19, ground := Ground.guard }], guard := some (19, true) }) (v := ?_) rfl (by kernel_rfl) (by kernel_rfl) (by kernel_rfl) (fun _ _ _ h => h) (Or.inl ⟨by rfl, ?_⟩) (by assumption) ?_
    rotate_left
    · (intro w hSw; (try dsimp only at hSw); go_simp); (first | done | with_reducible rfl)
    try simp only [Act.put, List.setIfInBounds_toArray, List.set_cons_zero, List.set_cons_succ]
    refine wpAnyH_take (i := 21) (oi := { dst := some 80, op := Op.indexAddr 31 (Operand.tmp 5) (Operand.const (Value.int IntKind.i64 0)), type := 0, pos := "law.go:74", after := #[{ on := 19, ground := Ground.guard }], guard := some (19, true) }) (v := ?_) rfl (by kernel_rfl) (by kernel_rfl) (by kernel_rfl) (fun _ _ _ h => h) (Or.inl ⟨by rfl, ?_⟩) (by assumption) ?_
    rotate_left
    · (intro w hSw; (try dsimp only at hSw); go_simp); (first | done | with_reducible rfl)
    try simp only [Act.put, List.setIfInBounds_toArray, List.set_cons_zero, List.set_cons_succ]
    refine wpAnyH_take (i := 22) (oi := { dst := some 81, op := Op.load 9 (Operand.tmp 80), type := 9, pos := "law.go:74", after := #[{ on := 21, ground := Ground.data }, { on := 19, ground := Ground.guard }], guard := some (19, true) }) (v := ?_) rfl (by kernel_rfl) (by kernel_rfl) (by kernel_rfl) (fun _ _ _ h => h) (Or.inl ⟨by rfl, ?_⟩) (by assumption) ?_
    rotate_left
    · (intro w hSw; (try dsimp only at hSw); go_simp); (first | done | with_reducible rfl)
    try simp only [Act.put, List.setIfInBounds_toArray, List.set_cons_zero, List.set_cons_succ]
    refine wpAnyH_take (i := 23) (oi := { dst := some 82, op := Op.indexAddr 31 (Operand.tmp 5) (Operand.const (Value.int IntKind.i64 1)), type := 0, pos := "law.go:74", after := #[{ on := 19, ground := Ground.guard }], guard := some (19, true) }) (v := ?_) rfl (by kernel_rfl) (by kernel_rfl) (by kernel_rfl) (fun _ _ _ h => h) (Or.inl ⟨by rfl, ?_⟩) (by assumption) ?_
    rotate_left
    · (intro w hSw; (try dsimp only at hSw); go_simp); (first | done | with_reducible rfl)
    try simp only [Act.put, List.setIfInBounds_toArray, List.set_cons_zero, List.set_cons_succ]
    refine wpAnyH_take (i := 24) (oi := { dst := some 83, op := Op.load 9 (Operand.tmp 82), type := 9, pos := "law.go:74", after := #[{ on := 23, ground := Ground.data }, { on := 19, ground := Ground.guard }], guard := some (19, true) }) (v := ?_) rfl (by kernel_rfl) (by kernel_rfl) (by kernel_rfl) (fun _ _ _ h => h) (Or.inl ⟨by rfl, ?_⟩) (by assumption) ?_
    rotate_left
    · (intro w hSw; (try dsimp only at hSw); go_simp); (first | done | with_reducible rfl)
    try simp only [Act.put, List.setIfInBounds_toArray, List.set_cons_zero, List.set_cons_succ]
    refine wpAnyH_take (i := 26) (oi := { dst := some 85, op := Op.move (Operand.tmp 0), type := 22, pos := "law.go:74", after := #[{ on := 19, ground := Ground.guard }], guard := some (19, true) }) (v := ?_) rfl (by kernel_rfl) (by kernel_rfl) (by kernel_rfl) (fun _ _ _ h => h) (Or.inl ⟨by rfl, ?_⟩) (by assumption) ?_
    rotate_left
    · (intro w hSw; (try dsimp only at hSw); go_simp); (first | done | with_reducible rfl)
    try simp only [Act.put, List.setIfInBounds_toArray, List.set_cons_zero, List.set_cons_succ]
    refine wpAnyH_take (i := 27) (oi := { dst := some 86, op := Op.indexAddr 31 (Operand.tmp 5) (Operand.const (Value.int IntKind.i64 0)), type := 0, pos := "law.go:74", after := #[{ on := 19, ground := Ground.guard }], guard := some (19, true) }) (v := ?_) rfl (by kernel_rfl) (by kernel_rfl) (by kernel_rfl) (fun _ _ _ h => h) (Or.inl ⟨by rfl, ?_⟩) (by assumption) ?_
    rotate_left
    · (intro w hSw; (try dsimp only at hSw); go_simp); (first | done | with_reducible rfl)
    try simp only [Act.put, List.setIfInBounds_toArray, List.set_cons_zero, List.set_cons_succ]
    refine wpAnyH_take (i := 28) (oi := { dst := some 87, op := Op.load 9 (Operand.tmp 86), type := 9, pos := "law.go:74", after := #[{ on := 27, ground := Ground.data }, { on := 19, ground := Ground.guard }], guard := some (19, true) }) (v := ?_) rfl (by kernel_rfl) (by kernel_rfl) (by kernel_rfl) (fun _ _ _ h => h) (Or.inl ⟨by rfl, ?_⟩) (by assumption) ?_
    rotate_left
    · (intro w hSw; (try dsimp only at hSw); go_simp); (first | done | with_reducible rfl)
    try simp only [Act.put, List.setIfInBounds_toArray, List.set_cons_zero, List.set_cons_succ]
    refine wpAnyH_take (i := 29) (oi := { dst := some 88, op := Op.indexAddr 31 (Operand.tmp 5) (Operand.const (Value.int IntKind.i64 1)), type := 0, pos := "law.go:74", after := #[{ on := 19, ground := Ground.guard }], guard := some (19, true) }) (v := ?_) rfl (by kernel_rfl) (by kernel_rfl) (by kernel_rfl) (fun _ _ _ h => h) (Or.inl ⟨by rfl, ?_⟩) (by assumption) ?_
    rotate_left
    · (intro w hSw; (try dsimp only at hSw); go_simp); (first | done | with_reducible rfl)
    try simp only [Act.put, List.setIfInBounds_toArray, List.set_cons_zero, List.set_cons_succ]
    refine wpAnyH_take (i := 30) (oi := { dst := some 89, op := Op.load 9 (Operand.tmp 88), type := 9, pos := "law.go:74", after := #[{ on := 29, ground := Ground.data }, { on := 19, ground := Ground.guard }], guard := some (19, true) }) (v := ?_) rfl (by kernel_rfl) (by kernel_rfl) (by kernel_rfl) (fun _ _ _ h => h) (Or.inl ⟨by rfl, ?_⟩) (by assumption) ?_
    rotate_left
    · (intro w hSw; (try dsimp only at hSw); go_simp); (first | done | with_reducible rfl)
    try simp only [Act.put, List.setIfInBounds_toArray, List.set_cons_zero, List.set_cons_succ]
    refine wpAnyH_ready (rs := [25]) (by kernel_rfl) (by simp) ?_
    refine AllReadyH.cons (o := { dst := some 84, op := Op.call { callee := Callee.value (Operand.func 32), args := #[Operand.tmp 79, Operand.tmp 81, Operand.tmp 83], argTypes := #[32, 9, 9] }, type := 22, pos := "law.go:74", after := #[{ on := 20, ground := Ground.data }, { on := 22, ground := Ground.data }, { on := 24, ground := Ground.data }, { on := 19, ground := Ground.chain }, { on := 19, ground := Ground.guard }], guard := some (19, true) }) rfl (fun K hK => ?_) AllReadyH.nil
    go_simp
    go_at_call 32
    with_reducible refine (CR1.out _ HE.out.t).mono ?_
    rintro e w5 ⟨aw5, cw5, rfl, hw5, hbq⟩
    replace HE := Lib.hid (HE.out.below hbq)
    have HK := Lib.hid hw5
    clear hbq hw5
    go_wp2_with fail
    refine hK.out _ _ ?_ (fun hHeld => ?_)
    · exact HE.out.s
    clear hK K
    try simp only [Act.put, List.setIfInBounds_toArray, List.set_cons_zero, List.set_cons_succ]
    refine wpAnyH_ready (rs := [31]) (by kernel_rfl) (by simp) ?_
    refine AllReadyH.cons (o := { dst := some 90, op := Op.call { callee := Callee.value (Operand.func 36), args := #[Operand.tmp 85, Operand.tmp 87, Operand.tmp 89], argTypes := #[22, 9, 9] }, type := 22, pos := "law.go:74", after := #[{ on := 26, ground := Ground.data }, { on := 28, ground := Ground.data }, { on := 30, ground := Ground.data }, { on := 25, ground := Ground.chain }, { on := 19, ground := Ground.guard }], guard := some (19, true) }) rfl (fun K hK => ?_) AllReadyH.nil
    go_simp
    go_at_call 36
    with_reducible refine (CR2.out _ HE.out.c).mono ?_
    rintro e w6 ⟨aw6, cw6, rfl, hw6, hbq⟩
    replace HE := Lib.hid (HE.out.below hbq)
    replace HK := Lib.hid (HK.out.below hbq)
    have HM := Lib.hid hw6
    clear hbq hw6
    go_wp2_with fail
    refine hK.out _ _ ?_ (fun hHeld => ?_)
    · exact HE.out.s
    clear hK K
    try simp only [Act.put, List.setIfInBounds_toArray, List.set_cons_zero, List.set_cons_succ]
    refine wpAnyH_ready (rs := [32]) (by kernel_rfl) (by simp) ?_
    refine AllReadyH.cons (o := { dst := some 91, op := Op.call { callee := Callee.value (Operand.func 35), args := #[Operand.tmp 84, Operand.tmp 90], argTypes := #[22, 22] }, type := 4, pos := "law.go:74", after := #[{ on := 25, ground := Ground.data }, { on := 31, ground := Ground.data }, { on := 31, ground := Ground.chain }, { on := 19, ground := Ground.guard }], guard := some (19, true) }) rfl (fun K hK => ?_) AllReadyH.nil
    go_simp
    go_at_call 35
    with_reducible refine (CSm.out _ _ _ _ _ HK.out HM.out).mono ?_
    rintro e w7 ⟨rfl, hbq⟩
    replace HE := Lib.hid (HE.out.below hbq)
    clear hbq HK HM
    go_wp2_with fail
    refine hK.out _ _ ?_ (fun hHeld => ?_)
    · exact HE.out.s
    clear hK K
    try simp only [Act.put, List.setIfInBounds_toArray, List.set_cons_zero, List.set_cons_succ]
    refine wpAnyH_take (i := 33) (oi := { dst := some 92, op := Op.pick (Operand.tmp 78) (Operand.tmp 91) (Operand.const (Value.bool false)), type := 4, pos := "law.go:74", after := #[{ on := 19, ground := Ground.data }, { on := 32, ground := Ground.data }], guard := none }) (v := ?_) rfl (by kernel_rfl) (by kernel_rfl) (by kernel_rfl) (fun _ _ _ h => h) (Or.inl ⟨by rfl, ?_⟩) (by assumption) ?_
    rotate_left
    · (intro w hSw; (try dsimp only at hSw); go_simp); (first | done | with_reducible rfl)
    try simp only [Act.put, List.setIfInBounds_toArray, List.set_cons_zero, List.set_cons_succ]
    refine wpAnyH_take (i := 34) (oi := { dst := some 93, op := Op.move (Operand.tmp 92), type := 4, pos := "law.go:74", after := #[{ on := 33, ground := Ground.data }, { on := 32, ground := Ground.chain }], guard := none }) (v := ?_) rfl (by kernel_rfl) (by kernel_rfl) (by kernel_rfl) (fun _ _ _ h => h) (Or.inl ⟨by rfl, ?_⟩) (by assumption) ?_
    rotate_left
    · (intro w hSw; (try dsimp only at hSw); go_simp); (first | done | with_reducible rfl)
    try simp only [Act.put, List.setIfInBounds_toArray, List.set_cons_zero, List.set_cons_succ]
    refine wpAnyH_ready (rs := [35]) (by kernel_rfl) (by simp) ?_
    refine AllReadyH.cons (o := { dst := some 94, op := Op.call { callee := Callee.value (Operand.func 27), args := #[], argTypes := #[] }, type := 4, pos := "law.go:74", after := #[{ on := 34, ground := Ground.chain }, { on := 34, ground := Ground.guard }], guard := some (34, true) }) rfl (fun K hK => ?_) AllReadyH.nil
    go_simp
    go_at_call 27
    with_reducible refine (CD.out _).mono ?_
    rintro e w8 ⟨rfl, hbq⟩
    replace HE := Lib.hid (HE.out.below hbq)
    clear hbq
    go_wp2_with fail
    refine hK.out _ _ ?_ (fun hHeld => ?_)
    · exact HE.out.s
    clear hK K
    try simp only [Act.put, List.setIfInBounds_toArray, List.set_cons_zero, List.set_cons_succ]
    refine wpAnyH_take (i := 36) (oi := { dst := some 95, op := Op.pick (Operand.tmp 93) (Operand.tmp 94) (Operand.const (Value.bool false)), type := 4, pos := "law.go:74", after := #[{ on := 34, ground := Ground.data }, { on := 35, ground := Ground.data }], guard := none }) (v := ?_) rfl (by kernel_rfl) (by kernel_rfl) (by kernel_rfl) (fun _ _ _ h => h) (Or.inl ⟨by rfl, ?_⟩) (by assumption) ?_
    rotate_left
    · (intro w hSw; (try dsimp only at hSw); go_simp); (first | done | with_reducible rfl)
    try simp only [Act.put, List.setIfInBounds_toArray, List.set_cons_zero, List.set_cons_succ]
    refine wpAnyH_take (i := 37) (oi := { dst := some 6, op := Op.assign (Operand.tmp 95), type := 4, pos := "law.go:74", after := #[{ on := 36, ground := Ground.data }, { on := 35, ground := Ground.chain }, { on := 0, ground := Ground.phase }, { on := 1, ground := Ground.phase }, { on := 2, ground := Ground.phase }, { on := 3, ground := Ground.phase }, { on := 4, ground := Ground.phase }, { on := 5, ground := Ground.phase }, { on := 6, ground := Ground.phase }, { on := 7, ground := Ground.phase }, { on := 8, ground := Ground.phase }, { on := 9, ground := Ground.phase }, { on := 10, ground := Ground.phase }, { on := 11, ground := Ground.phase }, { on := 12, ground := Ground.phase }, { on := 13, ground := Ground.phase }, { on := 14, ground := Ground.phase }, { on := 15, ground := Ground.phase }, { on := 16, ground := Ground.phase }, { on := 17, ground := Ground.phase }, { on := 18, ground := Ground.phase }, { on := 19, ground := Ground.phase }, { on := 20, ground := Ground.phase }, { on := 21, ground := Ground.phase }, { on := 22, ground := Ground.phase }, { on := 23, ground := Ground.phase }, { on := 24, ground := Ground.phase }, { on := 25, ground := Ground.phase }, { on := 26, ground := Ground.phase }, { on := 27, ground := Ground.phase }, { on := 28, ground := Ground.phase }, { on := 29, ground := Ground.phase }, { on := 30, ground := Ground.phase }, { on := 31, ground := Ground.phase }, { on := 32, ground := Ground.phase }, { on := 33, ground := Ground.phase }, { on := 34, ground := Ground.phase }, { on := 35, ground := Ground.phase }, { on := 36, ground := Ground.phase }], guard := none }) (v := ?_) rfl (by kernel_rfl) (by kernel_rfl) (by kernel_rfl) (fun _ _ _ h => h) (Or.inl ⟨by rfl, ?_⟩) (by assumption) ?_
    rotate_left
    · (intro w hSw; (try dsimp only at hSw); go_simp); (first | done | with_reducible rfl)
    refine wpAnyH_done (by kernel_rfl) ?_ _
    go_wp2_with fail
    go_ret
    exact ⟨rfl, HE.out.b⟩

end Go.Proofs.Ythidmgnfdikppaa
