/- Layer 10: TablesParts, walked. -/
import Derived.Test.YthidmgnfdikppaaTablesY
import Derived.Test.YthidmgnfdikppaaTablesW4
import Derived.Deep.CutRange
namespace Go.Proofs.Ythidmgnfdikppaa
set_option linter.unusedVariables false
open Go Go.RowKit
attribute [local go_sem ↓] run_index_S
attribute [local go_sem] S_append S_extract

/-- What TablesParts stands on, once the table is open. -/
structure Ep10 (W : World) (L : List M.Cl) (ao : Option Addr) (p : Nat) (w : World) : Prop where
  b : Below W.heap.size W w
  t : TabAt L p w
  c : ClsAt w ao L
theorem Ep10.below {W : World} {L : List M.Cl} {ao : Option Addr} {p : Nat} {w w' : World} (h : Ep10 W L ao p w) (hb : Below w.heap.size w w') : Ep10 W L ao p w' :=
  ⟨below_step h.b hb, h.t.below hb, h.c.below hb⟩
theorem Ep10.drew {W : World} {L : List M.Cl} {ao : Option Addr} {p : Nat} {w : World} (h : Ep10 W L ao p w) : Ep10 W L ao p w.drew :=
  ⟨h.b.drew, h.t.same10 rfl, h.c.same rfl⟩
theorem drewN_heap10 : ∀ n (w : World), (w.drewN n).heap = w.heap
  | 0, _ => rfl
  | n + 1, w => drewN_heap10 n w.drew
theorem Ep10.drewN {W : World} {L : List M.Cl} {ao : Option Addr} {p : Nat} {w : World} (h : Ep10 W L ao p w) (n : Nat) : Ep10 W L ao p (w.drewN n) :=
  ⟨below_drewN h.b n, h.t.same10 (drewN_heap10 n w), h.c.same (drewN_heap10 n w)⟩
def RngO (K : List M.Cl) (w : World) (e : Ending) (w' : World) : Prop := ∃ a c, e = .returned (.slice a K.length c) ∧ w'.ownsRow w.heap.size 38 3 (.slice a K.length c) K.length (cls K) ∧ Below w.heap.size w w'
theorem rng_own {K : List M.Cl} {w : World} {e : Ending} {w' : World} (h : RangeR10 K w e w') : RngO K w e w' := h
/-- The first test. -/
def condP (a b c : List UInt8) : Bool := decide ((Op.bytesLess a b = true ∨ a = b) ∧ (Op.bytesLess b c = true ∨ b = c) ∧ b ≠ [] ∧ c ≠ [])
theorem condP_true {a b c : List UInt8} (h : condP a b c = true) : M.leB a b = true ∧ M.leB b c = true ∧ b.isEmpty = false ∧ c.isEmpty = false := by
  unfold condP at h
  rw [decide_eq_true_eq] at h
  obtain ⟨h1, h2, h3, h4⟩ := h
  refine ⟨?_, ?_, ?_, ?_⟩
  · unfold M.leB; rw [Bool.or_eq_true, beq_iff_eq]; exact h1
  · unfold M.leB; rw [Bool.or_eq_true, beq_iff_eq]; exact h2
  · cases b with
    | nil => exact absurd rfl h3
    | cons _ _ => rfl
  · cases c with
    | nil => exact absurd rfl h4
    | cons _ _ => rfl
def RngN (n : Nat) (K : List M.Cl) (w : World) (e : Ending) (w' : World) : Prop := ∃ a c, e = .returned (.slice a n c) ∧ ClsAt w' a K ∧ Below w.heap.size w w'
theorem rng_app {f : FuncId} {args : Array Value} {w : World} {K A B : List M.Cl} (h : A ++ B = K) (hr : Calls Try.prog f args w fun e w' => RangeR10 K w e w') : Calls Try.prog f args w fun e w' => RngN (A.length + B.length) (A ++ B) w e w' :=
  hr.mono fun e w' hx => by
    obtain ⟨a, c, h1, h2, h3⟩ := hx
    exact ⟨a, c, by rw [h1, ← h, List.length_append], by rw [h]; exact clsAt_own h2 rfl, h3⟩
theorem rng_clsN {f : FuncId} {args : Array Value} {w : World} {K : List M.Cl} (hr : Calls Try.prog f args w fun e w' => RangeR10 K w e w') : Calls Try.prog f args w fun e w' => RngC K w e w' :=
  hr.mono fun e w' hx => rng_cls hx
theorem sameN10 (V : World) (A : List M.Cl) (a b : Option Addr) (c d n m : Nat) (h1 : ClsAt V a A) (h2 : ClsAt V b A) (hn : A.length = n) (hm : A.length = m) (hA : A.length ≤ 100000) :
    Calls Try.prog 35 #[.slice a n c, .slice b m d] V fun e w' => e = .returned (.bool true) ∧ Below V.heap.size V w' := by
  subst hm
  subst hn
  exact sameCells9_yes A A.length rfl a b c d (by omega) (w := V) h1 h2
theorem rng_key10 (L : List M.Cl) (p : Nat) (ki : List UInt8) (V : World) (h : TabAt L p V) (hs : M.srt none L = true) (hl : L.length ≤ 4096) (hq : ∀ c ∈ L, c.seq ≤ 9223372036854775807) (h1 : ki.length ≤ 1000) :
    Calls Try.prog 32 #[.pointer (some ⟨p, 0, none⟩), .string (S ki), .string { data := (ki ++ [0]).toArray }] V fun e w' => RngC (M.rangeL ki (ki ++ [0]) L) V e w' := by
  have h0 : ({ data := (ki ++ [0]).toArray } : ByteArray) = S (ki ++ [0]) := rfl
  rw [h0]
  exact (range10_any L p ki (ki ++ [0]) V h hs hl hq (by omega) (by simp; omega)).mono fun e w' h => rng_cls h
theorem rng_from10 (L : List M.Cl) (p : Nat) (y : List UInt8) (V : World) (h : TabAt L p V) (hs : M.srt none L = true) (hl : L.length ≤ 4096) (hq : ∀ c ∈ L, c.seq ≤ 9223372036854775807) (h1 : y.length ≤ 1000) :
    Calls Try.prog 32 #[.pointer (some ⟨p, 0, none⟩), .string { data := #[] }, .string (S y)] V fun e w' => RngO (M.rangeL [] y L) V e w' := by
  have h0 : ({ data := #[] } : ByteArray) = S [] := rfl
  rw [h0]
  exact (range10_any L p [] y V h hs hl hq (by simp) (by omega)).mono fun e w' h => rng_own h
theorem rng_to10 (L : List M.Cl) (p : Nat) (y : List UInt8) (V : World) (h : TabAt L p V) (hs : M.srt none L = true) (hl : L.length ≤ 4096) (hq : ∀ c ∈ L, c.seq ≤ 9223372036854775807) (h1 : y.length ≤ 1000) :
    Calls Try.prog 32 #[.pointer (some ⟨p, 0, none⟩), .string (S y), .string { data := #[] }] V fun e w' => RngO (M.rangeL y [] L) V e w' := by
  have h0 : ({ data := #[] } : ByteArray) = S [] := rfl
  rw [h0]
  exact (range10_any L p y [] V h hs hl hq (by omega) (by simp)).mono fun e w' h => rng_own h
theorem wpList_append_cls_on {w : World} {ops : Array Oper} {rest : List Oper} {o : Oper} {a : Act} {Q : Exit → Act → World → Prop} (hgd : Region.wanted o (yielded ops a.tmps) = true) (s x : Operand) (t : TypeId)
    (hop : o.op = .call { callee := .builtin .append, args := #[s, x], argTypes := #[t, t] })
    (base : Nat) (i : TypeInfo) (z : Value) (ht : Try.prog.underlying t = some (.slice 38)) (hi : Try.prog.info? 38 = some i) (hz : i.zero = some z) (h1 : i.size = 3) (h2 : i.bytes = 40) (h3 : z.cells.size = 3)
    (v : Value) (n : Nat) (xs : List Value) (hv : a.eval s = v) (ho : w.ownsRow base 38 3 v n xs) (ao : Option Addr) (c : Nat) (L : List M.Cl) (hx : a.eval x = .slice ao L.length c) (hs : ClsAt w ao L) (h63 : n + L.length ≤ 1000000) (hbase : base ≤ w.heap.size)
    (h : ∀ v' w', w'.ownsRow base 38 3 v' (n + L.length) (xs ++ cls L) → w.grownBy w' v.ownBlock → (v'.ownBlock = v.ownBlock ∨ v'.ownBlock = some w.heap.size) → wpList Try.prog ops Q rest (a.put o.dst v') w') :
    wpList Try.prog ops Q (o :: rest) a w := by
  unfold wpList
  rw [if_pos hgd]
  refine Or.inl ?_
  obtain ⟨v', w', hrun, h5, h6, h7⟩ := append_cls_at w base t o.type i z ht hi hz h1 h2 h3 v n xs ho ao c L hs h63 hbase
  unfold Oper.wp execOp
  simp only [hop, resolve, invoke, builtin, Sem.run_bind, Sem.run_pure, Result.andThen_ok, List.map_toArray, List.map_cons, List.map_nil, hv, hx, hrun]
  exact h v' w' h5 h6 h7
set_option maxHeartbeats 8000000 in
set_option maxRecDepth 100000 in
theorem tablesParts_calls (W : World) (v : Value) (hv : UCs W v) (v2 : Value) (hv2 : U3s v2) :
    Calls Try.prog 8 #[v, v2] W fun e w' => e = .returned (.bool true) ∧ Below W.heap.size W w' := by
  obtain ⟨L, ao, cap, rfl, hl, hi, hc, hL⟩ := hv
  obtain ⟨x, y, z, rfl⟩ := hv2
  have CG := Lib.hid (fun V (h : ClsAt V ao L) => (show Calls Try.prog 22 #[.slice ao L.length cap, .int .i64 300] V fun e w' => GreatR9 L 300 V e w' from great9_any L cap 300 (by omega) h hl))
  unfold GreatR9 at CG
  have CN := Lib.hid (fun (h : SmallCs9 L 300) V (h1 : ClsAt V ao L) hs => opened10_no L ao cap V h1 h.1 hc (h.oks hi) hs)
  have CY := Lib.hid (fun (h : SmallCs9 L 300) V (h1 : ClsAt V ao L) hs => opened10_yes L ao cap V h1 h.1 hc hi (h.oks hi) hs)
  have CD := Lib.hid does10
  have HLw := Lib.hid (hL.below ((Below.refl _ _).alloc (Nat.le_refl _) (.cells #[.string (S x), .string (S y), .string (S z)] 51)))
  have HB := Lib.hid ((Below.refl W.heap.size W).alloc (Nat.le_refl _) (.cells #[.string (S x), .string (S y), .string (S z)] 51))
  have HX := Lib.hid (rowIn_new #[.string (S x), .string (S y), .string (S z)] 51 W)
  have HI := Lib.hid hi
  have z0 := HX.out.cell 0
  have z1 := HX.out.cell 1
  have z2 := HX.out.cell 2
  clear hL hi
  go_enter Try.func8, Try.ntmps8
  go_wp2_with fail
  with_reducible refine (CG.out _ HLw.out).mono ?_
  rintro e w0 ⟨rfl | ⟨rfl, hsm⟩, rfl⟩
  · go_wp2_with fail
    go_ret
    exact ⟨rfl, HB.out⟩
  by_cases q1 : 1000 < x.length
  · have d1 : decide ((1000 : Int) < (x.length : Int)) = true := by simp; omega
    go_wp2_with fail
    go_ret
    exact ⟨rfl, HB.out⟩
  have d1 : decide ((1000 : Int) < (x.length : Int)) = false := by simp; omega
  by_cases q2 : 1000 < y.length
  · have d2 : decide ((1000 : Int) < (y.length : Int)) = true := by simp; omega
    go_wp2_with fail
    go_ret
    exact ⟨rfl, HB.out⟩
  have d2 : decide ((1000 : Int) < (y.length : Int)) = false := by simp; omega
  by_cases q3 : 1000 < z.length
  · have d3 : decide ((1000 : Int) < (z.length : Int)) = true := by simp; omega
    go_wp2_with fail
    go_ret
    exact ⟨rfl, HB.out⟩
  have d3 : decide ((1000 : Int) < (z.length : Int)) = false := by simp; omega
  replace CN := Lib.hid (CN.out hsm)
  replace CY := Lib.hid (CY.out hsm)
  have hl2 : L.length ≤ 300 := hsm.1
  clear hsm CG hl
  go_wp2_with fail
  clear z0 z1 z2
  cases hs : M.srt none L with
  | false =>
    with_reducible refine (CN.out _ HLw.out hs).mono ?_
    rintro e w1 ⟨rfl, hbq⟩
    replace HB := carry hbq HB
    clear hbq hs
    go_wp2_with fail
    with_reducible refine (CD.out _).mono ?_
    rintro e w2 ⟨rfl, hbq⟩
    replace HB := carry hbq HB
    clear hbq
    go_wp2_with fail
    go_ret
    exact ⟨rfl, HB.out⟩
  | true =>
    have HS := Lib.hid hs
    have HQ : Hid (∀ c ∈ L, c.seq ≤ 9223372036854775807) := Lib.hid fun c hc => (HI.out c hc).h2
    with_reducible refine (CY.out _ HLw.out hs).mono ?_
    rintro e w1 ⟨p, rfl, ht, hbq⟩
    replace HX := carry hbq HX
    have HE := Lib.hid (show Ep10 W L ao p w1 from ⟨below_step HB.out hbq, ht, HLw.out.below hbq⟩)
    clear hbq hs ht CN CY HB HLw d1 d2 d3
    have z0 := HX.out.cell 0
    have z1 := HX.out.cell 1
    have z2 := HX.out.cell 2
    go_wp2_with fail
    go_quiet (fail)
    replace HE := Lib.hid (HE.out.drewN nq)
    clear z0 z1 z2 HX
    obtain ⟨wq, hwq⟩ : ∃ x, x = w1.drewN nq := ⟨_, rfl⟩
    rw [← hwq] at HE ⊢
    clear hwq
    have CR := Lib.hid (fun lo hi V (h : TabAt L p V) (h1 : lo.length ≤ 1001) (h2 : hi.length ≤ 1001) => (range10_any L p lo hi V h HS.out (by omega) HQ.out (by omega) (by omega)).mono fun e w' h => rng_own h)
    unfold RngO at CR
    have CR0' := CR
    have CGt := Lib.hid (fun V (h : TabAt L p V) => get10_any L p x V h HS.out (by omega) HQ.out (by omega))
    unfold FindR9 at CGt
    have CRk := Lib.hid (fun V (h : TabAt L p V) => rng_key10 L p x V h HS.out (by omega) HQ.out (by omega))
    unfold RngC at CRk
    have CAl := Lib.hid (fun V (h : TabAt L p V) => rng_clsN (all10_any L p V h HS.out (by omega) HQ.out))
    unfold RngC at CAl
    have CS := Lib.hid (fun V (A : List M.Cl) a b c d n m (h1 : ClsAt V a A) (h2 : ClsAt V b A) (hn : A.length = n) (hm : A.length = m) (hA : A.length ≤ 100000) => sameN10 V A a b c d n m h1 h2 hn hm hA)
    have HCF : Hid ((M.findL x L).getD M.cl0 = (M.rangeL x (x ++ [0]) L).head?.getD M.cl0) := Lib.hid (by rw [M.find_key])
    have HIS : Hid ((M.findL x L).isSome = (M.rangeL x (x ++ [0]) L).head?.isSome) := Lib.hid (by rw [M.find_key])
    generalize (M.findL x L).getD M.cl0 = cf at *
    generalize (M.findL x L).isSome = is at *
    obtain ⟨i0, y0, hi0, hy0, hy1, hy2, hy3⟩ := infoCl_parts
    clear CR0'
    have hyz : y = [] ∨ (y ≠ [] ∧ z = []) ∨ (y ≠ [] ∧ z ≠ []) := by by_cases h1 : y = [] <;> by_cases h2 : z = [] <;> simp_all
    rcases hyz with rfl | ⟨hy, rfl⟩ | ⟨hy, hz⟩
    · obtain ⟨BP, hbp⟩ : ∃ b, condP x [] z = b := ⟨_, rfl⟩
      go_upto_region 7 with (fail)
      go_cut [62] from 47 to 61 (fun c wx => c = .bool (condP x [] z) ∧ wq = wx)
      case first =>
        clear hbp
        go_wp2_with fail
        all_goals
          go_meet
          case rel => exact ⟨by unfold condP; simp_all, rfl⟩
      case rest =>
      obtain ⟨rfl, rfl⟩ := hcut
      have hbf : BP = false := by rw [← hbp]; unfold condP; simp
      rw [hbp, hbf]
      clear hbf hbp
      go_wp2_with fail
      with_reducible refine (CGt.out _ HE.out.t).mono ?_
      rintro e w11 ⟨rfl, hb11⟩
      replace HE := Lib.hid (HE.out.below hb11)
      clear hb11
      have HY := Lib.hid (rowIn_new (clA cf) 38 w11)
      replace HE := Lib.hid (HE.out.below ((Below.refl _ _).alloc (Nat.le_refl _) (.cells (clA cf) 38)))
      go_wp2_with fail
      with_reducible refine (CRk.out _ HE.out.t).mono ?_
      rintro e w12 ⟨a12, c12, rfl, hc12, hb12⟩
      replace HE := Lib.hid (HE.out.below hb12)
      replace HY := Lib.hid (HY.out.below hb12)
      have HK := Lib.hid hc12
      clear hb12 hc12
      go_wp2_with fail
      have HKY := Lib.hid (fun (c : M.Cl) (K : List M.Cl) (h : M.rangeL x (x ++ [0]) L = c :: K) => M.head_key h)
      generalize M.rangeL x (x ++ [0]) L = K at *
      generalize w11.heap.size = b11 at *
      cases K with
      | nil =>
        obtain rfl : is = false := HIS.out
        clear HIS HCF HKY HK
        refine wp_region_held_drew (S := fun V => V.cell? ⟨b11, 0, none⟩ = some (.string (S cf.key)) ∧ V.cell? ⟨b11, 1, none⟩ = some (.int .i64 cf.seq) ∧ V.cell? ⟨b11, 2, none⟩ = some (.string (S cf.val))) (by kernel_rfl) ?_ (fun hHeld => ?_)
        · exact ⟨HY.out.cell 0, HY.out.cell 1, HY.out.cell 2⟩
        replace HE := Lib.hid HE.out.drew
        replace HY := Lib.hid (show RowIn (clA cf) 38 (World.drew w12) b11 from HY.out)
        refine wpAnyH_take (i := 0) (oi := { dst := some 103, op := Op.move (Operand.tmp 12), type := 22, pos := "outright.go:81", after := #[], guard := none }) (v := ?_) rfl (by kernel_rfl) (by kernel_rfl) (by kernel_rfl) (fun _ _ _ h => h) (Or.inl ⟨by rfl, ?_⟩) (by assumption) ?_
        rotate_left
        · (intro w hSw; (try dsimp only at hSw); go_simp); (first | done | with_reducible rfl)
        try simp only [Act.put, List.setIfInBounds_toArray, List.set_cons_zero, List.set_cons_succ]
        refine wpAnyH_take (i := 1) (oi := { dst := some 104, op := Op.call { callee := Callee.builtin Builtin.len, args := #[Operand.tmp 103], argTypes := #[22] }, type := 3, pos := "outright.go:81", after := #[{ on := 0, ground := Ground.data }], guard := none }) (v := ?_) rfl (by kernel_rfl) (by kernel_rfl) (by kernel_rfl) (fun _ _ _ h => h) (Or.inl ⟨by rfl, ?_⟩) (by assumption) ?_
        rotate_left
        · (intro w hSw; (try dsimp only at hSw); go_simp); (first | done | with_reducible rfl)
        try simp only [Act.put, List.setIfInBounds_toArray, List.set_cons_zero, List.set_cons_succ]
        refine wpAnyH_take (i := 2) (oi := { dst := some 105, op := Op.binOp BinOp.gtr 3 (Operand.tmp 104) (Operand.const (Value.int IntKind.i64 0)) 3, type := 4, pos := "outright.go:81", after := #[{ on := 1, ground := Ground.data }], guard := none }) (v := ?_) rfl (by kernel_rfl) (by kernel_rfl) (by kernel_rfl) (fun _ _ _ h => h) (Or.inl ⟨by rfl, ?_⟩) (by assumption) ?_
        rotate_left
        · (intro w hSw; (try dsimp only at hSw); go_simp); (first | done | with_reducible rfl)
        try simp only [Act.put, List.setIfInBounds_toArray, List.set_cons_zero, List.set_cons_succ]
        refine wpAnyH_take (i := 3) (oi := { dst := some 106, op := Op.move (Operand.tmp 11), type := 4, pos := "outright.go:81", after := #[], guard := none }) (v := ?_) rfl (by kernel_rfl) (by kernel_rfl) (by kernel_rfl) (fun _ _ _ h => h) (Or.inl ⟨by rfl, ?_⟩) (by assumption) ?_
        rotate_left
        · (intro w hSw; (try dsimp only at hSw); go_simp); (first | done | with_reducible rfl)
        try simp only [Act.put, List.setIfInBounds_toArray, List.set_cons_zero, List.set_cons_succ]
        refine wpAnyH_take (i := 4) (oi := { dst := some 107, op := Op.binOp BinOp.eql 4 (Operand.tmp 105) (Operand.tmp 106) 4, type := 4, pos := "outright.go:81", after := #[{ on := 2, ground := Ground.data }, { on := 3, ground := Ground.data }], guard := none }) (v := ?_) rfl (by kernel_rfl) (by kernel_rfl) (by kernel_rfl) (fun _ _ _ h => h) (Or.inl ⟨by rfl, ?_⟩) (by assumption) ?_
        rotate_left
        · (intro w hSw; (try dsimp only at hSw); go_simp); (first | done | with_reducible rfl)
        try simp only [Act.put, List.setIfInBounds_toArray, List.set_cons_zero, List.set_cons_succ]
        refine wpAnyH_take (i := 5) (oi := { dst := some 108, op := Op.move (Operand.tmp 107), type := 4, pos := "outright.go:81", after := #[{ on := 4, ground := Ground.data }], guard := none }) (v := ?_) rfl (by kernel_rfl) (by kernel_rfl) (by kernel_rfl) (fun _ _ _ h => h) (Or.inl ⟨by rfl, ?_⟩) (by assumption) ?_
        rotate_left
        · (intro w hSw; (try dsimp only at hSw); go_simp); (first | done | with_reducible rfl)
        try simp only [Act.put, List.setIfInBounds_toArray, List.set_cons_zero, List.set_cons_succ]
        refine wpAnyH_take (i := 6) (oi := { dst := some 109, op := Op.move (Operand.tmp 11), type := 4, pos := "outright.go:81", after := #[{ on := 5, ground := Ground.guard }], guard := some (5, true) }) (v := ?_) rfl (by kernel_rfl) (by kernel_rfl) (by kernel_rfl) (fun _ _ _ h => h) (Or.inl ⟨by rfl, ?_⟩) (by assumption) ?_
        rotate_left
        · (intro w hSw; (try dsimp only at hSw); go_simp); (first | done | with_reducible rfl)
        try simp only [Act.put, List.setIfInBounds_toArray, List.set_cons_zero, List.set_cons_succ]
        refine wpAnyH_take (i := 7) (oi := { dst := some 110, op := Op.unOp UnOp.not 4 (Operand.tmp 109), type := 4, pos := "outright.go:81", after := #[{ on := 6, ground := Ground.data }, { on := 5, ground := Ground.guard }], guard := some (5, true) }) (v := ?_) rfl (by kernel_rfl) (by kernel_rfl) (by kernel_rfl) (fun _ _ _ h => h) (Or.inl ⟨by rfl, ?_⟩) (by assumption) ?_
        rotate_left
        · (intro w hSw; (try dsimp only at hSw); go_simp); (first | done | with_reducible rfl)
        try simp only [Act.put, List.setIfInBounds_toArray, List.set_cons_zero, List.set_cons_succ]
        refine wpAnyH_take (i := 8) (oi := { dst := some 111, op := Op.move (Operand.tmp 110), type := 4, pos := "outright.go:81", after := #[{ on := 7, ground := Ground.data }, { on := 5, ground := Ground.chain }, { on := 5, ground := Ground.guard }], guard := some (5, true) }) (v := ?_) rfl (by kernel_rfl) (by kernel_rfl) (by kernel_rfl) (fun _ _ _ h => h) (Or.inl ⟨by rfl, ?_⟩) (by assumption) ?_
        rotate_left
        · (intro w hSw; (try dsimp only at hSw); go_simp); (first | done | with_reducible rfl)
        try simp only [Act.put, List.setIfInBounds_toArray, List.set_cons_zero, List.set_cons_succ]
        refine wpAnyH_take (i := 9) (oi := { dst := some 112, op := Op.move (Operand.tmp 12), type := 22, pos := "outright.go:81", after := #[{ on := 8, ground := Ground.guard }], guard := some (8, false) }) (v := undef) rfl (by kernel_rfl) (by kernel_rfl) (by kernel_rfl) (fun _ _ _ h => h) (Or.inr ⟨by rfl, rfl⟩) (by assumption) ?_
        try simp only [Act.put, List.setIfInBounds_toArray, List.set_cons_zero, List.set_cons_succ]
        refine wpAnyH_take (i := 10) (oi := { dst := some 113, op := Op.indexAddr 22 (Operand.tmp 112) (Operand.const (Value.int IntKind.i64 0)), type := 0, pos := "outright.go:81", after := #[{ on := 9, ground := Ground.data }, { on := 8, ground := Ground.guard }], guard := some (8, false) }) (v := undef) rfl (by kernel_rfl) (by kernel_rfl) (by kernel_rfl) (fun _ _ _ h => h) (Or.inr ⟨by rfl, rfl⟩) (by assumption) ?_
        try simp only [Act.put, List.setIfInBounds_toArray, List.set_cons_zero, List.set_cons_succ]
        refine wpAnyH_take (i := 11) (oi := { dst := some 114, op := Op.load 38 (Operand.tmp 113), type := 38, pos := "outright.go:81", after := #[{ on := 10, ground := Ground.data }, { on := 8, ground := Ground.guard }], guard := some (8, false) }) (v := undef) rfl (by kernel_rfl) (by kernel_rfl) (by kernel_rfl) (fun _ _ _ h => h) (Or.inr ⟨by rfl, rfl⟩) (by assumption) ?_
        try simp only [Act.put, List.setIfInBounds_toArray, List.set_cons_zero, List.set_cons_succ]
        refine wpAnyH_take (i := 12) (oi := { dst := some 115, op := Op.load 38 (Operand.tmp 10), type := 38, pos := "outright.go:81", after := #[{ on := 8, ground := Ground.guard }], guard := some (8, false) }) (v := undef) rfl (by kernel_rfl) (by kernel_rfl) (by kernel_rfl) (fun _ _ _ h => h) (Or.inr ⟨by rfl, rfl⟩) (by assumption) ?_
        try simp only [Act.put, List.setIfInBounds_toArray, List.set_cons_zero, List.set_cons_succ]
        refine wpAnyH_take (i := 13) (oi := { dst := some 116, op := Op.binOp BinOp.eql 38 (Operand.tmp 114) (Operand.tmp 115) 38, type := 4, pos := "outright.go:81", after := #[{ on := 11, ground := Ground.data }, { on := 12, ground := Ground.data }, { on := 8, ground := Ground.guard }], guard := some (8, false) }) (v := undef) rfl (by kernel_rfl) (by kernel_rfl) (by kernel_rfl) (fun _ _ _ h => h) (Or.inr ⟨by rfl, rfl⟩) (by assumption) ?_
        try simp only [Act.put, List.setIfInBounds_toArray, List.set_cons_zero, List.set_cons_succ]
        refine wpAnyH_take (i := 14) (oi := { dst := some 117, op := Op.move (Operand.tmp 116), type := 4, pos := "outright.go:81", after := #[{ on := 13, ground := Ground.data }, { on := 8, ground := Ground.chain }, { on := 8, ground := Ground.guard }], guard := some (8, false) }) (v := undef) rfl (by kernel_rfl) (by kernel_rfl) (by kernel_rfl) (fun _ _ _ h => h) (Or.inr ⟨by rfl, rfl⟩) (by assumption) ?_
        try simp only [Act.put, List.setIfInBounds_toArray, List.set_cons_zero, List.set_cons_succ]
        refine wpAnyH_take (i := 15) (oi := { dst := some 118, op := Op.fieldAddr 38 (Operand.tmp 10) 0, type := 0, pos := "outright.go:81", after := #[{ on := 14, ground := Ground.guard }], guard := some (14, true) }) (v := undef) rfl (by kernel_rfl) (by kernel_rfl) (by kernel_rfl) (fun _ _ _ h => h) (Or.inr ⟨by rfl, rfl⟩) (by assumption) ?_
        try simp only [Act.put, List.setIfInBounds_toArray, List.set_cons_zero, List.set_cons_succ]
        refine wpAnyH_take (i := 16) (oi := { dst := some 119, op := Op.load 9 (Operand.tmp 118), type := 9, pos := "outright.go:81", after := #[{ on := 15, ground := Ground.data }, { on := 14, ground := Ground.guard }], guard := some (14, true) }) (v := undef) rfl (by kernel_rfl) (by kernel_rfl) (by kernel_rfl) (fun _ _ _ h => h) (Or.inr ⟨by rfl, rfl⟩) (by assumption) ?_
        try simp only [Act.put, List.setIfInBounds_toArray, List.set_cons_zero, List.set_cons_succ]
        refine wpAnyH_take (i := 17) (oi := { dst := some 120, op := Op.move (Operand.tmp 7), type := 9, pos := "outright.go:81", after := #[{ on := 14, ground := Ground.guard }], guard := some (14, true) }) (v := undef) rfl (by kernel_rfl) (by kernel_rfl) (by kernel_rfl) (fun _ _ _ h => h) (Or.inr ⟨by rfl, rfl⟩) (by assumption) ?_
        try simp only [Act.put, List.setIfInBounds_toArray, List.set_cons_zero, List.set_cons_succ]
        refine wpAnyH_take (i := 18) (oi := { dst := some 121, op := Op.binOp BinOp.eql 9 (Operand.tmp 119) (Operand.tmp 120) 9, type := 4, pos := "outright.go:81", after := #[{ on := 16, ground := Ground.data }, { on := 17, ground := Ground.data }, { on := 14, ground := Ground.guard }], guard := some (14, true) }) (v := undef) rfl (by kernel_rfl) (by kernel_rfl) (by kernel_rfl) (fun _ _ _ h => h) (Or.inr ⟨by rfl, rfl⟩) (by assumption) ?_
        try simp only [Act.put, List.setIfInBounds_toArray, List.set_cons_zero, List.set_cons_succ]
        refine wpAnyH_take (i := 19) (oi := { dst := some 122, op := Op.pick (Operand.tmp 117) (Operand.tmp 121) (Operand.const (Value.bool false)), type := 4, pos := "outright.go:81", after := #[{ on := 14, ground := Ground.data }, { on := 18, ground := Ground.data }, { on := 8, ground := Ground.guard }], guard := some (8, false) }) (v := undef) rfl (by kernel_rfl) (by kernel_rfl) (by kernel_rfl) (fun _ _ _ h => h) (Or.inr ⟨by rfl, rfl⟩) (by assumption) ?_
        try simp only [Act.put, List.setIfInBounds_toArray, List.set_cons_zero, List.set_cons_succ]
        refine wpAnyH_take (i := 20) (oi := { dst := some 123, op := Op.pick (Operand.tmp 111) (Operand.const (Value.bool true)) (Operand.tmp 122), type := 4, pos := "outright.go:81", after := #[{ on := 8, ground := Ground.data }, { on := 19, ground := Ground.data }, { on := 5, ground := Ground.guard }], guard := some (5, true) }) (v := ?_) rfl (by kernel_rfl) (by kernel_rfl) (by kernel_rfl) (fun _ _ _ h => h) (Or.inl ⟨by rfl, ?_⟩) (by assumption) ?_
        rotate_left
        · (intro w hSw; (try dsimp only at hSw); go_simp); (first | done | with_reducible rfl)
        try simp only [Act.put, List.setIfInBounds_toArray, List.set_cons_zero, List.set_cons_succ]
        refine wpAnyH_take (i := 21) (oi := { dst := some 124, op := Op.pick (Operand.tmp 108) (Operand.tmp 123) (Operand.const (Value.bool false)), type := 4, pos := "outright.go:81", after := #[{ on := 5, ground := Ground.data }, { on := 20, ground := Ground.data }], guard := none }) (v := ?_) rfl (by kernel_rfl) (by kernel_rfl) (by kernel_rfl) (fun _ _ _ h => h) (Or.inl ⟨by rfl, ?_⟩) (by assumption) ?_
        rotate_left
        · (intro w hSw; (try dsimp only at hSw); go_simp); (first | done | with_reducible rfl)
        try simp only [Act.put, List.setIfInBounds_toArray, List.set_cons_zero, List.set_cons_succ]
        refine wpAnyH_take (i := 22) (oi := { dst := some 125, op := Op.move (Operand.tmp 124), type := 4, pos := "outright.go:81", after := #[{ on := 21, ground := Ground.data }, { on := 14, ground := Ground.chain }], guard := none }) (v := ?_) rfl (by kernel_rfl) (by kernel_rfl) (by kernel_rfl) (fun _ _ _ h => h) (Or.inl ⟨by rfl, ?_⟩) (by assumption) ?_
        rotate_left
        · (intro w hSw; (try dsimp only at hSw); go_simp); (first | done | with_reducible rfl)
        try simp only [Act.put, List.setIfInBounds_toArray, List.set_cons_zero, List.set_cons_succ]
        refine wpAnyH_take (i := 23) (oi := { dst := some 126, op := Op.move (Operand.tmp 5), type := 32, pos := "outright.go:81", after := #[{ on := 22, ground := Ground.guard }], guard := some (22, true) }) (v := ?_) rfl (by kernel_rfl) (by kernel_rfl) (by kernel_rfl) (fun _ _ _ h => h) (Or.inl ⟨by rfl, ?_⟩) (by assumption) ?_
        rotate_left
        · (intro w hSw; (try dsimp only at hSw); go_simp); (first | done | with_reducible rfl)
        try simp only [Act.put, List.setIfInBounds_toArray, List.set_cons_zero, List.set_cons_succ]
        refine wpAnyH_take (i := 25) (oi := { dst := some 128, op := Op.move (Operand.tmp 0), type := 22, pos := "outright.go:81", after := #[{ on := 22, ground := Ground.guard }], guard := some (22, true) }) (v := ?_) rfl (by kernel_rfl) (by kernel_rfl) (by kernel_rfl) (fun _ _ _ h => h) (Or.inl ⟨by rfl, ?_⟩) (by assumption) ?_
        rotate_left
        · (intro w hSw; (try dsimp only at hSw); go_simp); (first | done | with_reducible rfl)
        try simp only [Act.put, List.setIfInBounds_toArray, List.set_cons_zero, List.set_cons_succ]
        refine wpAnyH_ready (rs := [24]) (by kernel_rfl) (by simp) ?_
        refine AllReadyH.cons (o := { dst := some 127, op := Op.call { callee := Callee.value (Operand.func 33), args := #[Operand.tmp 126], argTypes := #[32] }, type := 22, pos := "outright.go:81", after := #[{ on := 23, ground := Ground.data }, { on := 22, ground := Ground.chain }, { on := 22, ground := Ground.guard }], guard := some (22, true) }) rfl (fun K hK => ?_) AllReadyH.nil
        go_simp
        go_at_call 33
        with_reducible refine (CAl.out _ HE.out.t).mono ?_
        rintro e w13 ⟨a13, c13, rfl, hc13, hb13⟩
        replace HE := Lib.hid (HE.out.below hb13)
        replace HY := Lib.hid (HY.out.below hb13)
        have HM := Lib.hid hc13
        clear hb13 hc13
        go_wp2_with fail
        refine hK.out _ _ ?_ (fun hHeld => ?_)
        · exact ⟨HY.out.cell 0, HY.out.cell 1, HY.out.cell 2⟩
        clear hK K
        try simp only [Act.put, List.setIfInBounds_toArray, List.set_cons_zero, List.set_cons_succ]
        refine wpAnyH_ready (rs := [26]) (by kernel_rfl) (by simp) ?_
        refine AllReadyH.cons (o := { dst := some 129, op := Op.call { callee := Callee.value (Operand.func 35), args := #[Operand.tmp 127, Operand.tmp 128], argTypes := #[22, 22] }, type := 4, pos := "outright.go:81", after := #[{ on := 24, ground := Ground.data }, { on := 25, ground := Ground.data }, { on := 24, ground := Ground.chain }, { on := 22, ground := Ground.guard }], guard := some (22, true) }) rfl (fun K hK => ?_) AllReadyH.nil
        go_simp
        go_at_call 35
        with_reducible refine (CS.out _ _ _ _ _ _ _ _ HM.out HE.out.c rfl rfl (by omega)).mono ?_
        rintro e w14 ⟨rfl, hb14⟩
        replace HE := Lib.hid (HE.out.below hb14)
        replace HY := Lib.hid (HY.out.below hb14)
        clear hb14
        go_wp2_with fail
        refine hK.out _ _ ?_ (fun hHeld => ?_)
        · exact ⟨HY.out.cell 0, HY.out.cell 1, HY.out.cell 2⟩
        clear hK K
        try simp only [Act.put, List.setIfInBounds_toArray, List.set_cons_zero, List.set_cons_succ]
        refine wpAnyH_take (i := 27) (oi := { dst := some 130, op := Op.pick (Operand.tmp 125) (Operand.tmp 129) (Operand.const (Value.bool false)), type := 4, pos := "outright.go:81", after := #[{ on := 22, ground := Ground.data }, { on := 26, ground := Ground.data }], guard := none }) (v := ?_) rfl (by kernel_rfl) (by kernel_rfl) (by kernel_rfl) (fun _ _ _ h => h) (Or.inl ⟨by rfl, ?_⟩) (by assumption) ?_
        rotate_left
        · (intro w hSw; (try dsimp only at hSw); go_simp); (first | done | with_reducible rfl)
        try simp only [Act.put, List.setIfInBounds_toArray, List.set_cons_zero, List.set_cons_succ]
        refine wpAnyH_take (i := 28) (oi := { dst := some 131, op := Op.move (Operand.tmp 130), type := 4, pos := "outright.go:81", after := #[{ on := 27, ground := Ground.data }, { on := 26, ground := Ground.chain }], guard := none }) (v := ?_) rfl (by kernel_rfl) (by kernel_rfl) (by kernel_rfl) (fun _ _ _ h => h) (Or.inl ⟨by rfl, ?_⟩) (by assumption) ?_
        rotate_left
        · (intro w hSw; (try dsimp only at hSw); go_simp); (first | done | with_reducible rfl)
        try simp only [Act.put, List.setIfInBounds_toArray, List.set_cons_zero, List.set_cons_succ]
        refine wpAnyH_ready (rs := [29]) (by kernel_rfl) (by simp) ?_
        refine AllReadyH.cons (o := { dst := some 132, op := Op.call { callee := Callee.value (Operand.func 27), args := #[], argTypes := #[] }, type := 4, pos := "outright.go:81", after := #[{ on := 28, ground := Ground.chain }, { on := 28, ground := Ground.guard }], guard := some (28, true) }) rfl (fun K hK => ?_) AllReadyH.nil
        go_simp
        go_at_call 27
        with_reducible refine (CD.out _).mono ?_
        rintro e w15 ⟨rfl, hb15⟩
        replace HE := Lib.hid (HE.out.below hb15)
        replace HY := Lib.hid (HY.out.below hb15)
        clear hb15
        go_wp2_with fail
        refine hK.out _ _ ?_ (fun hHeld => ?_)
        · exact ⟨HY.out.cell 0, HY.out.cell 1, HY.out.cell 2⟩
        clear hK K
        try simp only [Act.put, List.setIfInBounds_toArray, List.set_cons_zero, List.set_cons_succ]
        refine wpAnyH_take (i := 30) (oi := { dst := some 133, op := Op.pick (Operand.tmp 131) (Operand.tmp 132) (Operand.const (Value.bool false)), type := 4, pos := "outright.go:81", after := #[{ on := 28, ground := Ground.data }, { on := 29, ground := Ground.data }], guard := none }) (v := ?_) rfl (by kernel_rfl) (by kernel_rfl) (by kernel_rfl) (fun _ _ _ h => h) (Or.inl ⟨by rfl, ?_⟩) (by assumption) ?_
        rotate_left
        · (intro w hSw; (try dsimp only at hSw); go_simp); (first | done | with_reducible rfl)
        try simp only [Act.put, List.setIfInBounds_toArray, List.set_cons_zero, List.set_cons_succ]
        refine wpAnyH_take (i := 31) (oi := { dst := some 4, op := Op.assign (Operand.tmp 133), type := 4, pos := "outright.go:81", after := #[{ on := 30, ground := Ground.data }, { on := 29, ground := Ground.chain }, { on := 0, ground := Ground.phase }, { on := 1, ground := Ground.phase }, { on := 2, ground := Ground.phase }, { on := 3, ground := Ground.phase }, { on := 4, ground := Ground.phase }, { on := 5, ground := Ground.phase }, { on := 6, ground := Ground.phase }, { on := 7, ground := Ground.phase }, { on := 8, ground := Ground.phase }, { on := 9, ground := Ground.phase }, { on := 10, ground := Ground.phase }, { on := 11, ground := Ground.phase }, { on := 12, ground := Ground.phase }, { on := 13, ground := Ground.phase }, { on := 14, ground := Ground.phase }, { on := 15, ground := Ground.phase }, { on := 16, ground := Ground.phase }, { on := 17, ground := Ground.phase }, { on := 18, ground := Ground.phase }, { on := 19, ground := Ground.phase }, { on := 20, ground := Ground.phase }, { on := 21, ground := Ground.phase }, { on := 22, ground := Ground.phase }, { on := 23, ground := Ground.phase }, { on := 24, ground := Ground.phase }, { on := 25, ground := Ground.phase }, { on := 26, ground := Ground.phase }, { on := 27, ground := Ground.phase }, { on := 28, ground := Ground.phase }, { on := 29, ground := Ground.phase }, { on := 30, ground := Ground.phase }], guard := none }) (v := ?_) rfl (by kernel_rfl) (by kernel_rfl) (by kernel_rfl) (fun _ _ _ h => h) (Or.inl ⟨by rfl, ?_⟩) (by assumption) ?_
        rotate_left
        · (intro w hSw; (try dsimp only at hSw); go_simp); (first | done | with_reducible rfl)
        refine wpAnyH_done (by kernel_rfl) ?_ _
        go_wp2_with fail
        go_ret
        exact ⟨rfl, HE.out.b⟩
      | cons cc K =>
        obtain rfl : is = true := HIS.out
        obtain rfl : cf = cc := HCF.out
        have hkx := HKY.out cf K rfl
        obtain ⟨g12, o12, rfl, hc12⟩ := HK.out (by simp)
        have HC := Lib.hid (show ClOff cf w12 g12 o12 from by have := hc12 0 (by simp); rwa [Nat.zero_mul, Nat.add_zero] at this)
        obtain ⟨ck, cs, cv⟩ := cf
        obtain rfl : ck = x := hkx
        clear HIS HCF HKY HK hc12
        refine wp_region_held_drew (S := fun V => V.cell? ⟨b11, 0, none⟩ = some (.string (S ck)) ∧ V.cell? ⟨b11, 1, none⟩ = some (.int .i64 cs) ∧ V.cell? ⟨b11, 2, none⟩ = some (.string (S cv)) ∧ V.cell? ⟨g12, o12, none⟩ = some (.string (S ck)) ∧ V.cell? ⟨g12, o12 + 1, none⟩ = some (.int .i64 cs) ∧ V.cell? ⟨g12, o12 + 2, none⟩ = some (.string (S cv))) (by kernel_rfl) ?_ (fun hHeld => ?_)
        · exact ⟨HY.out.cell 0, HY.out.cell 1, HY.out.cell 2, HC.out.1, HC.out.2.1, HC.out.2.2⟩
        replace HE := Lib.hid HE.out.drew
        replace HY := Lib.hid (show RowIn (clA ⟨ck, cs, cv⟩) 38 (World.drew w12) b11 from HY.out)
        replace HC := Lib.hid (show ClOff ⟨ck, cs, cv⟩ (World.drew w12) g12 o12 from HC.out)
        refine wpAnyH_take (i := 0) (oi := { dst := some 103, op := Op.move (Operand.tmp 12), type := 22, pos := "outright.go:81", after := #[], guard := none }) (v := ?_) rfl (by kernel_rfl) (by kernel_rfl) (by kernel_rfl) (fun _ _ _ h => h) (Or.inl ⟨by rfl, ?_⟩) (by assumption) ?_
        rotate_left
        · (intro w hSw; (try dsimp only at hSw); go_simp); (first | done | with_reducible rfl)
        try simp only [Act.put, List.setIfInBounds_toArray, List.set_cons_zero, List.set_cons_succ]
        refine wpAnyH_take (i := 1) (oi := { dst := some 104, op := Op.call { callee := Callee.builtin Builtin.len, args := #[Operand.tmp 103], argTypes := #[22] }, type := 3, pos := "outright.go:81", after := #[{ on := 0, ground := Ground.data }], guard := none }) (v := ?_) rfl (by kernel_rfl) (by kernel_rfl) (by kernel_rfl) (fun _ _ _ h => h) (Or.inl ⟨by rfl, ?_⟩) (by assumption) ?_
        rotate_left
        · (intro w hSw; (try dsimp only at hSw); go_simp); (first | done | with_reducible rfl)
        try simp only [Act.put, List.setIfInBounds_toArray, List.set_cons_zero, List.set_cons_succ]
        refine wpAnyH_take (i := 2) (oi := { dst := some 105, op := Op.binOp BinOp.gtr 3 (Operand.tmp 104) (Operand.const (Value.int IntKind.i64 0)) 3, type := 4, pos := "outright.go:81", after := #[{ on := 1, ground := Ground.data }], guard := none }) (v := ?_) rfl (by kernel_rfl) (by kernel_rfl) (by kernel_rfl) (fun _ _ _ h => h) (Or.inl ⟨by rfl, ?_⟩) (by assumption) ?_
        rotate_left
        · (intro w hSw; (try dsimp only at hSw); go_simp); (first | done | with_reducible rfl)
        try simp only [Act.put, List.setIfInBounds_toArray, List.set_cons_zero, List.set_cons_succ]
        refine wpAnyH_take (i := 3) (oi := { dst := some 106, op := Op.move (Operand.tmp 11), type := 4, pos := "outright.go:81", after := #[], guard := none }) (v := ?_) rfl (by kernel_rfl) (by kernel_rfl) (by kernel_rfl) (fun _ _ _ h => h) (Or.inl ⟨by rfl, ?_⟩) (by assumption) ?_
        rotate_left
        · (intro w hSw; (try dsimp only at hSw); go_simp); (first | done | with_reducible rfl)
        try simp only [Act.put, List.setIfInBounds_toArray, List.set_cons_zero, List.set_cons_succ]
        refine wpAnyH_take (i := 4) (oi := { dst := some 107, op := Op.binOp BinOp.eql 4 (Operand.tmp 105) (Operand.tmp 106) 4, type := 4, pos := "outright.go:81", after := #[{ on := 2, ground := Ground.data }, { on := 3, ground := Ground.data }], guard := none }) (v := ?_) rfl (by kernel_rfl) (by kernel_rfl) (by kernel_rfl) (fun _ _ _ h => h) (Or.inl ⟨by rfl, ?_⟩) (by assumption) ?_
        rotate_left
        · (intro w hSw; (try dsimp only at hSw); go_simp); (first | done | with_reducible rfl)
        try simp only [Act.put, List.setIfInBounds_toArray, List.set_cons_zero, List.set_cons_succ]
        refine wpAnyH_take (i := 5) (oi := { dst := some 108, op := Op.move (Operand.tmp 107), type := 4, pos := "outright.go:81", after := #[{ on := 4, ground := Ground.data }], guard := none }) (v := ?_) rfl (by kernel_rfl) (by kernel_rfl) (by kernel_rfl) (fun _ _ _ h => h) (Or.inl ⟨by rfl, ?_⟩) (by assumption) ?_
        rotate_left
        · (intro w hSw; (try dsimp only at hSw); go_simp); (first | done | with_reducible rfl)
        try simp only [Act.put, List.setIfInBounds_toArray, List.set_cons_zero, List.set_cons_succ]
        refine wpAnyH_take (i := 6) (oi := { dst := some 109, op := Op.move (Operand.tmp 11), type := 4, pos := "outright.go:81", after := #[{ on := 5, ground := Ground.guard }], guard := some (5, true) }) (v := ?_) rfl (by kernel_rfl) (by kernel_rfl) (by kernel_rfl) (fun _ _ _ h => h) (Or.inl ⟨by rfl, ?_⟩) (by assumption) ?_
        rotate_left
        · (intro w hSw; (try dsimp only at hSw); go_simp); (first | done | with_reducible rfl)
        try simp only [Act.put, List.setIfInBounds_toArray, List.set_cons_zero, List.set_cons_succ]
        refine wpAnyH_take (i := 7) (oi := { dst := some 110, op := Op.unOp UnOp.not 4 (Operand.tmp 109), type := 4, pos := "outright.go:81", after := #[{ on := 6, ground := Ground.data }, { on := 5, ground := Ground.guard }], guard := some (5, true) }) (v := ?_) rfl (by kernel_rfl) (by kernel_rfl) (by kernel_rfl) (fun _ _ _ h => h) (Or.inl ⟨by rfl, ?_⟩) (by assumption) ?_
        rotate_left
        · (intro w hSw; (try dsimp only at hSw); go_simp); (first | done | with_reducible rfl)
        try simp only [Act.put, List.setIfInBounds_toArray, List.set_cons_zero, List.set_cons_succ]
        refine wpAnyH_take (i := 8) (oi := { dst := some 111, op := Op.move (Operand.tmp 110), type := 4, pos := "outright.go:81", after := #[{ on := 7, ground := Ground.data }, { on := 5, ground := Ground.chain }, { on := 5, ground := Ground.guard }], guard := some (5, true) }) (v := ?_) rfl (by kernel_rfl) (by kernel_rfl) (by kernel_rfl) (fun _ _ _ h => h) (Or.inl ⟨by rfl, ?_⟩) (by assumption) ?_
        rotate_left
        · (intro w hSw; (try dsimp only at hSw); go_simp); (first | done | with_reducible rfl)
        try simp only [Act.put, List.setIfInBounds_toArray, List.set_cons_zero, List.set_cons_succ]
        refine wpAnyH_take (i := 9) (oi := { dst := some 112, op := Op.move (Operand.tmp 12), type := 22, pos := "outright.go:81", after := #[{ on := 8, ground := Ground.guard }], guard := some (8, false) }) (v := ?_) rfl (by kernel_rfl) (by kernel_rfl) (by kernel_rfl) (fun _ _ _ h => h) (Or.inl ⟨by rfl, ?_⟩) (by assumption) ?_
        rotate_left
        · (intro w hSw; (try dsimp only at hSw); go_simp); (first | done | with_reducible rfl)
        try simp only [Act.put, List.setIfInBounds_toArray, List.set_cons_zero, List.set_cons_succ]
        refine wpAnyH_take (i := 10) (oi := { dst := some 113, op := Op.indexAddr 22 (Operand.tmp 112) (Operand.const (Value.int IntKind.i64 0)), type := 0, pos := "outright.go:81", after := #[{ on := 9, ground := Ground.data }, { on := 8, ground := Ground.guard }], guard := some (8, false) }) (v := ?_) rfl (by kernel_rfl) (by kernel_rfl) (by kernel_rfl) (fun _ _ _ h => h) (Or.inl ⟨by rfl, ?_⟩) (by assumption) ?_
        rotate_left
        · (intro w hSw; (try dsimp only at hSw); go_simp); (first | done | with_reducible rfl)
        try simp only [Act.put, List.setIfInBounds_toArray, List.set_cons_zero, List.set_cons_succ]
        refine wpAnyH_take (i := 11) (oi := { dst := some 114, op := Op.load 38 (Operand.tmp 113), type := 38, pos := "outright.go:81", after := #[{ on := 10, ground := Ground.data }, { on := 8, ground := Ground.guard }], guard := some (8, false) }) (v := ?_) rfl (by kernel_rfl) (by kernel_rfl) (by kernel_rfl) (fun _ _ _ h => h) (Or.inl ⟨by rfl, ?_⟩) (by assumption) ?_
        rotate_left
        · (intro w hSw; (try dsimp only at hSw); go_simp); (first | done | with_reducible rfl)
        try simp only [Act.put, List.setIfInBounds_toArray, List.set_cons_zero, List.set_cons_succ]
        refine wpAnyH_take (i := 12) (oi := { dst := some 115, op := Op.load 38 (Operand.tmp 10), type := 38, pos := "outright.go:81", after := #[{ on := 8, ground := Ground.guard }], guard := some (8, false) }) (v := ?_) rfl (by kernel_rfl) (by kernel_rfl) (by kernel_rfl) (fun _ _ _ h => h) (Or.inl ⟨by rfl, ?_⟩) (by assumption) ?_
        rotate_left
        · (intro w hSw; (try dsimp only at hSw); go_simp); (first | done | with_reducible rfl)
        try simp only [Act.put, List.setIfInBounds_toArray, List.set_cons_zero, List.set_cons_succ]
        refine wpAnyH_take (i := 13) (oi := { dst := some 116, op := Op.binOp BinOp.eql 38 (Operand.tmp 114) (Operand.tmp 115) 38, type := 4, pos := "outright.go:81", after := #[{ on := 11, ground := Ground.data }, { on := 12, ground := Ground.data }, { on := 8, ground := Ground.guard }], guard := some (8, false) }) (v := ?_) rfl (by kernel_rfl) (by kernel_rfl) (by kernel_rfl) (fun _ _ _ h => h) (Or.inl ⟨by rfl, ?_⟩) (by assumption) ?_
        rotate_left
        · (intro w hSw; (try dsimp only at hSw); go_simp); (first | done | with_reducible rfl)
        try simp only [Act.put, List.setIfInBounds_toArray, List.set_cons_zero, List.set_cons_succ]
        refine wpAnyH_take (i := 14) (oi := { dst := some 117, op := Op.move (Operand.tmp 116), type := 4, pos := "outright.go:81", after := #[{ on := 13, ground := Ground.data }, { on := 8, ground := Ground.chain }, { on := 8, ground := Ground.guard }], guard := some (8, false) }) (v := ?_) rfl (by kernel_rfl) (by kernel_rfl) (by kernel_rfl) (fun _ _ _ h => h) (Or.inl ⟨by rfl, ?_⟩) (by assumption) ?_
        rotate_left
        · (intro w hSw; (try dsimp only at hSw); go_simp); (first | done | with_reducible rfl)
        try simp only [Act.put, List.setIfInBounds_toArray, List.set_cons_zero, List.set_cons_succ]
        refine wpAnyH_take (i := 15) (oi := { dst := some 118, op := Op.fieldAddr 38 (Operand.tmp 10) 0, type := 0, pos := "outright.go:81", after := #[{ on := 14, ground := Ground.guard }], guard := some (14, true) }) (v := ?_) rfl (by kernel_rfl) (by kernel_rfl) (by kernel_rfl) (fun _ _ _ h => h) (Or.inl ⟨by rfl, ?_⟩) (by assumption) ?_
        rotate_left
        · (intro w hSw; (try dsimp only at hSw); go_simp); (first | done | with_reducible rfl)
        try simp only [Act.put, List.setIfInBounds_toArray, List.set_cons_zero, List.set_cons_succ]
        refine wpAnyH_take (i := 16) (oi := { dst := some 119, op := Op.load 9 (Operand.tmp 118), type := 9, pos := "outright.go:81", after := #[{ on := 15, ground := Ground.data }, { on := 14, ground := Ground.guard }], guard := some (14, true) }) (v := ?_) rfl (by kernel_rfl) (by kernel_rfl) (by kernel_rfl) (fun _ _ _ h => h) (Or.inl ⟨by rfl, ?_⟩) (by assumption) ?_
        rotate_left
        · (intro w hSw; (try dsimp only at hSw); go_simp); (first | done | with_reducible rfl)
        try simp only [Act.put, List.setIfInBounds_toArray, List.set_cons_zero, List.set_cons_succ]
        refine wpAnyH_take (i := 17) (oi := { dst := some 120, op := Op.move (Operand.tmp 7), type := 9, pos := "outright.go:81", after := #[{ on := 14, ground := Ground.guard }], guard := some (14, true) }) (v := ?_) rfl (by kernel_rfl) (by kernel_rfl) (by kernel_rfl) (fun _ _ _ h => h) (Or.inl ⟨by rfl, ?_⟩) (by assumption) ?_
        rotate_left
        · (intro w hSw; (try dsimp only at hSw); go_simp); (first | done | with_reducible rfl)
        try simp only [Act.put, List.setIfInBounds_toArray, List.set_cons_zero, List.set_cons_succ]
        refine wpAnyH_take (i := 18) (oi := { dst := some 121, op := Op.binOp BinOp.eql 9 (Operand.tmp 119) (Operand.tmp 120) 9, type := 4, pos := "outright.go:81", after := #[{ on := 16, ground := Ground.data }, { on := 17, ground := Ground.data }, { on := 14, ground := Ground.guard }], guard := some (14, true) }) (v := ?_) rfl (by kernel_rfl) (by kernel_rfl) (by kernel_rfl) (fun _ _ _ h => h) (Or.inl ⟨by rfl, ?_⟩) (by assumption) ?_
        rotate_left
        · (intro w hSw; (try dsimp only at hSw); go_simp); (first | done | with_reducible rfl)
        try simp only [Act.put, List.setIfInBounds_toArray, List.set_cons_zero, List.set_cons_succ]
        refine wpAnyH_take (i := 19) (oi := { dst := some 122, op := Op.pick (Operand.tmp 117) (Operand.tmp 121) (Operand.const (Value.bool false)), type := 4, pos := "outright.go:81", after := #[{ on := 14, ground := Ground.data }, { on := 18, ground := Ground.data }, { on := 8, ground := Ground.guard }], guard := some (8, false) }) (v := ?_) rfl (by kernel_rfl) (by kernel_rfl) (by kernel_rfl) (fun _ _ _ h => h) (Or.inl ⟨by rfl, ?_⟩) (by assumption) ?_
        rotate_left
        · (intro w hSw; (try dsimp only at hSw); go_simp); (first | done | with_reducible rfl)
        try simp only [Act.put, List.setIfInBounds_toArray, List.set_cons_zero, List.set_cons_succ]
        refine wpAnyH_take (i := 20) (oi := { dst := some 123, op := Op.pick (Operand.tmp 111) (Operand.const (Value.bool true)) (Operand.tmp 122), type := 4, pos := "outright.go:81", after := #[{ on := 8, ground := Ground.data }, { on := 19, ground := Ground.data }, { on := 5, ground := Ground.guard }], guard := some (5, true) }) (v := ?_) rfl (by kernel_rfl) (by kernel_rfl) (by kernel_rfl) (fun _ _ _ h => h) (Or.inl ⟨by rfl, ?_⟩) (by assumption) ?_
        rotate_left
        · (intro w hSw; (try dsimp only at hSw); go_simp); (first | done | with_reducible rfl)
        try simp only [Act.put, List.setIfInBounds_toArray, List.set_cons_zero, List.set_cons_succ]
        refine wpAnyH_take (i := 21) (oi := { dst := some 124, op := Op.pick (Operand.tmp 108) (Operand.tmp 123) (Operand.const (Value.bool false)), type := 4, pos := "outright.go:81", after := #[{ on := 5, ground := Ground.data }, { on := 20, ground := Ground.data }], guard := none }) (v := ?_) rfl (by kernel_rfl) (by kernel_rfl) (by kernel_rfl) (fun _ _ _ h => h) (Or.inl ⟨by rfl, ?_⟩) (by assumption) ?_
        rotate_left
        · (intro w hSw; (try dsimp only at hSw); go_simp); (first | done | with_reducible rfl)
        try simp only [Act.put, List.setIfInBounds_toArray, List.set_cons_zero, List.set_cons_succ]
        refine wpAnyH_take (i := 22) (oi := { dst := some 125, op := Op.move (Operand.tmp 124), type := 4, pos := "outright.go:81", after := #[{ on := 21, ground := Ground.data }, { on := 14, ground := Ground.chain }], guard := none }) (v := ?_) rfl (by kernel_rfl) (by kernel_rfl) (by kernel_rfl) (fun _ _ _ h => h) (Or.inl ⟨by rfl, ?_⟩) (by assumption) ?_
        rotate_left
        · (intro w hSw; (try dsimp only at hSw); go_simp); (first | done | with_reducible rfl)
        try simp only [Act.put, List.setIfInBounds_toArray, List.set_cons_zero, List.set_cons_succ]
        refine wpAnyH_take (i := 23) (oi := { dst := some 126, op := Op.move (Operand.tmp 5), type := 32, pos := "outright.go:81", after := #[{ on := 22, ground := Ground.guard }], guard := some (22, true) }) (v := ?_) rfl (by kernel_rfl) (by kernel_rfl) (by kernel_rfl) (fun _ _ _ h => h) (Or.inl ⟨by rfl, ?_⟩) (by assumption) ?_
        rotate_left
        · (intro w hSw; (try dsimp only at hSw); go_simp); (first | done | with_reducible rfl)
        try simp only [Act.put, List.setIfInBounds_toArray, List.set_cons_zero, List.set_cons_succ]
        refine wpAnyH_take (i := 25) (oi := { dst := some 128, op := Op.move (Operand.tmp 0), type := 22, pos := "outright.go:81", after := #[{ on := 22, ground := Ground.guard }], guard := some (22, true) }) (v := ?_) rfl (by kernel_rfl) (by kernel_rfl) (by kernel_rfl) (fun _ _ _ h => h) (Or.inl ⟨by rfl, ?_⟩) (by assumption) ?_
        rotate_left
        · (intro w hSw; (try dsimp only at hSw); go_simp); (first | done | with_reducible rfl)
        try simp only [Act.put, List.setIfInBounds_toArray, List.set_cons_zero, List.set_cons_succ]
        refine wpAnyH_ready (rs := [24]) (by kernel_rfl) (by simp) ?_
        refine AllReadyH.cons (o := { dst := some 127, op := Op.call { callee := Callee.value (Operand.func 33), args := #[Operand.tmp 126], argTypes := #[32] }, type := 22, pos := "outright.go:81", after := #[{ on := 23, ground := Ground.data }, { on := 22, ground := Ground.chain }, { on := 22, ground := Ground.guard }], guard := some (22, true) }) rfl (fun K hK => ?_) AllReadyH.nil
        go_simp
        go_at_call 33
        with_reducible refine (CAl.out _ HE.out.t).mono ?_
        rintro e w13 ⟨a13, c13, rfl, hc13, hb13⟩
        replace HE := Lib.hid (HE.out.below hb13)
        replace HY := Lib.hid (HY.out.below hb13)
        replace HC := Lib.hid (HC.out.below10 hb13)
        have HM := Lib.hid hc13
        clear hb13 hc13
        go_wp2_with fail
        refine hK.out _ _ ?_ (fun hHeld => ?_)
        · exact ⟨HY.out.cell 0, HY.out.cell 1, HY.out.cell 2, HC.out.1, HC.out.2.1, HC.out.2.2⟩
        clear hK K
        try simp only [Act.put, List.setIfInBounds_toArray, List.set_cons_zero, List.set_cons_succ]
        refine wpAnyH_ready (rs := [26]) (by kernel_rfl) (by simp) ?_
        refine AllReadyH.cons (o := { dst := some 129, op := Op.call { callee := Callee.value (Operand.func 35), args := #[Operand.tmp 127, Operand.tmp 128], argTypes := #[22, 22] }, type := 4, pos := "outright.go:81", after := #[{ on := 24, ground := Ground.data }, { on := 25, ground := Ground.data }, { on := 24, ground := Ground.chain }, { on := 22, ground := Ground.guard }], guard := some (22, true) }) rfl (fun K hK => ?_) AllReadyH.nil
        go_simp
        go_at_call 35
        with_reducible refine (CS.out _ _ _ _ _ _ _ _ HM.out HE.out.c rfl rfl (by omega)).mono ?_
        rintro e w14 ⟨rfl, hb14⟩
        replace HE := Lib.hid (HE.out.below hb14)
        replace HY := Lib.hid (HY.out.below hb14)
        replace HC := Lib.hid (HC.out.below10 hb14)
        clear hb14
        go_wp2_with fail
        refine hK.out _ _ ?_ (fun hHeld => ?_)
        · exact ⟨HY.out.cell 0, HY.out.cell 1, HY.out.cell 2, HC.out.1, HC.out.2.1, HC.out.2.2⟩
        clear hK K
        try simp only [Act.put, List.setIfInBounds_toArray, List.set_cons_zero, List.set_cons_succ]
        refine wpAnyH_take (i := 27) (oi := { dst := some 130, op := Op.pick (Operand.tmp 125) (Operand.tmp 129) (Operand.const (Value.bool false)), type := 4, pos := "outright.go:81", after := #[{ on := 22, ground := Ground.data }, { on := 26, ground := Ground.data }], guard := none }) (v := ?_) rfl (by kernel_rfl) (by kernel_rfl) (by kernel_rfl) (fun _ _ _ h => h) (Or.inl ⟨by rfl, ?_⟩) (by assumption) ?_
        rotate_left
        · (intro w hSw; (try dsimp only at hSw); go_simp); (first | done | with_reducible rfl)
        try simp only [Act.put, List.setIfInBounds_toArray, List.set_cons_zero, List.set_cons_succ]
        refine wpAnyH_take (i := 28) (oi := { dst := some 131, op := Op.move (Operand.tmp 130), type := 4, pos := "outright.go:81", after := #[{ on := 27, ground := Ground.data }, { on := 26, ground := Ground.chain }], guard := none }) (v := ?_) rfl (by kernel_rfl) (by kernel_rfl) (by kernel_rfl) (fun _ _ _ h => h) (Or.inl ⟨by rfl, ?_⟩) (by assumption) ?_
        rotate_left
        · (intro w hSw; (try dsimp only at hSw); go_simp); (first | done | with_reducible rfl)
        try simp only [Act.put, List.setIfInBounds_toArray, List.set_cons_zero, List.set_cons_succ]
        refine wpAnyH_ready (rs := [29]) (by kernel_rfl) (by simp) ?_
        refine AllReadyH.cons (o := { dst := some 132, op := Op.call { callee := Callee.value (Operand.func 27), args := #[], argTypes := #[] }, type := 4, pos := "outright.go:81", after := #[{ on := 28, ground := Ground.chain }, { on := 28, ground := Ground.guard }], guard := some (28, true) }) rfl (fun K hK => ?_) AllReadyH.nil
        go_simp
        go_at_call 27
        with_reducible refine (CD.out _).mono ?_
        rintro e w15 ⟨rfl, hb15⟩
        replace HE := Lib.hid (HE.out.below hb15)
        replace HY := Lib.hid (HY.out.below hb15)
        replace HC := Lib.hid (HC.out.below10 hb15)
        clear hb15
        go_wp2_with fail
        refine hK.out _ _ ?_ (fun hHeld => ?_)
        · exact ⟨HY.out.cell 0, HY.out.cell 1, HY.out.cell 2, HC.out.1, HC.out.2.1, HC.out.2.2⟩
        clear hK K
        try simp only [Act.put, List.setIfInBounds_toArray, List.set_cons_zero, List.set_cons_succ]
        refine wpAnyH_take (i := 30) (oi := { dst := some 133, op := Op.pick (Operand.tmp 131) (Operand.tmp 132) (Operand.const (Value.bool false)), type := 4, pos := "outright.go:81", after := #[{ on := 28, ground := Ground.data }, { on := 29, ground := Ground.data }], guard := none }) (v := ?_) rfl (by kernel_rfl) (by kernel_rfl) (by kernel_rfl) (fun _ _ _ h => h) (Or.inl ⟨by rfl, ?_⟩) (by assumption) ?_
        rotate_left
        · (intro w hSw; (try dsimp only at hSw); go_simp); (first | done | with_reducible rfl)
        try simp only [Act.put, List.setIfInBounds_toArray, List.set_cons_zero, List.set_cons_succ]
        refine wpAnyH_take (i := 31) (oi := { dst := some 4, op := Op.assign (Operand.tmp 133), type := 4, pos := "outright.go:81", after := #[{ on := 30, ground := Ground.data }, { on := 29, ground := Ground.chain }, { on := 0, ground := Ground.phase }, { on := 1, ground := Ground.phase }, { on := 2, ground := Ground.phase }, { on := 3, ground := Ground.phase }, { on := 4, ground := Ground.phase }, { on := 5, ground := Ground.phase }, { on := 6, ground := Ground.phase }, { on := 7, ground := Ground.phase }, { on := 8, ground := Ground.phase }, { on := 9, ground := Ground.phase }, { on := 10, ground := Ground.phase }, { on := 11, ground := Ground.phase }, { on := 12, ground := Ground.phase }, { on := 13, ground := Ground.phase }, { on := 14, ground := Ground.phase }, { on := 15, ground := Ground.phase }, { on := 16, ground := Ground.phase }, { on := 17, ground := Ground.phase }, { on := 18, ground := Ground.phase }, { on := 19, ground := Ground.phase }, { on := 20, ground := Ground.phase }, { on := 21, ground := Ground.phase }, { on := 22, ground := Ground.phase }, { on := 23, ground := Ground.phase }, { on := 24, ground := Ground.phase }, { on := 25, ground := Ground.phase }, { on := 26, ground := Ground.phase }, { on := 27, ground := Ground.phase }, { on := 28, ground := Ground.phase }, { on := 29, ground := Ground.phase }, { on := 30, ground := Ground.phase }], guard := none }) (v := ?_) rfl (by kernel_rfl) (by kernel_rfl) (by kernel_rfl) (fun _ _ _ h => h) (Or.inl ⟨by rfl, ?_⟩) (by assumption) ?_
        rotate_left
        · (intro w hSw; (try dsimp only at hSw); go_simp); (first | done | with_reducible rfl)
        refine wpAnyH_done (by kernel_rfl) ?_ _
        go_wp2_with fail
        go_ret
        exact ⟨rfl, HE.out.b⟩
    · obtain ⟨BP, hbp⟩ : ∃ b, condP x y [] = b := ⟨_, rfl⟩
      go_upto_region 7 with (fail)
      go_cut [62] from 47 to 61 (fun c wx => c = .bool (condP x y []) ∧ wq = wx)
      case first =>
        clear hbp
        go_wp2_with fail
        all_goals
          go_meet
          case rel => exact ⟨by unfold condP; simp_all, rfl⟩
      case rest =>
      obtain ⟨rfl, rfl⟩ := hcut
      have hbf : BP = false := by rw [← hbp]; unfold condP; simp
      rw [hbp, hbf]
      clear hbf hbp
      go_upto_region 10 with (fail)
      go_cut [91] from 78 to 90 (fun c wx => c = .bool false ∧ Ep10 W L ao p wx)
      case first =>
        have HW := Lib.hid (M.range_whole HS.out (b := y) (by cases y with | nil => exact absurd rfl hy | cons _ _ => rfl))
        have HWL := Lib.hid (congrArg List.length HW.out)
        have CR0 := Lib.hid (fun V (h : TabAt L p V) => rng_from10 L p y V h HS.out (by omega) HQ.out (by omega))
        have CR9 := Lib.hid (fun V (h : TabAt L p V) => rng_to10 L p y V h HS.out (by omega) HQ.out (by omega))
        unfold RngO at CR0 CR9
        go_wp2_with fail
        with_reducible refine (CR0.out _ HE.out.t).mono ?_
        rintro e w6 ⟨a6, c6, rfl, ho6, hb6⟩
        go_wp2_with fail
        with_reducible refine (CR9.out _ (HE.out.t.below hb6)).mono ?_
        rintro e w7 ⟨a7, c7, rfl, ho7, hb7⟩
        have HO6 := Lib.hid (ownP_below ho6 hb7)
        have HC7 := Lib.hid (clsAt_own ho7 rfl)
        clear ho6 ho7
        go_wp2_with (at_builtin; refine wpList_append_cls_on (by simp [Region.wanted, yielded, hy]) _ _ 22 rfl _ i0 y0 Try.underlying22 hi0 hy0 hy1 hy2 hy3 (.slice a6 (M.rangeL [] y L).length c6) (M.rangeL [] y L).length (cls (M.rangeL [] y L)) rfl HO6.out a7 c7 (M.rangeL y [] L) rfl HC7.out ?c2 ?c3 ?_)
        case c2 => have := M.range_len [] y L; have := M.range_len y [] L; omega
        case c3 => have := (below_step hb6 hb7).size; omega
        intro v' w8 ho8 hg8 hat8
        obtain ⟨a8, c8, rfl⟩ := ownP_shape ho8
        have HB8 := Lib.hid ((below_step hb6 hb7).grown hg8 (by have := (below_step hb6 hb7).size; omega) (fun k hk => (HO6.out.lt k hk).1))
        have HC8 := Lib.hid (show ClsAt w8 a8 ((M.rangeL [] y L) ++ (M.rangeL y [] L)) from clsAt_own (by rw [cls_append]; exact ho8) (by simp))
        replace HE := Lib.hid (HE.out.below HB8.out)
        clear ho8 hg8 hat8 hb6 hb7 HO6 HC7 HB8
        go_wp2_with fail
        with_reducible refine (CS.out _ _ _ _ _ _ _ _ HC8.out (by rw [HW.out]; exact HE.out.c) (by simp) HWL.out (by have := M.range_len [] y L; have := M.range_len y [] L; simp; omega)).mono ?_
        rintro e w10 ⟨rfl, hb10⟩
        replace HE := Lib.hid (HE.out.below hb10)
        clear hb10
        go_wp2_with fail
        go_meet
        case rel => exact ⟨rfl, HE.out⟩
      case rest =>
      rename_i ws
      obtain ⟨rfl, hE⟩ := hcut
      clear HE
      have HE := Lib.hid hE
      clear hE
      go_wp2_with fail
      with_reducible refine (CGt.out _ HE.out.t).mono ?_
      rintro e w11 ⟨rfl, hb11⟩
      replace HE := Lib.hid (HE.out.below hb11)
      clear hb11
      have HY := Lib.hid (rowIn_new (clA cf) 38 w11)
      replace HE := Lib.hid (HE.out.below ((Below.refl _ _).alloc (Nat.le_refl _) (.cells (clA cf) 38)))
      go_wp2_with fail
      with_reducible refine (CRk.out _ HE.out.t).mono ?_
      rintro e w12 ⟨a12, c12, rfl, hc12, hb12⟩
      replace HE := Lib.hid (HE.out.below hb12)
      replace HY := Lib.hid (HY.out.below hb12)
      have HK := Lib.hid hc12
      clear hb12 hc12
      go_wp2_with fail
      have HKY := Lib.hid (fun (c : M.Cl) (K : List M.Cl) (h : M.rangeL x (x ++ [0]) L = c :: K) => M.head_key h)
      generalize M.rangeL x (x ++ [0]) L = K at *
      generalize w11.heap.size = b11 at *
      cases K with
      | nil =>
        obtain rfl : is = false := HIS.out
        clear HIS HCF HKY HK
        refine wp_region_held_drew (S := fun V => V.cell? ⟨b11, 0, none⟩ = some (.string (S cf.key)) ∧ V.cell? ⟨b11, 1, none⟩ = some (.int .i64 cf.seq) ∧ V.cell? ⟨b11, 2, none⟩ = some (.string (S cf.val))) (by kernel_rfl) ?_ (fun hHeld => ?_)
        · exact ⟨HY.out.cell 0, HY.out.cell 1, HY.out.cell 2⟩
        replace HE := Lib.hid HE.out.drew
        replace HY := Lib.hid (show RowIn (clA cf) 38 (World.drew w12) b11 from HY.out)
        refine wpAnyH_take (i := 0) (oi := { dst := some 103, op := Op.move (Operand.tmp 12), type := 22, pos := "outright.go:81", after := #[], guard := none }) (v := ?_) rfl (by kernel_rfl) (by kernel_rfl) (by kernel_rfl) (fun _ _ _ h => h) (Or.inl ⟨by rfl, ?_⟩) (by assumption) ?_
        rotate_left
        · (intro w hSw; (try dsimp only at hSw); go_simp); (first | done | with_reducible rfl)
        try simp only [Act.put, List.setIfInBounds_toArray, List.set_cons_zero, List.set_cons_succ]
        refine wpAnyH_take (i := 1) (oi := { dst := some 104, op := Op.call { callee := Callee.builtin Builtin.len, args := #[Operand.tmp 103], argTypes := #[22] }, type := 3, pos := "outright.go:81", after := #[{ on := 0, ground := Ground.data }], guard := none }) (v := ?_) rfl (by kernel_rfl) (by kernel_rfl) (by kernel_rfl) (fun _ _ _ h => h) (Or.inl ⟨by rfl, ?_⟩) (by assumption) ?_
        rotate_left
        · (intro w hSw; (try dsimp only at hSw); go_simp); (first | done | with_reducible rfl)
        try simp only [Act.put, List.setIfInBounds_toArray, List.set_cons_zero, List.set_cons_succ]
        refine wpAnyH_take (i := 2) (oi := { dst := some 105, op := Op.binOp BinOp.gtr 3 (Operand.tmp 104) (Operand.const (Value.int IntKind.i64 0)) 3, type := 4, pos := "outright.go:81", after := #[{ on := 1, ground := Ground.data }], guard := none }) (v := ?_) rfl (by kernel_rfl) (by kernel_rfl) (by kernel_rfl) (fun _ _ _ h => h) (Or.inl ⟨by rfl, ?_⟩) (by assumption) ?_
        rotate_left
        · (intro w hSw; (try dsimp only at hSw); go_simp); (first | done | with_reducible rfl)
        try simp only [Act.put, List.setIfInBounds_toArray, List.set_cons_zero, List.set_cons_succ]
        refine wpAnyH_take (i := 3) (oi := { dst := some 106, op := Op.move (Operand.tmp 11), type := 4, pos := "outright.go:81", after := #[], guard := none }) (v := ?_) rfl (by kernel_rfl) (by kernel_rfl) (by kernel_rfl) (fun _ _ _ h => h) (Or.inl ⟨by rfl, ?_⟩) (by assumption) ?_
        rotate_left
        · (intro w hSw; (try dsimp only at hSw); go_simp); (first | done | with_reducible rfl)
        try simp only [Act.put, List.setIfInBounds_toArray, List.set_cons_zero, List.set_cons_succ]
        refine wpAnyH_take (i := 4) (oi := { dst := some 107, op := Op.binOp BinOp.eql 4 (Operand.tmp 105) (Operand.tmp 106) 4, type := 4, pos := "outright.go:81", after := #[{ on := 2, ground := Ground.data }, { on := 3, ground := Ground.data }], guard := none }) (v := ?_) rfl (by kernel_rfl) (by kernel_rfl) (by kernel_rfl) (fun _ _ _ h => h) (Or.inl ⟨by rfl, ?_⟩) (by assumption) ?_
        rotate_left
        · (intro w hSw; (try dsimp only at hSw); go_simp); (first | done | with_reducible rfl)
        try simp only [Act.put, List.setIfInBounds_toArray, List.set_cons_zero, List.set_cons_succ]
        refine wpAnyH_take (i := 5) (oi := { dst := some 108, op := Op.move (Operand.tmp 107), type := 4, pos := "outright.go:81", after := #[{ on := 4, ground := Ground.data }], guard := none }) (v := ?_) rfl (by kernel_rfl) (by kernel_rfl) (by kernel_rfl) (fun _ _ _ h => h) (Or.inl ⟨by rfl, ?_⟩) (by assumption) ?_
        rotate_left
        · (intro w hSw; (try dsimp only at hSw); go_simp); (first | done | with_reducible rfl)
        try simp only [Act.put, List.setIfInBounds_toArray, List.set_cons_zero, List.set_cons_succ]
        refine wpAnyH_take (i := 6) (oi := { dst := some 109, op := Op.move (Operand.tmp 11), type := 4, pos := "outright.go:81", after := #[{ on := 5, ground := Ground.guard }], guard := some (5, true) }) (v := ?_) rfl (by kernel_rfl) (by kernel_rfl) (by kernel_rfl) (fun _ _ _ h => h) (Or.inl ⟨by rfl, ?_⟩) (by assumption) ?_
        rotate_left
        · (intro w hSw; (try dsimp only at hSw); go_simp); (first | done | with_reducible rfl)
        try simp only [Act.put, List.setIfInBounds_toArray, List.set_cons_zero, List.set_cons_succ]
        refine wpAnyH_take (i := 7) (oi := { dst := some 110, op := Op.unOp UnOp.not 4 (Operand.tmp 109), type := 4, pos := "outright.go:81", after := #[{ on := 6, ground := Ground.data }, { on := 5, ground := Ground.guard }], guard := some (5, true) }) (v := ?_) rfl (by kernel_rfl) (by kernel_rfl) (by kernel_rfl) (fun _ _ _ h => h) (Or.inl ⟨by rfl, ?_⟩) (by assumption) ?_
        rotate_left
        · (intro w hSw; (try dsimp only at hSw); go_simp); (first | done | with_reducible rfl)
        try simp only [Act.put, List.setIfInBounds_toArray, List.set_cons_zero, List.set_cons_succ]
        refine wpAnyH_take (i := 8) (oi := { dst := some 111, op := Op.move (Operand.tmp 110), type := 4, pos := "outright.go:81", after := #[{ on := 7, ground := Ground.data }, { on := 5, ground := Ground.chain }, { on := 5, ground := Ground.guard }], guard := some (5, true) }) (v := ?_) rfl (by kernel_rfl) (by kernel_rfl) (by kernel_rfl) (fun _ _ _ h => h) (Or.inl ⟨by rfl, ?_⟩) (by assumption) ?_
        rotate_left
        · (intro w hSw; (try dsimp only at hSw); go_simp); (first | done | with_reducible rfl)
        try simp only [Act.put, List.setIfInBounds_toArray, List.set_cons_zero, List.set_cons_succ]
        refine wpAnyH_take (i := 9) (oi := { dst := some 112, op := Op.move (Operand.tmp 12), type := 22, pos := "outright.go:81", after := #[{ on := 8, ground := Ground.guard }], guard := some (8, false) }) (v := undef) rfl (by kernel_rfl) (by kernel_rfl) (by kernel_rfl) (fun _ _ _ h => h) (Or.inr ⟨by rfl, rfl⟩) (by assumption) ?_
        try simp only [Act.put, List.setIfInBounds_toArray, List.set_cons_zero, List.set_cons_succ]
        refine wpAnyH_take (i := 10) (oi := { dst := some 113, op := Op.indexAddr 22 (Operand.tmp 112) (Operand.const (Value.int IntKind.i64 0)), type := 0, pos := "outright.go:81", after := #[{ on := 9, ground := Ground.data }, { on := 8, ground := Ground.guard }], guard := some (8, false) }) (v := undef) rfl (by kernel_rfl) (by kernel_rfl) (by kernel_rfl) (fun _ _ _ h => h) (Or.inr ⟨by rfl, rfl⟩) (by assumption) ?_
        try simp only [Act.put, List.setIfInBounds_toArray, List.set_cons_zero, List.set_cons_succ]
        refine wpAnyH_take (i := 11) (oi := { dst := some 114, op := Op.load 38 (Operand.tmp 113), type := 38, pos := "outright.go:81", after := #[{ on := 10, ground := Ground.data }, { on := 8, ground := Ground.guard }], guard := some (8, false) }) (v := undef) rfl (by kernel_rfl) (by kernel_rfl) (by kernel_rfl) (fun _ _ _ h => h) (Or.inr ⟨by rfl, rfl⟩) (by assumption) ?_
        try simp only [Act.put, List.setIfInBounds_toArray, List.set_cons_zero, List.set_cons_succ]
        refine wpAnyH_take (i := 12) (oi := { dst := some 115, op := Op.load 38 (Operand.tmp 10), type := 38, pos := "outright.go:81", after := #[{ on := 8, ground := Ground.guard }], guard := some (8, false) }) (v := undef) rfl (by kernel_rfl) (by kernel_rfl) (by kernel_rfl) (fun _ _ _ h => h) (Or.inr ⟨by rfl, rfl⟩) (by assumption) ?_
        try simp only [Act.put, List.setIfInBounds_toArray, List.set_cons_zero, List.set_cons_succ]
        refine wpAnyH_take (i := 13) (oi := { dst := some 116, op := Op.binOp BinOp.eql 38 (Operand.tmp 114) (Operand.tmp 115) 38, type := 4, pos := "outright.go:81", after := #[{ on := 11, ground := Ground.data }, { on := 12, ground := Ground.data }, { on := 8, ground := Ground.guard }], guard := some (8, false) }) (v := undef) rfl (by kernel_rfl) (by kernel_rfl) (by kernel_rfl) (fun _ _ _ h => h) (Or.inr ⟨by rfl, rfl⟩) (by assumption) ?_
        try simp only [Act.put, List.setIfInBounds_toArray, List.set_cons_zero, List.set_cons_succ]
        refine wpAnyH_take (i := 14) (oi := { dst := some 117, op := Op.move (Operand.tmp 116), type := 4, pos := "outright.go:81", after := #[{ on := 13, ground := Ground.data }, { on := 8, ground := Ground.chain }, { on := 8, ground := Ground.guard }], guard := some (8, false) }) (v := undef) rfl (by kernel_rfl) (by kernel_rfl) (by kernel_rfl) (fun _ _ _ h => h) (Or.inr ⟨by rfl, rfl⟩) (by assumption) ?_
        try simp only [Act.put, List.setIfInBounds_toArray, List.set_cons_zero, List.set_cons_succ]
        refine wpAnyH_take (i := 15) (oi := { dst := some 118, op := Op.fieldAddr 38 (Operand.tmp 10) 0, type := 0, pos := "outright.go:81", after := #[{ on := 14, ground := Ground.guard }], guard := some (14, true) }) (v := undef) rfl (by kernel_rfl) (by kernel_rfl) (by kernel_rfl) (fun _ _ _ h => h) (Or.inr ⟨by rfl, rfl⟩) (by assumption) ?_
        try simp only [Act.put, List.setIfInBounds_toArray, List.set_cons_zero, List.set_cons_succ]
        refine wpAnyH_take (i := 16) (oi := { dst := some 119, op := Op.load 9 (Operand.tmp 118), type := 9, pos := "outright.go:81", after := #[{ on := 15, ground := Ground.data }, { on := 14, ground := Ground.guard }], guard := some (14, true) }) (v := undef) rfl (by kernel_rfl) (by kernel_rfl) (by kernel_rfl) (fun _ _ _ h => h) (Or.inr ⟨by rfl, rfl⟩) (by assumption) ?_
        try simp only [Act.put, List.setIfInBounds_toArray, List.set_cons_zero, List.set_cons_succ]
        refine wpAnyH_take (i := 17) (oi := { dst := some 120, op := Op.move (Operand.tmp 7), type := 9, pos := "outright.go:81", after := #[{ on := 14, ground := Ground.guard }], guard := some (14, true) }) (v := undef) rfl (by kernel_rfl) (by kernel_rfl) (by kernel_rfl) (fun _ _ _ h => h) (Or.inr ⟨by rfl, rfl⟩) (by assumption) ?_
        try simp only [Act.put, List.setIfInBounds_toArray, List.set_cons_zero, List.set_cons_succ]
        refine wpAnyH_take (i := 18) (oi := { dst := some 121, op := Op.binOp BinOp.eql 9 (Operand.tmp 119) (Operand.tmp 120) 9, type := 4, pos := "outright.go:81", after := #[{ on := 16, ground := Ground.data }, { on := 17, ground := Ground.data }, { on := 14, ground := Ground.guard }], guard := some (14, true) }) (v := undef) rfl (by kernel_rfl) (by kernel_rfl) (by kernel_rfl) (fun _ _ _ h => h) (Or.inr ⟨by rfl, rfl⟩) (by assumption) ?_
        try simp only [Act.put, List.setIfInBounds_toArray, List.set_cons_zero, List.set_cons_succ]
        refine wpAnyH_take (i := 19) (oi := { dst := some 122, op := Op.pick (Operand.tmp 117) (Operand.tmp 121) (Operand.const (Value.bool false)), type := 4, pos := "outright.go:81", after := #[{ on := 14, ground := Ground.data }, { on := 18, ground := Ground.data }, { on := 8, ground := Ground.guard }], guard := some (8, false) }) (v := undef) rfl (by kernel_rfl) (by kernel_rfl) (by kernel_rfl) (fun _ _ _ h => h) (Or.inr ⟨by rfl, rfl⟩) (by assumption) ?_
        try simp only [Act.put, List.setIfInBounds_toArray, List.set_cons_zero, List.set_cons_succ]
        refine wpAnyH_take (i := 20) (oi := { dst := some 123, op := Op.pick (Operand.tmp 111) (Operand.const (Value.bool true)) (Operand.tmp 122), type := 4, pos := "outright.go:81", after := #[{ on := 8, ground := Ground.data }, { on := 19, ground := Ground.data }, { on := 5, ground := Ground.guard }], guard := some (5, true) }) (v := ?_) rfl (by kernel_rfl) (by kernel_rfl) (by kernel_rfl) (fun _ _ _ h => h) (Or.inl ⟨by rfl, ?_⟩) (by assumption) ?_
        rotate_left
        · (intro w hSw; (try dsimp only at hSw); go_simp); (first | done | with_reducible rfl)
        try simp only [Act.put, List.setIfInBounds_toArray, List.set_cons_zero, List.set_cons_succ]
        refine wpAnyH_take (i := 21) (oi := { dst := some 124, op := Op.pick (Operand.tmp 108) (Operand.tmp 123) (Operand.const (Value.bool false)), type := 4, pos := "outright.go:81", after := #[{ on := 5, ground := Ground.data }, { on := 20, ground := Ground.data }], guard := none }) (v := ?_) rfl (by kernel_rfl) (by kernel_rfl) (by kernel_rfl) (fun _ _ _ h => h) (Or.inl ⟨by rfl, ?_⟩) (by assumption) ?_
        rotate_left
        · (intro w hSw; (try dsimp only at hSw); go_simp); (first | done | with_reducible rfl)
        try simp only [Act.put, List.setIfInBounds_toArray, List.set_cons_zero, List.set_cons_succ]
        refine wpAnyH_take (i := 22) (oi := { dst := some 125, op := Op.move (Operand.tmp 124), type := 4, pos := "outright.go:81", after := #[{ on := 21, ground := Ground.data }, { on := 14, ground := Ground.chain }], guard := none }) (v := ?_) rfl (by kernel_rfl) (by kernel_rfl) (by kernel_rfl) (fun _ _ _ h => h) (Or.inl ⟨by rfl, ?_⟩) (by assumption) ?_
        rotate_left
        · (intro w hSw; (try dsimp only at hSw); go_simp); (first | done | with_reducible rfl)
        try simp only [Act.put, List.setIfInBounds_toArray, List.set_cons_zero, List.set_cons_succ]
        refine wpAnyH_take (i := 23) (oi := { dst := some 126, op := Op.move (Operand.tmp 5), type := 32, pos := "outright.go:81", after := #[{ on := 22, ground := Ground.guard }], guard := some (22, true) }) (v := ?_) rfl (by kernel_rfl) (by kernel_rfl) (by kernel_rfl) (fun _ _ _ h => h) (Or.inl ⟨by rfl, ?_⟩) (by assumption) ?_
        rotate_left
        · (intro w hSw; (try dsimp only at hSw); go_simp); (first | done | with_reducible rfl)
        try simp only [Act.put, List.setIfInBounds_toArray, List.set_cons_zero, List.set_cons_succ]
        refine wpAnyH_take (i := 25) (oi := { dst := some 128, op := Op.move (Operand.tmp 0), type := 22, pos := "outright.go:81", after := #[{ on := 22, ground := Ground.guard }], guard := some (22, true) }) (v := ?_) rfl (by kernel_rfl) (by kernel_rfl) (by kernel_rfl) (fun _ _ _ h => h) (Or.inl ⟨by rfl, ?_⟩) (by assumption) ?_
        rotate_left
        · (intro w hSw; (try dsimp only at hSw); go_simp); (first | done | with_reducible rfl)
        try simp only [Act.put, List.setIfInBounds_toArray, List.set_cons_zero, List.set_cons_succ]
        refine wpAnyH_ready (rs := [24]) (by kernel_rfl) (by simp) ?_
        refine AllReadyH.cons (o := { dst := some 127, op := Op.call { callee := Callee.value (Operand.func 33), args := #[Operand.tmp 126], argTypes := #[32] }, type := 22, pos := "outright.go:81", after := #[{ on := 23, ground := Ground.data }, { on := 22, ground := Ground.chain }, { on := 22, ground := Ground.guard }], guard := some (22, true) }) rfl (fun K hK => ?_) AllReadyH.nil
        go_simp
        go_at_call 33
        with_reducible refine (CAl.out _ HE.out.t).mono ?_
        rintro e w13 ⟨a13, c13, rfl, hc13, hb13⟩
        replace HE := Lib.hid (HE.out.below hb13)
        replace HY := Lib.hid (HY.out.below hb13)
        have HM := Lib.hid hc13
        clear hb13 hc13
        go_wp2_with fail
        refine hK.out _ _ ?_ (fun hHeld => ?_)
        · exact ⟨HY.out.cell 0, HY.out.cell 1, HY.out.cell 2⟩
        clear hK K
        try simp only [Act.put, List.setIfInBounds_toArray, List.set_cons_zero, List.set_cons_succ]
        refine wpAnyH_ready (rs := [26]) (by kernel_rfl) (by simp) ?_
        refine AllReadyH.cons (o := { dst := some 129, op := Op.call { callee := Callee.value (Operand.func 35), args := #[Operand.tmp 127, Operand.tmp 128], argTypes := #[22, 22] }, type := 4, pos := "outright.go:81", after := #[{ on := 24, ground := Ground.data }, { on := 25, ground := Ground.data }, { on := 24, ground := Ground.chain }, { on := 22, ground := Ground.guard }], guard := some (22, true) }) rfl (fun K hK => ?_) AllReadyH.nil
        go_simp
        go_at_call 35
        with_reducible refine (CS.out _ _ _ _ _ _ _ _ HM.out HE.out.c rfl rfl (by omega)).mono ?_
        rintro e w14 ⟨rfl, hb14⟩
        replace HE := Lib.hid (HE.out.below hb14)
        replace HY := Lib.hid (HY.out.below hb14)
        clear hb14
        go_wp2_with fail
        refine hK.out _ _ ?_ (fun hHeld => ?_)
        · exact ⟨HY.out.cell 0, HY.out.cell 1, HY.out.cell 2⟩
        clear hK K
        try simp only [Act.put, List.setIfInBounds_toArray, List.set_cons_zero, List.set_cons_succ]
        refine wpAnyH_take (i := 27) (oi := { dst := some 130, op := Op.pick (Operand.tmp 125) (Operand.tmp 129) (Operand.const (Value.bool false)), type := 4, pos := "outright.go:81", after := #[{ on := 22, ground := Ground.data }, { on := 26, ground := Ground.data }], guard := none }) (v := ?_) rfl (by kernel_rfl) (by kernel_rfl) (by kernel_rfl) (fun _ _ _ h => h) (Or.inl ⟨by rfl, ?_⟩) (by assumption) ?_
        rotate_left
        · (intro w hSw; (try dsimp only at hSw); go_simp); (first | done | with_reducible rfl)
        try simp only [Act.put, List.setIfInBounds_toArray, List.set_cons_zero, List.set_cons_succ]
        refine wpAnyH_take (i := 28) (oi := { dst := some 131, op := Op.move (Operand.tmp 130), type := 4, pos := "outright.go:81", after := #[{ on := 27, ground := Ground.data }, { on := 26, ground := Ground.chain }], guard := none }) (v := ?_) rfl (by kernel_rfl) (by kernel_rfl) (by kernel_rfl) (fun _ _ _ h => h) (Or.inl ⟨by rfl, ?_⟩) (by assumption) ?_
        rotate_left
        · (intro w hSw; (try dsimp only at hSw); go_simp); (first | done | with_reducible rfl)
        try simp only [Act.put, List.setIfInBounds_toArray, List.set_cons_zero, List.set_cons_succ]
        refine wpAnyH_ready (rs := [29]) (by kernel_rfl) (by simp) ?_
        refine AllReadyH.cons (o := { dst := some 132, op := Op.call { callee := Callee.value (Operand.func 27), args := #[], argTypes := #[] }, type := 4, pos := "outright.go:81", after := #[{ on := 28, ground := Ground.chain }, { on := 28, ground := Ground.guard }], guard := some (28, true) }) rfl (fun K hK => ?_) AllReadyH.nil
        go_simp
        go_at_call 27
        with_reducible refine (CD.out _).mono ?_
        rintro e w15 ⟨rfl, hb15⟩
        replace HE := Lib.hid (HE.out.below hb15)
        replace HY := Lib.hid (HY.out.below hb15)
        clear hb15
        go_wp2_with fail
        refine hK.out _ _ ?_ (fun hHeld => ?_)
        · exact ⟨HY.out.cell 0, HY.out.cell 1, HY.out.cell 2⟩
        clear hK K
        try simp only [Act.put, List.setIfInBounds_toArray, List.set_cons_zero, List.set_cons_succ]
        refine wpAnyH_take (i := 30) (oi := { dst := some 133, op := Op.pick (Operand.tmp 131) (Operand.tmp 132) (Operand.const (Value.bool false)), type := 4, pos := "outright.go:81", after := #[{ on := 28, ground := Ground.data }, { on := 29, ground := Ground.data }], guard := none }) (v := ?_) rfl (by kernel_rfl) (by kernel_rfl) (by kernel_rfl) (fun _ _ _ h => h) (Or.inl ⟨by rfl, ?_⟩) (by assumption) ?_
        rotate_left
        · (intro w hSw; (try dsimp only at hSw); go_simp); (first | done | with_reducible rfl)
        try simp only [Act.put, List.setIfInBounds_toArray, List.set_cons_zero, List.set_cons_succ]
        refine wpAnyH_take (i := 31) (oi := { dst := some 4, op := Op.assign (Operand.tmp 133), type := 4, pos := "outright.go:81", after := #[{ on := 30, ground := Ground.data }, { on := 29, ground := Ground.chain }, { on := 0, ground := Ground.phase }, { on := 1, ground := Ground.phase }, { on := 2, ground := Ground.phase }, { on := 3, ground := Ground.phase }, { on := 4, ground := Ground.phase }, { on := 5, ground := Ground.phase }, { on := 6, ground := Ground.phase }, { on := 7, ground := Ground.phase }, { on := 8, ground := Ground.phase }, { on := 9, ground := Ground.phase }, { on := 10, ground := Ground.phase }, { on := 11, ground := Ground.phase }, { on := 12, ground := Ground.phase }, { on := 13, ground := Ground.phase }, { on := 14, ground := Ground.phase }, { on := 15, ground := Ground.phase }, { on := 16, ground := Ground.phase }, { on := 17, ground := Ground.phase }, { on := 18, ground := Ground.phase }, { on := 19, ground := Ground.phase }, { on := 20, ground := Ground.phase }, { on := 21, ground := Ground.phase }, { on := 22, ground := Ground.phase }, { on := 23, ground := Ground.phase }, { on := 24, ground := Ground.phase }, { on := 25, ground := Ground.phase }, { on := 26, ground := Ground.phase }, { on := 27, ground := Ground.phase }, { on := 28, ground := Ground.phase }, { on := 29, ground := Ground.phase }, { on := 30, ground := Ground.phase }], guard := none }) (v := ?_) rfl (by kernel_rfl) (by kernel_rfl) (by kernel_rfl) (fun _ _ _ h => h) (Or.inl ⟨by rfl, ?_⟩) (by assumption) ?_
        rotate_left
        · (intro w hSw; (try dsimp only at hSw); go_simp); (first | done | with_reducible rfl)
        refine wpAnyH_done (by kernel_rfl) ?_ _
        go_wp2_with fail
        go_ret
        exact ⟨rfl, HE.out.b⟩
      | cons cc K =>
        obtain rfl : is = true := HIS.out
        obtain rfl : cf = cc := HCF.out
        have hkx := HKY.out cf K rfl
        obtain ⟨g12, o12, rfl, hc12⟩ := HK.out (by simp)
        have HC := Lib.hid (show ClOff cf w12 g12 o12 from by have := hc12 0 (by simp); rwa [Nat.zero_mul, Nat.add_zero] at this)
        obtain ⟨ck, cs, cv⟩ := cf
        obtain rfl : ck = x := hkx
        clear HIS HCF HKY HK hc12
        refine wp_region_held_drew (S := fun V => V.cell? ⟨b11, 0, none⟩ = some (.string (S ck)) ∧ V.cell? ⟨b11, 1, none⟩ = some (.int .i64 cs) ∧ V.cell? ⟨b11, 2, none⟩ = some (.string (S cv)) ∧ V.cell? ⟨g12, o12, none⟩ = some (.string (S ck)) ∧ V.cell? ⟨g12, o12 + 1, none⟩ = some (.int .i64 cs) ∧ V.cell? ⟨g12, o12 + 2, none⟩ = some (.string (S cv))) (by kernel_rfl) ?_ (fun hHeld => ?_)
        · exact ⟨HY.out.cell 0, HY.out.cell 1, HY.out.cell 2, HC.out.1, HC.out.2.1, HC.out.2.2⟩
        replace HE := Lib.hid HE.out.drew
        replace HY := Lib.hid (show RowIn (clA ⟨ck, cs, cv⟩) 38 (World.drew w12) b11 from HY.out)
        replace HC := Lib.hid (show ClOff ⟨ck, cs, cv⟩ (World.drew w12) g12 o12 from HC.out)
        refine wpAnyH_take (i := 0) (oi := { dst := some 103, op := Op.move (Operand.tmp 12), type := 22, pos := "outright.go:81", after := #[], guard := none }) (v := ?_) rfl (by kernel_rfl) (by kernel_rfl) (by kernel_rfl) (fun _ _ _ h => h) (Or.inl ⟨by rfl, ?_⟩) (by assumption) ?_
        rotate_left
        · (intro w hSw; (try dsimp only at hSw); go_simp); (first | done | with_reducible rfl)
        try simp only [Act.put, List.setIfInBounds_toArray, List.set_cons_zero, List.set_cons_succ]
        refine wpAnyH_take (i := 1) (oi := { dst := some 104, op := Op.call { callee := Callee.builtin Builtin.len, args := #[Operand.tmp 103], argTypes := #[22] }, type := 3, pos := "outright.go:81", after := #[{ on := 0, ground := Ground.data }], guard := none }) (v := ?_) rfl (by kernel_rfl) (by kernel_rfl) (by kernel_rfl) (fun _ _ _ h => h) (Or.inl ⟨by rfl, ?_⟩) (by assumption) ?_
        rotate_left
        · (intro w hSw; (try dsimp only at hSw); go_simp); (first | done | with_reducible rfl)
        try simp only [Act.put, List.setIfInBounds_toArray, List.set_cons_zero, List.set_cons_succ]
        refine wpAnyH_take (i := 2) (oi := { dst := some 105, op := Op.binOp BinOp.gtr 3 (Operand.tmp 104) (Operand.const (Value.int IntKind.i64 0)) 3, type := 4, pos := "outright.go:81", after := #[{ on := 1, ground := Ground.data }], guard := none }) (v := ?_) rfl (by kernel_rfl) (by kernel_rfl) (by kernel_rfl) (fun _ _ _ h => h) (Or.inl ⟨by rfl, ?_⟩) (by assumption) ?_
        rotate_left
        · (intro w hSw; (try dsimp only at hSw); go_simp); (first | done | with_reducible rfl)
        try simp only [Act.put, List.setIfInBounds_toArray, List.set_cons_zero, List.set_cons_succ]
        refine wpAnyH_take (i := 3) (oi := { dst := some 106, op := Op.move (Operand.tmp 11), type := 4, pos := "outright.go:81", after := #[], guard := none }) (v := ?_) rfl (by kernel_rfl) (by kernel_rfl) (by kernel_rfl) (fun _ _ _ h => h) (Or.inl ⟨by rfl, ?_⟩) (by assumption) ?_
        rotate_left
        · (intro w hSw; (try dsimp only at hSw); go_simp); (first | done | with_reducible rfl)
        try simp only [Act.put, List.setIfInBounds_toArray, List.set_cons_zero, List.set_cons_succ]
        refine wpAnyH_take (i := 4) (oi := { dst := some 107, op := Op.binOp BinOp.eql 4 (Operand.tmp 105) (Operand.tmp 106) 4, type := 4, pos := "outright.go:81", after := #[{ on := 2, ground := Ground.data }, { on := 3, ground := Ground.data }], guard := none }) (v := ?_) rfl (by kernel_rfl) (by kernel_rfl) (by kernel_rfl) (fun _ _ _ h => h) (Or.inl ⟨by rfl, ?_⟩) (by assumption) ?_
        rotate_left
        · (intro w hSw; (try dsimp only at hSw); go_simp); (first | done | with_reducible rfl)
        try simp only [Act.put, List.setIfInBounds_toArray, List.set_cons_zero, List.set_cons_succ]
        refine wpAnyH_take (i := 5) (oi := { dst := some 108, op := Op.move (Operand.tmp 107), type := 4, pos := "outright.go:81", after := #[{ on := 4, ground := Ground.data }], guard := none }) (v := ?_) rfl (by kernel_rfl) (by kernel_rfl) (by kernel_rfl) (fun _ _ _ h => h) (Or.inl ⟨by rfl, ?_⟩) (by assumption) ?_
        rotate_left
        · (intro w hSw; (try dsimp only at hSw); go_simp); (first | done | with_reducible rfl)
        try simp only [Act.put, List.setIfInBounds_toArray, List.set_cons_zero, List.set_cons_succ]
        refine wpAnyH_take (i := 6) (oi := { dst := some 109, op := Op.move (Operand.tmp 11), type := 4, pos := "outright.go:81", after := #[{ on := 5, ground := Ground.guard }], guard := some (5, true) }) (v := ?_) rfl (by kernel_rfl) (by kernel_rfl) (by kernel_rfl) (fun _ _ _ h => h) (Or.inl ⟨by rfl, ?_⟩) (by assumption) ?_
        rotate_left
        · (intro w hSw; (try dsimp only at hSw); go_simp); (first | done | with_reducible rfl)
        try simp only [Act.put, List.setIfInBounds_toArray, List.set_cons_zero, List.set_cons_succ]
        refine wpAnyH_take (i := 7) (oi := { dst := some 110, op := Op.unOp UnOp.not 4 (Operand.tmp 109), type := 4, pos := "outright.go:81", after := #[{ on := 6, ground := Ground.data }, { on := 5, ground := Ground.guard }], guard := some (5, true) }) (v := ?_) rfl (by kernel_rfl) (by kernel_rfl) (by kernel_rfl) (fun _ _ _ h => h) (Or.inl ⟨by rfl, ?_⟩) (by assumption) ?_
        rotate_left
        · (intro w hSw; (try dsimp only at hSw); go_simp); (first | done | with_reducible rfl)
        try simp only [Act.put, List.setIfInBounds_toArray, List.set_cons_zero, List.set_cons_succ]
        refine wpAnyH_take (i := 8) (oi := { dst := some 111, op := Op.move (Operand.tmp 110), type := 4, pos := "outright.go:81", after := #[{ on := 7, ground := Ground.data }, { on := 5, ground := Ground.chain }, { on := 5, ground := Ground.guard }], guard := some (5, true) }) (v := ?_) rfl (by kernel_rfl) (by kernel_rfl) (by kernel_rfl) (fun _ _ _ h => h) (Or.inl ⟨by rfl, ?_⟩) (by assumption) ?_
        rotate_left
        · (intro w hSw; (try dsimp only at hSw); go_simp); (first | done | with_reducible rfl)
        try simp only [Act.put, List.setIfInBounds_toArray, List.set_cons_zero, List.set_cons_succ]
        refine wpAnyH_take (i := 9) (oi := { dst := some 112, op := Op.move (Operand.tmp 12), type := 22, pos := "outright.go:81", after := #[{ on := 8, ground := Ground.guard }], guard := some (8, false) }) (v := ?_) rfl (by kernel_rfl) (by kernel_rfl) (by kernel_rfl) (fun _ _ _ h => h) (Or.inl ⟨by rfl, ?_⟩) (by assumption) ?_
        rotate_left
        · (intro w hSw; (try dsimp only at hSw); go_simp); (first | done | with_reducible rfl)
        try simp only [Act.put, List.setIfInBounds_toArray, List.set_cons_zero, List.set_cons_succ]
        refine wpAnyH_take (i := 10) (oi := { dst := some 113, op := Op.indexAddr 22 (Operand.tmp 112) (Operand.const (Value.int IntKind.i64 0)), type := 0, pos := "outright.go:81", after := #[{ on := 9, ground := Ground.data }, { on := 8, ground := Ground.guard }], guard := some (8, false) }) (v := ?_) rfl (by kernel_rfl) (by kernel_rfl) (by kernel_rfl) (fun _ _ _ h => h) (Or.inl ⟨by rfl, ?_⟩) (by assumption) ?_
        rotate_left
        · (intro w hSw; (try dsimp only at hSw); go_simp); (first | done | with_reducible rfl)
        try simp only [Act.put, List.setIfInBounds_toArray, List.set_cons_zero, List.set_cons_succ]
        refine wpAnyH_take (i := 11) (oi := { dst := some 114, op := Op.load 38 (Operand.tmp 113), type := 38, pos := "outright.go:81", after := #[{ on := 10, ground := Ground.data }, { on := 8, ground := Ground.guard }], guard := some (8, false) }) (v := ?_) rfl (by kernel_rfl) (by kernel_rfl) (by kernel_rfl) (fun _ _ _ h => h) (Or.inl ⟨by rfl, ?_⟩) (by assumption) ?_
        rotate_left
        · (intro w hSw; (try dsimp only at hSw); go_simp); (first | done | with_reducible rfl)
        try simp only [Act.put, List.setIfInBounds_toArray, List.set_cons_zero, List.set_cons_succ]
        refine wpAnyH_take (i := 12) (oi := { dst := some 115, op := Op.load 38 (Operand.tmp 10), type := 38, pos := "outright.go:81", after := #[{ on := 8, ground := Ground.guard }], guard := some (8, false) }) (v := ?_) rfl (by kernel_rfl) (by kernel_rfl) (by kernel_rfl) (fun _ _ _ h => h) (Or.inl ⟨by rfl, ?_⟩) (by assumption) ?_
        rotate_left
        · (intro w hSw; (try dsimp only at hSw); go_simp); (first | done | with_reducible rfl)
        try simp only [Act.put, List.setIfInBounds_toArray, List.set_cons_zero, List.set_cons_succ]
        refine wpAnyH_take (i := 13) (oi := { dst := some 116, op := Op.binOp BinOp.eql 38 (Operand.tmp 114) (Operand.tmp 115) 38, type := 4, pos := "outright.go:81", after := #[{ on := 11, ground := Ground.data }, { on := 12, ground := Ground.data }, { on := 8, ground := Ground.guard }], guard := some (8, false) }) (v := ?_) rfl (by kernel_rfl) (by kernel_rfl) (by kernel_rfl) (fun _ _ _ h => h) (Or.inl ⟨by rfl, ?_⟩) (by assumption) ?_
        rotate_left
        · (intro w hSw; (try dsimp only at hSw); go_simp); (first | done | with_reducible rfl)
        try simp only [Act.put, List.setIfInBounds_toArray, List.set_cons_zero, List.set_cons_succ]
        refine wpAnyH_take (i := 14) (oi := { dst := some 117, op := Op.move (Operand.tmp 116), type := 4, pos := "outright.go:81", after := #[{ on := 13, ground := Ground.data }, { on := 8, ground := Ground.chain }, { on := 8, ground := Ground.guard }], guard := some (8, false) }) (v := ?_) rfl (by kernel_rfl) (by kernel_rfl) (by kernel_rfl) (fun _ _ _ h => h) (Or.inl ⟨by rfl, ?_⟩) (by assumption) ?_
        rotate_left
        · (intro w hSw; (try dsimp only at hSw); go_simp); (first | done | with_reducible rfl)
        try simp only [Act.put, List.setIfInBounds_toArray, List.set_cons_zero, List.set_cons_succ]
        refine wpAnyH_take (i := 15) (oi := { dst := some 118, op := Op.fieldAddr 38 (Operand.tmp 10) 0, type := 0, pos := "outright.go:81", after := #[{ on := 14, ground := Ground.guard }], guard := some (14, true) }) (v := ?_) rfl (by kernel_rfl) (by kernel_rfl) (by kernel_rfl) (fun _ _ _ h => h) (Or.inl ⟨by rfl, ?_⟩) (by assumption) ?_
        rotate_left
        · (intro w hSw; (try dsimp only at hSw); go_simp); (first | done | with_reducible rfl)
        try simp only [Act.put, List.setIfInBounds_toArray, List.set_cons_zero, List.set_cons_succ]
        refine wpAnyH_take (i := 16) (oi := { dst := some 119, op := Op.load 9 (Operand.tmp 118), type := 9, pos := "outright.go:81", after := #[{ on := 15, ground := Ground.data }, { on := 14, ground := Ground.guard }], guard := some (14, true) }) (v := ?_) rfl (by kernel_rfl) (by kernel_rfl) (by kernel_rfl) (fun _ _ _ h => h) (Or.inl ⟨by rfl, ?_⟩) (by assumption) ?_
        rotate_left
        · (intro w hSw; (try dsimp only at hSw); go_simp); (first | done | with_reducible rfl)
        try simp only [Act.put, List.setIfInBounds_toArray, List.set_cons_zero, List.set_cons_succ]
        refine wpAnyH_take (i := 17) (oi := { dst := some 120, op := Op.move (Operand.tmp 7), type := 9, pos := "outright.go:81", after := #[{ on := 14, ground := Ground.guard }], guard := some (14, true) }) (v := ?_) rfl (by kernel_rfl) (by kernel_rfl) (by kernel_rfl) (fun _ _ _ h => h) (Or.inl ⟨by rfl, ?_⟩) (by assumption) ?_
        rotate_left
        · (intro w hSw; (try dsimp only at hSw); go_simp); (first | done | with_reducible rfl)
        try simp only [Act.put, List.setIfInBounds_toArray, List.set_cons_zero, List.set_cons_succ]
        refine wpAnyH_take (i := 18) (oi := { dst := some 121, op := Op.binOp BinOp.eql 9 (Operand.tmp 119) (Operand.tmp 120) 9, type := 4, pos := "outright.go:81", after := #[{ on := 16, ground := Ground.data }, { on := 17, ground := Ground.data }, { on := 14, ground := Ground.guard }], guard := some (14, true) }) (v := ?_) rfl (by kernel_rfl) (by kernel_rfl) (by kernel_rfl) (fun _ _ _ h => h) (Or.inl ⟨by rfl, ?_⟩) (by assumption) ?_
        rotate_left
        · (intro w hSw; (try dsimp only at hSw); go_simp); (first | done | with_reducible rfl)
        try simp only [Act.put, List.setIfInBounds_toArray, List.set_cons_zero, List.set_cons_succ]
        refine wpAnyH_take (i := 19) (oi := { dst := some 122, op := Op.pick (Operand.tmp 117) (Operand.tmp 121) (Operand.const (Value.bool false)), type := 4, pos := "outright.go:81", after := #[{ on := 14, ground := Ground.data }, { on := 18, ground := Ground.data }, { on := 8, ground := Ground.guard }], guard := some (8, false) }) (v := ?_) rfl (by kernel_rfl) (by kernel_rfl) (by kernel_rfl) (fun _ _ _ h => h) (Or.inl ⟨by rfl, ?_⟩) (by assumption) ?_
        rotate_left
        · (intro w hSw; (try dsimp only at hSw); go_simp); (first | done | with_reducible rfl)
        try simp only [Act.put, List.setIfInBounds_toArray, List.set_cons_zero, List.set_cons_succ]
        refine wpAnyH_take (i := 20) (oi := { dst := some 123, op := Op.pick (Operand.tmp 111) (Operand.const (Value.bool true)) (Operand.tmp 122), type := 4, pos := "outright.go:81", after := #[{ on := 8, ground := Ground.data }, { on := 19, ground := Ground.data }, { on := 5, ground := Ground.guard }], guard := some (5, true) }) (v := ?_) rfl (by kernel_rfl) (by kernel_rfl) (by kernel_rfl) (fun _ _ _ h => h) (Or.inl ⟨by rfl, ?_⟩) (by assumption) ?_
        rotate_left
        · (intro w hSw; (try dsimp only at hSw); go_simp); (first | done | with_reducible rfl)
        try simp only [Act.put, List.setIfInBounds_toArray, List.set_cons_zero, List.set_cons_succ]
        refine wpAnyH_take (i := 21) (oi := { dst := some 124, op := Op.pick (Operand.tmp 108) (Operand.tmp 123) (Operand.const (Value.bool false)), type := 4, pos := "outright.go:81", after := #[{ on := 5, ground := Ground.data }, { on := 20, ground := Ground.data }], guard := none }) (v := ?_) rfl (by kernel_rfl) (by kernel_rfl) (by kernel_rfl) (fun _ _ _ h => h) (Or.inl ⟨by rfl, ?_⟩) (by assumption) ?_
        rotate_left
        · (intro w hSw; (try dsimp only at hSw); go_simp); (first | done | with_reducible rfl)
        try simp only [Act.put, List.setIfInBounds_toArray, List.set_cons_zero, List.set_cons_succ]
        refine wpAnyH_take (i := 22) (oi := { dst := some 125, op := Op.move (Operand.tmp 124), type := 4, pos := "outright.go:81", after := #[{ on := 21, ground := Ground.data }, { on := 14, ground := Ground.chain }], guard := none }) (v := ?_) rfl (by kernel_rfl) (by kernel_rfl) (by kernel_rfl) (fun _ _ _ h => h) (Or.inl ⟨by rfl, ?_⟩) (by assumption) ?_
        rotate_left
        · (intro w hSw; (try dsimp only at hSw); go_simp); (first | done | with_reducible rfl)
        try simp only [Act.put, List.setIfInBounds_toArray, List.set_cons_zero, List.set_cons_succ]
        refine wpAnyH_take (i := 23) (oi := { dst := some 126, op := Op.move (Operand.tmp 5), type := 32, pos := "outright.go:81", after := #[{ on := 22, ground := Ground.guard }], guard := some (22, true) }) (v := ?_) rfl (by kernel_rfl) (by kernel_rfl) (by kernel_rfl) (fun _ _ _ h => h) (Or.inl ⟨by rfl, ?_⟩) (by assumption) ?_
        rotate_left
        · (intro w hSw; (try dsimp only at hSw); go_simp); (first | done | with_reducible rfl)
        try simp only [Act.put, List.setIfInBounds_toArray, List.set_cons_zero, List.set_cons_succ]
        refine wpAnyH_take (i := 25) (oi := { dst := some 128, op := Op.move (Operand.tmp 0), type := 22, pos := "outright.go:81", after := #[{ on := 22, ground := Ground.guard }], guard := some (22, true) }) (v := ?_) rfl (by kernel_rfl) (by kernel_rfl) (by kernel_rfl) (fun _ _ _ h => h) (Or.inl ⟨by rfl, ?_⟩) (by assumption) ?_
        rotate_left
        · (intro w hSw; (try dsimp only at hSw); go_simp); (first | done | with_reducible rfl)
        try simp only [Act.put, List.setIfInBounds_toArray, List.set_cons_zero, List.set_cons_succ]
        refine wpAnyH_ready (rs := [24]) (by kernel_rfl) (by simp) ?_
        refine AllReadyH.cons (o := { dst := some 127, op := Op.call { callee := Callee.value (Operand.func 33), args := #[Operand.tmp 126], argTypes := #[32] }, type := 22, pos := "outright.go:81", after := #[{ on := 23, ground := Ground.data }, { on := 22, ground := Ground.chain }, { on := 22, ground := Ground.guard }], guard := some (22, true) }) rfl (fun K hK => ?_) AllReadyH.nil
        go_simp
        go_at_call 33
        with_reducible refine (CAl.out _ HE.out.t).mono ?_
        rintro e w13 ⟨a13, c13, rfl, hc13, hb13⟩
        replace HE := Lib.hid (HE.out.below hb13)
        replace HY := Lib.hid (HY.out.below hb13)
        replace HC := Lib.hid (HC.out.below10 hb13)
        have HM := Lib.hid hc13
        clear hb13 hc13
        go_wp2_with fail
        refine hK.out _ _ ?_ (fun hHeld => ?_)
        · exact ⟨HY.out.cell 0, HY.out.cell 1, HY.out.cell 2, HC.out.1, HC.out.2.1, HC.out.2.2⟩
        clear hK K
        try simp only [Act.put, List.setIfInBounds_toArray, List.set_cons_zero, List.set_cons_succ]
        refine wpAnyH_ready (rs := [26]) (by kernel_rfl) (by simp) ?_
        refine AllReadyH.cons (o := { dst := some 129, op := Op.call { callee := Callee.value (Operand.func 35), args := #[Operand.tmp 127, Operand.tmp 128], argTypes := #[22, 22] }, type := 4, pos := "outright.go:81", after := #[{ on := 24, ground := Ground.data }, { on := 25, ground := Ground.data }, { on := 24, ground := Ground.chain }, { on := 22, ground := Ground.guard }], guard := some (22, true) }) rfl (fun K hK => ?_) AllReadyH.nil
        go_simp
        go_at_call 35
        with_reducible refine (CS.out _ _ _ _ _ _ _ _ HM.out HE.out.c rfl rfl (by omega)).mono ?_
        rintro e w14 ⟨rfl, hb14⟩
        replace HE := Lib.hid (HE.out.below hb14)
        replace HY := Lib.hid (HY.out.below hb14)
        replace HC := Lib.hid (HC.out.below10 hb14)
        clear hb14
        go_wp2_with fail
        refine hK.out _ _ ?_ (fun hHeld => ?_)
        · exact ⟨HY.out.cell 0, HY.out.cell 1, HY.out.cell 2, HC.out.1, HC.out.2.1, HC.out.2.2⟩
        clear hK K
        try simp only [Act.put, List.setIfInBounds_toArray, List.set_cons_zero, List.set_cons_succ]
        refine wpAnyH_take (i := 27) (oi := { dst := some 130, op := Op.pick (Operand.tmp 125) (Operand.tmp 129) (Operand.const (Value.bool false)), type := 4, pos := "outright.go:81", after := #[{ on := 22, ground := Ground.data }, { on := 26, ground := Ground.data }], guard := none }) (v := ?_) rfl (by kernel_rfl) (by kernel_rfl) (by kernel_rfl) (fun _ _ _ h => h) (Or.inl ⟨by rfl, ?_⟩) (by assumption) ?_
        rotate_left
        · (intro w hSw; (try dsimp only at hSw); go_simp); (first | done | with_reducible rfl)
        try simp only [Act.put, List.setIfInBounds_toArray, List.set_cons_zero, List.set_cons_succ]
        refine wpAnyH_take (i := 28) (oi := { dst := some 131, op := Op.move (Operand.tmp 130), type := 4, pos := "outright.go:81", after := #[{ on := 27, ground := Ground.data }, { on := 26, ground := Ground.chain }], guard := none }) (v := ?_) rfl (by kernel_rfl) (by kernel_rfl) (by kernel_rfl) (fun _ _ _ h => h) (Or.inl ⟨by rfl, ?_⟩) (by assumption) ?_
        rotate_left
        · (intro w hSw; (try dsimp only at hSw); go_simp); (first | done | with_reducible rfl)
        try simp only [Act.put, List.setIfInBounds_toArray, List.set_cons_zero, List.set_cons_succ]
        refine wpAnyH_ready (rs := [29]) (by kernel_rfl) (by simp) ?_
        refine AllReadyH.cons (o := { dst := some 132, op := Op.call { callee := Callee.value (Operand.func 27), args := #[], argTypes := #[] }, type := 4, pos := "outright.go:81", after := #[{ on := 28, ground := Ground.chain }, { on := 28, ground := Ground.guard }], guard := some (28, true) }) rfl (fun K hK => ?_) AllReadyH.nil
        go_simp
        go_at_call 27
        with_reducible refine (CD.out _).mono ?_
        rintro e w15 ⟨rfl, hb15⟩
        replace HE := Lib.hid (HE.out.below hb15)
        replace HY := Lib.hid (HY.out.below hb15)
        replace HC := Lib.hid (HC.out.below10 hb15)
        clear hb15
        go_wp2_with fail
        refine hK.out _ _ ?_ (fun hHeld => ?_)
        · exact ⟨HY.out.cell 0, HY.out.cell 1, HY.out.cell 2, HC.out.1, HC.out.2.1, HC.out.2.2⟩
        clear hK K
        try simp only [Act.put, List.setIfInBounds_toArray, List.set_cons_zero, List.set_cons_succ]
        refine wpAnyH_take (i := 30) (oi := { dst := some 133, op := Op.pick (Operand.tmp 131) (Operand.tmp 132) (Operand.const (Value.bool false)), type := 4, pos := "outright.go:81", after := #[{ on := 28, ground := Ground.data }, { on := 29, ground := Ground.data }], guard := none }) (v := ?_) rfl (by kernel_rfl) (by kernel_rfl) (by kernel_rfl) (fun _ _ _ h => h) (Or.inl ⟨by rfl, ?_⟩) (by assumption) ?_
        rotate_left
        · (intro w hSw; (try dsimp only at hSw); go_simp); (first | done | with_reducible rfl)
        try simp only [Act.put, List.setIfInBounds_toArray, List.set_cons_zero, List.set_cons_succ]
        refine wpAnyH_take (i := 31) (oi := { dst := some 4, op := Op.assign (Operand.tmp 133), type := 4, pos := "outright.go:81", after := #[{ on := 30, ground := Ground.data }, { on := 29, ground := Ground.chain }, { on := 0, ground := Ground.phase }, { on := 1, ground := Ground.phase }, { on := 2, ground := Ground.phase }, { on := 3, ground := Ground.phase }, { on := 4, ground := Ground.phase }, { on := 5, ground := Ground.phase }, { on := 6, ground := Ground.phase }, { on := 7, ground := Ground.phase }, { on := 8, ground := Ground.phase }, { on := 9, ground := Ground.phase }, { on := 10, ground := Ground.phase }, { on := 11, ground := Ground.phase }, { on := 12, ground := Ground.phase }, { on := 13, ground := Ground.phase }, { on := 14, ground := Ground.phase }, { on := 15, ground := Ground.phase }, { on := 16, ground := Ground.phase }, { on := 17, ground := Ground.phase }, { on := 18, ground := Ground.phase }, { on := 19, ground := Ground.phase }, { on := 20, ground := Ground.phase }, { on := 21, ground := Ground.phase }, { on := 22, ground := Ground.phase }, { on := 23, ground := Ground.phase }, { on := 24, ground := Ground.phase }, { on := 25, ground := Ground.phase }, { on := 26, ground := Ground.phase }, { on := 27, ground := Ground.phase }, { on := 28, ground := Ground.phase }, { on := 29, ground := Ground.phase }, { on := 30, ground := Ground.phase }], guard := none }) (v := ?_) rfl (by kernel_rfl) (by kernel_rfl) (by kernel_rfl) (fun _ _ _ h => h) (Or.inl ⟨by rfl, ?_⟩) (by assumption) ?_
        rotate_left
        · (intro w hSw; (try dsimp only at hSw); go_simp); (first | done | with_reducible rfl)
        refine wpAnyH_done (by kernel_rfl) ?_ _
        go_wp2_with fail
        go_ret
        exact ⟨rfl, HE.out.b⟩
    · obtain ⟨BP, hbp⟩ : ∃ b, condP x y z = b := ⟨_, rfl⟩
      go_upto_region 7 with (fail)
      go_cut [62] from 47 to 61 (fun c wx => c = .bool (condP x y z) ∧ wq = wx)
      case first =>
        clear hbp
        go_wp2_with fail
        all_goals
          go_meet
          case rel => exact ⟨by unfold condP; simp_all, rfl⟩
      case rest =>
      obtain ⟨rfl, rfl⟩ := hcut
      rw [hbp]
      go_upto_if 62 with (fail)
      go_cut [4] from 62 to 77 (fun c wx => c = .bool false ∧ Ep10 W L ao p wx)
      case first =>
        cases BP with
        | false =>
          clear hbp
          go_wp2_with fail
          go_meet
          case rel => exact ⟨rfl, HE.out⟩
        | true =>
          have hcp := condP_true hbp
          have HTW := Lib.hid (M.range_two HS.out hcp.1 hcp.2.1 hcp.2.2.1 hcp.2.2.2)
          have CR3 := Lib.hid (fun V (h : TabAt L p V) => rng_app HTW.out (range10_any L p x z V h HS.out (by omega) HQ.out (by omega) (by omega)))
          unfold RngN at CR3
          clear hcp hbp HTW
          go_wp2_with fail
          with_reducible refine (CR.out x y _ HE.out.t (by omega) (by omega)).mono ?_
          rintro e w6 ⟨a6, c6, rfl, ho6, hb6⟩
          go_wp2_with fail
          with_reducible refine (CR.out y z _ (HE.out.t.below hb6) (by omega) (by omega)).mono ?_
          rintro e w7 ⟨a7, c7, rfl, ho7, hb7⟩
          have HO6 := Lib.hid (ownP_below ho6 hb7)
          have HC7 := Lib.hid (clsAt_own ho7 rfl)
          clear ho6 ho7
          go_wp2_with (at_builtin; refine wpList_append_cls_at rfl _ _ 22 rfl _ i0 y0 Try.underlying22 hi0 hy0 hy1 hy2 hy3 (.slice a6 (M.rangeL x y L).length c6) (M.rangeL x y L).length (cls (M.rangeL x y L)) rfl HO6.out a7 c7 (M.rangeL y z L) rfl HC7.out ?c2 ?c3 ?_)
          case c2 => have := M.range_len x y L; have := M.range_len y z L; omega
          case c3 => have := (below_step hb6 hb7).size; omega
          intro v' w8 ho8 hg8 hat8
          obtain ⟨a8, c8, rfl⟩ := ownP_shape ho8
          have HB8 := Lib.hid ((below_step hb6 hb7).grown hg8 (by have := (below_step hb6 hb7).size; omega) (fun k hk => (HO6.out.lt k hk).1))
          have HC8 := Lib.hid (show ClsAt w8 a8 ((M.rangeL x y L) ++ (M.rangeL y z L)) from clsAt_own (by rw [cls_append]; exact ho8) (by simp))
          replace HE := Lib.hid (HE.out.below HB8.out)
          clear ho8 hg8 hat8 hb6 hb7 HO6 HC7 HB8
          go_wp2_with fail
          with_reducible refine (CR3.out _ HE.out.t).mono ?_
          rintro e w9 ⟨a9, c9, rfl, hc9, hb9⟩
          replace HE := Lib.hid (HE.out.below hb9)
          replace HC8 := Lib.hid (HC8.out.below hb9)
          have HC9 := Lib.hid hc9
          clear hb9 hc9
          go_wp2_with fail
          with_reducible refine (CS.out _ _ _ _ _ _ _ _ HC8.out HC9.out (by simp) (by simp) (by have := M.range_len x y L; have := M.range_len y z L; simp; omega)).mono ?_
          rintro e w10 ⟨rfl, hb10⟩
          replace HE := Lib.hid (HE.out.below hb10)
          clear hb10
          go_wp2_with fail
          go_meet
          case rel => exact ⟨rfl, HE.out⟩
      case rest =>
      rename_i wr
      obtain ⟨rfl, hE⟩ := hcut
      clear HE hbp
      have HE := Lib.hid hE
      clear hE
      go_upto_region 10 with (fail)
      go_cut [91] from 78 to 90 (fun c wx => c = .bool false ∧ Ep10 W L ao p wx)
      case first =>
        have HW := Lib.hid (M.range_whole HS.out (b := y) (by cases y with | nil => exact absurd rfl hy | cons _ _ => rfl))
        have HWL := Lib.hid (congrArg List.length HW.out)
        have CR0 := Lib.hid (fun V (h : TabAt L p V) => rng_from10 L p y V h HS.out (by omega) HQ.out (by omega))
        have CR9 := Lib.hid (fun V (h : TabAt L p V) => rng_to10 L p y V h HS.out (by omega) HQ.out (by omega))
        unfold RngO at CR0 CR9
        go_wp2_with fail
        with_reducible refine (CR0.out _ HE.out.t).mono ?_
        rintro e w6 ⟨a6, c6, rfl, ho6, hb6⟩
        go_wp2_with fail
        with_reducible refine (CR9.out _ (HE.out.t.below hb6)).mono ?_
        rintro e w7 ⟨a7, c7, rfl, ho7, hb7⟩
        have HO6 := Lib.hid (ownP_below ho6 hb7)
        have HC7 := Lib.hid (clsAt_own ho7 rfl)
        clear ho6 ho7
        go_wp2_with (at_builtin; refine wpList_append_cls_on (by simp [Region.wanted, yielded, hy]) _ _ 22 rfl _ i0 y0 Try.underlying22 hi0 hy0 hy1 hy2 hy3 (.slice a6 (M.rangeL [] y L).length c6) (M.rangeL [] y L).length (cls (M.rangeL [] y L)) rfl HO6.out a7 c7 (M.rangeL y [] L) rfl HC7.out ?c2 ?c3 ?_)
        case c2 => have := M.range_len [] y L; have := M.range_len y [] L; omega
        case c3 => have := (below_step hb6 hb7).size; omega
        intro v' w8 ho8 hg8 hat8
        obtain ⟨a8, c8, rfl⟩ := ownP_shape ho8
        have HB8 := Lib.hid ((below_step hb6 hb7).grown hg8 (by have := (below_step hb6 hb7).size; omega) (fun k hk => (HO6.out.lt k hk).1))
        have HC8 := Lib.hid (show ClsAt w8 a8 ((M.rangeL [] y L) ++ (M.rangeL y [] L)) from clsAt_own (by rw [cls_append]; exact ho8) (by simp))
        replace HE := Lib.hid (HE.out.below HB8.out)
        clear ho8 hg8 hat8 hb6 hb7 HO6 HC7 HB8
        go_wp2_with fail
        with_reducible refine (CS.out _ _ _ _ _ _ _ _ HC8.out (by rw [HW.out]; exact HE.out.c) (by simp) HWL.out (by have := M.range_len [] y L; have := M.range_len y [] L; simp; omega)).mono ?_
        rintro e w10 ⟨rfl, hb10⟩
        replace HE := Lib.hid (HE.out.below hb10)
        clear hb10
        go_wp2_with fail
        go_meet
        case rel => exact ⟨rfl, HE.out⟩
      case rest =>
      rename_i ws
      obtain ⟨rfl, hE⟩ := hcut
      clear HE
      have HE := Lib.hid hE
      clear hE
      go_wp2_with fail
      with_reducible refine (CGt.out _ HE.out.t).mono ?_
      rintro e w11 ⟨rfl, hb11⟩
      replace HE := Lib.hid (HE.out.below hb11)
      clear hb11
      have HY := Lib.hid (rowIn_new (clA cf) 38 w11)
      replace HE := Lib.hid (HE.out.below ((Below.refl _ _).alloc (Nat.le_refl _) (.cells (clA cf) 38)))
      go_wp2_with fail
      with_reducible refine (CRk.out _ HE.out.t).mono ?_
      rintro e w12 ⟨a12, c12, rfl, hc12, hb12⟩
      replace HE := Lib.hid (HE.out.below hb12)
      replace HY := Lib.hid (HY.out.below hb12)
      have HK := Lib.hid hc12
      clear hb12 hc12
      go_wp2_with fail
      have HKY := Lib.hid (fun (c : M.Cl) (K : List M.Cl) (h : M.rangeL x (x ++ [0]) L = c :: K) => M.head_key h)
      generalize M.rangeL x (x ++ [0]) L = K at *
      generalize w11.heap.size = b11 at *
      cases K with
      | nil =>
        obtain rfl : is = false := HIS.out
        clear HIS HCF HKY HK
        refine wp_region_held_drew (S := fun V => V.cell? ⟨b11, 0, none⟩ = some (.string (S cf.key)) ∧ V.cell? ⟨b11, 1, none⟩ = some (.int .i64 cf.seq) ∧ V.cell? ⟨b11, 2, none⟩ = some (.string (S cf.val))) (by kernel_rfl) ?_ (fun hHeld => ?_)
        · exact ⟨HY.out.cell 0, HY.out.cell 1, HY.out.cell 2⟩
        replace HE := Lib.hid HE.out.drew
        replace HY := Lib.hid (show RowIn (clA cf) 38 (World.drew w12) b11 from HY.out)
        refine wpAnyH_take (i := 0) (oi := { dst := some 103, op := Op.move (Operand.tmp 12), type := 22, pos := "outright.go:81", after := #[], guard := none }) (v := ?_) rfl (by kernel_rfl) (by kernel_rfl) (by kernel_rfl) (fun _ _ _ h => h) (Or.inl ⟨by rfl, ?_⟩) (by assumption) ?_
        rotate_left
        · (intro w hSw; (try dsimp only at hSw); go_simp); (first | done | with_reducible rfl)
        try simp only [Act.put, List.setIfInBounds_toArray, List.set_cons_zero, List.set_cons_succ]
        refine wpAnyH_take (i := 1) (oi := { dst := some 104, op := Op.call { callee := Callee.builtin Builtin.len, args := #[Operand.tmp 103], argTypes := #[22] }, type := 3, pos := "outright.go:81", after := #[{ on := 0, ground := Ground.data }], guard := none }) (v := ?_) rfl (by kernel_rfl) (by kernel_rfl) (by kernel_rfl) (fun _ _ _ h => h) (Or.inl ⟨by rfl, ?_⟩) (by assumption) ?_
        rotate_left
        · (intro w hSw; (try dsimp only at hSw); go_simp); (first | done | with_reducible rfl)
        try simp only [Act.put, List.setIfInBounds_toArray, List.set_cons_zero, List.set_cons_succ]
        refine wpAnyH_take (i := 2) (oi := { dst := some 105, op := Op.binOp BinOp.gtr 3 (Operand.tmp 104) (Operand.const (Value.int IntKind.i64 0)) 3, type := 4, pos := "outright.go:81", after := #[{ on := 1, ground := Ground.data }], guard := none }) (v := ?_) rfl (by kernel_rfl) (by kernel_rfl) (by kernel_rfl) (fun _ _ _ h => h) (Or.inl ⟨by rfl, ?_⟩) (by assumption) ?_
        rotate_left
        · (intro w hSw; (try dsimp only at hSw); go_simp); (first | done | with_reducible rfl)
        try simp only [Act.put, List.setIfInBounds_toArray, List.set_cons_zero, List.set_cons_succ]
        refine wpAnyH_take (i := 3) (oi := { dst := some 106, op := Op.move (Operand.tmp 11), type := 4, pos := "outright.go:81", after := #[], guard := none }) (v := ?_) rfl (by kernel_rfl) (by kernel_rfl) (by kernel_rfl) (fun _ _ _ h => h) (Or.inl ⟨by rfl, ?_⟩) (by assumption) ?_
        rotate_left
        · (intro w hSw; (try dsimp only at hSw); go_simp); (first | done | with_reducible rfl)
        try simp only [Act.put, List.setIfInBounds_toArray, List.set_cons_zero, List.set_cons_succ]
        refine wpAnyH_take (i := 4) (oi := { dst := some 107, op := Op.binOp BinOp.eql 4 (Operand.tmp 105) (Operand.tmp 106) 4, type := 4, pos := "outright.go:81", after := #[{ on := 2, ground := Ground.data }, { on := 3, ground := Ground.data }], guard := none }) (v := ?_) rfl (by kernel_rfl) (by kernel_rfl) (by kernel_rfl) (fun _ _ _ h => h) (Or.inl ⟨by rfl, ?_⟩) (by assumption) ?_
        rotate_left
        · (intro w hSw; (try dsimp only at hSw); go_simp); (first | done | with_reducible rfl)
        try simp only [Act.put, List.setIfInBounds_toArray, List.set_cons_zero, List.set_cons_succ]
        refine wpAnyH_take (i := 5) (oi := { dst := some 108, op := Op.move (Operand.tmp 107), type := 4, pos := "outright.go:81", after := #[{ on := 4, ground := Ground.data }], guard := none }) (v := ?_) rfl (by kernel_rfl) (by kernel_rfl) (by kernel_rfl) (fun _ _ _ h => h) (Or.inl ⟨by rfl, ?_⟩) (by assumption) ?_
        rotate_left
        · (intro w hSw; (try dsimp only at hSw); go_simp); (first | done | with_reducible rfl)
        try simp only [Act.put, List.setIfInBounds_toArray, List.set_cons_zero, List.set_cons_succ]
        refine wpAnyH_take (i := 6) (oi := { dst := some 109, op := Op.move (Operand.tmp 11), type := 4, pos := "outright.go:81", after := #[{ on := 5, ground := Ground.guard }], guard := some (5, true) }) (v := ?_) rfl (by kernel_rfl) (by kernel_rfl) (by kernel_rfl) (fun _ _ _ h => h) (Or.inl ⟨by rfl, ?_⟩) (by assumption) ?_
        rotate_left
        · (intro w hSw; (try dsimp only at hSw); go_simp); (first | done | with_reducible rfl)
        try simp only [Act.put, List.setIfInBounds_toArray, List.set_cons_zero, List.set_cons_succ]
        refine wpAnyH_take (i := 7) (oi := { dst := some 110, op := Op.unOp UnOp.not 4 (Operand.tmp 109), type := 4, pos := "outright.go:81", after := #[{ on := 6, ground := Ground.data }, { on := 5, ground := Ground.guard }], guard := some (5, true) }) (v := ?_) rfl (by kernel_rfl) (by kernel_rfl) (by kernel_rfl) (fun _ _ _ h => h) (Or.inl ⟨by rfl, ?_⟩) (by assumption) ?_
        rotate_left
        · (intro w hSw; (try dsimp only at hSw); go_simp); (first | done | with_reducible rfl)
        try simp only [Act.put, List.setIfInBounds_toArray, List.set_cons_zero, List.set_cons_succ]
        refine wpAnyH_take (i := 8) (oi := { dst := some 111, op := Op.move (Operand.tmp 110), type := 4, pos := "outright.go:81", after := #[{ on := 7, ground := Ground.data }, { on := 5, ground := Ground.chain }, { on := 5, ground := Ground.guard }], guard := some (5, true) }) (v := ?_) rfl (by kernel_rfl) (by kernel_rfl) (by kernel_rfl) (fun _ _ _ h => h) (Or.inl ⟨by rfl, ?_⟩) (by assumption) ?_
        rotate_left
        · (intro w hSw; (try dsimp only at hSw); go_simp); (first | done | with_reducible rfl)
        try simp only [Act.put, List.setIfInBounds_toArray, List.set_cons_zero, List.set_cons_succ]
        refine wpAnyH_take (i := 9) (oi := { dst := some 112, op := Op.move (Operand.tmp 12), type := 22, pos := "outright.go:81", after := #[{ on := 8, ground := Ground.guard }], guard := some (8, false) }) (v := undef) rfl (by kernel_rfl) (by kernel_rfl) (by kernel_rfl) (fun _ _ _ h => h) (Or.inr ⟨by rfl, rfl⟩) (by assumption) ?_
        try simp only [Act.put, List.setIfInBounds_toArray, List.set_cons_zero, List.set_cons_succ]
        refine wpAnyH_take (i := 10) (oi := { dst := some 113, op := Op.indexAddr 22 (Operand.tmp 112) (Operand.const (Value.int IntKind.i64 0)), type := 0, pos := "outright.go:81", after := #[{ on := 9, ground := Ground.data }, { on := 8, ground := Ground.guard }], guard := some (8, false) }) (v := undef) rfl (by kernel_rfl) (by kernel_rfl) (by kernel_rfl) (fun _ _ _ h => h) (Or.inr ⟨by rfl, rfl⟩) (by assumption) ?_
        try simp only [Act.put, List.setIfInBounds_toArray, List.set_cons_zero, List.set_cons_succ]
        refine wpAnyH_take (i := 11) (oi := { dst := some 114, op := Op.load 38 (Operand.tmp 113), type := 38, pos := "outright.go:81", after := #[{ on := 10, ground := Ground.data }, { on := 8, ground := Ground.guard }], guard := some (8, false) }) (v := undef) rfl (by kernel_rfl) (by kernel_rfl) (by kernel_rfl) (fun _ _ _ h => h) (Or.inr ⟨by rfl, rfl⟩) (by assumption) ?_
        try simp only [Act.put, List.setIfInBounds_toArray, List.set_cons_zero, List.set_cons_succ]
        refine wpAnyH_take (i := 12) (oi := { dst := some 115, op := Op.load 38 (Operand.tmp 10), type := 38, pos := "outright.go:81", after := #[{ on := 8, ground := Ground.guard }], guard := some (8, false) }) (v := undef) rfl (by kernel_rfl) (by kernel_rfl) (by kernel_rfl) (fun _ _ _ h => h) (Or.inr ⟨by rfl, rfl⟩) (by assumption) ?_
        try simp only [Act.put, List.setIfInBounds_toArray, List.set_cons_zero, List.set_cons_succ]
        refine wpAnyH_take (i := 13) (oi := { dst := some 116, op := Op.binOp BinOp.eql 38 (Operand.tmp 114) (Operand.tmp 115) 38, type := 4, pos := "outright.go:81", after := #[{ on := 11, ground := Ground.data }, { on := 12, ground := Ground.data }, { on := 8, ground := Ground.guard }], guard := some (8, false) }) (v := undef) rfl (by kernel_rfl) (by kernel_rfl) (by kernel_rfl) (fun _ _ _ h => h) (Or.inr ⟨by rfl, rfl⟩) (by assumption) ?_
        try simp only [Act.put, List.setIfInBounds_toArray, List.set_cons_zero, List.set_cons_succ]
        refine wpAnyH_take (i := 14) (oi := { dst := some 117, op := Op.move (Operand.tmp 116), type := 4, pos := "outright.go:81", after := #[{ on := 13, ground := Ground.data }, { on := 8, ground := Ground.chain }, { on := 8, ground := Ground.guard }], guard := some (8, false) }) (v := undef) rfl (by kernel_rfl) (by kernel_rfl) (by kernel_rfl) (fun _ _ _ h => h) (Or.inr ⟨by rfl, rfl⟩) (by assumption) ?_
        try simp only [Act.put, List.setIfInBounds_toArray, List.set_cons_zero, List.set_cons_succ]
        refine wpAnyH_take (i := 15) (oi := { dst := some 118, op := Op.fieldAddr 38 (Operand.tmp 10) 0, type := 0, pos := "outright.go:81", after := #[{ on := 14, ground := Ground.guard }], guard := some (14, true) }) (v := undef) rfl (by kernel_rfl) (by kernel_rfl) (by kernel_rfl) (fun _ _ _ h => h) (Or.inr ⟨by rfl, rfl⟩) (by assumption) ?_
        try simp only [Act.put, List.setIfInBounds_toArray, List.set_cons_zero, List.set_cons_succ]
        refine wpAnyH_take (i := 16) (oi := { dst := some 119, op := Op.load 9 (Operand.tmp 118), type := 9, pos := "outright.go:81", after := #[{ on := 15, ground := Ground.data }, { on := 14, ground := Ground.guard }], guard := some (14, true) }) (v := undef) rfl (by kernel_rfl) (by kernel_rfl) (by kernel_rfl) (fun _ _ _ h => h) (Or.inr ⟨by rfl, rfl⟩) (by assumption) ?_
        try simp only [Act.put, List.setIfInBounds_toArray, List.set_cons_zero, List.set_cons_succ]
        refine wpAnyH_take (i := 17) (oi := { dst := some 120, op := Op.move (Operand.tmp 7), type := 9, pos := "outright.go:81", after := #[{ on := 14, ground := Ground.guard }], guard := some (14, true) }) (v := undef) rfl (by kernel_rfl) (by kernel_rfl) (by kernel_rfl) (fun _ _ _ h => h) (Or.inr ⟨by rfl, rfl⟩) (by assumption) ?_
        try simp only [Act.put, List.setIfInBounds_toArray, List.set_cons_zero, List.set_cons_succ]
        refine wpAnyH_take (i := 18) (oi := { dst := some 121, op := Op.binOp BinOp.eql 9 (Operand.tmp 119) (Operand.tmp 120) 9, type := 4, pos := "outright.go:81", after := #[{ on := 16, ground := Ground.data }, { on := 17, ground := Ground.data }, { on := 14, ground := Ground.guard }], guard := some (14, true) }) (v := undef) rfl (by kernel_rfl) (by kernel_rfl) (by kernel_rfl) (fun _ _ _ h => h) (Or.inr ⟨by rfl, rfl⟩) (by assumption) ?_
        try simp only [Act.put, List.setIfInBounds_toArray, List.set_cons_zero, List.set_cons_succ]
        refine wpAnyH_take (i := 19) (oi := { dst := some 122, op := Op.pick (Operand.tmp 117) (Operand.tmp 121) (Operand.const (Value.bool false)), type := 4, pos := "outright.go:81", after := #[{ on := 14, ground := Ground.data }, { on := 18, ground := Ground.data }, { on := 8, ground := Ground.guard }], guard := some (8, false) }) (v := undef) rfl (by kernel_rfl) (by kernel_rfl) (by kernel_rfl) (fun _ _ _ h => h) (Or.inr ⟨by rfl, rfl⟩) (by assumption) ?_
        try simp only [Act.put, List.setIfInBounds_toArray, List.set_cons_zero, List.set_cons_succ]
        refine wpAnyH_take (i := 20) (oi := { dst := some 123, op := Op.pick (Operand.tmp 111) (Operand.const (Value.bool true)) (Operand.tmp 122), type := 4, pos := "outright.go:81", after := #[{ on := 8, ground := Ground.data }, { on := 19, ground := Ground.data }, { on := 5, ground := Ground.guard }], guard := some (5, true) }) (v := ?_) rfl (by kernel_rfl) (by kernel_rfl) (by kernel_rfl) (fun _ _ _ h => h) (Or.inl ⟨by rfl, ?_⟩) (by assumption) ?_
        rotate_left
        · (intro w hSw; (try dsimp only at hSw); go_simp); (first | done | with_reducible rfl)
        try simp only [Act.put, List.setIfInBounds_toArray, List.set_cons_zero, List.set_cons_succ]
        refine wpAnyH_take (i := 21) (oi := { dst := some 124, op := Op.pick (Operand.tmp 108) (Operand.tmp 123) (Operand.const (Value.bool false)), type := 4, pos := "outright.go:81", after := #[{ on := 5, ground := Ground.data }, { on := 20, ground := Ground.data }], guard := none }) (v := ?_) rfl (by kernel_rfl) (by kernel_rfl) (by kernel_rfl) (fun _ _ _ h => h) (Or.inl ⟨by rfl, ?_⟩) (by assumption) ?_
        rotate_left
        · (intro w hSw; (try dsimp only at hSw); go_simp); (first | done | with_reducible rfl)
        try simp only [Act.put, List.setIfInBounds_toArray, List.set_cons_zero, List.set_cons_succ]
        refine wpAnyH_take (i := 22) (oi := { dst := some 125, op := Op.move (Operand.tmp 124), type := 4, pos := "outright.go:81", after := #[{ on := 21, ground := Ground.data }, { on := 14, ground := Ground.chain }], guard := none }) (v := ?_) rfl (by kernel_rfl) (by kernel_rfl) (by kernel_rfl) (fun _ _ _ h => h) (Or.inl ⟨by rfl, ?_⟩) (by assumption) ?_
        rotate_left
        · (intro w hSw; (try dsimp only at hSw); go_simp); (first | done | with_reducible rfl)
        try simp only [Act.put, List.setIfInBounds_toArray, List.set_cons_zero, List.set_cons_succ]
        refine wpAnyH_take (i := 23) (oi := { dst := some 126, op := Op.move (Operand.tmp 5), type := 32, pos := "outright.go:81", after := #[{ on := 22, ground := Ground.guard }], guard := some (22, true) }) (v := ?_) rfl (by kernel_rfl) (by kernel_rfl) (by kernel_rfl) (fun _ _ _ h => h) (Or.inl ⟨by rfl, ?_⟩) (by assumption) ?_
        rotate_left
        · (intro w hSw; (try dsimp only at hSw); go_simp); (first | done | with_reducible rfl)
        try simp only [Act.put, List.setIfInBounds_toArray, List.set_cons_zero, List.set_cons_succ]
        refine wpAnyH_take (i := 25) (oi := { dst := some 128, op := Op.move (Operand.tmp 0), type := 22, pos := "outright.go:81", after := #[{ on := 22, ground := Ground.guard }], guard := some (22, true) }) (v := ?_) rfl (by kernel_rfl) (by kernel_rfl) (by kernel_rfl) (fun _ _ _ h => h) (Or.inl ⟨by rfl, ?_⟩) (by assumption) ?_
        rotate_left
        · (intro w hSw; (try dsimp only at hSw); go_simp); (first | done | with_reducible rfl)
        try simp only [Act.put, List.setIfInBounds_toArray, List.set_cons_zero, List.set_cons_succ]
        refine wpAnyH_ready (rs := [24]) (by kernel_rfl) (by simp) ?_
        refine AllReadyH.cons (o := { dst := some 127, op := Op.call { callee := Callee.value (Operand.func 33), args := #[Operand.tmp 126], argTypes := #[32] }, type := 22, pos := "outright.go:81", after := #[{ on := 23, ground := Ground.data }, { on := 22, ground := Ground.chain }, { on := 22, ground := Ground.guard }], guard := some (22, true) }) rfl (fun K hK => ?_) AllReadyH.nil
        go_simp
        go_at_call 33
        with_reducible refine (CAl.out _ HE.out.t).mono ?_
        rintro e w13 ⟨a13, c13, rfl, hc13, hb13⟩
        replace HE := Lib.hid (HE.out.below hb13)
        replace HY := Lib.hid (HY.out.below hb13)
        have HM := Lib.hid hc13
        clear hb13 hc13
        go_wp2_with fail
        refine hK.out _ _ ?_ (fun hHeld => ?_)
        · exact ⟨HY.out.cell 0, HY.out.cell 1, HY.out.cell 2⟩
        clear hK K
        try simp only [Act.put, List.setIfInBounds_toArray, List.set_cons_zero, List.set_cons_succ]
        refine wpAnyH_ready (rs := [26]) (by kernel_rfl) (by simp) ?_
        refine AllReadyH.cons (o := { dst := some 129, op := Op.call { callee := Callee.value (Operand.func 35), args := #[Operand.tmp 127, Operand.tmp 128], argTypes := #[22, 22] }, type := 4, pos := "outright.go:81", after := #[{ on := 24, ground := Ground.data }, { on := 25, ground := Ground.data }, { on := 24, ground := Ground.chain }, { on := 22, ground := Ground.guard }], guard := some (22, true) }) rfl (fun K hK => ?_) AllReadyH.nil
        go_simp
        go_at_call 35
        with_reducible refine (CS.out _ _ _ _ _ _ _ _ HM.out HE.out.c rfl rfl (by omega)).mono ?_
        rintro e w14 ⟨rfl, hb14⟩
        replace HE := Lib.hid (HE.out.below hb14)
        replace HY := Lib.hid (HY.out.below hb14)
        clear hb14
        go_wp2_with fail
        refine hK.out _ _ ?_ (fun hHeld => ?_)
        · exact ⟨HY.out.cell 0, HY.out.cell 1, HY.out.cell 2⟩
        clear hK K
        try simp only [Act.put, List.setIfInBounds_toArray, List.set_cons_zero, List.set_cons_succ]
        refine wpAnyH_take (i := 27) (oi := { dst := some 130, op := Op.pick (Operand.tmp 125) (Operand.tmp 129) (Operand.const (Value.bool false)), type := 4, pos := "outright.go:81", after := #[{ on := 22, ground := Ground.data }, { on := 26, ground := Ground.data }], guard := none }) (v := ?_) rfl (by kernel_rfl) (by kernel_rfl) (by kernel_rfl) (fun _ _ _ h => h) (Or.inl ⟨by rfl, ?_⟩) (by assumption) ?_
        rotate_left
        · (intro w hSw; (try dsimp only at hSw); go_simp); (first | done | with_reducible rfl)
        try simp only [Act.put, List.setIfInBounds_toArray, List.set_cons_zero, List.set_cons_succ]
        refine wpAnyH_take (i := 28) (oi := { dst := some 131, op := Op.move (Operand.tmp 130), type := 4, pos := "outright.go:81", after := #[{ on := 27, ground := Ground.data }, { on := 26, ground := Ground.chain }], guard := none }) (v := ?_) rfl (by kernel_rfl) (by kernel_rfl) (by kernel_rfl) (fun _ _ _ h => h) (Or.inl ⟨by rfl, ?_⟩) (by assumption) ?_
        rotate_left
        · (intro w hSw; (try dsimp only at hSw); go_simp); (first | done | with_reducible rfl)
        try simp only [Act.put, List.setIfInBounds_toArray, List.set_cons_zero, List.set_cons_succ]
        refine wpAnyH_ready (rs := [29]) (by kernel_rfl) (by simp) ?_
        refine AllReadyH.cons (o := { dst := some 132, op := Op.call { callee := Callee.value (Operand.func 27), args := #[], argTypes := #[] }, type := 4, pos := "outright.go:81", after := #[{ on := 28, ground := Ground.chain }, { on := 28, ground := Ground.guard }], guard := some (28, true) }) rfl (fun K hK => ?_) AllReadyH.nil
        go_simp
        go_at_call 27
        with_reducible refine (CD.out _).mono ?_
        rintro e w15 ⟨rfl, hb15⟩
        replace HE := Lib.hid (HE.out.below hb15)
        replace HY := Lib.hid (HY.out.below hb15)
        clear hb15
        go_wp2_with fail
        refine hK.out _ _ ?_ (fun hHeld => ?_)
        · exact ⟨HY.out.cell 0, HY.out.cell 1, HY.out.cell 2⟩
        clear hK K
        try simp only [Act.put, List.setIfInBounds_toArray, List.set_cons_zero, List.set_cons_succ]
        refine wpAnyH_take (i := 30) (oi := { dst := some 133, op := Op.pick (Operand.tmp 131) (Operand.tmp 132) (Operand.const (Value.bool false)), type := 4, pos := "outright.go:81", after := #[{ on := 28, ground := Ground.data }, { on := 29, ground := Ground.data }], guard := none }) (v := ?_) rfl (by kernel_rfl) (by kernel_rfl) (by kernel_rfl) (fun _ _ _ h => h) (Or.inl ⟨by rfl, ?_⟩) (by assumption) ?_
        rotate_left
        · (intro w hSw; (try dsimp only at hSw); go_simp); (first | done | with_reducible rfl)
        try simp only [Act.put, List.setIfInBounds_toArray, List.set_cons_zero, List.set_cons_succ]
        refine wpAnyH_take (i := 31) (oi := { dst := some 4, op := Op.assign (Operand.tmp 133), type := 4, pos := "outright.go:81", after := #[{ on := 30, ground := Ground.data }, { on := 29, ground := Ground.chain }, { on := 0, ground := Ground.phase }, { on := 1, ground := Ground.phase }, { on := 2, ground := Ground.phase }, { on := 3, ground := Ground.phase }, { on := 4, ground := Ground.phase }, { on := 5, ground := Ground.phase }, { on := 6, ground := Ground.phase }, { on := 7, ground := Ground.phase }, { on := 8, ground := Ground.phase }, { on := 9, ground := Ground.phase }, { on := 10, ground := Ground.phase }, { on := 11, ground := Ground.phase }, { on := 12, ground := Ground.phase }, { on := 13, ground := Ground.phase }, { on := 14, ground := Ground.phase }, { on := 15, ground := Ground.phase }, { on := 16, ground := Ground.phase }, { on := 17, ground := Ground.phase }, { on := 18, ground := Ground.phase }, { on := 19, ground := Ground.phase }, { on := 20, ground := Ground.phase }, { on := 21, ground := Ground.phase }, { on := 22, ground := Ground.phase }, { on := 23, ground := Ground.phase }, { on := 24, ground := Ground.phase }, { on := 25, ground := Ground.phase }, { on := 26, ground := Ground.phase }, { on := 27, ground := Ground.phase }, { on := 28, ground := Ground.phase }, { on := 29, ground := Ground.phase }, { on := 30, ground := Ground.phase }], guard := none }) (v := ?_) rfl (by kernel_rfl) (by kernel_rfl) (by kernel_rfl) (fun _ _ _ h => h) (Or.inl ⟨by rfl, ?_⟩) (by assumption) ?_
        rotate_left
        · (intro w hSw; (try dsimp only at hSw); go_simp); (first | done | with_reducible rfl)
        refine wpAnyH_done (by kernel_rfl) ?_ _
        go_wp2_with fail
        go_ret
        exact ⟨rfl, HE.out.b⟩
      | cons cc K =>
        obtain rfl : is = true := HIS.out
        obtain rfl : cf = cc := HCF.out
        have hkx := HKY.out cf K rfl
        obtain ⟨g12, o12, rfl, hc12⟩ := HK.out (by simp)
        have HC := Lib.hid (show ClOff cf w12 g12 o12 from by have := hc12 0 (by simp); rwa [Nat.zero_mul, Nat.add_zero] at this)
        obtain ⟨ck, cs, cv⟩ := cf
        obtain rfl : ck = x := hkx
        clear HIS HCF HKY HK hc12
        refine wp_region_held_drew (S := fun V => V.cell? ⟨b11, 0, none⟩ = some (.string (S ck)) ∧ V.cell? ⟨b11, 1, none⟩ = some (.int .i64 cs) ∧ V.cell? ⟨b11, 2, none⟩ = some (.string (S cv)) ∧ V.cell? ⟨g12, o12, none⟩ = some (.string (S ck)) ∧ V.cell? ⟨g12, o12 + 1, none⟩ = some (.int .i64 cs) ∧ V.cell? ⟨g12, o12 + 2, none⟩ = some (.string (S cv))) (by kernel_rfl) ?_ (fun hHeld => ?_)
        · exact ⟨HY.out.cell 0, HY.out.cell 1, HY.out.cell 2, HC.out.1, HC.out.2.1, HC.out.2.2⟩
        replace HE := Lib.hid HE.out.drew
        replace HY := Lib.hid (show RowIn (clA ⟨ck, cs, cv⟩) 38 (World.drew w12) b11 from HY.out)
        replace HC := Lib.hid (show ClOff ⟨ck, cs, cv⟩ (World.drew w12) g12 o12 from HC.out)
        refine wpAnyH_take (i := 0) (oi := { dst := some 103, op := Op.move (Operand.tmp 12), type := 22, pos := "outright.go:81", after := #[], guard := none }) (v := ?_) rfl (by kernel_rfl) (by kernel_rfl) (by kernel_rfl) (fun _ _ _ h => h) (Or.inl ⟨by rfl, ?_⟩) (by assumption) ?_
        rotate_left
        · (intro w hSw; (try dsimp only at hSw); go_simp); (first | done | with_reducible rfl)
        try simp only [Act.put, List.setIfInBounds_toArray, List.set_cons_zero, List.set_cons_succ]
        refine wpAnyH_take (i := 1) (oi := { dst := some 104, op := Op.call { callee := Callee.builtin Builtin.len, args := #[Operand.tmp 103], argTypes := #[22] }, type := 3, pos := "outright.go:81", after := #[{ on := 0, ground := Ground.data }], guard := none }) (v := ?_) rfl (by kernel_rfl) (by kernel_rfl) (by kernel_rfl) (fun _ _ _ h => h) (Or.inl ⟨by rfl, ?_⟩) (by assumption) ?_
        rotate_left
        · (intro w hSw; (try dsimp only at hSw); go_simp); (first | done | with_reducible rfl)
        try simp only [Act.put, List.setIfInBounds_toArray, List.set_cons_zero, List.set_cons_succ]
        refine wpAnyH_take (i := 2) (oi := { dst := some 105, op := Op.binOp BinOp.gtr 3 (Operand.tmp 104) (Operand.const (Value.int IntKind.i64 0)) 3, type := 4, pos := "outright.go:81", after := #[{ on := 1, ground := Ground.data }], guard := none }) (v := ?_) rfl (by kernel_rfl) (by kernel_rfl) (by kernel_rfl) (fun _ _ _ h => h) (Or.inl ⟨by rfl, ?_⟩) (by assumption) ?_
        rotate_left
        · (intro w hSw; (try dsimp only at hSw); go_simp); (first | done | with_reducible rfl)
        try simp only [Act.put, List.setIfInBounds_toArray, List.set_cons_zero, List.set_cons_succ]
        refine wpAnyH_take (i := 3) (oi := { dst := some 106, op := Op.move (Operand.tmp 11), type := 4, pos := "outright.go:81", after := #[], guard := none }) (v := ?_) rfl (by kernel_rfl) (by kernel_rfl) (by kernel_rfl) (fun _ _ _ h => h) (Or.inl ⟨by rfl, ?_⟩) (by assumption) ?_
        rotate_left
        · (intro w hSw; (try dsimp only at hSw); go_simp); (first | done | with_reducible rfl)
        try simp only [Act.put, List.setIfInBounds_toArray, List.set_cons_zero, List.set_cons_succ]
        refine wpAnyH_take (i := 4) (oi := { dst := some 107, op := Op.binOp BinOp.eql 4 (Operand.tmp 105) (Operand.tmp 106) 4, type := 4, pos := "outright.go:81", after := #[{ on := 2, ground := Ground.data }, { on := 3, ground := Ground.data }], guard := none }) (v := ?_) rfl (by kernel_rfl) (by kernel_rfl) (by kernel_rfl) (fun _ _ _ h => h) (Or.inl ⟨by rfl, ?_⟩) (by assumption) ?_
        rotate_left
        · (intro w hSw; (try dsimp only at hSw); go_simp); (first | done | with_reducible rfl)
        try simp only [Act.put, List.setIfInBounds_toArray, List.set_cons_zero, List.set_cons_succ]
        refine wpAnyH_take (i := 5) (oi := { dst := some 108, op := Op.move (Operand.tmp 107), type := 4, pos := "outright.go:81", after := #[{ on := 4, ground := Ground.data }], guard := none }) (v := ?_) rfl (by kernel_rfl) (by kernel_rfl) (by kernel_rfl) (fun _ _ _ h => h) (Or.inl ⟨by rfl, ?_⟩) (by assumption) ?_
        rotate_left
        · (intro w hSw; (try dsimp only at hSw); go_simp); (first | done | with_reducible rfl)
        try simp only [Act.put, List.setIfInBounds_toArray, List.set_cons_zero, List.set_cons_succ]
        refine wpAnyH_take (i := 6) (oi := { dst := some 109, op := Op.move (Operand.tmp 11), type := 4, pos := "outright.go:81", after := #[{ on := 5, ground := Ground.guard }], guard := some (5, true) }) (v := ?_) rfl (by kernel_rfl) (by kernel_rfl) (by kernel_rfl) (fun _ _ _ h => h) (Or.inl ⟨by rfl, ?_⟩) (by assumption) ?_
        rotate_left
        · (intro w hSw; (try dsimp only at hSw); go_simp); (first | done | with_reducible rfl)
        try simp only [Act.put, List.setIfInBounds_toArray, List.set_cons_zero, List.set_cons_succ]
        refine wpAnyH_take (i := 7) (oi := { dst := some 110, op := Op.unOp UnOp.not 4 (Operand.tmp 109), type := 4, pos := "outright.go:81", after := #[{ on := 6, ground := Ground.data }, { on := 5, ground := Ground.guard }], guard := some (5, true) }) (v := ?_) rfl (by kernel_rfl) (by kernel_rfl) (by kernel_rfl) (fun _ _ _ h => h) (Or.inl ⟨by rfl, ?_⟩) (by assumption) ?_
        rotate_left
        · (intro w hSw; (try dsimp only at hSw); go_simp); (first | done | with_reducible rfl)
        try simp only [Act.put, List.setIfInBounds_toArray, List.set_cons_zero, List.set_cons_succ]
        refine wpAnyH_take (i := 8) (oi := { dst := some 111, op := Op.move (Operand.tmp 110), type := 4, pos := "outright.go:81", after := #[{ on := 7, ground := Ground.data }, { on := 5, ground := Ground.chain }, { on := 5, ground := Ground.guard }], guard := some (5, true) }) (v := ?_) rfl (by kernel_rfl) (by kernel_rfl) (by kernel_rfl) (fun _ _ _ h => h) (Or.inl ⟨by rfl, ?_⟩) (by assumption) ?_
        rotate_left
        · (intro w hSw; (try dsimp only at hSw); go_simp); (first | done | with_reducible rfl)
        try simp only [Act.put, List.setIfInBounds_toArray, List.set_cons_zero, List.set_cons_succ]
        refine wpAnyH_take (i := 9) (oi := { dst := some 112, op := Op.move (Operand.tmp 12), type := 22, pos := "outright.go:81", after := #[{ on := 8, ground := Ground.guard }], guard := some (8, false) }) (v := ?_) rfl (by kernel_rfl) (by kernel_rfl) (by kernel_rfl) (fun _ _ _ h => h) (Or.inl ⟨by rfl, ?_⟩) (by assumption) ?_
        rotate_left
        · (intro w hSw; (try dsimp only at hSw); go_simp); (first | done | with_reducible rfl)
        try simp only [Act.put, List.setIfInBounds_toArray, List.set_cons_zero, List.set_cons_succ]
        refine wpAnyH_take (i := 10) (oi := { dst := some 113, op := Op.indexAddr 22 (Operand.tmp 112) (Operand.const (Value.int IntKind.i64 0)), type := 0, pos := "outright.go:81", after := #[{ on := 9, ground := Ground.data }, { on := 8, ground := Ground.guard }], guard := some (8, false) }) (v := ?_) rfl (by kernel_rfl) (by kernel_rfl) (by kernel_rfl) (fun _ _ _ h => h) (Or.inl ⟨by rfl, ?_⟩) (by assumption) ?_
        rotate_left
        · (intro w hSw; (try dsimp only at hSw); go_simp); (first | done | with_reducible rfl)
        try simp only [Act.put, List.setIfInBounds_toArray, List.set_cons_zero, List.set_cons_succ]
        refine wpAnyH_take (i := 11) (oi := { dst := some 114, op := Op.load 38 (Operand.tmp 113), type := 38, pos := "outright.go:81", after := #[{ on := 10, ground := Ground.data }, { on := 8, ground := Ground.guard }], guard := some (8, false) }) (v := ?_) rfl (by kernel_rfl) (by kernel_rfl) (by kernel_rfl) (fun _ _ _ h => h) (Or.inl ⟨by rfl, ?_⟩) (by assumption) ?_
        rotate_left
        · (intro w hSw; (try dsimp only at hSw); go_simp); (first | done | with_reducible rfl)
        try simp only [Act.put, List.setIfInBounds_toArray, List.set_cons_zero, List.set_cons_succ]
        refine wpAnyH_take (i := 12) (oi := { dst := some 115, op := Op.load 38 (Operand.tmp 10), type := 38, pos := "outright.go:81", after := #[{ on := 8, ground := Ground.guard }], guard := some (8, false) }) (v := ?_) rfl (by kernel_rfl) (by kernel_rfl) (by kernel_rfl) (fun _ _ _ h => h) (Or.inl ⟨by rfl, ?_⟩) (by assumption) ?_
        rotate_left
        · (intro w hSw; (try dsimp only at hSw); go_simp); (first | done | with_reducible rfl)
        try simp only [Act.put, List.setIfInBounds_toArray, List.set_cons_zero, List.set_cons_succ]
        refine wpAnyH_take (i := 13) (oi := { dst := some 116, op := Op.binOp BinOp.eql 38 (Operand.tmp 114) (Operand.tmp 115) 38, type := 4, pos := "outright.go:81", after := #[{ on := 11, ground := Ground.data }, { on := 12, ground := Ground.data }, { on := 8, ground := Ground.guard }], guard := some (8, false) }) (v := ?_) rfl (by kernel_rfl) (by kernel_rfl) (by kernel_rfl) (fun _ _ _ h => h) (Or.inl ⟨by rfl, ?_⟩) (by assumption) ?_
        rotate_left
        · (intro w hSw; (try dsimp only at hSw); go_simp); (first | done | with_reducible rfl)
        try simp only [Act.put, List.setIfInBounds_toArray, List.set_cons_zero, List.set_cons_succ]
        refine wpAnyH_take (i := 14) (oi := { dst := some 117, op := Op.move (Operand.tmp 116), type := 4, pos := "outright.go:81", after := #[{ on := 13, ground := Ground.data }, { on := 8, ground := Ground.chain }, { on := 8, ground := Ground.guard }], guard := some (8, false) }) (v := ?_) rfl (by kernel_rfl) (by kernel_rfl) (by kernel_rfl) (fun _ _ _ h => h) (Or.inl ⟨by rfl, ?_⟩) (by assumption) ?_
        rotate_left
        · (intro w hSw; (try dsimp only at hSw); go_simp); (first | done | with_reducible rfl)
        try simp only [Act.put, List.setIfInBounds_toArray, List.set_cons_zero, List.set_cons_succ]
        refine wpAnyH_take (i := 15) (oi := { dst := some 118, op := Op.fieldAddr 38 (Operand.tmp 10) 0, type := 0, pos := "outright.go:81", after := #[{ on := 14, ground := Ground.guard }], guard := some (14, true) }) (v := ?_) rfl (by kernel_rfl) (by kernel_rfl) (by kernel_rfl) (fun _ _ _ h => h) (Or.inl ⟨by rfl, ?_⟩) (by assumption) ?_
        rotate_left
        · (intro w hSw; (try dsimp only at hSw); go_simp); (first | done | with_reducible rfl)
        try simp only [Act.put, List.setIfInBounds_toArray, List.set_cons_zero, List.set_cons_succ]
        refine wpAnyH_take (i := 16) (oi := { dst := some 119, op := Op.load 9 (Operand.tmp 118), type := 9, pos := "outright.go:81", after := #[{ on := 15, ground := Ground.data }, { on := 14, ground := Ground.guard }], guard := some (14, true) }) (v := ?_) rfl (by kernel_rfl) (by kernel_rfl) (by kernel_rfl) (fun _ _ _ h => h) (Or.inl ⟨by rfl, ?_⟩) (by assumption) ?_
        rotate_left
        · (intro w hSw; (try dsimp only at hSw); go_simp); (first | done | with_reducible rfl)
        try simp only [Act.put, List.setIfInBounds_toArray, List.set_cons_zero, List.set_cons_succ]
        refine wpAnyH_take (i := 17) (oi := { dst := some 120, op := Op.move (Operand.tmp 7), type := 9, pos := "outright.go:81", after := #[{ on := 14, ground := Ground.guard }], guard := some (14, true) }) (v := ?_) rfl (by kernel_rfl) (by kernel_rfl) (by kernel_rfl) (fun _ _ _ h => h) (Or.inl ⟨by rfl, ?_⟩) (by assumption) ?_
        rotate_left
        · (intro w hSw; (try dsimp only at hSw); go_simp); (first | done | with_reducible rfl)
        try simp only [Act.put, List.setIfInBounds_toArray, List.set_cons_zero, List.set_cons_succ]
        refine wpAnyH_take (i := 18) (oi := { dst := some 121, op := Op.binOp BinOp.eql 9 (Operand.tmp 119) (Operand.tmp 120) 9, type := 4, pos := "outright.go:81", after := #[{ on := 16, ground := Ground.data }, { on := 17, ground := Ground.data }, { on := 14, ground := Ground.guard }], guard := some (14, true) }) (v := ?_) rfl (by kernel_rfl) (by kernel_rfl) (by kernel_rfl) (fun _ _ _ h => h) (Or.inl ⟨by rfl, ?_⟩) (by assumption) ?_
        rotate_left
        · (intro w hSw; (try dsimp only at hSw); go_simp); (first | done | with_reducible rfl)
        try simp only [Act.put, List.setIfInBounds_toArray, List.set_cons_zero, List.set_cons_succ]
        refine wpAnyH_take (i := 19) (oi := { dst := some 122, op := Op.pick (Operand.tmp 117) (Operand.tmp 121) (Operand.const (Value.bool false)), type := 4, pos := "outright.go:81", after := #[{ on := 14, ground := Ground.data }, { on := 18, ground := Ground.data }, { on := 8, ground := Ground.guard }], guard := some (8, false) }) (v := ?_) rfl (by kernel_rfl) (by kernel_rfl) (by kernel_rfl) (fun _ _ _ h => h) (Or.inl ⟨by rfl, ?_⟩) (by assumption) ?_
        rotate_left
        · (intro w hSw; (try dsimp only at hSw); go_simp); (first | done | with_reducible rfl)
        try simp only [Act.put, List.setIfInBounds_toArray, List.set_cons_zero, List.set_cons_succ]
        refine wpAnyH_take (i := 20) (oi := { dst := some 123, op := Op.pick (Operand.tmp 111) (Operand.const (Value.bool true)) (Operand.tmp 122), type := 4, pos := "outright.go:81", after := #[{ on := 8, ground := Ground.data }, { on := 19, ground := Ground.data }, { on := 5, ground := Ground.guard }], guard := some (5, true) }) (v := ?_) rfl (by kernel_rfl) (by kernel_rfl) (by kernel_rfl) (fun _ _ _ h => h) (Or.inl ⟨by rfl, ?_⟩) (by assumption) ?_
        rotate_left
        · (intro w hSw; (try dsimp only at hSw); go_simp); (first | done | with_reducible rfl)
        try simp only [Act.put, List.setIfInBounds_toArray, List.set_cons_zero, List.set_cons_succ]
        refine wpAnyH_take (i := 21) (oi := { dst := some 124, op := Op.pick (Operand.tmp 108) (Operand.tmp 123) (Operand.const (Value.bool false)), type := 4, pos := "outright.go:81", after := #[{ on := 5, ground := Ground.data }, { on := 20, ground := Ground.data }], guard := none }) (v := ?_) rfl (by kernel_rfl) (by kernel_rfl) (by kernel_rfl) (fun _ _ _ h => h) (Or.inl ⟨by rfl, ?_⟩) (by assumption) ?_
        rotate_left
        · (intro w hSw; (try dsimp only at hSw); go_simp); (first | done | with_reducible rfl)
        try simp only [Act.put, List.setIfInBounds_toArray, List.set_cons_zero, List.set_cons_succ]
        refine wpAnyH_take (i := 22) (oi := { dst := some 125, op := Op.move (Operand.tmp 124), type := 4, pos := "outright.go:81", after := #[{ on := 21, ground := Ground.data }, { on := 14, ground := Ground.chain }], guard := none }) (v := ?_) rfl (by kernel_rfl) (by kernel_rfl) (by kernel_rfl) (fun _ _ _ h => h) (Or.inl ⟨by rfl, ?_⟩) (by assumption) ?_
        rotate_left
        · (intro w hSw; (try dsimp only at hSw); go_simp); (first | done | with_reducible rfl)
        try simp only [Act.put, List.setIfInBounds_toArray, List.set_cons_zero, List.set_cons_succ]
        refine wpAnyH_take (i := 23) (oi := { dst := some 126, op := Op.move (Operand.tmp 5), type := 32, pos := "outright.go:81", after := #[{ on := 22, ground := Ground.guard }], guard := some (22, true) }) (v := ?_) rfl (by kernel_rfl) (by kernel_rfl) (by kernel_rfl) (fun _ _ _ h => h) (Or.inl ⟨by rfl, ?_⟩) (by assumption) ?_
        rotate_left
        · (intro w hSw; (try dsimp only at hSw); go_simp); (first | done | with_reducible rfl)
        try simp only [Act.put, List.setIfInBounds_toArray, List.set_cons_zero, List.set_cons_succ]
        refine wpAnyH_take (i := 25) (oi := { dst := some 128, op := Op.move (Operand.tmp 0), type := 22, pos := "outright.go:81", after := #[{ on := 22, ground := Ground.guard }], guard := some (22, true) }) (v := ?_) rfl (by kernel_rfl) (by kernel_rfl) (by kernel_rfl) (fun _ _ _ h => h) (Or.inl ⟨by rfl, ?_⟩) (by assumption) ?_
        rotate_left
        · (intro w hSw; (try dsimp only at hSw); go_simp); (first | done | with_reducible rfl)
        try simp only [Act.put, List.setIfInBounds_toArray, List.set_cons_zero, List.set_cons_succ]
        refine wpAnyH_ready (rs := [24]) (by kernel_rfl) (by simp) ?_
        refine AllReadyH.cons (o := { dst := some 127, op := Op.call { callee := Callee.value (Operand.func 33), args := #[Operand.tmp 126], argTypes := #[32] }, type := 22, pos := "outright.go:81", after := #[{ on := 23, ground := Ground.data }, { on := 22, ground := Ground.chain }, { on := 22, ground := Ground.guard }], guard := some (22, true) }) rfl (fun K hK => ?_) AllReadyH.nil
        go_simp
        go_at_call 33
        with_reducible refine (CAl.out _ HE.out.t).mono ?_
        rintro e w13 ⟨a13, c13, rfl, hc13, hb13⟩
        replace HE := Lib.hid (HE.out.below hb13)
        replace HY := Lib.hid (HY.out.below hb13)
        replace HC := Lib.hid (HC.out.below10 hb13)
        have HM := Lib.hid hc13
        clear hb13 hc13
        go_wp2_with fail
        refine hK.out _ _ ?_ (fun hHeld => ?_)
        · exact ⟨HY.out.cell 0, HY.out.cell 1, HY.out.cell 2, HC.out.1, HC.out.2.1, HC.out.2.2⟩
        clear hK K
        try simp only [Act.put, List.setIfInBounds_toArray, List.set_cons_zero, List.set_cons_succ]
        refine wpAnyH_ready (rs := [26]) (by kernel_rfl) (by simp) ?_
        refine AllReadyH.cons (o := { dst := some 129, op := Op.call { callee := Callee.value (Operand.func 35), args := #[Operand.tmp 127, Operand.tmp 128], argTypes := #[22, 22] }, type := 4, pos := "outright.go:81", after := #[{ on := 24, ground := Ground.data }, { on := 25, ground := Ground.data }, { on := 24, ground := Ground.chain }, { on := 22, ground := Ground.guard }], guard := some (22, true) }) rfl (fun K hK => ?_) AllReadyH.nil
        go_simp
        go_at_call 35
        with_reducible refine (CS.out _ _ _ _ _ _ _ _ HM.out HE.out.c rfl rfl (by omega)).mono ?_
        rintro e w14 ⟨rfl, hb14⟩
        replace HE := Lib.hid (HE.out.below hb14)
        replace HY := Lib.hid (HY.out.below hb14)
        replace HC := Lib.hid (HC.out.below10 hb14)
        clear hb14
        go_wp2_with fail
        refine hK.out _ _ ?_ (fun hHeld => ?_)
        · exact ⟨HY.out.cell 0, HY.out.cell 1, HY.out.cell 2, HC.out.1, HC.out.2.1, HC.out.2.2⟩
        clear hK K
        try simp only [Act.put, List.setIfInBounds_toArray, List.set_cons_zero, List.set_cons_succ]
        refine wpAnyH_take (i := 27) (oi := { dst := some 130, op := Op.pick (Operand.tmp 125) (Operand.tmp 129) (Operand.const (Value.bool false)), type := 4, pos := "outright.go:81", after := #[{ on := 22, ground := Ground.data }, { on := 26, ground := Ground.data }], guard := none }) (v := ?_) rfl (by kernel_rfl) (by kernel_rfl) (by kernel_rfl) (fun _ _ _ h => h) (Or.inl ⟨by rfl, ?_⟩) (by assumption) ?_
        rotate_left
        · (intro w hSw; (try dsimp only at hSw); go_simp); (first | done | with_reducible rfl)
        try simp only [Act.put, List.setIfInBounds_toArray, List.set_cons_zero, List.set_cons_succ]
        refine wpAnyH_take (i := 28) (oi := { dst := some 131, op := Op.move (Operand.tmp 130), type := 4, pos := "outright.go:81", after := #[{ on := 27, ground := Ground.data }, { on := 26, ground := Ground.chain }], guard := none }) (v := ?_) rfl (by kernel_rfl) (by kernel_rfl) (by kernel_rfl) (fun _ _ _ h => h) (Or.inl ⟨by rfl, ?_⟩) (by assumption) ?_
        rotate_left
        · (intro w hSw; (try dsimp only at hSw); go_simp); (first | done | with_reducible rfl)
        try simp only [Act.put, List.setIfInBounds_toArray, List.set_cons_zero, List.set_cons_succ]
        refine wpAnyH_ready (rs := [29]) (by kernel_rfl) (by simp) ?_
        refine AllReadyH.cons (o := { dst := some 132, op := Op.call { callee := Callee.value (Operand.func 27), args := #[], argTypes := #[] }, type := 4, pos := "outright.go:81", after := #[{ on := 28, ground := Ground.chain }, { on := 28, ground := Ground.guard }], guard := some (28, true) }) rfl (fun K hK => ?_) AllReadyH.nil
        go_simp
        go_at_call 27
        with_reducible refine (CD.out _).mono ?_
        rintro e w15 ⟨rfl, hb15⟩
        replace HE := Lib.hid (HE.out.below hb15)
        replace HY := Lib.hid (HY.out.below hb15)
        replace HC := Lib.hid (HC.out.below10 hb15)
        clear hb15
        go_wp2_with fail
        refine hK.out _ _ ?_ (fun hHeld => ?_)
        · exact ⟨HY.out.cell 0, HY.out.cell 1, HY.out.cell 2, HC.out.1, HC.out.2.1, HC.out.2.2⟩
        clear hK K
        try simp only [Act.put, List.setIfInBounds_toArray, List.set_cons_zero, List.set_cons_succ]
        refine wpAnyH_take (i := 30) (oi := { dst := some 133, op := Op.pick (Operand.tmp 131) (Operand.tmp 132) (Operand.const (Value.bool false)), type := 4, pos := "outright.go:81", after := #[{ on := 28, ground := Ground.data }, { on := 29, ground := Ground.data }], guard := none }) (v := ?_) rfl (by kernel_rfl) (by kernel_rfl) (by kernel_rfl) (fun _ _ _ h => h) (Or.inl ⟨by rfl, ?_⟩) (by assumption) ?_
        rotate_left
        · (intro w hSw; (try dsimp only at hSw); go_simp); (first | done | with_reducible rfl)
        try simp only [Act.put, List.setIfInBounds_toArray, List.set_cons_zero, List.set_cons_succ]
        refine wpAnyH_take (i := 31) (oi := { dst := some 4, op := Op.assign (Operand.tmp 133), type := 4, pos := "outright.go:81", after := #[{ on := 30, ground := Ground.data }, { on := 29, ground := Ground.chain }, { on := 0, ground := Ground.phase }, { on := 1, ground := Ground.phase }, { on := 2, ground := Ground.phase }, { on := 3, ground := Ground.phase }, { on := 4, ground := Ground.phase }, { on := 5, ground := Ground.phase }, { on := 6, ground := Ground.phase }, { on := 7, ground := Ground.phase }, { on := 8, ground := Ground.phase }, { on := 9, ground := Ground.phase }, { on := 10, ground := Ground.phase }, { on := 11, ground := Ground.phase }, { on := 12, ground := Ground.phase }, { on := 13, ground := Ground.phase }, { on := 14, ground := Ground.phase }, { on := 15, ground := Ground.phase }, { on := 16, ground := Ground.phase }, { on := 17, ground := Ground.phase }, { on := 18, ground := Ground.phase }, { on := 19, ground := Ground.phase }, { on := 20, ground := Ground.phase }, { on := 21, ground := Ground.phase }, { on := 22, ground := Ground.phase }, { on := 23, ground := Ground.phase }, { on := 24, ground := Ground.phase }, { on := 25, ground := Ground.phase }, { on := 26, ground := Ground.phase }, { on := 27, ground := Ground.phase }, { on := 28, ground := Ground.phase }, { on := 29, ground := Ground.phase }, { on := 30, ground := Ground.phase }], guard := none }) (v := ?_) rfl (by kernel_rfl) (by kernel_rfl) (by kernel_rfl) (fun _ _ _ h => h) (Or.inl ⟨by rfl, ?_⟩) (by assumption) ?_
        rotate_left
        · (intro w hSw; (try dsimp only at hSw); go_simp); (first | done | with_reducible rfl)
        refine wpAnyH_done (by kernel_rfl) ?_ _
        go_wp2_with fail
        go_ret
        exact ⟨rfl, HE.out.b⟩

end Go.Proofs.Ythidmgnfdikppaa
