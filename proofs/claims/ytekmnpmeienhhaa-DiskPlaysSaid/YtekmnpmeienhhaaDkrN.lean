/- Layer 5: DiskPlays, walked. -/
import Derived.Test.YtekmnpmeienhhaaDkrM
namespace Go.Proofs.Ytekmnpmeienhhaa
set_option linter.unusedVariables false
open Go Go.RowKit Go.Maps

theorem step_append_ns5 {w : World} {ops : Array Oper} {o : Oper} {a : Act} {K : Act → World → Prop} {Q : Exit → Act → World → Prop} {E : Prop} (hgd : o.guard = none) (s x : Operand) (t : TypeId)
    (hop : o.op = .call { callee := .builtin .append, args := #[s, x], argTypes := #[t, t] })
    (base : Nat) (i : TypeInfo) (ht : Try.prog.underlying t = some (.slice 3)) (hi : Try.prog.info? 3 = some i) (hz : i.zero = some (.int .i64 0)) (h1 : i.size = 1) (h2 : i.bytes = 8)
    (v : Value) (n : Nat) (xs : List Value) (hv : a.eval s = v) (ho : w.ownsRow base 3 1 v n xs) (ao : Option Addr) (c : Nat) (L : List Int) (hx : a.eval x = .slice ao L.length c) (hs : NsA5 w ao L) (h63 : n + L.length ≤ 2000000) (hbase : base ≤ w.heap.size)
    (h : ∀ v' w', w'.ownsRow base 3 1 v' (n + L.length) (xs ++ ints5 L) → w.grownBy w' v.ownBlock → (v'.ownBlock = v.ownBlock ∨ v'.ownBlock = some w.heap.size) → K (a.put o.dst v') w') :
    if Region.wanted o (yielded ops a.tmps) = true then Oper.wp Try.prog o a w K Q else E := by
  have hw : Region.wanted o (yielded ops a.tmps) = true := by simp [Region.wanted, hgd]
  rw [if_pos hw]
  obtain ⟨v', w', hrun, h5, h6, h7⟩ := append_ns5 w base t o.type i ht hi hz h1 h2 v n xs ho ao c L hs h63 hbase
  unfold Oper.wp execOp
  simp only [hop, resolve, invoke, builtin, Sem.run_bind, Sem.run_pure, Result.andThen_ok, List.map_toArray, List.map_cons, List.map_nil, hv, hx, hrun]
  exact h v' w' h5 h6 h7
theorem ints_pre5 (l s : List Int) {j : Nat} (hj : j < l.length) : (ints5 (l ++ s))[j]? = some (.int .i64 (l.getD j 0)) := by
  unfold ints5
  rw [List.getElem?_map, List.getElem?_append_left hj, List.getElem?_eq_getElem hj]
  simp [List.getD, hj]
theorem ints_last5 (l : List Int) (v : Int) : (ints5 (l ++ [v]))[l.length]? = some (.int .i64 v) := by
  unfold ints5
  rw [List.getElem?_map, List.getElem?_append_right (Nat.le_refl _)]
  simp
theorem bk_one5 {w : World} {q : Nat} {v : Int} (h : Bk #[.int .i64 v] 3 w q) : NsA5 w (some ⟨q, 0, none⟩) [v] := fun _ => ⟨q, 0, rfl, fun j hj => by
  have hj2 : j = 0 := by simp at hj; omega
  subst hj2
  exact h.cell 0⟩
theorem make_ns5 (n : Nat) (hn : n ≤ 1000000) (kl kc : IntKind) :
    ∃ C : Array Value, C.size = n * 1 ∧ ∀ w : World, (Instr.makeSlice 32 (.int kl 0) (.int kc (n : Int))).run Try.prog w = .ok (.slice (some ⟨w.heap.size, 0, none⟩) 0 n) (w.alloc (.cells C 3)) := by
  obtain ⟨i0, hi, hz0, hz1, hz2⟩ := info_parts infoInt5
  refine ⟨madeCells (Value.int .i64 0).cells (n * 1), by simp [size_madeCells], fun w => ?_⟩
  have hr := run_make (P := Try.prog) w 32 _ i0 _ Try.underlying32 hi hz0 kl kc 0 n (by omega) (by omega) (by rw [hz2]; omega) (by omega)
  rw [hz1] at hr
  exact hr
theorem rNewNo5 (n : Int) (w : World) (h : n < 1 ∨ 1048576 < n) : Calls Try.prog 18 #[.int .i64 n] w fun e w' => e = .returned (.tuple #[.pointer none, .int .i64 2]) ∧ w = w' := by
  by_cases h1 : n < 1
  · have d1 : decide (n < (1 : Int)) = true := decide_eq_true h1
    go_enter Try.func18, Try.ntmps18
    go_wp2_with fail
    go_ret2
    exact ⟨rfl, rfl⟩
  · have d1 : decide (n < (1 : Int)) = false := decide_eq_false h1
    have d2 : decide ((1048576 : Int) < n) = true := decide_eq_true (by omega)
    go_enter Try.func18, Try.ntmps18
    go_wp2_with fail
    go_ret2
    exact ⟨rfl, rfl⟩
/-- What the law carries from act to act. -/
structure Py5 (V : World) (P : Nat → Prop) (B a r i : Nat) (D : Dk.St) (w : World) : Prop where
  two : Pl5 P B a r D D w
  starts : D.starts ≤ i
  bel : Below B V w
section
variable {V w w' : World} {P P' : Nat → Prop} {B a r i : Nat} {D : Dk.St}
theorem Py5.below (h : Py5 V P B a r i D w) (hb : Below w.heap.size w w') : Py5 V P B a r i D w' := ⟨h.two.below hb, h.starts, h.bel.trans (hb.mono h.two.size)⟩
theorem Py5.newrow (h : Py5 V P B a r i D w) (hb : Below w.heap.size w w') : Py5 V (fun q => P q ∨ (w.heap.size ≤ q ∧ q < w'.heap.size)) B a r i D w' := ⟨h.two.newrow hb, h.starts, h.bel.trans (hb.mono h.two.size)⟩
theorem Py5.less (h : Py5 V P B a r i D w) (hP : ∀ k, P' k → P k) : Py5 V P' B a r i D w := ⟨h.two.less hP, h.starts, h.bel⟩
/-- Cells of blocks that neither disk has are written. -/
theorem Pl5.wr {Dr : Dk.St} {A : Nat → Prop} (h : Pl5 P B a r D Dr w) (hw : Wr A w w') (hA : ∀ k, A k → P k) : Pl5 P B a r D Dr w' := by
  obtain ⟨F, c, h1, h2, h3, h4, h5, h6, h7⟩ := h
  exact ⟨F, c, h1.wr hw (fun b hb ha => h5 b (hA b ha) hb), h2.wr hw (fun b hb ha => (h4 b hb).2 (hA b ha)), h3, h4, h5, fun k hk => Nat.lt_of_lt_of_le (h6 k hk) hw.size, Nat.le_trans h7 hw.size⟩
end
set_option maxRecDepth 100000 in
set_option maxHeartbeats 16000000 in
theorem diskPlays_calls (W : World) (cp : Int) (hcp : (Lit.int .i64 cp).wf = true) (v : Value) (hv : URas W v) : Calls Try.prog 3 #[.int .i64 cp, v] W fun e w' => e = .returned (.bool true) ∧ Below W.heap.size W w' := by
  obtain ⟨L, ao, cap, rfl, hI, hA⟩ := hv
  have CG := Lib.hid (great5 L ao cap W hI hA)
  have CD := Lib.hid does5
  have HI := Lib.hid hI
  have HA := Lib.hid hA
  clear hI hA
  by_cases hc : 1 ≤ cp ∧ cp ≤ 1048576
  · obtain ⟨n, rfl⟩ : ∃ n : Nat, cp = (n : Int) := ⟨cp.toNat, by omega⟩
    have CN := Lib.hid (newXd5 n W (by omega) (by omega))
    have CR := Lib.hid (fun w1 => rNew5 n w1 (by omega) (by omega))
    clear hc hcp
    go_enter Try.func3, Try.ntmps3
    go_wp2_with fail
    with_reducible refine CG.out.mono ?_
    rintro e w1 (⟨rfl, rfl⟩ | ⟨rfl, hF, rfl⟩)
    · go_wp2_with fail
      go_ret
      exact ⟨rfl, Below.refl _ _⟩
    have HF := Lib.hid hF
    have hL := hF.n
    clear hF CG
    go_wp2_with fail
    with_reducible refine CN.out.mono ?_
    rintro e w1 ⟨a, rfl, hd, hb, hda⟩
    have HD := Lib.hid hd
    have HB := Lib.hid hb
    clear hd hb CN hda
    go_wp2_with fail
    with_reducible refine (CR.out _).mono ?_
    rintro e w2 ⟨rfl, hr, hb2⟩
    have H0 := Lib.hid (show ∃ D, Py5 W (fun _ => False) W.heap.size a w1.heap.size 0 D w2 from by
      obtain ⟨F, h1, _⟩ := HD.out
      have f1 := h1.fp
      have hr' : RfIn W.heap.size w1.heap.size rc0 (Dk.new n) w2 := ⟨hr.box, row_base5 hr.row HB.out.size, row_base5 hr.krow HB.out.size, hr.set, hr.ok, hr.few, hr.small⟩
      refine ⟨Dk.new n, ⟨F, rc0, h1.below hb2, hr', HB.out.size, fun k hk => ⟨fun hf => ?_, fun q => q⟩, fun k q => q.elim, fun k q => q.elim, Nat.le_trans HB.out.size hb2.size⟩, Nat.le_refl _, HB.out.trans (hb2.mono HB.out.size)⟩
      rcases hk with rfl | ⟨x, hx, _⟩ | ⟨x, hx, _⟩
      · have := (f1 _ hf).2; omega
      · cases hx
      · cases hx)
    obtain ⟨r, hr9⟩ : ∃ x, x = w1.heap.size := ⟨_, rfl⟩
    rw [← hr9] at H0 ⊢
    clear hr hb2 CR HD HB hr9
    go_wp2_with fail
    go_loopw [9] (fun v wr => ∃ i : Nat, i ≤ L.length ∧ v = .int .i64 i ∧ Hid (∃ D, Py5 W (fun _ => False) W.heap.size a r i D wr)) (fun v _ => L.length - (intOf v).toNat)
    case atStart => exact ⟨0, Nat.zero_le _, rfl, H0⟩
    case round =>
      clear H0
      obtain ⟨w3, rfl⟩ : ∃ x, x = wr := ⟨_, rfl⟩
      obtain ⟨i, hi, rfl, HH⟩ := hrel
      obtain ⟨D, hP⟩ := HH.out
      have HP := Lib.hid hP
      clear HH hP
      by_cases hlt : i < L.length
      · have d1 : decide (i < L.length) = true := by simpa using hlt
        have HRI := Lib.hid (show RaIn (L.getD i ra0) from ra_in5 (HI.out.each _ (by rw [show L.getD i ra0 = L[i] from by simp [List.getD, hlt]]; exact List.getElem_mem hlt)) (HF.out.each i hlt))
        have HK9 := Lib.hid (HF.out.each i hlt).keep
        obtain ⟨g, off, hao, hra⟩ := actAt_of HA.out hlt
        subst hao
        have HRA := Lib.hid (show ActAt W.heap.size w3 g (off + i * 6) (L.getD i ra0) from hra.below HP.out.bel)
        have hi1 : (0 : Int) ≤ (i : Int) := by omega
        have hi2 : (i : Int) < (L.length : Int) := by omega
        clear hra
        generalize L.getD i ra0 = x at *
        obtain ⟨⟨c0, c1, c2, c3, c4, c5, -⟩, -, -⟩ := HRA.out
        go_upto_region 13 with fail
        obtain ⟨xb, hxb⟩ : ∃ q, q = w3.heap.size := ⟨_, rfl⟩
        obtain ⟨w4, hw4⟩ : ∃ q, q = w3.alloc (.cells #[.int .u8 x.kind, .string (S x.name), .string (S x.other), .string (S x.data), .int .i64 x.n, .slice x.o x.keep.length x.k] 34) := ⟨_, rfl⟩
        have hb34 : Below w3.heap.size w3 w4 := by rw [hw4]; exact (Below.refl _ _).alloc (Nat.le_refl _) _
        have HXB := Lib.hid (show Bk #[.int .u8 x.kind, .string (S x.name), .string (S x.other), .string (S x.data), .int .i64 x.n, .slice x.o x.keep.length x.k] 34 w4 xb from by rw [hw4, hxb]; exact bk_new _ _ _)
        have HXW := Lib.hid (show xb = w3.heap.size from hxb)
        have HB34 := Lib.hid hb34
        have HR4 := Lib.hid (show ActAt W.heap.size w4 g (off + i * 6) x from HRA.out.below (hb34.mono HP.out.two.size))
        rw [← hw4, ← hxb]
        clear hw4 hxb hb34 c0 c1 c2 c3 c4 c5
        obtain ⟨kn, hkn⟩ : ∃ q, q = x.keep.length := ⟨_, rfl⟩
        obtain ⟨k1, hk1⟩ : ∃ q, q = kn + 1 := ⟨_, rfl⟩
        have hk9 : kn ≤ 100 := by rw [hkn]; exact HK9.out
        have HKN := Lib.hid hkn
        have HK1 := Lib.hid hk1
        obtain ⟨j0, hj, hy0, hy1, hy2⟩ := info_parts infoInt5
        obtain ⟨C, hC, hmk⟩ := make_ns5 k1 (by omega) .i64 .i64
        have e1 : IntKind.i64.wrap ((x.keep.length : Int) + 1) = (k1 : Int) := by rw [IntWalk.i64_in _ (by omega)]; omega
        have HCE := Lib.hid (fun wy (hy : Below w4.heap.size w4 wy) => (show wy.cell? ⟨g, off + i * 6 + 5, none⟩ = some (.slice x.o x.keep.length x.k) from (HR4.out.below (hy.mono (Nat.le_trans HP.out.two.size HB34.out.size))).at_.2.2.2.2.2.1))
        have HB := Lib.hid (Below.refl w4.heap.size w4).drew
        clear hkn hk1 hk9
        refine wp_region_Z (S := fun V => V.cell? ⟨g, off + i * 6 + 5, none⟩ = some (.slice x.o x.keep.length x.k)) 24 (by kernel_rfl) ?_ (fun hHeld => ?_)
        · exact HCE.out _ HB.out
        obtain ⟨wd, hwd⟩ : ∃ q, q = World.drew w4 := ⟨_, rfl⟩
        rw [← hwd] at HB hHeld ⊢
        clear hwd
        refine wpAnyZ_takeY (i := 0) (oi := { dst := some 49, op := Op.move (Operand.tmp 1), type := 22, pos := "law.go:141", after := #[], guard := none }) (v := ?_) rfl (by kernel_rfl) (by kernel_rfl) (by kernel_rfl) (by rfl) (fun _ _ _ h => h) (Or.inl ⟨by rfl, ?_⟩) (by assumption) ?_
        rotate_left
        · (intro w; go_simp); (first | done | with_reducible rfl)
        try simp only [Act.put, List.setIfInBounds_toArray, List.set_cons_zero, List.set_cons_succ]
        refine wpAnyZ_takeY (i := 1) (oi := { dst := some 50, op := Op.move (Operand.tmp 9), type := 3, pos := "law.go:141", after := #[], guard := none }) (v := ?_) rfl (by kernel_rfl) (by kernel_rfl) (by kernel_rfl) (by rfl) (fun _ _ _ h => h) (Or.inl ⟨by rfl, ?_⟩) (by assumption) ?_
        rotate_left
        · (intro w; go_simp); (first | done | with_reducible rfl)
        try simp only [Act.put, List.setIfInBounds_toArray, List.set_cons_zero, List.set_cons_succ]
        refine wpAnyZ_takeY (i := 2) (oi := { dst := some 51, op := Op.indexAddr 22 (Operand.tmp 49) (Operand.tmp 50), type := 0, pos := "law.go:141", after := #[{ on := 0, ground := Ground.data }, { on := 1, ground := Ground.data }], guard := none }) (v := ?_) rfl (by kernel_rfl) (by kernel_rfl) (by kernel_rfl) (by rfl) (fun _ _ _ h => h) (Or.inl ⟨by rfl, ?_⟩) (by assumption) ?_
        rotate_left
        · (intro w; go_simp); (first | done | with_reducible rfl)
        try simp only [Act.put, List.setIfInBounds_toArray, List.set_cons_zero, List.set_cons_succ]
        refine wpAnyZ_takeY (i := 3) (oi := { dst := some 52, op := Op.fieldAddr 34 (Operand.tmp 51) 5, type := 0, pos := "law.go:141", after := #[{ on := 2, ground := Ground.data }], guard := none }) (v := ?_) rfl (by kernel_rfl) (by kernel_rfl) (by kernel_rfl) (by rfl) (fun _ _ _ h => h) (Or.inl ⟨by rfl, ?_⟩) (by assumption) ?_
        rotate_left
        · (intro w; go_simp); (first | done | with_reducible rfl)
        try simp only [Act.put, List.setIfInBounds_toArray, List.set_cons_zero, List.set_cons_succ]
        refine wpAnyZ_take (i := 4) (oi := { dst := some 53, op := Op.load 32 (Operand.tmp 52), type := 32, pos := "law.go:141", after := #[{ on := 3, ground := Ground.data }], guard := none }) (v := ?_) [5, 6, 7, 13, 15, 22, 23, 24] rfl (by kernel_rfl) (by kernel_rfl) (by kernel_rfl) (by kernel_rfl) (fun _ _ _ h => h) (Or.inl ⟨by rfl, ?_⟩) (by assumption) ?_
        rotate_left
        · (intro w hSw; (try dsimp only at hSw); go_simp); (first | done | with_reducible rfl)
        try simp only [Act.put, List.setIfInBounds_toArray, List.set_cons_zero, List.set_cons_succ]
        refine wpAnyZ_takeY (i := 5) (oi := { dst := some 54, op := Op.call { callee := Callee.builtin Builtin.len, args := #[Operand.tmp 53], argTypes := #[32] }, type := 3, pos := "law.go:141", after := #[{ on := 4, ground := Ground.data }], guard := none }) (v := ?_) rfl (by kernel_rfl) (by kernel_rfl) (by kernel_rfl) (by rfl) (fun _ _ _ h => h) (Or.inl ⟨by rfl, ?_⟩) (by assumption) ?_
        rotate_left
        · (intro w; go_simp); (first | done | with_reducible rfl)
        try simp only [Act.put, List.setIfInBounds_toArray, List.set_cons_zero, List.set_cons_succ]
        refine wpAnyZ_takeY (i := 6) (oi := { dst := some 55, op := Op.binOp BinOp.add 3 (Operand.tmp 54) (Operand.const (Value.int IntKind.i64 1)) 3, type := 3, pos := "law.go:141", after := #[{ on := 5, ground := Ground.data }], guard := none }) (v := ?_) rfl (by kernel_rfl) (by kernel_rfl) (by kernel_rfl) (by rfl) (fun _ _ _ h => h) (Or.inl ⟨by rfl, ?_⟩) (by assumption) ?_
        rotate_left
        · (intro w; go_simp); (first | done | with_reducible rfl)
        try simp only [Act.put, List.setIfInBounds_toArray, List.set_cons_zero, List.set_cons_succ]
        refine wpAnyZ_takeY (i := 8) (oi := { dst := some 57, op := Op.move (Operand.tmp 1), type := 22, pos := "law.go:141", after := #[], guard := none }) (v := ?_) rfl (by kernel_rfl) (by kernel_rfl) (by kernel_rfl) (by rfl) (fun _ _ _ h => h) (Or.inl ⟨by rfl, ?_⟩) (by assumption) ?_
        rotate_left
        · (intro w; go_simp); (first | done | with_reducible rfl)
        try simp only [Act.put, List.setIfInBounds_toArray, List.set_cons_zero, List.set_cons_succ]
        refine wpAnyZ_takeY (i := 9) (oi := { dst := some 58, op := Op.move (Operand.tmp 9), type := 3, pos := "law.go:141", after := #[], guard := none }) (v := ?_) rfl (by kernel_rfl) (by kernel_rfl) (by kernel_rfl) (by rfl) (fun _ _ _ h => h) (Or.inl ⟨by rfl, ?_⟩) (by assumption) ?_
        rotate_left
        · (intro w; go_simp); (first | done | with_reducible rfl)
        try simp only [Act.put, List.setIfInBounds_toArray, List.set_cons_zero, List.set_cons_succ]
        refine wpAnyZ_takeY (i := 10) (oi := { dst := some 59, op := Op.indexAddr 22 (Operand.tmp 57) (Operand.tmp 58), type := 0, pos := "law.go:141", after := #[{ on := 8, ground := Ground.data }, { on := 9, ground := Ground.data }], guard := none }) (v := ?_) rfl (by kernel_rfl) (by kernel_rfl) (by kernel_rfl) (by rfl) (fun _ _ _ h => h) (Or.inl ⟨by rfl, ?_⟩) (by assumption) ?_
        rotate_left
        · (intro w; go_simp); (first | done | with_reducible rfl)
        try simp only [Act.put, List.setIfInBounds_toArray, List.set_cons_zero, List.set_cons_succ]
        refine wpAnyZ_takeY (i := 11) (oi := { dst := some 60, op := Op.fieldAddr 34 (Operand.tmp 59) 5, type := 0, pos := "law.go:141", after := #[{ on := 10, ground := Ground.data }], guard := none }) (v := ?_) rfl (by kernel_rfl) (by kernel_rfl) (by kernel_rfl) (by rfl) (fun _ _ _ h => h) (Or.inl ⟨by rfl, ?_⟩) (by assumption) ?_
        rotate_left
        · (intro w; go_simp); (first | done | with_reducible rfl)
        try simp only [Act.put, List.setIfInBounds_toArray, List.set_cons_zero, List.set_cons_succ]
        refine wpAnyZ_take (i := 12) (oi := { dst := some 61, op := Op.load 32 (Operand.tmp 60), type := 32, pos := "law.go:141", after := #[{ on := 11, ground := Ground.data }], guard := none }) (v := ?_) [13, 15, 22, 23, 24] rfl (by kernel_rfl) (by kernel_rfl) (by kernel_rfl) (by kernel_rfl) (fun _ _ _ h => h) (Or.inl ⟨by rfl, ?_⟩) (by assumption) ?_
        rotate_left
        · (intro w hSw; (try dsimp only at hSw); go_simp); (first | done | with_reducible rfl)
        try simp only [Act.put, List.setIfInBounds_toArray, List.set_cons_zero, List.set_cons_succ]
        refine wpAnyZ_takeY (i := 16) (oi := { dst := some 65, op := Op.move (Operand.tmp 1), type := 22, pos := "law.go:141", after := #[], guard := none }) (v := ?_) rfl (by kernel_rfl) (by kernel_rfl) (by kernel_rfl) (by rfl) (fun _ _ _ h => h) (Or.inl ⟨by rfl, ?_⟩) (by assumption) ?_
        rotate_left
        · (intro w; go_simp); (first | done | with_reducible rfl)
        try simp only [Act.put, List.setIfInBounds_toArray, List.set_cons_zero, List.set_cons_succ]
        refine wpAnyZ_takeY (i := 17) (oi := { dst := some 66, op := Op.move (Operand.tmp 9), type := 3, pos := "law.go:141", after := #[], guard := none }) (v := ?_) rfl (by kernel_rfl) (by kernel_rfl) (by kernel_rfl) (by rfl) (fun _ _ _ h => h) (Or.inl ⟨by rfl, ?_⟩) (by assumption) ?_
        rotate_left
        · (intro w; go_simp); (first | done | with_reducible rfl)
        try simp only [Act.put, List.setIfInBounds_toArray, List.set_cons_zero, List.set_cons_succ]
        refine wpAnyZ_takeY (i := 18) (oi := { dst := some 67, op := Op.indexAddr 22 (Operand.tmp 65) (Operand.tmp 66), type := 0, pos := "law.go:141", after := #[{ on := 16, ground := Ground.data }, { on := 17, ground := Ground.data }], guard := none }) (v := ?_) rfl (by kernel_rfl) (by kernel_rfl) (by kernel_rfl) (by rfl) (fun _ _ _ h => h) (Or.inl ⟨by rfl, ?_⟩) (by assumption) ?_
        rotate_left
        · (intro w; go_simp); (first | done | with_reducible rfl)
        try simp only [Act.put, List.setIfInBounds_toArray, List.set_cons_zero, List.set_cons_succ]
        refine wpAnyZ_takeY (i := 19) (oi := { dst := some 68, op := Op.fieldAddr 34 (Operand.tmp 67) 5, type := 0, pos := "law.go:141", after := #[{ on := 18, ground := Ground.data }], guard := none }) (v := ?_) rfl (by kernel_rfl) (by kernel_rfl) (by kernel_rfl) (by rfl) (fun _ _ _ h => h) (Or.inl ⟨by rfl, ?_⟩) (by assumption) ?_
        rotate_left
        · (intro w; go_simp); (first | done | with_reducible rfl)
        try simp only [Act.put, List.setIfInBounds_toArray, List.set_cons_zero, List.set_cons_succ]
        refine wpAnyZ_take (i := 20) (oi := { dst := some 69, op := Op.load 32 (Operand.tmp 68), type := 32, pos := "law.go:141", after := #[{ on := 19, ground := Ground.data }], guard := none }) (v := ?_) [21, 22, 23, 24] rfl (by kernel_rfl) (by kernel_rfl) (by kernel_rfl) (by kernel_rfl) (fun _ _ _ h => h) (Or.inl ⟨by rfl, ?_⟩) (by assumption) ?_
        rotate_left
        · (intro w hSw; (try dsimp only at hSw); go_simp); (first | done | with_reducible rfl)
        try simp only [Act.put, List.setIfInBounds_toArray, List.set_cons_zero, List.set_cons_succ]
        refine wpAnyZ_takeY (i := 21) (oi := { dst := some 70, op := Op.call { callee := Callee.builtin Builtin.len, args := #[Operand.tmp 69], argTypes := #[32] }, type := 3, pos := "law.go:141", after := #[{ on := 20, ground := Ground.data }], guard := none }) (v := ?_) rfl (by kernel_rfl) (by kernel_rfl) (by kernel_rfl) (by rfl) (fun _ _ _ h => h) (Or.inl ⟨by rfl, ?_⟩) (by assumption) ?_
        rotate_left
        · (intro w; go_simp); (first | done | with_reducible rfl)
        try simp only [Act.put, List.setIfInBounds_toArray, List.set_cons_zero, List.set_cons_succ]
        refine wpAnyZ_ready (rs := [7, 14]) (by kernel_rfl) (by simp) ?_
        refine AllReadyZ.cons (o := { dst := some 56, op := Op.makeSlice 32 (Operand.const (Value.int IntKind.i64 0)) (Operand.tmp 55), type := 32, pos := "law.go:141", after := #[{ on := 6, ground := Ground.data }], guard := none }) rfl (by rfl) (fun K hK => ?_) (AllReadyZ.cons (o := { dst := some 63, op := Op.buildSlice 32 1 #[(0, Operand.const (Value.int IntKind.i64 (-70)))], type := 32, pos := "law.go:141", after := #[], guard := none }) rfl (by rfl) (fun K hK => ?_) (AllReadyZ.nil))
        · go_simp
          have HO7 := Lib.hid (World.ownsRow_made (base := w4.heap.size) (e := 3) (size := 1) wd C k1 HB.out.size (by have := HK1.out; have := HKN.out; have := HK9.out; unfold maxLen; omega) hC)
          replace HB := Lib.hid (HB.out.alloc HB.out.size (.cells C 3))
          generalize hq7 : wd.heap.size = q7 at *
          generalize hw7 : wd.alloc (.cells C 3) = v7 at *
          clear hq7 hw7
          refine hK.out _ _ ?_ (fun hHeld => ?_)
          · exact HCE.out _ HB.out
          clear hK K
          try simp only [Act.put, List.setIfInBounds_toArray, List.set_cons_zero, List.set_cons_succ]
          refine wpAnyZ_ready (rs := [13, 14]) (by kernel_rfl) (by simp) ?_
          refine AllReadyZ.cons (o := { dst := some 62, op := Op.call { callee := Callee.builtin Builtin.append, args := #[Operand.tmp 56, Operand.tmp 61], argTypes := #[32, 32] }, type := 32, pos := "law.go:141", after := #[{ on := 7, ground := Ground.data }, { on := 12, ground := Ground.data }], guard := none }) rfl (by rfl) (fun K hK => ?_) (AllReadyZ.cons (o := { dst := some 63, op := Op.buildSlice 32 1 #[(0, Operand.const (Value.int IntKind.i64 (-70)))], type := 32, pos := "law.go:141", after := #[], guard := none }) rfl (by rfl) (fun K hK => ?_) (AllReadyZ.nil))
          · refine step_append_ns5 (by rfl) _ _ 32 (by rfl) w4.heap.size j0 Try.underlying32 hj hy0 hy1 hy2 (.slice (some ⟨q7, 0, none⟩) 0 k1) 0 [] (by rfl) HO7.out x.o x.k x.keep (by rfl) ((HR4.out.below (HB.out.mono (Nat.le_trans HP.out.two.size HB34.out.size))).at_.2.2.2.2.2.2) (by have := HK9.out; omega) HB.out.size ?_
            intro u13 v13 ho13 hg13 hat13
            rw [Nat.zero_add, List.nil_append] at ho13
            obtain ⟨a13, c13, rfl⟩ := row_shape5 ho13
            have HO13 := Lib.hid ho13
            replace HB := Lib.hid (HB.out.grown hg13 HB.out.size (fun q hq => (HO7.out.lt q hq).1))
            clear ho13 hg13 hat13 HO7
            refine hK.out _ _ ?_ (fun hHeld => ?_)
            · exact HCE.out _ HB.out
            clear hK K
            try simp only [Act.put, List.setIfInBounds_toArray, List.set_cons_zero, List.set_cons_succ]
            refine wpAnyZ_ready (rs := [14]) (by kernel_rfl) (by simp) ?_
            refine AllReadyZ.cons (o := { dst := some 63, op := Op.buildSlice 32 1 #[(0, Operand.const (Value.int IntKind.i64 (-70)))], type := 32, pos := "law.go:141", after := #[], guard := none }) rfl (by rfl) (fun K hK => ?_) (AllReadyZ.nil)
            go_simp
            replace HO13 := Lib.hid (HO13.out.alloc (.cells #[.int .i64 (-70)] 3))
            have HY := Lib.hid (show Bk #[.int .i64 (-70)] 3 (v13.alloc (.cells #[.int .i64 (-70)] 3)) v13.heap.size from bk_new _ _ _)
            replace HB := Lib.hid (HB.out.alloc HB.out.size (.cells #[.int .i64 (-70)] 3))
            generalize hq14 : v13.heap.size = q14 at *
            generalize hw14 : v13.alloc (.cells #[.int .i64 (-70)] 3) = v14 at *
            clear hq14 hw14
            refine hK.out _ _ ?_ (fun hHeld => ?_)
            · exact HCE.out _ HB.out
            clear hK K
            try simp only [Act.put, List.setIfInBounds_toArray, List.set_cons_zero, List.set_cons_succ]
            refine wpAnyZ_ready (rs := [15]) (by kernel_rfl) (by simp) ?_
            refine AllReadyZ.cons (o := { dst := some 64, op := Op.call { callee := Callee.builtin Builtin.append, args := #[Operand.tmp 62, Operand.tmp 63], argTypes := #[32, 32] }, type := 32, pos := "law.go:141", after := #[{ on := 13, ground := Ground.data }, { on := 14, ground := Ground.data }, { on := 13, ground := Ground.chain }], guard := none }) rfl (by rfl) (fun K hK => ?_) (AllReadyZ.nil)
            refine step_append_ns5 (by rfl) _ _ 32 (by rfl) w4.heap.size j0 Try.underlying32 hj hy0 hy1 hy2 (.slice a13 x.keep.length c13) x.keep.length (ints5 x.keep) (by rfl) HO13.out (some ⟨q14, 0, none⟩) 1 [-70] (by rfl) (bk_one5 HY.out) (by have := HK9.out; simp; omega) HB.out.size ?_
            intro u15 v15 ho15 hg15 _
            replace ho15 : v15.ownsRow w4.heap.size 3 1 u15 k1 (ints5 (x.keep ++ [-70])) := by rw [ints5_app, HK1.out, HKN.out]; exact ho15
            obtain ⟨a15, c15, rfl⟩ := row_shape5 ho15
            obtain ⟨gk, rfl, -, -, -⟩ := row_at5 ho15 (k := 0) (by have := HK1.out; omega)
            have hc15 : x.keep.length ≤ c15 ∧ k1 ≤ c15 := (by rcases ho15.2 with ⟨e9, _⟩ | ⟨g9, cap9, cur9, e9, _, _, hc9, _⟩; (cases e9); (injection e9 with _ _ e9; have := HK1.out; have := HKN.out; omega))
            have hc16 : (x.keep.length : Int) ≤ (c15 : Int) := by omega
            have HO15 := Lib.hid ho15
            replace HB := Lib.hid (HB.out.grown hg15 HB.out.size (fun q hq => (HO13.out.lt q hq).1))
            clear ho15 hg15 HO13 HY
            refine hK.out _ _ ?_ (fun hHeld => ?_)
            · exact HCE.out _ HB.out
            clear hK K
            try simp only [Act.put, List.setIfInBounds_toArray, List.set_cons_zero, List.set_cons_succ]
            refine wpAnyZ_takeY (i := 22) (oi := { dst := some 71, op := Op.slice 32 (Operand.tmp 64) none (some (Operand.tmp 70)) none, type := 32, pos := "law.go:141", after := #[{ on := 15, ground := Ground.data }, { on := 21, ground := Ground.data }], guard := none }) (v := ?_) rfl (by kernel_rfl) (by kernel_rfl) (by kernel_rfl) (by rfl) (fun _ _ _ h => h) (Or.inl ⟨by rfl, ?_⟩) (by assumption) ?_
            rotate_left
            · (intro w; go_simp); (first | done | with_reducible rfl)
            try simp only [Act.put, List.setIfInBounds_toArray, List.set_cons_zero, List.set_cons_succ]
            refine wpAnyZ_takeY (i := 23) (oi := { dst := some 72, op := Op.fieldAddr 34 (Operand.tmp 10) 5, type := 0, pos := "law.go:141", after := #[{ on := 0, ground := Ground.phase }, { on := 1, ground := Ground.phase }, { on := 2, ground := Ground.phase }, { on := 3, ground := Ground.phase }, { on := 4, ground := Ground.phase }, { on := 5, ground := Ground.phase }, { on := 6, ground := Ground.phase }, { on := 7, ground := Ground.phase }, { on := 8, ground := Ground.phase }, { on := 9, ground := Ground.phase }, { on := 10, ground := Ground.phase }, { on := 11, ground := Ground.phase }, { on := 12, ground := Ground.phase }, { on := 13, ground := Ground.phase }, { on := 14, ground := Ground.phase }, { on := 15, ground := Ground.phase }, { on := 16, ground := Ground.phase }, { on := 17, ground := Ground.phase }, { on := 18, ground := Ground.phase }, { on := 19, ground := Ground.phase }, { on := 20, ground := Ground.phase }, { on := 21, ground := Ground.phase }, { on := 22, ground := Ground.phase }], guard := none }) (v := ?_) rfl (by kernel_rfl) (by kernel_rfl) (by kernel_rfl) (by rfl) (fun _ _ _ h => h) (Or.inl ⟨by rfl, ?_⟩) (by assumption) ?_
            rotate_left
            · (intro w; go_simp); (first | done | with_reducible rfl)
            try simp only [Act.put, List.setIfInBounds_toArray, List.set_cons_zero, List.set_cons_succ]
            refine wpAnyZ_ready (rs := [24]) (by kernel_rfl) (by simp) ?_
            refine AllReadyZ.last (o := { dst := none, op := Op.store 32 (Operand.tmp 72) (Operand.tmp 71), type := 0, pos := "law.go:141", after := #[{ on := 23, ground := Ground.data }, { on := 22, ground := Ground.data }, { on := 15, ground := Ground.chain }, { on := 0, ground := Ground.phase }, { on := 1, ground := Ground.phase }, { on := 2, ground := Ground.phase }, { on := 3, ground := Ground.phase }, { on := 4, ground := Ground.phase }, { on := 5, ground := Ground.phase }, { on := 6, ground := Ground.phase }, { on := 7, ground := Ground.phase }, { on := 8, ground := Ground.phase }, { on := 9, ground := Ground.phase }, { on := 10, ground := Ground.phase }, { on := 11, ground := Ground.phase }, { on := 12, ground := Ground.phase }, { on := 13, ground := Ground.phase }, { on := 14, ground := Ground.phase }, { on := 15, ground := Ground.phase }, { on := 16, ground := Ground.phase }, { on := 17, ground := Ground.phase }, { on := 18, ground := Ground.phase }, { on := 19, ground := Ground.phase }, { on := 20, ground := Ground.phase }, { on := 21, ground := Ground.phase }, { on := 22, ground := Ground.phase }], guard := none }) rfl (fun K hK => ?_) AllReadyZ.nil
            have f0 := (HXB.out.below HB.out).free 5
            have m0 := (HXB.out.below HB.out).cell 5
            go_simp
            refine hK.out _ _ ?_
            clear hK K
            refine wpAny_done (by kernel_rfl) ?_ _
            have HCK := Lib.hid hc15
            have HX5 := Lib.hid (show Bk #[.int .u8 x.kind, .string (S x.name), .string (S x.other), .string (S x.data), .int .i64 x.n, .slice (some ⟨gk, 0, none⟩) x.keep.length c15] 34 (v15.setCell ⟨xb, 5, none⟩ (.slice (some ⟨gk, 0, none⟩) x.keep.length c15)) xb from (HXB.out.below HB.out).set 5 _)
            have hgk := HO15.out.lt gk rfl
            have HO5 := Lib.hid (show (v15.setCell ⟨xb, 5, none⟩ (.slice (some ⟨gk, 0, none⟩) x.keep.length c15)).ownsRow w4.heap.size 3 1 (.slice (some ⟨gk, 0, none⟩) k1 c15) k1 (ints5 (x.keep ++ [-70])) from row_set5 HO15.out (fun q hq => by have h9 : some gk = some q := hq; injection h9 with h9; have := HXB.out.lt; omega))
            have hb35 : Below w3.heap.size w3 v15 := below_step HB34.out HB.out
            have HP5 := Lib.hid (show Py5 W (fun q => False ∨ (w3.heap.size ≤ q ∧ q < v15.heap.size)) W.heap.size a r i D (v15.setCell ⟨xb, 5, none⟩ (.slice (some ⟨gk, 0, none⟩) x.keep.length c15)) from
              ⟨(HP.out.newrow hb35).two.wr (wr_set (A := fun q => q = xb) v15 ⟨xb, 5, none⟩ _ rfl) (fun q e => by subst e; have h1 := HXW.out; have h2 := HXB.out.lt; have h3 := HB.out.size; exact .inr ⟨by omega, by omega⟩), HP.out.starts, (HP.out.newrow hb35).bel.setCell (p := ⟨xb, 5, none⟩) (by have h1 := HXW.out; have h2 := HP.out.two.size; show _ ≤ xb; omega) _⟩)
            have HPG := Lib.hid (show (False ∨ (w3.heap.size ≤ gk ∧ gk < v15.heap.size)) ∧ (False ∨ (w3.heap.size ≤ xb ∧ xb < v15.heap.size)) ∧ gk ≠ xb ∧ W.heap.size ≤ gk from by have h1 := HXW.out; have h2 := HXB.out.lt; have h3 := HB.out.size; have h4 := HB34.out.size; have h5 := HP.out.two.size; exact ⟨.inr ⟨by omega, by omega⟩, .inr ⟨by omega, by omega⟩, by omega, by omega⟩)
            obtain ⟨P5, hP5⟩ : ∃ P : Nat → Prop, P = fun q => False ∨ (w3.heap.size ≤ q ∧ q < v15.heap.size) := ⟨_, rfl⟩
            rw [← hP5] at HP5
            replace HPG := Lib.hid (show P5 gk ∧ P5 xb ∧ gk ≠ xb ∧ W.heap.size ≤ gk from by rw [hP5]; exact HPG.out)
            have HR5 := Lib.hid (show ActAt W.heap.size (v15.setCell ⟨xb, 5, none⟩ (.slice (some ⟨gk, 0, none⟩) x.keep.length c15)) g (off + i * 6) x from (HR4.out.below (HB.out.mono (Nat.le_trans HP.out.two.size HB34.out.size))).below ((Below.refl W.heap.size v15).setCell (p := ⟨xb, 5, none⟩) (by have h1 := HXW.out; have h2 := HP.out.two.size; show _ ≤ xb; omega) _))
            clear hc15 hc16 hHeld f0 m0 hgk hb35 hP5 HO15 HB HXB HXW HP HR4 HCE HRA hmk hC e1
            generalize v15.setCell ⟨xb, 5, none⟩ (.slice (some ⟨gk, 0, none⟩) x.keep.length c15) = w5 at *
            go_wp2_with fail
            go_upto_region 14 with fail
            replace HX5 := Lib.hid HX5.out.drew
            replace HO5 := Lib.hid (row_below5 HO5.out (Below.refl _ _).drew)
            replace HP5 := Lib.hid (HP5.out.below (Below.refl _ _).drew)
            replace HR5 := Lib.hid (HR5.out.below (Below.refl _ _).drew)
            refine wp_region_held_drew (S := fun V => V.cell? ⟨xb, 0, none⟩ = some (.int .u8 x.kind) ∧ V.cell? ⟨xb, 1, none⟩ = some (.string (S x.name)) ∧ V.cell? ⟨xb, 2, none⟩ = some (.string (S x.other)) ∧ V.cell? ⟨xb, 3, none⟩ = some (.string (S x.data)) ∧ V.cell? ⟨xb, 4, none⟩ = some (.int .i64 x.n) ∧ V.cell? ⟨xb, 5, none⟩ = some (.slice (some ⟨gk, 0, none⟩) x.keep.length c15) ∧ V.cell? ⟨g, off + i * 6, none⟩ = some (.int .u8 x.kind) ∧ V.cell? ⟨g, off + i * 6 + 1, none⟩ = some (.string (S x.name)) ∧ V.cell? ⟨g, off + i * 6 + 2, none⟩ = some (.string (S x.other)) ∧ V.cell? ⟨g, off + i * 6 + 3, none⟩ = some (.string (S x.data)) ∧ V.cell? ⟨g, off + i * 6 + 4, none⟩ = some (.int .i64 x.n) ∧ V.cell? ⟨g, off + i * 6 + 5, none⟩ = some (.slice x.o x.keep.length x.k)) (by kernel_rfl) ?_ (fun hHeld => ?_)
            · (obtain ⟨z0, z1, z2, z3, z4, z5, -⟩ := HR5.out.at_; exact ⟨HX5.out.cell 0, HX5.out.cell 1, HX5.out.cell 2, HX5.out.cell 3, HX5.out.cell 4, HX5.out.cell 5, z0, z1, z2, z3, z4, z5⟩)
            obtain ⟨w6, hw6⟩ : ∃ q, q = World.drew w5 := ⟨_, rfl⟩
            rw [← hw6] at HX5 HO5 HP5 HR5 hHeld ⊢
            clear hw6
            have HKA := Lib.hid (show NsA5 w6 (some ⟨gk, 0, none⟩) x.keep from fun hn => by
                obtain ⟨g9, e9, h9⟩ : ∃ g9, (some ⟨gk, 0, none⟩ : Option Addr) = some ⟨g9, 0, none⟩ ∧ True := ⟨gk, rfl, trivial⟩
                refine ⟨gk, 0, rfl, fun j hj2 => ?_⟩
                have hlt9 : j < k1 := by have := HK1.out; have := HKN.out; omega
                obtain ⟨g8, e8, -, -, hc8⟩ := row_at5 HO5.out hlt9
                cases e8
                rw [Nat.zero_add, hc8]
                exact ints_pre5 _ _ hj2)
            have CJ := Lib.hid (show Calls Try.prog 20 #[.pointer (some ⟨a, 0, none⟩), .agg #[.int .u8 x.kind, .string (S x.name), .string (S x.other), .string (S x.data), .int .i64 x.n, .slice (some ⟨gk, 0, none⟩) x.keep.length c15]] w6 (fun e w' => e = .returned (.int .i64 (Dk.act x D).1) ∧ Pl5 P5 W.heap.size a r (Dk.act x D).2 D w' ∧ Wr (fun k => W.heap.size ≤ k ∧ ¬ P5 k) w6 w') from HP5.out.two.done ⟨x.kind, x.name, x.other, x.data, x.n, x.keep, some ⟨gk, 0, none⟩, c15⟩ ⟨HRI.out.kind, HRI.out.name, HRI.out.other, HRI.out.data, HRI.out.n, HRI.out.keep⟩ HKA.out (fun y _ hy => by cases hy; exact .inl HPG.out.1) (by have := HP5.out.starts; omega))
            have HOKD := Lib.hid HP5.out.two.ok
            refine wpAnyH_take (i := 0) (oi := { dst := some 73, op := Op.move (Operand.tmp 5), type := 24, pos := "law.go:142", after := #[], guard := none }) (v := ?_) rfl (by kernel_rfl) (by kernel_rfl) (by kernel_rfl) (fun _ _ _ h => h) (Or.inl ⟨by rfl, ?_⟩) (by assumption) ?_
            rotate_left
            · (intro w hSw; (try dsimp only at hSw); go_simp); (first | done | with_reducible rfl)
            try simp only [Act.put, List.setIfInBounds_toArray, List.set_cons_zero, List.set_cons_succ]
            refine wpAnyH_take (i := 1) (oi := { dst := some 74, op := Op.load 34 (Operand.tmp 10), type := 34, pos := "law.go:142", after := #[], guard := none }) (v := ?_) rfl (by kernel_rfl) (by kernel_rfl) (by kernel_rfl) (fun _ _ _ h => h) (Or.inl ⟨by rfl, ?_⟩) (by assumption) ?_
            rotate_left
            · (intro w hSw; (try dsimp only at hSw); go_simp); (first | done | with_reducible rfl)
            try simp only [Act.put, List.setIfInBounds_toArray, List.set_cons_zero, List.set_cons_succ]
            refine wpAnyH_take (i := 3) (oi := { dst := some 76, op := Op.move (Operand.tmp 7), type := 28, pos := "law.go:142", after := #[], guard := none }) (v := ?_) rfl (by kernel_rfl) (by kernel_rfl) (by kernel_rfl) (fun _ _ _ h => h) (Or.inl ⟨by rfl, ?_⟩) (by assumption) ?_
            rotate_left
            · (intro w hSw; (try dsimp only at hSw); go_simp); (first | done | with_reducible rfl)
            try simp only [Act.put, List.setIfInBounds_toArray, List.set_cons_zero, List.set_cons_succ]
            refine wpAnyH_take (i := 4) (oi := { dst := some 77, op := Op.move (Operand.tmp 1), type := 22, pos := "law.go:142", after := #[], guard := none }) (v := ?_) rfl (by kernel_rfl) (by kernel_rfl) (by kernel_rfl) (fun _ _ _ h => h) (Or.inl ⟨by rfl, ?_⟩) (by assumption) ?_
            rotate_left
            · (intro w hSw; (try dsimp only at hSw); go_simp); (first | done | with_reducible rfl)
            try simp only [Act.put, List.setIfInBounds_toArray, List.set_cons_zero, List.set_cons_succ]
            refine wpAnyH_take (i := 5) (oi := { dst := some 78, op := Op.move (Operand.tmp 9), type := 3, pos := "law.go:142", after := #[], guard := none }) (v := ?_) rfl (by kernel_rfl) (by kernel_rfl) (by kernel_rfl) (fun _ _ _ h => h) (Or.inl ⟨by rfl, ?_⟩) (by assumption) ?_
            rotate_left
            · (intro w hSw; (try dsimp only at hSw); go_simp); (first | done | with_reducible rfl)
            try simp only [Act.put, List.setIfInBounds_toArray, List.set_cons_zero, List.set_cons_succ]
            refine wpAnyH_take (i := 6) (oi := { dst := some 79, op := Op.indexAddr 22 (Operand.tmp 77) (Operand.tmp 78), type := 0, pos := "law.go:142", after := #[{ on := 4, ground := Ground.data }, { on := 5, ground := Ground.data }], guard := none }) (v := ?_) rfl (by kernel_rfl) (by kernel_rfl) (by kernel_rfl) (fun _ _ _ h => h) (Or.inl ⟨by rfl, ?_⟩) (by assumption) ?_
            rotate_left
            · (intro w hSw; (try dsimp only at hSw); go_simp); (first | done | with_reducible rfl)
            try simp only [Act.put, List.setIfInBounds_toArray, List.set_cons_zero, List.set_cons_succ]
            refine wpAnyH_take (i := 7) (oi := { dst := some 80, op := Op.load 34 (Operand.tmp 79), type := 34, pos := "law.go:142", after := #[{ on := 6, ground := Ground.data }], guard := none }) (v := ?_) rfl (by kernel_rfl) (by kernel_rfl) (by kernel_rfl) (fun _ _ _ h => h) (Or.inl ⟨by rfl, ?_⟩) (by assumption) ?_
            rotate_left
            · (intro w hSw; (try dsimp only at hSw); go_simp); (first | done | with_reducible rfl)
            try simp only [Act.put, List.setIfInBounds_toArray, List.set_cons_zero, List.set_cons_succ]
            refine wpAnyH_ready (rs := [2]) (by kernel_rfl) (by simp) ?_
            refine AllReadyH.cons (o := { dst := some 75, op := Op.call { callee := Callee.value (Operand.func 20), args := #[Operand.tmp 73, Operand.tmp 74], argTypes := #[24, 34] }, type := 25, pos := "law.go:142", after := #[{ on := 0, ground := Ground.data }, { on := 1, ground := Ground.data }], guard := none }) rfl (fun K hK => ?_) AllReadyH.nil
            go_simp
            go_simp
            go_at_call 20
            with_reducible refine (CJ.out).mono ?_
            rintro e w7 ⟨rfl, ht, hw⟩
            have HB7 := Lib.hid (hw.below (fun q hq => hq.1) HP5.out.two.size)
            replace HX5 := Lib.hid (HX5.out.wr hw (fun q => q.2 HPG.out.2.1))
            replace HO5 := Lib.hid (row_wr HO5.out hw (fun q hq ha => by have h9 : some gk = some q := hq; injection h9 with h9; subst h9; exact ha.2 HPG.out.1))
            replace HR5 := Lib.hid (HR5.out.below HB7.out)
            have CJ2 := Lib.hid (ht.said HOKD.out x HRI.out HR5.out.at_.2.2.2.2.2.2 (fun y hn hy => HR5.out.keep y hn hy) (by have := HP5.out.starts; omega))
            have HSZ7 := Lib.hid ht.size
            clear ht hw CJ
            go_wp2_with fail
            refine hK.out _ _ ?_ (fun hHeld => ?_)
            · (obtain ⟨z0, z1, z2, z3, z4, z5, -⟩ := HR5.out.at_; exact ⟨HX5.out.cell 0, HX5.out.cell 1, HX5.out.cell 2, HX5.out.cell 3, HX5.out.cell 4, HX5.out.cell 5, z0, z1, z2, z3, z4, z5⟩)
            clear hK K
            try simp only [Act.put, List.setIfInBounds_toArray, List.set_cons_zero, List.set_cons_succ]
            refine wpAnyH_ready (rs := [8]) (by kernel_rfl) (by simp) ?_
            refine AllReadyH.cons (o := { dst := some 81, op := Op.call { callee := Callee.value (Operand.func 21), args := #[Operand.tmp 76, Operand.tmp 80], argTypes := #[28, 34] }, type := 25, pos := "law.go:142", after := #[{ on := 3, ground := Ground.data }, { on := 7, ground := Ground.data }, { on := 2, ground := Ground.chain }], guard := none }) rfl (fun K hK => ?_) AllReadyH.nil
            go_simp
            go_simp
            go_at_call 21
            with_reducible refine (CJ2.out).mono ?_
            rintro e w8 ⟨rfl, ht, hw⟩
            have HB8 := Lib.hid (HB7.out.trans (hw.below (fun q hq => hq.1) HSZ7.out))
            replace HX5 := Lib.hid (HX5.out.wr hw (fun q => q.2 HPG.out.2.1))
            replace HO5 := Lib.hid (row_wr HO5.out hw (fun q hq ha => by have h9 : some gk = some q := hq; injection h9 with h9; subst h9; exact ha.2 HPG.out.1))
            replace HR5 := Lib.hid (HR5.out.below (hw.below (fun q hq => hq.1) HSZ7.out))
            have HP8 := Lib.hid (show Py5 W P5 W.heap.size a r (i + 1) (Dk.act x D).2 w8 from ⟨ht, by have h1 := (Dk.kin_act x D).1.starts; have h2 := HP5.out.starts; omega, HP5.out.bel.trans HB8.out⟩)
            clear ht hw CJ2 HB7 HSZ7
            go_wp2_with fail
            refine hK.out _ _ ?_ (fun hHeld => ?_)
            · (obtain ⟨z0, z1, z2, z3, z4, z5, -⟩ := HR5.out.at_; exact ⟨HX5.out.cell 0, HX5.out.cell 1, HX5.out.cell 2, HX5.out.cell 3, HX5.out.cell 4, HX5.out.cell 5, z0, z1, z2, z3, z4, z5⟩)
            clear hK K
            try simp only [Act.put, List.setIfInBounds_toArray, List.set_cons_zero, List.set_cons_succ]
            refine wpAnyH_take (i := 9) (oi := { dst := some 11, op := Op.assign (Operand.tmp 75), type := 25, pos := "law.go:142", after := #[{ on := 2, ground := Ground.data }, { on := 8, ground := Ground.chain }, { on := 0, ground := Ground.phase }, { on := 1, ground := Ground.phase }, { on := 2, ground := Ground.phase }, { on := 3, ground := Ground.textOnly Departure.lateStores }, { on := 4, ground := Ground.textOnly Departure.lateStores }, { on := 5, ground := Ground.textOnly Departure.lateStores }, { on := 6, ground := Ground.textOnly Departure.lateStores }, { on := 7, ground := Ground.textOnly Departure.lateStores }, { on := 8, ground := Ground.textOnly Departure.lateStoresUnsure }], guard := none }) (v := ?_) rfl (by kernel_rfl) (by kernel_rfl) (by kernel_rfl) (fun _ _ _ h => h) (Or.inl ⟨by rfl, ?_⟩) (by assumption) ?_
            rotate_left
            · (intro w hSw; (try dsimp only at hSw); go_simp); (first | done | with_reducible rfl)
            try simp only [Act.put, List.setIfInBounds_toArray, List.set_cons_zero, List.set_cons_succ]
            refine wpAnyH_take (i := 10) (oi := { dst := some 12, op := Op.assign (Operand.tmp 81), type := 25, pos := "law.go:142", after := #[{ on := 8, ground := Ground.data }, { on := 9, ground := Ground.chain }, { on := 0, ground := Ground.phase }, { on := 1, ground := Ground.phase }, { on := 2, ground := Ground.phase }, { on := 3, ground := Ground.phase }, { on := 4, ground := Ground.phase }, { on := 5, ground := Ground.phase }, { on := 6, ground := Ground.phase }, { on := 7, ground := Ground.phase }, { on := 8, ground := Ground.phase }, { on := 9, ground := Ground.phase }], guard := none }) (v := ?_) rfl (by kernel_rfl) (by kernel_rfl) (by kernel_rfl) (fun _ _ _ h => h) (Or.inl ⟨by rfl, ?_⟩) (by assumption) ?_
            rotate_left
            · (intro w hSw; (try dsimp only at hSw); go_simp); (first | done | with_reducible rfl)
            refine wpAnyH_done (by kernel_rfl) ?_ _
            go_wp2_with fail
            clear HP5 hHeld HOKD HKA
            generalize (Dk.act x D).1 = er at *
            generalize (Dk.act x D).2 = D2 at *
            have HS15 := Lib.hid (fun wy (h1 : Bk #[.int .u8 x.kind, .string (S x.name), .string (S x.other), .string (S x.data), .int .i64 x.n, .slice (some ⟨gk, 0, none⟩) x.keep.length c15] 34 wy xb) (h2 : ActAt W.heap.size wy g (off + i * 6) x) (h3 : wy.ownsRow w4.heap.size 3 1 (.slice (some ⟨gk, 0, none⟩) k1 c15) k1 (ints5 (x.keep ++ [-70]))) => (show wy.cell? ⟨xb, 1, none⟩ = some (.string (S x.name)) ∧ wy.cell? ⟨xb, 5, none⟩ = some (.slice (some ⟨gk, 0, none⟩) x.keep.length c15) ∧ wy.cell? ⟨g, off + i * 6 + 5, none⟩ = some (.slice x.o x.keep.length x.k) ∧ wy.cell? ⟨gk, x.keep.length, none⟩ = some (.int .i64 (-70)) from by
              obtain ⟨g8, e8, -, -, hc8⟩ := row_at5 h3 (k := x.keep.length) (by have := HK1.out; have := HKN.out; omega)
              cases e8
              rw [ints_last5] at hc8
              exact ⟨h1.cell 1, h1.cell 5, h2.at_.2.2.2.2.2.1, hc8⟩))
            have q1 : (er != er) = false := by simp
            have e1 : IntKind.i64.wrap ((x.keep.length : Int) + 1) = (k1 : Int) := by rw [IntWalk.i64_in _ (by have := HK9.out; omega)]; have := HK1.out; have := HKN.out; omega
            have q2 : (k1 : Int) ≤ (c15 : Int) := by have := HCK.out.2; omega
            have q3 : (x.keep.length : Int) < (k1 : Int) := by have := HK1.out; have := HKN.out; omega
            have q4 : (0 : Int) ≤ (x.keep.length : Int) := by omega
            have q5 : x.keep.length < k1 := by omega
            go_upto_region 15 with fail
            replace HX5 := Lib.hid HX5.out.drew
            replace HO5 := Lib.hid (row_below5 HO5.out (Below.refl _ _).drew)
            replace HP8 := Lib.hid (HP8.out.below (Below.refl _ _).drew)
            replace HR5 := Lib.hid (HR5.out.below (Below.refl _ _).drew)
            refine wp_region_held_drew (S := fun V => V.cell? ⟨xb, 1, none⟩ = some (.string (S x.name)) ∧ V.cell? ⟨xb, 5, none⟩ = some (.slice (some ⟨gk, 0, none⟩) x.keep.length c15) ∧ V.cell? ⟨g, off + i * 6 + 5, none⟩ = some (.slice x.o x.keep.length x.k) ∧ V.cell? ⟨gk, x.keep.length, none⟩ = some (.int .i64 (-70))) (by kernel_rfl) ?_ (fun hHeld => ?_)
            · exact HS15.out _ HX5.out HR5.out HO5.out
            obtain ⟨w9, hw9⟩ : ∃ q, q = World.drew w8 := ⟨_, rfl⟩
            rw [← hw9] at HX5 HO5 HP8 HR5 hHeld ⊢
            clear hw9
            refine wpAnyH_take (i := 0) (oi := { dst := some 82, op := Op.move (Operand.tmp 11), type := 25, pos := "law.go:143", after := #[], guard := none }) (v := ?_) rfl (by kernel_rfl) (by kernel_rfl) (by kernel_rfl) (fun _ _ _ h => h) (Or.inl ⟨by rfl, ?_⟩) (by assumption) ?_
            rotate_left
            · (intro w hSw; (try dsimp only at hSw); go_simp); (first | done | with_reducible rfl)
            try simp only [Act.put, List.setIfInBounds_toArray, List.set_cons_zero, List.set_cons_succ]
            refine wpAnyH_take (i := 1) (oi := { dst := some 83, op := Op.move (Operand.tmp 12), type := 25, pos := "law.go:143", after := #[], guard := none }) (v := ?_) rfl (by kernel_rfl) (by kernel_rfl) (by kernel_rfl) (fun _ _ _ h => h) (Or.inl ⟨by rfl, ?_⟩) (by assumption) ?_
            rotate_left
            · (intro w hSw; (try dsimp only at hSw); go_simp); (first | done | with_reducible rfl)
            try simp only [Act.put, List.setIfInBounds_toArray, List.set_cons_zero, List.set_cons_succ]
            refine wpAnyH_take (i := 2) (oi := { dst := some 84, op := Op.binOp BinOp.neq 25 (Operand.tmp 82) (Operand.tmp 83) 25, type := 4, pos := "law.go:143", after := #[{ on := 0, ground := Ground.data }, { on := 1, ground := Ground.data }], guard := none }) (v := ?_) rfl (by kernel_rfl) (by kernel_rfl) (by kernel_rfl) (fun _ _ _ h => h) (Or.inl ⟨by rfl, ?_⟩) (by assumption) ?_
            rotate_left
            · (intro w hSw; (try dsimp only at hSw); go_simp); (first | done | with_reducible rfl)
            try simp only [Act.put, List.setIfInBounds_toArray, List.set_cons_zero, List.set_cons_succ]
            refine wpAnyH_take (i := 3) (oi := { dst := some 85, op := Op.move (Operand.tmp 84), type := 4, pos := "law.go:143", after := #[{ on := 2, ground := Ground.data }], guard := none }) (v := ?_) rfl (by kernel_rfl) (by kernel_rfl) (by kernel_rfl) (fun _ _ _ h => h) (Or.inl ⟨by rfl, ?_⟩) (by assumption) ?_
            rotate_left
            · (intro w hSw; (try dsimp only at hSw); go_simp); (first | done | with_reducible rfl)
            try simp only [Act.put, List.setIfInBounds_toArray, List.set_cons_zero, List.set_cons_succ]
            refine wpAnyH_take (i := 4) (oi := { dst := some 86, op := Op.fieldAddr 34 (Operand.tmp 10) 5, type := 0, pos := "law.go:143", after := #[{ on := 3, ground := Ground.guard }], guard := some (3, false) }) (v := ?_) rfl (by kernel_rfl) (by kernel_rfl) (by kernel_rfl) (fun _ _ _ h => h) (Or.inl ⟨by rfl, ?_⟩) (by assumption) ?_
            rotate_left
            · (intro w hSw; (try dsimp only at hSw); go_simp); (first | done | with_reducible rfl)
            try simp only [Act.put, List.setIfInBounds_toArray, List.set_cons_zero, List.set_cons_succ]
            refine wpAnyH_take (i := 5) (oi := { dst := some 87, op := Op.load 32 (Operand.tmp 86), type := 32, pos := "law.go:143", after := #[{ on := 4, ground := Ground.data }, { on := 3, ground := Ground.guard }], guard := some (3, false) }) (v := ?_) rfl (by kernel_rfl) (by kernel_rfl) (by kernel_rfl) (fun _ _ _ h => h) (Or.inl ⟨by rfl, ?_⟩) (by assumption) ?_
            rotate_left
            · (intro w hSw; (try dsimp only at hSw); go_simp); (first | done | with_reducible rfl)
            try simp only [Act.put, List.setIfInBounds_toArray, List.set_cons_zero, List.set_cons_succ]
            refine wpAnyH_take (i := 6) (oi := { dst := some 88, op := Op.move (Operand.tmp 1), type := 22, pos := "law.go:143", after := #[{ on := 3, ground := Ground.guard }], guard := some (3, false) }) (v := ?_) rfl (by kernel_rfl) (by kernel_rfl) (by kernel_rfl) (fun _ _ _ h => h) (Or.inl ⟨by rfl, ?_⟩) (by assumption) ?_
            rotate_left
            · (intro w hSw; (try dsimp only at hSw); go_simp); (first | done | with_reducible rfl)
            try simp only [Act.put, List.setIfInBounds_toArray, List.set_cons_zero, List.set_cons_succ]
            refine wpAnyH_take (i := 7) (oi := { dst := some 89, op := Op.move (Operand.tmp 9), type := 3, pos := "law.go:143", after := #[{ on := 3, ground := Ground.guard }], guard := some (3, false) }) (v := ?_) rfl (by kernel_rfl) (by kernel_rfl) (by kernel_rfl) (fun _ _ _ h => h) (Or.inl ⟨by rfl, ?_⟩) (by assumption) ?_
            rotate_left
            · (intro w hSw; (try dsimp only at hSw); go_simp); (first | done | with_reducible rfl)
            try simp only [Act.put, List.setIfInBounds_toArray, List.set_cons_zero, List.set_cons_succ]
            refine wpAnyH_take (i := 8) (oi := { dst := some 90, op := Op.indexAddr 22 (Operand.tmp 88) (Operand.tmp 89), type := 0, pos := "law.go:143", after := #[{ on := 6, ground := Ground.data }, { on := 7, ground := Ground.data }, { on := 3, ground := Ground.guard }], guard := some (3, false) }) (v := ?_) rfl (by kernel_rfl) (by kernel_rfl) (by kernel_rfl) (fun _ _ _ h => h) (Or.inl ⟨by rfl, ?_⟩) (by assumption) ?_
            rotate_left
            · (intro w hSw; (try dsimp only at hSw); go_simp); (first | done | with_reducible rfl)
            try simp only [Act.put, List.setIfInBounds_toArray, List.set_cons_zero, List.set_cons_succ]
            refine wpAnyH_take (i := 9) (oi := { dst := some 91, op := Op.fieldAddr 34 (Operand.tmp 90) 5, type := 0, pos := "law.go:143", after := #[{ on := 8, ground := Ground.data }, { on := 3, ground := Ground.guard }], guard := some (3, false) }) (v := ?_) rfl (by kernel_rfl) (by kernel_rfl) (by kernel_rfl) (fun _ _ _ h => h) (Or.inl ⟨by rfl, ?_⟩) (by assumption) ?_
            rotate_left
            · (intro w hSw; (try dsimp only at hSw); go_simp); (first | done | with_reducible rfl)
            try simp only [Act.put, List.setIfInBounds_toArray, List.set_cons_zero, List.set_cons_succ]
            refine wpAnyH_take (i := 10) (oi := { dst := some 92, op := Op.load 32 (Operand.tmp 91), type := 32, pos := "law.go:143", after := #[{ on := 9, ground := Ground.data }, { on := 3, ground := Ground.guard }], guard := some (3, false) }) (v := ?_) rfl (by kernel_rfl) (by kernel_rfl) (by kernel_rfl) (fun _ _ _ h => h) (Or.inl ⟨by rfl, ?_⟩) (by assumption) ?_
            rotate_left
            · (intro w hSw; (try dsimp only at hSw); go_simp); (first | done | with_reducible rfl)
            try simp only [Act.put, List.setIfInBounds_toArray, List.set_cons_zero, List.set_cons_succ]
            refine wpAnyH_ready (rs := [11]) (by kernel_rfl) (by simp) ?_
            refine AllReadyH.cons (o := { dst := some 93, op := Op.call { callee := Callee.value (Operand.func 22), args := #[Operand.tmp 87, Operand.tmp 92], argTypes := #[32, 32] }, type := 4, pos := "law.go:143", after := #[{ on := 5, ground := Ground.data }, { on := 10, ground := Ground.data }, { on := 3, ground := Ground.chain }, { on := 3, ground := Ground.guard }], guard := some (3, false) }) rfl (fun K hK => ?_) AllReadyH.nil
            go_simp
            have HKA := Lib.hid (show NsA5 w9 (some ⟨gk, 0, none⟩) x.keep from fun hn => by
              refine ⟨gk, 0, rfl, fun j hj2 => ?_⟩
              obtain ⟨g8, e8, -, -, hc8⟩ := row_at5 HO5.out (show j < k1 by omega)
              cases e8
              rw [Nat.zero_add, hc8]
              exact ints_pre5 _ _ hj2)
            have CJ := sameInts5_any x.keep x.keep (by have := HK9.out; omega) (by have := HK9.out; omega) (some ⟨gk, 0, none⟩) x.o c15 x.k w9 HKA.out HR5.out.at_.2.2.2.2.2.2
            rw [show decide (x.keep = x.keep) = true from by simp] at CJ
            replace CJ := Lib.hid CJ
            go_simp
            go_at_call 22
            with_reducible refine (CJ.out).mono ?_
            rintro e w10 ⟨rfl, hb⟩
            replace HX5 := Lib.hid (HX5.out.below hb)
            replace HO5 := Lib.hid (row_below5 HO5.out hb)
            replace HR5 := Lib.hid (HR5.out.below (hb.mono HP8.out.two.size))
            replace HP8 := Lib.hid (HP8.out.below hb)
            clear hb CJ HKA
            go_wp2_with fail
            refine hK.out _ _ ?_ (fun hHeld => ?_)
            · exact HS15.out _ HX5.out HR5.out HO5.out
            clear hK K
            try simp only [Act.put, List.setIfInBounds_toArray, List.set_cons_zero, List.set_cons_succ]
            refine wpAnyH_take (i := 12) (oi := { dst := some 94, op := Op.unOp UnOp.not 4 (Operand.tmp 93), type := 4, pos := "law.go:143", after := #[{ on := 11, ground := Ground.data }, { on := 3, ground := Ground.guard }], guard := some (3, false) }) (v := ?_) rfl (by kernel_rfl) (by kernel_rfl) (by kernel_rfl) (fun _ _ _ h => h) (Or.inl ⟨by rfl, ?_⟩) (by assumption) ?_
            rotate_left
            · (intro w hSw; (try dsimp only at hSw); go_simp); (first | done | with_reducible rfl)
            try simp only [Act.put, List.setIfInBounds_toArray, List.set_cons_zero, List.set_cons_succ]
            refine wpAnyH_take (i := 13) (oi := { dst := some 95, op := Op.pick (Operand.tmp 85) (Operand.const (Value.bool true)) (Operand.tmp 94), type := 4, pos := "law.go:143", after := #[{ on := 3, ground := Ground.data }, { on := 12, ground := Ground.data }], guard := none }) (v := ?_) rfl (by kernel_rfl) (by kernel_rfl) (by kernel_rfl) (fun _ _ _ h => h) (Or.inl ⟨by rfl, ?_⟩) (by assumption) ?_
            rotate_left
            · (intro w hSw; (try dsimp only at hSw); go_simp); (first | done | with_reducible rfl)
            try simp only [Act.put, List.setIfInBounds_toArray, List.set_cons_zero, List.set_cons_succ]
            refine wpAnyH_take (i := 14) (oi := { dst := some 96, op := Op.move (Operand.tmp 95), type := 4, pos := "law.go:143", after := #[{ on := 13, ground := Ground.data }, { on := 11, ground := Ground.chain }], guard := none }) (v := ?_) rfl (by kernel_rfl) (by kernel_rfl) (by kernel_rfl) (fun _ _ _ h => h) (Or.inl ⟨by rfl, ?_⟩) (by assumption) ?_
            rotate_left
            · (intro w hSw; (try dsimp only at hSw); go_simp); (first | done | with_reducible rfl)
            try simp only [Act.put, List.setIfInBounds_toArray, List.set_cons_zero, List.set_cons_succ]
            refine wpAnyH_take (i := 15) (oi := { dst := some 97, op := Op.fieldAddr 34 (Operand.tmp 10) 5, type := 0, pos := "law.go:143", after := #[{ on := 14, ground := Ground.guard }], guard := some (14, false) }) (v := ?_) rfl (by kernel_rfl) (by kernel_rfl) (by kernel_rfl) (fun _ _ _ h => h) (Or.inl ⟨by rfl, ?_⟩) (by assumption) ?_
            rotate_left
            · (intro w hSw; (try dsimp only at hSw); go_simp); (first | done | with_reducible rfl)
            try simp only [Act.put, List.setIfInBounds_toArray, List.set_cons_zero, List.set_cons_succ]
            refine wpAnyH_take (i := 16) (oi := { dst := some 98, op := Op.load 32 (Operand.tmp 97), type := 32, pos := "law.go:143", after := #[{ on := 15, ground := Ground.data }, { on := 14, ground := Ground.guard }], guard := some (14, false) }) (v := ?_) rfl (by kernel_rfl) (by kernel_rfl) (by kernel_rfl) (fun _ _ _ h => h) (Or.inl ⟨by rfl, ?_⟩) (by assumption) ?_
            rotate_left
            · (intro w hSw; (try dsimp only at hSw); go_simp); (first | done | with_reducible rfl)
            try simp only [Act.put, List.setIfInBounds_toArray, List.set_cons_zero, List.set_cons_succ]
            refine wpAnyH_take (i := 17) (oi := { dst := some 99, op := Op.fieldAddr 34 (Operand.tmp 10) 5, type := 0, pos := "law.go:143", after := #[{ on := 14, ground := Ground.guard }], guard := some (14, false) }) (v := ?_) rfl (by kernel_rfl) (by kernel_rfl) (by kernel_rfl) (fun _ _ _ h => h) (Or.inl ⟨by rfl, ?_⟩) (by assumption) ?_
            rotate_left
            · (intro w hSw; (try dsimp only at hSw); go_simp); (first | done | with_reducible rfl)
            try simp only [Act.put, List.setIfInBounds_toArray, List.set_cons_zero, List.set_cons_succ]
            refine wpAnyH_take (i := 18) (oi := { dst := some 100, op := Op.load 32 (Operand.tmp 99), type := 32, pos := "law.go:143", after := #[{ on := 17, ground := Ground.data }, { on := 14, ground := Ground.guard }], guard := some (14, false) }) (v := ?_) rfl (by kernel_rfl) (by kernel_rfl) (by kernel_rfl) (fun _ _ _ h => h) (Or.inl ⟨by rfl, ?_⟩) (by assumption) ?_
            rotate_left
            · (intro w hSw; (try dsimp only at hSw); go_simp); (first | done | with_reducible rfl)
            try simp only [Act.put, List.setIfInBounds_toArray, List.set_cons_zero, List.set_cons_succ]
            refine wpAnyH_take (i := 19) (oi := { dst := some 101, op := Op.call { callee := Callee.builtin Builtin.len, args := #[Operand.tmp 100], argTypes := #[32] }, type := 3, pos := "law.go:143", after := #[{ on := 18, ground := Ground.data }, { on := 14, ground := Ground.guard }], guard := some (14, false) }) (v := ?_) rfl (by kernel_rfl) (by kernel_rfl) (by kernel_rfl) (fun _ _ _ h => h) (Or.inl ⟨by rfl, ?_⟩) (by assumption) ?_
            rotate_left
            · (intro w hSw; (try dsimp only at hSw); go_simp); (first | done | with_reducible rfl)
            try simp only [Act.put, List.setIfInBounds_toArray, List.set_cons_zero, List.set_cons_succ]
            refine wpAnyH_take (i := 20) (oi := { dst := some 102, op := Op.binOp BinOp.add 3 (Operand.tmp 101) (Operand.const (Value.int IntKind.i64 1)) 3, type := 3, pos := "law.go:143", after := #[{ on := 19, ground := Ground.data }, { on := 14, ground := Ground.guard }], guard := some (14, false) }) (v := ?_) rfl (by kernel_rfl) (by kernel_rfl) (by kernel_rfl) (fun _ _ _ h => h) (Or.inl ⟨by rfl, ?_⟩) (by assumption) ?_
            rotate_left
            · (intro w hSw; (try dsimp only at hSw); go_simp); (first | done | with_reducible rfl)
            try simp only [Act.put, List.setIfInBounds_toArray, List.set_cons_zero, List.set_cons_succ]
            refine wpAnyH_take (i := 21) (oi := { dst := some 103, op := Op.slice 32 (Operand.tmp 98) none (some (Operand.tmp 102)) none, type := 32, pos := "law.go:143", after := #[{ on := 16, ground := Ground.data }, { on := 20, ground := Ground.data }, { on := 14, ground := Ground.guard }], guard := some (14, false) }) (v := ?_) rfl (by kernel_rfl) (by kernel_rfl) (by kernel_rfl) (fun _ _ _ h => h) (Or.inl ⟨by rfl, ?_⟩) (by assumption) ?_
            rotate_left
            · (intro w hSw; (try dsimp only at hSw); go_simp); (first | done | with_reducible rfl)
            try simp only [Act.put, List.setIfInBounds_toArray, List.set_cons_zero, List.set_cons_succ]
            refine wpAnyH_take (i := 22) (oi := { dst := some 104, op := Op.fieldAddr 34 (Operand.tmp 10) 5, type := 0, pos := "law.go:143", after := #[{ on := 14, ground := Ground.guard }], guard := some (14, false) }) (v := ?_) rfl (by kernel_rfl) (by kernel_rfl) (by kernel_rfl) (fun _ _ _ h => h) (Or.inl ⟨by rfl, ?_⟩) (by assumption) ?_
            rotate_left
            · (intro w hSw; (try dsimp only at hSw); go_simp); (first | done | with_reducible rfl)
            try simp only [Act.put, List.setIfInBounds_toArray, List.set_cons_zero, List.set_cons_succ]
            refine wpAnyH_take (i := 23) (oi := { dst := some 105, op := Op.load 32 (Operand.tmp 104), type := 32, pos := "law.go:143", after := #[{ on := 22, ground := Ground.data }, { on := 14, ground := Ground.guard }], guard := some (14, false) }) (v := ?_) rfl (by kernel_rfl) (by kernel_rfl) (by kernel_rfl) (fun _ _ _ h => h) (Or.inl ⟨by rfl, ?_⟩) (by assumption) ?_
            rotate_left
            · (intro w hSw; (try dsimp only at hSw); go_simp); (first | done | with_reducible rfl)
            try simp only [Act.put, List.setIfInBounds_toArray, List.set_cons_zero, List.set_cons_succ]
            refine wpAnyH_take (i := 24) (oi := { dst := some 106, op := Op.call { callee := Callee.builtin Builtin.len, args := #[Operand.tmp 105], argTypes := #[32] }, type := 3, pos := "law.go:143", after := #[{ on := 23, ground := Ground.data }, { on := 14, ground := Ground.guard }], guard := some (14, false) }) (v := ?_) rfl (by kernel_rfl) (by kernel_rfl) (by kernel_rfl) (fun _ _ _ h => h) (Or.inl ⟨by rfl, ?_⟩) (by assumption) ?_
            rotate_left
            · (intro w hSw; (try dsimp only at hSw); go_simp); (first | done | with_reducible rfl)
            try simp only [Act.put, List.setIfInBounds_toArray, List.set_cons_zero, List.set_cons_succ]
            refine wpAnyH_take (i := 25) (oi := { dst := some 107, op := Op.indexAddr 32 (Operand.tmp 103) (Operand.tmp 106), type := 0, pos := "law.go:143", after := #[{ on := 21, ground := Ground.data }, { on := 24, ground := Ground.data }, { on := 14, ground := Ground.guard }], guard := some (14, false) }) (v := ?_) rfl (by kernel_rfl) (by kernel_rfl) (by kernel_rfl) (fun _ _ _ h => h) (Or.inl ⟨by rfl, ?_⟩) (by assumption) ?_
            rotate_left
            · (intro w hSw; (try dsimp only at hSw); go_simp); (first | done | with_reducible rfl)
            try simp only [Act.put, List.setIfInBounds_toArray, List.set_cons_zero, List.set_cons_succ]
            refine wpAnyH_take (i := 26) (oi := { dst := some 108, op := Op.load 3 (Operand.tmp 107), type := 3, pos := "law.go:143", after := #[{ on := 25, ground := Ground.data }, { on := 14, ground := Ground.guard }], guard := some (14, false) }) (v := ?_) rfl (by kernel_rfl) (by kernel_rfl) (by kernel_rfl) (fun _ _ _ h => h) (Or.inl ⟨by rfl, ?_⟩) (by assumption) ?_
            rotate_left
            · (intro w hSw; (try dsimp only at hSw); go_simp); (first | done | with_reducible rfl)
            try simp only [Act.put, List.setIfInBounds_toArray, List.set_cons_zero, List.set_cons_succ]
            refine wpAnyH_take (i := 27) (oi := { dst := some 109, op := Op.binOp BinOp.neq 3 (Operand.tmp 108) (Operand.const (Value.int IntKind.i64 (-70))) 3, type := 4, pos := "law.go:143", after := #[{ on := 26, ground := Ground.data }, { on := 14, ground := Ground.guard }], guard := some (14, false) }) (v := ?_) rfl (by kernel_rfl) (by kernel_rfl) (by kernel_rfl) (fun _ _ _ h => h) (Or.inl ⟨by rfl, ?_⟩) (by assumption) ?_
            rotate_left
            · (intro w hSw; (try dsimp only at hSw); go_simp); (first | done | with_reducible rfl)
            try simp only [Act.put, List.setIfInBounds_toArray, List.set_cons_zero, List.set_cons_succ]
            refine wpAnyH_take (i := 28) (oi := { dst := some 110, op := Op.pick (Operand.tmp 96) (Operand.const (Value.bool true)) (Operand.tmp 109), type := 4, pos := "law.go:143", after := #[{ on := 14, ground := Ground.data }, { on := 27, ground := Ground.data }], guard := none }) (v := ?_) rfl (by kernel_rfl) (by kernel_rfl) (by kernel_rfl) (fun _ _ _ h => h) (Or.inl ⟨by rfl, ?_⟩) (by assumption) ?_
            rotate_left
            · (intro w hSw; (try dsimp only at hSw); go_simp); (first | done | with_reducible rfl)
            try simp only [Act.put, List.setIfInBounds_toArray, List.set_cons_zero, List.set_cons_succ]
            refine wpAnyH_take (i := 29) (oi := { dst := some 111, op := Op.move (Operand.tmp 110), type := 4, pos := "law.go:143", after := #[{ on := 28, ground := Ground.data }, { on := 14, ground := Ground.chain }], guard := none }) (v := ?_) rfl (by kernel_rfl) (by kernel_rfl) (by kernel_rfl) (fun _ _ _ h => h) (Or.inl ⟨by rfl, ?_⟩) (by assumption) ?_
            rotate_left
            · (intro w hSw; (try dsimp only at hSw); go_simp); (first | done | with_reducible rfl)
            try simp only [Act.put, List.setIfInBounds_toArray, List.set_cons_zero, List.set_cons_succ]
            refine wpAnyH_take (i := 30) (oi := { dst := some 112, op := Op.move (Operand.tmp 5), type := 24, pos := "law.go:143", after := #[{ on := 29, ground := Ground.guard }], guard := some (29, false) }) (v := ?_) rfl (by kernel_rfl) (by kernel_rfl) (by kernel_rfl) (fun _ _ _ h => h) (Or.inl ⟨by rfl, ?_⟩) (by assumption) ?_
            rotate_left
            · (intro w hSw; (try dsimp only at hSw); go_simp); (first | done | with_reducible rfl)
            try simp only [Act.put, List.setIfInBounds_toArray, List.set_cons_zero, List.set_cons_succ]
            refine wpAnyH_take (i := 31) (oi := { dst := some 113, op := Op.fieldAddr 34 (Operand.tmp 10) 1, type := 0, pos := "law.go:143", after := #[{ on := 29, ground := Ground.guard }], guard := some (29, false) }) (v := ?_) rfl (by kernel_rfl) (by kernel_rfl) (by kernel_rfl) (fun _ _ _ h => h) (Or.inl ⟨by rfl, ?_⟩) (by assumption) ?_
            rotate_left
            · (intro w hSw; (try dsimp only at hSw); go_simp); (first | done | with_reducible rfl)
            try simp only [Act.put, List.setIfInBounds_toArray, List.set_cons_zero, List.set_cons_succ]
            refine wpAnyH_take (i := 32) (oi := { dst := some 114, op := Op.load 9 (Operand.tmp 113), type := 9, pos := "law.go:143", after := #[{ on := 31, ground := Ground.data }, { on := 29, ground := Ground.guard }], guard := some (29, false) }) (v := ?_) rfl (by kernel_rfl) (by kernel_rfl) (by kernel_rfl) (fun _ _ _ h => h) (Or.inl ⟨by rfl, ?_⟩) (by assumption) ?_
            rotate_left
            · (intro w hSw; (try dsimp only at hSw); go_simp); (first | done | with_reducible rfl)
            try simp only [Act.put, List.setIfInBounds_toArray, List.set_cons_zero, List.set_cons_succ]
            refine wpAnyH_take (i := 34) (oi := { dst := some 116, op := Op.move (Operand.tmp 7), type := 28, pos := "law.go:143", after := #[{ on := 29, ground := Ground.guard }], guard := some (29, false) }) (v := ?_) rfl (by kernel_rfl) (by kernel_rfl) (by kernel_rfl) (fun _ _ _ h => h) (Or.inl ⟨by rfl, ?_⟩) (by assumption) ?_
            rotate_left
            · (intro w hSw; (try dsimp only at hSw); go_simp); (first | done | with_reducible rfl)
            try simp only [Act.put, List.setIfInBounds_toArray, List.set_cons_zero, List.set_cons_succ]
            refine wpAnyH_take (i := 35) (oi := { dst := some 117, op := Op.fieldAddr 34 (Operand.tmp 10) 1, type := 0, pos := "law.go:143", after := #[{ on := 29, ground := Ground.guard }], guard := some (29, false) }) (v := ?_) rfl (by kernel_rfl) (by kernel_rfl) (by kernel_rfl) (fun _ _ _ h => h) (Or.inl ⟨by rfl, ?_⟩) (by assumption) ?_
            rotate_left
            · (intro w hSw; (try dsimp only at hSw); go_simp); (first | done | with_reducible rfl)
            try simp only [Act.put, List.setIfInBounds_toArray, List.set_cons_zero, List.set_cons_succ]
            refine wpAnyH_take (i := 36) (oi := { dst := some 118, op := Op.load 9 (Operand.tmp 117), type := 9, pos := "law.go:143", after := #[{ on := 35, ground := Ground.data }, { on := 29, ground := Ground.guard }], guard := some (29, false) }) (v := ?_) rfl (by kernel_rfl) (by kernel_rfl) (by kernel_rfl) (fun _ _ _ h => h) (Or.inl ⟨by rfl, ?_⟩) (by assumption) ?_
            rotate_left
            · (intro w hSw; (try dsimp only at hSw); go_simp); (first | done | with_reducible rfl)
            try simp only [Act.put, List.setIfInBounds_toArray, List.set_cons_zero, List.set_cons_succ]
            refine wpAnyH_ready (rs := [33]) (by kernel_rfl) (by simp) ?_
            refine AllReadyH.cons (o := { dst := some 115, op := Op.call { callee := Callee.value (Operand.func 23), args := #[Operand.tmp 112, Operand.tmp 114], argTypes := #[24, 9] }, type := 3, pos := "law.go:143", after := #[{ on := 30, ground := Ground.data }, { on := 32, ground := Ground.data }, { on := 29, ground := Ground.chain }, { on := 29, ground := Ground.guard }], guard := some (29, false) }) rfl (fun K hK => ?_) AllReadyH.nil
            go_simp
            have CJ := Lib.hid (show Calls Try.prog 23 #[.pointer (some ⟨a, 0, none⟩), .string (S x.name)] w10 (fun e w' => e = .returned (.int .i64 (Dk.get x.name D2.L).safe) ∧ w10 = w') from by obtain ⟨X, hX⟩ := HP8.out.two.tell; exact syncedX hX _ HRI.out.name)
            go_simp
            go_at_call 23
            with_reducible refine (CJ.out).mono ?_
            rintro e w11 ⟨rfl, rfl⟩
            clear CJ
            go_wp2_with fail
            refine hK.out _ _ ?_ (fun hHeld => ?_)
            · exact HS15.out _ HX5.out HR5.out HO5.out
            clear hK K
            try simp only [Act.put, List.setIfInBounds_toArray, List.set_cons_zero, List.set_cons_succ]
            refine wpAnyH_ready (rs := [37]) (by kernel_rfl) (by simp) ?_
            refine AllReadyH.cons (o := { dst := some 119, op := Op.call { callee := Callee.value (Operand.func 24), args := #[Operand.tmp 116, Operand.tmp 118], argTypes := #[28, 9] }, type := 3, pos := "law.go:143", after := #[{ on := 34, ground := Ground.data }, { on := 36, ground := Ground.data }, { on := 33, ground := Ground.chain }, { on := 29, ground := Ground.guard }], guard := some (29, false) }) rfl (fun K hK => ?_) AllReadyH.nil
            go_simp
            have CJ := Lib.hid (show Calls Try.prog 24 #[.pointer (some ⟨r, 0, none⟩), .string (S x.name)] w10 (fun e w' => e = .returned (.int .i64 (Dk.get x.name D2.L).safe) ∧ w10 = w') from by obtain ⟨c, hc⟩ := HP8.out.two.ref; exact rSynced5 hc _)
            go_simp
            go_at_call 24
            with_reducible refine (CJ.out).mono ?_
            rintro e w11 ⟨rfl, rfl⟩
            clear CJ
            have q7 : (((Dk.get x.name D2.L).safe : Int) != ((Dk.get x.name D2.L).safe : Int)) = false := by simp
            go_wp2_with fail
            refine hK.out _ _ ?_ (fun hHeld => ?_)
            · exact HS15.out _ HX5.out HR5.out HO5.out
            clear hK K
            try simp only [Act.put, List.setIfInBounds_toArray, List.set_cons_zero, List.set_cons_succ]
            refine wpAnyH_take (i := 38) (oi := { dst := some 120, op := Op.binOp BinOp.neq 3 (Operand.tmp 115) (Operand.tmp 119) 3, type := 4, pos := "law.go:143", after := #[{ on := 33, ground := Ground.data }, { on := 37, ground := Ground.data }, { on := 29, ground := Ground.guard }], guard := some (29, false) }) (v := ?_) rfl (by kernel_rfl) (by kernel_rfl) (by kernel_rfl) (fun _ _ _ h => h) (Or.inl ⟨by rfl, ?_⟩) (by assumption) ?_
            rotate_left
            · (intro w hSw; (try dsimp only at hSw); go_simp); (first | done | with_reducible rfl)
            try simp only [Act.put, List.setIfInBounds_toArray, List.set_cons_zero, List.set_cons_succ]
            refine wpAnyH_take (i := 39) (oi := { dst := some 121, op := Op.pick (Operand.tmp 111) (Operand.const (Value.bool true)) (Operand.tmp 120), type := 4, pos := "law.go:143", after := #[{ on := 29, ground := Ground.data }, { on := 38, ground := Ground.data }], guard := none }) (v := ?_) rfl (by kernel_rfl) (by kernel_rfl) (by kernel_rfl) (fun _ _ _ h => h) (Or.inl ⟨by rfl, ?_⟩) (by assumption) ?_
            rotate_left
            · (intro w hSw; (try dsimp only at hSw); go_simp); (first | done | with_reducible rfl)
            try simp only [Act.put, List.setIfInBounds_toArray, List.set_cons_zero, List.set_cons_succ]
            refine wpAnyH_take (i := 40) (oi := { dst := some 122, op := Op.move (Operand.tmp 121), type := 4, pos := "law.go:143", after := #[{ on := 39, ground := Ground.data }, { on := 37, ground := Ground.chain }], guard := none }) (v := ?_) rfl (by kernel_rfl) (by kernel_rfl) (by kernel_rfl) (fun _ _ _ h => h) (Or.inl ⟨by rfl, ?_⟩) (by assumption) ?_
            rotate_left
            · (intro w hSw; (try dsimp only at hSw); go_simp); (first | done | with_reducible rfl)
            try simp only [Act.put, List.setIfInBounds_toArray, List.set_cons_zero, List.set_cons_succ]
            refine wpAnyH_take (i := 41) (oi := { dst := some 123, op := Op.move (Operand.tmp 5), type := 24, pos := "law.go:143", after := #[{ on := 40, ground := Ground.guard }], guard := some (40, false) }) (v := ?_) rfl (by kernel_rfl) (by kernel_rfl) (by kernel_rfl) (fun _ _ _ h => h) (Or.inl ⟨by rfl, ?_⟩) (by assumption) ?_
            rotate_left
            · (intro w hSw; (try dsimp only at hSw); go_simp); (first | done | with_reducible rfl)
            try simp only [Act.put, List.setIfInBounds_toArray, List.set_cons_zero, List.set_cons_succ]
            refine wpAnyH_take (i := 42) (oi := { dst := some 124, op := Op.move (Operand.tmp 7), type := 28, pos := "law.go:143", after := #[{ on := 40, ground := Ground.guard }], guard := some (40, false) }) (v := ?_) rfl (by kernel_rfl) (by kernel_rfl) (by kernel_rfl) (fun _ _ _ h => h) (Or.inl ⟨by rfl, ?_⟩) (by assumption) ?_
            rotate_left
            · (intro w hSw; (try dsimp only at hSw); go_simp); (first | done | with_reducible rfl)
            try simp only [Act.put, List.setIfInBounds_toArray, List.set_cons_zero, List.set_cons_succ]
            refine wpAnyH_ready (rs := [43]) (by kernel_rfl) (by simp) ?_
            refine AllReadyH.cons (o := { dst := some 125, op := Op.call { callee := Callee.value (Operand.func 25), args := #[Operand.tmp 123, Operand.tmp 124], argTypes := #[24, 28] }, type := 4, pos := "law.go:143", after := #[{ on := 41, ground := Ground.data }, { on := 42, ground := Ground.data }, { on := 40, ground := Ground.chain }, { on := 40, ground := Ground.guard }], guard := some (40, false) }) rfl (fun K hK => ?_) AllReadyH.nil
            go_simp
            have CJ := Lib.hid (same5 HP8.out.two)
            go_simp
            go_at_call 25
            with_reducible refine (CJ.out).mono ?_
            rintro e w12 ⟨rfl, hb⟩
            replace HX5 := Lib.hid (HX5.out.below hb)
            replace HO5 := Lib.hid (row_below5 HO5.out hb)
            replace HR5 := Lib.hid (HR5.out.below (hb.mono HP8.out.two.size))
            replace HP8 := Lib.hid (HP8.out.below hb)
            clear hb CJ
            go_wp2_with fail
            refine hK.out _ _ ?_ (fun hHeld => ?_)
            · exact HS15.out _ HX5.out HR5.out HO5.out
            clear hK K
            try simp only [Act.put, List.setIfInBounds_toArray, List.set_cons_zero, List.set_cons_succ]
            refine wpAnyH_take (i := 44) (oi := { dst := some 126, op := Op.unOp UnOp.not 4 (Operand.tmp 125), type := 4, pos := "law.go:143", after := #[{ on := 43, ground := Ground.data }, { on := 40, ground := Ground.guard }], guard := some (40, false) }) (v := ?_) rfl (by kernel_rfl) (by kernel_rfl) (by kernel_rfl) (fun _ _ _ h => h) (Or.inl ⟨by rfl, ?_⟩) (by assumption) ?_
            rotate_left
            · (intro w hSw; (try dsimp only at hSw); go_simp); (first | done | with_reducible rfl)
            try simp only [Act.put, List.setIfInBounds_toArray, List.set_cons_zero, List.set_cons_succ]
            refine wpAnyH_take (i := 45) (oi := { dst := some 127, op := Op.pick (Operand.tmp 122) (Operand.const (Value.bool true)) (Operand.tmp 126), type := 4, pos := "law.go:143", after := #[{ on := 40, ground := Ground.data }, { on := 44, ground := Ground.data }], guard := none }) (v := ?_) rfl (by kernel_rfl) (by kernel_rfl) (by kernel_rfl) (fun _ _ _ h => h) (Or.inl ⟨by rfl, ?_⟩) (by assumption) ?_
            rotate_left
            · (intro w hSw; (try dsimp only at hSw); go_simp); (first | done | with_reducible rfl)
            refine wpAnyH_done (by kernel_rfl) ?_ _
            clear hHeld q1 e1 q2 q3 HS15
            have HIN := Lib.hid (show Bk #[.int .u8 x.kind, .string (S x.name), .string (S x.other), .string (S x.data), .int .i64 x.n, .slice (some ⟨gk, 0, none⟩) x.keep.length c15] 34 w12 xb ∧ (∃ xs, w12.ownsRow w4.heap.size 3 1 (.slice (some ⟨gk, 0, none⟩) k1 c15) k1 xs) ∧ Py5 W P5 W.heap.size a r (i + 1) D2 w12 from ⟨HX5.out, ⟨_, HO5.out⟩, HP8.out⟩)
            clear HX5 HO5 HP8 HR5
            go_wp2_with fail
            go_loopw [13] (fun v wr => ∃ m : Nat, m ≤ x.keep.length ∧ v = .int .i64 m ∧ Hid (Bk #[.int .u8 x.kind, .string (S x.name), .string (S x.other), .string (S x.data), .int .i64 x.n, .slice (some ⟨gk, 0, none⟩) x.keep.length c15] 34 wr xb ∧ (∃ xs, wr.ownsRow w4.heap.size 3 1 (.slice (some ⟨gk, 0, none⟩) k1 c15) k1 xs) ∧ Py5 W P5 W.heap.size a r (i + 1) D2 wr)) (fun v _ => x.keep.length - (intOf v).toNat)
            case atStart => exact ⟨0, Nat.zero_le _, rfl, HIN⟩
            case round =>
              clear HIN
              obtain ⟨wq, rfl⟩ : ∃ q, q = wr := ⟨_, rfl⟩
              obtain ⟨m, hm, rfl, HM⟩ := hrel
              have z5 : wq.cell? ⟨xb, 5, none⟩ = some (.slice (some ⟨gk, 0, none⟩) x.keep.length c15) := HM.out.1.cell 5
              by_cases hmt : m < x.keep.length
              · have t1 : decide ((m : Int) < (x.keep.length : Int)) = true := decide_eq_true (by omega)
                have t1' : decide (m < x.keep.length) = true := decide_eq_true hmt
                have hk9 := HK9.out
                have t2 : (0 : Int) ≤ (m : Int) := by omega
                have t3 : (m : Int) < (x.keep.length : Int) := by omega
                obtain ⟨-, ⟨xs, hxs⟩, -⟩ := HM.out
                have f9 := row_free5 hxs m
                have hlen : m < xs.length := by have := hxs.1; omega
                obtain ⟨g8, e8, -, -, hc8⟩ := row_at5 hxs (show m < k1 by omega)
                cases e8
                rw [List.getElem?_eq_getElem hlen] at hc8
                generalize xs[m] = u9 at hc8
                have HN := Lib.hid (show Bk #[.int .u8 x.kind, .string (S x.name), .string (S x.other), .string (S x.data), .int .i64 x.n, .slice (some ⟨gk, 0, none⟩) x.keep.length c15] 34 (wq.setCell ⟨gk, m, none⟩ (.int .i64 5)) xb ∧ (∃ xs, (wq.setCell ⟨gk, m, none⟩ (.int .i64 5)).ownsRow w4.heap.size 3 1 (.slice (some ⟨gk, 0, none⟩) k1 c15) k1 xs) ∧ Py5 W P5 W.heap.size a r (i + 1) D2 (wq.setCell ⟨gk, m, none⟩ (.int .i64 5)) from
                  ⟨HM.out.1.other (Ne.symm HPG.out.2.2.1) _ _, ⟨_, row_store5 hxs m (.int .i64 5)⟩, ⟨HM.out.2.2.two.wr (wr_set (A := fun q => q = gk) wq ⟨gk, m, none⟩ _ rfl) (fun q e => by subst e; exact HPG.out.1), HM.out.2.2.starts, HM.out.2.2.bel.setCell (p := ⟨gk, m, none⟩) HPG.out.2.2.2 _⟩⟩)
                clear hxs hlen
                go_wp2_with fail
                go_roundw
                case rel => exact ⟨m + 1, by omega, by go_num, HN⟩
                case measure => simp [intOf]; omega
              · have t1 : decide ((m : Int) < (x.keep.length : Int)) = false := decide_eq_false (by omega)
                have t1' : decide (m < x.keep.length) = false := decide_eq_false hmt
                have HO := Lib.hid (HM.out.2.2.less (P' := fun _ => False) (fun _ q => q.elim))
                go_wp2_with fail
                go_roundw
                case rel => exact ⟨i + 1, by omega, by go_num, Lib.hid ⟨D2, HO.out⟩⟩
                case measure => simp [intOf]; omega
          · go_simp
            have HNE := Lib.hid (show q7 ≠ v7.heap.size from fun e => by have := (HO7.out.lt q7 rfl).2; omega)
            replace HO7 := Lib.hid (HO7.out.alloc (.cells #[.int .i64 (-70)] 3))
            have HY := Lib.hid (show Bk #[.int .i64 (-70)] 3 (v7.alloc (.cells #[.int .i64 (-70)] 3)) v7.heap.size from bk_new _ _ _)
            replace HB := Lib.hid (HB.out.alloc HB.out.size (.cells #[.int .i64 (-70)] 3))
            generalize hq14 : v7.heap.size = q14 at *
            generalize hw14 : v7.alloc (.cells #[.int .i64 (-70)] 3) = v14 at *
            clear hq14 hw14
            refine hK.out _ _ ?_ (fun hHeld => ?_)
            · exact HCE.out _ HB.out
            clear hK K
            try simp only [Act.put, List.setIfInBounds_toArray, List.set_cons_zero, List.set_cons_succ]
            refine wpAnyZ_ready (rs := [13]) (by kernel_rfl) (by simp) ?_
            refine AllReadyZ.cons (o := { dst := some 62, op := Op.call { callee := Callee.builtin Builtin.append, args := #[Operand.tmp 56, Operand.tmp 61], argTypes := #[32, 32] }, type := 32, pos := "law.go:141", after := #[{ on := 7, ground := Ground.data }, { on := 12, ground := Ground.data }], guard := none }) rfl (by rfl) (fun K hK => ?_) (AllReadyZ.nil)
            refine step_append_ns5 (by rfl) _ _ 32 (by rfl) w4.heap.size j0 Try.underlying32 hj hy0 hy1 hy2 (.slice (some ⟨q7, 0, none⟩) 0 k1) 0 [] (by rfl) HO7.out x.o x.k x.keep (by rfl) ((HR4.out.below (HB.out.mono (Nat.le_trans HP.out.two.size HB34.out.size))).at_.2.2.2.2.2.2) (by have := HK9.out; omega) HB.out.size ?_
            intro u13 v13 ho13 hg13 hat13
            rw [Nat.zero_add, List.nil_append] at ho13
            obtain ⟨a13, c13, rfl⟩ := row_shape5 ho13
            have HO13 := Lib.hid ho13
            replace HB := Lib.hid (HB.out.grown hg13 HB.out.size (fun q hq => (HO7.out.lt q hq).1))
            replace HY := Lib.hid (HY.out.grown hg13 (fun e => HNE.out (by cases e; rfl)))
            clear ho13 hg13 hat13 HO7
            refine hK.out _ _ ?_ (fun hHeld => ?_)
            · exact HCE.out _ HB.out
            clear hK K
            try simp only [Act.put, List.setIfInBounds_toArray, List.set_cons_zero, List.set_cons_succ]
            refine wpAnyZ_ready (rs := [15]) (by kernel_rfl) (by simp) ?_
            refine AllReadyZ.cons (o := { dst := some 64, op := Op.call { callee := Callee.builtin Builtin.append, args := #[Operand.tmp 62, Operand.tmp 63], argTypes := #[32, 32] }, type := 32, pos := "law.go:141", after := #[{ on := 13, ground := Ground.data }, { on := 14, ground := Ground.data }, { on := 13, ground := Ground.chain }], guard := none }) rfl (by rfl) (fun K hK => ?_) (AllReadyZ.nil)
            refine step_append_ns5 (by rfl) _ _ 32 (by rfl) w4.heap.size j0 Try.underlying32 hj hy0 hy1 hy2 (.slice a13 x.keep.length c13) x.keep.length (ints5 x.keep) (by rfl) HO13.out (some ⟨q14, 0, none⟩) 1 [-70] (by rfl) (bk_one5 HY.out) (by have := HK9.out; simp; omega) HB.out.size ?_
            intro u15 v15 ho15 hg15 _
            replace ho15 : v15.ownsRow w4.heap.size 3 1 u15 k1 (ints5 (x.keep ++ [-70])) := by rw [ints5_app, HK1.out, HKN.out]; exact ho15
            obtain ⟨a15, c15, rfl⟩ := row_shape5 ho15
            obtain ⟨gk, rfl, -, -, -⟩ := row_at5 ho15 (k := 0) (by have := HK1.out; omega)
            have hc15 : x.keep.length ≤ c15 ∧ k1 ≤ c15 := (by rcases ho15.2 with ⟨e9, _⟩ | ⟨g9, cap9, cur9, e9, _, _, hc9, _⟩; (cases e9); (injection e9 with _ _ e9; have := HK1.out; have := HKN.out; omega))
            have hc16 : (x.keep.length : Int) ≤ (c15 : Int) := by omega
            have HO15 := Lib.hid ho15
            replace HB := Lib.hid (HB.out.grown hg15 HB.out.size (fun q hq => (HO13.out.lt q hq).1))
            clear ho15 hg15 HO13 HY
            refine hK.out _ _ ?_ (fun hHeld => ?_)
            · exact HCE.out _ HB.out
            clear hK K
            try simp only [Act.put, List.setIfInBounds_toArray, List.set_cons_zero, List.set_cons_succ]
            refine wpAnyZ_takeY (i := 22) (oi := { dst := some 71, op := Op.slice 32 (Operand.tmp 64) none (some (Operand.tmp 70)) none, type := 32, pos := "law.go:141", after := #[{ on := 15, ground := Ground.data }, { on := 21, ground := Ground.data }], guard := none }) (v := ?_) rfl (by kernel_rfl) (by kernel_rfl) (by kernel_rfl) (by rfl) (fun _ _ _ h => h) (Or.inl ⟨by rfl, ?_⟩) (by assumption) ?_
            rotate_left
            · (intro w; go_simp); (first | done | with_reducible rfl)
            try simp only [Act.put, List.setIfInBounds_toArray, List.set_cons_zero, List.set_cons_succ]
            refine wpAnyZ_takeY (i := 23) (oi := { dst := some 72, op := Op.fieldAddr 34 (Operand.tmp 10) 5, type := 0, pos := "law.go:141", after := #[{ on := 0, ground := Ground.phase }, { on := 1, ground := Ground.phase }, { on := 2, ground := Ground.phase }, { on := 3, ground := Ground.phase }, { on := 4, ground := Ground.phase }, { on := 5, ground := Ground.phase }, { on := 6, ground := Ground.phase }, { on := 7, ground := Ground.phase }, { on := 8, ground := Ground.phase }, { on := 9, ground := Ground.phase }, { on := 10, ground := Ground.phase }, { on := 11, ground := Ground.phase }, { on := 12, ground := Ground.phase }, { on := 13, ground := Ground.phase }, { on := 14, ground := Ground.phase }, { on := 15, ground := Ground.phase }, { on := 16, ground := Ground.phase }, { on := 17, ground := Ground.phase }, { on := 18, ground := Ground.phase }, { on := 19, ground := Ground.phase }, { on := 20, ground := Ground.phase }, { on := 21, ground := Ground.phase }, { on := 22, ground := Ground.phase }], guard := none }) (v := ?_) rfl (by kernel_rfl) (by kernel_rfl) (by kernel_rfl) (by rfl) (fun _ _ _ h => h) (Or.inl ⟨by rfl, ?_⟩) (by assumption) ?_
            rotate_left
            · (intro w; go_simp); (first | done | with_reducible rfl)
            try simp only [Act.put, List.setIfInBounds_toArray, List.set_cons_zero, List.set_cons_succ]
            refine wpAnyZ_ready (rs := [24]) (by kernel_rfl) (by simp) ?_
            refine AllReadyZ.last (o := { dst := none, op := Op.store 32 (Operand.tmp 72) (Operand.tmp 71), type := 0, pos := "law.go:141", after := #[{ on := 23, ground := Ground.data }, { on := 22, ground := Ground.data }, { on := 15, ground := Ground.chain }, { on := 0, ground := Ground.phase }, { on := 1, ground := Ground.phase }, { on := 2, ground := Ground.phase }, { on := 3, ground := Ground.phase }, { on := 4, ground := Ground.phase }, { on := 5, ground := Ground.phase }, { on := 6, ground := Ground.phase }, { on := 7, ground := Ground.phase }, { on := 8, ground := Ground.phase }, { on := 9, ground := Ground.phase }, { on := 10, ground := Ground.phase }, { on := 11, ground := Ground.phase }, { on := 12, ground := Ground.phase }, { on := 13, ground := Ground.phase }, { on := 14, ground := Ground.phase }, { on := 15, ground := Ground.phase }, { on := 16, ground := Ground.phase }, { on := 17, ground := Ground.phase }, { on := 18, ground := Ground.phase }, { on := 19, ground := Ground.phase }, { on := 20, ground := Ground.phase }, { on := 21, ground := Ground.phase }, { on := 22, ground := Ground.phase }], guard := none }) rfl (fun K hK => ?_) AllReadyZ.nil
            have f0 := (HXB.out.below HB.out).free 5
            have m0 := (HXB.out.below HB.out).cell 5
            go_simp
            refine hK.out _ _ ?_
            clear hK K
            refine wpAny_done (by kernel_rfl) ?_ _
            have HCK := Lib.hid hc15
            have HX5 := Lib.hid (show Bk #[.int .u8 x.kind, .string (S x.name), .string (S x.other), .string (S x.data), .int .i64 x.n, .slice (some ⟨gk, 0, none⟩) x.keep.length c15] 34 (v15.setCell ⟨xb, 5, none⟩ (.slice (some ⟨gk, 0, none⟩) x.keep.length c15)) xb from (HXB.out.below HB.out).set 5 _)
            have hgk := HO15.out.lt gk rfl
            have HO5 := Lib.hid (show (v15.setCell ⟨xb, 5, none⟩ (.slice (some ⟨gk, 0, none⟩) x.keep.length c15)).ownsRow w4.heap.size 3 1 (.slice (some ⟨gk, 0, none⟩) k1 c15) k1 (ints5 (x.keep ++ [-70])) from row_set5 HO15.out (fun q hq => by have h9 : some gk = some q := hq; injection h9 with h9; have := HXB.out.lt; omega))
            have hb35 : Below w3.heap.size w3 v15 := below_step HB34.out HB.out
            have HP5 := Lib.hid (show Py5 W (fun q => False ∨ (w3.heap.size ≤ q ∧ q < v15.heap.size)) W.heap.size a r i D (v15.setCell ⟨xb, 5, none⟩ (.slice (some ⟨gk, 0, none⟩) x.keep.length c15)) from
              ⟨(HP.out.newrow hb35).two.wr (wr_set (A := fun q => q = xb) v15 ⟨xb, 5, none⟩ _ rfl) (fun q e => by subst e; have h1 := HXW.out; have h2 := HXB.out.lt; have h3 := HB.out.size; exact .inr ⟨by omega, by omega⟩), HP.out.starts, (HP.out.newrow hb35).bel.setCell (p := ⟨xb, 5, none⟩) (by have h1 := HXW.out; have h2 := HP.out.two.size; show _ ≤ xb; omega) _⟩)
            have HPG := Lib.hid (show (False ∨ (w3.heap.size ≤ gk ∧ gk < v15.heap.size)) ∧ (False ∨ (w3.heap.size ≤ xb ∧ xb < v15.heap.size)) ∧ gk ≠ xb ∧ W.heap.size ≤ gk from by have h1 := HXW.out; have h2 := HXB.out.lt; have h3 := HB.out.size; have h4 := HB34.out.size; have h5 := HP.out.two.size; exact ⟨.inr ⟨by omega, by omega⟩, .inr ⟨by omega, by omega⟩, by omega, by omega⟩)
            obtain ⟨P5, hP5⟩ : ∃ P : Nat → Prop, P = fun q => False ∨ (w3.heap.size ≤ q ∧ q < v15.heap.size) := ⟨_, rfl⟩
            rw [← hP5] at HP5
            replace HPG := Lib.hid (show P5 gk ∧ P5 xb ∧ gk ≠ xb ∧ W.heap.size ≤ gk from by rw [hP5]; exact HPG.out)
            have HR5 := Lib.hid (show ActAt W.heap.size (v15.setCell ⟨xb, 5, none⟩ (.slice (some ⟨gk, 0, none⟩) x.keep.length c15)) g (off + i * 6) x from (HR4.out.below (HB.out.mono (Nat.le_trans HP.out.two.size HB34.out.size))).below ((Below.refl W.heap.size v15).setCell (p := ⟨xb, 5, none⟩) (by have h1 := HXW.out; have h2 := HP.out.two.size; show _ ≤ xb; omega) _))
            clear hc15 hc16 hHeld f0 m0 hgk hb35 hP5 HO15 HB HXB HXW HP HR4 HCE HRA hmk hC e1
            generalize v15.setCell ⟨xb, 5, none⟩ (.slice (some ⟨gk, 0, none⟩) x.keep.length c15) = w5 at *
            go_wp2_with fail
            go_upto_region 14 with fail
            replace HX5 := Lib.hid HX5.out.drew
            replace HO5 := Lib.hid (row_below5 HO5.out (Below.refl _ _).drew)
            replace HP5 := Lib.hid (HP5.out.below (Below.refl _ _).drew)
            replace HR5 := Lib.hid (HR5.out.below (Below.refl _ _).drew)
            refine wp_region_held_drew (S := fun V => V.cell? ⟨xb, 0, none⟩ = some (.int .u8 x.kind) ∧ V.cell? ⟨xb, 1, none⟩ = some (.string (S x.name)) ∧ V.cell? ⟨xb, 2, none⟩ = some (.string (S x.other)) ∧ V.cell? ⟨xb, 3, none⟩ = some (.string (S x.data)) ∧ V.cell? ⟨xb, 4, none⟩ = some (.int .i64 x.n) ∧ V.cell? ⟨xb, 5, none⟩ = some (.slice (some ⟨gk, 0, none⟩) x.keep.length c15) ∧ V.cell? ⟨g, off + i * 6, none⟩ = some (.int .u8 x.kind) ∧ V.cell? ⟨g, off + i * 6 + 1, none⟩ = some (.string (S x.name)) ∧ V.cell? ⟨g, off + i * 6 + 2, none⟩ = some (.string (S x.other)) ∧ V.cell? ⟨g, off + i * 6 + 3, none⟩ = some (.string (S x.data)) ∧ V.cell? ⟨g, off + i * 6 + 4, none⟩ = some (.int .i64 x.n) ∧ V.cell? ⟨g, off + i * 6 + 5, none⟩ = some (.slice x.o x.keep.length x.k)) (by kernel_rfl) ?_ (fun hHeld => ?_)
            · (obtain ⟨z0, z1, z2, z3, z4, z5, -⟩ := HR5.out.at_; exact ⟨HX5.out.cell 0, HX5.out.cell 1, HX5.out.cell 2, HX5.out.cell 3, HX5.out.cell 4, HX5.out.cell 5, z0, z1, z2, z3, z4, z5⟩)
            obtain ⟨w6, hw6⟩ : ∃ q, q = World.drew w5 := ⟨_, rfl⟩
            rw [← hw6] at HX5 HO5 HP5 HR5 hHeld ⊢
            clear hw6
            have HKA := Lib.hid (show NsA5 w6 (some ⟨gk, 0, none⟩) x.keep from fun hn => by
                obtain ⟨g9, e9, h9⟩ : ∃ g9, (some ⟨gk, 0, none⟩ : Option Addr) = some ⟨g9, 0, none⟩ ∧ True := ⟨gk, rfl, trivial⟩
                refine ⟨gk, 0, rfl, fun j hj2 => ?_⟩
                have hlt9 : j < k1 := by have := HK1.out; have := HKN.out; omega
                obtain ⟨g8, e8, -, -, hc8⟩ := row_at5 HO5.out hlt9
                cases e8
                rw [Nat.zero_add, hc8]
                exact ints_pre5 _ _ hj2)
            have CJ := Lib.hid (show Calls Try.prog 20 #[.pointer (some ⟨a, 0, none⟩), .agg #[.int .u8 x.kind, .string (S x.name), .string (S x.other), .string (S x.data), .int .i64 x.n, .slice (some ⟨gk, 0, none⟩) x.keep.length c15]] w6 (fun e w' => e = .returned (.int .i64 (Dk.act x D).1) ∧ Pl5 P5 W.heap.size a r (Dk.act x D).2 D w' ∧ Wr (fun k => W.heap.size ≤ k ∧ ¬ P5 k) w6 w') from HP5.out.two.done ⟨x.kind, x.name, x.other, x.data, x.n, x.keep, some ⟨gk, 0, none⟩, c15⟩ ⟨HRI.out.kind, HRI.out.name, HRI.out.other, HRI.out.data, HRI.out.n, HRI.out.keep⟩ HKA.out (fun y _ hy => by cases hy; exact .inl HPG.out.1) (by have := HP5.out.starts; omega))
            have HOKD := Lib.hid HP5.out.two.ok
            refine wpAnyH_take (i := 0) (oi := { dst := some 73, op := Op.move (Operand.tmp 5), type := 24, pos := "law.go:142", after := #[], guard := none }) (v := ?_) rfl (by kernel_rfl) (by kernel_rfl) (by kernel_rfl) (fun _ _ _ h => h) (Or.inl ⟨by rfl, ?_⟩) (by assumption) ?_
            rotate_left
            · (intro w hSw; (try dsimp only at hSw); go_simp); (first | done | with_reducible rfl)
            try simp only [Act.put, List.setIfInBounds_toArray, List.set_cons_zero, List.set_cons_succ]
            refine wpAnyH_take (i := 1) (oi := { dst := some 74, op := Op.load 34 (Operand.tmp 10), type := 34, pos := "law.go:142", after := #[], guard := none }) (v := ?_) rfl (by kernel_rfl) (by kernel_rfl) (by kernel_rfl) (fun _ _ _ h => h) (Or.inl ⟨by rfl, ?_⟩) (by assumption) ?_
            rotate_left
            · (intro w hSw; (try dsimp only at hSw); go_simp); (first | done | with_reducible rfl)
            try simp only [Act.put, List.setIfInBounds_toArray, List.set_cons_zero, List.set_cons_succ]
            refine wpAnyH_take (i := 3) (oi := { dst := some 76, op := Op.move (Operand.tmp 7), type := 28, pos := "law.go:142", after := #[], guard := none }) (v := ?_) rfl (by kernel_rfl) (by kernel_rfl) (by kernel_rfl) (fun _ _ _ h => h) (Or.inl ⟨by rfl, ?_⟩) (by assumption) ?_
            rotate_left
            · (intro w hSw; (try dsimp only at hSw); go_simp); (first | done | with_reducible rfl)
            try simp only [Act.put, List.setIfInBounds_toArray, List.set_cons_zero, List.set_cons_succ]
            refine wpAnyH_take (i := 4) (oi := { dst := some 77, op := Op.move (Operand.tmp 1), type := 22, pos := "law.go:142", after := #[], guard := none }) (v := ?_) rfl (by kernel_rfl) (by kernel_rfl) (by kernel_rfl) (fun _ _ _ h => h) (Or.inl ⟨by rfl, ?_⟩) (by assumption) ?_
            rotate_left
            · (intro w hSw; (try dsimp only at hSw); go_simp); (first | done | with_reducible rfl)
            try simp only [Act.put, List.setIfInBounds_toArray, List.set_cons_zero, List.set_cons_succ]
            refine wpAnyH_take (i := 5) (oi := { dst := some 78, op := Op.move (Operand.tmp 9), type := 3, pos := "law.go:142", after := #[], guard := none }) (v := ?_) rfl (by kernel_rfl) (by kernel_rfl) (by kernel_rfl) (fun _ _ _ h => h) (Or.inl ⟨by rfl, ?_⟩) (by assumption) ?_
            rotate_left
            · (intro w hSw; (try dsimp only at hSw); go_simp); (first | done | with_reducible rfl)
            try simp only [Act.put, List.setIfInBounds_toArray, List.set_cons_zero, List.set_cons_succ]
            refine wpAnyH_take (i := 6) (oi := { dst := some 79, op := Op.indexAddr 22 (Operand.tmp 77) (Operand.tmp 78), type := 0, pos := "law.go:142", after := #[{ on := 4, ground := Ground.data }, { on := 5, ground := Ground.data }], guard := none }) (v := ?_) rfl (by kernel_rfl) (by kernel_rfl) (by kernel_rfl) (fun _ _ _ h => h) (Or.inl ⟨by rfl, ?_⟩) (by assumption) ?_
            rotate_left
            · (intro w hSw; (try dsimp only at hSw); go_simp); (first | done | with_reducible rfl)
            try simp only [Act.put, List.setIfInBounds_toArray, List.set_cons_zero, List.set_cons_succ]
            refine wpAnyH_take (i := 7) (oi := { dst := some 80, op := Op.load 34 (Operand.tmp 79), type := 34, pos := "law.go:142", after := #[{ on := 6, ground := Ground.data }], guard := none }) (v := ?_) rfl (by kernel_rfl) (by kernel_rfl) (by kernel_rfl) (fun _ _ _ h => h) (Or.inl ⟨by rfl, ?_⟩) (by assumption) ?_
            rotate_left
            · (intro w hSw; (try dsimp only at hSw); go_simp); (first | done | with_reducible rfl)
            try simp only [Act.put, List.setIfInBounds_toArray, List.set_cons_zero, List.set_cons_succ]
            refine wpAnyH_ready (rs := [2]) (by kernel_rfl) (by simp) ?_
            refine AllReadyH.cons (o := { dst := some 75, op := Op.call { callee := Callee.value (Operand.func 20), args := #[Operand.tmp 73, Operand.tmp 74], argTypes := #[24, 34] }, type := 25, pos := "law.go:142", after := #[{ on := 0, ground := Ground.data }, { on := 1, ground := Ground.data }], guard := none }) rfl (fun K hK => ?_) AllReadyH.nil
            go_simp
            go_simp
            go_at_call 20
            with_reducible refine (CJ.out).mono ?_
            rintro e w7 ⟨rfl, ht, hw⟩
            have HB7 := Lib.hid (hw.below (fun q hq => hq.1) HP5.out.two.size)
            replace HX5 := Lib.hid (HX5.out.wr hw (fun q => q.2 HPG.out.2.1))
            replace HO5 := Lib.hid (row_wr HO5.out hw (fun q hq ha => by have h9 : some gk = some q := hq; injection h9 with h9; subst h9; exact ha.2 HPG.out.1))
            replace HR5 := Lib.hid (HR5.out.below HB7.out)
            have CJ2 := Lib.hid (ht.said HOKD.out x HRI.out HR5.out.at_.2.2.2.2.2.2 (fun y hn hy => HR5.out.keep y hn hy) (by have := HP5.out.starts; omega))
            have HSZ7 := Lib.hid ht.size
            clear ht hw CJ
            go_wp2_with fail
            refine hK.out _ _ ?_ (fun hHeld => ?_)
            · (obtain ⟨z0, z1, z2, z3, z4, z5, -⟩ := HR5.out.at_; exact ⟨HX5.out.cell 0, HX5.out.cell 1, HX5.out.cell 2, HX5.out.cell 3, HX5.out.cell 4, HX5.out.cell 5, z0, z1, z2, z3, z4, z5⟩)
            clear hK K
            try simp only [Act.put, List.setIfInBounds_toArray, List.set_cons_zero, List.set_cons_succ]
            refine wpAnyH_ready (rs := [8]) (by kernel_rfl) (by simp) ?_
            refine AllReadyH.cons (o := { dst := some 81, op := Op.call { callee := Callee.value (Operand.func 21), args := #[Operand.tmp 76, Operand.tmp 80], argTypes := #[28, 34] }, type := 25, pos := "law.go:142", after := #[{ on := 3, ground := Ground.data }, { on := 7, ground := Ground.data }, { on := 2, ground := Ground.chain }], guard := none }) rfl (fun K hK => ?_) AllReadyH.nil
            go_simp
            go_simp
            go_at_call 21
            with_reducible refine (CJ2.out).mono ?_
            rintro e w8 ⟨rfl, ht, hw⟩
            have HB8 := Lib.hid (HB7.out.trans (hw.below (fun q hq => hq.1) HSZ7.out))
            replace HX5 := Lib.hid (HX5.out.wr hw (fun q => q.2 HPG.out.2.1))
            replace HO5 := Lib.hid (row_wr HO5.out hw (fun q hq ha => by have h9 : some gk = some q := hq; injection h9 with h9; subst h9; exact ha.2 HPG.out.1))
            replace HR5 := Lib.hid (HR5.out.below (hw.below (fun q hq => hq.1) HSZ7.out))
            have HP8 := Lib.hid (show Py5 W P5 W.heap.size a r (i + 1) (Dk.act x D).2 w8 from ⟨ht, by have h1 := (Dk.kin_act x D).1.starts; have h2 := HP5.out.starts; omega, HP5.out.bel.trans HB8.out⟩)
            clear ht hw CJ2 HB7 HSZ7
            go_wp2_with fail
            refine hK.out _ _ ?_ (fun hHeld => ?_)
            · (obtain ⟨z0, z1, z2, z3, z4, z5, -⟩ := HR5.out.at_; exact ⟨HX5.out.cell 0, HX5.out.cell 1, HX5.out.cell 2, HX5.out.cell 3, HX5.out.cell 4, HX5.out.cell 5, z0, z1, z2, z3, z4, z5⟩)
            clear hK K
            try simp only [Act.put, List.setIfInBounds_toArray, List.set_cons_zero, List.set_cons_succ]
            refine wpAnyH_take (i := 9) (oi := { dst := some 11, op := Op.assign (Operand.tmp 75), type := 25, pos := "law.go:142", after := #[{ on := 2, ground := Ground.data }, { on := 8, ground := Ground.chain }, { on := 0, ground := Ground.phase }, { on := 1, ground := Ground.phase }, { on := 2, ground := Ground.phase }, { on := 3, ground := Ground.textOnly Departure.lateStores }, { on := 4, ground := Ground.textOnly Departure.lateStores }, { on := 5, ground := Ground.textOnly Departure.lateStores }, { on := 6, ground := Ground.textOnly Departure.lateStores }, { on := 7, ground := Ground.textOnly Departure.lateStores }, { on := 8, ground := Ground.textOnly Departure.lateStoresUnsure }], guard := none }) (v := ?_) rfl (by kernel_rfl) (by kernel_rfl) (by kernel_rfl) (fun _ _ _ h => h) (Or.inl ⟨by rfl, ?_⟩) (by assumption) ?_
            rotate_left
            · (intro w hSw; (try dsimp only at hSw); go_simp); (first | done | with_reducible rfl)
            try simp only [Act.put, List.setIfInBounds_toArray, List.set_cons_zero, List.set_cons_succ]
            refine wpAnyH_take (i := 10) (oi := { dst := some 12, op := Op.assign (Operand.tmp 81), type := 25, pos := "law.go:142", after := #[{ on := 8, ground := Ground.data }, { on := 9, ground := Ground.chain }, { on := 0, ground := Ground.phase }, { on := 1, ground := Ground.phase }, { on := 2, ground := Ground.phase }, { on := 3, ground := Ground.phase }, { on := 4, ground := Ground.phase }, { on := 5, ground := Ground.phase }, { on := 6, ground := Ground.phase }, { on := 7, ground := Ground.phase }, { on := 8, ground := Ground.phase }, { on := 9, ground := Ground.phase }], guard := none }) (v := ?_) rfl (by kernel_rfl) (by kernel_rfl) (by kernel_rfl) (fun _ _ _ h => h) (Or.inl ⟨by rfl, ?_⟩) (by assumption) ?_
            rotate_left
            · (intro w hSw; (try dsimp only at hSw); go_simp); (first | done | with_reducible rfl)
            refine wpAnyH_done (by kernel_rfl) ?_ _
            go_wp2_with fail
            clear HP5 hHeld HOKD HKA
            generalize (Dk.act x D).1 = er at *
            generalize (Dk.act x D).2 = D2 at *
            have HS15 := Lib.hid (fun wy (h1 : Bk #[.int .u8 x.kind, .string (S x.name), .string (S x.other), .string (S x.data), .int .i64 x.n, .slice (some ⟨gk, 0, none⟩) x.keep.length c15] 34 wy xb) (h2 : ActAt W.heap.size wy g (off + i * 6) x) (h3 : wy.ownsRow w4.heap.size 3 1 (.slice (some ⟨gk, 0, none⟩) k1 c15) k1 (ints5 (x.keep ++ [-70]))) => (show wy.cell? ⟨xb, 1, none⟩ = some (.string (S x.name)) ∧ wy.cell? ⟨xb, 5, none⟩ = some (.slice (some ⟨gk, 0, none⟩) x.keep.length c15) ∧ wy.cell? ⟨g, off + i * 6 + 5, none⟩ = some (.slice x.o x.keep.length x.k) ∧ wy.cell? ⟨gk, x.keep.length, none⟩ = some (.int .i64 (-70)) from by
              obtain ⟨g8, e8, -, -, hc8⟩ := row_at5 h3 (k := x.keep.length) (by have := HK1.out; have := HKN.out; omega)
              cases e8
              rw [ints_last5] at hc8
              exact ⟨h1.cell 1, h1.cell 5, h2.at_.2.2.2.2.2.1, hc8⟩))
            have q1 : (er != er) = false := by simp
            have e1 : IntKind.i64.wrap ((x.keep.length : Int) + 1) = (k1 : Int) := by rw [IntWalk.i64_in _ (by have := HK9.out; omega)]; have := HK1.out; have := HKN.out; omega
            have q2 : (k1 : Int) ≤ (c15 : Int) := by have := HCK.out.2; omega
            have q3 : (x.keep.length : Int) < (k1 : Int) := by have := HK1.out; have := HKN.out; omega
            have q4 : (0 : Int) ≤ (x.keep.length : Int) := by omega
            have q5 : x.keep.length < k1 := by omega
            go_upto_region 15 with fail
            replace HX5 := Lib.hid HX5.out.drew
            replace HO5 := Lib.hid (row_below5 HO5.out (Below.refl _ _).drew)
            replace HP8 := Lib.hid (HP8.out.below (Below.refl _ _).drew)
            replace HR5 := Lib.hid (HR5.out.below (Below.refl _ _).drew)
            refine wp_region_held_drew (S := fun V => V.cell? ⟨xb, 1, none⟩ = some (.string (S x.name)) ∧ V.cell? ⟨xb, 5, none⟩ = some (.slice (some ⟨gk, 0, none⟩) x.keep.length c15) ∧ V.cell? ⟨g, off + i * 6 + 5, none⟩ = some (.slice x.o x.keep.length x.k) ∧ V.cell? ⟨gk, x.keep.length, none⟩ = some (.int .i64 (-70))) (by kernel_rfl) ?_ (fun hHeld => ?_)
            · exact HS15.out _ HX5.out HR5.out HO5.out
            obtain ⟨w9, hw9⟩ : ∃ q, q = World.drew w8 := ⟨_, rfl⟩
            rw [← hw9] at HX5 HO5 HP8 HR5 hHeld ⊢
            clear hw9
            refine wpAnyH_take (i := 0) (oi := { dst := some 82, op := Op.move (Operand.tmp 11), type := 25, pos := "law.go:143", after := #[], guard := none }) (v := ?_) rfl (by kernel_rfl) (by kernel_rfl) (by kernel_rfl) (fun _ _ _ h => h) (Or.inl ⟨by rfl, ?_⟩) (by assumption) ?_
            rotate_left
            · (intro w hSw; (try dsimp only at hSw); go_simp); (first | done | with_reducible rfl)
            try simp only [Act.put, List.setIfInBounds_toArray, List.set_cons_zero, List.set_cons_succ]
            refine wpAnyH_take (i := 1) (oi := { dst := some 83, op := Op.move (Operand.tmp 12), type := 25, pos := "law.go:143", after := #[], guard := none }) (v := ?_) rfl (by kernel_rfl) (by kernel_rfl) (by kernel_rfl) (fun _ _ _ h => h) (Or.inl ⟨by rfl, ?_⟩) (by assumption) ?_
            rotate_left
            · (intro w hSw; (try dsimp only at hSw); go_simp); (first | done | with_reducible rfl)
            try simp only [Act.put, List.setIfInBounds_toArray, List.set_cons_zero, List.set_cons_succ]
            refine wpAnyH_take (i := 2) (oi := { dst := some 84, op := Op.binOp BinOp.neq 25 (Operand.tmp 82) (Operand.tmp 83) 25, type := 4, pos := "law.go:143", after := #[{ on := 0, ground := Ground.data }, { on := 1, ground := Ground.data }], guard := none }) (v := ?_) rfl (by kernel_rfl) (by kernel_rfl) (by kernel_rfl) (fun _ _ _ h => h) (Or.inl ⟨by rfl, ?_⟩) (by assumption) ?_
            rotate_left
            · (intro w hSw; (try dsimp only at hSw); go_simp); (first | done | with_reducible rfl)
            try simp only [Act.put, List.setIfInBounds_toArray, List.set_cons_zero, List.set_cons_succ]
            refine wpAnyH_take (i := 3) (oi := { dst := some 85, op := Op.move (Operand.tmp 84), type := 4, pos := "law.go:143", after := #[{ on := 2, ground := Ground.data }], guard := none }) (v := ?_) rfl (by kernel_rfl) (by kernel_rfl) (by kernel_rfl) (fun _ _ _ h => h) (Or.inl ⟨by rfl, ?_⟩) (by assumption) ?_
            rotate_left
            · (intro w hSw; (try dsimp only at hSw); go_simp); (first | done | with_reducible rfl)
            try simp only [Act.put, List.setIfInBounds_toArray, List.set_cons_zero, List.set_cons_succ]
            refine wpAnyH_take (i := 4) (oi := { dst := some 86, op := Op.fieldAddr 34 (Operand.tmp 10) 5, type := 0, pos := "law.go:143", after := #[{ on := 3, ground := Ground.guard }], guard := some (3, false) }) (v := ?_) rfl (by kernel_rfl) (by kernel_rfl) (by kernel_rfl) (fun _ _ _ h => h) (Or.inl ⟨by rfl, ?_⟩) (by assumption) ?_
            rotate_left
            · (intro w hSw; (try dsimp only at hSw); go_simp); (first | done | with_reducible rfl)
            try simp only [Act.put, List.setIfInBounds_toArray, List.set_cons_zero, List.set_cons_succ]
            refine wpAnyH_take (i := 5) (oi := { dst := some 87, op := Op.load 32 (Operand.tmp 86), type := 32, pos := "law.go:143", after := #[{ on := 4, ground := Ground.data }, { on := 3, ground := Ground.guard }], guard := some (3, false) }) (v := ?_) rfl (by kernel_rfl) (by kernel_rfl) (by kernel_rfl) (fun _ _ _ h => h) (Or.inl ⟨by rfl, ?_⟩) (by assumption) ?_
            rotate_left
            · (intro w hSw; (try dsimp only at hSw); go_simp); (first | done | with_reducible rfl)
            try simp only [Act.put, List.setIfInBounds_toArray, List.set_cons_zero, List.set_cons_succ]
            refine wpAnyH_take (i := 6) (oi := { dst := some 88, op := Op.move (Operand.tmp 1), type := 22, pos := "law.go:143", after := #[{ on := 3, ground := Ground.guard }], guard := some (3, false) }) (v := ?_) rfl (by kernel_rfl) (by kernel_rfl) (by kernel_rfl) (fun _ _ _ h => h) (Or.inl ⟨by rfl, ?_⟩) (by assumption) ?_
            rotate_left
            · (intro w hSw; (try dsimp only at hSw); go_simp); (first | done | with_reducible rfl)
            try simp only [Act.put, List.setIfInBounds_toArray, List.set_cons_zero, List.set_cons_succ]
            refine wpAnyH_take (i := 7) (oi := { dst := some 89, op := Op.move (Operand.tmp 9), type := 3, pos := "law.go:143", after := #[{ on := 3, ground := Ground.guard }], guard := some (3, false) }) (v := ?_) rfl (by kernel_rfl) (by kernel_rfl) (by kernel_rfl) (fun _ _ _ h => h) (Or.inl ⟨by rfl, ?_⟩) (by assumption) ?_
            rotate_left
            · (intro w hSw; (try dsimp only at hSw); go_simp); (first | done | with_reducible rfl)
            try simp only [Act.put, List.setIfInBounds_toArray, List.set_cons_zero, List.set_cons_succ]
            refine wpAnyH_take (i := 8) (oi := { dst := some 90, op := Op.indexAddr 22 (Operand.tmp 88) (Operand.tmp 89), type := 0, pos := "law.go:143", after := #[{ on := 6, ground := Ground.data }, { on := 7, ground := Ground.data }, { on := 3, ground := Ground.guard }], guard := some (3, false) }) (v := ?_) rfl (by kernel_rfl) (by kernel_rfl) (by kernel_rfl) (fun _ _ _ h => h) (Or.inl ⟨by rfl, ?_⟩) (by assumption) ?_
            rotate_left
            · (intro w hSw; (try dsimp only at hSw); go_simp); (first | done | with_reducible rfl)
            try simp only [Act.put, List.setIfInBounds_toArray, List.set_cons_zero, List.set_cons_succ]
            refine wpAnyH_take (i := 9) (oi := { dst := some 91, op := Op.fieldAddr 34 (Operand.tmp 90) 5, type := 0, pos := "law.go:143", after := #[{ on := 8, ground := Ground.data }, { on := 3, ground := Ground.guard }], guard := some (3, false) }) (v := ?_) rfl (by kernel_rfl) (by kernel_rfl) (by kernel_rfl) (fun _ _ _ h => h) (Or.inl ⟨by rfl, ?_⟩) (by assumption) ?_
            rotate_left
            · (intro w hSw; (try dsimp only at hSw); go_simp); (first | done | with_reducible rfl)
            try simp only [Act.put, List.setIfInBounds_toArray, List.set_cons_zero, List.set_cons_succ]
            refine wpAnyH_take (i := 10) (oi := { dst := some 92, op := Op.load 32 (Operand.tmp 91), type := 32, pos := "law.go:143", after := #[{ on := 9, ground := Ground.data }, { on := 3, ground := Ground.guard }], guard := some (3, false) }) (v := ?_) rfl (by kernel_rfl) (by kernel_rfl) (by kernel_rfl) (fun _ _ _ h => h) (Or.inl ⟨by rfl, ?_⟩) (by assumption) ?_
            rotate_left
            · (intro w hSw; (try dsimp only at hSw); go_simp); (first | done | with_reducible rfl)
            try simp only [Act.put, List.setIfInBounds_toArray, List.set_cons_zero, List.set_cons_succ]
            refine wpAnyH_ready (rs := [11]) (by kernel_rfl) (by simp) ?_
            refine AllReadyH.cons (o := { dst := some 93, op := Op.call { callee := Callee.value (Operand.func 22), args := #[Operand.tmp 87, Operand.tmp 92], argTypes := #[32, 32] }, type := 4, pos := "law.go:143", after := #[{ on := 5, ground := Ground.data }, { on := 10, ground := Ground.data }, { on := 3, ground := Ground.chain }, { on := 3, ground := Ground.guard }], guard := some (3, false) }) rfl (fun K hK => ?_) AllReadyH.nil
            go_simp
            have HKA := Lib.hid (show NsA5 w9 (some ⟨gk, 0, none⟩) x.keep from fun hn => by
              refine ⟨gk, 0, rfl, fun j hj2 => ?_⟩
              obtain ⟨g8, e8, -, -, hc8⟩ := row_at5 HO5.out (show j < k1 by omega)
              cases e8
              rw [Nat.zero_add, hc8]
              exact ints_pre5 _ _ hj2)
            have CJ := sameInts5_any x.keep x.keep (by have := HK9.out; omega) (by have := HK9.out; omega) (some ⟨gk, 0, none⟩) x.o c15 x.k w9 HKA.out HR5.out.at_.2.2.2.2.2.2
            rw [show decide (x.keep = x.keep) = true from by simp] at CJ
            replace CJ := Lib.hid CJ
            go_simp
            go_at_call 22
            with_reducible refine (CJ.out).mono ?_
            rintro e w10 ⟨rfl, hb⟩
            replace HX5 := Lib.hid (HX5.out.below hb)
            replace HO5 := Lib.hid (row_below5 HO5.out hb)
            replace HR5 := Lib.hid (HR5.out.below (hb.mono HP8.out.two.size))
            replace HP8 := Lib.hid (HP8.out.below hb)
            clear hb CJ HKA
            go_wp2_with fail
            refine hK.out _ _ ?_ (fun hHeld => ?_)
            · exact HS15.out _ HX5.out HR5.out HO5.out
            clear hK K
            try simp only [Act.put, List.setIfInBounds_toArray, List.set_cons_zero, List.set_cons_succ]
            refine wpAnyH_take (i := 12) (oi := { dst := some 94, op := Op.unOp UnOp.not 4 (Operand.tmp 93), type := 4, pos := "law.go:143", after := #[{ on := 11, ground := Ground.data }, { on := 3, ground := Ground.guard }], guard := some (3, false) }) (v := ?_) rfl (by kernel_rfl) (by kernel_rfl) (by kernel_rfl) (fun _ _ _ h => h) (Or.inl ⟨by rfl, ?_⟩) (by assumption) ?_
            rotate_left
            · (intro w hSw; (try dsimp only at hSw); go_simp); (first | done | with_reducible rfl)
            try simp only [Act.put, List.setIfInBounds_toArray, List.set_cons_zero, List.set_cons_succ]
            refine wpAnyH_take (i := 13) (oi := { dst := some 95, op := Op.pick (Operand.tmp 85) (Operand.const (Value.bool true)) (Operand.tmp 94), type := 4, pos := "law.go:143", after := #[{ on := 3, ground := Ground.data }, { on := 12, ground := Ground.data }], guard := none }) (v := ?_) rfl (by kernel_rfl) (by kernel_rfl) (by kernel_rfl) (fun _ _ _ h => h) (Or.inl ⟨by rfl, ?_⟩) (by assumption) ?_
            rotate_left
            · (intro w hSw; (try dsimp only at hSw); go_simp); (first | done | with_reducible rfl)
            try simp only [Act.put, List.setIfInBounds_toArray, List.set_cons_zero, List.set_cons_succ]
            refine wpAnyH_take (i := 14) (oi := { dst := some 96, op := Op.move (Operand.tmp 95), type := 4, pos := "law.go:143", after := #[{ on := 13, ground := Ground.data }, { on := 11, ground := Ground.chain }], guard := none }) (v := ?_) rfl (by kernel_rfl) (by kernel_rfl) (by kernel_rfl) (fun _ _ _ h => h) (Or.inl ⟨by rfl, ?_⟩) (by assumption) ?_
            rotate_left
            · (intro w hSw; (try dsimp only at hSw); go_simp); (first | done | with_reducible rfl)
            try simp only [Act.put, List.setIfInBounds_toArray, List.set_cons_zero, List.set_cons_succ]
            refine wpAnyH_take (i := 15) (oi := { dst := some 97, op := Op.fieldAddr 34 (Operand.tmp 10) 5, type := 0, pos := "law.go:143", after := #[{ on := 14, ground := Ground.guard }], guard := some (14, false) }) (v := ?_) rfl (by kernel_rfl) (by kernel_rfl) (by kernel_rfl) (fun _ _ _ h => h) (Or.inl ⟨by rfl, ?_⟩) (by assumption) ?_
            rotate_left
            · (intro w hSw; (try dsimp only at hSw); go_simp); (first | done | with_reducible rfl)
            try simp only [Act.put, List.setIfInBounds_toArray, List.set_cons_zero, List.set_cons_succ]
            refine wpAnyH_take (i := 16) (oi := { dst := some 98, op := Op.load 32 (Operand.tmp 97), type := 32, pos := "law.go:143", after := #[{ on := 15, ground := Ground.data }, { on := 14, ground := Ground.guard }], guard := some (14, false) }) (v := ?_) rfl (by kernel_rfl) (by kernel_rfl) (by kernel_rfl) (fun _ _ _ h => h) (Or.inl ⟨by rfl, ?_⟩) (by assumption) ?_
            rotate_left
            · (intro w hSw; (try dsimp only at hSw); go_simp); (first | done | with_reducible rfl)
            try simp only [Act.put, List.setIfInBounds_toArray, List.set_cons_zero, List.set_cons_succ]
            refine wpAnyH_take (i := 17) (oi := { dst := some 99, op := Op.fieldAddr 34 (Operand.tmp 10) 5, type := 0, pos := "law.go:143", after := #[{ on := 14, ground := Ground.guard }], guard := some (14, false) }) (v := ?_) rfl (by kernel_rfl) (by kernel_rfl) (by kernel_rfl) (fun _ _ _ h => h) (Or.inl ⟨by rfl, ?_⟩) (by assumption) ?_
            rotate_left
            · (intro w hSw; (try dsimp only at hSw); go_simp); (first | done | with_reducible rfl)
            try simp only [Act.put, List.setIfInBounds_toArray, List.set_cons_zero, List.set_cons_succ]
            refine wpAnyH_take (i := 18) (oi := { dst := some 100, op := Op.load 32 (Operand.tmp 99), type := 32, pos := "law.go:143", after := #[{ on := 17, ground := Ground.data }, { on := 14, ground := Ground.guard }], guard := some (14, false) }) (v := ?_) rfl (by kernel_rfl) (by kernel_rfl) (by kernel_rfl) (fun _ _ _ h => h) (Or.inl ⟨by rfl, ?_⟩) (by assumption) ?_
            rotate_left
            · (intro w hSw; (try dsimp only at hSw); go_simp); (first | done | with_reducible rfl)
            try simp only [Act.put, List.setIfInBounds_toArray, List.set_cons_zero, List.set_cons_succ]
            refine wpAnyH_take (i := 19) (oi := { dst := some 101, op := Op.call { callee := Callee.builtin Builtin.len, args := #[Operand.tmp 100], argTypes := #[32] }, type := 3, pos := "law.go:143", after := #[{ on := 18, ground := Ground.data }, { on := 14, ground := Ground.guard }], guard := some (14, false) }) (v := ?_) rfl (by kernel_rfl) (by kernel_rfl) (by kernel_rfl) (fun _ _ _ h => h) (Or.inl ⟨by rfl, ?_⟩) (by assumption) ?_
            rotate_left
            · (intro w hSw; (try dsimp only at hSw); go_simp); (first | done | with_reducible rfl)
            try simp only [Act.put, List.setIfInBounds_toArray, List.set_cons_zero, List.set_cons_succ]
            refine wpAnyH_take (i := 20) (oi := { dst := some 102, op := Op.binOp BinOp.add 3 (Operand.tmp 101) (Operand.const (Value.int IntKind.i64 1)) 3, type := 3, pos := "law.go:143", after := #[{ on := 19, ground := Ground.data }, { on := 14, ground := Ground.guard }], guard := some (14, false) }) (v := ?_) rfl (by kernel_rfl) (by kernel_rfl) (by kernel_rfl) (fun _ _ _ h => h) (Or.inl ⟨by rfl, ?_⟩) (by assumption) ?_
            rotate_left
            · (intro w hSw; (try dsimp only at hSw); go_simp); (first | done | with_reducible rfl)
            try simp only [Act.put, List.setIfInBounds_toArray, List.set_cons_zero, List.set_cons_succ]
            refine wpAnyH_take (i := 21) (oi := { dst := some 103, op := Op.slice 32 (Operand.tmp 98) none (some (Operand.tmp 102)) none, type := 32, pos := "law.go:143", after := #[{ on := 16, ground := Ground.data }, { on := 20, ground := Ground.data }, { on := 14, ground := Ground.guard }], guard := some (14, false) }) (v := ?_) rfl (by kernel_rfl) (by kernel_rfl) (by kernel_rfl) (fun _ _ _ h => h) (Or.inl ⟨by rfl, ?_⟩) (by assumption) ?_
            rotate_left
            · (intro w hSw; (try dsimp only at hSw); go_simp); (first | done | with_reducible rfl)
            try simp only [Act.put, List.setIfInBounds_toArray, List.set_cons_zero, List.set_cons_succ]
            refine wpAnyH_take (i := 22) (oi := { dst := some 104, op := Op.fieldAddr 34 (Operand.tmp 10) 5, type := 0, pos := "law.go:143", after := #[{ on := 14, ground := Ground.guard }], guard := some (14, false) }) (v := ?_) rfl (by kernel_rfl) (by kernel_rfl) (by kernel_rfl) (fun _ _ _ h => h) (Or.inl ⟨by rfl, ?_⟩) (by assumption) ?_
            rotate_left
            · (intro w hSw; (try dsimp only at hSw); go_simp); (first | done | with_reducible rfl)
            try simp only [Act.put, List.setIfInBounds_toArray, List.set_cons_zero, List.set_cons_succ]
            refine wpAnyH_take (i := 23) (oi := { dst := some 105, op := Op.load 32 (Operand.tmp 104), type := 32, pos := "law.go:143", after := #[{ on := 22, ground := Ground.data }, { on := 14, ground := Ground.guard }], guard := some (14, false) }) (v := ?_) rfl (by kernel_rfl) (by kernel_rfl) (by kernel_rfl) (fun _ _ _ h => h) (Or.inl ⟨by rfl, ?_⟩) (by assumption) ?_
            rotate_left
            · (intro w hSw; (try dsimp only at hSw); go_simp); (first | done | with_reducible rfl)
            try simp only [Act.put, List.setIfInBounds_toArray, List.set_cons_zero, List.set_cons_succ]
            refine wpAnyH_take (i := 24) (oi := { dst := some 106, op := Op.call { callee := Callee.builtin Builtin.len, args := #[Operand.tmp 105], argTypes := #[32] }, type := 3, pos := "law.go:143", after := #[{ on := 23, ground := Ground.data }, { on := 14, ground := Ground.guard }], guard := some (14, false) }) (v := ?_) rfl (by kernel_rfl) (by kernel_rfl) (by kernel_rfl) (fun _ _ _ h => h) (Or.inl ⟨by rfl, ?_⟩) (by assumption) ?_
            rotate_left
            · (intro w hSw; (try dsimp only at hSw); go_simp); (first | done | with_reducible rfl)
            try simp only [Act.put, List.setIfInBounds_toArray, List.set_cons_zero, List.set_cons_succ]
            refine wpAnyH_take (i := 25) (oi := { dst := some 107, op := Op.indexAddr 32 (Operand.tmp 103) (Operand.tmp 106), type := 0, pos := "law.go:143", after := #[{ on := 21, ground := Ground.data }, { on := 24, ground := Ground.data }, { on := 14, ground := Ground.guard }], guard := some (14, false) }) (v := ?_) rfl (by kernel_rfl) (by kernel_rfl) (by kernel_rfl) (fun _ _ _ h => h) (Or.inl ⟨by rfl, ?_⟩) (by assumption) ?_
            rotate_left
            · (intro w hSw; (try dsimp only at hSw); go_simp); (first | done | with_reducible rfl)
            try simp only [Act.put, List.setIfInBounds_toArray, List.set_cons_zero, List.set_cons_succ]
            refine wpAnyH_take (i := 26) (oi := { dst := some 108, op := Op.load 3 (Operand.tmp 107), type := 3, pos := "law.go:143", after := #[{ on := 25, ground := Ground.data }, { on := 14, ground := Ground.guard }], guard := some (14, false) }) (v := ?_) rfl (by kernel_rfl) (by kernel_rfl) (by kernel_rfl) (fun _ _ _ h => h) (Or.inl ⟨by rfl, ?_⟩) (by assumption) ?_
            rotate_left
            · (intro w hSw; (try dsimp only at hSw); go_simp); (first | done | with_reducible rfl)
            try simp only [Act.put, List.setIfInBounds_toArray, List.set_cons_zero, List.set_cons_succ]
            refine wpAnyH_take (i := 27) (oi := { dst := some 109, op := Op.binOp BinOp.neq 3 (Operand.tmp 108) (Operand.const (Value.int IntKind.i64 (-70))) 3, type := 4, pos := "law.go:143", after := #[{ on := 26, ground := Ground.data }, { on := 14, ground := Ground.guard }], guard := some (14, false) }) (v := ?_) rfl (by kernel_rfl) (by kernel_rfl) (by kernel_rfl) (fun _ _ _ h => h) (Or.inl ⟨by rfl, ?_⟩) (by assumption) ?_
            rotate_left
            · (intro w hSw; (try dsimp only at hSw); go_simp); (first | done | with_reducible rfl)
            try simp only [Act.put, List.setIfInBounds_toArray, List.set_cons_zero, List.set_cons_succ]
            refine wpAnyH_take (i := 28) (oi := { dst := some 110, op := Op.pick (Operand.tmp 96) (Operand.const (Value.bool true)) (Operand.tmp 109), type := 4, pos := "law.go:143", after := #[{ on := 14, ground := Ground.data }, { on := 27, ground := Ground.data }], guard := none }) (v := ?_) rfl (by kernel_rfl) (by kernel_rfl) (by kernel_rfl) (fun _ _ _ h => h) (Or.inl ⟨by rfl, ?_⟩) (by assumption) ?_
            rotate_left
            · (intro w hSw; (try dsimp only at hSw); go_simp); (first | done | with_reducible rfl)
            try simp only [Act.put, List.setIfInBounds_toArray, List.set_cons_zero, List.set_cons_succ]
            refine wpAnyH_take (i := 29) (oi := { dst := some 111, op := Op.move (Operand.tmp 110), type := 4, pos := "law.go:143", after := #[{ on := 28, ground := Ground.data }, { on := 14, ground := Ground.chain }], guard := none }) (v := ?_) rfl (by kernel_rfl) (by kernel_rfl) (by kernel_rfl) (fun _ _ _ h => h) (Or.inl ⟨by rfl, ?_⟩) (by assumption) ?_
            rotate_left
            · (intro w hSw; (try dsimp only at hSw); go_simp); (first | done | with_reducible rfl)
            try simp only [Act.put, List.setIfInBounds_toArray, List.set_cons_zero, List.set_cons_succ]
            refine wpAnyH_take (i := 30) (oi := { dst := some 112, op := Op.move (Operand.tmp 5), type := 24, pos := "law.go:143", after := #[{ on := 29, ground := Ground.guard }], guard := some (29, false) }) (v := ?_) rfl (by kernel_rfl) (by kernel_rfl) (by kernel_rfl) (fun _ _ _ h => h) (Or.inl ⟨by rfl, ?_⟩) (by assumption) ?_
            rotate_left
            · (intro w hSw; (try dsimp only at hSw); go_simp); (first | done | with_reducible rfl)
            try simp only [Act.put, List.setIfInBounds_toArray, List.set_cons_zero, List.set_cons_succ]
            refine wpAnyH_take (i := 31) (oi := { dst := some 113, op := Op.fieldAddr 34 (Operand.tmp 10) 1, type := 0, pos := "law.go:143", after := #[{ on := 29, ground := Ground.guard }], guard := some (29, false) }) (v := ?_) rfl (by kernel_rfl) (by kernel_rfl) (by kernel_rfl) (fun _ _ _ h => h) (Or.inl ⟨by rfl, ?_⟩) (by assumption) ?_
            rotate_left
            · (intro w hSw; (try dsimp only at hSw); go_simp); (first | done | with_reducible rfl)
            try simp only [Act.put, List.setIfInBounds_toArray, List.set_cons_zero, List.set_cons_succ]
            refine wpAnyH_take (i := 32) (oi := { dst := some 114, op := Op.load 9 (Operand.tmp 113), type := 9, pos := "law.go:143", after := #[{ on := 31, ground := Ground.data }, { on := 29, ground := Ground.guard }], guard := some (29, false) }) (v := ?_) rfl (by kernel_rfl) (by kernel_rfl) (by kernel_rfl) (fun _ _ _ h => h) (Or.inl ⟨by rfl, ?_⟩) (by assumption) ?_
            rotate_left
            · (intro w hSw; (try dsimp only at hSw); go_simp); (first | done | with_reducible rfl)
            try simp only [Act.put, List.setIfInBounds_toArray, List.set_cons_zero, List.set_cons_succ]
            refine wpAnyH_take (i := 34) (oi := { dst := some 116, op := Op.move (Operand.tmp 7), type := 28, pos := "law.go:143", after := #[{ on := 29, ground := Ground.guard }], guard := some (29, false) }) (v := ?_) rfl (by kernel_rfl) (by kernel_rfl) (by kernel_rfl) (fun _ _ _ h => h) (Or.inl ⟨by rfl, ?_⟩) (by assumption) ?_
            rotate_left
            · (intro w hSw; (try dsimp only at hSw); go_simp); (first | done | with_reducible rfl)
            try simp only [Act.put, List.setIfInBounds_toArray, List.set_cons_zero, List.set_cons_succ]
            refine wpAnyH_take (i := 35) (oi := { dst := some 117, op := Op.fieldAddr 34 (Operand.tmp 10) 1, type := 0, pos := "law.go:143", after := #[{ on := 29, ground := Ground.guard }], guard := some (29, false) }) (v := ?_) rfl (by kernel_rfl) (by kernel_rfl) (by kernel_rfl) (fun _ _ _ h => h) (Or.inl ⟨by rfl, ?_⟩) (by assumption) ?_
            rotate_left
            · (intro w hSw; (try dsimp only at hSw); go_simp); (first | done | with_reducible rfl)
            try simp only [Act.put, List.setIfInBounds_toArray, List.set_cons_zero, List.set_cons_succ]
            refine wpAnyH_take (i := 36) (oi := { dst := some 118, op := Op.load 9 (Operand.tmp 117), type := 9, pos := "law.go:143", after := #[{ on := 35, ground := Ground.data }, { on := 29, ground := Ground.guard }], guard := some (29, false) }) (v := ?_) rfl (by kernel_rfl) (by kernel_rfl) (by kernel_rfl) (fun _ _ _ h => h) (Or.inl ⟨by rfl, ?_⟩) (by assumption) ?_
            rotate_left
            · (intro w hSw; (try dsimp only at hSw); go_simp); (first | done | with_reducible rfl)
            try simp only [Act.put, List.setIfInBounds_toArray, List.set_cons_zero, List.set_cons_succ]
            refine wpAnyH_ready (rs := [33]) (by kernel_rfl) (by simp) ?_
            refine AllReadyH.cons (o := { dst := some 115, op := Op.call { callee := Callee.value (Operand.func 23), args := #[Operand.tmp 112, Operand.tmp 114], argTypes := #[24, 9] }, type := 3, pos := "law.go:143", after := #[{ on := 30, ground := Ground.data }, { on := 32, ground := Ground.data }, { on := 29, ground := Ground.chain }, { on := 29, ground := Ground.guard }], guard := some (29, false) }) rfl (fun K hK => ?_) AllReadyH.nil
            go_simp
            have CJ := Lib.hid (show Calls Try.prog 23 #[.pointer (some ⟨a, 0, none⟩), .string (S x.name)] w10 (fun e w' => e = .returned (.int .i64 (Dk.get x.name D2.L).safe) ∧ w10 = w') from by obtain ⟨X, hX⟩ := HP8.out.two.tell; exact syncedX hX _ HRI.out.name)
            go_simp
            go_at_call 23
            with_reducible refine (CJ.out).mono ?_
            rintro e w11 ⟨rfl, rfl⟩
            clear CJ
            go_wp2_with fail
            refine hK.out _ _ ?_ (fun hHeld => ?_)
            · exact HS15.out _ HX5.out HR5.out HO5.out
            clear hK K
            try simp only [Act.put, List.setIfInBounds_toArray, List.set_cons_zero, List.set_cons_succ]
            refine wpAnyH_ready (rs := [37]) (by kernel_rfl) (by simp) ?_
            refine AllReadyH.cons (o := { dst := some 119, op := Op.call { callee := Callee.value (Operand.func 24), args := #[Operand.tmp 116, Operand.tmp 118], argTypes := #[28, 9] }, type := 3, pos := "law.go:143", after := #[{ on := 34, ground := Ground.data }, { on := 36, ground := Ground.data }, { on := 33, ground := Ground.chain }, { on := 29, ground := Ground.guard }], guard := some (29, false) }) rfl (fun K hK => ?_) AllReadyH.nil
            go_simp
            have CJ := Lib.hid (show Calls Try.prog 24 #[.pointer (some ⟨r, 0, none⟩), .string (S x.name)] w10 (fun e w' => e = .returned (.int .i64 (Dk.get x.name D2.L).safe) ∧ w10 = w') from by obtain ⟨c, hc⟩ := HP8.out.two.ref; exact rSynced5 hc _)
            go_simp
            go_at_call 24
            with_reducible refine (CJ.out).mono ?_
            rintro e w11 ⟨rfl, rfl⟩
            clear CJ
            have q7 : (((Dk.get x.name D2.L).safe : Int) != ((Dk.get x.name D2.L).safe : Int)) = false := by simp
            go_wp2_with fail
            refine hK.out _ _ ?_ (fun hHeld => ?_)
            · exact HS15.out _ HX5.out HR5.out HO5.out
            clear hK K
            try simp only [Act.put, List.setIfInBounds_toArray, List.set_cons_zero, List.set_cons_succ]
            refine wpAnyH_take (i := 38) (oi := { dst := some 120, op := Op.binOp BinOp.neq 3 (Operand.tmp 115) (Operand.tmp 119) 3, type := 4, pos := "law.go:143", after := #[{ on := 33, ground := Ground.data }, { on := 37, ground := Ground.data }, { on := 29, ground := Ground.guard }], guard := some (29, false) }) (v := ?_) rfl (by kernel_rfl) (by kernel_rfl) (by kernel_rfl) (fun _ _ _ h => h) (Or.inl ⟨by rfl, ?_⟩) (by assumption) ?_
            rotate_left
            · (intro w hSw; (try dsimp only at hSw); go_simp); (first | done | with_reducible rfl)
            try simp only [Act.put, List.setIfInBounds_toArray, List.set_cons_zero, List.set_cons_succ]
            refine wpAnyH_take (i := 39) (oi := { dst := some 121, op := Op.pick (Operand.tmp 111) (Operand.const (Value.bool true)) (Operand.tmp 120), type := 4, pos := "law.go:143", after := #[{ on := 29, ground := Ground.data }, { on := 38, ground := Ground.data }], guard := none }) (v := ?_) rfl (by kernel_rfl) (by kernel_rfl) (by kernel_rfl) (fun _ _ _ h => h) (Or.inl ⟨by rfl, ?_⟩) (by assumption) ?_
            rotate_left
            · (intro w hSw; (try dsimp only at hSw); go_simp); (first | done | with_reducible rfl)
            try simp only [Act.put, List.setIfInBounds_toArray, List.set_cons_zero, List.set_cons_succ]
            refine wpAnyH_take (i := 40) (oi := { dst := some 122, op := Op.move (Operand.tmp 121), type := 4, pos := "law.go:143", after := #[{ on := 39, ground := Ground.data }, { on := 37, ground := Ground.chain }], guard := none }) (v := ?_) rfl (by kernel_rfl) (by kernel_rfl) (by kernel_rfl) (fun _ _ _ h => h) (Or.inl ⟨by rfl, ?_⟩) (by assumption) ?_
            rotate_left
            · (intro w hSw; (try dsimp only at hSw); go_simp); (first | done | with_reducible rfl)
            try simp only [Act.put, List.setIfInBounds_toArray, List.set_cons_zero, List.set_cons_succ]
            refine wpAnyH_take (i := 41) (oi := { dst := some 123, op := Op.move (Operand.tmp 5), type := 24, pos := "law.go:143", after := #[{ on := 40, ground := Ground.guard }], guard := some (40, false) }) (v := ?_) rfl (by kernel_rfl) (by kernel_rfl) (by kernel_rfl) (fun _ _ _ h => h) (Or.inl ⟨by rfl, ?_⟩) (by assumption) ?_
            rotate_left
            · (intro w hSw; (try dsimp only at hSw); go_simp); (first | done | with_reducible rfl)
            try simp only [Act.put, List.setIfInBounds_toArray, List.set_cons_zero, List.set_cons_succ]
            refine wpAnyH_take (i := 42) (oi := { dst := some 124, op := Op.move (Operand.tmp 7), type := 28, pos := "law.go:143", after := #[{ on := 40, ground := Ground.guard }], guard := some (40, false) }) (v := ?_) rfl (by kernel_rfl) (by kernel_rfl) (by kernel_rfl) (fun _ _ _ h => h) (Or.inl ⟨by rfl, ?_⟩) (by assumption) ?_
            rotate_left
            · (intro w hSw; (try dsimp only at hSw); go_simp); (first | done | with_reducible rfl)
            try simp only [Act.put, List.setIfInBounds_toArray, List.set_cons_zero, List.set_cons_succ]
            refine wpAnyH_ready (rs := [43]) (by kernel_rfl) (by simp) ?_
            refine AllReadyH.cons (o := { dst := some 125, op := Op.call { callee := Callee.value (Operand.func 25), args := #[Operand.tmp 123, Operand.tmp 124], argTypes := #[24, 28] }, type := 4, pos := "law.go:143", after := #[{ on := 41, ground := Ground.data }, { on := 42, ground := Ground.data }, { on := 40, ground := Ground.chain }, { on := 40, ground := Ground.guard }], guard := some (40, false) }) rfl (fun K hK => ?_) AllReadyH.nil
            go_simp
            have CJ := Lib.hid (same5 HP8.out.two)
            go_simp
            go_at_call 25
            with_reducible refine (CJ.out).mono ?_
            rintro e w12 ⟨rfl, hb⟩
            replace HX5 := Lib.hid (HX5.out.below hb)
            replace HO5 := Lib.hid (row_below5 HO5.out hb)
            replace HR5 := Lib.hid (HR5.out.below (hb.mono HP8.out.two.size))
            replace HP8 := Lib.hid (HP8.out.below hb)
            clear hb CJ
            go_wp2_with fail
            refine hK.out _ _ ?_ (fun hHeld => ?_)
            · exact HS15.out _ HX5.out HR5.out HO5.out
            clear hK K
            try simp only [Act.put, List.setIfInBounds_toArray, List.set_cons_zero, List.set_cons_succ]
            refine wpAnyH_take (i := 44) (oi := { dst := some 126, op := Op.unOp UnOp.not 4 (Operand.tmp 125), type := 4, pos := "law.go:143", after := #[{ on := 43, ground := Ground.data }, { on := 40, ground := Ground.guard }], guard := some (40, false) }) (v := ?_) rfl (by kernel_rfl) (by kernel_rfl) (by kernel_rfl) (fun _ _ _ h => h) (Or.inl ⟨by rfl, ?_⟩) (by assumption) ?_
            rotate_left
            · (intro w hSw; (try dsimp only at hSw); go_simp); (first | done | with_reducible rfl)
            try simp only [Act.put, List.setIfInBounds_toArray, List.set_cons_zero, List.set_cons_succ]
            refine wpAnyH_take (i := 45) (oi := { dst := some 127, op := Op.pick (Operand.tmp 122) (Operand.const (Value.bool true)) (Operand.tmp 126), type := 4, pos := "law.go:143", after := #[{ on := 40, ground := Ground.data }, { on := 44, ground := Ground.data }], guard := none }) (v := ?_) rfl (by kernel_rfl) (by kernel_rfl) (by kernel_rfl) (fun _ _ _ h => h) (Or.inl ⟨by rfl, ?_⟩) (by assumption) ?_
            rotate_left
            · (intro w hSw; (try dsimp only at hSw); go_simp); (first | done | with_reducible rfl)
            refine wpAnyH_done (by kernel_rfl) ?_ _
            clear hHeld q1 e1 q2 q3 HS15
            have HIN := Lib.hid (show Bk #[.int .u8 x.kind, .string (S x.name), .string (S x.other), .string (S x.data), .int .i64 x.n, .slice (some ⟨gk, 0, none⟩) x.keep.length c15] 34 w12 xb ∧ (∃ xs, w12.ownsRow w4.heap.size 3 1 (.slice (some ⟨gk, 0, none⟩) k1 c15) k1 xs) ∧ Py5 W P5 W.heap.size a r (i + 1) D2 w12 from ⟨HX5.out, ⟨_, HO5.out⟩, HP8.out⟩)
            clear HX5 HO5 HP8 HR5
            go_wp2_with fail
            go_loopw [13] (fun v wr => ∃ m : Nat, m ≤ x.keep.length ∧ v = .int .i64 m ∧ Hid (Bk #[.int .u8 x.kind, .string (S x.name), .string (S x.other), .string (S x.data), .int .i64 x.n, .slice (some ⟨gk, 0, none⟩) x.keep.length c15] 34 wr xb ∧ (∃ xs, wr.ownsRow w4.heap.size 3 1 (.slice (some ⟨gk, 0, none⟩) k1 c15) k1 xs) ∧ Py5 W P5 W.heap.size a r (i + 1) D2 wr)) (fun v _ => x.keep.length - (intOf v).toNat)
            case atStart => exact ⟨0, Nat.zero_le _, rfl, HIN⟩
            case round =>
              clear HIN
              obtain ⟨wq, rfl⟩ : ∃ q, q = wr := ⟨_, rfl⟩
              obtain ⟨m, hm, rfl, HM⟩ := hrel
              have z5 : wq.cell? ⟨xb, 5, none⟩ = some (.slice (some ⟨gk, 0, none⟩) x.keep.length c15) := HM.out.1.cell 5
              by_cases hmt : m < x.keep.length
              · have t1 : decide ((m : Int) < (x.keep.length : Int)) = true := decide_eq_true (by omega)
                have t1' : decide (m < x.keep.length) = true := decide_eq_true hmt
                have hk9 := HK9.out
                have t2 : (0 : Int) ≤ (m : Int) := by omega
                have t3 : (m : Int) < (x.keep.length : Int) := by omega
                obtain ⟨-, ⟨xs, hxs⟩, -⟩ := HM.out
                have f9 := row_free5 hxs m
                have hlen : m < xs.length := by have := hxs.1; omega
                obtain ⟨g8, e8, -, -, hc8⟩ := row_at5 hxs (show m < k1 by omega)
                cases e8
                rw [List.getElem?_eq_getElem hlen] at hc8
                generalize xs[m] = u9 at hc8
                have HN := Lib.hid (show Bk #[.int .u8 x.kind, .string (S x.name), .string (S x.other), .string (S x.data), .int .i64 x.n, .slice (some ⟨gk, 0, none⟩) x.keep.length c15] 34 (wq.setCell ⟨gk, m, none⟩ (.int .i64 5)) xb ∧ (∃ xs, (wq.setCell ⟨gk, m, none⟩ (.int .i64 5)).ownsRow w4.heap.size 3 1 (.slice (some ⟨gk, 0, none⟩) k1 c15) k1 xs) ∧ Py5 W P5 W.heap.size a r (i + 1) D2 (wq.setCell ⟨gk, m, none⟩ (.int .i64 5)) from
                  ⟨HM.out.1.other (Ne.symm HPG.out.2.2.1) _ _, ⟨_, row_store5 hxs m (.int .i64 5)⟩, ⟨HM.out.2.2.two.wr (wr_set (A := fun q => q = gk) wq ⟨gk, m, none⟩ _ rfl) (fun q e => by subst e; exact HPG.out.1), HM.out.2.2.starts, HM.out.2.2.bel.setCell (p := ⟨gk, m, none⟩) HPG.out.2.2.2 _⟩⟩)
                clear hxs hlen
                go_wp2_with fail
                go_roundw
                case rel => exact ⟨m + 1, by omega, by go_num, HN⟩
                case measure => simp [intOf]; omega
              · have t1 : decide ((m : Int) < (x.keep.length : Int)) = false := decide_eq_false (by omega)
                have t1' : decide (m < x.keep.length) = false := decide_eq_false hmt
                have HO := Lib.hid (HM.out.2.2.less (P' := fun _ => False) (fun _ q => q.elim))
                go_wp2_with fail
                go_roundw
                case rel => exact ⟨i + 1, by omega, by go_num, Lib.hid ⟨D2, HO.out⟩⟩
                case measure => simp [intOf]; omega
        · go_simp
          have HY := Lib.hid (show Bk #[.int .i64 (-70)] 3 (wd.alloc (.cells #[.int .i64 (-70)] 3)) wd.heap.size from bk_new _ _ _)
          replace HB := Lib.hid (HB.out.alloc HB.out.size (.cells #[.int .i64 (-70)] 3))
          generalize hq14 : wd.heap.size = q14 at *
          generalize hw14 : wd.alloc (.cells #[.int .i64 (-70)] 3) = v14 at *
          clear hq14 hw14
          refine hK.out _ _ ?_ (fun hHeld => ?_)
          · exact HCE.out _ HB.out
          clear hK K
          try simp only [Act.put, List.setIfInBounds_toArray, List.set_cons_zero, List.set_cons_succ]
          refine wpAnyZ_ready (rs := [7]) (by kernel_rfl) (by simp) ?_
          refine AllReadyZ.cons (o := { dst := some 56, op := Op.makeSlice 32 (Operand.const (Value.int IntKind.i64 0)) (Operand.tmp 55), type := 32, pos := "law.go:141", after := #[{ on := 6, ground := Ground.data }], guard := none }) rfl (by rfl) (fun K hK => ?_) (AllReadyZ.nil)
          go_simp
          have HO7 := Lib.hid (World.ownsRow_made (base := w4.heap.size) (e := 3) (size := 1) v14 C k1 HB.out.size (by have := HK1.out; have := HKN.out; have := HK9.out; unfold maxLen; omega) hC)
          replace HB := Lib.hid (HB.out.alloc HB.out.size (.cells C 3))
          have HNE := Lib.hid (show v14.heap.size ≠ q14 from fun e => by have := HY.out.lt; omega)
          replace HY := Lib.hid (HY.out.more (.cells C 3))
          generalize hq7 : v14.heap.size = q7 at *
          generalize hw7 : v14.alloc (.cells C 3) = v7 at *
          clear hq7 hw7
          refine hK.out _ _ ?_ (fun hHeld => ?_)
          · exact HCE.out _ HB.out
          clear hK K
          try simp only [Act.put, List.setIfInBounds_toArray, List.set_cons_zero, List.set_cons_succ]
          refine wpAnyZ_ready (rs := [13]) (by kernel_rfl) (by simp) ?_
          refine AllReadyZ.cons (o := { dst := some 62, op := Op.call { callee := Callee.builtin Builtin.append, args := #[Operand.tmp 56, Operand.tmp 61], argTypes := #[32, 32] }, type := 32, pos := "law.go:141", after := #[{ on := 7, ground := Ground.data }, { on := 12, ground := Ground.data }], guard := none }) rfl (by rfl) (fun K hK => ?_) (AllReadyZ.nil)
          refine step_append_ns5 (by rfl) _ _ 32 (by rfl) w4.heap.size j0 Try.underlying32 hj hy0 hy1 hy2 (.slice (some ⟨q7, 0, none⟩) 0 k1) 0 [] (by rfl) HO7.out x.o x.k x.keep (by rfl) ((HR4.out.below (HB.out.mono (Nat.le_trans HP.out.two.size HB34.out.size))).at_.2.2.2.2.2.2) (by have := HK9.out; omega) HB.out.size ?_
          intro u13 v13 ho13 hg13 hat13
          rw [Nat.zero_add, List.nil_append] at ho13
          obtain ⟨a13, c13, rfl⟩ := row_shape5 ho13
          have HO13 := Lib.hid ho13
          replace HB := Lib.hid (HB.out.grown hg13 HB.out.size (fun q hq => (HO7.out.lt q hq).1))
          replace HY := Lib.hid (HY.out.grown hg13 (fun e => HNE.out (by cases e; rfl)))
          clear ho13 hg13 hat13 HO7
          refine hK.out _ _ ?_ (fun hHeld => ?_)
          · exact HCE.out _ HB.out
          clear hK K
          try simp only [Act.put, List.setIfInBounds_toArray, List.set_cons_zero, List.set_cons_succ]
          refine wpAnyZ_ready (rs := [15]) (by kernel_rfl) (by simp) ?_
          refine AllReadyZ.cons (o := { dst := some 64, op := Op.call { callee := Callee.builtin Builtin.append, args := #[Operand.tmp 62, Operand.tmp 63], argTypes := #[32, 32] }, type := 32, pos := "law.go:141", after := #[{ on := 13, ground := Ground.data }, { on := 14, ground := Ground.data }, { on := 13, ground := Ground.chain }], guard := none }) rfl (by rfl) (fun K hK => ?_) (AllReadyZ.nil)
          refine step_append_ns5 (by rfl) _ _ 32 (by rfl) w4.heap.size j0 Try.underlying32 hj hy0 hy1 hy2 (.slice a13 x.keep.length c13) x.keep.length (ints5 x.keep) (by rfl) HO13.out (some ⟨q14, 0, none⟩) 1 [-70] (by rfl) (bk_one5 HY.out) (by have := HK9.out; simp; omega) HB.out.size ?_
          intro u15 v15 ho15 hg15 _
          replace ho15 : v15.ownsRow w4.heap.size 3 1 u15 k1 (ints5 (x.keep ++ [-70])) := by rw [ints5_app, HK1.out, HKN.out]; exact ho15
          obtain ⟨a15, c15, rfl⟩ := row_shape5 ho15
          obtain ⟨gk, rfl, -, -, -⟩ := row_at5 ho15 (k := 0) (by have := HK1.out; omega)
          have hc15 : x.keep.length ≤ c15 ∧ k1 ≤ c15 := (by rcases ho15.2 with ⟨e9, _⟩ | ⟨g9, cap9, cur9, e9, _, _, hc9, _⟩; (cases e9); (injection e9 with _ _ e9; have := HK1.out; have := HKN.out; omega))
          have hc16 : (x.keep.length : Int) ≤ (c15 : Int) := by omega
          have HO15 := Lib.hid ho15
          replace HB := Lib.hid (HB.out.grown hg15 HB.out.size (fun q hq => (HO13.out.lt q hq).1))
          clear ho15 hg15 HO13 HY
          refine hK.out _ _ ?_ (fun hHeld => ?_)
          · exact HCE.out _ HB.out
          clear hK K
          try simp only [Act.put, List.setIfInBounds_toArray, List.set_cons_zero, List.set_cons_succ]
          refine wpAnyZ_takeY (i := 22) (oi := { dst := some 71, op := Op.slice 32 (Operand.tmp 64) none (some (Operand.tmp 70)) none, type := 32, pos := "law.go:141", after := #[{ on := 15, ground := Ground.data }, { on := 21, ground := Ground.data }], guard := none }) (v := ?_) rfl (by kernel_rfl) (by kernel_rfl) (by kernel_rfl) (by rfl) (fun _ _ _ h => h) (Or.inl ⟨by rfl, ?_⟩) (by assumption) ?_
          rotate_left
          · (intro w; go_simp); (first | done | with_reducible rfl)
          try simp only [Act.put, List.setIfInBounds_toArray, List.set_cons_zero, List.set_cons_succ]
          refine wpAnyZ_takeY (i := 23) (oi := { dst := some 72, op := Op.fieldAddr 34 (Operand.tmp 10) 5, type := 0, pos := "law.go:141", after := #[{ on := 0, ground := Ground.phase }, { on := 1, ground := Ground.phase }, { on := 2, ground := Ground.phase }, { on := 3, ground := Ground.phase }, { on := 4, ground := Ground.phase }, { on := 5, ground := Ground.phase }, { on := 6, ground := Ground.phase }, { on := 7, ground := Ground.phase }, { on := 8, ground := Ground.phase }, { on := 9, ground := Ground.phase }, { on := 10, ground := Ground.phase }, { on := 11, ground := Ground.phase }, { on := 12, ground := Ground.phase }, { on := 13, ground := Ground.phase }, { on := 14, ground := Ground.phase }, { on := 15, ground := Ground.phase }, { on := 16, ground := Ground.phase }, { on := 17, ground := Ground.phase }, { on := 18, ground := Ground.phase }, { on := 19, ground := Ground.phase }, { on := 20, ground := Ground.phase }, { on := 21, ground := Ground.phase }, { on := 22, ground := Ground.phase }], guard := none }) (v := ?_) rfl (by kernel_rfl) (by kernel_rfl) (by kernel_rfl) (by rfl) (fun _ _ _ h => h) (Or.inl ⟨by rfl, ?_⟩) (by assumption) ?_
          rotate_left
          · (intro w; go_simp); (first | done | with_reducible rfl)
          try simp only [Act.put, List.setIfInBounds_toArray, List.set_cons_zero, List.set_cons_succ]
          refine wpAnyZ_ready (rs := [24]) (by kernel_rfl) (by simp) ?_
          refine AllReadyZ.last (o := { dst := none, op := Op.store 32 (Operand.tmp 72) (Operand.tmp 71), type := 0, pos := "law.go:141", after := #[{ on := 23, ground := Ground.data }, { on := 22, ground := Ground.data }, { on := 15, ground := Ground.chain }, { on := 0, ground := Ground.phase }, { on := 1, ground := Ground.phase }, { on := 2, ground := Ground.phase }, { on := 3, ground := Ground.phase }, { on := 4, ground := Ground.phase }, { on := 5, ground := Ground.phase }, { on := 6, ground := Ground.phase }, { on := 7, ground := Ground.phase }, { on := 8, ground := Ground.phase }, { on := 9, ground := Ground.phase }, { on := 10, ground := Ground.phase }, { on := 11, ground := Ground.phase }, { on := 12, ground := Ground.phase }, { on := 13, ground := Ground.phase }, { on := 14, ground := Ground.phase }, { on := 15, ground := Ground.phase }, { on := 16, ground := Ground.phase }, { on := 17, ground := Ground.phase }, { on := 18, ground := Ground.phase }, { on := 19, ground := Ground.phase }, { on := 20, ground := Ground.phase }, { on := 21, ground := Ground.phase }, { on := 22, ground := Ground.phase }], guard := none }) rfl (fun K hK => ?_) AllReadyZ.nil
          have f0 := (HXB.out.below HB.out).free 5
          have m0 := (HXB.out.below HB.out).cell 5
          go_simp
          refine hK.out _ _ ?_
          clear hK K
          refine wpAny_done (by kernel_rfl) ?_ _
          have HCK := Lib.hid hc15
          have HX5 := Lib.hid (show Bk #[.int .u8 x.kind, .string (S x.name), .string (S x.other), .string (S x.data), .int .i64 x.n, .slice (some ⟨gk, 0, none⟩) x.keep.length c15] 34 (v15.setCell ⟨xb, 5, none⟩ (.slice (some ⟨gk, 0, none⟩) x.keep.length c15)) xb from (HXB.out.below HB.out).set 5 _)
          have hgk := HO15.out.lt gk rfl
          have HO5 := Lib.hid (show (v15.setCell ⟨xb, 5, none⟩ (.slice (some ⟨gk, 0, none⟩) x.keep.length c15)).ownsRow w4.heap.size 3 1 (.slice (some ⟨gk, 0, none⟩) k1 c15) k1 (ints5 (x.keep ++ [-70])) from row_set5 HO15.out (fun q hq => by have h9 : some gk = some q := hq; injection h9 with h9; have := HXB.out.lt; omega))
          have hb35 : Below w3.heap.size w3 v15 := below_step HB34.out HB.out
          have HP5 := Lib.hid (show Py5 W (fun q => False ∨ (w3.heap.size ≤ q ∧ q < v15.heap.size)) W.heap.size a r i D (v15.setCell ⟨xb, 5, none⟩ (.slice (some ⟨gk, 0, none⟩) x.keep.length c15)) from
            ⟨(HP.out.newrow hb35).two.wr (wr_set (A := fun q => q = xb) v15 ⟨xb, 5, none⟩ _ rfl) (fun q e => by subst e; have h1 := HXW.out; have h2 := HXB.out.lt; have h3 := HB.out.size; exact .inr ⟨by omega, by omega⟩), HP.out.starts, (HP.out.newrow hb35).bel.setCell (p := ⟨xb, 5, none⟩) (by have h1 := HXW.out; have h2 := HP.out.two.size; show _ ≤ xb; omega) _⟩)
          have HPG := Lib.hid (show (False ∨ (w3.heap.size ≤ gk ∧ gk < v15.heap.size)) ∧ (False ∨ (w3.heap.size ≤ xb ∧ xb < v15.heap.size)) ∧ gk ≠ xb ∧ W.heap.size ≤ gk from by have h1 := HXW.out; have h2 := HXB.out.lt; have h3 := HB.out.size; have h4 := HB34.out.size; have h5 := HP.out.two.size; exact ⟨.inr ⟨by omega, by omega⟩, .inr ⟨by omega, by omega⟩, by omega, by omega⟩)
          obtain ⟨P5, hP5⟩ : ∃ P : Nat → Prop, P = fun q => False ∨ (w3.heap.size ≤ q ∧ q < v15.heap.size) := ⟨_, rfl⟩
          rw [← hP5] at HP5
          replace HPG := Lib.hid (show P5 gk ∧ P5 xb ∧ gk ≠ xb ∧ W.heap.size ≤ gk from by rw [hP5]; exact HPG.out)
          have HR5 := Lib.hid (show ActAt W.heap.size (v15.setCell ⟨xb, 5, none⟩ (.slice (some ⟨gk, 0, none⟩) x.keep.length c15)) g (off + i * 6) x from (HR4.out.below (HB.out.mono (Nat.le_trans HP.out.two.size HB34.out.size))).below ((Below.refl W.heap.size v15).setCell (p := ⟨xb, 5, none⟩) (by have h1 := HXW.out; have h2 := HP.out.two.size; show _ ≤ xb; omega) _))
          clear hc15 hc16 hHeld f0 m0 hgk hb35 hP5 HO15 HB HXB HXW HP HR4 HCE HRA hmk hC e1
          generalize v15.setCell ⟨xb, 5, none⟩ (.slice (some ⟨gk, 0, none⟩) x.keep.length c15) = w5 at *
          go_wp2_with fail
          go_upto_region 14 with fail
          replace HX5 := Lib.hid HX5.out.drew
          replace HO5 := Lib.hid (row_below5 HO5.out (Below.refl _ _).drew)
          replace HP5 := Lib.hid (HP5.out.below (Below.refl _ _).drew)
          replace HR5 := Lib.hid (HR5.out.below (Below.refl _ _).drew)
          refine wp_region_held_drew (S := fun V => V.cell? ⟨xb, 0, none⟩ = some (.int .u8 x.kind) ∧ V.cell? ⟨xb, 1, none⟩ = some (.string (S x.name)) ∧ V.cell? ⟨xb, 2, none⟩ = some (.string (S x.other)) ∧ V.cell? ⟨xb, 3, none⟩ = some (.string (S x.data)) ∧ V.cell? ⟨xb, 4, none⟩ = some (.int .i64 x.n) ∧ V.cell? ⟨xb, 5, none⟩ = some (.slice (some ⟨gk, 0, none⟩) x.keep.length c15) ∧ V.cell? ⟨g, off + i * 6, none⟩ = some (.int .u8 x.kind) ∧ V.cell? ⟨g, off + i * 6 + 1, none⟩ = some (.string (S x.name)) ∧ V.cell? ⟨g, off + i * 6 + 2, none⟩ = some (.string (S x.other)) ∧ V.cell? ⟨g, off + i * 6 + 3, none⟩ = some (.string (S x.data)) ∧ V.cell? ⟨g, off + i * 6 + 4, none⟩ = some (.int .i64 x.n) ∧ V.cell? ⟨g, off + i * 6 + 5, none⟩ = some (.slice x.o x.keep.length x.k)) (by kernel_rfl) ?_ (fun hHeld => ?_)
          · (obtain ⟨z0, z1, z2, z3, z4, z5, -⟩ := HR5.out.at_; exact ⟨HX5.out.cell 0, HX5.out.cell 1, HX5.out.cell 2, HX5.out.cell 3, HX5.out.cell 4, HX5.out.cell 5, z0, z1, z2, z3, z4, z5⟩)
          obtain ⟨w6, hw6⟩ : ∃ q, q = World.drew w5 := ⟨_, rfl⟩
          rw [← hw6] at HX5 HO5 HP5 HR5 hHeld ⊢
          clear hw6
          have HKA := Lib.hid (show NsA5 w6 (some ⟨gk, 0, none⟩) x.keep from fun hn => by
              obtain ⟨g9, e9, h9⟩ : ∃ g9, (some ⟨gk, 0, none⟩ : Option Addr) = some ⟨g9, 0, none⟩ ∧ True := ⟨gk, rfl, trivial⟩
              refine ⟨gk, 0, rfl, fun j hj2 => ?_⟩
              have hlt9 : j < k1 := by have := HK1.out; have := HKN.out; omega
              obtain ⟨g8, e8, -, -, hc8⟩ := row_at5 HO5.out hlt9
              cases e8
              rw [Nat.zero_add, hc8]
              exact ints_pre5 _ _ hj2)
          have CJ := Lib.hid (show Calls Try.prog 20 #[.pointer (some ⟨a, 0, none⟩), .agg #[.int .u8 x.kind, .string (S x.name), .string (S x.other), .string (S x.data), .int .i64 x.n, .slice (some ⟨gk, 0, none⟩) x.keep.length c15]] w6 (fun e w' => e = .returned (.int .i64 (Dk.act x D).1) ∧ Pl5 P5 W.heap.size a r (Dk.act x D).2 D w' ∧ Wr (fun k => W.heap.size ≤ k ∧ ¬ P5 k) w6 w') from HP5.out.two.done ⟨x.kind, x.name, x.other, x.data, x.n, x.keep, some ⟨gk, 0, none⟩, c15⟩ ⟨HRI.out.kind, HRI.out.name, HRI.out.other, HRI.out.data, HRI.out.n, HRI.out.keep⟩ HKA.out (fun y _ hy => by cases hy; exact .inl HPG.out.1) (by have := HP5.out.starts; omega))
          have HOKD := Lib.hid HP5.out.two.ok
          refine wpAnyH_take (i := 0) (oi := { dst := some 73, op := Op.move (Operand.tmp 5), type := 24, pos := "law.go:142", after := #[], guard := none }) (v := ?_) rfl (by kernel_rfl) (by kernel_rfl) (by kernel_rfl) (fun _ _ _ h => h) (Or.inl ⟨by rfl, ?_⟩) (by assumption) ?_
          rotate_left
          · (intro w hSw; (try dsimp only at hSw); go_simp); (first | done | with_reducible rfl)
          try simp only [Act.put, List.setIfInBounds_toArray, List.set_cons_zero, List.set_cons_succ]
          refine wpAnyH_take (i := 1) (oi := { dst := some 74, op := Op.load 34 (Operand.tmp 10), type := 34, pos := "law.go:142", after := #[], guard := none }) (v := ?_) rfl (by kernel_rfl) (by kernel_rfl) (by kernel_rfl) (fun _ _ _ h => h) (Or.inl ⟨by rfl, ?_⟩) (by assumption) ?_
          rotate_left
          · (intro w hSw; (try dsimp only at hSw); go_simp); (first | done | with_reducible rfl)
          try simp only [Act.put, List.setIfInBounds_toArray, List.set_cons_zero, List.set_cons_succ]
          refine wpAnyH_take (i := 3) (oi := { dst := some 76, op := Op.move (Operand.tmp 7), type := 28, pos := "law.go:142", after := #[], guard := none }) (v := ?_) rfl (by kernel_rfl) (by kernel_rfl) (by kernel_rfl) (fun _ _ _ h => h) (Or.inl ⟨by rfl, ?_⟩) (by assumption) ?_
          rotate_left
          · (intro w hSw; (try dsimp only at hSw); go_simp); (first | done | with_reducible rfl)
          try simp only [Act.put, List.setIfInBounds_toArray, List.set_cons_zero, List.set_cons_succ]
          refine wpAnyH_take (i := 4) (oi := { dst := some 77, op := Op.move (Operand.tmp 1), type := 22, pos := "law.go:142", after := #[], guard := none }) (v := ?_) rfl (by kernel_rfl) (by kernel_rfl) (by kernel_rfl) (fun _ _ _ h => h) (Or.inl ⟨by rfl, ?_⟩) (by assumption) ?_
          rotate_left
          · (intro w hSw; (try dsimp only at hSw); go_simp); (first | done | with_reducible rfl)
          try simp only [Act.put, List.setIfInBounds_toArray, List.set_cons_zero, List.set_cons_succ]
          refine wpAnyH_take (i := 5) (oi := { dst := some 78, op := Op.move (Operand.tmp 9), type := 3, pos := "law.go:142", after := #[], guard := none }) (v := ?_) rfl (by kernel_rfl) (by kernel_rfl) (by kernel_rfl) (fun _ _ _ h => h) (Or.inl ⟨by rfl, ?_⟩) (by assumption) ?_
          rotate_left
          · (intro w hSw; (try dsimp only at hSw); go_simp); (first | done | with_reducible rfl)
          try simp only [Act.put, List.setIfInBounds_toArray, List.set_cons_zero, List.set_cons_succ]
          refine wpAnyH_take (i := 6) (oi := { dst := some 79, op := Op.indexAddr 22 (Operand.tmp 77) (Operand.tmp 78), type := 0, pos := "law.go:142", after := #[{ on := 4, ground := Ground.data }, { on := 5, ground := Ground.data }], guard := none }) (v := ?_) rfl (by kernel_rfl) (by kernel_rfl) (by kernel_rfl) (fun _ _ _ h => h) (Or.inl ⟨by rfl, ?_⟩) (by assumption) ?_
          rotate_left
          · (intro w hSw; (try dsimp only at hSw); go_simp); (first | done | with_reducible rfl)
          try simp only [Act.put, List.setIfInBounds_toArray, List.set_cons_zero, List.set_cons_succ]
          refine wpAnyH_take (i := 7) (oi := { dst := some 80, op := Op.load 34 (Operand.tmp 79), type := 34, pos := "law.go:142", after := #[{ on := 6, ground := Ground.data }], guard := none }) (v := ?_) rfl (by kernel_rfl) (by kernel_rfl) (by kernel_rfl) (fun _ _ _ h => h) (Or.inl ⟨by rfl, ?_⟩) (by assumption) ?_
          rotate_left
          · (intro w hSw; (try dsimp only at hSw); go_simp); (first | done | with_reducible rfl)
          try simp only [Act.put, List.setIfInBounds_toArray, List.set_cons_zero, List.set_cons_succ]
          refine wpAnyH_ready (rs := [2]) (by kernel_rfl) (by simp) ?_
          refine AllReadyH.cons (o := { dst := some 75, op := Op.call { callee := Callee.value (Operand.func 20), args := #[Operand.tmp 73, Operand.tmp 74], argTypes := #[24, 34] }, type := 25, pos := "law.go:142", after := #[{ on := 0, ground := Ground.data }, { on := 1, ground := Ground.data }], guard := none }) rfl (fun K hK => ?_) AllReadyH.nil
          go_simp
          go_simp
          go_at_call 20
          with_reducible refine (CJ.out).mono ?_
          rintro e w7 ⟨rfl, ht, hw⟩
          have HB7 := Lib.hid (hw.below (fun q hq => hq.1) HP5.out.two.size)
          replace HX5 := Lib.hid (HX5.out.wr hw (fun q => q.2 HPG.out.2.1))
          replace HO5 := Lib.hid (row_wr HO5.out hw (fun q hq ha => by have h9 : some gk = some q := hq; injection h9 with h9; subst h9; exact ha.2 HPG.out.1))
          replace HR5 := Lib.hid (HR5.out.below HB7.out)
          have CJ2 := Lib.hid (ht.said HOKD.out x HRI.out HR5.out.at_.2.2.2.2.2.2 (fun y hn hy => HR5.out.keep y hn hy) (by have := HP5.out.starts; omega))
          have HSZ7 := Lib.hid ht.size
          clear ht hw CJ
          go_wp2_with fail
          refine hK.out _ _ ?_ (fun hHeld => ?_)
          · (obtain ⟨z0, z1, z2, z3, z4, z5, -⟩ := HR5.out.at_; exact ⟨HX5.out.cell 0, HX5.out.cell 1, HX5.out.cell 2, HX5.out.cell 3, HX5.out.cell 4, HX5.out.cell 5, z0, z1, z2, z3, z4, z5⟩)
          clear hK K
          try simp only [Act.put, List.setIfInBounds_toArray, List.set_cons_zero, List.set_cons_succ]
          refine wpAnyH_ready (rs := [8]) (by kernel_rfl) (by simp) ?_
          refine AllReadyH.cons (o := { dst := some 81, op := Op.call { callee := Callee.value (Operand.func 21), args := #[Operand.tmp 76, Operand.tmp 80], argTypes := #[28, 34] }, type := 25, pos := "law.go:142", after := #[{ on := 3, ground := Ground.data }, { on := 7, ground := Ground.data }, { on := 2, ground := Ground.chain }], guard := none }) rfl (fun K hK => ?_) AllReadyH.nil
          go_simp
          go_simp
          go_at_call 21
          with_reducible refine (CJ2.out).mono ?_
          rintro e w8 ⟨rfl, ht, hw⟩
          have HB8 := Lib.hid (HB7.out.trans (hw.below (fun q hq => hq.1) HSZ7.out))
          replace HX5 := Lib.hid (HX5.out.wr hw (fun q => q.2 HPG.out.2.1))
          replace HO5 := Lib.hid (row_wr HO5.out hw (fun q hq ha => by have h9 : some gk = some q := hq; injection h9 with h9; subst h9; exact ha.2 HPG.out.1))
          replace HR5 := Lib.hid (HR5.out.below (hw.below (fun q hq => hq.1) HSZ7.out))
          have HP8 := Lib.hid (show Py5 W P5 W.heap.size a r (i + 1) (Dk.act x D).2 w8 from ⟨ht, by have h1 := (Dk.kin_act x D).1.starts; have h2 := HP5.out.starts; omega, HP5.out.bel.trans HB8.out⟩)
          clear ht hw CJ2 HB7 HSZ7
          go_wp2_with fail
          refine hK.out _ _ ?_ (fun hHeld => ?_)
          · (obtain ⟨z0, z1, z2, z3, z4, z5, -⟩ := HR5.out.at_; exact ⟨HX5.out.cell 0, HX5.out.cell 1, HX5.out.cell 2, HX5.out.cell 3, HX5.out.cell 4, HX5.out.cell 5, z0, z1, z2, z3, z4, z5⟩)
          clear hK K
          try simp only [Act.put, List.setIfInBounds_toArray, List.set_cons_zero, List.set_cons_succ]
          refine wpAnyH_take (i := 9) (oi := { dst := some 11, op := Op.assign (Operand.tmp 75), type := 25, pos := "law.go:142", after := #[{ on := 2, ground := Ground.data }, { on := 8, ground := Ground.chain }, { on := 0, ground := Ground.phase }, { on := 1, ground := Ground.phase }, { on := 2, ground := Ground.phase }, { on := 3, ground := Ground.textOnly Departure.lateStores }, { on := 4, ground := Ground.textOnly Departure.lateStores }, { on := 5, ground := Ground.textOnly Departure.lateStores }, { on := 6, ground := Ground.textOnly Departure.lateStores }, { on := 7, ground := Ground.textOnly Departure.lateStores }, { on := 8, ground := Ground.textOnly Departure.lateStoresUnsure }], guard := none }) (v := ?_) rfl (by kernel_rfl) (by kernel_rfl) (by kernel_rfl) (fun _ _ _ h => h) (Or.inl ⟨by rfl, ?_⟩) (by assumption) ?_
          rotate_left
          · (intro w hSw; (try dsimp only at hSw); go_simp); (first | done | with_reducible rfl)
          try simp only [Act.put, List.setIfInBounds_toArray, List.set_cons_zero, List.set_cons_succ]
          refine wpAnyH_take (i := 10) (oi := { dst := some 12, op := Op.assign (Operand.tmp 81), type := 25, pos := "law.go:142", after := #[{ on := 8, ground := Ground.data }, { on := 9, ground := Ground.chain }, { on := 0, ground := Ground.phase }, { on := 1, ground := Ground.phase }, { on := 2, ground := Ground.phase }, { on := 3, ground := Ground.phase }, { on := 4, ground := Ground.phase }, { on := 5, ground := Ground.phase }, { on := 6, ground := Ground.phase }, { on := 7, ground := Ground.phase }, { on := 8, ground := Ground.phase }, { on := 9, ground := Ground.phase }], guard := none }) (v := ?_) rfl (by kernel_rfl) (by kernel_rfl) (by kernel_rfl) (fun _ _ _ h => h) (Or.inl ⟨by rfl, ?_⟩) (by assumption) ?_
          rotate_left
          · (intro w hSw; (try dsimp only at hSw); go_simp); (first | done | with_reducible rfl)
          refine wpAnyH_done (by kernel_rfl) ?_ _
          go_wp2_with fail
          clear HP5 hHeld HOKD HKA
          generalize (Dk.act x D).1 = er at *
          generalize (Dk.act x D).2 = D2 at *
          have HS15 := Lib.hid (fun wy (h1 : Bk #[.int .u8 x.kind, .string (S x.name), .string (S x.other), .string (S x.data), .int .i64 x.n, .slice (some ⟨gk, 0, none⟩) x.keep.length c15] 34 wy xb) (h2 : ActAt W.heap.size wy g (off + i * 6) x) (h3 : wy.ownsRow w4.heap.size 3 1 (.slice (some ⟨gk, 0, none⟩) k1 c15) k1 (ints5 (x.keep ++ [-70]))) => (show wy.cell? ⟨xb, 1, none⟩ = some (.string (S x.name)) ∧ wy.cell? ⟨xb, 5, none⟩ = some (.slice (some ⟨gk, 0, none⟩) x.keep.length c15) ∧ wy.cell? ⟨g, off + i * 6 + 5, none⟩ = some (.slice x.o x.keep.length x.k) ∧ wy.cell? ⟨gk, x.keep.length, none⟩ = some (.int .i64 (-70)) from by
            obtain ⟨g8, e8, -, -, hc8⟩ := row_at5 h3 (k := x.keep.length) (by have := HK1.out; have := HKN.out; omega)
            cases e8
            rw [ints_last5] at hc8
            exact ⟨h1.cell 1, h1.cell 5, h2.at_.2.2.2.2.2.1, hc8⟩))
          have q1 : (er != er) = false := by simp
          have e1 : IntKind.i64.wrap ((x.keep.length : Int) + 1) = (k1 : Int) := by rw [IntWalk.i64_in _ (by have := HK9.out; omega)]; have := HK1.out; have := HKN.out; omega
          have q2 : (k1 : Int) ≤ (c15 : Int) := by have := HCK.out.2; omega
          have q3 : (x.keep.length : Int) < (k1 : Int) := by have := HK1.out; have := HKN.out; omega
          have q4 : (0 : Int) ≤ (x.keep.length : Int) := by omega
          have q5 : x.keep.length < k1 := by omega
          go_upto_region 15 with fail
          replace HX5 := Lib.hid HX5.out.drew
          replace HO5 := Lib.hid (row_below5 HO5.out (Below.refl _ _).drew)
          replace HP8 := Lib.hid (HP8.out.below (Below.refl _ _).drew)
          replace HR5 := Lib.hid (HR5.out.below (Below.refl _ _).drew)
          refine wp_region_held_drew (S := fun V => V.cell? ⟨xb, 1, none⟩ = some (.string (S x.name)) ∧ V.cell? ⟨xb, 5, none⟩ = some (.slice (some ⟨gk, 0, none⟩) x.keep.length c15) ∧ V.cell? ⟨g, off + i * 6 + 5, none⟩ = some (.slice x.o x.keep.length x.k) ∧ V.cell? ⟨gk, x.keep.length, none⟩ = some (.int .i64 (-70))) (by kernel_rfl) ?_ (fun hHeld => ?_)
          · exact HS15.out _ HX5.out HR5.out HO5.out
          obtain ⟨w9, hw9⟩ : ∃ q, q = World.drew w8 := ⟨_, rfl⟩
          rw [← hw9] at HX5 HO5 HP8 HR5 hHeld ⊢
          clear hw9
          refine wpAnyH_take (i := 0) (oi := { dst := some 82, op := Op.move (Operand.tmp 11), type := 25, pos := "law.go:143", after := #[], guard := none }) (v := ?_) rfl (by kernel_rfl) (by kernel_rfl) (by kernel_rfl) (fun _ _ _ h => h) (Or.inl ⟨by rfl, ?_⟩) (by assumption) ?_
          rotate_left
          · (intro w hSw; (try dsimp only at hSw); go_simp); (first | done | with_reducible rfl)
          try simp only [Act.put, List.setIfInBounds_toArray, List.set_cons_zero, List.set_cons_succ]
          refine wpAnyH_take (i := 1) (oi := { dst := some 83, op := Op.move (Operand.tmp 12), type := 25, pos := "law.go:143", after := #[], guard := none }) (v := ?_) rfl (by kernel_rfl) (by kernel_rfl) (by kernel_rfl) (fun _ _ _ h => h) (Or.inl ⟨by rfl, ?_⟩) (by assumption) ?_
          rotate_left
          · (intro w hSw; (try dsimp only at hSw); go_simp); (first | done | with_reducible rfl)
          try simp only [Act.put, List.setIfInBounds_toArray, List.set_cons_zero, List.set_cons_succ]
          refine wpAnyH_take (i := 2) (oi := { dst := some 84, op := Op.binOp BinOp.neq 25 (Operand.tmp 82) (Operand.tmp 83) 25, type := 4, pos := "law.go:143", after := #[{ on := 0, ground := Ground.data }, { on := 1, ground := Ground.data }], guard := none }) (v := ?_) rfl (by kernel_rfl) (by kernel_rfl) (by kernel_rfl) (fun _ _ _ h => h) (Or.inl ⟨by rfl, ?_⟩) (by assumption) ?_
          rotate_left
          · (intro w hSw; (try dsimp only at hSw); go_simp); (first | done | with_reducible rfl)
          try simp only [Act.put, List.setIfInBounds_toArray, List.set_cons_zero, List.set_cons_succ]
          refine wpAnyH_take (i := 3) (oi := { dst := some 85, op := Op.move (Operand.tmp 84), type := 4, pos := "law.go:143", after := #[{ on := 2, ground := Ground.data }], guard := none }) (v := ?_) rfl (by kernel_rfl) (by kernel_rfl) (by kernel_rfl) (fun _ _ _ h => h) (Or.inl ⟨by rfl, ?_⟩) (by assumption) ?_
          rotate_left
          · (intro w hSw; (try dsimp only at hSw); go_simp); (first | done | with_reducible rfl)
          try simp only [Act.put, List.setIfInBounds_toArray, List.set_cons_zero, List.set_cons_succ]
          refine wpAnyH_take (i := 4) (oi := { dst := some 86, op := Op.fieldAddr 34 (Operand.tmp 10) 5, type := 0, pos := "law.go:143", after := #[{ on := 3, ground := Ground.guard }], guard := some (3, false) }) (v := ?_) rfl (by kernel_rfl) (by kernel_rfl) (by kernel_rfl) (fun _ _ _ h => h) (Or.inl ⟨by rfl, ?_⟩) (by assumption) ?_
          rotate_left
          · (intro w hSw; (try dsimp only at hSw); go_simp); (first | done | with_reducible rfl)
          try simp only [Act.put, List.setIfInBounds_toArray, List.set_cons_zero, List.set_cons_succ]
          refine wpAnyH_take (i := 5) (oi := { dst := some 87, op := Op.load 32 (Operand.tmp 86), type := 32, pos := "law.go:143", after := #[{ on := 4, ground := Ground.data }, { on := 3, ground := Ground.guard }], guard := some (3, false) }) (v := ?_) rfl (by kernel_rfl) (by kernel_rfl) (by kernel_rfl) (fun _ _ _ h => h) (Or.inl ⟨by rfl, ?_⟩) (by assumption) ?_
          rotate_left
          · (intro w hSw; (try dsimp only at hSw); go_simp); (first | done | with_reducible rfl)
          try simp only [Act.put, List.setIfInBounds_toArray, List.set_cons_zero, List.set_cons_succ]
          refine wpAnyH_take (i := 6) (oi := { dst := some 88, op := Op.move (Operand.tmp 1), type := 22, pos := "law.go:143", after := #[{ on := 3, ground := Ground.guard }], guard := some (3, false) }) (v := ?_) rfl (by kernel_rfl) (by kernel_rfl) (by kernel_rfl) (fun _ _ _ h => h) (Or.inl ⟨by rfl, ?_⟩) (by assumption) ?_
          rotate_left
          · (intro w hSw; (try dsimp only at hSw); go_simp); (first | done | with_reducible rfl)
          try simp only [Act.put, List.setIfInBounds_toArray, List.set_cons_zero, List.set_cons_succ]
          refine wpAnyH_take (i := 7) (oi := { dst := some 89, op := Op.move (Operand.tmp 9), type := 3, pos := "law.go:143", after := #[{ on := 3, ground := Ground.guard }], guard := some (3, false) }) (v := ?_) rfl (by kernel_rfl) (by kernel_rfl) (by kernel_rfl) (fun _ _ _ h => h) (Or.inl ⟨by rfl, ?_⟩) (by assumption) ?_
          rotate_left
          · (intro w hSw; (try dsimp only at hSw); go_simp); (first | done | with_reducible rfl)
          try simp only [Act.put, List.setIfInBounds_toArray, List.set_cons_zero, List.set_cons_succ]
          refine wpAnyH_take (i := 8) (oi := { dst := some 90, op := Op.indexAddr 22 (Operand.tmp 88) (Operand.tmp 89), type := 0, pos := "law.go:143", after := #[{ on := 6, ground := Ground.data }, { on := 7, ground := Ground.data }, { on := 3, ground := Ground.guard }], guard := some (3, false) }) (v := ?_) rfl (by kernel_rfl) (by kernel_rfl) (by kernel_rfl) (fun _ _ _ h => h) (Or.inl ⟨by rfl, ?_⟩) (by assumption) ?_
          rotate_left
          · (intro w hSw; (try dsimp only at hSw); go_simp); (first | done | with_reducible rfl)
          try simp only [Act.put, List.setIfInBounds_toArray, List.set_cons_zero, List.set_cons_succ]
          refine wpAnyH_take (i := 9) (oi := { dst := some 91, op := Op.fieldAddr 34 (Operand.tmp 90) 5, type := 0, pos := "law.go:143", after := #[{ on := 8, ground := Ground.data }, { on := 3, ground := Ground.guard }], guard := some (3, false) }) (v := ?_) rfl (by kernel_rfl) (by kernel_rfl) (by kernel_rfl) (fun _ _ _ h => h) (Or.inl ⟨by rfl, ?_⟩) (by assumption) ?_
          rotate_left
          · (intro w hSw; (try dsimp only at hSw); go_simp); (first | done | with_reducible rfl)
          try simp only [Act.put, List.setIfInBounds_toArray, List.set_cons_zero, List.set_cons_succ]
          refine wpAnyH_take (i := 10) (oi := { dst := some 92, op := Op.load 32 (Operand.tmp 91), type := 32, pos := "law.go:143", after := #[{ on := 9, ground := Ground.data }, { on := 3, ground := Ground.guard }], guard := some (3, false) }) (v := ?_) rfl (by kernel_rfl) (by kernel_rfl) (by kernel_rfl) (fun _ _ _ h => h) (Or.inl ⟨by rfl, ?_⟩) (by assumption) ?_
          rotate_left
          · (intro w hSw; (try dsimp only at hSw); go_simp); (first | done | with_reducible rfl)
          try simp only [Act.put, List.setIfInBounds_toArray, List.set_cons_zero, List.set_cons_succ]
          refine wpAnyH_ready (rs := [11]) (by kernel_rfl) (by simp) ?_
          refine AllReadyH.cons (o := { dst := some 93, op := Op.call { callee := Callee.value (Operand.func 22), args := #[Operand.tmp 87, Operand.tmp 92], argTypes := #[32, 32] }, type := 4, pos := "law.go:143", after := #[{ on := 5, ground := Ground.data }, { on := 10, ground := Ground.data }, { on := 3, ground := Ground.chain }, { on := 3, ground := Ground.guard }], guard := some (3, false) }) rfl (fun K hK => ?_) AllReadyH.nil
          go_simp
          have HKA := Lib.hid (show NsA5 w9 (some ⟨gk, 0, none⟩) x.keep from fun hn => by
            refine ⟨gk, 0, rfl, fun j hj2 => ?_⟩
            obtain ⟨g8, e8, -, -, hc8⟩ := row_at5 HO5.out (show j < k1 by omega)
            cases e8
            rw [Nat.zero_add, hc8]
            exact ints_pre5 _ _ hj2)
          have CJ := sameInts5_any x.keep x.keep (by have := HK9.out; omega) (by have := HK9.out; omega) (some ⟨gk, 0, none⟩) x.o c15 x.k w9 HKA.out HR5.out.at_.2.2.2.2.2.2
          rw [show decide (x.keep = x.keep) = true from by simp] at CJ
          replace CJ := Lib.hid CJ
          go_simp
          go_at_call 22
          with_reducible refine (CJ.out).mono ?_
          rintro e w10 ⟨rfl, hb⟩
          replace HX5 := Lib.hid (HX5.out.below hb)
          replace HO5 := Lib.hid (row_below5 HO5.out hb)
          replace HR5 := Lib.hid (HR5.out.below (hb.mono HP8.out.two.size))
          replace HP8 := Lib.hid (HP8.out.below hb)
          clear hb CJ HKA
          go_wp2_with fail
          refine hK.out _ _ ?_ (fun hHeld => ?_)
          · exact HS15.out _ HX5.out HR5.out HO5.out
          clear hK K
          try simp only [Act.put, List.setIfInBounds_toArray, List.set_cons_zero, List.set_cons_succ]
          refine wpAnyH_take (i := 12) (oi := { dst := some 94, op := Op.unOp UnOp.not 4 (Operand.tmp 93), type := 4, pos := "law.go:143", after := #[{ on := 11, ground := Ground.data }, { on := 3, ground := Ground.guard }], guard := some (3, false) }) (v := ?_) rfl (by kernel_rfl) (by kernel_rfl) (by kernel_rfl) (fun _ _ _ h => h) (Or.inl ⟨by rfl, ?_⟩) (by assumption) ?_
          rotate_left
          · (intro w hSw; (try dsimp only at hSw); go_simp); (first | done | with_reducible rfl)
          try simp only [Act.put, List.setIfInBounds_toArray, List.set_cons_zero, List.set_cons_succ]
          refine wpAnyH_take (i := 13) (oi := { dst := some 95, op := Op.pick (Operand.tmp 85) (Operand.const (Value.bool true)) (Operand.tmp 94), type := 4, pos := "law.go:143", after := #[{ on := 3, ground := Ground.data }, { on := 12, ground := Ground.data }], guard := none }) (v := ?_) rfl (by kernel_rfl) (by kernel_rfl) (by kernel_rfl) (fun _ _ _ h => h) (Or.inl ⟨by rfl, ?_⟩) (by assumption) ?_
          rotate_left
          · (intro w hSw; (try dsimp only at hSw); go_simp); (first | done | with_reducible rfl)
          try simp only [Act.put, List.setIfInBounds_toArray, List.set_cons_zero, List.set_cons_succ]
          refine wpAnyH_take (i := 14) (oi := { dst := some 96, op := Op.move (Operand.tmp 95), type := 4, pos := "law.go:143", after := #[{ on := 13, ground := Ground.data }, { on := 11, ground := Ground.chain }], guard := none }) (v := ?_) rfl (by kernel_rfl) (by kernel_rfl) (by kernel_rfl) (fun _ _ _ h => h) (Or.inl ⟨by rfl, ?_⟩) (by assumption) ?_
          rotate_left
          · (intro w hSw; (try dsimp only at hSw); go_simp); (first | done | with_reducible rfl)
          try simp only [Act.put, List.setIfInBounds_toArray, List.set_cons_zero, List.set_cons_succ]
          refine wpAnyH_take (i := 15) (oi := { dst := some 97, op := Op.fieldAddr 34 (Operand.tmp 10) 5, type := 0, pos := "law.go:143", after := #[{ on := 14, ground := Ground.guard }], guard := some (14, false) }) (v := ?_) rfl (by kernel_rfl) (by kernel_rfl) (by kernel_rfl) (fun _ _ _ h => h) (Or.inl ⟨by rfl, ?_⟩) (by assumption) ?_
          rotate_left
          · (intro w hSw; (try dsimp only at hSw); go_simp); (first | done | with_reducible rfl)
          try simp only [Act.put, List.setIfInBounds_toArray, List.set_cons_zero, List.set_cons_succ]
          refine wpAnyH_take (i := 16) (oi := { dst := some 98, op := Op.load 32 (Operand.tmp 97), type := 32, pos := "law.go:143", after := #[{ on := 15, ground := Ground.data }, { on := 14, ground := Ground.guard }], guard := some (14, false) }) (v := ?_) rfl (by kernel_rfl) (by kernel_rfl) (by kernel_rfl) (fun _ _ _ h => h) (Or.inl ⟨by rfl, ?_⟩) (by assumption) ?_
          rotate_left
          · (intro w hSw; (try dsimp only at hSw); go_simp); (first | done | with_reducible rfl)
          try simp only [Act.put, List.setIfInBounds_toArray, List.set_cons_zero, List.set_cons_succ]
          refine wpAnyH_take (i := 17) (oi := { dst := some 99, op := Op.fieldAddr 34 (Operand.tmp 10) 5, type := 0, pos := "law.go:143", after := #[{ on := 14, ground := Ground.guard }], guard := some (14, false) }) (v := ?_) rfl (by kernel_rfl) (by kernel_rfl) (by kernel_rfl) (fun _ _ _ h => h) (Or.inl ⟨by rfl, ?_⟩) (by assumption) ?_
          rotate_left
          · (intro w hSw; (try dsimp only at hSw); go_simp); (first | done | with_reducible rfl)
          try simp only [Act.put, List.setIfInBounds_toArray, List.set_cons_zero, List.set_cons_succ]
          refine wpAnyH_take (i := 18) (oi := { dst := some 100, op := Op.load 32 (Operand.tmp 99), type := 32, pos := "law.go:143", after := #[{ on := 17, ground := Ground.data }, { on := 14, ground := Ground.guard }], guard := some (14, false) }) (v := ?_) rfl (by kernel_rfl) (by kernel_rfl) (by kernel_rfl) (fun _ _ _ h => h) (Or.inl ⟨by rfl, ?_⟩) (by assumption) ?_
          rotate_left
          · (intro w hSw; (try dsimp only at hSw); go_simp); (first | done | with_reducible rfl)
          try simp only [Act.put, List.setIfInBounds_toArray, List.set_cons_zero, List.set_cons_succ]
          refine wpAnyH_take (i := 19) (oi := { dst := some 101, op := Op.call { callee := Callee.builtin Builtin.len, args := #[Operand.tmp 100], argTypes := #[32] }, type := 3, pos := "law.go:143", after := #[{ on := 18, ground := Ground.data }, { on := 14, ground := Ground.guard }], guard := some (14, false) }) (v := ?_) rfl (by kernel_rfl) (by kernel_rfl) (by kernel_rfl) (fun _ _ _ h => h) (Or.inl ⟨by rfl, ?_⟩) (by assumption) ?_
          rotate_left
          · (intro w hSw; (try dsimp only at hSw); go_simp); (first | done | with_reducible rfl)
          try simp only [Act.put, List.setIfInBounds_toArray, List.set_cons_zero, List.set_cons_succ]
          refine wpAnyH_take (i := 20) (oi := { dst := some 102, op := Op.binOp BinOp.add 3 (Operand.tmp 101) (Operand.const (Value.int IntKind.i64 1)) 3, type := 3, pos := "law.go:143", after := #[{ on := 19, ground := Ground.data }, { on := 14, ground := Ground.guard }], guard := some (14, false) }) (v := ?_) rfl (by kernel_rfl) (by kernel_rfl) (by kernel_rfl) (fun _ _ _ h => h) (Or.inl ⟨by rfl, ?_⟩) (by assumption) ?_
          rotate_left
          · (intro w hSw; (try dsimp only at hSw); go_simp); (first | done | with_reducible rfl)
          try simp only [Act.put, List.setIfInBounds_toArray, List.set_cons_zero, List.set_cons_succ]
          refine wpAnyH_take (i := 21) (oi := { dst := some 103, op := Op.slice 32 (Operand.tmp 98) none (some (Operand.tmp 102)) none, type := 32, pos := "law.go:143", after := #[{ on := 16, ground := Ground.data }, { on := 20, ground := Ground.data }, { on := 14, ground := Ground.guard }], guard := some (14, false) }) (v := ?_) rfl (by kernel_rfl) (by kernel_rfl) (by kernel_rfl) (fun _ _ _ h => h) (Or.inl ⟨by rfl, ?_⟩) (by assumption) ?_
          rotate_left
          · (intro w hSw; (try dsimp only at hSw); go_simp); (first | done | with_reducible rfl)
          try simp only [Act.put, List.setIfInBounds_toArray, List.set_cons_zero, List.set_cons_succ]
          refine wpAnyH_take (i := 22) (oi := { dst := some 104, op := Op.fieldAddr 34 (Operand.tmp 10) 5, type := 0, pos := "law.go:143", after := #[{ on := 14, ground := Ground.guard }], guard := some (14, false) }) (v := ?_) rfl (by kernel_rfl) (by kernel_rfl) (by kernel_rfl) (fun _ _ _ h => h) (Or.inl ⟨by rfl, ?_⟩) (by assumption) ?_
          rotate_left
          · (intro w hSw; (try dsimp only at hSw); go_simp); (first | done | with_reducible rfl)
          try simp only [Act.put, List.setIfInBounds_toArray, List.set_cons_zero, List.set_cons_succ]
          refine wpAnyH_take (i := 23) (oi := { dst := some 105, op := Op.load 32 (Operand.tmp 104), type := 32, pos := "law.go:143", after := #[{ on := 22, ground := Ground.data }, { on := 14, ground := Ground.guard }], guard := some (14, false) }) (v := ?_) rfl (by kernel_rfl) (by kernel_rfl) (by kernel_rfl) (fun _ _ _ h => h) (Or.inl ⟨by rfl, ?_⟩) (by assumption) ?_
          rotate_left
          · (intro w hSw; (try dsimp only at hSw); go_simp); (first | done | with_reducible rfl)
          try simp only [Act.put, List.setIfInBounds_toArray, List.set_cons_zero, List.set_cons_succ]
          refine wpAnyH_take (i := 24) (oi := { dst := some 106, op := Op.call { callee := Callee.builtin Builtin.len, args := #[Operand.tmp 105], argTypes := #[32] }, type := 3, pos := "law.go:143", after := #[{ on := 23, ground := Ground.data }, { on := 14, ground := Ground.guard }], guard := some (14, false) }) (v := ?_) rfl (by kernel_rfl) (by kernel_rfl) (by kernel_rfl) (fun _ _ _ h => h) (Or.inl ⟨by rfl, ?_⟩) (by assumption) ?_
          rotate_left
          · (intro w hSw; (try dsimp only at hSw); go_simp); (first | done | with_reducible rfl)
          try simp only [Act.put, List.setIfInBounds_toArray, List.set_cons_zero, List.set_cons_succ]
          refine wpAnyH_take (i := 25) (oi := { dst := some 107, op := Op.indexAddr 32 (Operand.tmp 103) (Operand.tmp 106), type := 0, pos := "law.go:143", after := #[{ on := 21, ground := Ground.data }, { on := 24, ground := Ground.data }, { on := 14, ground := Ground.guard }], guard := some (14, false) }) (v := ?_) rfl (by kernel_rfl) (by kernel_rfl) (by kernel_rfl) (fun _ _ _ h => h) (Or.inl ⟨by rfl, ?_⟩) (by assumption) ?_
          rotate_left
          · (intro w hSw; (try dsimp only at hSw); go_simp); (first | done | with_reducible rfl)
          try simp only [Act.put, List.setIfInBounds_toArray, List.set_cons_zero, List.set_cons_succ]
          refine wpAnyH_take (i := 26) (oi := { dst := some 108, op := Op.load 3 (Operand.tmp 107), type := 3, pos := "law.go:143", after := #[{ on := 25, ground := Ground.data }, { on := 14, ground := Ground.guard }], guard := some (14, false) }) (v := ?_) rfl (by kernel_rfl) (by kernel_rfl) (by kernel_rfl) (fun _ _ _ h => h) (Or.inl ⟨by rfl, ?_⟩) (by assumption) ?_
          rotate_left
          · (intro w hSw; (try dsimp only at hSw); go_simp); (first | done | with_reducible rfl)
          try simp only [Act.put, List.setIfInBounds_toArray, List.set_cons_zero, List.set_cons_succ]
          refine wpAnyH_take (i := 27) (oi := { dst := some 109, op := Op.binOp BinOp.neq 3 (Operand.tmp 108) (Operand.const (Value.int IntKind.i64 (-70))) 3, type := 4, pos := "law.go:143", after := #[{ on := 26, ground := Ground.data }, { on := 14, ground := Ground.guard }], guard := some (14, false) }) (v := ?_) rfl (by kernel_rfl) (by kernel_rfl) (by kernel_rfl) (fun _ _ _ h => h) (Or.inl ⟨by rfl, ?_⟩) (by assumption) ?_
          rotate_left
          · (intro w hSw; (try dsimp only at hSw); go_simp); (first | done | with_reducible rfl)
          try simp only [Act.put, List.setIfInBounds_toArray, List.set_cons_zero, List.set_cons_succ]
          refine wpAnyH_take (i := 28) (oi := { dst := some 110, op := Op.pick (Operand.tmp 96) (Operand.const (Value.bool true)) (Operand.tmp 109), type := 4, pos := "law.go:143", after := #[{ on := 14, ground := Ground.data }, { on := 27, ground := Ground.data }], guard := none }) (v := ?_) rfl (by kernel_rfl) (by kernel_rfl) (by kernel_rfl) (fun _ _ _ h => h) (Or.inl ⟨by rfl, ?_⟩) (by assumption) ?_
          rotate_left
          · (intro w hSw; (try dsimp only at hSw); go_simp); (first | done | with_reducible rfl)
          try simp only [Act.put, List.setIfInBounds_toArray, List.set_cons_zero, List.set_cons_succ]
          refine wpAnyH_take (i := 29) (oi := { dst := some 111, op := Op.move (Operand.tmp 110), type := 4, pos := "law.go:143", after := #[{ on := 28, ground := Ground.data }, { on := 14, ground := Ground.chain }], guard := none }) (v := ?_) rfl (by kernel_rfl) (by kernel_rfl) (by kernel_rfl) (fun _ _ _ h => h) (Or.inl ⟨by rfl, ?_⟩) (by assumption) ?_
          rotate_left
          · (intro w hSw; (try dsimp only at hSw); go_simp); (first | done | with_reducible rfl)
          try simp only [Act.put, List.setIfInBounds_toArray, List.set_cons_zero, List.set_cons_succ]
          refine wpAnyH_take (i := 30) (oi := { dst := some 112, op := Op.move (Operand.tmp 5), type := 24, pos := "law.go:143", after := #[{ on := 29, ground := Ground.guard }], guard := some (29, false) }) (v := ?_) rfl (by kernel_rfl) (by kernel_rfl) (by kernel_rfl) (fun _ _ _ h => h) (Or.inl ⟨by rfl, ?_⟩) (by assumption) ?_
          rotate_left
          · (intro w hSw; (try dsimp only at hSw); go_simp); (first | done | with_reducible rfl)
          try simp only [Act.put, List.setIfInBounds_toArray, List.set_cons_zero, List.set_cons_succ]
          refine wpAnyH_take (i := 31) (oi := { dst := some 113, op := Op.fieldAddr 34 (Operand.tmp 10) 1, type := 0, pos := "law.go:143", after := #[{ on := 29, ground := Ground.guard }], guard := some (29, false) }) (v := ?_) rfl (by kernel_rfl) (by kernel_rfl) (by kernel_rfl) (fun _ _ _ h => h) (Or.inl ⟨by rfl, ?_⟩) (by assumption) ?_
          rotate_left
          · (intro w hSw; (try dsimp only at hSw); go_simp); (first | done | with_reducible rfl)
          try simp only [Act.put, List.setIfInBounds_toArray, List.set_cons_zero, List.set_cons_succ]
          refine wpAnyH_take (i := 32) (oi := { dst := some 114, op := Op.load 9 (Operand.tmp 113), type := 9, pos := "law.go:143", after := #[{ on := 31, ground := Ground.data }, { on := 29, ground := Ground.guard }], guard := some (29, false) }) (v := ?_) rfl (by kernel_rfl) (by kernel_rfl) (by kernel_rfl) (fun _ _ _ h => h) (Or.inl ⟨by rfl, ?_⟩) (by assumption) ?_
          rotate_left
          · (intro w hSw; (try dsimp only at hSw); go_simp); (first | done | with_reducible rfl)
          try simp only [Act.put, List.setIfInBounds_toArray, List.set_cons_zero, List.set_cons_succ]
          refine wpAnyH_take (i := 34) (oi := { dst := some 116, op := Op.move (Operand.tmp 7), type := 28, pos := "law.go:143", after := #[{ on := 29, ground := Ground.guard }], guard := some (29, false) }) (v := ?_) rfl (by kernel_rfl) (by kernel_rfl) (by kernel_rfl) (fun _ _ _ h => h) (Or.inl ⟨by rfl, ?_⟩) (by assumption) ?_
          rotate_left
          · (intro w hSw; (try dsimp only at hSw); go_simp); (first | done | with_reducible rfl)
          try simp only [Act.put, List.setIfInBounds_toArray, List.set_cons_zero, List.set_cons_succ]
          refine wpAnyH_take (i := 35) (oi := { dst := some 117, op := Op.fieldAddr 34 (Operand.tmp 10) 1, type := 0, pos := "law.go:143", after := #[{ on := 29, ground := Ground.guard }], guard := some (29, false) }) (v := ?_) rfl (by kernel_rfl) (by kernel_rfl) (by kernel_rfl) (fun _ _ _ h => h) (Or.inl ⟨by rfl, ?_⟩) (by assumption) ?_
          rotate_left
          · (intro w hSw; (try dsimp only at hSw); go_simp); (first | done | with_reducible rfl)
          try simp only [Act.put, List.setIfInBounds_toArray, List.set_cons_zero, List.set_cons_succ]
          refine wpAnyH_take (i := 36) (oi := { dst := some 118, op := Op.load 9 (Operand.tmp 117), type := 9, pos := "law.go:143", after := #[{ on := 35, ground := Ground.data }, { on := 29, ground := Ground.guard }], guard := some (29, false) }) (v := ?_) rfl (by kernel_rfl) (by kernel_rfl) (by kernel_rfl) (fun _ _ _ h => h) (Or.inl ⟨by rfl, ?_⟩) (by assumption) ?_
          rotate_left
          · (intro w hSw; (try dsimp only at hSw); go_simp); (first | done | with_reducible rfl)
          try simp only [Act.put, List.setIfInBounds_toArray, List.set_cons_zero, List.set_cons_succ]
          refine wpAnyH_ready (rs := [33]) (by kernel_rfl) (by simp) ?_
          refine AllReadyH.cons (o := { dst := some 115, op := Op.call { callee := Callee.value (Operand.func 23), args := #[Operand.tmp 112, Operand.tmp 114], argTypes := #[24, 9] }, type := 3, pos := "law.go:143", after := #[{ on := 30, ground := Ground.data }, { on := 32, ground := Ground.data }, { on := 29, ground := Ground.chain }, { on := 29, ground := Ground.guard }], guard := some (29, false) }) rfl (fun K hK => ?_) AllReadyH.nil
          go_simp
          have CJ := Lib.hid (show Calls Try.prog 23 #[.pointer (some ⟨a, 0, none⟩), .string (S x.name)] w10 (fun e w' => e = .returned (.int .i64 (Dk.get x.name D2.L).safe) ∧ w10 = w') from by obtain ⟨X, hX⟩ := HP8.out.two.tell; exact syncedX hX _ HRI.out.name)
          go_simp
          go_at_call 23
          with_reducible refine (CJ.out).mono ?_
          rintro e w11 ⟨rfl, rfl⟩
          clear CJ
          go_wp2_with fail
          refine hK.out _ _ ?_ (fun hHeld => ?_)
          · exact HS15.out _ HX5.out HR5.out HO5.out
          clear hK K
          try simp only [Act.put, List.setIfInBounds_toArray, List.set_cons_zero, List.set_cons_succ]
          refine wpAnyH_ready (rs := [37]) (by kernel_rfl) (by simp) ?_
          refine AllReadyH.cons (o := { dst := some 119, op := Op.call { callee := Callee.value (Operand.func 24), args := #[Operand.tmp 116, Operand.tmp 118], argTypes := #[28, 9] }, type := 3, pos := "law.go:143", after := #[{ on := 34, ground := Ground.data }, { on := 36, ground := Ground.data }, { on := 33, ground := Ground.chain }, { on := 29, ground := Ground.guard }], guard := some (29, false) }) rfl (fun K hK => ?_) AllReadyH.nil
          go_simp
          have CJ := Lib.hid (show Calls Try.prog 24 #[.pointer (some ⟨r, 0, none⟩), .string (S x.name)] w10 (fun e w' => e = .returned (.int .i64 (Dk.get x.name D2.L).safe) ∧ w10 = w') from by obtain ⟨c, hc⟩ := HP8.out.two.ref; exact rSynced5 hc _)
          go_simp
          go_at_call 24
          with_reducible refine (CJ.out).mono ?_
          rintro e w11 ⟨rfl, rfl⟩
          clear CJ
          have q7 : (((Dk.get x.name D2.L).safe : Int) != ((Dk.get x.name D2.L).safe : Int)) = false := by simp
          go_wp2_with fail
          refine hK.out _ _ ?_ (fun hHeld => ?_)
          · exact HS15.out _ HX5.out HR5.out HO5.out
          clear hK K
          try simp only [Act.put, List.setIfInBounds_toArray, List.set_cons_zero, List.set_cons_succ]
          refine wpAnyH_take (i := 38) (oi := { dst := some 120, op := Op.binOp BinOp.neq 3 (Operand.tmp 115) (Operand.tmp 119) 3, type := 4, pos := "law.go:143", after := #[{ on := 33, ground := Ground.data }, { on := 37, ground := Ground.data }, { on := 29, ground := Ground.guard }], guard := some (29, false) }) (v := ?_) rfl (by kernel_rfl) (by kernel_rfl) (by kernel_rfl) (fun _ _ _ h => h) (Or.inl ⟨by rfl, ?_⟩) (by assumption) ?_
          rotate_left
          · (intro w hSw; (try dsimp only at hSw); go_simp); (first | done | with_reducible rfl)
          try simp only [Act.put, List.setIfInBounds_toArray, List.set_cons_zero, List.set_cons_succ]
          refine wpAnyH_take (i := 39) (oi := { dst := some 121, op := Op.pick (Operand.tmp 111) (Operand.const (Value.bool true)) (Operand.tmp 120), type := 4, pos := "law.go:143", after := #[{ on := 29, ground := Ground.data }, { on := 38, ground := Ground.data }], guard := none }) (v := ?_) rfl (by kernel_rfl) (by kernel_rfl) (by kernel_rfl) (fun _ _ _ h => h) (Or.inl ⟨by rfl, ?_⟩) (by assumption) ?_
          rotate_left
          · (intro w hSw; (try dsimp only at hSw); go_simp); (first | done | with_reducible rfl)
          try simp only [Act.put, List.setIfInBounds_toArray, List.set_cons_zero, List.set_cons_succ]
          refine wpAnyH_take (i := 40) (oi := { dst := some 122, op := Op.move (Operand.tmp 121), type := 4, pos := "law.go:143", after := #[{ on := 39, ground := Ground.data }, { on := 37, ground := Ground.chain }], guard := none }) (v := ?_) rfl (by kernel_rfl) (by kernel_rfl) (by kernel_rfl) (fun _ _ _ h => h) (Or.inl ⟨by rfl, ?_⟩) (by assumption) ?_
          rotate_left
          · (intro w hSw; (try dsimp only at hSw); go_simp); (first | done | with_reducible rfl)
          try simp only [Act.put, List.setIfInBounds_toArray, List.set_cons_zero, List.set_cons_succ]
          refine wpAnyH_take (i := 41) (oi := { dst := some 123, op := Op.move (Operand.tmp 5), type := 24, pos := "law.go:143", after := #[{ on := 40, ground := Ground.guard }], guard := some (40, false) }) (v := ?_) rfl (by kernel_rfl) (by kernel_rfl) (by kernel_rfl) (fun _ _ _ h => h) (Or.inl ⟨by rfl, ?_⟩) (by assumption) ?_
          rotate_left
          · (intro w hSw; (try dsimp only at hSw); go_simp); (first | done | with_reducible rfl)
          try simp only [Act.put, List.setIfInBounds_toArray, List.set_cons_zero, List.set_cons_succ]
          refine wpAnyH_take (i := 42) (oi := { dst := some 124, op := Op.move (Operand.tmp 7), type := 28, pos := "law.go:143", after := #[{ on := 40, ground := Ground.guard }], guard := some (40, false) }) (v := ?_) rfl (by kernel_rfl) (by kernel_rfl) (by kernel_rfl) (fun _ _ _ h => h) (Or.inl ⟨by rfl, ?_⟩) (by assumption) ?_
          rotate_left
          · (intro w hSw; (try dsimp only at hSw); go_simp); (first | done | with_reducible rfl)
          try simp only [Act.put, List.setIfInBounds_toArray, List.set_cons_zero, List.set_cons_succ]
          refine wpAnyH_ready (rs := [43]) (by kernel_rfl) (by simp) ?_
          refine AllReadyH.cons (o := { dst := some 125, op := Op.call { callee := Callee.value (Operand.func 25), args := #[Operand.tmp 123, Operand.tmp 124], argTypes := #[24, 28] }, type := 4, pos := "law.go:143", after := #[{ on := 41, ground := Ground.data }, { on := 42, ground := Ground.data }, { on := 40, ground := Ground.chain }, { on := 40, ground := Ground.guard }], guard := some (40, false) }) rfl (fun K hK => ?_) AllReadyH.nil
          go_simp
          have CJ := Lib.hid (same5 HP8.out.two)
          go_simp
          go_at_call 25
          with_reducible refine (CJ.out).mono ?_
          rintro e w12 ⟨rfl, hb⟩
          replace HX5 := Lib.hid (HX5.out.below hb)
          replace HO5 := Lib.hid (row_below5 HO5.out hb)
          replace HR5 := Lib.hid (HR5.out.below (hb.mono HP8.out.two.size))
          replace HP8 := Lib.hid (HP8.out.below hb)
          clear hb CJ
          go_wp2_with fail
          refine hK.out _ _ ?_ (fun hHeld => ?_)
          · exact HS15.out _ HX5.out HR5.out HO5.out
          clear hK K
          try simp only [Act.put, List.setIfInBounds_toArray, List.set_cons_zero, List.set_cons_succ]
          refine wpAnyH_take (i := 44) (oi := { dst := some 126, op := Op.unOp UnOp.not 4 (Operand.tmp 125), type := 4, pos := "law.go:143", after := #[{ on := 43, ground := Ground.data }, { on := 40, ground := Ground.guard }], guard := some (40, false) }) (v := ?_) rfl (by kernel_rfl) (by kernel_rfl) (by kernel_rfl) (fun _ _ _ h => h) (Or.inl ⟨by rfl, ?_⟩) (by assumption) ?_
          rotate_left
          · (intro w hSw; (try dsimp only at hSw); go_simp); (first | done | with_reducible rfl)
          try simp only [Act.put, List.setIfInBounds_toArray, List.set_cons_zero, List.set_cons_succ]
          refine wpAnyH_take (i := 45) (oi := { dst := some 127, op := Op.pick (Operand.tmp 122) (Operand.const (Value.bool true)) (Operand.tmp 126), type := 4, pos := "law.go:143", after := #[{ on := 40, ground := Ground.data }, { on := 44, ground := Ground.data }], guard := none }) (v := ?_) rfl (by kernel_rfl) (by kernel_rfl) (by kernel_rfl) (fun _ _ _ h => h) (Or.inl ⟨by rfl, ?_⟩) (by assumption) ?_
          rotate_left
          · (intro w hSw; (try dsimp only at hSw); go_simp); (first | done | with_reducible rfl)
          refine wpAnyH_done (by kernel_rfl) ?_ _
          clear hHeld q1 e1 q2 q3 HS15
          have HIN := Lib.hid (show Bk #[.int .u8 x.kind, .string (S x.name), .string (S x.other), .string (S x.data), .int .i64 x.n, .slice (some ⟨gk, 0, none⟩) x.keep.length c15] 34 w12 xb ∧ (∃ xs, w12.ownsRow w4.heap.size 3 1 (.slice (some ⟨gk, 0, none⟩) k1 c15) k1 xs) ∧ Py5 W P5 W.heap.size a r (i + 1) D2 w12 from ⟨HX5.out, ⟨_, HO5.out⟩, HP8.out⟩)
          clear HX5 HO5 HP8 HR5
          go_wp2_with fail
          go_loopw [13] (fun v wr => ∃ m : Nat, m ≤ x.keep.length ∧ v = .int .i64 m ∧ Hid (Bk #[.int .u8 x.kind, .string (S x.name), .string (S x.other), .string (S x.data), .int .i64 x.n, .slice (some ⟨gk, 0, none⟩) x.keep.length c15] 34 wr xb ∧ (∃ xs, wr.ownsRow w4.heap.size 3 1 (.slice (some ⟨gk, 0, none⟩) k1 c15) k1 xs) ∧ Py5 W P5 W.heap.size a r (i + 1) D2 wr)) (fun v _ => x.keep.length - (intOf v).toNat)
          case atStart => exact ⟨0, Nat.zero_le _, rfl, HIN⟩
          case round =>
            clear HIN
            obtain ⟨wq, rfl⟩ : ∃ q, q = wr := ⟨_, rfl⟩
            obtain ⟨m, hm, rfl, HM⟩ := hrel
            have z5 : wq.cell? ⟨xb, 5, none⟩ = some (.slice (some ⟨gk, 0, none⟩) x.keep.length c15) := HM.out.1.cell 5
            by_cases hmt : m < x.keep.length
            · have t1 : decide ((m : Int) < (x.keep.length : Int)) = true := decide_eq_true (by omega)
              have t1' : decide (m < x.keep.length) = true := decide_eq_true hmt
              have hk9 := HK9.out
              have t2 : (0 : Int) ≤ (m : Int) := by omega
              have t3 : (m : Int) < (x.keep.length : Int) := by omega
              obtain ⟨-, ⟨xs, hxs⟩, -⟩ := HM.out
              have f9 := row_free5 hxs m
              have hlen : m < xs.length := by have := hxs.1; omega
              obtain ⟨g8, e8, -, -, hc8⟩ := row_at5 hxs (show m < k1 by omega)
              cases e8
              rw [List.getElem?_eq_getElem hlen] at hc8
              generalize xs[m] = u9 at hc8
              have HN := Lib.hid (show Bk #[.int .u8 x.kind, .string (S x.name), .string (S x.other), .string (S x.data), .int .i64 x.n, .slice (some ⟨gk, 0, none⟩) x.keep.length c15] 34 (wq.setCell ⟨gk, m, none⟩ (.int .i64 5)) xb ∧ (∃ xs, (wq.setCell ⟨gk, m, none⟩ (.int .i64 5)).ownsRow w4.heap.size 3 1 (.slice (some ⟨gk, 0, none⟩) k1 c15) k1 xs) ∧ Py5 W P5 W.heap.size a r (i + 1) D2 (wq.setCell ⟨gk, m, none⟩ (.int .i64 5)) from
                ⟨HM.out.1.other (Ne.symm HPG.out.2.2.1) _ _, ⟨_, row_store5 hxs m (.int .i64 5)⟩, ⟨HM.out.2.2.two.wr (wr_set (A := fun q => q = gk) wq ⟨gk, m, none⟩ _ rfl) (fun q e => by subst e; exact HPG.out.1), HM.out.2.2.starts, HM.out.2.2.bel.setCell (p := ⟨gk, m, none⟩) HPG.out.2.2.2 _⟩⟩)
              clear hxs hlen
              go_wp2_with fail
              go_roundw
              case rel => exact ⟨m + 1, by omega, by go_num, HN⟩
              case measure => simp [intOf]; omega
            · have t1 : decide ((m : Int) < (x.keep.length : Int)) = false := decide_eq_false (by omega)
              have t1' : decide (m < x.keep.length) = false := decide_eq_false hmt
              have HO := Lib.hid (HM.out.2.2.less (P' := fun _ => False) (fun _ q => q.elim))
              go_wp2_with fail
              go_roundw
              case rel => exact ⟨i + 1, by omega, by go_num, Lib.hid ⟨D2, HO.out⟩⟩
              case measure => simp [intOf]; omega
      · have d1 : decide (i < L.length) = false := by simpa using hlt
        have HBL := Lib.hid HP.out.bel
        go_wp2_with fail
        with_reducible refine (CD.out _).mono ?_
        rintro e w4 ⟨rfl, hb⟩
        have HF4 := Lib.hid (below_step HBL.out hb)
        clear hb
        go_wp2_with fail
        go_ret
        exact ⟨rfl, HF4.out⟩
  · have CN := Lib.hid (new_no5 cp W (by omega))
    have CR := Lib.hid (rNewNo5 cp W (by omega))
    go_enter Try.func3, Try.ntmps3
    go_wp2_with fail
    with_reducible refine CG.out.mono ?_
    rintro e w1 (⟨rfl, rfl⟩ | ⟨rfl, hF, rfl⟩)
    · go_wp2_with fail
      go_ret
      exact ⟨rfl, Below.refl _ _⟩
    go_wp2_with fail
    with_reducible refine CN.out.mono ?_
    rintro e w1 ⟨rfl, rfl⟩
    go_wp2_with fail
    with_reducible refine CR.out.mono ?_
    rintro e w1 ⟨rfl, rfl⟩
    go_wp2_with fail
    with_reducible refine (CD.out _).mono ?_
    rintro e w4 ⟨rfl, hb⟩
    have HF4 := Lib.hid hb
    clear hb
    go_wp2_with fail
    go_ret
    exact ⟨rfl, HF4.out⟩

end Go.Proofs.Ytekmnpmeienhhaa
