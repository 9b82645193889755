/- Layer 5: the document's disk: cut. -/
import Derived.Test.YtekmnpmeienhhaaDkrB
namespace Go.Proofs.Ytekmnpmeienhhaa
set_option linter.unusedVariables false
open Go Go.RowKit Go.Maps

/-- Its files stand in a new row. -/
theorem RfIn.newrow {B r : Nat} {c : Rc} {D : Dk.St} {w w2 : World} (h : RfIn B r c D w) (hB : B ≤ w.heap.size) (hb : Below w.heap.size w w2) (a : Option Addr) (ca : Nat) (L' : List Dk.Fl) (v : Value)
    (ho : w2.ownsRow w.heap.size 95 3 (.slice a L'.length ca) L'.length (flsV L')) (hok : Dk.OkL L') (hf : L'.length ≤ 1024) (hz : Dk.size L' ≤ 1048576) :
    OpI B r c v { D with L := L' } w (.returned v) (w2.setCell ⟨r, 4, none⟩ (.slice a L'.length ca)) := by
  have hbx := h.box.below hb
  refine ⟨rfl, ⟨a, ca, c.n, c.ka, c.kc, c.ks⟩, ⟨?_, ?_, ?_, h.set, hok, hf, hz⟩, fun b hb' => ?_, (wr_below hb).trans (wr_set _ _ _ (.inl rfl))⟩
  · have := hbx.set 4 (.slice a L'.length ca)
    exact this
  · exact row_set5 (row_base5 ho hB) (bk_row hbx ho (by decide))
  · have hk := row_below5 h.krow hb
    exact row_set5 hk (bk_row hbx hk (by decide))
  · rcases hb' with hb' | ⟨x, hx, rfl⟩ | hb'
    · exact .inl (.inl hb')
    · have := ho.lt x.block (by rw [show a = some x from hx]; rfl)
      exact .inr this.1
    · exact .inl (.inr (.inr hb'))
theorem RfIn.cap {B r : Nat} {c : Rc} {D : Dk.St} {w : World} (h : RfIn B r c D w) : D.L.length ≤ c.c ∧ c.c ≤ maxLen := by
  rcases h.row.2 with ⟨e1, e2⟩ | ⟨g, cap', cur, e1, hB, hg, hc, hm, _⟩
  · injection e1 with q1 q2 q3
    exact ⟨by omega, by rw [q3]; unfold maxLen; omega⟩
  · injection e1 with q1 q2 q3
    exact ⟨by rw [q3]; exact hc, by rw [q3]; exact hm⟩
theorem RfIn.cellsAt {B r : Nat} {c : Rc} {D : Dk.St} {w : World} (h : RfIn B r c D w) {g : Nat} (hg : c.a = some ⟨g, 0, none⟩) : ∀ j u, (flsV D.L)[j]? = some u → w.cell? ⟨g, j, none⟩ = some u := fun j u hu => by
  have hr := h.row
  rw [hg] at hr
  have := hr.cells (g := g) rfl j u hu
  rw [Addr.add_lit, Nat.zero_add] at this
  exact this
set_option maxHeartbeats 4000000 in
set_option maxRecDepth 100000 in
theorem rCut5 {B r : Nat} {c : Rc} {D : Dk.St} {w : World} (h : RfIn B r c D w) (hB : B ≤ w.heap.size) {k : Nat} (hk : k < D.L.length) : Calls Try.prog 90 #[.pointer (some ⟨r, 0, none⟩), .int .i64 (k : Int)] w (OpI B r c (.tuple #[]) { D with L := Dk.del (D.L[k]).name D.L } w) := by
  obtain ⟨i0, hi0, hz0, hz1, hz2⟩ := info_parts infoFile5
  obtain ⟨g, hg, -, -, -⟩ := row_file5 h.row rfl hk
  have HROW := Lib.hid (fun W' (hW : Below w.heap.size w W') j u (hu : (flsV D.L)[j]? = some u) => (hW.cell (p := ⟨g, j, none⟩) (cell_lt5 (h.cellsAt hg j u hu))).trans (h.cellsAt hg j u hu))
  have HBK := Lib.hid h.box
  have hcap := h.cap
  have hfew := h.few
  have hdel := Dk.del_at5 h.ok.ne hk
  have HDEL := Lib.hid hdel
  have HE0 := Lib.hid (show (D.L.take k).length = k from by rw [List.length_take]; omega)
  have HLN := Lib.hid (show (D.L.take k ++ D.L.drop (k + 1)).length = k + (D.L.length - (k + 1)) from by rw [List.length_append, HE0.out, List.length_drop])
  obtain ⟨nL, hnL⟩ : ∃ x, x = (D.L.take k ++ D.L.drop (k + 1)).length := ⟨_, rfl⟩
  have HNL := Lib.hid hnL
  have HFIN := Lib.hid (fun w2 (hb : Below w.heap.size w w2) a16 c16 (ho : w2.ownsRow w.heap.size 95 3 (.slice a16 nL c16) nL (flsV (D.L.take k ++ D.L.drop (k + 1)))) =>
    (show OpI B r c (.tuple #[]) { D with L := Dk.del (D.L[k]).name D.L } w (.returned (.tuple #[])) (w2.setCell ⟨r, 4, none⟩ (.slice a16 nL c16)) from by
      subst hnL
      rw [hdel] at ho ⊢
      exact h.newrow hB hb a16 c16 _ _ ho (h.ok.del _) (by have := h.few; have := Dk.len_del (nm := (D.L[k]).name) h.ok.ne; omega) (by have := h.small; have := Dk.size_del (nm := (D.L[k]).name) h.ok.ne; omega)))
  have x4 : w.cell? ⟨r, 4, none⟩ = some (.slice c.a D.L.length c.c) := h.box.cell 4
  rw [hg] at x4
  have HBK4 : Hid (Bk #[.int .i64 D.room, .int .i64 D.starts, .bool (!D.up), .bool D.set.isSome, .slice (some ⟨g, 0, none⟩) D.L.length c.c, .int .i64 c.n, .slice c.ka c.ks.length c.kc] 91 w r) := Lib.hid (by rw [← hg]; exact h.box)
  replace HBK := HBK4
  unfold maxLen at hcap
  clear h hdel hg HBK4 hnL
  have e1 : IntKind.i64.wrap ((k : Int) + 1) = (k : Int) + 1 := IntWalk.i64_in _ (by omega)
  have e2 : ((k : Int) + 1).toNat = k + 1 := by omega
  have b1 : (0 : Int) ≤ (k : Int) := by omega
  have b2 : (k : Int) ≤ (c.c : Int) := by omega
  have b3 : (0 : Int) ≤ (k : Int) + 1 := by omega
  have b4 : (k : Int) + 1 ≤ (D.L.length : Int) := by omega
  go_enter Try.func90, Try.ntmps90
  have hcase : ¬ c.c = k + 1 ∨ c.c = k + 1 := by omega
  clear x4
  rcases hcase with hc | hc
  · refine wp_region_Z (S := fun V => V.cell? ⟨r, 4, none⟩ = some (.slice (some ⟨g, 0, none⟩) D.L.length c.c)) 19 (by kernel_rfl) ?_ (fun hHeld => ?_)
    · exact (HBK.out.below (Below.refl _ _).drew).cell 4
    have HB := Lib.hid (Below.refl w.heap.size w).drew
    obtain ⟨wd, hwd⟩ : ∃ x, x = World.drew w := ⟨_, rfl⟩
    rw [← hwd] at HB hHeld ⊢
    clear hwd
    refine wpAnyZ_takeY (i := 0) (oi := { dst := some 4, op := Op.move (Operand.tmp 0), type := 28, pos := "ref.go:41", after := #[], guard := none }) (v := ?_) rfl (by kernel_rfl) (by kernel_rfl) (by kernel_rfl) (by rfl) (fun _ _ _ h => h) (Or.inl ⟨by rfl, ?_⟩) (by assumption) ?_
    rotate_left
    · (intro w; go_simp); (first | done | with_reducible rfl)
    try simp only [Act.put, List.setIfInBounds_toArray, List.set_cons_zero, List.set_cons_succ]
    refine wpAnyZ_takeY (i := 2) (oi := { dst := some 6, op := Op.move (Operand.tmp 0), type := 28, pos := "ref.go:41", after := #[], guard := none }) (v := ?_) rfl (by kernel_rfl) (by kernel_rfl) (by kernel_rfl) (by rfl) (fun _ _ _ h => h) (Or.inl ⟨by rfl, ?_⟩) (by assumption) ?_
    rotate_left
    · (intro w; go_simp); (first | done | with_reducible rfl)
    try simp only [Act.put, List.setIfInBounds_toArray, List.set_cons_zero, List.set_cons_succ]
    refine wpAnyZ_takeY (i := 3) (oi := { dst := some 7, op := Op.nilCheck (Operand.tmp 6), type := 0, pos := "ref.go:41", after := #[{ on := 2, ground := Ground.data }], guard := none }) (v := ?_) rfl (by kernel_rfl) (by kernel_rfl) (by kernel_rfl) (by rfl) (fun _ _ _ h => h) (Or.inl ⟨by rfl, ?_⟩) (by assumption) ?_
    rotate_left
    · (intro w; go_simp); (first | done | with_reducible rfl)
    try simp only [Act.put, List.setIfInBounds_toArray, List.set_cons_zero, List.set_cons_succ]
    refine wpAnyZ_takeY (i := 4) (oi := { dst := some 8, op := Op.fieldAddr 91 (Operand.tmp 7) 4, type := 0, pos := "ref.go:41", after := #[{ on := 3, ground := Ground.data }], guard := none }) (v := ?_) rfl (by kernel_rfl) (by kernel_rfl) (by kernel_rfl) (by rfl) (fun _ _ _ h => h) (Or.inl ⟨by rfl, ?_⟩) (by assumption) ?_
    rotate_left
    · (intro w; go_simp); (first | done | with_reducible rfl)
    try simp only [Act.put, List.setIfInBounds_toArray, List.set_cons_zero, List.set_cons_succ]
    refine wpAnyZ_take (i := 5) (oi := { dst := some 9, op := Op.load 89 (Operand.tmp 8), type := 89, pos := "ref.go:41", after := #[{ on := 4, ground := Ground.data }], guard := none }) (v := ?_) [7, 8, 16, 17, 18, 19] rfl (by kernel_rfl) (by kernel_rfl) (by kernel_rfl) (by kernel_rfl) (fun _ _ _ h => h) (Or.inl ⟨by rfl, ?_⟩) (by assumption) ?_
    rotate_left
    · (intro w hSw; (try dsimp only at hSw); go_simp); (first | done | with_reducible rfl)
    try simp only [Act.put, List.setIfInBounds_toArray, List.set_cons_zero, List.set_cons_succ]
    refine wpAnyZ_takeY (i := 6) (oi := { dst := some 10, op := Op.move (Operand.tmp 1), type := 3, pos := "ref.go:41", after := #[], guard := none }) (v := ?_) rfl (by kernel_rfl) (by kernel_rfl) (by kernel_rfl) (by rfl) (fun _ _ _ h => h) (Or.inl ⟨by rfl, ?_⟩) (by assumption) ?_
    rotate_left
    · (intro w; go_simp); (first | done | with_reducible rfl)
    try simp only [Act.put, List.setIfInBounds_toArray, List.set_cons_zero, List.set_cons_succ]
    refine wpAnyZ_takeY (i := 7) (oi := { dst := some 11, op := Op.slice 89 (Operand.tmp 9) none (some (Operand.tmp 10)) none, type := 89, pos := "ref.go:41", after := #[{ on := 5, ground := Ground.data }, { on := 6, ground := Ground.data }], guard := none }) (v := ?_) rfl (by kernel_rfl) (by kernel_rfl) (by kernel_rfl) (by rfl) (fun _ _ _ h => h) (Or.inl ⟨by rfl, ?_⟩) (by assumption) ?_
    rotate_left
    · (intro w; go_simp); (first | done | with_reducible rfl)
    try simp only [Act.put, List.setIfInBounds_toArray, List.set_cons_zero, List.set_cons_succ]
    refine wpAnyZ_takeY (i := 9) (oi := { dst := some 13, op := Op.move (Operand.tmp 0), type := 28, pos := "ref.go:41", after := #[], guard := none }) (v := ?_) rfl (by kernel_rfl) (by kernel_rfl) (by kernel_rfl) (by rfl) (fun _ _ _ h => h) (Or.inl ⟨by rfl, ?_⟩) (by assumption) ?_
    rotate_left
    · (intro w; go_simp); (first | done | with_reducible rfl)
    try simp only [Act.put, List.setIfInBounds_toArray, List.set_cons_zero, List.set_cons_succ]
    refine wpAnyZ_takeY (i := 10) (oi := { dst := some 14, op := Op.nilCheck (Operand.tmp 13), type := 0, pos := "ref.go:41", after := #[{ on := 9, ground := Ground.data }], guard := none }) (v := ?_) rfl (by kernel_rfl) (by kernel_rfl) (by kernel_rfl) (by rfl) (fun _ _ _ h => h) (Or.inl ⟨by rfl, ?_⟩) (by assumption) ?_
    rotate_left
    · (intro w; go_simp); (first | done | with_reducible rfl)
    try simp only [Act.put, List.setIfInBounds_toArray, List.set_cons_zero, List.set_cons_succ]
    refine wpAnyZ_takeY (i := 11) (oi := { dst := some 15, op := Op.fieldAddr 91 (Operand.tmp 14) 4, type := 0, pos := "ref.go:41", after := #[{ on := 10, ground := Ground.data }], guard := none }) (v := ?_) rfl (by kernel_rfl) (by kernel_rfl) (by kernel_rfl) (by rfl) (fun _ _ _ h => h) (Or.inl ⟨by rfl, ?_⟩) (by assumption) ?_
    rotate_left
    · (intro w; go_simp); (first | done | with_reducible rfl)
    try simp only [Act.put, List.setIfInBounds_toArray, List.set_cons_zero, List.set_cons_succ]
    refine wpAnyZ_take (i := 12) (oi := { dst := some 16, op := Op.load 89 (Operand.tmp 15), type := 89, pos := "ref.go:41", after := #[{ on := 11, ground := Ground.data }], guard := none }) (v := ?_) [15, 16, 17, 18, 19] rfl (by kernel_rfl) (by kernel_rfl) (by kernel_rfl) (by kernel_rfl) (fun _ _ _ h => h) (Or.inl ⟨by rfl, ?_⟩) (by assumption) ?_
    rotate_left
    · (intro w hSw; (try dsimp only at hSw); go_simp); (first | done | with_reducible rfl)
    try simp only [Act.put, List.setIfInBounds_toArray, List.set_cons_zero, List.set_cons_succ]
    refine wpAnyZ_takeY (i := 13) (oi := { dst := some 17, op := Op.move (Operand.tmp 1), type := 3, pos := "ref.go:41", after := #[], guard := none }) (v := ?_) rfl (by kernel_rfl) (by kernel_rfl) (by kernel_rfl) (by rfl) (fun _ _ _ h => h) (Or.inl ⟨by rfl, ?_⟩) (by assumption) ?_
    rotate_left
    · (intro w; go_simp); (first | done | with_reducible rfl)
    try simp only [Act.put, List.setIfInBounds_toArray, List.set_cons_zero, List.set_cons_succ]
    refine wpAnyZ_takeY (i := 14) (oi := { dst := some 18, op := Op.binOp BinOp.add 3 (Operand.tmp 17) (Operand.const (Value.int IntKind.i64 1)) 3, type := 3, pos := "ref.go:41", after := #[{ on := 13, ground := Ground.data }], guard := none }) (v := ?_) rfl (by kernel_rfl) (by kernel_rfl) (by kernel_rfl) (by rfl) (fun _ _ _ h => h) (Or.inl ⟨by rfl, ?_⟩) (by assumption) ?_
    rotate_left
    · (intro w; go_simp); (first | done | with_reducible rfl)
    try simp only [Act.put, List.setIfInBounds_toArray, List.set_cons_zero, List.set_cons_succ]
    refine wpAnyZ_takeY (i := 15) (oi := { dst := some 19, op := Op.slice 89 (Operand.tmp 16) (some (Operand.tmp 18)) none none, type := 89, pos := "ref.go:41", after := #[{ on := 12, ground := Ground.data }, { on := 14, ground := Ground.data }], guard := none }) (v := ?_) rfl (by kernel_rfl) (by kernel_rfl) (by kernel_rfl) (by rfl) (fun _ _ _ h => h) (Or.inl ⟨by rfl, ?_⟩) (by assumption) ?_
    rotate_left
    · (intro w; go_simp); (first | done | with_reducible rfl)
    try simp only [Act.put, List.setIfInBounds_toArray, List.set_cons_zero, List.set_cons_succ]
    refine wpAnyZ_ready (rs := [1]) (by kernel_rfl) (by simp) ?_
    refine AllReadyZ.cons (o := { dst := some 5, op := Op.buildSlice 89 0 #[], type := 89, pos := "ref.go:41", after := #[], guard := none }) rfl (by rfl) (fun K hK => ?_) (AllReadyZ.nil)
    go_simp
    have HOo := Lib.hid (World.ownsRow_made (base := w.heap.size) (e := 95) (size := 3) wd #[] 0 HB.out.size (by unfold maxLen; omega) rfl)
    replace HB := Lib.hid (HB.out.alloc HB.out.size (.cells #[] 95))
    generalize hq1 : wd.heap.size = q1 at *
    generalize hw1 : wd.alloc (.cells #[] 95) = w1 at *
    clear hq1 hw1
    refine hK.out _ _ ?_ (fun hHeld => ?_)
    · exact (HBK.out.below HB.out).cell 4
    clear hK K
    try simp only [Act.put, List.setIfInBounds_toArray, List.set_cons_zero, List.set_cons_succ]
    refine wpAnyZ_ready (rs := [8]) (by kernel_rfl) (by simp) ?_
    refine AllReadyZ.cons (o := { dst := some 12, op := Op.call { callee := Callee.builtin Builtin.append, args := #[Operand.tmp 5, Operand.tmp 11], argTypes := #[89, 89] }, type := 89, pos := "ref.go:41", after := #[{ on := 1, ground := Ground.data }, { on := 7, ground := Ground.data }], guard := none }) rfl (by rfl) (fun K hK => ?_) (AllReadyZ.nil)
    refine step_append_at5 (by rfl) _ _ 89 (by rfl) w.heap.size 95 i0 (.agg #[.string ⟨#[]⟩, .string ⟨#[]⟩, .int .i64 0]) 3 40 Try.underlying89 hi0 hz0 hz1 hz2 rfl (by decide) (.slice (some ⟨q1, 0, none⟩) 0 0) 0 [] (by rfl) HOo.out ⟨g, 0, none⟩ k c.c (flsV (D.L.take k)) (by rfl) (by rw [flsV_len, HE0.out]) (fun j u hu => by rw [Addr.add_lit, Nat.zero_add]; exact HROW.out _ HB.out j u (flsV_pre D.L k (by omega) j u hu)) (flsV_one _) (by unfold maxLen; omega) (by omega) HB.out.size ?_
    intro v8 w8 ho8 hg8 _
    rw [Nat.zero_add, List.nil_append] at ho8
    obtain ⟨a8, c8, rfl⟩ := row_shape5 ho8
    have HO8 := Lib.hid ho8
    replace HB := Lib.hid (HB.out.grown hg8 HB.out.size (fun q hq => (HOo.out.lt q hq).1))
    clear ho8 hg8 HOo
    refine hK.out _ _ ?_ (fun hHeld => ?_)
    · exact (HBK.out.below HB.out).cell 4
    clear hK K
    try simp only [Act.put, List.setIfInBounds_toArray, List.set_cons_zero, List.set_cons_succ]
    refine wpAnyZ_ready (rs := [16]) (by kernel_rfl) (by simp) ?_
    refine AllReadyZ.cons (o := { dst := some 20, op := Op.call { callee := Callee.builtin Builtin.append, args := #[Operand.tmp 12, Operand.tmp 19], argTypes := #[89, 89] }, type := 89, pos := "ref.go:41", after := #[{ on := 8, ground := Ground.data }, { on := 15, ground := Ground.data }, { on := 8, ground := Ground.chain }], guard := none }) rfl (by rfl) (fun K hK => ?_) (AllReadyZ.nil)
    refine step_append_at5 (by rfl) _ _ 89 (by rfl) w.heap.size 95 i0 (.agg #[.string ⟨#[]⟩, .string ⟨#[]⟩, .int .i64 0]) 3 40 Try.underlying89 hi0 hz0 hz1 hz2 rfl (by decide) (.slice a8 k c8) k (flsV (D.L.take k)) (by rfl) HO8.out ⟨g, (k + 1) * 3, none⟩ (D.L.length - (k + 1)) (c.c - (k + 1)) (flsV (D.L.drop (k + 1))) (by rfl) (by rw [flsV_len, List.length_drop]) (fun j u hu => by rw [Addr.add_lit]; exact HROW.out _ HB.out _ u (flsV_suf D.L (k + 1) (by omega) j u hu)) (flsV_one _) (by unfold maxLen; omega) (by omega) HB.out.size ?_
    intro v16 w16 ho16 hg16 _
    replace ho16 : w16.ownsRow w.heap.size 95 3 v16 nL (flsV (D.L.take k ++ D.L.drop (k + 1))) := by rw [flsV_app, HNL.out, HLN.out]; exact ho16
    obtain ⟨a16, c16, rfl⟩ := row_shape5 ho16
    have HO16 := Lib.hid ho16
    replace HB := Lib.hid (HB.out.grown hg16 HB.out.size (fun q hq => (HO8.out.lt q hq).1))
    clear ho16 hg16 HO8
    refine hK.out _ _ ?_ (fun hHeld => ?_)
    · exact (HBK.out.below HB.out).cell 4
    clear hK K
    try simp only [Act.put, List.setIfInBounds_toArray, List.set_cons_zero, List.set_cons_succ]
    refine wpAnyZ_takeY (i := 17) (oi := { dst := some 21, op := Op.nilCheck (Operand.tmp 4), type := 0, pos := "ref.go:41", after := #[{ on := 0, ground := Ground.data }, { on := 0, ground := Ground.phase }, { on := 1, ground := Ground.phase }, { on := 2, ground := Ground.phase }, { on := 3, ground := Ground.phase }, { on := 4, ground := Ground.phase }, { on := 5, ground := Ground.phase }, { on := 6, ground := Ground.phase }, { on := 7, ground := Ground.phase }, { on := 8, ground := Ground.phase }, { on := 9, ground := Ground.phase }, { on := 10, ground := Ground.phase }, { on := 11, ground := Ground.phase }, { on := 12, ground := Ground.phase }, { on := 13, ground := Ground.phase }, { on := 14, ground := Ground.phase }, { on := 15, ground := Ground.phase }, { on := 16, ground := Ground.phase }], guard := none }) (v := ?_) rfl (by kernel_rfl) (by kernel_rfl) (by kernel_rfl) (by rfl) (fun _ _ _ h => h) (Or.inl ⟨by rfl, ?_⟩) (by assumption) ?_
    rotate_left
    · (intro w; go_simp); (first | done | with_reducible rfl)
    try simp only [Act.put, List.setIfInBounds_toArray, List.set_cons_zero, List.set_cons_succ]
    refine wpAnyZ_takeY (i := 18) (oi := { dst := some 22, op := Op.fieldAddr 91 (Operand.tmp 21) 4, type := 0, pos := "ref.go:41", after := #[{ on := 17, ground := Ground.data }, { on := 0, ground := Ground.phase }, { on := 1, ground := Ground.phase }, { on := 2, ground := Ground.phase }, { on := 3, ground := Ground.phase }, { on := 4, ground := Ground.phase }, { on := 5, ground := Ground.phase }, { on := 6, ground := Ground.phase }, { on := 7, ground := Ground.phase }, { on := 8, ground := Ground.phase }, { on := 9, ground := Ground.phase }, { on := 10, ground := Ground.phase }, { on := 11, ground := Ground.phase }, { on := 12, ground := Ground.phase }, { on := 13, ground := Ground.phase }, { on := 14, ground := Ground.phase }, { on := 15, ground := Ground.phase }, { on := 16, ground := Ground.phase }], guard := none }) (v := ?_) rfl (by kernel_rfl) (by kernel_rfl) (by kernel_rfl) (by rfl) (fun _ _ _ h => h) (Or.inl ⟨by rfl, ?_⟩) (by assumption) ?_
    rotate_left
    · (intro w; go_simp); (first | done | with_reducible rfl)
    try simp only [Act.put, List.setIfInBounds_toArray, List.set_cons_zero, List.set_cons_succ]
    refine wpAnyZ_ready (rs := [19]) (by kernel_rfl) (by simp) ?_
    refine AllReadyZ.last (o := { dst := none, op := Op.store 89 (Operand.tmp 22) (Operand.tmp 20), type := 0, pos := "ref.go:41", after := #[{ on := 18, ground := Ground.data }, { on := 16, ground := Ground.data }, { on := 16, ground := Ground.chain }, { on := 0, ground := Ground.phase }, { on := 1, ground := Ground.phase }, { on := 2, ground := Ground.phase }, { on := 3, ground := Ground.phase }, { on := 4, ground := Ground.phase }, { on := 5, ground := Ground.phase }, { on := 6, ground := Ground.phase }, { on := 7, ground := Ground.phase }, { on := 8, ground := Ground.phase }, { on := 9, ground := Ground.phase }, { on := 10, ground := Ground.phase }, { on := 11, ground := Ground.phase }, { on := 12, ground := Ground.phase }, { on := 13, ground := Ground.phase }, { on := 14, ground := Ground.phase }, { on := 15, ground := Ground.phase }, { on := 16, ground := Ground.phase }], guard := none }) rfl (fun K hK => ?_) AllReadyZ.nil
    have f0 := (HBK.out.below HB.out).free 4
    have m0 := (HBK.out.below HB.out).cell 4
    go_simp
    refine hK.out _ _ ?_
    clear hK K
    refine wpAny_done (by kernel_rfl) ?_ _
    go_wp2_with fail
    go_end0
    have := HFIN.out _ HB.out a16 c16 HO16.out
    exact this
  · have HDR := Lib.hid (show D.L.drop (k + 1) = [] from List.drop_eq_nil_of_le (by omega))
    rw [hc] at HBK
    have hfull : D.L.length = k + 1 := by omega
    have b5 : (k : Int) ≤ (k : Int) + 1 := by omega
    refine wp_region_Z (S := fun V => V.cell? ⟨r, 4, none⟩ = some (.slice (some ⟨g, 0, none⟩) D.L.length (k + 1))) 19 (by kernel_rfl) ?_ (fun hHeld => ?_)
    · exact (HBK.out.below (Below.refl _ _).drew).cell 4
    have HB := Lib.hid (Below.refl w.heap.size w).drew
    obtain ⟨wd, hwd⟩ : ∃ x, x = World.drew w := ⟨_, rfl⟩
    rw [← hwd] at HB hHeld ⊢
    clear hwd
    refine wpAnyZ_takeY (i := 0) (oi := { dst := some 4, op := Op.move (Operand.tmp 0), type := 28, pos := "ref.go:41", after := #[], guard := none }) (v := ?_) rfl (by kernel_rfl) (by kernel_rfl) (by kernel_rfl) (by rfl) (fun _ _ _ h => h) (Or.inl ⟨by rfl, ?_⟩) (by assumption) ?_
    rotate_left
    · (intro w; go_simp); (first | done | with_reducible rfl)
    try simp only [Act.put, List.setIfInBounds_toArray, List.set_cons_zero, List.set_cons_succ]
    refine wpAnyZ_takeY (i := 2) (oi := { dst := some 6, op := Op.move (Operand.tmp 0), type := 28, pos := "ref.go:41", after := #[], guard := none }) (v := ?_) rfl (by kernel_rfl) (by kernel_rfl) (by kernel_rfl) (by rfl) (fun _ _ _ h => h) (Or.inl ⟨by rfl, ?_⟩) (by assumption) ?_
    rotate_left
    · (intro w; go_simp); (first | done | with_reducible rfl)
    try simp only [Act.put, List.setIfInBounds_toArray, List.set_cons_zero, List.set_cons_succ]
    refine wpAnyZ_takeY (i := 3) (oi := { dst := some 7, op := Op.nilCheck (Operand.tmp 6), type := 0, pos := "ref.go:41", after := #[{ on := 2, ground := Ground.data }], guard := none }) (v := ?_) rfl (by kernel_rfl) (by kernel_rfl) (by kernel_rfl) (by rfl) (fun _ _ _ h => h) (Or.inl ⟨by rfl, ?_⟩) (by assumption) ?_
    rotate_left
    · (intro w; go_simp); (first | done | with_reducible rfl)
    try simp only [Act.put, List.setIfInBounds_toArray, List.set_cons_zero, List.set_cons_succ]
    refine wpAnyZ_takeY (i := 4) (oi := { dst := some 8, op := Op.fieldAddr 91 (Operand.tmp 7) 4, type := 0, pos := "ref.go:41", after := #[{ on := 3, ground := Ground.data }], guard := none }) (v := ?_) rfl (by kernel_rfl) (by kernel_rfl) (by kernel_rfl) (by rfl) (fun _ _ _ h => h) (Or.inl ⟨by rfl, ?_⟩) (by assumption) ?_
    rotate_left
    · (intro w; go_simp); (first | done | with_reducible rfl)
    try simp only [Act.put, List.setIfInBounds_toArray, List.set_cons_zero, List.set_cons_succ]
    refine wpAnyZ_take (i := 5) (oi := { dst := some 9, op := Op.load 89 (Operand.tmp 8), type := 89, pos := "ref.go:41", after := #[{ on := 4, ground := Ground.data }], guard := none }) (v := ?_) [7, 8, 16, 17, 18, 19] rfl (by kernel_rfl) (by kernel_rfl) (by kernel_rfl) (by kernel_rfl) (fun _ _ _ h => h) (Or.inl ⟨by rfl, ?_⟩) (by assumption) ?_
    rotate_left
    · (intro w hSw; (try dsimp only at hSw); go_simp); (first | done | with_reducible rfl)
    try simp only [Act.put, List.setIfInBounds_toArray, List.set_cons_zero, List.set_cons_succ]
    refine wpAnyZ_takeY (i := 6) (oi := { dst := some 10, op := Op.move (Operand.tmp 1), type := 3, pos := "ref.go:41", after := #[], guard := none }) (v := ?_) rfl (by kernel_rfl) (by kernel_rfl) (by kernel_rfl) (by rfl) (fun _ _ _ h => h) (Or.inl ⟨by rfl, ?_⟩) (by assumption) ?_
    rotate_left
    · (intro w; go_simp); (first | done | with_reducible rfl)
    try simp only [Act.put, List.setIfInBounds_toArray, List.set_cons_zero, List.set_cons_succ]
    refine wpAnyZ_takeY (i := 7) (oi := { dst := some 11, op := Op.slice 89 (Operand.tmp 9) none (some (Operand.tmp 10)) none, type := 89, pos := "ref.go:41", after := #[{ on := 5, ground := Ground.data }, { on := 6, ground := Ground.data }], guard := none }) (v := ?_) rfl (by kernel_rfl) (by kernel_rfl) (by kernel_rfl) (by rfl) (fun _ _ _ h => h) (Or.inl ⟨by rfl, ?_⟩) (by assumption) ?_
    rotate_left
    · (intro w; go_simp); (first | done | with_reducible rfl)
    try simp only [Act.put, List.setIfInBounds_toArray, List.set_cons_zero, List.set_cons_succ]
    refine wpAnyZ_takeY (i := 9) (oi := { dst := some 13, op := Op.move (Operand.tmp 0), type := 28, pos := "ref.go:41", after := #[], guard := none }) (v := ?_) rfl (by kernel_rfl) (by kernel_rfl) (by kernel_rfl) (by rfl) (fun _ _ _ h => h) (Or.inl ⟨by rfl, ?_⟩) (by assumption) ?_
    rotate_left
    · (intro w; go_simp); (first | done | with_reducible rfl)
    try simp only [Act.put, List.setIfInBounds_toArray, List.set_cons_zero, List.set_cons_succ]
    refine wpAnyZ_takeY (i := 10) (oi := { dst := some 14, op := Op.nilCheck (Operand.tmp 13), type := 0, pos := "ref.go:41", after := #[{ on := 9, ground := Ground.data }], guard := none }) (v := ?_) rfl (by kernel_rfl) (by kernel_rfl) (by kernel_rfl) (by rfl) (fun _ _ _ h => h) (Or.inl ⟨by rfl, ?_⟩) (by assumption) ?_
    rotate_left
    · (intro w; go_simp); (first | done | with_reducible rfl)
    try simp only [Act.put, List.setIfInBounds_toArray, List.set_cons_zero, List.set_cons_succ]
    refine wpAnyZ_takeY (i := 11) (oi := { dst := some 15, op := Op.fieldAddr 91 (Operand.tmp 14) 4, type := 0, pos := "ref.go:41", after := #[{ on := 10, ground := Ground.data }], guard := none }) (v := ?_) rfl (by kernel_rfl) (by kernel_rfl) (by kernel_rfl) (by rfl) (fun _ _ _ h => h) (Or.inl ⟨by rfl, ?_⟩) (by assumption) ?_
    rotate_left
    · (intro w; go_simp); (first | done | with_reducible rfl)
    try simp only [Act.put, List.setIfInBounds_toArray, List.set_cons_zero, List.set_cons_succ]
    refine wpAnyZ_take (i := 12) (oi := { dst := some 16, op := Op.load 89 (Operand.tmp 15), type := 89, pos := "ref.go:41", after := #[{ on := 11, ground := Ground.data }], guard := none }) (v := ?_) [15, 16, 17, 18, 19] rfl (by kernel_rfl) (by kernel_rfl) (by kernel_rfl) (by kernel_rfl) (fun _ _ _ h => h) (Or.inl ⟨by rfl, ?_⟩) (by assumption) ?_
    rotate_left
    · (intro w hSw; (try dsimp only at hSw); go_simp); (first | done | with_reducible rfl)
    try simp only [Act.put, List.setIfInBounds_toArray, List.set_cons_zero, List.set_cons_succ]
    refine wpAnyZ_takeY (i := 13) (oi := { dst := some 17, op := Op.move (Operand.tmp 1), type := 3, pos := "ref.go:41", after := #[], guard := none }) (v := ?_) rfl (by kernel_rfl) (by kernel_rfl) (by kernel_rfl) (by rfl) (fun _ _ _ h => h) (Or.inl ⟨by rfl, ?_⟩) (by assumption) ?_
    rotate_left
    · (intro w; go_simp); (first | done | with_reducible rfl)
    try simp only [Act.put, List.setIfInBounds_toArray, List.set_cons_zero, List.set_cons_succ]
    refine wpAnyZ_takeY (i := 14) (oi := { dst := some 18, op := Op.binOp BinOp.add 3 (Operand.tmp 17) (Operand.const (Value.int IntKind.i64 1)) 3, type := 3, pos := "ref.go:41", after := #[{ on := 13, ground := Ground.data }], guard := none }) (v := ?_) rfl (by kernel_rfl) (by kernel_rfl) (by kernel_rfl) (by rfl) (fun _ _ _ h => h) (Or.inl ⟨by rfl, ?_⟩) (by assumption) ?_
    rotate_left
    · (intro w; go_simp); (first | done | with_reducible rfl)
    try simp only [Act.put, List.setIfInBounds_toArray, List.set_cons_zero, List.set_cons_succ]
    refine wpAnyZ_takeY (i := 15) (oi := { dst := some 19, op := Op.slice 89 (Operand.tmp 16) (some (Operand.tmp 18)) none none, type := 89, pos := "ref.go:41", after := #[{ on := 12, ground := Ground.data }, { on := 14, ground := Ground.data }], guard := none }) (v := ?_) rfl (by kernel_rfl) (by kernel_rfl) (by kernel_rfl) (by rfl) (fun _ _ _ h => h) (Or.inl ⟨by rfl, ?_⟩) (by assumption) ?_
    rotate_left
    · (intro w; go_simp); (first | done | with_reducible rfl)
    try simp only [Act.put, List.setIfInBounds_toArray, List.set_cons_zero, List.set_cons_succ]
    refine wpAnyZ_ready (rs := [1]) (by kernel_rfl) (by simp) ?_
    refine AllReadyZ.cons (o := { dst := some 5, op := Op.buildSlice 89 0 #[], type := 89, pos := "ref.go:41", after := #[], guard := none }) rfl (by rfl) (fun K hK => ?_) (AllReadyZ.nil)
    go_simp
    have HOo := Lib.hid (World.ownsRow_made (base := w.heap.size) (e := 95) (size := 3) wd #[] 0 HB.out.size (by unfold maxLen; omega) rfl)
    replace HB := Lib.hid (HB.out.alloc HB.out.size (.cells #[] 95))
    generalize hq1 : wd.heap.size = q1 at *
    generalize hw1 : wd.alloc (.cells #[] 95) = w1 at *
    clear hq1 hw1
    refine hK.out _ _ ?_ (fun hHeld => ?_)
    · exact (HBK.out.below HB.out).cell 4
    clear hK K
    try simp only [Act.put, List.setIfInBounds_toArray, List.set_cons_zero, List.set_cons_succ]
    refine wpAnyZ_ready (rs := [8]) (by kernel_rfl) (by simp) ?_
    refine AllReadyZ.cons (o := { dst := some 12, op := Op.call { callee := Callee.builtin Builtin.append, args := #[Operand.tmp 5, Operand.tmp 11], argTypes := #[89, 89] }, type := 89, pos := "ref.go:41", after := #[{ on := 1, ground := Ground.data }, { on := 7, ground := Ground.data }], guard := none }) rfl (by rfl) (fun K hK => ?_) (AllReadyZ.nil)
    refine step_append_at5 (by rfl) _ _ 89 (by rfl) w.heap.size 95 i0 (.agg #[.string ⟨#[]⟩, .string ⟨#[]⟩, .int .i64 0]) 3 40 Try.underlying89 hi0 hz0 hz1 hz2 rfl (by decide) (.slice (some ⟨q1, 0, none⟩) 0 0) 0 [] (by rfl) HOo.out ⟨g, 0, none⟩ k (k + 1) (flsV (D.L.take k)) (by rfl) (by rw [flsV_len, HE0.out]) (fun j u hu => by rw [Addr.add_lit, Nat.zero_add]; exact HROW.out _ HB.out j u (flsV_pre D.L k (by omega) j u hu)) (flsV_one _) (by unfold maxLen; omega) (by omega) HB.out.size ?_
    intro v8 w8 ho8 hg8 _
    rw [Nat.zero_add, List.nil_append] at ho8
    obtain ⟨a8, c8, rfl⟩ := row_shape5 ho8
    have HO8 := Lib.hid ho8
    replace HB := Lib.hid (HB.out.grown hg8 HB.out.size (fun q hq => (HOo.out.lt q hq).1))
    clear ho8 hg8 HOo
    refine hK.out _ _ ?_ (fun hHeld => ?_)
    · exact (HBK.out.below HB.out).cell 4
    clear hK K
    try simp only [Act.put, List.setIfInBounds_toArray, List.set_cons_zero, List.set_cons_succ]
    refine wpAnyZ_ready (rs := [16]) (by kernel_rfl) (by simp) ?_
    refine AllReadyZ.cons (o := { dst := some 20, op := Op.call { callee := Callee.builtin Builtin.append, args := #[Operand.tmp 12, Operand.tmp 19], argTypes := #[89, 89] }, type := 89, pos := "ref.go:41", after := #[{ on := 8, ground := Ground.data }, { on := 15, ground := Ground.data }, { on := 8, ground := Ground.chain }], guard := none }) rfl (by rfl) (fun K hK => ?_) (AllReadyZ.nil)
    refine step_append_at5 (by rfl) _ _ 89 (by rfl) w.heap.size 95 i0 (.agg #[.string ⟨#[]⟩, .string ⟨#[]⟩, .int .i64 0]) 3 40 Try.underlying89 hi0 hz0 hz1 hz2 rfl (by decide) (.slice a8 k c8) k (flsV (D.L.take k)) (by rfl) HO8.out ⟨g, 0, none⟩ 0 0 [] (by rfl) rfl (fun j u hu => by simp at hu) (fun u hu => by simp at hu) (by unfold maxLen; omega) (by omega) HB.out.size ?_
    intro v16 w16 ho16 hg16 _
    replace ho16 : w16.ownsRow w.heap.size 95 3 v16 nL (flsV (D.L.take k ++ D.L.drop (k + 1))) := by rw [HDR.out, List.append_nil]; rw [List.append_nil] at ho16; rw [show nL = k from by have := HNL.out; have := HLN.out; omega]; exact ho16
    obtain ⟨a16, c16, rfl⟩ := row_shape5 ho16
    have HO16 := Lib.hid ho16
    replace HB := Lib.hid (HB.out.grown hg16 HB.out.size (fun q hq => (HO8.out.lt q hq).1))
    clear ho16 hg16 HO8
    refine hK.out _ _ ?_ (fun hHeld => ?_)
    · exact (HBK.out.below HB.out).cell 4
    clear hK K
    try simp only [Act.put, List.setIfInBounds_toArray, List.set_cons_zero, List.set_cons_succ]
    refine wpAnyZ_takeY (i := 17) (oi := { dst := some 21, op := Op.nilCheck (Operand.tmp 4), type := 0, pos := "ref.go:41", after := #[{ on := 0, ground := Ground.data }, { on := 0, ground := Ground.phase }, { on := 1, ground := Ground.phase }, { on := 2, ground := Ground.phase }, { on := 3, ground := Ground.phase }, { on := 4, ground := Ground.phase }, { on := 5, ground := Ground.phase }, { on := 6, ground := Ground.phase }, { on := 7, ground := Ground.phase }, { on := 8, ground := Ground.phase }, { on := 9, ground := Ground.phase }, { on := 10, ground := Ground.phase }, { on := 11, ground := Ground.phase }, { on := 12, ground := Ground.phase }, { on := 13, ground := Ground.phase }, { on := 14, ground := Ground.phase }, { on := 15, ground := Ground.phase }, { on := 16, ground := Ground.phase }], guard := none }) (v := ?_) rfl (by kernel_rfl) (by kernel_rfl) (by kernel_rfl) (by rfl) (fun _ _ _ h => h) (Or.inl ⟨by rfl, ?_⟩) (by assumption) ?_
    rotate_left
    · (intro w; go_simp); (first | done | with_reducible rfl)
    try simp only [Act.put, List.setIfInBounds_toArray, List.set_cons_zero, List.set_cons_succ]
    refine wpAnyZ_takeY (i := 18) (oi := { dst := some 22, op := Op.fieldAddr 91 (Operand.tmp 21) 4, type := 0, pos := "ref.go:41", after := #[{ on := 17, ground := Ground.data }, { on := 0, ground := Ground.phase }, { on := 1, ground := Ground.phase }, { on := 2, ground := Ground.phase }, { on := 3, ground := Ground.phase }, { on := 4, ground := Ground.phase }, { on := 5, ground := Ground.phase }, { on := 6, ground := Ground.phase }, { on := 7, ground := Ground.phase }, { on := 8, ground := Ground.phase }, { on := 9, ground := Ground.phase }, { on := 10, ground := Ground.phase }, { on := 11, ground := Ground.phase }, { on := 12, ground := Ground.phase }, { on := 13, ground := Ground.phase }, { on := 14, ground := Ground.phase }, { on := 15, ground := Ground.phase }, { on := 16, ground := Ground.phase }], guard := none }) (v := ?_) rfl (by kernel_rfl) (by kernel_rfl) (by kernel_rfl) (by rfl) (fun _ _ _ h => h) (Or.inl ⟨by rfl, ?_⟩) (by assumption) ?_
    rotate_left
    · (intro w; go_simp); (first | done | with_reducible rfl)
    try simp only [Act.put, List.setIfInBounds_toArray, List.set_cons_zero, List.set_cons_succ]
    refine wpAnyZ_ready (rs := [19]) (by kernel_rfl) (by simp) ?_
    refine AllReadyZ.last (o := { dst := none, op := Op.store 89 (Operand.tmp 22) (Operand.tmp 20), type := 0, pos := "ref.go:41", after := #[{ on := 18, ground := Ground.data }, { on := 16, ground := Ground.data }, { on := 16, ground := Ground.chain }, { on := 0, ground := Ground.phase }, { on := 1, ground := Ground.phase }, { on := 2, ground := Ground.phase }, { on := 3, ground := Ground.phase }, { on := 4, ground := Ground.phase }, { on := 5, ground := Ground.phase }, { on := 6, ground := Ground.phase }, { on := 7, ground := Ground.phase }, { on := 8, ground := Ground.phase }, { on := 9, ground := Ground.phase }, { on := 10, ground := Ground.phase }, { on := 11, ground := Ground.phase }, { on := 12, ground := Ground.phase }, { on := 13, ground := Ground.phase }, { on := 14, ground := Ground.phase }, { on := 15, ground := Ground.phase }, { on := 16, ground := Ground.phase }], guard := none }) rfl (fun K hK => ?_) AllReadyZ.nil
    have f0 := (HBK.out.below HB.out).free 4
    have m0 := (HBK.out.below HB.out).cell 4
    go_simp
    refine hK.out _ _ ?_
    clear hK K
    refine wpAny_done (by kernel_rfl) ?_ _
    go_wp2_with fail
    go_end0
    have := HFIN.out _ HB.out a16 c16 HO16.out
    exact this

end Go.Proofs.Ytekmnpmeienhhaa
