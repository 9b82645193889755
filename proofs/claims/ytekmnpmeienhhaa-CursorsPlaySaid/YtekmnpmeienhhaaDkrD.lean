/- Layer 5: the document's disk: lay. -/
import Derived.Test.YtekmnpmeienhhaaDkrC
namespace Go.Proofs.Ytekmnpmeienhhaa
set_option linter.unusedVariables false
open Go Go.RowKit Go.Maps

set_option maxHeartbeats 8000000 in
set_option maxRecDepth 100000 in
theorem rLay5 {B r : Nat} {c : Rc} {D : Dk.St} {w : World} (h : RfIn B r c D w) (hB : B ≤ w.heap.size) (f : Dk.Fl) (hno : Dk.has f.name D.L = false) (hnm : Dk.named f.name = true) (hs : f.safe ≤ f.dat.length) (hlen : D.L.length < 1024) (hz : Dk.size D.L + f.dat.length ≤ 1048576) :
    Calls Try.prog 84 #[.pointer (some ⟨r, 0, none⟩), .agg #[.string (S f.name), .string (S f.dat), .int .i64 f.safe]] w (OpI B r c (.tuple #[]) { D with L := Dk.ins f D.L } w) := by
  obtain ⟨i0, hi0, hz0, hz1, hz2⟩ := info_parts infoFile5
  have hcap := h.cap
  have HLESS := Lib.hid (show ∀ j (hj : j < D.L.length), Op.bytesLess (D.L[j]).name f.name = false → Op.bytesLess f.name (D.L[j]).name = true from fun j hj hl => by
    have hne : (D.L[j]).name ≠ f.name := fun e => by
      have : Dk.has f.name D.L = true := Dk.has_iff.2 ⟨_, List.getElem_mem hj, e⟩
      rw [hno] at this
      cases this
    rw [Dk.less_flip5 _ _ hne, hl]
    rfl)
  obtain ⟨fb, hfb⟩ : ∃ x, x = w.heap.size := ⟨_, rfl⟩
  obtain ⟨W1, hW1⟩ : ∃ x, x = w.alloc (.cells #[.string (S f.name), .string (S f.dat), .int .i64 f.safe] 95) := ⟨_, rfl⟩
  have hb1 : Below w.heap.size w W1 := by rw [hW1]; exact (Below.refl _ _).alloc (Nat.le_refl _) _
  have HFB := Lib.hid (show Bk #[.string (S f.name), .string (S f.dat), .int .i64 f.safe] 95 W1 fb from by rw [hW1, hfb]; exact bk_new _ _ _)
  have HFINS := Lib.hid (fun k (hk : k ≤ D.L.length) (h1 : ∀ j (hj : j < k), Op.bytesLess (D.L[j]'(by omega)).name f.name = true) (h2 : ∀ hk : k < D.L.length, Op.bytesLess (D.L[k]).name f.name = false) w2 (hb : Below W1.heap.size W1 w2) a18 c18 nL (hnL : nL = D.L.length + 1) (ho : w2.ownsRow W1.heap.size 95 3 (.slice a18 nL c18) nL (flsV (D.L.take k ++ f :: D.L.drop k))) =>
    (show OpI B r c (.tuple #[]) { D with L := Dk.ins f D.L } w (.returned (.tuple #[])) (w2.setCell ⟨r, 4, none⟩ (.slice a18 nL c18)) from by
      have e1 := Dk.ins_at5 f D.L k hk h1 (fun hk2 => HLESS.out k hk2 (h2 hk2))
      rw [← e1] at ho
      have e2 : nL = (Dk.ins f D.L).length := by rw [hnL, Dk.len_ins]
      rw [e2] at ho ⊢
      refine h.newrow hB (below_step hb1 hb) a18 c18 _ _ (row_base5 ho hb1.size) ?_ (by rw [Dk.len_ins]; omega) (by rw [Dk.size_ins]; omega)
      have e3 := h.ok.put (f := f) hnm hs
      unfold Dk.put at e3
      rw [Dk.del_none hno] at e3
      exact e3))
  have hr1 := h.row
  have HCA := Lib.hid (show (c.a = none ∧ c.c = 0 ∧ D.L.length = 0) ∨ ∃ g, c.a = some ⟨g, 0, none⟩ from by
    rcases hr1.2 with ⟨e1, e2⟩ | ⟨g, cap', cur, e1, _⟩
    · injection e1 with q1 q2 q3; exact .inl ⟨q1, q3, q2⟩
    · injection e1 with q1 q2 q3; exact .inr ⟨g, q1⟩)
  have HROWG := Lib.hid (fun g (hg : c.a = some ⟨g, 0, none⟩) W' (hW : Below W1.heap.size W1 W') j u (hu : (flsV D.L)[j]? = some u) => ((below_step hb1 hW).cell (p := ⟨g, j, none⟩) (cell_lt5 (h.cellsAt hg j u hu))).trans (h.cellsAt hg j u hu))
  have HBK0 := Lib.hid (show Bk #[.int .i64 D.room, .int .i64 D.starts, .bool (!D.up), .bool D.set.isSome, .slice c.a D.L.length c.c, .int .i64 c.n, .slice c.ka c.ks.length c.kc] 91 W1 r from h.box.below hb1)
  have HROW0 := Lib.hid (row_below5 h.row hb1)
  unfold maxLen at hcap
  clear h hr1 hb1 hno hnm hs hz
  go_enter Try.func84, Try.ntmps84
  go_upto_region 1 with fail
  rw [← hW1, ← hfb]
  clear hW1 hfb
  go_wp2_with fail
  go_loopw [4] (fun v wr => ∃ k : Nat, k ≤ D.L.length ∧ v = .int .i64 k ∧ Hid (∀ j (hj : j < k) (hj2 : j < D.L.length), Op.bytesLess (D.L[j]).name f.name = true) ∧ Hid (Below W1.heap.size W1 wr)) (fun v _ => D.L.length - (intOf v).toNat)
  case atStart => exact ⟨0, Nat.zero_le _, rfl, Lib.hid (fun j hj => by omega), Lib.hid (Below.refl _ _)⟩
  case round =>
    obtain ⟨wz, rfl⟩ : ∃ x, x = wr := ⟨_, rfl⟩
    obtain ⟨k, hk, rfl, HJ, HB⟩ := hrel
    have x4 : wz.cell? ⟨r, 4, none⟩ = some (.slice c.a D.L.length c.c) := (HBK0.out.below HB.out).cell 4
    have y0 : wz.cell? ⟨fb, 0, none⟩ = some (.string (S f.name)) := (HFB.out.below HB.out).cell 0
    have HE0 := Lib.hid (show (D.L.take k).length = k from by rw [List.length_take]; omega)
    obtain ⟨nL, hnL⟩ : ∃ x, x = D.L.length + 1 := ⟨_, rfl⟩
    have HNL := Lib.hid hnL
    have b1 : (0 : Int) ≤ (k : Int) := by omega
    have b2 : (k : Int) ≤ (c.c : Int) := by omega
    have b4 : (k : Int) ≤ (D.L.length : Int) := by omega
    by_cases hlt : k < D.L.length
    · have d1 : decide ((k : Int) < (D.L.length : Int)) = true := by simp; omega
      have d1' : decide (k < D.L.length) = true := by simp; omega
      obtain ⟨g, hg, z0, -, -⟩ := row_file5 (row_below5 HROW0.out HB.out) rfl hlt
      have b3 : (k : Int) < (D.L.length : Int) := by omega
      rw [hg] at x4
      cases hl : Op.bytesLess (D.L[k]).name f.name with
      | true =>
        have HN := Lib.hid (show ∀ j (hj : j < k + 1) (hj2 : j < D.L.length), Op.bytesLess (D.L[j]).name f.name = true from fun j hj hj2 => by
          by_cases e : j = k
          · subst e; exact hl
          · exact HJ.out j (by omega) hj2)
        generalize (D.L[k]).name = u at z0 hl
        go_wp2_with fail
        go_quiet (fail)
        go_wp2_with fail
        go_roundw
        case rel => exact ⟨k + 1, by omega, by go_num, HN, Lib.hid (below_drewN HB.out _)⟩
        case measure => simp [intOf]; omega
      | false =>
        have HFIN := Lib.hid (fun w2 (hb : Below W1.heap.size W1 w2) a18 c18 ho => HFINS.out k hk (fun j hj => HJ.out j hj (by omega)) (fun _ => hl) w2 hb a18 c18 nL hnL ho)
        have HROW := Lib.hid (fun W' hW j u hu => HROWG.out g hg W' hW j u hu)
        have HBK := HBK0
        rw [hg] at HBK
        generalize (D.L[k]).name = u at z0 hl
        clear hnL
        go_wp2_with fail
        go_quiet (fail)
        replace HB := Lib.hid (below_drewN HB.out nq)
        generalize wz.drewN nq = wz at *
        clear x4 y0 z0 d1 d1' hl
        have hc : ¬ c.c = k := by omega
        go_upto_region 4 with fail
        refine wp_region_Z (S := fun V => V.cell? ⟨r, 4, none⟩ = some (.slice (some ⟨g, 0, none⟩) D.L.length c.c) ∧ V.cell? ⟨fb, 0, none⟩ = some (.string (S f.name)) ∧ V.cell? ⟨fb, 1, none⟩ = some (.string (S f.dat)) ∧ V.cell? ⟨fb, 2, none⟩ = some (.int .i64 f.safe)) 21 (by kernel_rfl) ?_ (fun hHeld => ?_)
        · exact ⟨(HBK.out.below HB.out.drew).cell 4, (HFB.out.below HB.out.drew).cell 0, (HFB.out.below HB.out.drew).cell 1, (HFB.out.below HB.out.drew).cell 2⟩
        replace HB := Lib.hid HB.out.drew
        obtain ⟨wd, hwd⟩ : ∃ x, x = World.drew wz := ⟨_, rfl⟩
        rw [← hwd] at HB hHeld ⊢
        clear hwd
        refine wpAnyZ_takeY (i := 0) (oi := { dst := some 27, op := Op.move (Operand.tmp 0), type := 28, pos := "ref.go:50", after := #[], guard := none }) (v := ?_) rfl (by kernel_rfl) (by kernel_rfl) (by kernel_rfl) (by rfl) (fun _ _ _ h => h) (Or.inl ⟨by rfl, ?_⟩) (by assumption) ?_
        rotate_left
        · (intro w; go_simp); (first | done | with_reducible rfl)
        try simp only [Act.put, List.setIfInBounds_toArray, List.set_cons_zero, List.set_cons_succ]
        refine wpAnyZ_takeY (i := 2) (oi := { dst := some 29, op := Op.move (Operand.tmp 0), type := 28, pos := "ref.go:50", after := #[], guard := none }) (v := ?_) rfl (by kernel_rfl) (by kernel_rfl) (by kernel_rfl) (by rfl) (fun _ _ _ h => h) (Or.inl ⟨by rfl, ?_⟩) (by assumption) ?_
        rotate_left
        · (intro w; go_simp); (first | done | with_reducible rfl)
        try simp only [Act.put, List.setIfInBounds_toArray, List.set_cons_zero, List.set_cons_succ]
        refine wpAnyZ_takeY (i := 3) (oi := { dst := some 30, op := Op.nilCheck (Operand.tmp 29), type := 0, pos := "ref.go:50", after := #[{ on := 2, ground := Ground.data }], guard := none }) (v := ?_) rfl (by kernel_rfl) (by kernel_rfl) (by kernel_rfl) (by rfl) (fun _ _ _ h => h) (Or.inl ⟨by rfl, ?_⟩) (by assumption) ?_
        rotate_left
        · (intro w; go_simp); (first | done | with_reducible rfl)
        try simp only [Act.put, List.setIfInBounds_toArray, List.set_cons_zero, List.set_cons_succ]
        refine wpAnyZ_takeY (i := 4) (oi := { dst := some 31, op := Op.fieldAddr 91 (Operand.tmp 30) 4, type := 0, pos := "ref.go:50", after := #[{ on := 3, ground := Ground.data }], guard := none }) (v := ?_) rfl (by kernel_rfl) (by kernel_rfl) (by kernel_rfl) (by rfl) (fun _ _ _ h => h) (Or.inl ⟨by rfl, ?_⟩) (by assumption) ?_
        rotate_left
        · (intro w; go_simp); (first | done | with_reducible rfl)
        try simp only [Act.put, List.setIfInBounds_toArray, List.set_cons_zero, List.set_cons_succ]
        refine wpAnyZ_take (i := 5) (oi := { dst := some 32, op := Op.load 89 (Operand.tmp 31), type := 89, pos := "ref.go:50", after := #[{ on := 4, ground := Ground.data }], guard := none }) (v := ?_) [7, 8, 11, 18, 19, 20, 21] rfl (by kernel_rfl) (by kernel_rfl) (by kernel_rfl) (by kernel_rfl) (fun _ _ _ h => h) (Or.inl ⟨by rfl, ?_⟩) (by assumption) ?_
        rotate_left
        · (intro w hSw; (try dsimp only at hSw); go_simp); (first | done | with_reducible rfl)
        try simp only [Act.put, List.setIfInBounds_toArray, List.set_cons_zero, List.set_cons_succ]
        refine wpAnyZ_takeY (i := 6) (oi := { dst := some 33, op := Op.move (Operand.tmp 4), type := 3, pos := "ref.go:50", after := #[], guard := none }) (v := ?_) rfl (by kernel_rfl) (by kernel_rfl) (by kernel_rfl) (by rfl) (fun _ _ _ h => h) (Or.inl ⟨by rfl, ?_⟩) (by assumption) ?_
        rotate_left
        · (intro w; go_simp); (first | done | with_reducible rfl)
        try simp only [Act.put, List.setIfInBounds_toArray, List.set_cons_zero, List.set_cons_succ]
        refine wpAnyZ_takeY (i := 7) (oi := { dst := some 34, op := Op.slice 89 (Operand.tmp 32) none (some (Operand.tmp 33)) none, type := 89, pos := "ref.go:50", after := #[{ on := 5, ground := Ground.data }, { on := 6, ground := Ground.data }], guard := none }) (v := ?_) rfl (by kernel_rfl) (by kernel_rfl) (by kernel_rfl) (by rfl) (fun _ _ _ h => h) (Or.inl ⟨by rfl, ?_⟩) (by assumption) ?_
        rotate_left
        · (intro w; go_simp); (first | done | with_reducible rfl)
        try simp only [Act.put, List.setIfInBounds_toArray, List.set_cons_zero, List.set_cons_succ]
        refine wpAnyZ_take (i := 9) (oi := { dst := some 36, op := Op.load 95 (Operand.tmp 3), type := 95, pos := "ref.go:50", after := #[], guard := none }) (v := ?_) [10, 11, 18, 19, 20, 21] rfl (by kernel_rfl) (by kernel_rfl) (by kernel_rfl) (by kernel_rfl) (fun _ _ _ h => h) (Or.inl ⟨by rfl, ?_⟩) (by assumption) ?_
        rotate_left
        · (intro w hSw; (try dsimp only at hSw); go_simp); (first | done | with_reducible rfl)
        try simp only [Act.put, List.setIfInBounds_toArray, List.set_cons_zero, List.set_cons_succ]
        refine wpAnyZ_takeY (i := 12) (oi := { dst := some 39, op := Op.move (Operand.tmp 0), type := 28, pos := "ref.go:50", after := #[], guard := none }) (v := ?_) rfl (by kernel_rfl) (by kernel_rfl) (by kernel_rfl) (by rfl) (fun _ _ _ h => h) (Or.inl ⟨by rfl, ?_⟩) (by assumption) ?_
        rotate_left
        · (intro w; go_simp); (first | done | with_reducible rfl)
        try simp only [Act.put, List.setIfInBounds_toArray, List.set_cons_zero, List.set_cons_succ]
        refine wpAnyZ_takeY (i := 13) (oi := { dst := some 40, op := Op.nilCheck (Operand.tmp 39), type := 0, pos := "ref.go:50", after := #[{ on := 12, ground := Ground.data }], guard := none }) (v := ?_) rfl (by kernel_rfl) (by kernel_rfl) (by kernel_rfl) (by rfl) (fun _ _ _ h => h) (Or.inl ⟨by rfl, ?_⟩) (by assumption) ?_
        rotate_left
        · (intro w; go_simp); (first | done | with_reducible rfl)
        try simp only [Act.put, List.setIfInBounds_toArray, List.set_cons_zero, List.set_cons_succ]
        refine wpAnyZ_takeY (i := 14) (oi := { dst := some 41, op := Op.fieldAddr 91 (Operand.tmp 40) 4, type := 0, pos := "ref.go:50", after := #[{ on := 13, ground := Ground.data }], guard := none }) (v := ?_) rfl (by kernel_rfl) (by kernel_rfl) (by kernel_rfl) (by rfl) (fun _ _ _ h => h) (Or.inl ⟨by rfl, ?_⟩) (by assumption) ?_
        rotate_left
        · (intro w; go_simp); (first | done | with_reducible rfl)
        try simp only [Act.put, List.setIfInBounds_toArray, List.set_cons_zero, List.set_cons_succ]
        refine wpAnyZ_take (i := 15) (oi := { dst := some 42, op := Op.load 89 (Operand.tmp 41), type := 89, pos := "ref.go:50", after := #[{ on := 14, ground := Ground.data }], guard := none }) (v := ?_) [17, 18, 19, 20, 21] rfl (by kernel_rfl) (by kernel_rfl) (by kernel_rfl) (by kernel_rfl) (fun _ _ _ h => h) (Or.inl ⟨by rfl, ?_⟩) (by assumption) ?_
        rotate_left
        · (intro w hSw; (try dsimp only at hSw); go_simp); (first | done | with_reducible rfl)
        try simp only [Act.put, List.setIfInBounds_toArray, List.set_cons_zero, List.set_cons_succ]
        refine wpAnyZ_takeY (i := 16) (oi := { dst := some 43, op := Op.move (Operand.tmp 4), type := 3, pos := "ref.go:50", after := #[], guard := none }) (v := ?_) rfl (by kernel_rfl) (by kernel_rfl) (by kernel_rfl) (by rfl) (fun _ _ _ h => h) (Or.inl ⟨by rfl, ?_⟩) (by assumption) ?_
        rotate_left
        · (intro w; go_simp); (first | done | with_reducible rfl)
        try simp only [Act.put, List.setIfInBounds_toArray, List.set_cons_zero, List.set_cons_succ]
        refine wpAnyZ_takeY (i := 17) (oi := { dst := some 44, op := Op.slice 89 (Operand.tmp 42) (some (Operand.tmp 43)) none none, type := 89, pos := "ref.go:50", after := #[{ on := 15, ground := Ground.data }, { on := 16, ground := Ground.data }], guard := none }) (v := ?_) rfl (by kernel_rfl) (by kernel_rfl) (by kernel_rfl) (by rfl) (fun _ _ _ h => h) (Or.inl ⟨by rfl, ?_⟩) (by assumption) ?_
        rotate_left
        · (intro w; go_simp); (first | done | with_reducible rfl)
        try simp only [Act.put, List.setIfInBounds_toArray, List.set_cons_zero, List.set_cons_succ]
        refine wpAnyZ_ready (rs := [1, 10]) (by kernel_rfl) (by simp) ?_
        refine AllReadyZ.cons (o := { dst := some 28, op := Op.buildSlice 89 0 #[], type := 89, pos := "ref.go:50", after := #[], guard := none }) rfl (by rfl) (fun K hK => ?_) (AllReadyZ.cons (o := { dst := some 37, op := Op.buildSlice 89 1 #[(0, Operand.tmp 36)], type := 89, pos := "ref.go:50", after := #[{ on := 9, ground := Ground.data }], guard := none }) rfl (by rfl) (fun K hK => ?_) (AllReadyZ.nil))
        · go_simp
          have HOo := Lib.hid (World.ownsRow_made (base := W1.heap.size) (e := 95) (size := 3) wd #[] 0 HB.out.size (by unfold maxLen; omega) rfl)
          replace HB := Lib.hid (HB.out.alloc HB.out.size (.cells #[] 95))
          generalize hq1 : wd.heap.size = q1 at *
          generalize hw1 : wd.alloc (.cells #[] 95) = w1 at *
          clear hq1 hw1
          refine hK.out _ _ ?_ (fun hHeld => ?_)
          · exact ⟨(HBK.out.below HB.out).cell 4, (HFB.out.below HB.out).cell 0, (HFB.out.below HB.out).cell 1, (HFB.out.below HB.out).cell 2⟩
          clear hK K
          try simp only [Act.put, List.setIfInBounds_toArray, List.set_cons_zero, List.set_cons_succ]
          refine wpAnyZ_ready (rs := [8, 10]) (by kernel_rfl) (by simp) ?_
          refine AllReadyZ.cons (o := { dst := some 35, op := Op.call { callee := Callee.builtin Builtin.append, args := #[Operand.tmp 28, Operand.tmp 34], argTypes := #[89, 89] }, type := 89, pos := "ref.go:50", after := #[{ on := 1, ground := Ground.data }, { on := 7, ground := Ground.data }], guard := none }) rfl (by rfl) (fun K hK => ?_) (AllReadyZ.cons (o := { dst := some 37, op := Op.buildSlice 89 1 #[(0, Operand.tmp 36)], type := 89, pos := "ref.go:50", after := #[{ on := 9, ground := Ground.data }], guard := none }) rfl (by rfl) (fun K hK => ?_) (AllReadyZ.nil))
          · refine step_append_at5 (by rfl) _ _ 89 (by rfl) W1.heap.size 95 i0 (.agg #[.string ⟨#[]⟩, .string ⟨#[]⟩, .int .i64 0]) 3 40 Try.underlying89 hi0 hz0 hz1 hz2 rfl (by decide) (.slice (some ⟨q1, 0, none⟩) 0 0) 0 [] (by rfl) HOo.out ⟨g, 0, none⟩ k c.c (flsV (D.L.take k)) (by rfl) (by rw [flsV_len, HE0.out]) (fun j u hu => by rw [Addr.add_lit, Nat.zero_add]; exact HROW.out _ HB.out j u (flsV_pre D.L k (by omega) j u hu)) (flsV_one _) (by unfold maxLen; omega) (by omega) HB.out.size ?_
            intro v8 w8 ho8 hg8 hat8
            rw [Nat.zero_add, List.nil_append] at ho8
            obtain ⟨a8, c8, rfl⟩ := row_shape5 ho8
            have HO8 := Lib.hid ho8
            replace HB := Lib.hid (HB.out.grown hg8 HB.out.size (fun q hq => (HOo.out.lt q hq).1))
            clear ho8 hg8 hat8 HOo
            refine hK.out _ _ ?_ (fun hHeld => ?_)
            · exact ⟨(HBK.out.below HB.out).cell 4, (HFB.out.below HB.out).cell 0, (HFB.out.below HB.out).cell 1, (HFB.out.below HB.out).cell 2⟩
            clear hK K
            try simp only [Act.put, List.setIfInBounds_toArray, List.set_cons_zero, List.set_cons_succ]
            refine wpAnyZ_ready (rs := [10]) (by kernel_rfl) (by simp) ?_
            refine AllReadyZ.cons (o := { dst := some 37, op := Op.buildSlice 89 1 #[(0, Operand.tmp 36)], type := 89, pos := "ref.go:50", after := #[{ on := 9, ground := Ground.data }], guard := none }) rfl (by rfl) (fun K hK => ?_) (AllReadyZ.nil)
            go_simp
            have HNE := Lib.hid (show ∀ q, (Value.slice a8 k c8).ownBlock = some q → q ≠ w8.heap.size from fun q hq e => by have := (HO8.out.lt q hq).2; omega)
            replace HO8 := Lib.hid (HO8.out.alloc (.cells #[.string (S f.name), .string (S f.dat), .int .i64 f.safe] 95))
            have HY := Lib.hid (show Bk #[.string (S f.name), .string (S f.dat), .int .i64 f.safe] 95 (w8.alloc (.cells #[.string (S f.name), .string (S f.dat), .int .i64 f.safe] 95)) w8.heap.size from bk_new _ _ _)
            replace HB := Lib.hid (HB.out.alloc HB.out.size (.cells #[.string (S f.name), .string (S f.dat), .int .i64 f.safe] 95))
            generalize hq10 : w8.heap.size = q10 at *
            generalize hw10 : w8.alloc (.cells #[.string (S f.name), .string (S f.dat), .int .i64 f.safe] 95) = w10 at *
            clear hq10 hw10
            refine hK.out _ _ ?_ (fun hHeld => ?_)
            · exact ⟨(HBK.out.below HB.out).cell 4, (HFB.out.below HB.out).cell 0, (HFB.out.below HB.out).cell 1, (HFB.out.below HB.out).cell 2⟩
            clear hK K
            try simp only [Act.put, List.setIfInBounds_toArray, List.set_cons_zero, List.set_cons_succ]
            refine wpAnyZ_ready (rs := [11]) (by kernel_rfl) (by simp) ?_
            refine AllReadyZ.cons (o := { dst := some 38, op := Op.call { callee := Callee.builtin Builtin.append, args := #[Operand.tmp 35, Operand.tmp 37], argTypes := #[89, 89] }, type := 89, pos := "ref.go:50", after := #[{ on := 8, ground := Ground.data }, { on := 10, ground := Ground.data }, { on := 8, ground := Ground.chain }], guard := none }) rfl (by rfl) (fun K hK => ?_) (AllReadyZ.nil)
            refine step_append_at5 (by rfl) _ _ 89 (by rfl) W1.heap.size 95 i0 (.agg #[.string ⟨#[]⟩, .string ⟨#[]⟩, .int .i64 0]) 3 40 Try.underlying89 hi0 hz0 hz1 hz2 rfl (by decide) (Value.slice a8 k c8) k (flsV (D.L.take k)) (by rfl) HO8.out ⟨q10, 0, none⟩ 1 1 (fl3 f) (by rfl) rfl (fun j u hu => by rw [Addr.add_lit, Nat.zero_add]; exact (HY.out.cell j).trans (by rw [← hu]; simp [fl3])) (fun u hu => by simp [fl3] at hu; rcases hu with rfl | rfl | rfl <;> rfl) (by unfold maxLen; omega) (by omega) HB.out.size ?_
            intro v11 w11 ho11 hg11 _
            replace ho11 : w11.ownsRow W1.heap.size 95 3 v11 (k + 1) (flsV (D.L.take k ++ [f])) := by rw [flsV_app]; exact ho11
            obtain ⟨a11, c11, rfl⟩ := row_shape5 ho11
            have HO11 := Lib.hid ho11
            replace HB := Lib.hid (HB.out.grown hg11 HB.out.size (fun q hq => (HO8.out.lt q hq).1))
            clear ho11 hg11 HO8 HY HNE
            refine hK.out _ _ ?_ (fun hHeld => ?_)
            · exact ⟨(HBK.out.below HB.out).cell 4, (HFB.out.below HB.out).cell 0, (HFB.out.below HB.out).cell 1, (HFB.out.below HB.out).cell 2⟩
            clear hK K
            try simp only [Act.put, List.setIfInBounds_toArray, List.set_cons_zero, List.set_cons_succ]
            refine wpAnyZ_ready (rs := [18]) (by kernel_rfl) (by simp) ?_
            refine AllReadyZ.cons (o := { dst := some 45, op := Op.call { callee := Callee.builtin Builtin.append, args := #[Operand.tmp 38, Operand.tmp 44], argTypes := #[89, 89] }, type := 89, pos := "ref.go:50", after := #[{ on := 11, ground := Ground.data }, { on := 17, ground := Ground.data }, { on := 11, ground := Ground.chain }], guard := none }) rfl (by rfl) (fun K hK => ?_) (AllReadyZ.nil)
            refine step_append_at5 (by rfl) _ _ 89 (by rfl) W1.heap.size 95 i0 (.agg #[.string ⟨#[]⟩, .string ⟨#[]⟩, .int .i64 0]) 3 40 Try.underlying89 hi0 hz0 hz1 hz2 rfl (by decide) (.slice a11 (k + 1) c11) (k + 1) (flsV (D.L.take k ++ [f])) (by rfl) HO11.out ⟨g, k * 3, none⟩ (D.L.length - k) (c.c - k) (flsV (D.L.drop k)) (by rfl) (by rw [flsV_len, List.length_drop]) (fun j u hu => by rw [Addr.add_lit]; exact HROW.out _ HB.out _ u (flsV_suf D.L k (by omega) j u hu)) (flsV_one _) (by unfold maxLen; omega) (by omega) HB.out.size ?_
            intro v18 w18 ho18 hg18 _
            replace ho18 : w18.ownsRow W1.heap.size 95 3 v18 nL (flsV (D.L.take k ++ f :: D.L.drop k)) := by rw [show D.L.take k ++ f :: D.L.drop k = (D.L.take k ++ [f]) ++ D.L.drop k from by simp, flsV_app, show nL = k + 1 + (D.L.length - k) from by have := HNL.out; omega]; exact ho18
            obtain ⟨a18, c18, rfl⟩ := row_shape5 ho18
            have HO18 := Lib.hid ho18
            replace HB := Lib.hid (HB.out.grown hg18 HB.out.size (fun q hq => (HO11.out.lt q hq).1))
            clear ho18 hg18 HO11
            refine hK.out _ _ ?_ (fun hHeld => ?_)
            · exact ⟨(HBK.out.below HB.out).cell 4, (HFB.out.below HB.out).cell 0, (HFB.out.below HB.out).cell 1, (HFB.out.below HB.out).cell 2⟩
            clear hK K
            try simp only [Act.put, List.setIfInBounds_toArray, List.set_cons_zero, List.set_cons_succ]
            refine wpAnyZ_takeY (i := 19) (oi := { dst := some 46, op := Op.nilCheck (Operand.tmp 27), type := 0, pos := "ref.go:50", after := #[{ on := 0, ground := Ground.data }, { on := 0, ground := Ground.phase }, { on := 1, ground := Ground.phase }, { on := 2, ground := Ground.phase }, { on := 3, ground := Ground.phase }, { on := 4, ground := Ground.phase }, { on := 5, ground := Ground.phase }, { on := 6, ground := Ground.phase }, { on := 7, ground := Ground.phase }, { on := 8, ground := Ground.phase }, { on := 9, ground := Ground.phase }, { on := 10, ground := Ground.phase }, { on := 11, ground := Ground.phase }, { on := 12, ground := Ground.phase }, { on := 13, ground := Ground.phase }, { on := 14, ground := Ground.phase }, { on := 15, ground := Ground.phase }, { on := 16, ground := Ground.phase }, { on := 17, ground := Ground.phase }, { on := 18, ground := Ground.phase }], guard := none }) (v := ?_) rfl (by kernel_rfl) (by kernel_rfl) (by kernel_rfl) (by rfl) (fun _ _ _ h => h) (Or.inl ⟨by rfl, ?_⟩) (by assumption) ?_
            rotate_left
            · (intro w; go_simp); (first | done | with_reducible rfl)
            try simp only [Act.put, List.setIfInBounds_toArray, List.set_cons_zero, List.set_cons_succ]
            refine wpAnyZ_takeY (i := 20) (oi := { dst := some 47, op := Op.fieldAddr 91 (Operand.tmp 46) 4, type := 0, pos := "ref.go:50", after := #[{ on := 19, ground := Ground.data }, { on := 0, ground := Ground.phase }, { on := 1, ground := Ground.phase }, { on := 2, ground := Ground.phase }, { on := 3, ground := Ground.phase }, { on := 4, ground := Ground.phase }, { on := 5, ground := Ground.phase }, { on := 6, ground := Ground.phase }, { on := 7, ground := Ground.phase }, { on := 8, ground := Ground.phase }, { on := 9, ground := Ground.phase }, { on := 10, ground := Ground.phase }, { on := 11, ground := Ground.phase }, { on := 12, ground := Ground.phase }, { on := 13, ground := Ground.phase }, { on := 14, ground := Ground.phase }, { on := 15, ground := Ground.phase }, { on := 16, ground := Ground.phase }, { on := 17, ground := Ground.phase }, { on := 18, ground := Ground.phase }], guard := none }) (v := ?_) rfl (by kernel_rfl) (by kernel_rfl) (by kernel_rfl) (by rfl) (fun _ _ _ h => h) (Or.inl ⟨by rfl, ?_⟩) (by assumption) ?_
            rotate_left
            · (intro w; go_simp); (first | done | with_reducible rfl)
            try simp only [Act.put, List.setIfInBounds_toArray, List.set_cons_zero, List.set_cons_succ]
            refine wpAnyZ_ready (rs := [21]) (by kernel_rfl) (by simp) ?_
            refine AllReadyZ.last (o := { dst := none, op := Op.store 89 (Operand.tmp 47) (Operand.tmp 45), type := 0, pos := "ref.go:50", after := #[{ on := 20, ground := Ground.data }, { on := 18, ground := Ground.data }, { on := 18, ground := Ground.chain }, { on := 0, ground := Ground.phase }, { on := 1, ground := Ground.phase }, { on := 2, ground := Ground.phase }, { on := 3, ground := Ground.phase }, { on := 4, ground := Ground.phase }, { on := 5, ground := Ground.phase }, { on := 6, ground := Ground.phase }, { on := 7, ground := Ground.phase }, { on := 8, ground := Ground.phase }, { on := 9, ground := Ground.phase }, { on := 10, ground := Ground.phase }, { on := 11, ground := Ground.phase }, { on := 12, ground := Ground.phase }, { on := 13, ground := Ground.phase }, { on := 14, ground := Ground.phase }, { on := 15, ground := Ground.phase }, { on := 16, ground := Ground.phase }, { on := 17, ground := Ground.phase }, { on := 18, ground := Ground.phase }], guard := none }) rfl (fun K hK => ?_) AllReadyZ.nil
            have f0 := (HBK.out.below HB.out).free 4
            have m0 := (HBK.out.below HB.out).cell 4
            go_simp
            refine hK.out _ _ ?_
            clear hK K
            refine wpAny_done (by kernel_rfl) ?_ _
            go_wp2_with fail
            go_end0
            exact HFIN.out _ HB.out a18 c18 HO18.out
          · go_simp
            have HNE := Lib.hid (show q1 ≠ w1.heap.size from fun e => by have := (HOo.out.lt q1 rfl).2; omega)
            replace HOo := Lib.hid (HOo.out.alloc (.cells #[.string (S f.name), .string (S f.dat), .int .i64 f.safe] 95))
            have HY := Lib.hid (show Bk #[.string (S f.name), .string (S f.dat), .int .i64 f.safe] 95 (w1.alloc (.cells #[.string (S f.name), .string (S f.dat), .int .i64 f.safe] 95)) w1.heap.size from bk_new _ _ _)
            replace HB := Lib.hid (HB.out.alloc HB.out.size (.cells #[.string (S f.name), .string (S f.dat), .int .i64 f.safe] 95))
            generalize hq10 : w1.heap.size = q10 at *
            generalize hw10 : w1.alloc (.cells #[.string (S f.name), .string (S f.dat), .int .i64 f.safe] 95) = w10 at *
            clear hq10 hw10
            refine hK.out _ _ ?_ (fun hHeld => ?_)
            · exact ⟨(HBK.out.below HB.out).cell 4, (HFB.out.below HB.out).cell 0, (HFB.out.below HB.out).cell 1, (HFB.out.below HB.out).cell 2⟩
            clear hK K
            try simp only [Act.put, List.setIfInBounds_toArray, List.set_cons_zero, List.set_cons_succ]
            refine wpAnyZ_ready (rs := [8]) (by kernel_rfl) (by simp) ?_
            refine AllReadyZ.cons (o := { dst := some 35, op := Op.call { callee := Callee.builtin Builtin.append, args := #[Operand.tmp 28, Operand.tmp 34], argTypes := #[89, 89] }, type := 89, pos := "ref.go:50", after := #[{ on := 1, ground := Ground.data }, { on := 7, ground := Ground.data }], guard := none }) rfl (by rfl) (fun K hK => ?_) (AllReadyZ.nil)
            refine step_append_at5 (by rfl) _ _ 89 (by rfl) W1.heap.size 95 i0 (.agg #[.string ⟨#[]⟩, .string ⟨#[]⟩, .int .i64 0]) 3 40 Try.underlying89 hi0 hz0 hz1 hz2 rfl (by decide) (.slice (some ⟨q1, 0, none⟩) 0 0) 0 [] (by rfl) HOo.out ⟨g, 0, none⟩ k c.c (flsV (D.L.take k)) (by rfl) (by rw [flsV_len, HE0.out]) (fun j u hu => by rw [Addr.add_lit, Nat.zero_add]; exact HROW.out _ HB.out j u (flsV_pre D.L k (by omega) j u hu)) (flsV_one _) (by unfold maxLen; omega) (by omega) HB.out.size ?_
            intro v8 w8 ho8 hg8 hat8
            rw [Nat.zero_add, List.nil_append] at ho8
            obtain ⟨a8, c8, rfl⟩ := row_shape5 ho8
            have HO8 := Lib.hid ho8
            replace HB := Lib.hid (HB.out.grown hg8 HB.out.size (fun q hq => (HOo.out.lt q hq).1))
            have HYL := Lib.hid (show q10 < w10.heap.size from HY.out.lt)
            replace HY := Lib.hid (HY.out.grown hg8 (fun e => HNE.out (by cases e; rfl)))
            replace HNE := Lib.hid (show ∀ q, (Value.slice a8 k c8).ownBlock = some q → q ≠ q10 from fun q hq e => by rcases hat8 with h | h; exact HNE.out (by rw [hq] at h; cases h; exact e); rw [hq] at h; cases h; have := HYL.out; omega)
            clear HYL
            clear ho8 hg8 hat8 HOo
            refine hK.out _ _ ?_ (fun hHeld => ?_)
            · exact ⟨(HBK.out.below HB.out).cell 4, (HFB.out.below HB.out).cell 0, (HFB.out.below HB.out).cell 1, (HFB.out.below HB.out).cell 2⟩
            clear hK K
            try simp only [Act.put, List.setIfInBounds_toArray, List.set_cons_zero, List.set_cons_succ]
            refine wpAnyZ_ready (rs := [11]) (by kernel_rfl) (by simp) ?_
            refine AllReadyZ.cons (o := { dst := some 38, op := Op.call { callee := Callee.builtin Builtin.append, args := #[Operand.tmp 35, Operand.tmp 37], argTypes := #[89, 89] }, type := 89, pos := "ref.go:50", after := #[{ on := 8, ground := Ground.data }, { on := 10, ground := Ground.data }, { on := 8, ground := Ground.chain }], guard := none }) rfl (by rfl) (fun K hK => ?_) (AllReadyZ.nil)
            refine step_append_at5 (by rfl) _ _ 89 (by rfl) W1.heap.size 95 i0 (.agg #[.string ⟨#[]⟩, .string ⟨#[]⟩, .int .i64 0]) 3 40 Try.underlying89 hi0 hz0 hz1 hz2 rfl (by decide) (Value.slice a8 k c8) k (flsV (D.L.take k)) (by rfl) HO8.out ⟨q10, 0, none⟩ 1 1 (fl3 f) (by rfl) rfl (fun j u hu => by rw [Addr.add_lit, Nat.zero_add]; exact (HY.out.cell j).trans (by rw [← hu]; simp [fl3])) (fun u hu => by simp [fl3] at hu; rcases hu with rfl | rfl | rfl <;> rfl) (by unfold maxLen; omega) (by omega) HB.out.size ?_
            intro v11 w11 ho11 hg11 _
            replace ho11 : w11.ownsRow W1.heap.size 95 3 v11 (k + 1) (flsV (D.L.take k ++ [f])) := by rw [flsV_app]; exact ho11
            obtain ⟨a11, c11, rfl⟩ := row_shape5 ho11
            have HO11 := Lib.hid ho11
            replace HB := Lib.hid (HB.out.grown hg11 HB.out.size (fun q hq => (HO8.out.lt q hq).1))
            clear ho11 hg11 HO8 HY HNE
            refine hK.out _ _ ?_ (fun hHeld => ?_)
            · exact ⟨(HBK.out.below HB.out).cell 4, (HFB.out.below HB.out).cell 0, (HFB.out.below HB.out).cell 1, (HFB.out.below HB.out).cell 2⟩
            clear hK K
            try simp only [Act.put, List.setIfInBounds_toArray, List.set_cons_zero, List.set_cons_succ]
            refine wpAnyZ_ready (rs := [18]) (by kernel_rfl) (by simp) ?_
            refine AllReadyZ.cons (o := { dst := some 45, op := Op.call { callee := Callee.builtin Builtin.append, args := #[Operand.tmp 38, Operand.tmp 44], argTypes := #[89, 89] }, type := 89, pos := "ref.go:50", after := #[{ on := 11, ground := Ground.data }, { on := 17, ground := Ground.data }, { on := 11, ground := Ground.chain }], guard := none }) rfl (by rfl) (fun K hK => ?_) (AllReadyZ.nil)
            refine step_append_at5 (by rfl) _ _ 89 (by rfl) W1.heap.size 95 i0 (.agg #[.string ⟨#[]⟩, .string ⟨#[]⟩, .int .i64 0]) 3 40 Try.underlying89 hi0 hz0 hz1 hz2 rfl (by decide) (.slice a11 (k + 1) c11) (k + 1) (flsV (D.L.take k ++ [f])) (by rfl) HO11.out ⟨g, k * 3, none⟩ (D.L.length - k) (c.c - k) (flsV (D.L.drop k)) (by rfl) (by rw [flsV_len, List.length_drop]) (fun j u hu => by rw [Addr.add_lit]; exact HROW.out _ HB.out _ u (flsV_suf D.L k (by omega) j u hu)) (flsV_one _) (by unfold maxLen; omega) (by omega) HB.out.size ?_
            intro v18 w18 ho18 hg18 _
            replace ho18 : w18.ownsRow W1.heap.size 95 3 v18 nL (flsV (D.L.take k ++ f :: D.L.drop k)) := by rw [show D.L.take k ++ f :: D.L.drop k = (D.L.take k ++ [f]) ++ D.L.drop k from by simp, flsV_app, show nL = k + 1 + (D.L.length - k) from by have := HNL.out; omega]; exact ho18
            obtain ⟨a18, c18, rfl⟩ := row_shape5 ho18
            have HO18 := Lib.hid ho18
            replace HB := Lib.hid (HB.out.grown hg18 HB.out.size (fun q hq => (HO11.out.lt q hq).1))
            clear ho18 hg18 HO11
            refine hK.out _ _ ?_ (fun hHeld => ?_)
            · exact ⟨(HBK.out.below HB.out).cell 4, (HFB.out.below HB.out).cell 0, (HFB.out.below HB.out).cell 1, (HFB.out.below HB.out).cell 2⟩
            clear hK K
            try simp only [Act.put, List.setIfInBounds_toArray, List.set_cons_zero, List.set_cons_succ]
            refine wpAnyZ_takeY (i := 19) (oi := { dst := some 46, op := Op.nilCheck (Operand.tmp 27), type := 0, pos := "ref.go:50", after := #[{ on := 0, ground := Ground.data }, { on := 0, ground := Ground.phase }, { on := 1, ground := Ground.phase }, { on := 2, ground := Ground.phase }, { on := 3, ground := Ground.phase }, { on := 4, ground := Ground.phase }, { on := 5, ground := Ground.phase }, { on := 6, ground := Ground.phase }, { on := 7, ground := Ground.phase }, { on := 8, ground := Ground.phase }, { on := 9, ground := Ground.phase }, { on := 10, ground := Ground.phase }, { on := 11, ground := Ground.phase }, { on := 12, ground := Ground.phase }, { on := 13, ground := Ground.phase }, { on := 14, ground := Ground.phase }, { on := 15, ground := Ground.phase }, { on := 16, ground := Ground.phase }, { on := 17, ground := Ground.phase }, { on := 18, ground := Ground.phase }], guard := none }) (v := ?_) rfl (by kernel_rfl) (by kernel_rfl) (by kernel_rfl) (by rfl) (fun _ _ _ h => h) (Or.inl ⟨by rfl, ?_⟩) (by assumption) ?_
            rotate_left
            · (intro w; go_simp); (first | done | with_reducible rfl)
            try simp only [Act.put, List.setIfInBounds_toArray, List.set_cons_zero, List.set_cons_succ]
            refine wpAnyZ_takeY (i := 20) (oi := { dst := some 47, op := Op.fieldAddr 91 (Operand.tmp 46) 4, type := 0, pos := "ref.go:50", after := #[{ on := 19, ground := Ground.data }, { on := 0, ground := Ground.phase }, { on := 1, ground := Ground.phase }, { on := 2, ground := Ground.phase }, { on := 3, ground := Ground.phase }, { on := 4, ground := Ground.phase }, { on := 5, ground := Ground.phase }, { on := 6, ground := Ground.phase }, { on := 7, ground := Ground.phase }, { on := 8, ground := Ground.phase }, { on := 9, ground := Ground.phase }, { on := 10, ground := Ground.phase }, { on := 11, ground := Ground.phase }, { on := 12, ground := Ground.phase }, { on := 13, ground := Ground.phase }, { on := 14, ground := Ground.phase }, { on := 15, ground := Ground.phase }, { on := 16, ground := Ground.phase }, { on := 17, ground := Ground.phase }, { on := 18, ground := Ground.phase }], guard := none }) (v := ?_) rfl (by kernel_rfl) (by kernel_rfl) (by kernel_rfl) (by rfl) (fun _ _ _ h => h) (Or.inl ⟨by rfl, ?_⟩) (by assumption) ?_
            rotate_left
            · (intro w; go_simp); (first | done | with_reducible rfl)
            try simp only [Act.put, List.setIfInBounds_toArray, List.set_cons_zero, List.set_cons_succ]
            refine wpAnyZ_ready (rs := [21]) (by kernel_rfl) (by simp) ?_
            refine AllReadyZ.last (o := { dst := none, op := Op.store 89 (Operand.tmp 47) (Operand.tmp 45), type := 0, pos := "ref.go:50", after := #[{ on := 20, ground := Ground.data }, { on := 18, ground := Ground.data }, { on := 18, ground := Ground.chain }, { on := 0, ground := Ground.phase }, { on := 1, ground := Ground.phase }, { on := 2, ground := Ground.phase }, { on := 3, ground := Ground.phase }, { on := 4, ground := Ground.phase }, { on := 5, ground := Ground.phase }, { on := 6, ground := Ground.phase }, { on := 7, ground := Ground.phase }, { on := 8, ground := Ground.phase }, { on := 9, ground := Ground.phase }, { on := 10, ground := Ground.phase }, { on := 11, ground := Ground.phase }, { on := 12, ground := Ground.phase }, { on := 13, ground := Ground.phase }, { on := 14, ground := Ground.phase }, { on := 15, ground := Ground.phase }, { on := 16, ground := Ground.phase }, { on := 17, ground := Ground.phase }, { on := 18, ground := Ground.phase }], guard := none }) rfl (fun K hK => ?_) AllReadyZ.nil
            have f0 := (HBK.out.below HB.out).free 4
            have m0 := (HBK.out.below HB.out).cell 4
            go_simp
            refine hK.out _ _ ?_
            clear hK K
            refine wpAny_done (by kernel_rfl) ?_ _
            go_wp2_with fail
            go_end0
            exact HFIN.out _ HB.out a18 c18 HO18.out
        · go_simp
          have HY := Lib.hid (show Bk #[.string (S f.name), .string (S f.dat), .int .i64 f.safe] 95 (wd.alloc (.cells #[.string (S f.name), .string (S f.dat), .int .i64 f.safe] 95)) wd.heap.size from bk_new _ _ _)
          replace HB := Lib.hid (HB.out.alloc HB.out.size (.cells #[.string (S f.name), .string (S f.dat), .int .i64 f.safe] 95))
          generalize hq10 : wd.heap.size = q10 at *
          generalize hw10 : wd.alloc (.cells #[.string (S f.name), .string (S f.dat), .int .i64 f.safe] 95) = w10 at *
          clear hq10 hw10
          refine hK.out _ _ ?_ (fun hHeld => ?_)
          · exact ⟨(HBK.out.below HB.out).cell 4, (HFB.out.below HB.out).cell 0, (HFB.out.below HB.out).cell 1, (HFB.out.below HB.out).cell 2⟩
          clear hK K
          try simp only [Act.put, List.setIfInBounds_toArray, List.set_cons_zero, List.set_cons_succ]
          refine wpAnyZ_ready (rs := [1]) (by kernel_rfl) (by simp) ?_
          refine AllReadyZ.cons (o := { dst := some 28, op := Op.buildSlice 89 0 #[], type := 89, pos := "ref.go:50", after := #[], guard := none }) rfl (by rfl) (fun K hK => ?_) (AllReadyZ.nil)
          go_simp
          have HOo := Lib.hid (World.ownsRow_made (base := W1.heap.size) (e := 95) (size := 3) w10 #[] 0 HB.out.size (by unfold maxLen; omega) rfl)
          replace HB := Lib.hid (HB.out.alloc HB.out.size (.cells #[] 95))
          have HNE := Lib.hid (show w10.heap.size ≠ q10 from fun e => by have := HY.out.lt; omega)
          replace HY := Lib.hid (HY.out.more (.cells #[] 95))
          generalize hq1 : w10.heap.size = q1 at *
          generalize hw1 : w10.alloc (.cells #[] 95) = w1 at *
          clear hq1 hw1
          refine hK.out _ _ ?_ (fun hHeld => ?_)
          · exact ⟨(HBK.out.below HB.out).cell 4, (HFB.out.below HB.out).cell 0, (HFB.out.below HB.out).cell 1, (HFB.out.below HB.out).cell 2⟩
          clear hK K
          try simp only [Act.put, List.setIfInBounds_toArray, List.set_cons_zero, List.set_cons_succ]
          refine wpAnyZ_ready (rs := [8]) (by kernel_rfl) (by simp) ?_
          refine AllReadyZ.cons (o := { dst := some 35, op := Op.call { callee := Callee.builtin Builtin.append, args := #[Operand.tmp 28, Operand.tmp 34], argTypes := #[89, 89] }, type := 89, pos := "ref.go:50", after := #[{ on := 1, ground := Ground.data }, { on := 7, ground := Ground.data }], guard := none }) rfl (by rfl) (fun K hK => ?_) (AllReadyZ.nil)
          refine step_append_at5 (by rfl) _ _ 89 (by rfl) W1.heap.size 95 i0 (.agg #[.string ⟨#[]⟩, .string ⟨#[]⟩, .int .i64 0]) 3 40 Try.underlying89 hi0 hz0 hz1 hz2 rfl (by decide) (.slice (some ⟨q1, 0, none⟩) 0 0) 0 [] (by rfl) HOo.out ⟨g, 0, none⟩ k c.c (flsV (D.L.take k)) (by rfl) (by rw [flsV_len, HE0.out]) (fun j u hu => by rw [Addr.add_lit, Nat.zero_add]; exact HROW.out _ HB.out j u (flsV_pre D.L k (by omega) j u hu)) (flsV_one _) (by unfold maxLen; omega) (by omega) HB.out.size ?_
          intro v8 w8 ho8 hg8 hat8
          rw [Nat.zero_add, List.nil_append] at ho8
          obtain ⟨a8, c8, rfl⟩ := row_shape5 ho8
          have HO8 := Lib.hid ho8
          replace HB := Lib.hid (HB.out.grown hg8 HB.out.size (fun q hq => (HOo.out.lt q hq).1))
          have HYL := Lib.hid (show q10 < w1.heap.size from HY.out.lt)
          replace HY := Lib.hid (HY.out.grown hg8 (fun e => HNE.out (by cases e; rfl)))
          replace HNE := Lib.hid (show ∀ q, (Value.slice a8 k c8).ownBlock = some q → q ≠ q10 from fun q hq e => by rcases hat8 with h | h; exact HNE.out (by rw [hq] at h; cases h; exact e); rw [hq] at h; cases h; have := HYL.out; omega)
          clear HYL
          clear ho8 hg8 hat8 HOo
          refine hK.out _ _ ?_ (fun hHeld => ?_)
          · exact ⟨(HBK.out.below HB.out).cell 4, (HFB.out.below HB.out).cell 0, (HFB.out.below HB.out).cell 1, (HFB.out.below HB.out).cell 2⟩
          clear hK K
          try simp only [Act.put, List.setIfInBounds_toArray, List.set_cons_zero, List.set_cons_succ]
          refine wpAnyZ_ready (rs := [11]) (by kernel_rfl) (by simp) ?_
          refine AllReadyZ.cons (o := { dst := some 38, op := Op.call { callee := Callee.builtin Builtin.append, args := #[Operand.tmp 35, Operand.tmp 37], argTypes := #[89, 89] }, type := 89, pos := "ref.go:50", after := #[{ on := 8, ground := Ground.data }, { on := 10, ground := Ground.data }, { on := 8, ground := Ground.chain }], guard := none }) rfl (by rfl) (fun K hK => ?_) (AllReadyZ.nil)
          refine step_append_at5 (by rfl) _ _ 89 (by rfl) W1.heap.size 95 i0 (.agg #[.string ⟨#[]⟩, .string ⟨#[]⟩, .int .i64 0]) 3 40 Try.underlying89 hi0 hz0 hz1 hz2 rfl (by decide) (Value.slice a8 k c8) k (flsV (D.L.take k)) (by rfl) HO8.out ⟨q10, 0, none⟩ 1 1 (fl3 f) (by rfl) rfl (fun j u hu => by rw [Addr.add_lit, Nat.zero_add]; exact (HY.out.cell j).trans (by rw [← hu]; simp [fl3])) (fun u hu => by simp [fl3] at hu; rcases hu with rfl | rfl | rfl <;> rfl) (by unfold maxLen; omega) (by omega) HB.out.size ?_
          intro v11 w11 ho11 hg11 _
          replace ho11 : w11.ownsRow W1.heap.size 95 3 v11 (k + 1) (flsV (D.L.take k ++ [f])) := by rw [flsV_app]; exact ho11
          obtain ⟨a11, c11, rfl⟩ := row_shape5 ho11
          have HO11 := Lib.hid ho11
          replace HB := Lib.hid (HB.out.grown hg11 HB.out.size (fun q hq => (HO8.out.lt q hq).1))
          clear ho11 hg11 HO8 HY HNE
          refine hK.out _ _ ?_ (fun hHeld => ?_)
          · exact ⟨(HBK.out.below HB.out).cell 4, (HFB.out.below HB.out).cell 0, (HFB.out.below HB.out).cell 1, (HFB.out.below HB.out).cell 2⟩
          clear hK K
          try simp only [Act.put, List.setIfInBounds_toArray, List.set_cons_zero, List.set_cons_succ]
          refine wpAnyZ_ready (rs := [18]) (by kernel_rfl) (by simp) ?_
          refine AllReadyZ.cons (o := { dst := some 45, op := Op.call { callee := Callee.builtin Builtin.append, args := #[Operand.tmp 38, Operand.tmp 44], argTypes := #[89, 89] }, type := 89, pos := "ref.go:50", after := #[{ on := 11, ground := Ground.data }, { on := 17, ground := Ground.data }, { on := 11, ground := Ground.chain }], guard := none }) rfl (by rfl) (fun K hK => ?_) (AllReadyZ.nil)
          refine step_append_at5 (by rfl) _ _ 89 (by rfl) W1.heap.size 95 i0 (.agg #[.string ⟨#[]⟩, .string ⟨#[]⟩, .int .i64 0]) 3 40 Try.underlying89 hi0 hz0 hz1 hz2 rfl (by decide) (.slice a11 (k + 1) c11) (k + 1) (flsV (D.L.take k ++ [f])) (by rfl) HO11.out ⟨g, k * 3, none⟩ (D.L.length - k) (c.c - k) (flsV (D.L.drop k)) (by rfl) (by rw [flsV_len, List.length_drop]) (fun j u hu => by rw [Addr.add_lit]; exact HROW.out _ HB.out _ u (flsV_suf D.L k (by omega) j u hu)) (flsV_one _) (by unfold maxLen; omega) (by omega) HB.out.size ?_
          intro v18 w18 ho18 hg18 _
          replace ho18 : w18.ownsRow W1.heap.size 95 3 v18 nL (flsV (D.L.take k ++ f :: D.L.drop k)) := by rw [show D.L.take k ++ f :: D.L.drop k = (D.L.take k ++ [f]) ++ D.L.drop k from by simp, flsV_app, show nL = k + 1 + (D.L.length - k) from by have := HNL.out; omega]; exact ho18
          obtain ⟨a18, c18, rfl⟩ := row_shape5 ho18
          have HO18 := Lib.hid ho18
          replace HB := Lib.hid (HB.out.grown hg18 HB.out.size (fun q hq => (HO11.out.lt q hq).1))
          clear ho18 hg18 HO11
          refine hK.out _ _ ?_ (fun hHeld => ?_)
          · exact ⟨(HBK.out.below HB.out).cell 4, (HFB.out.below HB.out).cell 0, (HFB.out.below HB.out).cell 1, (HFB.out.below HB.out).cell 2⟩
          clear hK K
          try simp only [Act.put, List.setIfInBounds_toArray, List.set_cons_zero, List.set_cons_succ]
          refine wpAnyZ_takeY (i := 19) (oi := { dst := some 46, op := Op.nilCheck (Operand.tmp 27), type := 0, pos := "ref.go:50", after := #[{ on := 0, ground := Ground.data }, { on := 0, ground := Ground.phase }, { on := 1, ground := Ground.phase }, { on := 2, ground := Ground.phase }, { on := 3, ground := Ground.phase }, { on := 4, ground := Ground.phase }, { on := 5, ground := Ground.phase }, { on := 6, ground := Ground.phase }, { on := 7, ground := Ground.phase }, { on := 8, ground := Ground.phase }, { on := 9, ground := Ground.phase }, { on := 10, ground := Ground.phase }, { on := 11, ground := Ground.phase }, { on := 12, ground := Ground.phase }, { on := 13, ground := Ground.phase }, { on := 14, ground := Ground.phase }, { on := 15, ground := Ground.phase }, { on := 16, ground := Ground.phase }, { on := 17, ground := Ground.phase }, { on := 18, ground := Ground.phase }], guard := none }) (v := ?_) rfl (by kernel_rfl) (by kernel_rfl) (by kernel_rfl) (by rfl) (fun _ _ _ h => h) (Or.inl ⟨by rfl, ?_⟩) (by assumption) ?_
          rotate_left
          · (intro w; go_simp); (first | done | with_reducible rfl)
          try simp only [Act.put, List.setIfInBounds_toArray, List.set_cons_zero, List.set_cons_succ]
          refine wpAnyZ_takeY (i := 20) (oi := { dst := some 47, op := Op.fieldAddr 91 (Operand.tmp 46) 4, type := 0, pos := "ref.go:50", after := #[{ on := 19, ground := Ground.data }, { on := 0, ground := Ground.phase }, { on := 1, ground := Ground.phase }, { on := 2, ground := Ground.phase }, { on := 3, ground := Ground.phase }, { on := 4, ground := Ground.phase }, { on := 5, ground := Ground.phase }, { on := 6, ground := Ground.phase }, { on := 7, ground := Ground.phase }, { on := 8, ground := Ground.phase }, { on := 9, ground := Ground.phase }, { on := 10, ground := Ground.phase }, { on := 11, ground := Ground.phase }, { on := 12, ground := Ground.phase }, { on := 13, ground := Ground.phase }, { on := 14, ground := Ground.phase }, { on := 15, ground := Ground.phase }, { on := 16, ground := Ground.phase }, { on := 17, ground := Ground.phase }, { on := 18, ground := Ground.phase }], guard := none }) (v := ?_) rfl (by kernel_rfl) (by kernel_rfl) (by kernel_rfl) (by rfl) (fun _ _ _ h => h) (Or.inl ⟨by rfl, ?_⟩) (by assumption) ?_
          rotate_left
          · (intro w; go_simp); (first | done | with_reducible rfl)
          try simp only [Act.put, List.setIfInBounds_toArray, List.set_cons_zero, List.set_cons_succ]
          refine wpAnyZ_ready (rs := [21]) (by kernel_rfl) (by simp) ?_
          refine AllReadyZ.last (o := { dst := none, op := Op.store 89 (Operand.tmp 47) (Operand.tmp 45), type := 0, pos := "ref.go:50", after := #[{ on := 20, ground := Ground.data }, { on := 18, ground := Ground.data }, { on := 18, ground := Ground.chain }, { on := 0, ground := Ground.phase }, { on := 1, ground := Ground.phase }, { on := 2, ground := Ground.phase }, { on := 3, ground := Ground.phase }, { on := 4, ground := Ground.phase }, { on := 5, ground := Ground.phase }, { on := 6, ground := Ground.phase }, { on := 7, ground := Ground.phase }, { on := 8, ground := Ground.phase }, { on := 9, ground := Ground.phase }, { on := 10, ground := Ground.phase }, { on := 11, ground := Ground.phase }, { on := 12, ground := Ground.phase }, { on := 13, ground := Ground.phase }, { on := 14, ground := Ground.phase }, { on := 15, ground := Ground.phase }, { on := 16, ground := Ground.phase }, { on := 17, ground := Ground.phase }, { on := 18, ground := Ground.phase }], guard := none }) rfl (fun K hK => ?_) AllReadyZ.nil
          have f0 := (HBK.out.below HB.out).free 4
          have m0 := (HBK.out.below HB.out).cell 4
          go_simp
          refine hK.out _ _ ?_
          clear hK K
          refine wpAny_done (by kernel_rfl) ?_ _
          go_wp2_with fail
          go_end0
          exact HFIN.out _ HB.out a18 c18 HO18.out
    · have d1 : decide ((k : Int) < (D.L.length : Int)) = false := by simp; omega
      have d1' : decide (k < D.L.length) = false := by simp; omega
      have HFIN := Lib.hid (fun w2 (hb : Below W1.heap.size W1 w2) a18 c18 ho => HFINS.out k hk (fun j hj => HJ.out j hj (by omega)) (fun h => absurd h hlt) w2 hb a18 c18 nL hnL ho)
      have HDR := Lib.hid (show D.L.drop k = [] from List.drop_eq_nil_of_le (by omega))
      clear hnL
      go_wp2_with fail
      go_quiet (fail)
      replace HB := Lib.hid (below_drewN HB.out nq)
      generalize wz.drewN nq = wz at *
      clear x4 y0 d1 d1'
      rcases HCA.out with ⟨ha, hc0, hl0⟩ | ⟨g, hg⟩
      · have hk0 : k = 0 := by omega
        have HBK := HBK0
        rw [ha, hc0, hl0] at HBK
        go_upto_region 4 with fail
        refine wp_region_Z (S := fun V => V.cell? ⟨r, 4, none⟩ = some (.slice none 0 0) ∧ V.cell? ⟨fb, 0, none⟩ = some (.string (S f.name)) ∧ V.cell? ⟨fb, 1, none⟩ = some (.string (S f.dat)) ∧ V.cell? ⟨fb, 2, none⟩ = some (.int .i64 f.safe)) 21 (by kernel_rfl) ?_ (fun hHeld => ?_)
        · exact ⟨(HBK.out.below HB.out.drew).cell 4, (HFB.out.below HB.out.drew).cell 0, (HFB.out.below HB.out.drew).cell 1, (HFB.out.below HB.out.drew).cell 2⟩
        replace HB := Lib.hid HB.out.drew
        obtain ⟨wd, hwd⟩ : ∃ x, x = World.drew wz := ⟨_, rfl⟩
        rw [← hwd] at HB hHeld ⊢
        clear hwd
        refine wpAnyZ_takeY (i := 0) (oi := { dst := some 27, op := Op.move (Operand.tmp 0), type := 28, pos := "ref.go:50", after := #[], guard := none }) (v := ?_) rfl (by kernel_rfl) (by kernel_rfl) (by kernel_rfl) (by rfl) (fun _ _ _ h => h) (Or.inl ⟨by rfl, ?_⟩) (by assumption) ?_
        rotate_left
        · (intro w; go_simp); (first | done | with_reducible rfl)
        try simp only [Act.put, List.setIfInBounds_toArray, List.set_cons_zero, List.set_cons_succ]
        refine wpAnyZ_takeY (i := 2) (oi := { dst := some 29, op := Op.move (Operand.tmp 0), type := 28, pos := "ref.go:50", after := #[], guard := none }) (v := ?_) rfl (by kernel_rfl) (by kernel_rfl) (by kernel_rfl) (by rfl) (fun _ _ _ h => h) (Or.inl ⟨by rfl, ?_⟩) (by assumption) ?_
        rotate_left
        · (intro w; go_simp); (first | done | with_reducible rfl)
        try simp only [Act.put, List.setIfInBounds_toArray, List.set_cons_zero, List.set_cons_succ]
        refine wpAnyZ_takeY (i := 3) (oi := { dst := some 30, op := Op.nilCheck (Operand.tmp 29), type := 0, pos := "ref.go:50", after := #[{ on := 2, ground := Ground.data }], guard := none }) (v := ?_) rfl (by kernel_rfl) (by kernel_rfl) (by kernel_rfl) (by rfl) (fun _ _ _ h => h) (Or.inl ⟨by rfl, ?_⟩) (by assumption) ?_
        rotate_left
        · (intro w; go_simp); (first | done | with_reducible rfl)
        try simp only [Act.put, List.setIfInBounds_toArray, List.set_cons_zero, List.set_cons_succ]
        refine wpAnyZ_takeY (i := 4) (oi := { dst := some 31, op := Op.fieldAddr 91 (Operand.tmp 30) 4, type := 0, pos := "ref.go:50", after := #[{ on := 3, ground := Ground.data }], guard := none }) (v := ?_) rfl (by kernel_rfl) (by kernel_rfl) (by kernel_rfl) (by rfl) (fun _ _ _ h => h) (Or.inl ⟨by rfl, ?_⟩) (by assumption) ?_
        rotate_left
        · (intro w; go_simp); (first | done | with_reducible rfl)
        try simp only [Act.put, List.setIfInBounds_toArray, List.set_cons_zero, List.set_cons_succ]
        refine wpAnyZ_take (i := 5) (oi := { dst := some 32, op := Op.load 89 (Operand.tmp 31), type := 89, pos := "ref.go:50", after := #[{ on := 4, ground := Ground.data }], guard := none }) (v := ?_) [7, 8, 11, 18, 19, 20, 21] rfl (by kernel_rfl) (by kernel_rfl) (by kernel_rfl) (by kernel_rfl) (fun _ _ _ h => h) (Or.inl ⟨by rfl, ?_⟩) (by assumption) ?_
        rotate_left
        · (intro w hSw; (try dsimp only at hSw); go_simp); (first | done | with_reducible rfl)
        try simp only [Act.put, List.setIfInBounds_toArray, List.set_cons_zero, List.set_cons_succ]
        refine wpAnyZ_takeY (i := 6) (oi := { dst := some 33, op := Op.move (Operand.tmp 4), type := 3, pos := "ref.go:50", after := #[], guard := none }) (v := ?_) rfl (by kernel_rfl) (by kernel_rfl) (by kernel_rfl) (by rfl) (fun _ _ _ h => h) (Or.inl ⟨by rfl, ?_⟩) (by assumption) ?_
        rotate_left
        · (intro w; go_simp); (first | done | with_reducible rfl)
        try simp only [Act.put, List.setIfInBounds_toArray, List.set_cons_zero, List.set_cons_succ]
        refine wpAnyZ_takeY (i := 7) (oi := { dst := some 34, op := Op.slice 89 (Operand.tmp 32) none (some (Operand.tmp 33)) none, type := 89, pos := "ref.go:50", after := #[{ on := 5, ground := Ground.data }, { on := 6, ground := Ground.data }], guard := none }) (v := ?_) rfl (by kernel_rfl) (by kernel_rfl) (by kernel_rfl) (by rfl) (fun _ _ _ h => h) (Or.inl ⟨by rfl, ?_⟩) (by assumption) ?_
        rotate_left
        · (intro w; go_simp); (first | done | with_reducible rfl)
        try simp only [Act.put, List.setIfInBounds_toArray, List.set_cons_zero, List.set_cons_succ]
        refine wpAnyZ_take (i := 9) (oi := { dst := some 36, op := Op.load 95 (Operand.tmp 3), type := 95, pos := "ref.go:50", after := #[], guard := none }) (v := ?_) [10, 11, 18, 19, 20, 21] rfl (by kernel_rfl) (by kernel_rfl) (by kernel_rfl) (by kernel_rfl) (fun _ _ _ h => h) (Or.inl ⟨by rfl, ?_⟩) (by assumption) ?_
        rotate_left
        · (intro w hSw; (try dsimp only at hSw); go_simp); (first | done | with_reducible rfl)
        try simp only [Act.put, List.setIfInBounds_toArray, List.set_cons_zero, List.set_cons_succ]
        refine wpAnyZ_takeY (i := 12) (oi := { dst := some 39, op := Op.move (Operand.tmp 0), type := 28, pos := "ref.go:50", after := #[], guard := none }) (v := ?_) rfl (by kernel_rfl) (by kernel_rfl) (by kernel_rfl) (by rfl) (fun _ _ _ h => h) (Or.inl ⟨by rfl, ?_⟩) (by assumption) ?_
        rotate_left
        · (intro w; go_simp); (first | done | with_reducible rfl)
        try simp only [Act.put, List.setIfInBounds_toArray, List.set_cons_zero, List.set_cons_succ]
        refine wpAnyZ_takeY (i := 13) (oi := { dst := some 40, op := Op.nilCheck (Operand.tmp 39), type := 0, pos := "ref.go:50", after := #[{ on := 12, ground := Ground.data }], guard := none }) (v := ?_) rfl (by kernel_rfl) (by kernel_rfl) (by kernel_rfl) (by rfl) (fun _ _ _ h => h) (Or.inl ⟨by rfl, ?_⟩) (by assumption) ?_
        rotate_left
        · (intro w; go_simp); (first | done | with_reducible rfl)
        try simp only [Act.put, List.setIfInBounds_toArray, List.set_cons_zero, List.set_cons_succ]
        refine wpAnyZ_takeY (i := 14) (oi := { dst := some 41, op := Op.fieldAddr 91 (Operand.tmp 40) 4, type := 0, pos := "ref.go:50", after := #[{ on := 13, ground := Ground.data }], guard := none }) (v := ?_) rfl (by kernel_rfl) (by kernel_rfl) (by kernel_rfl) (by rfl) (fun _ _ _ h => h) (Or.inl ⟨by rfl, ?_⟩) (by assumption) ?_
        rotate_left
        · (intro w; go_simp); (first | done | with_reducible rfl)
        try simp only [Act.put, List.setIfInBounds_toArray, List.set_cons_zero, List.set_cons_succ]
        refine wpAnyZ_take (i := 15) (oi := { dst := some 42, op := Op.load 89 (Operand.tmp 41), type := 89, pos := "ref.go:50", after := #[{ on := 14, ground := Ground.data }], guard := none }) (v := ?_) [17, 18, 19, 20, 21] rfl (by kernel_rfl) (by kernel_rfl) (by kernel_rfl) (by kernel_rfl) (fun _ _ _ h => h) (Or.inl ⟨by rfl, ?_⟩) (by assumption) ?_
        rotate_left
        · (intro w hSw; (try dsimp only at hSw); go_simp); (first | done | with_reducible rfl)
        try simp only [Act.put, List.setIfInBounds_toArray, List.set_cons_zero, List.set_cons_succ]
        refine wpAnyZ_takeY (i := 16) (oi := { dst := some 43, op := Op.move (Operand.tmp 4), type := 3, pos := "ref.go:50", after := #[], guard := none }) (v := ?_) rfl (by kernel_rfl) (by kernel_rfl) (by kernel_rfl) (by rfl) (fun _ _ _ h => h) (Or.inl ⟨by rfl, ?_⟩) (by assumption) ?_
        rotate_left
        · (intro w; go_simp); (first | done | with_reducible rfl)
        try simp only [Act.put, List.setIfInBounds_toArray, List.set_cons_zero, List.set_cons_succ]
        refine wpAnyZ_takeY (i := 17) (oi := { dst := some 44, op := Op.slice 89 (Operand.tmp 42) (some (Operand.tmp 43)) none none, type := 89, pos := "ref.go:50", after := #[{ on := 15, ground := Ground.data }, { on := 16, ground := Ground.data }], guard := none }) (v := ?_) rfl (by kernel_rfl) (by kernel_rfl) (by kernel_rfl) (by rfl) (fun _ _ _ h => h) (Or.inl ⟨by rfl, ?_⟩) (by assumption) ?_
        rotate_left
        · (intro w; go_simp); (first | done | with_reducible rfl)
        try simp only [Act.put, List.setIfInBounds_toArray, List.set_cons_zero, List.set_cons_succ]
        refine wpAnyZ_ready (rs := [1, 10]) (by kernel_rfl) (by simp) ?_
        refine AllReadyZ.cons (o := { dst := some 28, op := Op.buildSlice 89 0 #[], type := 89, pos := "ref.go:50", after := #[], guard := none }) rfl (by rfl) (fun K hK => ?_) (AllReadyZ.cons (o := { dst := some 37, op := Op.buildSlice 89 1 #[(0, Operand.tmp 36)], type := 89, pos := "ref.go:50", after := #[{ on := 9, ground := Ground.data }], guard := none }) rfl (by rfl) (fun K hK => ?_) (AllReadyZ.nil))
        · go_simp
          have HOo := Lib.hid (World.ownsRow_made (base := W1.heap.size) (e := 95) (size := 3) wd #[] 0 HB.out.size (by unfold maxLen; omega) rfl)
          replace HB := Lib.hid (HB.out.alloc HB.out.size (.cells #[] 95))
          generalize hq1 : wd.heap.size = q1 at *
          generalize hw1 : wd.alloc (.cells #[] 95) = w1 at *
          clear hq1 hw1
          refine hK.out _ _ ?_ (fun hHeld => ?_)
          · exact ⟨(HBK.out.below HB.out).cell 4, (HFB.out.below HB.out).cell 0, (HFB.out.below HB.out).cell 1, (HFB.out.below HB.out).cell 2⟩
          clear hK K
          try simp only [Act.put, List.setIfInBounds_toArray, List.set_cons_zero, List.set_cons_succ]
          refine wpAnyZ_ready (rs := [8, 10]) (by kernel_rfl) (by simp) ?_
          refine AllReadyZ.cons (o := { dst := some 35, op := Op.call { callee := Callee.builtin Builtin.append, args := #[Operand.tmp 28, Operand.tmp 34], argTypes := #[89, 89] }, type := 89, pos := "ref.go:50", after := #[{ on := 1, ground := Ground.data }, { on := 7, ground := Ground.data }], guard := none }) rfl (by rfl) (fun K hK => ?_) (AllReadyZ.cons (o := { dst := some 37, op := Op.buildSlice 89 1 #[(0, Operand.tmp 36)], type := 89, pos := "ref.go:50", after := #[{ on := 9, ground := Ground.data }], guard := none }) rfl (by rfl) (fun K hK => ?_) (AllReadyZ.nil))
          · refine step_append_none5 (by rfl) _ _ 89 (by rfl) W1.heap.size 95 i0 3 Try.underlying89 hi0 (.slice (some ⟨q1, 0, none⟩) 0 0) 0 [] (by rfl) HOo.out 0 (by rfl) ?_
            obtain ⟨w8, hw8⟩ : ∃ x, x = w1 := ⟨_, rfl⟩
            rw [← hw8] at HOo HB ⊢
            clear hw8
            have HO8 := Lib.hid (show w8.ownsRow W1.heap.size 95 3 (.slice (some ⟨q1, 0, none⟩) 0 0) 0 (flsV (D.L.take k)) from by rw [hk0]; exact HOo.out)
            clear HOo
            refine hK.out _ _ ?_ (fun hHeld => ?_)
            · exact ⟨(HBK.out.below HB.out).cell 4, (HFB.out.below HB.out).cell 0, (HFB.out.below HB.out).cell 1, (HFB.out.below HB.out).cell 2⟩
            clear hK K
            try simp only [Act.put, List.setIfInBounds_toArray, List.set_cons_zero, List.set_cons_succ]
            refine wpAnyZ_ready (rs := [10]) (by kernel_rfl) (by simp) ?_
            refine AllReadyZ.cons (o := { dst := some 37, op := Op.buildSlice 89 1 #[(0, Operand.tmp 36)], type := 89, pos := "ref.go:50", after := #[{ on := 9, ground := Ground.data }], guard := none }) rfl (by rfl) (fun K hK => ?_) (AllReadyZ.nil)
            go_simp
            have HNE := Lib.hid (show ∀ q, (Value.slice (some ⟨q1, 0, none⟩) 0 0).ownBlock = some q → q ≠ w8.heap.size from fun q hq e => by have := (HO8.out.lt q hq).2; omega)
            replace HO8 := Lib.hid (HO8.out.alloc (.cells #[.string (S f.name), .string (S f.dat), .int .i64 f.safe] 95))
            have HY := Lib.hid (show Bk #[.string (S f.name), .string (S f.dat), .int .i64 f.safe] 95 (w8.alloc (.cells #[.string (S f.name), .string (S f.dat), .int .i64 f.safe] 95)) w8.heap.size from bk_new _ _ _)
            replace HB := Lib.hid (HB.out.alloc HB.out.size (.cells #[.string (S f.name), .string (S f.dat), .int .i64 f.safe] 95))
            generalize hq10 : w8.heap.size = q10 at *
            generalize hw10 : w8.alloc (.cells #[.string (S f.name), .string (S f.dat), .int .i64 f.safe] 95) = w10 at *
            clear hq10 hw10
            refine hK.out _ _ ?_ (fun hHeld => ?_)
            · exact ⟨(HBK.out.below HB.out).cell 4, (HFB.out.below HB.out).cell 0, (HFB.out.below HB.out).cell 1, (HFB.out.below HB.out).cell 2⟩
            clear hK K
            try simp only [Act.put, List.setIfInBounds_toArray, List.set_cons_zero, List.set_cons_succ]
            refine wpAnyZ_ready (rs := [11]) (by kernel_rfl) (by simp) ?_
            refine AllReadyZ.cons (o := { dst := some 38, op := Op.call { callee := Callee.builtin Builtin.append, args := #[Operand.tmp 35, Operand.tmp 37], argTypes := #[89, 89] }, type := 89, pos := "ref.go:50", after := #[{ on := 8, ground := Ground.data }, { on := 10, ground := Ground.data }, { on := 8, ground := Ground.chain }], guard := none }) rfl (by rfl) (fun K hK => ?_) (AllReadyZ.nil)
            refine step_append_at5 (by rfl) _ _ 89 (by rfl) W1.heap.size 95 i0 (.agg #[.string ⟨#[]⟩, .string ⟨#[]⟩, .int .i64 0]) 3 40 Try.underlying89 hi0 hz0 hz1 hz2 rfl (by decide) (Value.slice (some ⟨q1, 0, none⟩) 0 0) 0 (flsV (D.L.take k)) (by rfl) HO8.out ⟨q10, 0, none⟩ 1 1 (fl3 f) (by rfl) rfl (fun j u hu => by rw [Addr.add_lit, Nat.zero_add]; exact (HY.out.cell j).trans (by rw [← hu]; simp [fl3])) (fun u hu => by simp [fl3] at hu; rcases hu with rfl | rfl | rfl <;> rfl) (by unfold maxLen; omega) (by omega) HB.out.size ?_
            intro v11 w11 ho11 hg11 _
            replace ho11 : w11.ownsRow W1.heap.size 95 3 v11 1 (flsV (D.L.take k ++ [f])) := by rw [flsV_app]; exact ho11
            obtain ⟨a11, c11, rfl⟩ := row_shape5 ho11
            have HO11 := Lib.hid ho11
            replace HB := Lib.hid (HB.out.grown hg11 HB.out.size (fun q hq => (HO8.out.lt q hq).1))
            clear ho11 hg11 HO8 HY HNE
            refine hK.out _ _ ?_ (fun hHeld => ?_)
            · exact ⟨(HBK.out.below HB.out).cell 4, (HFB.out.below HB.out).cell 0, (HFB.out.below HB.out).cell 1, (HFB.out.below HB.out).cell 2⟩
            clear hK K
            try simp only [Act.put, List.setIfInBounds_toArray, List.set_cons_zero, List.set_cons_succ]
            refine wpAnyZ_ready (rs := [18]) (by kernel_rfl) (by simp) ?_
            refine AllReadyZ.cons (o := { dst := some 45, op := Op.call { callee := Callee.builtin Builtin.append, args := #[Operand.tmp 38, Operand.tmp 44], argTypes := #[89, 89] }, type := 89, pos := "ref.go:50", after := #[{ on := 11, ground := Ground.data }, { on := 17, ground := Ground.data }, { on := 11, ground := Ground.chain }], guard := none }) rfl (by rfl) (fun K hK => ?_) (AllReadyZ.nil)
            refine step_append_none5 (by rfl) _ _ 89 (by rfl) W1.heap.size 95 i0 3 Try.underlying89 hi0 (.slice a11 1 c11) 1 (flsV (D.L.take k ++ [f])) (by rfl) HO11.out 0 (by rfl) ?_
            obtain ⟨w18, hw18⟩ : ∃ x, x = w11 := ⟨_, rfl⟩
            rw [← hw18] at HO11 HB ⊢
            clear hw18
            obtain ⟨a18, c18, hv18⟩ : ∃ a18 c18, (Value.slice a11 1 c11) = .slice a18 nL c18 := ⟨a11, c11, by rw [show nL = 1 from by have := HNL.out; omega]⟩
            have HO18 := Lib.hid (show w18.ownsRow W1.heap.size 95 3 (.slice a18 nL c18) nL (flsV (D.L.take k ++ f :: D.L.drop k)) from by rw [← hv18, show nL = 1 from by have := HNL.out; omega, show D.L.take k ++ f :: D.L.drop k = D.L.take k ++ [f] from by rw [HDR.out]]; exact HO11.out)
            rw [hv18]
            clear HO11 hv18
            refine hK.out _ _ ?_ (fun hHeld => ?_)
            · exact ⟨(HBK.out.below HB.out).cell 4, (HFB.out.below HB.out).cell 0, (HFB.out.below HB.out).cell 1, (HFB.out.below HB.out).cell 2⟩
            clear hK K
            try simp only [Act.put, List.setIfInBounds_toArray, List.set_cons_zero, List.set_cons_succ]
            refine wpAnyZ_takeY (i := 19) (oi := { dst := some 46, op := Op.nilCheck (Operand.tmp 27), type := 0, pos := "ref.go:50", after := #[{ on := 0, ground := Ground.data }, { on := 0, ground := Ground.phase }, { on := 1, ground := Ground.phase }, { on := 2, ground := Ground.phase }, { on := 3, ground := Ground.phase }, { on := 4, ground := Ground.phase }, { on := 5, ground := Ground.phase }, { on := 6, ground := Ground.phase }, { on := 7, ground := Ground.phase }, { on := 8, ground := Ground.phase }, { on := 9, ground := Ground.phase }, { on := 10, ground := Ground.phase }, { on := 11, ground := Ground.phase }, { on := 12, ground := Ground.phase }, { on := 13, ground := Ground.phase }, { on := 14, ground := Ground.phase }, { on := 15, ground := Ground.phase }, { on := 16, ground := Ground.phase }, { on := 17, ground := Ground.phase }, { on := 18, ground := Ground.phase }], guard := none }) (v := ?_) rfl (by kernel_rfl) (by kernel_rfl) (by kernel_rfl) (by rfl) (fun _ _ _ h => h) (Or.inl ⟨by rfl, ?_⟩) (by assumption) ?_
            rotate_left
            · (intro w; go_simp); (first | done | with_reducible rfl)
            try simp only [Act.put, List.setIfInBounds_toArray, List.set_cons_zero, List.set_cons_succ]
            refine wpAnyZ_takeY (i := 20) (oi := { dst := some 47, op := Op.fieldAddr 91 (Operand.tmp 46) 4, type := 0, pos := "ref.go:50", after := #[{ on := 19, ground := Ground.data }, { on := 0, ground := Ground.phase }, { on := 1, ground := Ground.phase }, { on := 2, ground := Ground.phase }, { on := 3, ground := Ground.phase }, { on := 4, ground := Ground.phase }, { on := 5, ground := Ground.phase }, { on := 6, ground := Ground.phase }, { on := 7, ground := Ground.phase }, { on := 8, ground := Ground.phase }, { on := 9, ground := Ground.phase }, { on := 10, ground := Ground.phase }, { on := 11, ground := Ground.phase }, { on := 12, ground := Ground.phase }, { on := 13, ground := Ground.phase }, { on := 14, ground := Ground.phase }, { on := 15, ground := Ground.phase }, { on := 16, ground := Ground.phase }, { on := 17, ground := Ground.phase }, { on := 18, ground := Ground.phase }], guard := none }) (v := ?_) rfl (by kernel_rfl) (by kernel_rfl) (by kernel_rfl) (by rfl) (fun _ _ _ h => h) (Or.inl ⟨by rfl, ?_⟩) (by assumption) ?_
            rotate_left
            · (intro w; go_simp); (first | done | with_reducible rfl)
            try simp only [Act.put, List.setIfInBounds_toArray, List.set_cons_zero, List.set_cons_succ]
            refine wpAnyZ_ready (rs := [21]) (by kernel_rfl) (by simp) ?_
            refine AllReadyZ.last (o := { dst := none, op := Op.store 89 (Operand.tmp 47) (Operand.tmp 45), type := 0, pos := "ref.go:50", after := #[{ on := 20, ground := Ground.data }, { on := 18, ground := Ground.data }, { on := 18, ground := Ground.chain }, { on := 0, ground := Ground.phase }, { on := 1, ground := Ground.phase }, { on := 2, ground := Ground.phase }, { on := 3, ground := Ground.phase }, { on := 4, ground := Ground.phase }, { on := 5, ground := Ground.phase }, { on := 6, ground := Ground.phase }, { on := 7, ground := Ground.phase }, { on := 8, ground := Ground.phase }, { on := 9, ground := Ground.phase }, { on := 10, ground := Ground.phase }, { on := 11, ground := Ground.phase }, { on := 12, ground := Ground.phase }, { on := 13, ground := Ground.phase }, { on := 14, ground := Ground.phase }, { on := 15, ground := Ground.phase }, { on := 16, ground := Ground.phase }, { on := 17, ground := Ground.phase }, { on := 18, ground := Ground.phase }], guard := none }) rfl (fun K hK => ?_) AllReadyZ.nil
            have f0 := (HBK.out.below HB.out).free 4
            have m0 := (HBK.out.below HB.out).cell 4
            go_simp
            refine hK.out _ _ ?_
            clear hK K
            refine wpAny_done (by kernel_rfl) ?_ _
            go_wp2_with fail
            go_end0
            exact HFIN.out _ HB.out a18 c18 HO18.out
          · go_simp
            have HNE := Lib.hid (show q1 ≠ w1.heap.size from fun e => by have := (HOo.out.lt q1 rfl).2; omega)
            replace HOo := Lib.hid (HOo.out.alloc (.cells #[.string (S f.name), .string (S f.dat), .int .i64 f.safe] 95))
            have HY := Lib.hid (show Bk #[.string (S f.name), .string (S f.dat), .int .i64 f.safe] 95 (w1.alloc (.cells #[.string (S f.name), .string (S f.dat), .int .i64 f.safe] 95)) w1.heap.size from bk_new _ _ _)
            replace HB := Lib.hid (HB.out.alloc HB.out.size (.cells #[.string (S f.name), .string (S f.dat), .int .i64 f.safe] 95))
            generalize hq10 : w1.heap.size = q10 at *
            generalize hw10 : w1.alloc (.cells #[.string (S f.name), .string (S f.dat), .int .i64 f.safe] 95) = w10 at *
            clear hq10 hw10
            refine hK.out _ _ ?_ (fun hHeld => ?_)
            · exact ⟨(HBK.out.below HB.out).cell 4, (HFB.out.below HB.out).cell 0, (HFB.out.below HB.out).cell 1, (HFB.out.below HB.out).cell 2⟩
            clear hK K
            try simp only [Act.put, List.setIfInBounds_toArray, List.set_cons_zero, List.set_cons_succ]
            refine wpAnyZ_ready (rs := [8]) (by kernel_rfl) (by simp) ?_
            refine AllReadyZ.cons (o := { dst := some 35, op := Op.call { callee := Callee.builtin Builtin.append, args := #[Operand.tmp 28, Operand.tmp 34], argTypes := #[89, 89] }, type := 89, pos := "ref.go:50", after := #[{ on := 1, ground := Ground.data }, { on := 7, ground := Ground.data }], guard := none }) rfl (by rfl) (fun K hK => ?_) (AllReadyZ.nil)
            refine step_append_none5 (by rfl) _ _ 89 (by rfl) W1.heap.size 95 i0 3 Try.underlying89 hi0 (.slice (some ⟨q1, 0, none⟩) 0 0) 0 [] (by rfl) HOo.out 0 (by rfl) ?_
            obtain ⟨w8, hw8⟩ : ∃ x, x = w10 := ⟨_, rfl⟩
            rw [← hw8] at HOo HB HY ⊢
            clear hw8
            have HO8 := Lib.hid (show w8.ownsRow W1.heap.size 95 3 (.slice (some ⟨q1, 0, none⟩) 0 0) 0 (flsV (D.L.take k)) from by rw [hk0]; exact HOo.out)
            replace HNE := Lib.hid (show ∀ q, (Value.slice (some ⟨q1, 0, none⟩) 0 0).ownBlock = some q → q ≠ q10 from fun q hq e => by cases hq; exact HNE.out e)
            clear HOo
            refine hK.out _ _ ?_ (fun hHeld => ?_)
            · exact ⟨(HBK.out.below HB.out).cell 4, (HFB.out.below HB.out).cell 0, (HFB.out.below HB.out).cell 1, (HFB.out.below HB.out).cell 2⟩
            clear hK K
            try simp only [Act.put, List.setIfInBounds_toArray, List.set_cons_zero, List.set_cons_succ]
            refine wpAnyZ_ready (rs := [11]) (by kernel_rfl) (by simp) ?_
            refine AllReadyZ.cons (o := { dst := some 38, op := Op.call { callee := Callee.builtin Builtin.append, args := #[Operand.tmp 35, Operand.tmp 37], argTypes := #[89, 89] }, type := 89, pos := "ref.go:50", after := #[{ on := 8, ground := Ground.data }, { on := 10, ground := Ground.data }, { on := 8, ground := Ground.chain }], guard := none }) rfl (by rfl) (fun K hK => ?_) (AllReadyZ.nil)
            refine step_append_at5 (by rfl) _ _ 89 (by rfl) W1.heap.size 95 i0 (.agg #[.string ⟨#[]⟩, .string ⟨#[]⟩, .int .i64 0]) 3 40 Try.underlying89 hi0 hz0 hz1 hz2 rfl (by decide) (Value.slice (some ⟨q1, 0, none⟩) 0 0) 0 (flsV (D.L.take k)) (by rfl) HO8.out ⟨q10, 0, none⟩ 1 1 (fl3 f) (by rfl) rfl (fun j u hu => by rw [Addr.add_lit, Nat.zero_add]; exact (HY.out.cell j).trans (by rw [← hu]; simp [fl3])) (fun u hu => by simp [fl3] at hu; rcases hu with rfl | rfl | rfl <;> rfl) (by unfold maxLen; omega) (by omega) HB.out.size ?_
            intro v11 w11 ho11 hg11 _
            replace ho11 : w11.ownsRow W1.heap.size 95 3 v11 1 (flsV (D.L.take k ++ [f])) := by rw [flsV_app]; exact ho11
            obtain ⟨a11, c11, rfl⟩ := row_shape5 ho11
            have HO11 := Lib.hid ho11
            replace HB := Lib.hid (HB.out.grown hg11 HB.out.size (fun q hq => (HO8.out.lt q hq).1))
            clear ho11 hg11 HO8 HY HNE
            refine hK.out _ _ ?_ (fun hHeld => ?_)
            · exact ⟨(HBK.out.below HB.out).cell 4, (HFB.out.below HB.out).cell 0, (HFB.out.below HB.out).cell 1, (HFB.out.below HB.out).cell 2⟩
            clear hK K
            try simp only [Act.put, List.setIfInBounds_toArray, List.set_cons_zero, List.set_cons_succ]
            refine wpAnyZ_ready (rs := [18]) (by kernel_rfl) (by simp) ?_
            refine AllReadyZ.cons (o := { dst := some 45, op := Op.call { callee := Callee.builtin Builtin.append, args := #[Operand.tmp 38, Operand.tmp 44], argTypes := #[89, 89] }, type := 89, pos := "ref.go:50", after := #[{ on := 11, ground := Ground.data }, { on := 17, ground := Ground.data }, { on := 11, ground := Ground.chain }], guard := none }) rfl (by rfl) (fun K hK => ?_) (AllReadyZ.nil)
            refine step_append_none5 (by rfl) _ _ 89 (by rfl) W1.heap.size 95 i0 3 Try.underlying89 hi0 (.slice a11 1 c11) 1 (flsV (D.L.take k ++ [f])) (by rfl) HO11.out 0 (by rfl) ?_
            obtain ⟨w18, hw18⟩ : ∃ x, x = w11 := ⟨_, rfl⟩
            rw [← hw18] at HO11 HB ⊢
            clear hw18
            obtain ⟨a18, c18, hv18⟩ : ∃ a18 c18, (Value.slice a11 1 c11) = .slice a18 nL c18 := ⟨a11, c11, by rw [show nL = 1 from by have := HNL.out; omega]⟩
            have HO18 := Lib.hid (show w18.ownsRow W1.heap.size 95 3 (.slice a18 nL c18) nL (flsV (D.L.take k ++ f :: D.L.drop k)) from by rw [← hv18, show nL = 1 from by have := HNL.out; omega, show D.L.take k ++ f :: D.L.drop k = D.L.take k ++ [f] from by rw [HDR.out]]; exact HO11.out)
            rw [hv18]
            clear HO11 hv18
            refine hK.out _ _ ?_ (fun hHeld => ?_)
            · exact ⟨(HBK.out.below HB.out).cell 4, (HFB.out.below HB.out).cell 0, (HFB.out.below HB.out).cell 1, (HFB.out.below HB.out).cell 2⟩
            clear hK K
            try simp only [Act.put, List.setIfInBounds_toArray, List.set_cons_zero, List.set_cons_succ]
            refine wpAnyZ_takeY (i := 19) (oi := { dst := some 46, op := Op.nilCheck (Operand.tmp 27), type := 0, pos := "ref.go:50", after := #[{ on := 0, ground := Ground.data }, { on := 0, ground := Ground.phase }, { on := 1, ground := Ground.phase }, { on := 2, ground := Ground.phase }, { on := 3, ground := Ground.phase }, { on := 4, ground := Ground.phase }, { on := 5, ground := Ground.phase }, { on := 6, ground := Ground.phase }, { on := 7, ground := Ground.phase }, { on := 8, ground := Ground.phase }, { on := 9, ground := Ground.phase }, { on := 10, ground := Ground.phase }, { on := 11, ground := Ground.phase }, { on := 12, ground := Ground.phase }, { on := 13, ground := Ground.phase }, { on := 14, ground := Ground.phase }, { on := 15, ground := Ground.phase }, { on := 16, ground := Ground.phase }, { on := 17, ground := Ground.phase }, { on := 18, ground := Ground.phase }], guard := none }) (v := ?_) rfl (by kernel_rfl) (by kernel_rfl) (by kernel_rfl) (by rfl) (fun _ _ _ h => h) (Or.inl ⟨by rfl, ?_⟩) (by assumption) ?_
            rotate_left
            · (intro w; go_simp); (first | done | with_reducible rfl)
            try simp only [Act.put, List.setIfInBounds_toArray, List.set_cons_zero, List.set_cons_succ]
            refine wpAnyZ_takeY (i := 20) (oi := { dst := some 47, op := Op.fieldAddr 91 (Operand.tmp 46) 4, type := 0, pos := "ref.go:50", after := #[{ on := 19, ground := Ground.data }, { on := 0, ground := Ground.phase }, { on := 1, ground := Ground.phase }, { on := 2, ground := Ground.phase }, { on := 3, ground := Ground.phase }, { on := 4, ground := Ground.phase }, { on := 5, ground := Ground.phase }, { on := 6, ground := Ground.phase }, { on := 7, ground := Ground.phase }, { on := 8, ground := Ground.phase }, { on := 9, ground := Ground.phase }, { on := 10, ground := Ground.phase }, { on := 11, ground := Ground.phase }, { on := 12, ground := Ground.phase }, { on := 13, ground := Ground.phase }, { on := 14, ground := Ground.phase }, { on := 15, ground := Ground.phase }, { on := 16, ground := Ground.phase }, { on := 17, ground := Ground.phase }, { on := 18, ground := Ground.phase }], guard := none }) (v := ?_) rfl (by kernel_rfl) (by kernel_rfl) (by kernel_rfl) (by rfl) (fun _ _ _ h => h) (Or.inl ⟨by rfl, ?_⟩) (by assumption) ?_
            rotate_left
            · (intro w; go_simp); (first | done | with_reducible rfl)
            try simp only [Act.put, List.setIfInBounds_toArray, List.set_cons_zero, List.set_cons_succ]
            refine wpAnyZ_ready (rs := [21]) (by kernel_rfl) (by simp) ?_
            refine AllReadyZ.last (o := { dst := none, op := Op.store 89 (Operand.tmp 47) (Operand.tmp 45), type := 0, pos := "ref.go:50", after := #[{ on := 20, ground := Ground.data }, { on := 18, ground := Ground.data }, { on := 18, ground := Ground.chain }, { on := 0, ground := Ground.phase }, { on := 1, ground := Ground.phase }, { on := 2, ground := Ground.phase }, { on := 3, ground := Ground.phase }, { on := 4, ground := Ground.phase }, { on := 5, ground := Ground.phase }, { on := 6, ground := Ground.phase }, { on := 7, ground := Ground.phase }, { on := 8, ground := Ground.phase }, { on := 9, ground := Ground.phase }, { on := 10, ground := Ground.phase }, { on := 11, ground := Ground.phase }, { on := 12, ground := Ground.phase }, { on := 13, ground := Ground.phase }, { on := 14, ground := Ground.phase }, { on := 15, ground := Ground.phase }, { on := 16, ground := Ground.phase }, { on := 17, ground := Ground.phase }, { on := 18, ground := Ground.phase }], guard := none }) rfl (fun K hK => ?_) AllReadyZ.nil
            have f0 := (HBK.out.below HB.out).free 4
            have m0 := (HBK.out.below HB.out).cell 4
            go_simp
            refine hK.out _ _ ?_
            clear hK K
            refine wpAny_done (by kernel_rfl) ?_ _
            go_wp2_with fail
            go_end0
            exact HFIN.out _ HB.out a18 c18 HO18.out
        · go_simp
          have HY := Lib.hid (show Bk #[.string (S f.name), .string (S f.dat), .int .i64 f.safe] 95 (wd.alloc (.cells #[.string (S f.name), .string (S f.dat), .int .i64 f.safe] 95)) wd.heap.size from bk_new _ _ _)
          replace HB := Lib.hid (HB.out.alloc HB.out.size (.cells #[.string (S f.name), .string (S f.dat), .int .i64 f.safe] 95))
          generalize hq10 : wd.heap.size = q10 at *
          generalize hw10 : wd.alloc (.cells #[.string (S f.name), .string (S f.dat), .int .i64 f.safe] 95) = w10 at *
          clear hq10 hw10
          refine hK.out _ _ ?_ (fun hHeld => ?_)
          · exact ⟨(HBK.out.below HB.out).cell 4, (HFB.out.below HB.out).cell 0, (HFB.out.below HB.out).cell 1, (HFB.out.below HB.out).cell 2⟩
          clear hK K
          try simp only [Act.put, List.setIfInBounds_toArray, List.set_cons_zero, List.set_cons_succ]
          refine wpAnyZ_ready (rs := [1]) (by kernel_rfl) (by simp) ?_
          refine AllReadyZ.cons (o := { dst := some 28, op := Op.buildSlice 89 0 #[], type := 89, pos := "ref.go:50", after := #[], guard := none }) rfl (by rfl) (fun K hK => ?_) (AllReadyZ.nil)
          go_simp
          have HOo := Lib.hid (World.ownsRow_made (base := W1.heap.size) (e := 95) (size := 3) w10 #[] 0 HB.out.size (by unfold maxLen; omega) rfl)
          replace HB := Lib.hid (HB.out.alloc HB.out.size (.cells #[] 95))
          have HNE := Lib.hid (show w10.heap.size ≠ q10 from fun e => by have := HY.out.lt; omega)
          replace HY := Lib.hid (HY.out.more (.cells #[] 95))
          generalize hq1 : w10.heap.size = q1 at *
          generalize hw1 : w10.alloc (.cells #[] 95) = w1 at *
          clear hq1 hw1
          refine hK.out _ _ ?_ (fun hHeld => ?_)
          · exact ⟨(HBK.out.below HB.out).cell 4, (HFB.out.below HB.out).cell 0, (HFB.out.below HB.out).cell 1, (HFB.out.below HB.out).cell 2⟩
          clear hK K
          try simp only [Act.put, List.setIfInBounds_toArray, List.set_cons_zero, List.set_cons_succ]
          refine wpAnyZ_ready (rs := [8]) (by kernel_rfl) (by simp) ?_
          refine AllReadyZ.cons (o := { dst := some 35, op := Op.call { callee := Callee.builtin Builtin.append, args := #[Operand.tmp 28, Operand.tmp 34], argTypes := #[89, 89] }, type := 89, pos := "ref.go:50", after := #[{ on := 1, ground := Ground.data }, { on := 7, ground := Ground.data }], guard := none }) rfl (by rfl) (fun K hK => ?_) (AllReadyZ.nil)
          refine step_append_none5 (by rfl) _ _ 89 (by rfl) W1.heap.size 95 i0 3 Try.underlying89 hi0 (.slice (some ⟨q1, 0, none⟩) 0 0) 0 [] (by rfl) HOo.out 0 (by rfl) ?_
          obtain ⟨w8, hw8⟩ : ∃ x, x = w1 := ⟨_, rfl⟩
          rw [← hw8] at HOo HB HY ⊢
          clear hw8
          have HO8 := Lib.hid (show w8.ownsRow W1.heap.size 95 3 (.slice (some ⟨q1, 0, none⟩) 0 0) 0 (flsV (D.L.take k)) from by rw [hk0]; exact HOo.out)
          replace HNE := Lib.hid (show ∀ q, (Value.slice (some ⟨q1, 0, none⟩) 0 0).ownBlock = some q → q ≠ q10 from fun q hq e => by cases hq; exact HNE.out e)
          clear HOo
          refine hK.out _ _ ?_ (fun hHeld => ?_)
          · exact ⟨(HBK.out.below HB.out).cell 4, (HFB.out.below HB.out).cell 0, (HFB.out.below HB.out).cell 1, (HFB.out.below HB.out).cell 2⟩
          clear hK K
          try simp only [Act.put, List.setIfInBounds_toArray, List.set_cons_zero, List.set_cons_succ]
          refine wpAnyZ_ready (rs := [11]) (by kernel_rfl) (by simp) ?_
          refine AllReadyZ.cons (o := { dst := some 38, op := Op.call { callee := Callee.builtin Builtin.append, args := #[Operand.tmp 35, Operand.tmp 37], argTypes := #[89, 89] }, type := 89, pos := "ref.go:50", after := #[{ on := 8, ground := Ground.data }, { on := 10, ground := Ground.data }, { on := 8, ground := Ground.chain }], guard := none }) rfl (by rfl) (fun K hK => ?_) (AllReadyZ.nil)
          refine step_append_at5 (by rfl) _ _ 89 (by rfl) W1.heap.size 95 i0 (.agg #[.string ⟨#[]⟩, .string ⟨#[]⟩, .int .i64 0]) 3 40 Try.underlying89 hi0 hz0 hz1 hz2 rfl (by decide) (Value.slice (some ⟨q1, 0, none⟩) 0 0) 0 (flsV (D.L.take k)) (by rfl) HO8.out ⟨q10, 0, none⟩ 1 1 (fl3 f) (by rfl) rfl (fun j u hu => by rw [Addr.add_lit, Nat.zero_add]; exact (HY.out.cell j).trans (by rw [← hu]; simp [fl3])) (fun u hu => by simp [fl3] at hu; rcases hu with rfl | rfl | rfl <;> rfl) (by unfold maxLen; omega) (by omega) HB.out.size ?_
          intro v11 w11 ho11 hg11 _
          replace ho11 : w11.ownsRow W1.heap.size 95 3 v11 1 (flsV (D.L.take k ++ [f])) := by rw [flsV_app]; exact ho11
          obtain ⟨a11, c11, rfl⟩ := row_shape5 ho11
          have HO11 := Lib.hid ho11
          replace HB := Lib.hid (HB.out.grown hg11 HB.out.size (fun q hq => (HO8.out.lt q hq).1))
          clear ho11 hg11 HO8 HY HNE
          refine hK.out _ _ ?_ (fun hHeld => ?_)
          · exact ⟨(HBK.out.below HB.out).cell 4, (HFB.out.below HB.out).cell 0, (HFB.out.below HB.out).cell 1, (HFB.out.below HB.out).cell 2⟩
          clear hK K
          try simp only [Act.put, List.setIfInBounds_toArray, List.set_cons_zero, List.set_cons_succ]
          refine wpAnyZ_ready (rs := [18]) (by kernel_rfl) (by simp) ?_
          refine AllReadyZ.cons (o := { dst := some 45, op := Op.call { callee := Callee.builtin Builtin.append, args := #[Operand.tmp 38, Operand.tmp 44], argTypes := #[89, 89] }, type := 89, pos := "ref.go:50", after := #[{ on := 11, ground := Ground.data }, { on := 17, ground := Ground.data }, { on := 11, ground := Ground.chain }], guard := none }) rfl (by rfl) (fun K hK => ?_) (AllReadyZ.nil)
          refine step_append_none5 (by rfl) _ _ 89 (by rfl) W1.heap.size 95 i0 3 Try.underlying89 hi0 (.slice a11 1 c11) 1 (flsV (D.L.take k ++ [f])) (by rfl) HO11.out 0 (by rfl) ?_
          obtain ⟨w18, hw18⟩ : ∃ x, x = w11 := ⟨_, rfl⟩
          rw [← hw18] at HO11 HB ⊢
          clear hw18
          obtain ⟨a18, c18, hv18⟩ : ∃ a18 c18, (Value.slice a11 1 c11) = .slice a18 nL c18 := ⟨a11, c11, by rw [show nL = 1 from by have := HNL.out; omega]⟩
          have HO18 := Lib.hid (show w18.ownsRow W1.heap.size 95 3 (.slice a18 nL c18) nL (flsV (D.L.take k ++ f :: D.L.drop k)) from by rw [← hv18, show nL = 1 from by have := HNL.out; omega, show D.L.take k ++ f :: D.L.drop k = D.L.take k ++ [f] from by rw [HDR.out]]; exact HO11.out)
          rw [hv18]
          clear HO11 hv18
          refine hK.out _ _ ?_ (fun hHeld => ?_)
          · exact ⟨(HBK.out.below HB.out).cell 4, (HFB.out.below HB.out).cell 0, (HFB.out.below HB.out).cell 1, (HFB.out.below HB.out).cell 2⟩
          clear hK K
          try simp only [Act.put, List.setIfInBounds_toArray, List.set_cons_zero, List.set_cons_succ]
          refine wpAnyZ_takeY (i := 19) (oi := { dst := some 46, op := Op.nilCheck (Operand.tmp 27), type := 0, pos := "ref.go:50", after := #[{ on := 0, ground := Ground.data }, { on := 0, ground := Ground.phase }, { on := 1, ground := Ground.phase }, { on := 2, ground := Ground.phase }, { on := 3, ground := Ground.phase }, { on := 4, ground := Ground.phase }, { on := 5, ground := Ground.phase }, { on := 6, ground := Ground.phase }, { on := 7, ground := Ground.phase }, { on := 8, ground := Ground.phase }, { on := 9, ground := Ground.phase }, { on := 10, ground := Ground.phase }, { on := 11, ground := Ground.phase }, { on := 12, ground := Ground.phase }, { on := 13, ground := Ground.phase }, { on := 14, ground := Ground.phase }, { on := 15, ground := Ground.phase }, { on := 16, ground := Ground.phase }, { on := 17, ground := Ground.phase }, { on := 18, ground := Ground.phase }], guard := none }) (v := ?_) rfl (by kernel_rfl) (by kernel_rfl) (by kernel_rfl) (by rfl) (fun _ _ _ h => h) (Or.inl ⟨by rfl, ?_⟩) (by assumption) ?_
          rotate_left
          · (intro w; go_simp); (first | done | with_reducible rfl)
          try simp only [Act.put, List.setIfInBounds_toArray, List.set_cons_zero, List.set_cons_succ]
          refine wpAnyZ_takeY (i := 20) (oi := { dst := some 47, op := Op.fieldAddr 91 (Operand.tmp 46) 4, type := 0, pos := "ref.go:50", after := #[{ on := 19, ground := Ground.data }, { on := 0, ground := Ground.phase }, { on := 1, ground := Ground.phase }, { on := 2, ground := Ground.phase }, { on := 3, ground := Ground.phase }, { on := 4, ground := Ground.phase }, { on := 5, ground := Ground.phase }, { on := 6, ground := Ground.phase }, { on := 7, ground := Ground.phase }, { on := 8, ground := Ground.phase }, { on := 9, ground := Ground.phase }, { on := 10, ground := Ground.phase }, { on := 11, ground := Ground.phase }, { on := 12, ground := Ground.phase }, { on := 13, ground := Ground.phase }, { on := 14, ground := Ground.phase }, { on := 15, ground := Ground.phase }, { on := 16, ground := Ground.phase }, { on := 17, ground := Ground.phase }, { on := 18, ground := Ground.phase }], guard := none }) (v := ?_) rfl (by kernel_rfl) (by kernel_rfl) (by kernel_rfl) (by rfl) (fun _ _ _ h => h) (Or.inl ⟨by rfl, ?_⟩) (by assumption) ?_
          rotate_left
          · (intro w; go_simp); (first | done | with_reducible rfl)
          try simp only [Act.put, List.setIfInBounds_toArray, List.set_cons_zero, List.set_cons_succ]
          refine wpAnyZ_ready (rs := [21]) (by kernel_rfl) (by simp) ?_
          refine AllReadyZ.last (o := { dst := none, op := Op.store 89 (Operand.tmp 47) (Operand.tmp 45), type := 0, pos := "ref.go:50", after := #[{ on := 20, ground := Ground.data }, { on := 18, ground := Ground.data }, { on := 18, ground := Ground.chain }, { on := 0, ground := Ground.phase }, { on := 1, ground := Ground.phase }, { on := 2, ground := Ground.phase }, { on := 3, ground := Ground.phase }, { on := 4, ground := Ground.phase }, { on := 5, ground := Ground.phase }, { on := 6, ground := Ground.phase }, { on := 7, ground := Ground.phase }, { on := 8, ground := Ground.phase }, { on := 9, ground := Ground.phase }, { on := 10, ground := Ground.phase }, { on := 11, ground := Ground.phase }, { on := 12, ground := Ground.phase }, { on := 13, ground := Ground.phase }, { on := 14, ground := Ground.phase }, { on := 15, ground := Ground.phase }, { on := 16, ground := Ground.phase }, { on := 17, ground := Ground.phase }, { on := 18, ground := Ground.phase }], guard := none }) rfl (fun K hK => ?_) AllReadyZ.nil
          have f0 := (HBK.out.below HB.out).free 4
          have m0 := (HBK.out.below HB.out).cell 4
          go_simp
          refine hK.out _ _ ?_
          clear hK K
          refine wpAny_done (by kernel_rfl) ?_ _
          go_wp2_with fail
          go_end0
          exact HFIN.out _ HB.out a18 c18 HO18.out
      · have HROW := Lib.hid (fun W' hW j u hu => HROWG.out g hg W' hW j u hu)
        have HBK := HBK0
        rw [hg] at HBK
        have hcase : ¬ c.c = k ∨ c.c = k := by omega
        rcases hcase with hc | hc
        · skip
          go_upto_region 4 with fail
          refine wp_region_Z (S := fun V => V.cell? ⟨r, 4, none⟩ = some (.slice (some ⟨g, 0, none⟩) D.L.length c.c) ∧ V.cell? ⟨fb, 0, none⟩ = some (.string (S f.name)) ∧ V.cell? ⟨fb, 1, none⟩ = some (.string (S f.dat)) ∧ V.cell? ⟨fb, 2, none⟩ = some (.int .i64 f.safe)) 21 (by kernel_rfl) ?_ (fun hHeld => ?_)
          · exact ⟨(HBK.out.below HB.out.drew).cell 4, (HFB.out.below HB.out.drew).cell 0, (HFB.out.below HB.out.drew).cell 1, (HFB.out.below HB.out.drew).cell 2⟩
          replace HB := Lib.hid HB.out.drew
          obtain ⟨wd, hwd⟩ : ∃ x, x = World.drew wz := ⟨_, rfl⟩
          rw [← hwd] at HB hHeld ⊢
          clear hwd
          refine wpAnyZ_takeY (i := 0) (oi := { dst := some 27, op := Op.move (Operand.tmp 0), type := 28, pos := "ref.go:50", after := #[], guard := none }) (v := ?_) rfl (by kernel_rfl) (by kernel_rfl) (by kernel_rfl) (by rfl) (fun _ _ _ h => h) (Or.inl ⟨by rfl, ?_⟩) (by assumption) ?_
          rotate_left
          · (intro w; go_simp); (first | done | with_reducible rfl)
          try simp only [Act.put, List.setIfInBounds_toArray, List.set_cons_zero, List.set_cons_succ]
          refine wpAnyZ_takeY (i := 2) (oi := { dst := some 29, op := Op.move (Operand.tmp 0), type := 28, pos := "ref.go:50", after := #[], guard := none }) (v := ?_) rfl (by kernel_rfl) (by kernel_rfl) (by kernel_rfl) (by rfl) (fun _ _ _ h => h) (Or.inl ⟨by rfl, ?_⟩) (by assumption) ?_
          rotate_left
          · (intro w; go_simp); (first | done | with_reducible rfl)
          try simp only [Act.put, List.setIfInBounds_toArray, List.set_cons_zero, List.set_cons_succ]
          refine wpAnyZ_takeY (i := 3) (oi := { dst := some 30, op := Op.nilCheck (Operand.tmp 29), type := 0, pos := "ref.go:50", after := #[{ on := 2, ground := Ground.data }], guard := none }) (v := ?_) rfl (by kernel_rfl) (by kernel_rfl) (by kernel_rfl) (by rfl) (fun _ _ _ h => h) (Or.inl ⟨by rfl, ?_⟩) (by assumption) ?_
          rotate_left
          · (intro w; go_simp); (first | done | with_reducible rfl)
          try simp only [Act.put, List.setIfInBounds_toArray, List.set_cons_zero, List.set_cons_succ]
          refine wpAnyZ_takeY (i := 4) (oi := { dst := some 31, op := Op.fieldAddr 91 (Operand.tmp 30) 4, type := 0, pos := "ref.go:50", after := #[{ on := 3, ground := Ground.data }], guard := none }) (v := ?_) rfl (by kernel_rfl) (by kernel_rfl) (by kernel_rfl) (by rfl) (fun _ _ _ h => h) (Or.inl ⟨by rfl, ?_⟩) (by assumption) ?_
          rotate_left
          · (intro w; go_simp); (first | done | with_reducible rfl)
          try simp only [Act.put, List.setIfInBounds_toArray, List.set_cons_zero, List.set_cons_succ]
          refine wpAnyZ_take (i := 5) (oi := { dst := some 32, op := Op.load 89 (Operand.tmp 31), type := 89, pos := "ref.go:50", after := #[{ on := 4, ground := Ground.data }], guard := none }) (v := ?_) [7, 8, 11, 18, 19, 20, 21] rfl (by kernel_rfl) (by kernel_rfl) (by kernel_rfl) (by kernel_rfl) (fun _ _ _ h => h) (Or.inl ⟨by rfl, ?_⟩) (by assumption) ?_
          rotate_left
          · (intro w hSw; (try dsimp only at hSw); go_simp); (first | done | with_reducible rfl)
          try simp only [Act.put, List.setIfInBounds_toArray, List.set_cons_zero, List.set_cons_succ]
          refine wpAnyZ_takeY (i := 6) (oi := { dst := some 33, op := Op.move (Operand.tmp 4), type := 3, pos := "ref.go:50", after := #[], guard := none }) (v := ?_) rfl (by kernel_rfl) (by kernel_rfl) (by kernel_rfl) (by rfl) (fun _ _ _ h => h) (Or.inl ⟨by rfl, ?_⟩) (by assumption) ?_
          rotate_left
          · (intro w; go_simp); (first | done | with_reducible rfl)
          try simp only [Act.put, List.setIfInBounds_toArray, List.set_cons_zero, List.set_cons_succ]
          refine wpAnyZ_takeY (i := 7) (oi := { dst := some 34, op := Op.slice 89 (Operand.tmp 32) none (some (Operand.tmp 33)) none, type := 89, pos := "ref.go:50", after := #[{ on := 5, ground := Ground.data }, { on := 6, ground := Ground.data }], guard := none }) (v := ?_) rfl (by kernel_rfl) (by kernel_rfl) (by kernel_rfl) (by rfl) (fun _ _ _ h => h) (Or.inl ⟨by rfl, ?_⟩) (by assumption) ?_
          rotate_left
          · (intro w; go_simp); (first | done | with_reducible rfl)
          try simp only [Act.put, List.setIfInBounds_toArray, List.set_cons_zero, List.set_cons_succ]
          refine wpAnyZ_take (i := 9) (oi := { dst := some 36, op := Op.load 95 (Operand.tmp 3), type := 95, pos := "ref.go:50", after := #[], guard := none }) (v := ?_) [10, 11, 18, 19, 20, 21] rfl (by kernel_rfl) (by kernel_rfl) (by kernel_rfl) (by kernel_rfl) (fun _ _ _ h => h) (Or.inl ⟨by rfl, ?_⟩) (by assumption) ?_
          rotate_left
          · (intro w hSw; (try dsimp only at hSw); go_simp); (first | done | with_reducible rfl)
          try simp only [Act.put, List.setIfInBounds_toArray, List.set_cons_zero, List.set_cons_succ]
          refine wpAnyZ_takeY (i := 12) (oi := { dst := some 39, op := Op.move (Operand.tmp 0), type := 28, pos := "ref.go:50", after := #[], guard := none }) (v := ?_) rfl (by kernel_rfl) (by kernel_rfl) (by kernel_rfl) (by rfl) (fun _ _ _ h => h) (Or.inl ⟨by rfl, ?_⟩) (by assumption) ?_
          rotate_left
          · (intro w; go_simp); (first | done | with_reducible rfl)
          try simp only [Act.put, List.setIfInBounds_toArray, List.set_cons_zero, List.set_cons_succ]
          refine wpAnyZ_takeY (i := 13) (oi := { dst := some 40, op := Op.nilCheck (Operand.tmp 39), type := 0, pos := "ref.go:50", after := #[{ on := 12, ground := Ground.data }], guard := none }) (v := ?_) rfl (by kernel_rfl) (by kernel_rfl) (by kernel_rfl) (by rfl) (fun _ _ _ h => h) (Or.inl ⟨by rfl, ?_⟩) (by assumption) ?_
          rotate_left
          · (intro w; go_simp); (first | done | with_reducible rfl)
          try simp only [Act.put, List.setIfInBounds_toArray, List.set_cons_zero, List.set_cons_succ]
          refine wpAnyZ_takeY (i := 14) (oi := { dst := some 41, op := Op.fieldAddr 91 (Operand.tmp 40) 4, type := 0, pos := "ref.go:50", after := #[{ on := 13, ground := Ground.data }], guard := none }) (v := ?_) rfl (by kernel_rfl) (by kernel_rfl) (by kernel_rfl) (by rfl) (fun _ _ _ h => h) (Or.inl ⟨by rfl, ?_⟩) (by assumption) ?_
          rotate_left
          · (intro w; go_simp); (first | done | with_reducible rfl)
          try simp only [Act.put, List.setIfInBounds_toArray, List.set_cons_zero, List.set_cons_succ]
          refine wpAnyZ_take (i := 15) (oi := { dst := some 42, op := Op.load 89 (Operand.tmp 41), type := 89, pos := "ref.go:50", after := #[{ on := 14, ground := Ground.data }], guard := none }) (v := ?_) [17, 18, 19, 20, 21] rfl (by kernel_rfl) (by kernel_rfl) (by kernel_rfl) (by kernel_rfl) (fun _ _ _ h => h) (Or.inl ⟨by rfl, ?_⟩) (by assumption) ?_
          rotate_left
          · (intro w hSw; (try dsimp only at hSw); go_simp); (first | done | with_reducible rfl)
          try simp only [Act.put, List.setIfInBounds_toArray, List.set_cons_zero, List.set_cons_succ]
          refine wpAnyZ_takeY (i := 16) (oi := { dst := some 43, op := Op.move (Operand.tmp 4), type := 3, pos := "ref.go:50", after := #[], guard := none }) (v := ?_) rfl (by kernel_rfl) (by kernel_rfl) (by kernel_rfl) (by rfl) (fun _ _ _ h => h) (Or.inl ⟨by rfl, ?_⟩) (by assumption) ?_
          rotate_left
          · (intro w; go_simp); (first | done | with_reducible rfl)
          try simp only [Act.put, List.setIfInBounds_toArray, List.set_cons_zero, List.set_cons_succ]
          refine wpAnyZ_takeY (i := 17) (oi := { dst := some 44, op := Op.slice 89 (Operand.tmp 42) (some (Operand.tmp 43)) none none, type := 89, pos := "ref.go:50", after := #[{ on := 15, ground := Ground.data }, { on := 16, ground := Ground.data }], guard := none }) (v := ?_) rfl (by kernel_rfl) (by kernel_rfl) (by kernel_rfl) (by rfl) (fun _ _ _ h => h) (Or.inl ⟨by rfl, ?_⟩) (by assumption) ?_
          rotate_left
          · (intro w; go_simp); (first | done | with_reducible rfl)
          try simp only [Act.put, List.setIfInBounds_toArray, List.set_cons_zero, List.set_cons_succ]
          refine wpAnyZ_ready (rs := [1, 10]) (by kernel_rfl) (by simp) ?_
          refine AllReadyZ.cons (o := { dst := some 28, op := Op.buildSlice 89 0 #[], type := 89, pos := "ref.go:50", after := #[], guard := none }) rfl (by rfl) (fun K hK => ?_) (AllReadyZ.cons (o := { dst := some 37, op := Op.buildSlice 89 1 #[(0, Operand.tmp 36)], type := 89, pos := "ref.go:50", after := #[{ on := 9, ground := Ground.data }], guard := none }) rfl (by rfl) (fun K hK => ?_) (AllReadyZ.nil))
          · go_simp
            have HOo := Lib.hid (World.ownsRow_made (base := W1.heap.size) (e := 95) (size := 3) wd #[] 0 HB.out.size (by unfold maxLen; omega) rfl)
            replace HB := Lib.hid (HB.out.alloc HB.out.size (.cells #[] 95))
            generalize hq1 : wd.heap.size = q1 at *
            generalize hw1 : wd.alloc (.cells #[] 95) = w1 at *
            clear hq1 hw1
            refine hK.out _ _ ?_ (fun hHeld => ?_)
            · exact ⟨(HBK.out.below HB.out).cell 4, (HFB.out.below HB.out).cell 0, (HFB.out.below HB.out).cell 1, (HFB.out.below HB.out).cell 2⟩
            clear hK K
            try simp only [Act.put, List.setIfInBounds_toArray, List.set_cons_zero, List.set_cons_succ]
            refine wpAnyZ_ready (rs := [8, 10]) (by kernel_rfl) (by simp) ?_
            refine AllReadyZ.cons (o := { dst := some 35, op := Op.call { callee := Callee.builtin Builtin.append, args := #[Operand.tmp 28, Operand.tmp 34], argTypes := #[89, 89] }, type := 89, pos := "ref.go:50", after := #[{ on := 1, ground := Ground.data }, { on := 7, ground := Ground.data }], guard := none }) rfl (by rfl) (fun K hK => ?_) (AllReadyZ.cons (o := { dst := some 37, op := Op.buildSlice 89 1 #[(0, Operand.tmp 36)], type := 89, pos := "ref.go:50", after := #[{ on := 9, ground := Ground.data }], guard := none }) rfl (by rfl) (fun K hK => ?_) (AllReadyZ.nil))
            · refine step_append_at5 (by rfl) _ _ 89 (by rfl) W1.heap.size 95 i0 (.agg #[.string ⟨#[]⟩, .string ⟨#[]⟩, .int .i64 0]) 3 40 Try.underlying89 hi0 hz0 hz1 hz2 rfl (by decide) (.slice (some ⟨q1, 0, none⟩) 0 0) 0 [] (by rfl) HOo.out ⟨g, 0, none⟩ k c.c (flsV (D.L.take k)) (by rfl) (by rw [flsV_len, HE0.out]) (fun j u hu => by rw [Addr.add_lit, Nat.zero_add]; exact HROW.out _ HB.out j u (flsV_pre D.L k (by omega) j u hu)) (flsV_one _) (by unfold maxLen; omega) (by omega) HB.out.size ?_
              intro v8 w8 ho8 hg8 hat8
              rw [Nat.zero_add, List.nil_append] at ho8
              obtain ⟨a8, c8, rfl⟩ := row_shape5 ho8
              have HO8 := Lib.hid ho8
              replace HB := Lib.hid (HB.out.grown hg8 HB.out.size (fun q hq => (HOo.out.lt q hq).1))
              clear ho8 hg8 hat8 HOo
              refine hK.out _ _ ?_ (fun hHeld => ?_)
              · exact ⟨(HBK.out.below HB.out).cell 4, (HFB.out.below HB.out).cell 0, (HFB.out.below HB.out).cell 1, (HFB.out.below HB.out).cell 2⟩
              clear hK K
              try simp only [Act.put, List.setIfInBounds_toArray, List.set_cons_zero, List.set_cons_succ]
              refine wpAnyZ_ready (rs := [10]) (by kernel_rfl) (by simp) ?_
              refine AllReadyZ.cons (o := { dst := some 37, op := Op.buildSlice 89 1 #[(0, Operand.tmp 36)], type := 89, pos := "ref.go:50", after := #[{ on := 9, ground := Ground.data }], guard := none }) rfl (by rfl) (fun K hK => ?_) (AllReadyZ.nil)
              go_simp
              have HNE := Lib.hid (show ∀ q, (Value.slice a8 k c8).ownBlock = some q → q ≠ w8.heap.size from fun q hq e => by have := (HO8.out.lt q hq).2; omega)
              replace HO8 := Lib.hid (HO8.out.alloc (.cells #[.string (S f.name), .string (S f.dat), .int .i64 f.safe] 95))
              have HY := Lib.hid (show Bk #[.string (S f.name), .string (S f.dat), .int .i64 f.safe] 95 (w8.alloc (.cells #[.string (S f.name), .string (S f.dat), .int .i64 f.safe] 95)) w8.heap.size from bk_new _ _ _)
              replace HB := Lib.hid (HB.out.alloc HB.out.size (.cells #[.string (S f.name), .string (S f.dat), .int .i64 f.safe] 95))
              generalize hq10 : w8.heap.size = q10 at *
              generalize hw10 : w8.alloc (.cells #[.string (S f.name), .string (S f.dat), .int .i64 f.safe] 95) = w10 at *
              clear hq10 hw10
              refine hK.out _ _ ?_ (fun hHeld => ?_)
              · exact ⟨(HBK.out.below HB.out).cell 4, (HFB.out.below HB.out).cell 0, (HFB.out.below HB.out).cell 1, (HFB.out.below HB.out).cell 2⟩
              clear hK K
              try simp only [Act.put, List.setIfInBounds_toArray, List.set_cons_zero, List.set_cons_succ]
              refine wpAnyZ_ready (rs := [11]) (by kernel_rfl) (by simp) ?_
              refine AllReadyZ.cons (o := { dst := some 38, op := Op.call { callee := Callee.builtin Builtin.append, args := #[Operand.tmp 35, Operand.tmp 37], argTypes := #[89, 89] }, type := 89, pos := "ref.go:50", after := #[{ on := 8, ground := Ground.data }, { on := 10, ground := Ground.data }, { on := 8, ground := Ground.chain }], guard := none }) rfl (by rfl) (fun K hK => ?_) (AllReadyZ.nil)
              refine step_append_at5 (by rfl) _ _ 89 (by rfl) W1.heap.size 95 i0 (.agg #[.string ⟨#[]⟩, .string ⟨#[]⟩, .int .i64 0]) 3 40 Try.underlying89 hi0 hz0 hz1 hz2 rfl (by decide) (Value.slice a8 k c8) k (flsV (D.L.take k)) (by rfl) HO8.out ⟨q10, 0, none⟩ 1 1 (fl3 f) (by rfl) rfl (fun j u hu => by rw [Addr.add_lit, Nat.zero_add]; exact (HY.out.cell j).trans (by rw [← hu]; simp [fl3])) (fun u hu => by simp [fl3] at hu; rcases hu with rfl | rfl | rfl <;> rfl) (by unfold maxLen; omega) (by omega) HB.out.size ?_
              intro v11 w11 ho11 hg11 _
              replace ho11 : w11.ownsRow W1.heap.size 95 3 v11 (k + 1) (flsV (D.L.take k ++ [f])) := by rw [flsV_app]; exact ho11
              obtain ⟨a11, c11, rfl⟩ := row_shape5 ho11
              have HO11 := Lib.hid ho11
              replace HB := Lib.hid (HB.out.grown hg11 HB.out.size (fun q hq => (HO8.out.lt q hq).1))
              clear ho11 hg11 HO8 HY HNE
              refine hK.out _ _ ?_ (fun hHeld => ?_)
              · exact ⟨(HBK.out.below HB.out).cell 4, (HFB.out.below HB.out).cell 0, (HFB.out.below HB.out).cell 1, (HFB.out.below HB.out).cell 2⟩
              clear hK K
              try simp only [Act.put, List.setIfInBounds_toArray, List.set_cons_zero, List.set_cons_succ]
              refine wpAnyZ_ready (rs := [18]) (by kernel_rfl) (by simp) ?_
              refine AllReadyZ.cons (o := { dst := some 45, op := Op.call { callee := Callee.builtin Builtin.append, args := #[Operand.tmp 38, Operand.tmp 44], argTypes := #[89, 89] }, type := 89, pos := "ref.go:50", after := #[{ on := 11, ground := Ground.data }, { on := 17, ground := Ground.data }, { on := 11, ground := Ground.chain }], guard := none }) rfl (by rfl) (fun K hK => ?_) (AllReadyZ.nil)
              refine step_append_at5 (by rfl) _ _ 89 (by rfl) W1.heap.size 95 i0 (.agg #[.string ⟨#[]⟩, .string ⟨#[]⟩, .int .i64 0]) 3 40 Try.underlying89 hi0 hz0 hz1 hz2 rfl (by decide) (.slice a11 (k + 1) c11) (k + 1) (flsV (D.L.take k ++ [f])) (by rfl) HO11.out ⟨g, k * 3, none⟩ (D.L.length - k) (c.c - k) (flsV (D.L.drop k)) (by rfl) (by rw [flsV_len, List.length_drop]) (fun j u hu => by rw [Addr.add_lit]; exact HROW.out _ HB.out _ u (flsV_suf D.L k (by omega) j u hu)) (flsV_one _) (by unfold maxLen; omega) (by omega) HB.out.size ?_
              intro v18 w18 ho18 hg18 _
              replace ho18 : w18.ownsRow W1.heap.size 95 3 v18 nL (flsV (D.L.take k ++ f :: D.L.drop k)) := by rw [show D.L.take k ++ f :: D.L.drop k = (D.L.take k ++ [f]) ++ D.L.drop k from by simp, flsV_app, show nL = k + 1 + (D.L.length - k) from by have := HNL.out; omega]; exact ho18
              obtain ⟨a18, c18, rfl⟩ := row_shape5 ho18
              have HO18 := Lib.hid ho18
              replace HB := Lib.hid (HB.out.grown hg18 HB.out.size (fun q hq => (HO11.out.lt q hq).1))
              clear ho18 hg18 HO11
              refine hK.out _ _ ?_ (fun hHeld => ?_)
              · exact ⟨(HBK.out.below HB.out).cell 4, (HFB.out.below HB.out).cell 0, (HFB.out.below HB.out).cell 1, (HFB.out.below HB.out).cell 2⟩
              clear hK K
              try simp only [Act.put, List.setIfInBounds_toArray, List.set_cons_zero, List.set_cons_succ]
              refine wpAnyZ_takeY (i := 19) (oi := { dst := some 46, op := Op.nilCheck (Operand.tmp 27), type := 0, pos := "ref.go:50", after := #[{ on := 0, ground := Ground.data }, { on := 0, ground := Ground.phase }, { on := 1, ground := Ground.phase }, { on := 2, ground := Ground.phase }, { on := 3, ground := Ground.phase }, { on := 4, ground := Ground.phase }, { on := 5, ground := Ground.phase }, { on := 6, ground := Ground.phase }, { on := 7, ground := Ground.phase }, { on := 8, ground := Ground.phase }, { on := 9, ground := Ground.phase }, { on := 10, ground := Ground.phase }, { on := 11, ground := Ground.phase }, { on := 12, ground := Ground.phase }, { on := 13, ground := Ground.phase }, { on := 14, ground := Ground.phase }, { on := 15, ground := Ground.phase }, { on := 16, ground := Ground.phase }, { on := 17, ground := Ground.phase }, { on := 18, ground := Ground.phase }], guard := none }) (v := ?_) rfl (by kernel_rfl) (by kernel_rfl) (by kernel_rfl) (by rfl) (fun _ _ _ h => h) (Or.inl ⟨by rfl, ?_⟩) (by assumption) ?_
              rotate_left
              · (intro w; go_simp); (first | done | with_reducible rfl)
              try simp only [Act.put, List.setIfInBounds_toArray, List.set_cons_zero, List.set_cons_succ]
              refine wpAnyZ_takeY (i := 20) (oi := { dst := some 47, op := Op.fieldAddr 91 (Operand.tmp 46) 4, type := 0, pos := "ref.go:50", after := #[{ on := 19, ground := Ground.data }, { on := 0, ground := Ground.phase }, { on := 1, ground := Ground.phase }, { on := 2, ground := Ground.phase }, { on := 3, ground := Ground.phase }, { on := 4, ground := Ground.phase }, { on := 5, ground := Ground.phase }, { on := 6, ground := Ground.phase }, { on := 7, ground := Ground.phase }, { on := 8, ground := Ground.phase }, { on := 9, ground := Ground.phase }, { on := 10, ground := Ground.phase }, { on := 11, ground := Ground.phase }, { on := 12, ground := Ground.phase }, { on := 13, ground := Ground.phase }, { on := 14, ground := Ground.phase }, { on := 15, ground := Ground.phase }, { on := 16, ground := Ground.phase }, { on := 17, ground := Ground.phase }, { on := 18, ground := Ground.phase }], guard := none }) (v := ?_) rfl (by kernel_rfl) (by kernel_rfl) (by kernel_rfl) (by rfl) (fun _ _ _ h => h) (Or.inl ⟨by rfl, ?_⟩) (by assumption) ?_
              rotate_left
              · (intro w; go_simp); (first | done | with_reducible rfl)
              try simp only [Act.put, List.setIfInBounds_toArray, List.set_cons_zero, List.set_cons_succ]
              refine wpAnyZ_ready (rs := [21]) (by kernel_rfl) (by simp) ?_
              refine AllReadyZ.last (o := { dst := none, op := Op.store 89 (Operand.tmp 47) (Operand.tmp 45), type := 0, pos := "ref.go:50", after := #[{ on := 20, ground := Ground.data }, { on := 18, ground := Ground.data }, { on := 18, ground := Ground.chain }, { on := 0, ground := Ground.phase }, { on := 1, ground := Ground.phase }, { on := 2, ground := Ground.phase }, { on := 3, ground := Ground.phase }, { on := 4, ground := Ground.phase }, { on := 5, ground := Ground.phase }, { on := 6, ground := Ground.phase }, { on := 7, ground := Ground.phase }, { on := 8, ground := Ground.phase }, { on := 9, ground := Ground.phase }, { on := 10, ground := Ground.phase }, { on := 11, ground := Ground.phase }, { on := 12, ground := Ground.phase }, { on := 13, ground := Ground.phase }, { on := 14, ground := Ground.phase }, { on := 15, ground := Ground.phase }, { on := 16, ground := Ground.phase }, { on := 17, ground := Ground.phase }, { on := 18, ground := Ground.phase }], guard := none }) rfl (fun K hK => ?_) AllReadyZ.nil
              have f0 := (HBK.out.below HB.out).free 4
              have m0 := (HBK.out.below HB.out).cell 4
              go_simp
              refine hK.out _ _ ?_
              clear hK K
              refine wpAny_done (by kernel_rfl) ?_ _
              go_wp2_with fail
              go_end0
              exact HFIN.out _ HB.out a18 c18 HO18.out
            · go_simp
              have HNE := Lib.hid (show q1 ≠ w1.heap.size from fun e => by have := (HOo.out.lt q1 rfl).2; omega)
              replace HOo := Lib.hid (HOo.out.alloc (.cells #[.string (S f.name), .string (S f.dat), .int .i64 f.safe] 95))
              have HY := Lib.hid (show Bk #[.string (S f.name), .string (S f.dat), .int .i64 f.safe] 95 (w1.alloc (.cells #[.string (S f.name), .string (S f.dat), .int .i64 f.safe] 95)) w1.heap.size from bk_new _ _ _)
              replace HB := Lib.hid (HB.out.alloc HB.out.size (.cells #[.string (S f.name), .string (S f.dat), .int .i64 f.safe] 95))
              generalize hq10 : w1.heap.size = q10 at *
              generalize hw10 : w1.alloc (.cells #[.string (S f.name), .string (S f.dat), .int .i64 f.safe] 95) = w10 at *
              clear hq10 hw10
              refine hK.out _ _ ?_ (fun hHeld => ?_)
              · exact ⟨(HBK.out.below HB.out).cell 4, (HFB.out.below HB.out).cell 0, (HFB.out.below HB.out).cell 1, (HFB.out.below HB.out).cell 2⟩
              clear hK K
              try simp only [Act.put, List.setIfInBounds_toArray, List.set_cons_zero, List.set_cons_succ]
              refine wpAnyZ_ready (rs := [8]) (by kernel_rfl) (by simp) ?_
              refine AllReadyZ.cons (o := { dst := some 35, op := Op.call { callee := Callee.builtin Builtin.append, args := #[Operand.tmp 28, Operand.tmp 34], argTypes := #[89, 89] }, type := 89, pos := "ref.go:50", after := #[{ on := 1, ground := Ground.data }, { on := 7, ground := Ground.data }], guard := none }) rfl (by rfl) (fun K hK => ?_) (AllReadyZ.nil)
              refine step_append_at5 (by rfl) _ _ 89 (by rfl) W1.heap.size 95 i0 (.agg #[.string ⟨#[]⟩, .string ⟨#[]⟩, .int .i64 0]) 3 40 Try.underlying89 hi0 hz0 hz1 hz2 rfl (by decide) (.slice (some ⟨q1, 0, none⟩) 0 0) 0 [] (by rfl) HOo.out ⟨g, 0, none⟩ k c.c (flsV (D.L.take k)) (by rfl) (by rw [flsV_len, HE0.out]) (fun j u hu => by rw [Addr.add_lit, Nat.zero_add]; exact HROW.out _ HB.out j u (flsV_pre D.L k (by omega) j u hu)) (flsV_one _) (by unfold maxLen; omega) (by omega) HB.out.size ?_
              intro v8 w8 ho8 hg8 hat8
              rw [Nat.zero_add, List.nil_append] at ho8
              obtain ⟨a8, c8, rfl⟩ := row_shape5 ho8
              have HO8 := Lib.hid ho8
              replace HB := Lib.hid (HB.out.grown hg8 HB.out.size (fun q hq => (HOo.out.lt q hq).1))
              have HYL := Lib.hid (show q10 < w10.heap.size from HY.out.lt)
              replace HY := Lib.hid (HY.out.grown hg8 (fun e => HNE.out (by cases e; rfl)))
              replace HNE := Lib.hid (show ∀ q, (Value.slice a8 k c8).ownBlock = some q → q ≠ q10 from fun q hq e => by rcases hat8 with h | h; exact HNE.out (by rw [hq] at h; cases h; exact e); rw [hq] at h; cases h; have := HYL.out; omega)
              clear HYL
              clear ho8 hg8 hat8 HOo
              refine hK.out _ _ ?_ (fun hHeld => ?_)
              · exact ⟨(HBK.out.below HB.out).cell 4, (HFB.out.below HB.out).cell 0, (HFB.out.below HB.out).cell 1, (HFB.out.below HB.out).cell 2⟩
              clear hK K
              try simp only [Act.put, List.setIfInBounds_toArray, List.set_cons_zero, List.set_cons_succ]
              refine wpAnyZ_ready (rs := [11]) (by kernel_rfl) (by simp) ?_
              refine AllReadyZ.cons (o := { dst := some 38, op := Op.call { callee := Callee.builtin Builtin.append, args := #[Operand.tmp 35, Operand.tmp 37], argTypes := #[89, 89] }, type := 89, pos := "ref.go:50", after := #[{ on := 8, ground := Ground.data }, { on := 10, ground := Ground.data }, { on := 8, ground := Ground.chain }], guard := none }) rfl (by rfl) (fun K hK => ?_) (AllReadyZ.nil)
              refine step_append_at5 (by rfl) _ _ 89 (by rfl) W1.heap.size 95 i0 (.agg #[.string ⟨#[]⟩, .string ⟨#[]⟩, .int .i64 0]) 3 40 Try.underlying89 hi0 hz0 hz1 hz2 rfl (by decide) (Value.slice a8 k c8) k (flsV (D.L.take k)) (by rfl) HO8.out ⟨q10, 0, none⟩ 1 1 (fl3 f) (by rfl) rfl (fun j u hu => by rw [Addr.add_lit, Nat.zero_add]; exact (HY.out.cell j).trans (by rw [← hu]; simp [fl3])) (fun u hu => by simp [fl3] at hu; rcases hu with rfl | rfl | rfl <;> rfl) (by unfold maxLen; omega) (by omega) HB.out.size ?_
              intro v11 w11 ho11 hg11 _
              replace ho11 : w11.ownsRow W1.heap.size 95 3 v11 (k + 1) (flsV (D.L.take k ++ [f])) := by rw [flsV_app]; exact ho11
              obtain ⟨a11, c11, rfl⟩ := row_shape5 ho11
              have HO11 := Lib.hid ho11
              replace HB := Lib.hid (HB.out.grown hg11 HB.out.size (fun q hq => (HO8.out.lt q hq).1))
              clear ho11 hg11 HO8 HY HNE
              refine hK.out _ _ ?_ (fun hHeld => ?_)
              · exact ⟨(HBK.out.below HB.out).cell 4, (HFB.out.below HB.out).cell 0, (HFB.out.below HB.out).cell 1, (HFB.out.below HB.out).cell 2⟩
              clear hK K
              try simp only [Act.put, List.setIfInBounds_toArray, List.set_cons_zero, List.set_cons_succ]
              refine wpAnyZ_ready (rs := [18]) (by kernel_rfl) (by simp) ?_
              refine AllReadyZ.cons (o := { dst := some 45, op := Op.call { callee := Callee.builtin Builtin.append, args := #[Operand.tmp 38, Operand.tmp 44], argTypes := #[89, 89] }, type := 89, pos := "ref.go:50", after := #[{ on := 11, ground := Ground.data }, { on := 17, ground := Ground.data }, { on := 11, ground := Ground.chain }], guard := none }) rfl (by rfl) (fun K hK => ?_) (AllReadyZ.nil)
              refine step_append_at5 (by rfl) _ _ 89 (by rfl) W1.heap.size 95 i0 (.agg #[.string ⟨#[]⟩, .string ⟨#[]⟩, .int .i64 0]) 3 40 Try.underlying89 hi0 hz0 hz1 hz2 rfl (by decide) (.slice a11 (k + 1) c11) (k + 1) (flsV (D.L.take k ++ [f])) (by rfl) HO11.out ⟨g, k * 3, none⟩ (D.L.length - k) (c.c - k) (flsV (D.L.drop k)) (by rfl) (by rw [flsV_len, List.length_drop]) (fun j u hu => by rw [Addr.add_lit]; exact HROW.out _ HB.out _ u (flsV_suf D.L k (by omega) j u hu)) (flsV_one _) (by unfold maxLen; omega) (by omega) HB.out.size ?_
              intro v18 w18 ho18 hg18 _
              replace ho18 : w18.ownsRow W1.heap.size 95 3 v18 nL (flsV (D.L.take k ++ f :: D.L.drop k)) := by rw [show D.L.take k ++ f :: D.L.drop k = (D.L.take k ++ [f]) ++ D.L.drop k from by simp, flsV_app, show nL = k + 1 + (D.L.length - k) from by have := HNL.out; omega]; exact ho18
              obtain ⟨a18, c18, rfl⟩ := row_shape5 ho18
              have HO18 := Lib.hid ho18
              replace HB := Lib.hid (HB.out.grown hg18 HB.out.size (fun q hq => (HO11.out.lt q hq).1))
              clear ho18 hg18 HO11
              refine hK.out _ _ ?_ (fun hHeld => ?_)
              · exact ⟨(HBK.out.below HB.out).cell 4, (HFB.out.below HB.out).cell 0, (HFB.out.below HB.out).cell 1, (HFB.out.below HB.out).cell 2⟩
              clear hK K
              try simp only [Act.put, List.setIfInBounds_toArray, List.set_cons_zero, List.set_cons_succ]
              refine wpAnyZ_takeY (i := 19) (oi := { dst := some 46, op := Op.nilCheck (Operand.tmp 27), type := 0, pos := "ref.go:50", after := #[{ on := 0, ground := Ground.data }, { on := 0, ground := Ground.phase }, { on := 1, ground := Ground.phase }, { on := 2, ground := Ground.phase }, { on := 3, ground := Ground.phase }, { on := 4, ground := Ground.phase }, { on := 5, ground := Ground.phase }, { on := 6, ground := Ground.phase }, { on := 7, ground := Ground.phase }, { on := 8, ground := Ground.phase }, { on := 9, ground := Ground.phase }, { on := 10, ground := Ground.phase }, { on := 11, ground := Ground.phase }, { on := 12, ground := Ground.phase }, { on := 13, ground := Ground.phase }, { on := 14, ground := Ground.phase }, { on := 15, ground := Ground.phase }, { on := 16, ground := Ground.phase }, { on := 17, ground := Ground.phase }, { on := 18, ground := Ground.phase }], guard := none }) (v := ?_) rfl (by kernel_rfl) (by kernel_rfl) (by kernel_rfl) (by rfl) (fun _ _ _ h => h) (Or.inl ⟨by rfl, ?_⟩) (by assumption) ?_
              rotate_left
              · (intro w; go_simp); (first | done | with_reducible rfl)
              try simp only [Act.put, List.setIfInBounds_toArray, List.set_cons_zero, List.set_cons_succ]
              refine wpAnyZ_takeY (i := 20) (oi := { dst := some 47, op := Op.fieldAddr 91 (Operand.tmp 46) 4, type := 0, pos := "ref.go:50", after := #[{ on := 19, ground := Ground.data }, { on := 0, ground := Ground.phase }, { on := 1, ground := Ground.phase }, { on := 2, ground := Ground.phase }, { on := 3, ground := Ground.phase }, { on := 4, ground := Ground.phase }, { on := 5, ground := Ground.phase }, { on := 6, ground := Ground.phase }, { on := 7, ground := Ground.phase }, { on := 8, ground := Ground.phase }, { on := 9, ground := Ground.phase }, { on := 10, ground := Ground.phase }, { on := 11, ground := Ground.phase }, { on := 12, ground := Ground.phase }, { on := 13, ground := Ground.phase }, { on := 14, ground := Ground.phase }, { on := 15, ground := Ground.phase }, { on := 16, ground := Ground.phase }, { on := 17, ground := Ground.phase }, { on := 18, ground := Ground.phase }], guard := none }) (v := ?_) rfl (by kernel_rfl) (by kernel_rfl) (by kernel_rfl) (by rfl) (fun _ _ _ h => h) (Or.inl ⟨by rfl, ?_⟩) (by assumption) ?_
              rotate_left
              · (intro w; go_simp); (first | done | with_reducible rfl)
              try simp only [Act.put, List.setIfInBounds_toArray, List.set_cons_zero, List.set_cons_succ]
              refine wpAnyZ_ready (rs := [21]) (by kernel_rfl) (by simp) ?_
              refine AllReadyZ.last (o := { dst := none, op := Op.store 89 (Operand.tmp 47) (Operand.tmp 45), type := 0, pos := "ref.go:50", after := #[{ on := 20, ground := Ground.data }, { on := 18, ground := Ground.data }, { on := 18, ground := Ground.chain }, { on := 0, ground := Ground.phase }, { on := 1, ground := Ground.phase }, { on := 2, ground := Ground.phase }, { on := 3, ground := Ground.phase }, { on := 4, ground := Ground.phase }, { on := 5, ground := Ground.phase }, { on := 6, ground := Ground.phase }, { on := 7, ground := Ground.phase }, { on := 8, ground := Ground.phase }, { on := 9, ground := Ground.phase }, { on := 10, ground := Ground.phase }, { on := 11, ground := Ground.phase }, { on := 12, ground := Ground.phase }, { on := 13, ground := Ground.phase }, { on := 14, ground := Ground.phase }, { on := 15, ground := Ground.phase }, { on := 16, ground := Ground.phase }, { on := 17, ground := Ground.phase }, { on := 18, ground := Ground.phase }], guard := none }) rfl (fun K hK => ?_) AllReadyZ.nil
              have f0 := (HBK.out.below HB.out).free 4
              have m0 := (HBK.out.below HB.out).cell 4
              go_simp
              refine hK.out _ _ ?_
              clear hK K
              refine wpAny_done (by kernel_rfl) ?_ _
              go_wp2_with fail
              go_end0
              exact HFIN.out _ HB.out a18 c18 HO18.out
          · go_simp
            have HY := Lib.hid (show Bk #[.string (S f.name), .string (S f.dat), .int .i64 f.safe] 95 (wd.alloc (.cells #[.string (S f.name), .string (S f.dat), .int .i64 f.safe] 95)) wd.heap.size from bk_new _ _ _)
            replace HB := Lib.hid (HB.out.alloc HB.out.size (.cells #[.string (S f.name), .string (S f.dat), .int .i64 f.safe] 95))
            generalize hq10 : wd.heap.size = q10 at *
            generalize hw10 : wd.alloc (.cells #[.string (S f.name), .string (S f.dat), .int .i64 f.safe] 95) = w10 at *
            clear hq10 hw10
            refine hK.out _ _ ?_ (fun hHeld => ?_)
            · exact ⟨(HBK.out.below HB.out).cell 4, (HFB.out.below HB.out).cell 0, (HFB.out.below HB.out).cell 1, (HFB.out.below HB.out).cell 2⟩
            clear hK K
            try simp only [Act.put, List.setIfInBounds_toArray, List.set_cons_zero, List.set_cons_succ]
            refine wpAnyZ_ready (rs := [1]) (by kernel_rfl) (by simp) ?_
            refine AllReadyZ.cons (o := { dst := some 28, op := Op.buildSlice 89 0 #[], type := 89, pos := "ref.go:50", after := #[], guard := none }) rfl (by rfl) (fun K hK => ?_) (AllReadyZ.nil)
            go_simp
            have HOo := Lib.hid (World.ownsRow_made (base := W1.heap.size) (e := 95) (size := 3) w10 #[] 0 HB.out.size (by unfold maxLen; omega) rfl)
            replace HB := Lib.hid (HB.out.alloc HB.out.size (.cells #[] 95))
            have HNE := Lib.hid (show w10.heap.size ≠ q10 from fun e => by have := HY.out.lt; omega)
            replace HY := Lib.hid (HY.out.more (.cells #[] 95))
            generalize hq1 : w10.heap.size = q1 at *
            generalize hw1 : w10.alloc (.cells #[] 95) = w1 at *
            clear hq1 hw1
            refine hK.out _ _ ?_ (fun hHeld => ?_)
            · exact ⟨(HBK.out.below HB.out).cell 4, (HFB.out.below HB.out).cell 0, (HFB.out.below HB.out).cell 1, (HFB.out.below HB.out).cell 2⟩
            clear hK K
            try simp only [Act.put, List.setIfInBounds_toArray, List.set_cons_zero, List.set_cons_succ]
            refine wpAnyZ_ready (rs := [8]) (by kernel_rfl) (by simp) ?_
            refine AllReadyZ.cons (o := { dst := some 35, op := Op.call { callee := Callee.builtin Builtin.append, args := #[Operand.tmp 28, Operand.tmp 34], argTypes := #[89, 89] }, type := 89, pos := "ref.go:50", after := #[{ on := 1, ground := Ground.data }, { on := 7, ground := Ground.data }], guard := none }) rfl (by rfl) (fun K hK => ?_) (AllReadyZ.nil)
            refine step_append_at5 (by rfl) _ _ 89 (by rfl) W1.heap.size 95 i0 (.agg #[.string ⟨#[]⟩, .string ⟨#[]⟩, .int .i64 0]) 3 40 Try.underlying89 hi0 hz0 hz1 hz2 rfl (by decide) (.slice (some ⟨q1, 0, none⟩) 0 0) 0 [] (by rfl) HOo.out ⟨g, 0, none⟩ k c.c (flsV (D.L.take k)) (by rfl) (by rw [flsV_len, HE0.out]) (fun j u hu => by rw [Addr.add_lit, Nat.zero_add]; exact HROW.out _ HB.out j u (flsV_pre D.L k (by omega) j u hu)) (flsV_one _) (by unfold maxLen; omega) (by omega) HB.out.size ?_
            intro v8 w8 ho8 hg8 hat8
            rw [Nat.zero_add, List.nil_append] at ho8
            obtain ⟨a8, c8, rfl⟩ := row_shape5 ho8
            have HO8 := Lib.hid ho8
            replace HB := Lib.hid (HB.out.grown hg8 HB.out.size (fun q hq => (HOo.out.lt q hq).1))
            have HYL := Lib.hid (show q10 < w1.heap.size from HY.out.lt)
            replace HY := Lib.hid (HY.out.grown hg8 (fun e => HNE.out (by cases e; rfl)))
            replace HNE := Lib.hid (show ∀ q, (Value.slice a8 k c8).ownBlock = some q → q ≠ q10 from fun q hq e => by rcases hat8 with h | h; exact HNE.out (by rw [hq] at h; cases h; exact e); rw [hq] at h; cases h; have := HYL.out; omega)
            clear HYL
            clear ho8 hg8 hat8 HOo
            refine hK.out _ _ ?_ (fun hHeld => ?_)
            · exact ⟨(HBK.out.below HB.out).cell 4, (HFB.out.below HB.out).cell 0, (HFB.out.below HB.out).cell 1, (HFB.out.below HB.out).cell 2⟩
            clear hK K
            try simp only [Act.put, List.setIfInBounds_toArray, List.set_cons_zero, List.set_cons_succ]
            refine wpAnyZ_ready (rs := [11]) (by kernel_rfl) (by simp) ?_
            refine AllReadyZ.cons (o := { dst := some 38, op := Op.call { callee := Callee.builtin Builtin.append, args := #[Operand.tmp 35, Operand.tmp 37], argTypes := #[89, 89] }, type := 89, pos := "ref.go:50", after := #[{ on := 8, ground := Ground.data }, { on := 10, ground := Ground.data }, { on := 8, ground := Ground.chain }], guard := none }) rfl (by rfl) (fun K hK => ?_) (AllReadyZ.nil)
            refine step_append_at5 (by rfl) _ _ 89 (by rfl) W1.heap.size 95 i0 (.agg #[.string ⟨#[]⟩, .string ⟨#[]⟩, .int .i64 0]) 3 40 Try.underlying89 hi0 hz0 hz1 hz2 rfl (by decide) (Value.slice a8 k c8) k (flsV (D.L.take k)) (by rfl) HO8.out ⟨q10, 0, none⟩ 1 1 (fl3 f) (by rfl) rfl (fun j u hu => by rw [Addr.add_lit, Nat.zero_add]; exact (HY.out.cell j).trans (by rw [← hu]; simp [fl3])) (fun u hu => by simp [fl3] at hu; rcases hu with rfl | rfl | rfl <;> rfl) (by unfold maxLen; omega) (by omega) HB.out.size ?_
            intro v11 w11 ho11 hg11 _
            replace ho11 : w11.ownsRow W1.heap.size 95 3 v11 (k + 1) (flsV (D.L.take k ++ [f])) := by rw [flsV_app]; exact ho11
            obtain ⟨a11, c11, rfl⟩ := row_shape5 ho11
            have HO11 := Lib.hid ho11
            replace HB := Lib.hid (HB.out.grown hg11 HB.out.size (fun q hq => (HO8.out.lt q hq).1))
            clear ho11 hg11 HO8 HY HNE
            refine hK.out _ _ ?_ (fun hHeld => ?_)
            · exact ⟨(HBK.out.below HB.out).cell 4, (HFB.out.below HB.out).cell 0, (HFB.out.below HB.out).cell 1, (HFB.out.below HB.out).cell 2⟩
            clear hK K
            try simp only [Act.put, List.setIfInBounds_toArray, List.set_cons_zero, List.set_cons_succ]
            refine wpAnyZ_ready (rs := [18]) (by kernel_rfl) (by simp) ?_
            refine AllReadyZ.cons (o := { dst := some 45, op := Op.call { callee := Callee.builtin Builtin.append, args := #[Operand.tmp 38, Operand.tmp 44], argTypes := #[89, 89] }, type := 89, pos := "ref.go:50", after := #[{ on := 11, ground := Ground.data }, { on := 17, ground := Ground.data }, { on := 11, ground := Ground.chain }], guard := none }) rfl (by rfl) (fun K hK => ?_) (AllReadyZ.nil)
            refine step_append_at5 (by rfl) _ _ 89 (by rfl) W1.heap.size 95 i0 (.agg #[.string ⟨#[]⟩, .string ⟨#[]⟩, .int .i64 0]) 3 40 Try.underlying89 hi0 hz0 hz1 hz2 rfl (by decide) (.slice a11 (k + 1) c11) (k + 1) (flsV (D.L.take k ++ [f])) (by rfl) HO11.out ⟨g, k * 3, none⟩ (D.L.length - k) (c.c - k) (flsV (D.L.drop k)) (by rfl) (by rw [flsV_len, List.length_drop]) (fun j u hu => by rw [Addr.add_lit]; exact HROW.out _ HB.out _ u (flsV_suf D.L k (by omega) j u hu)) (flsV_one _) (by unfold maxLen; omega) (by omega) HB.out.size ?_
            intro v18 w18 ho18 hg18 _
            replace ho18 : w18.ownsRow W1.heap.size 95 3 v18 nL (flsV (D.L.take k ++ f :: D.L.drop k)) := by rw [show D.L.take k ++ f :: D.L.drop k = (D.L.take k ++ [f]) ++ D.L.drop k from by simp, flsV_app, show nL = k + 1 + (D.L.length - k) from by have := HNL.out; omega]; exact ho18
            obtain ⟨a18, c18, rfl⟩ := row_shape5 ho18
            have HO18 := Lib.hid ho18
            replace HB := Lib.hid (HB.out.grown hg18 HB.out.size (fun q hq => (HO11.out.lt q hq).1))
            clear ho18 hg18 HO11
            refine hK.out _ _ ?_ (fun hHeld => ?_)
            · exact ⟨(HBK.out.below HB.out).cell 4, (HFB.out.below HB.out).cell 0, (HFB.out.below HB.out).cell 1, (HFB.out.below HB.out).cell 2⟩
            clear hK K
            try simp only [Act.put, List.setIfInBounds_toArray, List.set_cons_zero, List.set_cons_succ]
            refine wpAnyZ_takeY (i := 19) (oi := { dst := some 46, op := Op.nilCheck (Operand.tmp 27), type := 0, pos := "ref.go:50", after := #[{ on := 0, ground := Ground.data }, { on := 0, ground := Ground.phase }, { on := 1, ground := Ground.phase }, { on := 2, ground := Ground.phase }, { on := 3, ground := Ground.phase }, { on := 4, ground := Ground.phase }, { on := 5, ground := Ground.phase }, { on := 6, ground := Ground.phase }, { on := 7, ground := Ground.phase }, { on := 8, ground := Ground.phase }, { on := 9, ground := Ground.phase }, { on := 10, ground := Ground.phase }, { on := 11, ground := Ground.phase }, { on := 12, ground := Ground.phase }, { on := 13, ground := Ground.phase }, { on := 14, ground := Ground.phase }, { on := 15, ground := Ground.phase }, { on := 16, ground := Ground.phase }, { on := 17, ground := Ground.phase }, { on := 18, ground := Ground.phase }], guard := none }) (v := ?_) rfl (by kernel_rfl) (by kernel_rfl) (by kernel_rfl) (by rfl) (fun _ _ _ h => h) (Or.inl ⟨by rfl, ?_⟩) (by assumption) ?_
            rotate_left
            · (intro w; go_simp); (first | done | with_reducible rfl)
            try simp only [Act.put, List.setIfInBounds_toArray, List.set_cons_zero, List.set_cons_succ]
            refine wpAnyZ_takeY (i := 20) (oi := { dst := some 47, op := Op.fieldAddr 91 (Operand.tmp 46) 4, type := 0, pos := "ref.go:50", after := #[{ on := 19, ground := Ground.data }, { on := 0, ground := Ground.phase }, { on := 1, ground := Ground.phase }, { on := 2, ground := Ground.phase }, { on := 3, ground := Ground.phase }, { on := 4, ground := Ground.phase }, { on := 5, ground := Ground.phase }, { on := 6, ground := Ground.phase }, { on := 7, ground := Ground.phase }, { on := 8, ground := Ground.phase }, { on := 9, ground := Ground.phase }, { on := 10, ground := Ground.phase }, { on := 11, ground := Ground.phase }, { on := 12, ground := Ground.phase }, { on := 13, ground := Ground.phase }, { on := 14, ground := Ground.phase }, { on := 15, ground := Ground.phase }, { on := 16, ground := Ground.phase }, { on := 17, ground := Ground.phase }, { on := 18, ground := Ground.phase }], guard := none }) (v := ?_) rfl (by kernel_rfl) (by kernel_rfl) (by kernel_rfl) (by rfl) (fun _ _ _ h => h) (Or.inl ⟨by rfl, ?_⟩) (by assumption) ?_
            rotate_left
            · (intro w; go_simp); (first | done | with_reducible rfl)
            try simp only [Act.put, List.setIfInBounds_toArray, List.set_cons_zero, List.set_cons_succ]
            refine wpAnyZ_ready (rs := [21]) (by kernel_rfl) (by simp) ?_
            refine AllReadyZ.last (o := { dst := none, op := Op.store 89 (Operand.tmp 47) (Operand.tmp 45), type := 0, pos := "ref.go:50", after := #[{ on := 20, ground := Ground.data }, { on := 18, ground := Ground.data }, { on := 18, ground := Ground.chain }, { on := 0, ground := Ground.phase }, { on := 1, ground := Ground.phase }, { on := 2, ground := Ground.phase }, { on := 3, ground := Ground.phase }, { on := 4, ground := Ground.phase }, { on := 5, ground := Ground.phase }, { on := 6, ground := Ground.phase }, { on := 7, ground := Ground.phase }, { on := 8, ground := Ground.phase }, { on := 9, ground := Ground.phase }, { on := 10, ground := Ground.phase }, { on := 11, ground := Ground.phase }, { on := 12, ground := Ground.phase }, { on := 13, ground := Ground.phase }, { on := 14, ground := Ground.phase }, { on := 15, ground := Ground.phase }, { on := 16, ground := Ground.phase }, { on := 17, ground := Ground.phase }, { on := 18, ground := Ground.phase }], guard := none }) rfl (fun K hK => ?_) AllReadyZ.nil
            have f0 := (HBK.out.below HB.out).free 4
            have m0 := (HBK.out.below HB.out).cell 4
            go_simp
            refine hK.out _ _ ?_
            clear hK K
            refine wpAny_done (by kernel_rfl) ?_ _
            go_wp2_with fail
            go_end0
            exact HFIN.out _ HB.out a18 c18 HO18.out
        · rw [hc] at HBK
          have hfull : D.L.length = k := by omega
          have b5 : (k : Int) ≤ (k : Int) := by omega
          go_upto_region 4 with fail
          refine wp_region_Z (S := fun V => V.cell? ⟨r, 4, none⟩ = some (.slice (some ⟨g, 0, none⟩) D.L.length k) ∧ V.cell? ⟨fb, 0, none⟩ = some (.string (S f.name)) ∧ V.cell? ⟨fb, 1, none⟩ = some (.string (S f.dat)) ∧ V.cell? ⟨fb, 2, none⟩ = some (.int .i64 f.safe)) 21 (by kernel_rfl) ?_ (fun hHeld => ?_)
          · exact ⟨(HBK.out.below HB.out.drew).cell 4, (HFB.out.below HB.out.drew).cell 0, (HFB.out.below HB.out.drew).cell 1, (HFB.out.below HB.out.drew).cell 2⟩
          replace HB := Lib.hid HB.out.drew
          obtain ⟨wd, hwd⟩ : ∃ x, x = World.drew wz := ⟨_, rfl⟩
          rw [← hwd] at HB hHeld ⊢
          clear hwd
          refine wpAnyZ_takeY (i := 0) (oi := { dst := some 27, op := Op.move (Operand.tmp 0), type := 28, pos := "ref.go:50", after := #[], guard := none }) (v := ?_) rfl (by kernel_rfl) (by kernel_rfl) (by kernel_rfl) (by rfl) (fun _ _ _ h => h) (Or.inl ⟨by rfl, ?_⟩) (by assumption) ?_
          rotate_left
          · (intro w; go_simp); (first | done | with_reducible rfl)
          try simp only [Act.put, List.setIfInBounds_toArray, List.set_cons_zero, List.set_cons_succ]
          refine wpAnyZ_takeY (i := 2) (oi := { dst := some 29, op := Op.move (Operand.tmp 0), type := 28, pos := "ref.go:50", after := #[], guard := none }) (v := ?_) rfl (by kernel_rfl) (by kernel_rfl) (by kernel_rfl) (by rfl) (fun _ _ _ h => h) (Or.inl ⟨by rfl, ?_⟩) (by assumption) ?_
          rotate_left
          · (intro w; go_simp); (first | done | with_reducible rfl)
          try simp only [Act.put, List.setIfInBounds_toArray, List.set_cons_zero, List.set_cons_succ]
          refine wpAnyZ_takeY (i := 3) (oi := { dst := some 30, op := Op.nilCheck (Operand.tmp 29), type := 0, pos := "ref.go:50", after := #[{ on := 2, ground := Ground.data }], guard := none }) (v := ?_) rfl (by kernel_rfl) (by kernel_rfl) (by kernel_rfl) (by rfl) (fun _ _ _ h => h) (Or.inl ⟨by rfl, ?_⟩) (by assumption) ?_
          rotate_left
          · (intro w; go_simp); (first | done | with_reducible rfl)
          try simp only [Act.put, List.setIfInBounds_toArray, List.set_cons_zero, List.set_cons_succ]
          refine wpAnyZ_takeY (i := 4) (oi := { dst := some 31, op := Op.fieldAddr 91 (Operand.tmp 30) 4, type := 0, pos := "ref.go:50", after := #[{ on := 3, ground := Ground.data }], guard := none }) (v := ?_) rfl (by kernel_rfl) (by kernel_rfl) (by kernel_rfl) (by rfl) (fun _ _ _ h => h) (Or.inl ⟨by rfl, ?_⟩) (by assumption) ?_
          rotate_left
          · (intro w; go_simp); (first | done | with_reducible rfl)
          try simp only [Act.put, List.setIfInBounds_toArray, List.set_cons_zero, List.set_cons_succ]
          refine wpAnyZ_take (i := 5) (oi := { dst := some 32, op := Op.load 89 (Operand.tmp 31), type := 89, pos := "ref.go:50", after := #[{ on := 4, ground := Ground.data }], guard := none }) (v := ?_) [7, 8, 11, 18, 19, 20, 21] rfl (by kernel_rfl) (by kernel_rfl) (by kernel_rfl) (by kernel_rfl) (fun _ _ _ h => h) (Or.inl ⟨by rfl, ?_⟩) (by assumption) ?_
          rotate_left
          · (intro w hSw; (try dsimp only at hSw); go_simp); (first | done | with_reducible rfl)
          try simp only [Act.put, List.setIfInBounds_toArray, List.set_cons_zero, List.set_cons_succ]
          refine wpAnyZ_takeY (i := 6) (oi := { dst := some 33, op := Op.move (Operand.tmp 4), type := 3, pos := "ref.go:50", after := #[], guard := none }) (v := ?_) rfl (by kernel_rfl) (by kernel_rfl) (by kernel_rfl) (by rfl) (fun _ _ _ h => h) (Or.inl ⟨by rfl, ?_⟩) (by assumption) ?_
          rotate_left
          · (intro w; go_simp); (first | done | with_reducible rfl)
          try simp only [Act.put, List.setIfInBounds_toArray, List.set_cons_zero, List.set_cons_succ]
          refine wpAnyZ_takeY (i := 7) (oi := { dst := some 34, op := Op.slice 89 (Operand.tmp 32) none (some (Operand.tmp 33)) none, type := 89, pos := "ref.go:50", after := #[{ on := 5, ground := Ground.data }, { on := 6, ground := Ground.data }], guard := none }) (v := ?_) rfl (by kernel_rfl) (by kernel_rfl) (by kernel_rfl) (by rfl) (fun _ _ _ h => h) (Or.inl ⟨by rfl, ?_⟩) (by assumption) ?_
          rotate_left
          · (intro w; go_simp); (first | done | with_reducible rfl)
          try simp only [Act.put, List.setIfInBounds_toArray, List.set_cons_zero, List.set_cons_succ]
          refine wpAnyZ_take (i := 9) (oi := { dst := some 36, op := Op.load 95 (Operand.tmp 3), type := 95, pos := "ref.go:50", after := #[], guard := none }) (v := ?_) [10, 11, 18, 19, 20, 21] rfl (by kernel_rfl) (by kernel_rfl) (by kernel_rfl) (by kernel_rfl) (fun _ _ _ h => h) (Or.inl ⟨by rfl, ?_⟩) (by assumption) ?_
          rotate_left
          · (intro w hSw; (try dsimp only at hSw); go_simp); (first | done | with_reducible rfl)
          try simp only [Act.put, List.setIfInBounds_toArray, List.set_cons_zero, List.set_cons_succ]
          refine wpAnyZ_takeY (i := 12) (oi := { dst := some 39, op := Op.move (Operand.tmp 0), type := 28, pos := "ref.go:50", after := #[], guard := none }) (v := ?_) rfl (by kernel_rfl) (by kernel_rfl) (by kernel_rfl) (by rfl) (fun _ _ _ h => h) (Or.inl ⟨by rfl, ?_⟩) (by assumption) ?_
          rotate_left
          · (intro w; go_simp); (first | done | with_reducible rfl)
          try simp only [Act.put, List.setIfInBounds_toArray, List.set_cons_zero, List.set_cons_succ]
          refine wpAnyZ_takeY (i := 13) (oi := { dst := some 40, op := Op.nilCheck (Operand.tmp 39), type := 0, pos := "ref.go:50", after := #[{ on := 12, ground := Ground.data }], guard := none }) (v := ?_) rfl (by kernel_rfl) (by kernel_rfl) (by kernel_rfl) (by rfl) (fun _ _ _ h => h) (Or.inl ⟨by rfl, ?_⟩) (by assumption) ?_
          rotate_left
          · (intro w; go_simp); (first | done | with_reducible rfl)
          try simp only [Act.put, List.setIfInBounds_toArray, List.set_cons_zero, List.set_cons_succ]
          refine wpAnyZ_takeY (i := 14) (oi := { dst := some 41, op := Op.fieldAddr 91 (Operand.tmp 40) 4, type := 0, pos := "ref.go:50", after := #[{ on := 13, ground := Ground.data }], guard := none }) (v := ?_) rfl (by kernel_rfl) (by kernel_rfl) (by kernel_rfl) (by rfl) (fun _ _ _ h => h) (Or.inl ⟨by rfl, ?_⟩) (by assumption) ?_
          rotate_left
          · (intro w; go_simp); (first | done | with_reducible rfl)
          try simp only [Act.put, List.setIfInBounds_toArray, List.set_cons_zero, List.set_cons_succ]
          refine wpAnyZ_take (i := 15) (oi := { dst := some 42, op := Op.load 89 (Operand.tmp 41), type := 89, pos := "ref.go:50", after := #[{ on := 14, ground := Ground.data }], guard := none }) (v := ?_) [17, 18, 19, 20, 21] rfl (by kernel_rfl) (by kernel_rfl) (by kernel_rfl) (by kernel_rfl) (fun _ _ _ h => h) (Or.inl ⟨by rfl, ?_⟩) (by assumption) ?_
          rotate_left
          · (intro w hSw; (try dsimp only at hSw); go_simp); (first | done | with_reducible rfl)
          try simp only [Act.put, List.setIfInBounds_toArray, List.set_cons_zero, List.set_cons_succ]
          refine wpAnyZ_takeY (i := 16) (oi := { dst := some 43, op := Op.move (Operand.tmp 4), type := 3, pos := "ref.go:50", after := #[], guard := none }) (v := ?_) rfl (by kernel_rfl) (by kernel_rfl) (by kernel_rfl) (by rfl) (fun _ _ _ h => h) (Or.inl ⟨by rfl, ?_⟩) (by assumption) ?_
          rotate_left
          · (intro w; go_simp); (first | done | with_reducible rfl)
          try simp only [Act.put, List.setIfInBounds_toArray, List.set_cons_zero, List.set_cons_succ]
          refine wpAnyZ_takeY (i := 17) (oi := { dst := some 44, op := Op.slice 89 (Operand.tmp 42) (some (Operand.tmp 43)) none none, type := 89, pos := "ref.go:50", after := #[{ on := 15, ground := Ground.data }, { on := 16, ground := Ground.data }], guard := none }) (v := ?_) rfl (by kernel_rfl) (by kernel_rfl) (by kernel_rfl) (by rfl) (fun _ _ _ h => h) (Or.inl ⟨by rfl, ?_⟩) (by assumption) ?_
          rotate_left
          · (intro w; go_simp); (first | done | with_reducible rfl)
          try simp only [Act.put, List.setIfInBounds_toArray, List.set_cons_zero, List.set_cons_succ]
          refine wpAnyZ_ready (rs := [1, 10]) (by kernel_rfl) (by simp) ?_
          refine AllReadyZ.cons (o := { dst := some 28, op := Op.buildSlice 89 0 #[], type := 89, pos := "ref.go:50", after := #[], guard := none }) rfl (by rfl) (fun K hK => ?_) (AllReadyZ.cons (o := { dst := some 37, op := Op.buildSlice 89 1 #[(0, Operand.tmp 36)], type := 89, pos := "ref.go:50", after := #[{ on := 9, ground := Ground.data }], guard := none }) rfl (by rfl) (fun K hK => ?_) (AllReadyZ.nil))
          · go_simp
            have HOo := Lib.hid (World.ownsRow_made (base := W1.heap.size) (e := 95) (size := 3) wd #[] 0 HB.out.size (by unfold maxLen; omega) rfl)
            replace HB := Lib.hid (HB.out.alloc HB.out.size (.cells #[] 95))
            generalize hq1 : wd.heap.size = q1 at *
            generalize hw1 : wd.alloc (.cells #[] 95) = w1 at *
            clear hq1 hw1
            refine hK.out _ _ ?_ (fun hHeld => ?_)
            · exact ⟨(HBK.out.below HB.out).cell 4, (HFB.out.below HB.out).cell 0, (HFB.out.below HB.out).cell 1, (HFB.out.below HB.out).cell 2⟩
            clear hK K
            try simp only [Act.put, List.setIfInBounds_toArray, List.set_cons_zero, List.set_cons_succ]
            refine wpAnyZ_ready (rs := [8, 10]) (by kernel_rfl) (by simp) ?_
            refine AllReadyZ.cons (o := { dst := some 35, op := Op.call { callee := Callee.builtin Builtin.append, args := #[Operand.tmp 28, Operand.tmp 34], argTypes := #[89, 89] }, type := 89, pos := "ref.go:50", after := #[{ on := 1, ground := Ground.data }, { on := 7, ground := Ground.data }], guard := none }) rfl (by rfl) (fun K hK => ?_) (AllReadyZ.cons (o := { dst := some 37, op := Op.buildSlice 89 1 #[(0, Operand.tmp 36)], type := 89, pos := "ref.go:50", after := #[{ on := 9, ground := Ground.data }], guard := none }) rfl (by rfl) (fun K hK => ?_) (AllReadyZ.nil))
            · refine step_append_at5 (by rfl) _ _ 89 (by rfl) W1.heap.size 95 i0 (.agg #[.string ⟨#[]⟩, .string ⟨#[]⟩, .int .i64 0]) 3 40 Try.underlying89 hi0 hz0 hz1 hz2 rfl (by decide) (.slice (some ⟨q1, 0, none⟩) 0 0) 0 [] (by rfl) HOo.out ⟨g, 0, none⟩ k k (flsV (D.L.take k)) (by rfl) (by rw [flsV_len, HE0.out]) (fun j u hu => by rw [Addr.add_lit, Nat.zero_add]; exact HROW.out _ HB.out j u (flsV_pre D.L k (by omega) j u hu)) (flsV_one _) (by unfold maxLen; omega) (by omega) HB.out.size ?_
              intro v8 w8 ho8 hg8 hat8
              rw [Nat.zero_add, List.nil_append] at ho8
              obtain ⟨a8, c8, rfl⟩ := row_shape5 ho8
              have HO8 := Lib.hid ho8
              replace HB := Lib.hid (HB.out.grown hg8 HB.out.size (fun q hq => (HOo.out.lt q hq).1))
              clear ho8 hg8 hat8 HOo
              refine hK.out _ _ ?_ (fun hHeld => ?_)
              · exact ⟨(HBK.out.below HB.out).cell 4, (HFB.out.below HB.out).cell 0, (HFB.out.below HB.out).cell 1, (HFB.out.below HB.out).cell 2⟩
              clear hK K
              try simp only [Act.put, List.setIfInBounds_toArray, List.set_cons_zero, List.set_cons_succ]
              refine wpAnyZ_ready (rs := [10]) (by kernel_rfl) (by simp) ?_
              refine AllReadyZ.cons (o := { dst := some 37, op := Op.buildSlice 89 1 #[(0, Operand.tmp 36)], type := 89, pos := "ref.go:50", after := #[{ on := 9, ground := Ground.data }], guard := none }) rfl (by rfl) (fun K hK => ?_) (AllReadyZ.nil)
              go_simp
              have HNE := Lib.hid (show ∀ q, (Value.slice a8 k c8).ownBlock = some q → q ≠ w8.heap.size from fun q hq e => by have := (HO8.out.lt q hq).2; omega)
              replace HO8 := Lib.hid (HO8.out.alloc (.cells #[.string (S f.name), .string (S f.dat), .int .i64 f.safe] 95))
              have HY := Lib.hid (show Bk #[.string (S f.name), .string (S f.dat), .int .i64 f.safe] 95 (w8.alloc (.cells #[.string (S f.name), .string (S f.dat), .int .i64 f.safe] 95)) w8.heap.size from bk_new _ _ _)
              replace HB := Lib.hid (HB.out.alloc HB.out.size (.cells #[.string (S f.name), .string (S f.dat), .int .i64 f.safe] 95))
              generalize hq10 : w8.heap.size = q10 at *
              generalize hw10 : w8.alloc (.cells #[.string (S f.name), .string (S f.dat), .int .i64 f.safe] 95) = w10 at *
              clear hq10 hw10
              refine hK.out _ _ ?_ (fun hHeld => ?_)
              · exact ⟨(HBK.out.below HB.out).cell 4, (HFB.out.below HB.out).cell 0, (HFB.out.below HB.out).cell 1, (HFB.out.below HB.out).cell 2⟩
              clear hK K
              try simp only [Act.put, List.setIfInBounds_toArray, List.set_cons_zero, List.set_cons_succ]
              refine wpAnyZ_ready (rs := [11]) (by kernel_rfl) (by simp) ?_
              refine AllReadyZ.cons (o := { dst := some 38, op := Op.call { callee := Callee.builtin Builtin.append, args := #[Operand.tmp 35, Operand.tmp 37], argTypes := #[89, 89] }, type := 89, pos := "ref.go:50", after := #[{ on := 8, ground := Ground.data }, { on := 10, ground := Ground.data }, { on := 8, ground := Ground.chain }], guard := none }) rfl (by rfl) (fun K hK => ?_) (AllReadyZ.nil)
              refine step_append_at5 (by rfl) _ _ 89 (by rfl) W1.heap.size 95 i0 (.agg #[.string ⟨#[]⟩, .string ⟨#[]⟩, .int .i64 0]) 3 40 Try.underlying89 hi0 hz0 hz1 hz2 rfl (by decide) (Value.slice a8 k c8) k (flsV (D.L.take k)) (by rfl) HO8.out ⟨q10, 0, none⟩ 1 1 (fl3 f) (by rfl) rfl (fun j u hu => by rw [Addr.add_lit, Nat.zero_add]; exact (HY.out.cell j).trans (by rw [← hu]; simp [fl3])) (fun u hu => by simp [fl3] at hu; rcases hu with rfl | rfl | rfl <;> rfl) (by unfold maxLen; omega) (by omega) HB.out.size ?_
              intro v11 w11 ho11 hg11 _
              replace ho11 : w11.ownsRow W1.heap.size 95 3 v11 (k + 1) (flsV (D.L.take k ++ [f])) := by rw [flsV_app]; exact ho11
              obtain ⟨a11, c11, rfl⟩ := row_shape5 ho11
              have HO11 := Lib.hid ho11
              replace HB := Lib.hid (HB.out.grown hg11 HB.out.size (fun q hq => (HO8.out.lt q hq).1))
              clear ho11 hg11 HO8 HY HNE
              refine hK.out _ _ ?_ (fun hHeld => ?_)
              · exact ⟨(HBK.out.below HB.out).cell 4, (HFB.out.below HB.out).cell 0, (HFB.out.below HB.out).cell 1, (HFB.out.below HB.out).cell 2⟩
              clear hK K
              try simp only [Act.put, List.setIfInBounds_toArray, List.set_cons_zero, List.set_cons_succ]
              refine wpAnyZ_ready (rs := [18]) (by kernel_rfl) (by simp) ?_
              refine AllReadyZ.cons (o := { dst := some 45, op := Op.call { callee := Callee.builtin Builtin.append, args := #[Operand.tmp 38, Operand.tmp 44], argTypes := #[89, 89] }, type := 89, pos := "ref.go:50", after := #[{ on := 11, ground := Ground.data }, { on := 17, ground := Ground.data }, { on := 11, ground := Ground.chain }], guard := none }) rfl (by rfl) (fun K hK => ?_) (AllReadyZ.nil)
              refine step_append_at5 (by rfl) _ _ 89 (by rfl) W1.heap.size 95 i0 (.agg #[.string ⟨#[]⟩, .string ⟨#[]⟩, .int .i64 0]) 3 40 Try.underlying89 hi0 hz0 hz1 hz2 rfl (by decide) (.slice a11 (k + 1) c11) (k + 1) (flsV (D.L.take k ++ [f])) (by rfl) HO11.out ⟨g, 0, none⟩ 0 0 [] (by rfl) rfl (fun j u hu => by simp at hu) (fun u hu => by simp at hu) (by unfold maxLen; omega) (by omega) HB.out.size ?_
              intro v18 w18 ho18 hg18 _
              replace ho18 : w18.ownsRow W1.heap.size 95 3 v18 nL (flsV (D.L.take k ++ f :: D.L.drop k)) := by rw [show D.L.take k ++ f :: D.L.drop k = D.L.take k ++ [f] from by rw [HDR.out], show nL = k + 1 from by have := HNL.out; omega]; rw [List.append_nil] at ho18; exact ho18
              obtain ⟨a18, c18, rfl⟩ := row_shape5 ho18
              have HO18 := Lib.hid ho18
              replace HB := Lib.hid (HB.out.grown hg18 HB.out.size (fun q hq => (HO11.out.lt q hq).1))
              clear ho18 hg18 HO11
              refine hK.out _ _ ?_ (fun hHeld => ?_)
              · exact ⟨(HBK.out.below HB.out).cell 4, (HFB.out.below HB.out).cell 0, (HFB.out.below HB.out).cell 1, (HFB.out.below HB.out).cell 2⟩
              clear hK K
              try simp only [Act.put, List.setIfInBounds_toArray, List.set_cons_zero, List.set_cons_succ]
              refine wpAnyZ_takeY (i := 19) (oi := { dst := some 46, op := Op.nilCheck (Operand.tmp 27), type := 0, pos := "ref.go:50", after := #[{ on := 0, ground := Ground.data }, { on := 0, ground := Ground.phase }, { on := 1, ground := Ground.phase }, { on := 2, ground := Ground.phase }, { on := 3, ground := Ground.phase }, { on := 4, ground := Ground.phase }, { on := 5, ground := Ground.phase }, { on := 6, ground := Ground.phase }, { on := 7, ground := Ground.phase }, { on := 8, ground := Ground.phase }, { on := 9, ground := Ground.phase }, { on := 10, ground := Ground.phase }, { on := 11, ground := Ground.phase }, { on := 12, ground := Ground.phase }, { on := 13, ground := Ground.phase }, { on := 14, ground := Ground.phase }, { on := 15, ground := Ground.phase }, { on := 16, ground := Ground.phase }, { on := 17, ground := Ground.phase }, { on := 18, ground := Ground.phase }], guard := none }) (v := ?_) rfl (by kernel_rfl) (by kernel_rfl) (by kernel_rfl) (by rfl) (fun _ _ _ h => h) (Or.inl ⟨by rfl, ?_⟩) (by assumption) ?_
              rotate_left
              · (intro w; go_simp); (first | done | with_reducible rfl)
              try simp only [Act.put, List.setIfInBounds_toArray, List.set_cons_zero, List.set_cons_succ]
              refine wpAnyZ_takeY (i := 20) (oi := { dst := some 47, op := Op.fieldAddr 91 (Operand.tmp 46) 4, type := 0, pos := "ref.go:50", after := #[{ on := 19, ground := Ground.data }, { on := 0, ground := Ground.phase }, { on := 1, ground := Ground.phase }, { on := 2, ground := Ground.phase }, { on := 3, ground := Ground.phase }, { on := 4, ground := Ground.phase }, { on := 5, ground := Ground.phase }, { on := 6, ground := Ground.phase }, { on := 7, ground := Ground.phase }, { on := 8, ground := Ground.phase }, { on := 9, ground := Ground.phase }, { on := 10, ground := Ground.phase }, { on := 11, ground := Ground.phase }, { on := 12, ground := Ground.phase }, { on := 13, ground := Ground.phase }, { on := 14, ground := Ground.phase }, { on := 15, ground := Ground.phase }, { on := 16, ground := Ground.phase }, { on := 17, ground := Ground.phase }, { on := 18, ground := Ground.phase }], guard := none }) (v := ?_) rfl (by kernel_rfl) (by kernel_rfl) (by kernel_rfl) (by rfl) (fun _ _ _ h => h) (Or.inl ⟨by rfl, ?_⟩) (by assumption) ?_
              rotate_left
              · (intro w; go_simp); (first | done | with_reducible rfl)
              try simp only [Act.put, List.setIfInBounds_toArray, List.set_cons_zero, List.set_cons_succ]
              refine wpAnyZ_ready (rs := [21]) (by kernel_rfl) (by simp) ?_
              refine AllReadyZ.last (o := { dst := none, op := Op.store 89 (Operand.tmp 47) (Operand.tmp 45), type := 0, pos := "ref.go:50", after := #[{ on := 20, ground := Ground.data }, { on := 18, ground := Ground.data }, { on := 18, ground := Ground.chain }, { on := 0, ground := Ground.phase }, { on := 1, ground := Ground.phase }, { on := 2, ground := Ground.phase }, { on := 3, ground := Ground.phase }, { on := 4, ground := Ground.phase }, { on := 5, ground := Ground.phase }, { on := 6, ground := Ground.phase }, { on := 7, ground := Ground.phase }, { on := 8, ground := Ground.phase }, { on := 9, ground := Ground.phase }, { on := 10, ground := Ground.phase }, { on := 11, ground := Ground.phase }, { on := 12, ground := Ground.phase }, { on := 13, ground := Ground.phase }, { on := 14, ground := Ground.phase }, { on := 15, ground := Ground.phase }, { on := 16, ground := Ground.phase }, { on := 17, ground := Ground.phase }, { on := 18, ground := Ground.phase }], guard := none }) rfl (fun K hK => ?_) AllReadyZ.nil
              have f0 := (HBK.out.below HB.out).free 4
              have m0 := (HBK.out.below HB.out).cell 4
              go_simp
              refine hK.out _ _ ?_
              clear hK K
              refine wpAny_done (by kernel_rfl) ?_ _
              go_wp2_with fail
              go_end0
              exact HFIN.out _ HB.out a18 c18 HO18.out
            · go_simp
              have HNE := Lib.hid (show q1 ≠ w1.heap.size from fun e => by have := (HOo.out.lt q1 rfl).2; omega)
              replace HOo := Lib.hid (HOo.out.alloc (.cells #[.string (S f.name), .string (S f.dat), .int .i64 f.safe] 95))
              have HY := Lib.hid (show Bk #[.string (S f.name), .string (S f.dat), .int .i64 f.safe] 95 (w1.alloc (.cells #[.string (S f.name), .string (S f.dat), .int .i64 f.safe] 95)) w1.heap.size from bk_new _ _ _)
              replace HB := Lib.hid (HB.out.alloc HB.out.size (.cells #[.string (S f.name), .string (S f.dat), .int .i64 f.safe] 95))
              generalize hq10 : w1.heap.size = q10 at *
              generalize hw10 : w1.alloc (.cells #[.string (S f.name), .string (S f.dat), .int .i64 f.safe] 95) = w10 at *
              clear hq10 hw10
              refine hK.out _ _ ?_ (fun hHeld => ?_)
              · exact ⟨(HBK.out.below HB.out).cell 4, (HFB.out.below HB.out).cell 0, (HFB.out.below HB.out).cell 1, (HFB.out.below HB.out).cell 2⟩
              clear hK K
              try simp only [Act.put, List.setIfInBounds_toArray, List.set_cons_zero, List.set_cons_succ]
              refine wpAnyZ_ready (rs := [8]) (by kernel_rfl) (by simp) ?_
              refine AllReadyZ.cons (o := { dst := some 35, op := Op.call { callee := Callee.builtin Builtin.append, args := #[Operand.tmp 28, Operand.tmp 34], argTypes := #[89, 89] }, type := 89, pos := "ref.go:50", after := #[{ on := 1, ground := Ground.data }, { on := 7, ground := Ground.data }], guard := none }) rfl (by rfl) (fun K hK => ?_) (AllReadyZ.nil)
              refine step_append_at5 (by rfl) _ _ 89 (by rfl) W1.heap.size 95 i0 (.agg #[.string ⟨#[]⟩, .string ⟨#[]⟩, .int .i64 0]) 3 40 Try.underlying89 hi0 hz0 hz1 hz2 rfl (by decide) (.slice (some ⟨q1, 0, none⟩) 0 0) 0 [] (by rfl) HOo.out ⟨g, 0, none⟩ k k (flsV (D.L.take k)) (by rfl) (by rw [flsV_len, HE0.out]) (fun j u hu => by rw [Addr.add_lit, Nat.zero_add]; exact HROW.out _ HB.out j u (flsV_pre D.L k (by omega) j u hu)) (flsV_one _) (by unfold maxLen; omega) (by omega) HB.out.size ?_
              intro v8 w8 ho8 hg8 hat8
              rw [Nat.zero_add, List.nil_append] at ho8
              obtain ⟨a8, c8, rfl⟩ := row_shape5 ho8
              have HO8 := Lib.hid ho8
              replace HB := Lib.hid (HB.out.grown hg8 HB.out.size (fun q hq => (HOo.out.lt q hq).1))
              have HYL := Lib.hid (show q10 < w10.heap.size from HY.out.lt)
              replace HY := Lib.hid (HY.out.grown hg8 (fun e => HNE.out (by cases e; rfl)))
              replace HNE := Lib.hid (show ∀ q, (Value.slice a8 k c8).ownBlock = some q → q ≠ q10 from fun q hq e => by rcases hat8 with h | h; exact HNE.out (by rw [hq] at h; cases h; exact e); rw [hq] at h; cases h; have := HYL.out; omega)
              clear HYL
              clear ho8 hg8 hat8 HOo
              refine hK.out _ _ ?_ (fun hHeld => ?_)
              · exact ⟨(HBK.out.below HB.out).cell 4, (HFB.out.below HB.out).cell 0, (HFB.out.below HB.out).cell 1, (HFB.out.below HB.out).cell 2⟩
              clear hK K
              try simp only [Act.put, List.setIfInBounds_toArray, List.set_cons_zero, List.set_cons_succ]
              refine wpAnyZ_ready (rs := [11]) (by kernel_rfl) (by simp) ?_
              refine AllReadyZ.cons (o := { dst := some 38, op := Op.call { callee := Callee.builtin Builtin.append, args := #[Operand.tmp 35, Operand.tmp 37], argTypes := #[89, 89] }, type := 89, pos := "ref.go:50", after := #[{ on := 8, ground := Ground.data }, { on := 10, ground := Ground.data }, { on := 8, ground := Ground.chain }], guard := none }) rfl (by rfl) (fun K hK => ?_) (AllReadyZ.nil)
              refine step_append_at5 (by rfl) _ _ 89 (by rfl) W1.heap.size 95 i0 (.agg #[.string ⟨#[]⟩, .string ⟨#[]⟩, .int .i64 0]) 3 40 Try.underlying89 hi0 hz0 hz1 hz2 rfl (by decide) (Value.slice a8 k c8) k (flsV (D.L.take k)) (by rfl) HO8.out ⟨q10, 0, none⟩ 1 1 (fl3 f) (by rfl) rfl (fun j u hu => by rw [Addr.add_lit, Nat.zero_add]; exact (HY.out.cell j).trans (by rw [← hu]; simp [fl3])) (fun u hu => by simp [fl3] at hu; rcases hu with rfl | rfl | rfl <;> rfl) (by unfold maxLen; omega) (by omega) HB.out.size ?_
              intro v11 w11 ho11 hg11 _
              replace ho11 : w11.ownsRow W1.heap.size 95 3 v11 (k + 1) (flsV (D.L.take k ++ [f])) := by rw [flsV_app]; exact ho11
              obtain ⟨a11, c11, rfl⟩ := row_shape5 ho11
              have HO11 := Lib.hid ho11
              replace HB := Lib.hid (HB.out.grown hg11 HB.out.size (fun q hq => (HO8.out.lt q hq).1))
              clear ho11 hg11 HO8 HY HNE
              refine hK.out _ _ ?_ (fun hHeld => ?_)
              · exact ⟨(HBK.out.below HB.out).cell 4, (HFB.out.below HB.out).cell 0, (HFB.out.below HB.out).cell 1, (HFB.out.below HB.out).cell 2⟩
              clear hK K
              try simp only [Act.put, List.setIfInBounds_toArray, List.set_cons_zero, List.set_cons_succ]
              refine wpAnyZ_ready (rs := [18]) (by kernel_rfl) (by simp) ?_
              refine AllReadyZ.cons (o := { dst := some 45, op := Op.call { callee := Callee.builtin Builtin.append, args := #[Operand.tmp 38, Operand.tmp 44], argTypes := #[89, 89] }, type := 89, pos := "ref.go:50", after := #[{ on := 11, ground := Ground.data }, { on := 17, ground := Ground.data }, { on := 11, ground := Ground.chain }], guard := none }) rfl (by rfl) (fun K hK => ?_) (AllReadyZ.nil)
              refine step_append_at5 (by rfl) _ _ 89 (by rfl) W1.heap.size 95 i0 (.agg #[.string ⟨#[]⟩, .string ⟨#[]⟩, .int .i64 0]) 3 40 Try.underlying89 hi0 hz0 hz1 hz2 rfl (by decide) (.slice a11 (k + 1) c11) (k + 1) (flsV (D.L.take k ++ [f])) (by rfl) HO11.out ⟨g, 0, none⟩ 0 0 [] (by rfl) rfl (fun j u hu => by simp at hu) (fun u hu => by simp at hu) (by unfold maxLen; omega) (by omega) HB.out.size ?_
              intro v18 w18 ho18 hg18 _
              replace ho18 : w18.ownsRow W1.heap.size 95 3 v18 nL (flsV (D.L.take k ++ f :: D.L.drop k)) := by rw [show D.L.take k ++ f :: D.L.drop k = D.L.take k ++ [f] from by rw [HDR.out], show nL = k + 1 from by have := HNL.out; omega]; rw [List.append_nil] at ho18; exact ho18
              obtain ⟨a18, c18, rfl⟩ := row_shape5 ho18
              have HO18 := Lib.hid ho18
              replace HB := Lib.hid (HB.out.grown hg18 HB.out.size (fun q hq => (HO11.out.lt q hq).1))
              clear ho18 hg18 HO11
              refine hK.out _ _ ?_ (fun hHeld => ?_)
              · exact ⟨(HBK.out.below HB.out).cell 4, (HFB.out.below HB.out).cell 0, (HFB.out.below HB.out).cell 1, (HFB.out.below HB.out).cell 2⟩
              clear hK K
              try simp only [Act.put, List.setIfInBounds_toArray, List.set_cons_zero, List.set_cons_succ]
              refine wpAnyZ_takeY (i := 19) (oi := { dst := some 46, op := Op.nilCheck (Operand.tmp 27), type := 0, pos := "ref.go:50", after := #[{ on := 0, ground := Ground.data }, { on := 0, ground := Ground.phase }, { on := 1, ground := Ground.phase }, { on := 2, ground := Ground.phase }, { on := 3, ground := Ground.phase }, { on := 4, ground := Ground.phase }, { on := 5, ground := Ground.phase }, { on := 6, ground := Ground.phase }, { on := 7, ground := Ground.phase }, { on := 8, ground := Ground.phase }, { on := 9, ground := Ground.phase }, { on := 10, ground := Ground.phase }, { on := 11, ground := Ground.phase }, { on := 12, ground := Ground.phase }, { on := 13, ground := Ground.phase }, { on := 14, ground := Ground.phase }, { on := 15, ground := Ground.phase }, { on := 16, ground := Ground.phase }, { on := 17, ground := Ground.phase }, { on := 18, ground := Ground.phase }], guard := none }) (v := ?_) rfl (by kernel_rfl) (by kernel_rfl) (by kernel_rfl) (by rfl) (fun _ _ _ h => h) (Or.inl ⟨by rfl, ?_⟩) (by assumption) ?_
              rotate_left
              · (intro w; go_simp); (first | done | with_reducible rfl)
              try simp only [Act.put, List.setIfInBounds_toArray, List.set_cons_zero, List.set_cons_succ]
              refine wpAnyZ_takeY (i := 20) (oi := { dst := some 47, op := Op.fieldAddr 91 (Operand.tmp 46) 4, type := 0, pos := "ref.go:50", after := #[{ on := 19, ground := Ground.data }, { on := 0, ground := Ground.phase }, { on := 1, ground := Ground.phase }, { on := 2, ground := Ground.phase }, { on := 3, ground := Ground.phase }, { on := 4, ground := Ground.phase }, { on := 5, ground := Ground.phase }, { on := 6, ground := Ground.phase }, { on := 7, ground := Ground.phase }, { on := 8, ground := Ground.phase }, { on := 9, ground := Ground.phase }, { on := 10, ground := Ground.phase }, { on := 11, ground := Ground.phase }, { on := 12, ground := Ground.phase }, { on := 13, ground := Ground.phase }, { on := 14, ground := Ground.phase }, { on := 15, ground := Ground.phase }, { on := 16, ground := Ground.phase }, { on := 17, ground := Ground.phase }, { on := 18, ground := Ground.phase }], guard := none }) (v := ?_) rfl (by kernel_rfl) (by kernel_rfl) (by kernel_rfl) (by rfl) (fun _ _ _ h => h) (Or.inl ⟨by rfl, ?_⟩) (by assumption) ?_
              rotate_left
              · (intro w; go_simp); (first | done | with_reducible rfl)
              try simp only [Act.put, List.setIfInBounds_toArray, List.set_cons_zero, List.set_cons_succ]
              refine wpAnyZ_ready (rs := [21]) (by kernel_rfl) (by simp) ?_
              refine AllReadyZ.last (o := { dst := none, op := Op.store 89 (Operand.tmp 47) (Operand.tmp 45), type := 0, pos := "ref.go:50", after := #[{ on := 20, ground := Ground.data }, { on := 18, ground := Ground.data }, { on := 18, ground := Ground.chain }, { on := 0, ground := Ground.phase }, { on := 1, ground := Ground.phase }, { on := 2, ground := Ground.phase }, { on := 3, ground := Ground.phase }, { on := 4, ground := Ground.phase }, { on := 5, ground := Ground.phase }, { on := 6, ground := Ground.phase }, { on := 7, ground := Ground.phase }, { on := 8, ground := Ground.phase }, { on := 9, ground := Ground.phase }, { on := 10, ground := Ground.phase }, { on := 11, ground := Ground.phase }, { on := 12, ground := Ground.phase }, { on := 13, ground := Ground.phase }, { on := 14, ground := Ground.phase }, { on := 15, ground := Ground.phase }, { on := 16, ground := Ground.phase }, { on := 17, ground := Ground.phase }, { on := 18, ground := Ground.phase }], guard := none }) rfl (fun K hK => ?_) AllReadyZ.nil
              have f0 := (HBK.out.below HB.out).free 4
              have m0 := (HBK.out.below HB.out).cell 4
              go_simp
              refine hK.out _ _ ?_
              clear hK K
              refine wpAny_done (by kernel_rfl) ?_ _
              go_wp2_with fail
              go_end0
              exact HFIN.out _ HB.out a18 c18 HO18.out
          · go_simp
            have HY := Lib.hid (show Bk #[.string (S f.name), .string (S f.dat), .int .i64 f.safe] 95 (wd.alloc (.cells #[.string (S f.name), .string (S f.dat), .int .i64 f.safe] 95)) wd.heap.size from bk_new _ _ _)
            replace HB := Lib.hid (HB.out.alloc HB.out.size (.cells #[.string (S f.name), .string (S f.dat), .int .i64 f.safe] 95))
            generalize hq10 : wd.heap.size = q10 at *
            generalize hw10 : wd.alloc (.cells #[.string (S f.name), .string (S f.dat), .int .i64 f.safe] 95) = w10 at *
            clear hq10 hw10
            refine hK.out _ _ ?_ (fun hHeld => ?_)
            · exact ⟨(HBK.out.below HB.out).cell 4, (HFB.out.below HB.out).cell 0, (HFB.out.below HB.out).cell 1, (HFB.out.below HB.out).cell 2⟩
            clear hK K
            try simp only [Act.put, List.setIfInBounds_toArray, List.set_cons_zero, List.set_cons_succ]
            refine wpAnyZ_ready (rs := [1]) (by kernel_rfl) (by simp) ?_
            refine AllReadyZ.cons (o := { dst := some 28, op := Op.buildSlice 89 0 #[], type := 89, pos := "ref.go:50", after := #[], guard := none }) rfl (by rfl) (fun K hK => ?_) (AllReadyZ.nil)
            go_simp
            have HOo := Lib.hid (World.ownsRow_made (base := W1.heap.size) (e := 95) (size := 3) w10 #[] 0 HB.out.size (by unfold maxLen; omega) rfl)
            replace HB := Lib.hid (HB.out.alloc HB.out.size (.cells #[] 95))
            have HNE := Lib.hid (show w10.heap.size ≠ q10 from fun e => by have := HY.out.lt; omega)
            replace HY := Lib.hid (HY.out.more (.cells #[] 95))
            generalize hq1 : w10.heap.size = q1 at *
            generalize hw1 : w10.alloc (.cells #[] 95) = w1 at *
            clear hq1 hw1
            refine hK.out _ _ ?_ (fun hHeld => ?_)
            · exact ⟨(HBK.out.below HB.out).cell 4, (HFB.out.below HB.out).cell 0, (HFB.out.below HB.out).cell 1, (HFB.out.below HB.out).cell 2⟩
            clear hK K
            try simp only [Act.put, List.setIfInBounds_toArray, List.set_cons_zero, List.set_cons_succ]
            refine wpAnyZ_ready (rs := [8]) (by kernel_rfl) (by simp) ?_
            refine AllReadyZ.cons (o := { dst := some 35, op := Op.call { callee := Callee.builtin Builtin.append, args := #[Operand.tmp 28, Operand.tmp 34], argTypes := #[89, 89] }, type := 89, pos := "ref.go:50", after := #[{ on := 1, ground := Ground.data }, { on := 7, ground := Ground.data }], guard := none }) rfl (by rfl) (fun K hK => ?_) (AllReadyZ.nil)
            refine step_append_at5 (by rfl) _ _ 89 (by rfl) W1.heap.size 95 i0 (.agg #[.string ⟨#[]⟩, .string ⟨#[]⟩, .int .i64 0]) 3 40 Try.underlying89 hi0 hz0 hz1 hz2 rfl (by decide) (.slice (some ⟨q1, 0, none⟩) 0 0) 0 [] (by rfl) HOo.out ⟨g, 0, none⟩ k k (flsV (D.L.take k)) (by rfl) (by rw [flsV_len, HE0.out]) (fun j u hu => by rw [Addr.add_lit, Nat.zero_add]; exact HROW.out _ HB.out j u (flsV_pre D.L k (by omega) j u hu)) (flsV_one _) (by unfold maxLen; omega) (by omega) HB.out.size ?_
            intro v8 w8 ho8 hg8 hat8
            rw [Nat.zero_add, List.nil_append] at ho8
            obtain ⟨a8, c8, rfl⟩ := row_shape5 ho8
            have HO8 := Lib.hid ho8
            replace HB := Lib.hid (HB.out.grown hg8 HB.out.size (fun q hq => (HOo.out.lt q hq).1))
            have HYL := Lib.hid (show q10 < w1.heap.size from HY.out.lt)
            replace HY := Lib.hid (HY.out.grown hg8 (fun e => HNE.out (by cases e; rfl)))
            replace HNE := Lib.hid (show ∀ q, (Value.slice a8 k c8).ownBlock = some q → q ≠ q10 from fun q hq e => by rcases hat8 with h | h; exact HNE.out (by rw [hq] at h; cases h; exact e); rw [hq] at h; cases h; have := HYL.out; omega)
            clear HYL
            clear ho8 hg8 hat8 HOo
            refine hK.out _ _ ?_ (fun hHeld => ?_)
            · exact ⟨(HBK.out.below HB.out).cell 4, (HFB.out.below HB.out).cell 0, (HFB.out.below HB.out).cell 1, (HFB.out.below HB.out).cell 2⟩
            clear hK K
            try simp only [Act.put, List.setIfInBounds_toArray, List.set_cons_zero, List.set_cons_succ]
            refine wpAnyZ_ready (rs := [11]) (by kernel_rfl) (by simp) ?_
            refine AllReadyZ.cons (o := { dst := some 38, op := Op.call { callee := Callee.builtin Builtin.append, args := #[Operand.tmp 35, Operand.tmp 37], argTypes := #[89, 89] }, type := 89, pos := "ref.go:50", after := #[{ on := 8, ground := Ground.data }, { on := 10, ground := Ground.data }, { on := 8, ground := Ground.chain }], guard := none }) rfl (by rfl) (fun K hK => ?_) (AllReadyZ.nil)
            refine step_append_at5 (by rfl) _ _ 89 (by rfl) W1.heap.size 95 i0 (.agg #[.string ⟨#[]⟩, .string ⟨#[]⟩, .int .i64 0]) 3 40 Try.underlying89 hi0 hz0 hz1 hz2 rfl (by decide) (Value.slice a8 k c8) k (flsV (D.L.take k)) (by rfl) HO8.out ⟨q10, 0, none⟩ 1 1 (fl3 f) (by rfl) rfl (fun j u hu => by rw [Addr.add_lit, Nat.zero_add]; exact (HY.out.cell j).trans (by rw [← hu]; simp [fl3])) (fun u hu => by simp [fl3] at hu; rcases hu with rfl | rfl | rfl <;> rfl) (by unfold maxLen; omega) (by omega) HB.out.size ?_
            intro v11 w11 ho11 hg11 _
            replace ho11 : w11.ownsRow W1.heap.size 95 3 v11 (k + 1) (flsV (D.L.take k ++ [f])) := by rw [flsV_app]; exact ho11
            obtain ⟨a11, c11, rfl⟩ := row_shape5 ho11
            have HO11 := Lib.hid ho11
            replace HB := Lib.hid (HB.out.grown hg11 HB.out.size (fun q hq => (HO8.out.lt q hq).1))
            clear ho11 hg11 HO8 HY HNE
            refine hK.out _ _ ?_ (fun hHeld => ?_)
            · exact ⟨(HBK.out.below HB.out).cell 4, (HFB.out.below HB.out).cell 0, (HFB.out.below HB.out).cell 1, (HFB.out.below HB.out).cell 2⟩
            clear hK K
            try simp only [Act.put, List.setIfInBounds_toArray, List.set_cons_zero, List.set_cons_succ]
            refine wpAnyZ_ready (rs := [18]) (by kernel_rfl) (by simp) ?_
            refine AllReadyZ.cons (o := { dst := some 45, op := Op.call { callee := Callee.builtin Builtin.append, args := #[Operand.tmp 38, Operand.tmp 44], argTypes := #[89, 89] }, type := 89, pos := "ref.go:50", after := #[{ on := 11, ground := Ground.data }, { on := 17, ground := Ground.data }, { on := 11, ground := Ground.chain }], guard := none }) rfl (by rfl) (fun K hK => ?_) (AllReadyZ.nil)
            refine step_append_at5 (by rfl) _ _ 89 (by rfl) W1.heap.size 95 i0 (.agg #[.string ⟨#[]⟩, .string ⟨#[]⟩, .int .i64 0]) 3 40 Try.underlying89 hi0 hz0 hz1 hz2 rfl (by decide) (.slice a11 (k + 1) c11) (k + 1) (flsV (D.L.take k ++ [f])) (by rfl) HO11.out ⟨g, 0, none⟩ 0 0 [] (by rfl) rfl (fun j u hu => by simp at hu) (fun u hu => by simp at hu) (by unfold maxLen; omega) (by omega) HB.out.size ?_
            intro v18 w18 ho18 hg18 _
            replace ho18 : w18.ownsRow W1.heap.size 95 3 v18 nL (flsV (D.L.take k ++ f :: D.L.drop k)) := by rw [show D.L.take k ++ f :: D.L.drop k = D.L.take k ++ [f] from by rw [HDR.out], show nL = k + 1 from by have := HNL.out; omega]; rw [List.append_nil] at ho18; exact ho18
            obtain ⟨a18, c18, rfl⟩ := row_shape5 ho18
            have HO18 := Lib.hid ho18
            replace HB := Lib.hid (HB.out.grown hg18 HB.out.size (fun q hq => (HO11.out.lt q hq).1))
            clear ho18 hg18 HO11
            refine hK.out _ _ ?_ (fun hHeld => ?_)
            · exact ⟨(HBK.out.below HB.out).cell 4, (HFB.out.below HB.out).cell 0, (HFB.out.below HB.out).cell 1, (HFB.out.below HB.out).cell 2⟩
            clear hK K
            try simp only [Act.put, List.setIfInBounds_toArray, List.set_cons_zero, List.set_cons_succ]
            refine wpAnyZ_takeY (i := 19) (oi := { dst := some 46, op := Op.nilCheck (Operand.tmp 27), type := 0, pos := "ref.go:50", after := #[{ on := 0, ground := Ground.data }, { on := 0, ground := Ground.phase }, { on := 1, ground := Ground.phase }, { on := 2, ground := Ground.phase }, { on := 3, ground := Ground.phase }, { on := 4, ground := Ground.phase }, { on := 5, ground := Ground.phase }, { on := 6, ground := Ground.phase }, { on := 7, ground := Ground.phase }, { on := 8, ground := Ground.phase }, { on := 9, ground := Ground.phase }, { on := 10, ground := Ground.phase }, { on := 11, ground := Ground.phase }, { on := 12, ground := Ground.phase }, { on := 13, ground := Ground.phase }, { on := 14, ground := Ground.phase }, { on := 15, ground := Ground.phase }, { on := 16, ground := Ground.phase }, { on := 17, ground := Ground.phase }, { on := 18, ground := Ground.phase }], guard := none }) (v := ?_) rfl (by kernel_rfl) (by kernel_rfl) (by kernel_rfl) (by rfl) (fun _ _ _ h => h) (Or.inl ⟨by rfl, ?_⟩) (by assumption) ?_
            rotate_left
            · (intro w; go_simp); (first | done | with_reducible rfl)
            try simp only [Act.put, List.setIfInBounds_toArray, List.set_cons_zero, List.set_cons_succ]
            refine wpAnyZ_takeY (i := 20) (oi := { dst := some 47, op := Op.fieldAddr 91 (Operand.tmp 46) 4, type := 0, pos := "ref.go:50", after := #[{ on := 19, ground := Ground.data }, { on := 0, ground := Ground.phase }, { on := 1, ground := Ground.phase }, { on := 2, ground := Ground.phase }, { on := 3, ground := Ground.phase }, { on := 4, ground := Ground.phase }, { on := 5, ground := Ground.phase }, { on := 6, ground := Ground.phase }, { on := 7, ground := Ground.phase }, { on := 8, ground := Ground.phase }, { on := 9, ground := Ground.phase }, { on := 10, ground := Ground.phase }, { on := 11, ground := Ground.phase }, { on := 12, ground := Ground.phase }, { on := 13, ground := Ground.phase }, { on := 14, ground := Ground.phase }, { on := 15, ground := Ground.phase }, { on := 16, ground := Ground.phase }, { on := 17, ground := Ground.phase }, { on := 18, ground := Ground.phase }], guard := none }) (v := ?_) rfl (by kernel_rfl) (by kernel_rfl) (by kernel_rfl) (by rfl) (fun _ _ _ h => h) (Or.inl ⟨by rfl, ?_⟩) (by assumption) ?_
            rotate_left
            · (intro w; go_simp); (first | done | with_reducible rfl)
            try simp only [Act.put, List.setIfInBounds_toArray, List.set_cons_zero, List.set_cons_succ]
            refine wpAnyZ_ready (rs := [21]) (by kernel_rfl) (by simp) ?_
            refine AllReadyZ.last (o := { dst := none, op := Op.store 89 (Operand.tmp 47) (Operand.tmp 45), type := 0, pos := "ref.go:50", after := #[{ on := 20, ground := Ground.data }, { on := 18, ground := Ground.data }, { on := 18, ground := Ground.chain }, { on := 0, ground := Ground.phase }, { on := 1, ground := Ground.phase }, { on := 2, ground := Ground.phase }, { on := 3, ground := Ground.phase }, { on := 4, ground := Ground.phase }, { on := 5, ground := Ground.phase }, { on := 6, ground := Ground.phase }, { on := 7, ground := Ground.phase }, { on := 8, ground := Ground.phase }, { on := 9, ground := Ground.phase }, { on := 10, ground := Ground.phase }, { on := 11, ground := Ground.phase }, { on := 12, ground := Ground.phase }, { on := 13, ground := Ground.phase }, { on := 14, ground := Ground.phase }, { on := 15, ground := Ground.phase }, { on := 16, ground := Ground.phase }, { on := 17, ground := Ground.phase }, { on := 18, ground := Ground.phase }], guard := none }) rfl (fun K hK => ?_) AllReadyZ.nil
            have f0 := (HBK.out.below HB.out).free 4
            have m0 := (HBK.out.below HB.out).cell 4
            go_simp
            refine hK.out _ _ ?_
            clear hK K
            refine wpAny_done (by kernel_rfl) ?_ _
            go_wp2_with fail
            go_end0
            exact HFIN.out _ HB.out a18 c18 HO18.out

end Go.Proofs.Ytekmnpmeienhhaa
