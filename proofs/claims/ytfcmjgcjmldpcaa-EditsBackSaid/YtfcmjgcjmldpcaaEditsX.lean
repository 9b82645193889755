/- Layer 16: two tablets made one: merge, by a contract. -/
import Derived.Test.YtfcmjgcjmldpcaaEditsW
import Derived.Test.YtfcmjgcjmldpcaaEditsU
namespace Go.Proofs.Ytfcmjgcjmldpcaa
set_option linter.unusedVariables false
set_option linter.unusedSimpArgs false
open Go Go.RowKit
attribute [local go_sem ↓] run_index_S
attribute [local go_sem] S_append S_extract

theorem own_shrink16 {w : World} {B sz : Nat} {e : TypeId} {g n m cap : Nat} {xs : List Value} (h : w.ownsRow B e sz (.slice (some ⟨g, 0, none⟩) n cap) n xs) (hm : m ≤ n) : w.ownsRow B e sz (.slice (some ⟨g, 0, none⟩) m cap) m (xs.take (m * sz)) := by
  obtain ⟨cur, hg, hs, ht, hc, hM, hB⟩ := setRow_own16 h
  have hmm : m * sz ≤ n * sz := Nat.mul_le_mul_right _ hm
  refine ⟨by rw [List.length_take, h.1]; omega, .inr ⟨g, cap, cur, rfl, hB, hg, by omega, hM, hs, ?_⟩⟩
  rw [← ht, List.take_take, Nat.min_eq_left hmm]
def mergeL (Rk : List Rt) (k : Nat) : List Rt := Rk.take (k + 1) ++ Rk.drop (k + 2)
theorem mergeL_len (Rk : List Rt) (k : Nat) (hk : k + 1 < Rk.length) : (mergeL Rk k).length = Rk.length - 1 := by simp [mergeL]; omega
theorem mergeL_mem {Rk : List Rt} {k : Nat} {r : Rt} (h : r ∈ mergeL Rk k) : r ∈ Rk := by
  rcases List.mem_append.1 h with h | h
  · exact List.mem_of_mem_take h
  · exact List.mem_of_mem_drop h
theorem merge_none {w0 w : World} {g c : Nat} {Rk : List Rt} (h : Own16 w0 g c Rk w) {k : Nat} (hk : k + 2 = Rk.length) : Own16 w0 g c (mergeL Rk k) w := by
  have hl := mergeL_len Rk k (by omega)
  have e : tbC (mergeL Rk k) = (tbC Rk).take ((mergeL Rk k).length * 2) := by
    rw [hl, show Rk.length - 1 = k + 1 from by omega, ← tbC_take]
    unfold mergeL
    rw [List.drop_eq_nil_of_le (by omega), List.append_nil]
  exact ⟨by rw [e]; exact own_shrink16 h.row (by omega), fun r hr => h.own r (mergeL_mem hr), h.bel⟩
theorem merge_copy {w0 w : World} {g c : Nat} {Rk : List Rt} (h : Own16 w0 g c Rk w) {k : Nat} (hk : k + 2 < Rk.length) :
    ∃ w', (∀ ty dc sc, (Builtin.copy_ #[22, 22] ty #[.slice (some ⟨g, (k + 1) * 2, none⟩) (Rk.length - (k + 1)) dc, .slice (some ⟨g, (k + 2) * 2, none⟩) (Rk.length - (k + 2)) sc]).run Try.prog w = .ok (goInt ((Rk.length - (k + 2) : Nat) : Int)) w') ∧
      Own16 w0 g c (mergeL Rk k) w' ∧ (∀ C T b, b ≠ g → BkIn C T w b → BkIn C T w' b) ∧ w'.heap.size = w.heap.size := by
  obtain ⟨cur, hg, hs, ht, hc, hM, hB⟩ := setRow_own16 h.row
  have hl : (tbC (Rk.drop (k + 2))).length = (Rk.length - (k + 2)) * 2 := by rw [tbC_length, List.length_drop]
  have hm : Nat.min (Rk.length - (k + 2)) (Rk.length - (k + 1)) = Rk.length - (k + 2) := by simp only [Nat.min_def]; split <;> omega
  have hlm := mergeL_len Rk k (by omega)
  have hcur : cur.toList.length = c * 2 := by simpa using hs
  have hsrc : ∀ j v, (tbC Rk)[j]? = some v → w.cell? ⟨g, j, none⟩ = some v := fun j v hv => by
    have hj : j < Rk.length * 2 := by rw [← tbC_length]; exact (List.getElem?_eq_some_iff.1 hv).1
    rw [h.row.cellAt j hj, hv]
  refine ⟨w.setRow g (cur.toList.take ((k + 1) * 2) ++ tbC (Rk.drop (k + 2)) ++ cur.toList.drop ((k + 1) * 2 + (tbC (Rk.drop (k + 2))).length)).toArray, fun ty dc sc => ?_, ?_, fun C T b hb hC => hC.rowOther hb _, by simp⟩
  · have := run_copy16 (P := Try.prog) w 22 22 ty 41 2 g ((k + 1) * 2) (Rk.length - (k + 1)) dc ⟨g, (k + 2) * 2, none⟩ (Rk.length - (k + 2)) sc cur 41 (tbC (Rk.drop (k + 2))) Try.underlying22 infoTb_size hg
      (by rw [hl, hm])
      (fun j v hv => by
        rw [Addr.add_lit]
        refine hsrc _ _ ?_
        rw [tbC_drop, List.getElem?_drop] at hv
        exact hv)
      (by rw [hl, hs]; omega) (tbC_oneC _)
    rw [this, hm]
  · have e2 : cur.toList.take ((k + 1) * 2) = tbC (Rk.take (k + 1)) := by
      rw [tbC_take, ← ht, List.take_take, Nat.min_eq_left (by omega)]
    have e3 : tbC (mergeL Rk k) = tbC (Rk.take (k + 1)) ++ tbC (Rk.drop (k + 2)) := tbC_app _ _
    have hO := own_setRow16 (B := w0.heap.size) (t := 41) (sz := 2) (m := Rk.length - 1) (cap := c) hg (cur.toList.take ((k + 1) * 2) ++ tbC (Rk.drop (k + 2)) ++ cur.toList.drop ((k + 1) * 2 + (tbC (Rk.drop (k + 2))).length)) (tbC (mergeL Rk k))
      (by simp only [List.length_append, List.length_take, List.length_drop, hl, hcur]; omega) (by omega) hM (by rw [tbC_length, hlm])
      (by
        rw [e2, ← e3]
        exact List.take_left' (by rw [tbC_length, hlm])) hB
    refine ⟨by rw [hlm]; exact hO.1, fun r hr => ?_, below_row16 h.bel hB _⟩
    exact own_row16 (h.own r (mergeL_mem hr)) (own_of_blk (C := cur) (T := 41) hg (h.own r (mergeL_mem hr)) (by decide)) _
/-- Two of a row. -/
theorem tbsAt_two {w : World} {g : Nat} {Rs : List Rt} (h : TbsAt w (some ⟨g, 0, none⟩) Rs) {k : Nat} (hk : k + 1 < Rs.length) : TbsAt w (some ⟨g, k * 2, none⟩) [Rs.getD k rt0, Rs.getD (k + 1) rt0] := fun _ => by
  obtain ⟨g', off, e, hc⟩ := h (fun e => by rw [e] at hk; simp at hk)
  cases e
  refine ⟨g, k * 2, rfl, fun j hj => ?_⟩
  have hj2 : j = 0 ∨ j = 1 := by simp at hj; omega
  rcases hj2 with rfl | rfl
  · have := hc k (by omega); simpa using this
  · have := hc (k + 1) hk; rw [show 0 + (k + 1) * 2 = k * 2 + 1 * 2 from by omega] at this; simpa using this
def MergeR (w0 wk : World) (b k : Nat) (Rk : List Rt) (log next : Int) (e : Ending) (w' : World) : Prop :=
  (k + 1 = Rk.length ∧ e = .returned (.bool false) ∧ Below w0.heap.size w0 w' ∧ Kp b wk w') ∨
  (k + 1 < Rk.length ∧ e = .returned (.bool true) ∧ EdOut w0 b ((tbs Rk).take k ++ ⟨(Rk.getD k rt0).f, Ed.uni ((Rk.getD k rt0).l ++ (Rk.getD (k + 1) rt0).l)⟩ :: (tbs Rk).drop (k + 2)) log next w' ∧ Kp b wk w')
/-- A state of one's own in its box. -/
structure MgI (w0 wk : World) (b g c n : Nat) (Rk : List Rt) (log next : Int) (w : World) : Prop where
  own : Own16 w0 g c Rk w
  bx : BkIn #[.slice (some ⟨g, 0, none⟩) n c, .int .i64 log, .int .i64 next] 24 w b
  ne : b ≠ g
  b0 : w0.heap.size ≤ b
  kp : Kp b wk w
theorem MgI.below {w0 wk w w' : World} {b g c n : Nat} {Rk : List Rt} {log next : Int} (h : MgI w0 wk b g c n Rk log next w) (hb : Below w.heap.size w w') : MgI w0 wk b g c n Rk log next w' := ⟨h.own.below hb, h.bx.below hb, h.ne, h.b0, h.kp.below hb⟩
theorem MgI.out {w0 wk w : World} {b g c n : Nat} {Rk : List Rt} {log next : Int} (h : MgI w0 wk b g c n Rk log next w) : EdOut w0 b (tbs Rk) log next (w.setCell ⟨b, 0, none⟩ (.slice (some ⟨g, 0, none⟩) Rk.length c)) ∧ Kp b wk (w.setCell ⟨b, 0, none⟩ (.slice (some ⟨g, 0, none⟩) Rk.length c)) := by
  refine ⟨(h.own.box h.bx h.b0 0 _).out (c := c) ?_, h.kp.box 0 _⟩
  have := h.bx.set 0 (.slice (some ⟨g, 0, none⟩) Rk.length c)
  simpa using this
theorem tbs_mergeL (Rk : List Rt) (k : Nat) (hk : k < Rk.length) (r : Rt) : tbs (mergeL (Rk.set k r) k) = (tbs Rk).take k ++ r.tb :: (tbs Rk).drop (k + 2) := by
  unfold mergeL tbs
  rw [List.map_append, List.map_take, List.map_drop, List.map_set]
  rw [List.drop_set_of_lt (by omega), Ed.take_snoc _ _ Ed.tb0 (by simp; omega), List.take_set_of_le (by omega)]
  simp [List.getD, List.getElem?_set, hk]
set_option maxHeartbeats 4000000 in
set_option maxRecDepth 100000 in
theorem merge16_any (w0 : World) (b g c k : Nat) (Rs Rk : List Rt) (log next : Int) (hk : k < Rs.length) (hn : Rs.length ≤ 16) (hl : ∀ r, r ∈ Rk → r.l.length ≤ 10000) (w : World) (h : Ahd w0 b g c Rs Rk log next w) :
    Calls Try.prog 52 #[.pointer (some ⟨b, 0, none⟩), .int .i64 k] w (MergeR w0 w b k Rk log next) := by
  have hlen : Rk.length = Rs.length := h.cl.len
  have hb := h.bx
  rw [← hlen] at hb hk hn
  have hgw := h.cl.row.lt g rfl
  have hbw := hb.lt
  have HM := Lib.hid (show MgI w0 w b g c Rk.length Rk log next w from ⟨h.own, hb, h.ne, h.b0, Kp.refl b w⟩)
  have ek1 : IntKind.i64.wrap ((k : Int) + 1) = (k : Int) + 1 := IntWalk.i64_in _ (by omega)
  have ek2 : IntKind.i64.wrap ((k : Int) + 2) = (k : Int) + 2 := IntWalk.i64_in _ (by omega)
  have z0 : w.cell? ⟨b, 0, none⟩ = some (.slice (some ⟨g, 0, none⟩) Rk.length c) := hb.cell 0
  have hck : Rk.length ≤ c := by
    obtain ⟨cur, _, _, _, h1, _⟩ := setRow_own16 HM.out.own.row
    exact h1
  have HK := Lib.hid hk
  have HL := Lib.hid hl
  clear h hb hlen hl hgw hbw
  go_enter Try.func52, Try.ntmps52
  by_cases hlast : k + 1 < Rk.length
  · have d1 : ((k : Int) + 1 == (Rk.length : Int)) = false := by rw [beq_eq_false_iff_ne]; omega
    have d2 : ¬ ((k : Int) + 1 = (Rk.length : Int)) := by omega
    have CU := Lib.hid (show Calls Try.prog 37 #[.slice (some ⟨g, k * 2, none⟩) 2 (c - k)] w (UnionR [Rk.getD k rt0, Rk.getD (k + 1) rt0] w) from
      union16_any [Rk.getD k rt0, Rk.getD (k + 1) rt0] (by simp) (fun r hr => HL.out r (by
        rcases List.mem_cons.1 hr with rfl | hr
        · exact Ed.gD_mem HK.out
        · rw [List.mem_singleton.1 hr]; exact Ed.gD_mem hlast)) _ (c - k) w (tbsAt_two HM.out.own.at_ hlast))
    have HU := Lib.hid (show Lib.compact (sortI (catL [Rk.getD k rt0, Rk.getD (k + 1) rt0])) = Ed.uni ((Rk.getD k rt0).l ++ (Rk.getD (k + 1) rt0).l) from by
      rw [show catL [Rk.getD k rt0, Rk.getD (k + 1) rt0] = (Rk.getD k rt0).l ++ (Rk.getD (k + 1) rt0).l from by simp [catL]]
      exact compact_uni _)
    unfold UnionR at CU
    rw [HU.out] at CU
    have b1 : (k : Int) + 2 ≤ (c : Int) := by omega
    have b2 : (k : Int) ≤ (k : Int) + 2 := by omega
    have b3 : ((k : Int) + 2 - (k : Int)) = 2 := by omega
    have b4 : (k : Int) + 2 ≤ (Rk.length : Int) := by omega
    have b5 : (k : Int) < (Rk.length : Int) := by omega
    have q1 : ¬ (c = k) := by omega
    have b0 : (0 : Int) ≤ (k : Int) + 2 := by omega
    have hj1 : ((k : Int) + 1).toNat = k + 1 := by omega
    have hj2 : ((k : Int) + 2).toNat = k + 2 := by omega
    have hj3 : k + 2 - k = 2 := by omega
    have HLAST := Lib.hid hlast
    clear hlast
    generalize hul : Ed.uni ((Rk.getD k rt0).l ++ (Rk.getD (k + 1) rt0).l) = ul at *
    have HUL := Lib.hid hul
    clear hul HU
    go_wp2_with fail
    with_reducible refine (CU.out).mono ?_
    rintro e w2 ⟨a2, c2, rfl, hown, hb2⟩
    have f2 := (HM.out.below hb2).own.row.frozenAt (k * 2 + 1)
    have m2 : w2.cell? ⟨g, k * 2 + 1, none⟩ = some (.slice (Rk.getD k rt0).o (Rk.getD k rt0).l.length (Rk.getD k rt0).k) := ((HM.out.below hb2).own.row.cellAt (k * 2 + 1) (by have := HLAST.out; omega)).trans (by rw [tbC_get Rk k 1 HK.out (by omega)]; rfl)
    have z2 : w2.cell? ⟨b, 0, none⟩ = some (.slice (some ⟨g, 0, none⟩) Rk.length c) := (HM.out.below hb2).bx.cell 0
    have HM3 := Lib.hid (show MgI w0 w b g c Rk.length (Rk.set k ⟨(Rk.getD k rt0).f, ul, a2, c2⟩) log next (w2.setCell ⟨g, k * 2 + 1, none⟩ (.slice a2 ul.length c2)) from
      ⟨HM.out.own.store HK.out hb2 hown, (HM.out.below hb2).bx.other HM.out.ne _ _, HM.out.ne, HM.out.b0, (HM.out.below hb2).kp.cellT (HM.out.below hb2).own.row _ _⟩)
    clear hown hb2 CU HM
    go_wp2_with fail
    generalize w2.setCell ⟨g, k * 2 + 1, none⟩ (.slice a2 ul.length c2) = w3 at *
    have HR := Lib.hid (show (Rk.set k ⟨(Rk.getD k rt0).f, ul, a2, c2⟩).length = Rk.length from List.length_set)
    have HTB := Lib.hid (tbs_mergeL Rk k HK.out ⟨(Rk.getD k rt0).f, ul, a2, c2⟩)
    generalize Rk.set k ⟨(Rk.getD k rt0).f, ul, a2, c2⟩ = R1 at *
    clear m2 f2 z2 z0 b2 b3 b5 d1 d2 q1 hj3
    have b6 : (k : Int) + 1 ≤ (Rk.length : Int) := by omega
    have b7 : (0 : Int) ≤ (k : Int) + 1 := by omega
    have q2 : ¬ (c = k + 1) := by have := HLAST.out; omega
    by_cases hlt : k + 2 < Rk.length
    · have q3 : ¬ (c = k + 2) := by omega
      have HCP := Lib.hid (fun x hx => merge_copy (HM3.out.below (w' := x) hx).own (k := k) (by rw [HR.out]; exact hlt))
      rw [HR.out] at HCP
      clear hlt
      have HB := Lib.hid (Below.refl w3.heap.size w3)
      refine wp_region_Z (S := fun V => V.cell? ⟨b, 0, none⟩ = some (.slice (some ⟨g, 0, none⟩) Rk.length c)) 14 (by kernel_rfl) ?_ (fun hHeld => ?_)
      · exact (HM3.out.below HB.out.drew).bx.cell 0
      replace HB := Lib.hid HB.out.drew
      obtain ⟨wd, hwd⟩ : ∃ x, x = World.drew w3 := ⟨_, rfl⟩
      rw [← hwd] at HB hHeld ⊢
      clear hwd
      refine wpAnyZ_takeY (i := 0) (oi := { dst := some 31, op := Op.move (Operand.tmp 0), type := 59, pos := "edits.go:125", after := #[], guard := none }) (v := ?_) rfl (by kernel_rfl) (by kernel_rfl) (by kernel_rfl) (by rfl) (fun _ _ _ h => h) (Or.inl ⟨by rfl, ?_⟩) (by assumption) ?_
      rotate_left
      · (intro w; go_simp); (first | done | with_reducible rfl)
      try simp only [Act.put, List.setIfInBounds_toArray, List.set_cons_zero, List.set_cons_succ]
      refine wpAnyZ_takeY (i := 1) (oi := { dst := some 32, op := Op.nilCheck (Operand.tmp 31), type := 0, pos := "edits.go:125", after := #[{ on := 0, ground := Ground.data }], guard := none }) (v := ?_) rfl (by kernel_rfl) (by kernel_rfl) (by kernel_rfl) (by rfl) (fun _ _ _ h => h) (Or.inl ⟨by rfl, ?_⟩) (by assumption) ?_
      rotate_left
      · (intro w; go_simp); (first | done | with_reducible rfl)
      try simp only [Act.put, List.setIfInBounds_toArray, List.set_cons_zero, List.set_cons_succ]
      refine wpAnyZ_takeY (i := 2) (oi := { dst := some 33, op := Op.fieldAddr 24 (Operand.tmp 32) 0, type := 0, pos := "edits.go:125", after := #[{ on := 1, ground := Ground.data }], guard := none }) (v := ?_) rfl (by kernel_rfl) (by kernel_rfl) (by kernel_rfl) (by rfl) (fun _ _ _ h => h) (Or.inl ⟨by rfl, ?_⟩) (by assumption) ?_
      rotate_left
      · (intro w; go_simp); (first | done | with_reducible rfl)
      try simp only [Act.put, List.setIfInBounds_toArray, List.set_cons_zero, List.set_cons_succ]
      refine wpAnyZ_take (i := 3) (oi := { dst := some 34, op := Op.load 22 (Operand.tmp 33), type := 22, pos := "edits.go:125", after := #[{ on := 2, ground := Ground.data }], guard := none }) (v := ?_) [6, 14] rfl (by kernel_rfl) (by kernel_rfl) (by kernel_rfl) (by kernel_rfl) (fun _ _ _ h => h) (Or.inl ⟨by rfl, ?_⟩) (by assumption) ?_
      rotate_left
      · (intro w hSw; (try dsimp only at hSw); go_simp); (first | done | with_reducible rfl)
      try simp only [Act.put, List.setIfInBounds_toArray, List.set_cons_zero, List.set_cons_succ]
      refine wpAnyZ_takeY (i := 4) (oi := { dst := some 35, op := Op.move (Operand.tmp 1), type := 3, pos := "edits.go:125", after := #[], guard := none }) (v := ?_) rfl (by kernel_rfl) (by kernel_rfl) (by kernel_rfl) (by rfl) (fun _ _ _ h => h) (Or.inl ⟨by rfl, ?_⟩) (by assumption) ?_
      rotate_left
      · (intro w; go_simp); (first | done | with_reducible rfl)
      try simp only [Act.put, List.setIfInBounds_toArray, List.set_cons_zero, List.set_cons_succ]
      refine wpAnyZ_takeY (i := 5) (oi := { dst := some 36, op := Op.binOp BinOp.add 3 (Operand.tmp 35) (Operand.const (Value.int IntKind.i64 1)) 3, type := 3, pos := "edits.go:125", after := #[{ on := 4, ground := Ground.data }], guard := none }) (v := ?_) rfl (by kernel_rfl) (by kernel_rfl) (by kernel_rfl) (by rfl) (fun _ _ _ h => h) (Or.inl ⟨by rfl, ?_⟩) (by assumption) ?_
      rotate_left
      · (intro w; go_simp); (first | done | with_reducible rfl)
      try simp only [Act.put, List.setIfInBounds_toArray, List.set_cons_zero, List.set_cons_succ]
      refine wpAnyZ_takeY (i := 6) (oi := { dst := some 37, op := Op.slice 22 (Operand.tmp 34) (some (Operand.tmp 36)) none none, type := 22, pos := "edits.go:125", after := #[{ on := 3, ground := Ground.data }, { on := 5, ground := Ground.data }], guard := none }) (v := ?_) rfl (by kernel_rfl) (by kernel_rfl) (by kernel_rfl) (by rfl) (fun _ _ _ h => h) (Or.inl ⟨by rfl, ?_⟩) (by assumption) ?_
      rotate_left
      · (intro w; go_simp); (first | done | with_reducible rfl)
      try simp only [Act.put, List.setIfInBounds_toArray, List.set_cons_zero, List.set_cons_succ]
      refine wpAnyZ_takeY (i := 7) (oi := { dst := some 38, op := Op.move (Operand.tmp 0), type := 59, pos := "edits.go:125", after := #[], guard := none }) (v := ?_) rfl (by kernel_rfl) (by kernel_rfl) (by kernel_rfl) (by rfl) (fun _ _ _ h => h) (Or.inl ⟨by rfl, ?_⟩) (by assumption) ?_
      rotate_left
      · (intro w; go_simp); (first | done | with_reducible rfl)
      try simp only [Act.put, List.setIfInBounds_toArray, List.set_cons_zero, List.set_cons_succ]
      refine wpAnyZ_takeY (i := 8) (oi := { dst := some 39, op := Op.nilCheck (Operand.tmp 38), type := 0, pos := "edits.go:125", after := #[{ on := 7, ground := Ground.data }], guard := none }) (v := ?_) rfl (by kernel_rfl) (by kernel_rfl) (by kernel_rfl) (by rfl) (fun _ _ _ h => h) (Or.inl ⟨by rfl, ?_⟩) (by assumption) ?_
      rotate_left
      · (intro w; go_simp); (first | done | with_reducible rfl)
      try simp only [Act.put, List.setIfInBounds_toArray, List.set_cons_zero, List.set_cons_succ]
      refine wpAnyZ_takeY (i := 9) (oi := { dst := some 40, op := Op.fieldAddr 24 (Operand.tmp 39) 0, type := 0, pos := "edits.go:125", after := #[{ on := 8, ground := Ground.data }], guard := none }) (v := ?_) rfl (by kernel_rfl) (by kernel_rfl) (by kernel_rfl) (by rfl) (fun _ _ _ h => h) (Or.inl ⟨by rfl, ?_⟩) (by assumption) ?_
      rotate_left
      · (intro w; go_simp); (first | done | with_reducible rfl)
      try simp only [Act.put, List.setIfInBounds_toArray, List.set_cons_zero, List.set_cons_succ]
      refine wpAnyZ_take (i := 10) (oi := { dst := some 41, op := Op.load 22 (Operand.tmp 40), type := 22, pos := "edits.go:125", after := #[{ on := 9, ground := Ground.data }], guard := none }) (v := ?_) [13, 14] rfl (by kernel_rfl) (by kernel_rfl) (by kernel_rfl) (by kernel_rfl) (fun _ _ _ h => h) (Or.inl ⟨by rfl, ?_⟩) (by assumption) ?_
      rotate_left
      · (intro w hSw; (try dsimp only at hSw); go_simp); (first | done | with_reducible rfl)
      try simp only [Act.put, List.setIfInBounds_toArray, List.set_cons_zero, List.set_cons_succ]
      refine wpAnyZ_takeY (i := 11) (oi := { dst := some 42, op := Op.move (Operand.tmp 1), type := 3, pos := "edits.go:125", after := #[], guard := none }) (v := ?_) rfl (by kernel_rfl) (by kernel_rfl) (by kernel_rfl) (by rfl) (fun _ _ _ h => h) (Or.inl ⟨by rfl, ?_⟩) (by assumption) ?_
      rotate_left
      · (intro w; go_simp); (first | done | with_reducible rfl)
      try simp only [Act.put, List.setIfInBounds_toArray, List.set_cons_zero, List.set_cons_succ]
      refine wpAnyZ_takeY (i := 12) (oi := { dst := some 43, op := Op.binOp BinOp.add 3 (Operand.tmp 42) (Operand.const (Value.int IntKind.i64 2)) 3, type := 3, pos := "edits.go:125", after := #[{ on := 11, ground := Ground.data }], guard := none }) (v := ?_) rfl (by kernel_rfl) (by kernel_rfl) (by kernel_rfl) (by rfl) (fun _ _ _ h => h) (Or.inl ⟨by rfl, ?_⟩) (by assumption) ?_
      rotate_left
      · (intro w; go_simp); (first | done | with_reducible rfl)
      try simp only [Act.put, List.setIfInBounds_toArray, List.set_cons_zero, List.set_cons_succ]
      refine wpAnyZ_takeY (i := 13) (oi := { dst := some 44, op := Op.slice 22 (Operand.tmp 41) (some (Operand.tmp 43)) none none, type := 22, pos := "edits.go:125", after := #[{ on := 10, ground := Ground.data }, { on := 12, ground := Ground.data }], guard := none }) (v := ?_) rfl (by kernel_rfl) (by kernel_rfl) (by kernel_rfl) (by rfl) (fun _ _ _ h => h) (Or.inl ⟨by rfl, ?_⟩) (by assumption) ?_
      rotate_left
      · (intro w; go_simp); (first | done | with_reducible rfl)
      try simp only [Act.put, List.setIfInBounds_toArray, List.set_cons_zero, List.set_cons_succ]
      refine wpAnyZ_ready (rs := [14]) (by kernel_rfl) (by simp) ?_
      refine AllReadyZ.last (o := { dst := some 45, op := Op.call { callee := Callee.builtin Builtin.copy, args := #[Operand.tmp 37, Operand.tmp 44], argTypes := #[22, 22] }, type := 3, pos := "edits.go:125", after := #[{ on := 6, ground := Ground.data }, { on := 13, ground := Ground.data }], guard := none }) rfl (fun K hK => ?_) AllReadyZ.nil
      obtain ⟨w5, hcp, hown5, hoth5, hsz5⟩ := HCP.out _ HB.out
      refine step_copy_run16 rfl _ _ 22 22 rfl _ _ (by simp [Act.eval, Act.put, q2]) (by simp [Act.eval, Act.put, q3]) (hcp _ (c - (k + 1)) (c - (k + 2))) ?_
      refine hK.out _ _ ?_
      clear hK K
      refine wpAny_done (by kernel_rfl) ?_ _
      have HM5 := Lib.hid (show MgI w0 w b g c Rk.length (mergeL R1 k) log next w5 from ⟨hown5, hoth5 _ _ _ HM3.out.ne (HM3.out.below HB.out).bx, HM3.out.ne, HM3.out.b0, fun C q hq hC => hoth5 _ _ q (fun e => own_of_blk ((HM3.out.below HB.out).kp C q hq hC) (HM3.out.below HB.out).own.row (by decide) (by rw [e]; rfl)) ((HM3.out.below HB.out).kp C q hq hC)⟩)
      clear hown5 hoth5 hsz5 hcp HCP q3
      obtain ⟨m, hm⟩ : ∃ m, m = Rk.length - 1 := ⟨_, rfl⟩
      have HML := Lib.hid (show (mergeL R1 k).length = m from by rw [mergeL_len R1 k (by rw [HR.out]; exact HLAST.out), HR.out, hm])
      have e5 : (Rk.length : Int) - 1 = (m : Int) := by have := HK.out; omega
      have e6 : IntKind.i64.wrap (m : Int) = (m : Int) := IntWalk.i64_in _ (by omega)
      have e7 : (m : Int) ≤ (c : Int) := by omega
      have e8 : (0 : Int) ≤ (m : Int) := by omega
      clear hm b6 b7 q2 hj1 hj2 b4 b1 b0 ek1 ek2
      clear HB hHeld HM3
      clear wd
      go_wp2_with fail
      have HB := Lib.hid (Below.refl w5.heap.size w5)
      refine wp_region_Z (S := fun V => V.cell? ⟨b, 0, none⟩ = some (.slice (some ⟨g, 0, none⟩) Rk.length c)) 14 (by kernel_rfl) ?_ (fun hHeld => ?_)
      · exact (HM5.out.below HB.out.drew).bx.cell 0
      replace HB := Lib.hid HB.out.drew
      obtain ⟨wd, hwd⟩ : ∃ x, x = World.drew w5 := ⟨_, rfl⟩
      rw [← hwd] at HB hHeld ⊢
      clear hwd
      refine wpAnyZ_takeY (i := 0) (oi := { dst := some 46, op := Op.move (Operand.tmp 0), type := 59, pos := "edits.go:126", after := #[], guard := none }) (v := ?_) rfl (by kernel_rfl) (by kernel_rfl) (by kernel_rfl) (by rfl) (fun _ _ _ h => h) (Or.inl ⟨by rfl, ?_⟩) (by assumption) ?_
      rotate_left
      · (intro w; go_simp); (first | done | with_reducible rfl)
      try simp only [Act.put, List.setIfInBounds_toArray, List.set_cons_zero, List.set_cons_succ]
      refine wpAnyZ_takeY (i := 1) (oi := { dst := some 47, op := Op.move (Operand.tmp 0), type := 59, pos := "edits.go:126", after := #[], guard := none }) (v := ?_) rfl (by kernel_rfl) (by kernel_rfl) (by kernel_rfl) (by rfl) (fun _ _ _ h => h) (Or.inl ⟨by rfl, ?_⟩) (by assumption) ?_
      rotate_left
      · (intro w; go_simp); (first | done | with_reducible rfl)
      try simp only [Act.put, List.setIfInBounds_toArray, List.set_cons_zero, List.set_cons_succ]
      refine wpAnyZ_takeY (i := 2) (oi := { dst := some 48, op := Op.nilCheck (Operand.tmp 47), type := 0, pos := "edits.go:126", after := #[{ on := 1, ground := Ground.data }], guard := none }) (v := ?_) rfl (by kernel_rfl) (by kernel_rfl) (by kernel_rfl) (by rfl) (fun _ _ _ h => h) (Or.inl ⟨by rfl, ?_⟩) (by assumption) ?_
      rotate_left
      · (intro w; go_simp); (first | done | with_reducible rfl)
      try simp only [Act.put, List.setIfInBounds_toArray, List.set_cons_zero, List.set_cons_succ]
      refine wpAnyZ_takeY (i := 3) (oi := { dst := some 49, op := Op.fieldAddr 24 (Operand.tmp 48) 0, type := 0, pos := "edits.go:126", after := #[{ on := 2, ground := Ground.data }], guard := none }) (v := ?_) rfl (by kernel_rfl) (by kernel_rfl) (by kernel_rfl) (by rfl) (fun _ _ _ h => h) (Or.inl ⟨by rfl, ?_⟩) (by assumption) ?_
      rotate_left
      · (intro w; go_simp); (first | done | with_reducible rfl)
      try simp only [Act.put, List.setIfInBounds_toArray, List.set_cons_zero, List.set_cons_succ]
      refine wpAnyZ_take (i := 4) (oi := { dst := some 50, op := Op.load 22 (Operand.tmp 49), type := 22, pos := "edits.go:126", after := #[{ on := 3, ground := Ground.data }], guard := none }) (v := ?_) [11, 12, 13, 14] rfl (by kernel_rfl) (by kernel_rfl) (by kernel_rfl) (by kernel_rfl) (fun _ _ _ h => h) (Or.inl ⟨by rfl, ?_⟩) (by assumption) ?_
      rotate_left
      · (intro w hSw; (try dsimp only at hSw); go_simp); (first | done | with_reducible rfl)
      try simp only [Act.put, List.setIfInBounds_toArray, List.set_cons_zero, List.set_cons_succ]
      refine wpAnyZ_takeY (i := 5) (oi := { dst := some 51, op := Op.move (Operand.tmp 0), type := 59, pos := "edits.go:126", after := #[], guard := none }) (v := ?_) rfl (by kernel_rfl) (by kernel_rfl) (by kernel_rfl) (by rfl) (fun _ _ _ h => h) (Or.inl ⟨by rfl, ?_⟩) (by assumption) ?_
      rotate_left
      · (intro w; go_simp); (first | done | with_reducible rfl)
      try simp only [Act.put, List.setIfInBounds_toArray, List.set_cons_zero, List.set_cons_succ]
      refine wpAnyZ_takeY (i := 6) (oi := { dst := some 52, op := Op.nilCheck (Operand.tmp 51), type := 0, pos := "edits.go:126", after := #[{ on := 5, ground := Ground.data }], guard := none }) (v := ?_) rfl (by kernel_rfl) (by kernel_rfl) (by kernel_rfl) (by rfl) (fun _ _ _ h => h) (Or.inl ⟨by rfl, ?_⟩) (by assumption) ?_
      rotate_left
      · (intro w; go_simp); (first | done | with_reducible rfl)
      try simp only [Act.put, List.setIfInBounds_toArray, List.set_cons_zero, List.set_cons_succ]
      refine wpAnyZ_takeY (i := 7) (oi := { dst := some 53, op := Op.fieldAddr 24 (Operand.tmp 52) 0, type := 0, pos := "edits.go:126", after := #[{ on := 6, ground := Ground.data }], guard := none }) (v := ?_) rfl (by kernel_rfl) (by kernel_rfl) (by kernel_rfl) (by rfl) (fun _ _ _ h => h) (Or.inl ⟨by rfl, ?_⟩) (by assumption) ?_
      rotate_left
      · (intro w; go_simp); (first | done | with_reducible rfl)
      try simp only [Act.put, List.setIfInBounds_toArray, List.set_cons_zero, List.set_cons_succ]
      refine wpAnyZ_take (i := 8) (oi := { dst := some 54, op := Op.load 22 (Operand.tmp 53), type := 22, pos := "edits.go:126", after := #[{ on := 7, ground := Ground.data }], guard := none }) (v := ?_) [9, 10, 11, 12, 13, 14] rfl (by kernel_rfl) (by kernel_rfl) (by kernel_rfl) (by kernel_rfl) (fun _ _ _ h => h) (Or.inl ⟨by rfl, ?_⟩) (by assumption) ?_
      rotate_left
      · (intro w hSw; (try dsimp only at hSw); go_simp); (first | done | with_reducible rfl)
      try simp only [Act.put, List.setIfInBounds_toArray, List.set_cons_zero, List.set_cons_succ]
      refine wpAnyZ_takeY (i := 9) (oi := { dst := some 55, op := Op.call { callee := Callee.builtin Builtin.len, args := #[Operand.tmp 54], argTypes := #[22] }, type := 3, pos := "edits.go:126", after := #[{ on := 8, ground := Ground.data }], guard := none }) (v := ?_) rfl (by kernel_rfl) (by kernel_rfl) (by kernel_rfl) (by rfl) (fun _ _ _ h => h) (Or.inl ⟨by rfl, ?_⟩) (by assumption) ?_
      rotate_left
      · (intro w; go_simp); (first | done | with_reducible rfl)
      try simp only [Act.put, List.setIfInBounds_toArray, List.set_cons_zero, List.set_cons_succ]
      refine wpAnyZ_takeY (i := 10) (oi := { dst := some 56, op := Op.binOp BinOp.sub 3 (Operand.tmp 55) (Operand.const (Value.int IntKind.i64 1)) 3, type := 3, pos := "edits.go:126", after := #[{ on := 9, ground := Ground.data }], guard := none }) (v := ?_) rfl (by kernel_rfl) (by kernel_rfl) (by kernel_rfl) (by rfl) (fun _ _ _ h => h) (Or.inl ⟨by rfl, ?_⟩) (by assumption) ?_
      rotate_left
      · (intro w; go_simp); (first | done | with_reducible rfl)
      try simp only [Act.put, List.setIfInBounds_toArray, List.set_cons_zero, List.set_cons_succ]
      refine wpAnyZ_takeY (i := 11) (oi := { dst := some 57, op := Op.slice 22 (Operand.tmp 50) none (some (Operand.tmp 56)) none, type := 22, pos := "edits.go:126", after := #[{ on := 4, ground := Ground.data }, { on := 10, ground := Ground.data }], guard := none }) (v := ?_) rfl (by kernel_rfl) (by kernel_rfl) (by kernel_rfl) (by rfl) (fun _ _ _ h => h) (Or.inl ⟨by rfl, ?_⟩) (by assumption) ?_
      rotate_left
      · (intro w; go_simp); (first | done | with_reducible rfl)
      try simp only [Act.put, List.setIfInBounds_toArray, List.set_cons_zero, List.set_cons_succ]
      refine wpAnyZ_takeY (i := 12) (oi := { dst := some 58, op := Op.nilCheck (Operand.tmp 46), type := 0, pos := "edits.go:126", after := #[{ on := 0, ground := Ground.data }, { on := 0, ground := Ground.phase }, { on := 1, ground := Ground.phase }, { on := 2, ground := Ground.phase }, { on := 3, ground := Ground.phase }, { on := 4, ground := Ground.phase }, { on := 5, ground := Ground.phase }, { on := 6, ground := Ground.phase }, { on := 7, ground := Ground.phase }, { on := 8, ground := Ground.phase }, { on := 9, ground := Ground.phase }, { on := 10, ground := Ground.phase }, { on := 11, ground := Ground.phase }], guard := none }) (v := ?_) rfl (by kernel_rfl) (by kernel_rfl) (by kernel_rfl) (by rfl) (fun _ _ _ h => h) (Or.inl ⟨by rfl, ?_⟩) (by assumption) ?_
      rotate_left
      · (intro w; go_simp); (first | done | with_reducible rfl)
      try simp only [Act.put, List.setIfInBounds_toArray, List.set_cons_zero, List.set_cons_succ]
      refine wpAnyZ_takeY (i := 13) (oi := { dst := some 59, op := Op.fieldAddr 24 (Operand.tmp 58) 0, type := 0, pos := "edits.go:126", after := #[{ on := 12, ground := Ground.data }, { on := 0, ground := Ground.phase }, { on := 1, ground := Ground.phase }, { on := 2, ground := Ground.phase }, { on := 3, ground := Ground.phase }, { on := 4, ground := Ground.phase }, { on := 5, ground := Ground.phase }, { on := 6, ground := Ground.phase }, { on := 7, ground := Ground.phase }, { on := 8, ground := Ground.phase }, { on := 9, ground := Ground.phase }, { on := 10, ground := Ground.phase }, { on := 11, ground := Ground.phase }], guard := none }) (v := ?_) rfl (by kernel_rfl) (by kernel_rfl) (by kernel_rfl) (by rfl) (fun _ _ _ h => h) (Or.inl ⟨by rfl, ?_⟩) (by assumption) ?_
      rotate_left
      · (intro w; go_simp); (first | done | with_reducible rfl)
      try simp only [Act.put, List.setIfInBounds_toArray, List.set_cons_zero, List.set_cons_succ]
      refine wpAnyZ_ready (rs := [14]) (by kernel_rfl) (by simp) ?_
      refine AllReadyZ.last (o := { dst := none, op := Op.store 22 (Operand.tmp 59) (Operand.tmp 57), type := 0, pos := "edits.go:126", after := #[{ on := 13, ground := Ground.data }, { on := 11, ground := Ground.data }, { on := 0, ground := Ground.phase }, { on := 1, ground := Ground.phase }, { on := 2, ground := Ground.phase }, { on := 3, ground := Ground.phase }, { on := 4, ground := Ground.phase }, { on := 5, ground := Ground.phase }, { on := 6, ground := Ground.phase }, { on := 7, ground := Ground.phase }, { on := 8, ground := Ground.phase }, { on := 9, ground := Ground.phase }, { on := 10, ground := Ground.phase }, { on := 11, ground := Ground.phase }], guard := none }) rfl (fun K hK => ?_) AllReadyZ.nil
      have f9 := (HM5.out.below HB.out).bx.free 0
      have m9 := (HM5.out.below HB.out).bx.cell 0
      go_simp
      refine hK.out _ _ ?_
      clear hK K
      refine wpAny_done (by kernel_rfl) ?_ _
      go_wp2_with fail
      go_ret
      have h7 := (HM5.out.below HB.out).out
      rw [HML.out, HTB.out] at h7
      rw [← HUL.out] at h7
      exact .inr ⟨HLAST.out, rfl, h7⟩
    · have q4 : k + 2 = Rk.length := by have := HLAST.out; omega
      have HMN := Lib.hid (fun x hx => merge_none (HM3.out.below (w' := x) hx).own (k := k) (by rw [HR.out]; exact q4))
      have q5 : Rk.length - (k + 2) = 0 := by omega
      clear q4 hlt
      have HB := Lib.hid (Below.refl w3.heap.size w3)
      refine wp_region_Z (S := fun V => V.cell? ⟨b, 0, none⟩ = some (.slice (some ⟨g, 0, none⟩) Rk.length c)) 14 (by kernel_rfl) ?_ (fun hHeld => ?_)
      · exact (HM3.out.below HB.out.drew).bx.cell 0
      replace HB := Lib.hid HB.out.drew
      obtain ⟨wd, hwd⟩ : ∃ x, x = World.drew w3 := ⟨_, rfl⟩
      rw [← hwd] at HB hHeld ⊢
      clear hwd
      refine wpAnyZ_takeY (i := 0) (oi := { dst := some 31, op := Op.move (Operand.tmp 0), type := 59, pos := "edits.go:125", after := #[], guard := none }) (v := ?_) rfl (by kernel_rfl) (by kernel_rfl) (by kernel_rfl) (by rfl) (fun _ _ _ h => h) (Or.inl ⟨by rfl, ?_⟩) (by assumption) ?_
      rotate_left
      · (intro w; go_simp); (first | done | with_reducible rfl)
      try simp only [Act.put, List.setIfInBounds_toArray, List.set_cons_zero, List.set_cons_succ]
      refine wpAnyZ_takeY (i := 1) (oi := { dst := some 32, op := Op.nilCheck (Operand.tmp 31), type := 0, pos := "edits.go:125", after := #[{ on := 0, ground := Ground.data }], guard := none }) (v := ?_) rfl (by kernel_rfl) (by kernel_rfl) (by kernel_rfl) (by rfl) (fun _ _ _ h => h) (Or.inl ⟨by rfl, ?_⟩) (by assumption) ?_
      rotate_left
      · (intro w; go_simp); (first | done | with_reducible rfl)
      try simp only [Act.put, List.setIfInBounds_toArray, List.set_cons_zero, List.set_cons_succ]
      refine wpAnyZ_takeY (i := 2) (oi := { dst := some 33, op := Op.fieldAddr 24 (Operand.tmp 32) 0, type := 0, pos := "edits.go:125", after := #[{ on := 1, ground := Ground.data }], guard := none }) (v := ?_) rfl (by kernel_rfl) (by kernel_rfl) (by kernel_rfl) (by rfl) (fun _ _ _ h => h) (Or.inl ⟨by rfl, ?_⟩) (by assumption) ?_
      rotate_left
      · (intro w; go_simp); (first | done | with_reducible rfl)
      try simp only [Act.put, List.setIfInBounds_toArray, List.set_cons_zero, List.set_cons_succ]
      refine wpAnyZ_take (i := 3) (oi := { dst := some 34, op := Op.load 22 (Operand.tmp 33), type := 22, pos := "edits.go:125", after := #[{ on := 2, ground := Ground.data }], guard := none }) (v := ?_) [6, 14] rfl (by kernel_rfl) (by kernel_rfl) (by kernel_rfl) (by kernel_rfl) (fun _ _ _ h => h) (Or.inl ⟨by rfl, ?_⟩) (by assumption) ?_
      rotate_left
      · (intro w hSw; (try dsimp only at hSw); go_simp); (first | done | with_reducible rfl)
      try simp only [Act.put, List.setIfInBounds_toArray, List.set_cons_zero, List.set_cons_succ]
      refine wpAnyZ_takeY (i := 4) (oi := { dst := some 35, op := Op.move (Operand.tmp 1), type := 3, pos := "edits.go:125", after := #[], guard := none }) (v := ?_) rfl (by kernel_rfl) (by kernel_rfl) (by kernel_rfl) (by rfl) (fun _ _ _ h => h) (Or.inl ⟨by rfl, ?_⟩) (by assumption) ?_
      rotate_left
      · (intro w; go_simp); (first | done | with_reducible rfl)
      try simp only [Act.put, List.setIfInBounds_toArray, List.set_cons_zero, List.set_cons_succ]
      refine wpAnyZ_takeY (i := 5) (oi := { dst := some 36, op := Op.binOp BinOp.add 3 (Operand.tmp 35) (Operand.const (Value.int IntKind.i64 1)) 3, type := 3, pos := "edits.go:125", after := #[{ on := 4, ground := Ground.data }], guard := none }) (v := ?_) rfl (by kernel_rfl) (by kernel_rfl) (by kernel_rfl) (by rfl) (fun _ _ _ h => h) (Or.inl ⟨by rfl, ?_⟩) (by assumption) ?_
      rotate_left
      · (intro w; go_simp); (first | done | with_reducible rfl)
      try simp only [Act.put, List.setIfInBounds_toArray, List.set_cons_zero, List.set_cons_succ]
      refine wpAnyZ_takeY (i := 6) (oi := { dst := some 37, op := Op.slice 22 (Operand.tmp 34) (some (Operand.tmp 36)) none none, type := 22, pos := "edits.go:125", after := #[{ on := 3, ground := Ground.data }, { on := 5, ground := Ground.data }], guard := none }) (v := ?_) rfl (by kernel_rfl) (by kernel_rfl) (by kernel_rfl) (by rfl) (fun _ _ _ h => h) (Or.inl ⟨by rfl, ?_⟩) (by assumption) ?_
      rotate_left
      · (intro w; go_simp); (first | done | with_reducible rfl)
      try simp only [Act.put, List.setIfInBounds_toArray, List.set_cons_zero, List.set_cons_succ]
      refine wpAnyZ_takeY (i := 7) (oi := { dst := some 38, op := Op.move (Operand.tmp 0), type := 59, pos := "edits.go:125", after := #[], guard := none }) (v := ?_) rfl (by kernel_rfl) (by kernel_rfl) (by kernel_rfl) (by rfl) (fun _ _ _ h => h) (Or.inl ⟨by rfl, ?_⟩) (by assumption) ?_
      rotate_left
      · (intro w; go_simp); (first | done | with_reducible rfl)
      try simp only [Act.put, List.setIfInBounds_toArray, List.set_cons_zero, List.set_cons_succ]
      refine wpAnyZ_takeY (i := 8) (oi := { dst := some 39, op := Op.nilCheck (Operand.tmp 38), type := 0, pos := "edits.go:125", after := #[{ on := 7, ground := Ground.data }], guard := none }) (v := ?_) rfl (by kernel_rfl) (by kernel_rfl) (by kernel_rfl) (by rfl) (fun _ _ _ h => h) (Or.inl ⟨by rfl, ?_⟩) (by assumption) ?_
      rotate_left
      · (intro w; go_simp); (first | done | with_reducible rfl)
      try simp only [Act.put, List.setIfInBounds_toArray, List.set_cons_zero, List.set_cons_succ]
      refine wpAnyZ_takeY (i := 9) (oi := { dst := some 40, op := Op.fieldAddr 24 (Operand.tmp 39) 0, type := 0, pos := "edits.go:125", after := #[{ on := 8, ground := Ground.data }], guard := none }) (v := ?_) rfl (by kernel_rfl) (by kernel_rfl) (by kernel_rfl) (by rfl) (fun _ _ _ h => h) (Or.inl ⟨by rfl, ?_⟩) (by assumption) ?_
      rotate_left
      · (intro w; go_simp); (first | done | with_reducible rfl)
      try simp only [Act.put, List.setIfInBounds_toArray, List.set_cons_zero, List.set_cons_succ]
      refine wpAnyZ_take (i := 10) (oi := { dst := some 41, op := Op.load 22 (Operand.tmp 40), type := 22, pos := "edits.go:125", after := #[{ on := 9, ground := Ground.data }], guard := none }) (v := ?_) [13, 14] rfl (by kernel_rfl) (by kernel_rfl) (by kernel_rfl) (by kernel_rfl) (fun _ _ _ h => h) (Or.inl ⟨by rfl, ?_⟩) (by assumption) ?_
      rotate_left
      · (intro w hSw; (try dsimp only at hSw); go_simp); (first | done | with_reducible rfl)
      try simp only [Act.put, List.setIfInBounds_toArray, List.set_cons_zero, List.set_cons_succ]
      refine wpAnyZ_takeY (i := 11) (oi := { dst := some 42, op := Op.move (Operand.tmp 1), type := 3, pos := "edits.go:125", after := #[], guard := none }) (v := ?_) rfl (by kernel_rfl) (by kernel_rfl) (by kernel_rfl) (by rfl) (fun _ _ _ h => h) (Or.inl ⟨by rfl, ?_⟩) (by assumption) ?_
      rotate_left
      · (intro w; go_simp); (first | done | with_reducible rfl)
      try simp only [Act.put, List.setIfInBounds_toArray, List.set_cons_zero, List.set_cons_succ]
      refine wpAnyZ_takeY (i := 12) (oi := { dst := some 43, op := Op.binOp BinOp.add 3 (Operand.tmp 42) (Operand.const (Value.int IntKind.i64 2)) 3, type := 3, pos := "edits.go:125", after := #[{ on := 11, ground := Ground.data }], guard := none }) (v := ?_) rfl (by kernel_rfl) (by kernel_rfl) (by kernel_rfl) (by rfl) (fun _ _ _ h => h) (Or.inl ⟨by rfl, ?_⟩) (by assumption) ?_
      rotate_left
      · (intro w; go_simp); (first | done | with_reducible rfl)
      try simp only [Act.put, List.setIfInBounds_toArray, List.set_cons_zero, List.set_cons_succ]
      refine wpAnyZ_takeY (i := 13) (oi := { dst := some 44, op := Op.slice 22 (Operand.tmp 41) (some (Operand.tmp 43)) none none, type := 22, pos := "edits.go:125", after := #[{ on := 10, ground := Ground.data }, { on := 12, ground := Ground.data }], guard := none }) (v := ?_) rfl (by kernel_rfl) (by kernel_rfl) (by kernel_rfl) (by rfl) (fun _ _ _ h => h) (Or.inl ⟨by rfl, ?_⟩) (by assumption) ?_
      rotate_left
      · (intro w; go_simp); (first | done | with_reducible rfl)
      try simp only [Act.put, List.setIfInBounds_toArray, List.set_cons_zero, List.set_cons_succ]
      refine wpAnyZ_ready (rs := [14]) (by kernel_rfl) (by simp) ?_
      refine AllReadyZ.last (o := { dst := some 45, op := Op.call { callee := Callee.builtin Builtin.copy, args := #[Operand.tmp 37, Operand.tmp 44], argTypes := #[22, 22] }, type := 3, pos := "edits.go:125", after := #[{ on := 6, ground := Ground.data }, { on := 13, ground := Ground.data }], guard := none }) rfl (fun K hK => ?_) AllReadyZ.nil
      refine step_copy_run16 rfl _ _ 22 22 rfl _ _ (by simp [Act.eval, Act.put, q2]; exact ⟨rfl, rfl⟩) (by simp [Act.eval, Act.put]; exact ⟨rfl, rfl⟩) (run_copy_none16 _ _ _ _ 41 Try.underlying22 2 infoTb_size _ _ (Rk.length - (k + 1)) _ 0 _ (by simp)) ?_
      refine hK.out _ _ ?_
      clear hK K
      refine wpAny_done (by kernel_rfl) ?_ _
      generalize (if c = k + 2 then some ({ block := g, off := 0 } : Addr) else some { block := g, off := (k + 2) * 2 }) = sa
      have HM5 := Lib.hid (show MgI w0 w b g c Rk.length (mergeL R1 k) log next wd from ⟨HMN.out _ HB.out, (HM3.out.below HB.out).bx, HM3.out.ne, HM3.out.b0, (HM3.out.below HB.out).kp⟩)
      clear q5 HMN
      obtain ⟨m, hm⟩ : ∃ m, m = Rk.length - 1 := ⟨_, rfl⟩
      have HML := Lib.hid (show (mergeL R1 k).length = m from by rw [mergeL_len R1 k (by rw [HR.out]; exact HLAST.out), HR.out, hm])
      have e5 : (Rk.length : Int) - 1 = (m : Int) := by have := HK.out; omega
      have e6 : IntKind.i64.wrap (m : Int) = (m : Int) := IntWalk.i64_in _ (by omega)
      have e7 : (m : Int) ≤ (c : Int) := by omega
      have e8 : (0 : Int) ≤ (m : Int) := by omega
      clear hm b6 b7 q2 hj1 hj2 b4 b1 b0 ek1 ek2
      clear HB hHeld HM3
      generalize hw5 : wd = w5 at *
      clear hw5
      go_wp2_with fail
      have HB := Lib.hid (Below.refl w5.heap.size w5)
      refine wp_region_Z (S := fun V => V.cell? ⟨b, 0, none⟩ = some (.slice (some ⟨g, 0, none⟩) Rk.length c)) 14 (by kernel_rfl) ?_ (fun hHeld => ?_)
      · exact (HM5.out.below HB.out.drew).bx.cell 0
      replace HB := Lib.hid HB.out.drew
      obtain ⟨wd, hwd⟩ : ∃ x, x = World.drew w5 := ⟨_, rfl⟩
      rw [← hwd] at HB hHeld ⊢
      clear hwd
      refine wpAnyZ_takeY (i := 0) (oi := { dst := some 46, op := Op.move (Operand.tmp 0), type := 59, pos := "edits.go:126", after := #[], guard := none }) (v := ?_) rfl (by kernel_rfl) (by kernel_rfl) (by kernel_rfl) (by rfl) (fun _ _ _ h => h) (Or.inl ⟨by rfl, ?_⟩) (by assumption) ?_
      rotate_left
      · (intro w; go_simp); (first | done | with_reducible rfl)
      try simp only [Act.put, List.setIfInBounds_toArray, List.set_cons_zero, List.set_cons_succ]
      refine wpAnyZ_takeY (i := 1) (oi := { dst := some 47, op := Op.move (Operand.tmp 0), type := 59, pos := "edits.go:126", after := #[], guard := none }) (v := ?_) rfl (by kernel_rfl) (by kernel_rfl) (by kernel_rfl) (by rfl) (fun _ _ _ h => h) (Or.inl ⟨by rfl, ?_⟩) (by assumption) ?_
      rotate_left
      · (intro w; go_simp); (first | done | with_reducible rfl)
      try simp only [Act.put, List.setIfInBounds_toArray, List.set_cons_zero, List.set_cons_succ]
      refine wpAnyZ_takeY (i := 2) (oi := { dst := some 48, op := Op.nilCheck (Operand.tmp 47), type := 0, pos := "edits.go:126", after := #[{ on := 1, ground := Ground.data }], guard := none }) (v := ?_) rfl (by kernel_rfl) (by kernel_rfl) (by kernel_rfl) (by rfl) (fun _ _ _ h => h) (Or.inl ⟨by rfl, ?_⟩) (by assumption) ?_
      rotate_left
      · (intro w; go_simp); (first | done | with_reducible rfl)
      try simp only [Act.put, List.setIfInBounds_toArray, List.set_cons_zero, List.set_cons_succ]
      refine wpAnyZ_takeY (i := 3) (oi := { dst := some 49, op := Op.fieldAddr 24 (Operand.tmp 48) 0, type := 0, pos := "edits.go:126", after := #[{ on := 2, ground := Ground.data }], guard := none }) (v := ?_) rfl (by kernel_rfl) (by kernel_rfl) (by kernel_rfl) (by rfl) (fun _ _ _ h => h) (Or.inl ⟨by rfl, ?_⟩) (by assumption) ?_
      rotate_left
      · (intro w; go_simp); (first | done | with_reducible rfl)
      try simp only [Act.put, List.setIfInBounds_toArray, List.set_cons_zero, List.set_cons_succ]
      refine wpAnyZ_take (i := 4) (oi := { dst := some 50, op := Op.load 22 (Operand.tmp 49), type := 22, pos := "edits.go:126", after := #[{ on := 3, ground := Ground.data }], guard := none }) (v := ?_) [11, 12, 13, 14] rfl (by kernel_rfl) (by kernel_rfl) (by kernel_rfl) (by kernel_rfl) (fun _ _ _ h => h) (Or.inl ⟨by rfl, ?_⟩) (by assumption) ?_
      rotate_left
      · (intro w hSw; (try dsimp only at hSw); go_simp); (first | done | with_reducible rfl)
      try simp only [Act.put, List.setIfInBounds_toArray, List.set_cons_zero, List.set_cons_succ]
      refine wpAnyZ_takeY (i := 5) (oi := { dst := some 51, op := Op.move (Operand.tmp 0), type := 59, pos := "edits.go:126", after := #[], guard := none }) (v := ?_) rfl (by kernel_rfl) (by kernel_rfl) (by kernel_rfl) (by rfl) (fun _ _ _ h => h) (Or.inl ⟨by rfl, ?_⟩) (by assumption) ?_
      rotate_left
      · (intro w; go_simp); (first | done | with_reducible rfl)
      try simp only [Act.put, List.setIfInBounds_toArray, List.set_cons_zero, List.set_cons_succ]
      refine wpAnyZ_takeY (i := 6) (oi := { dst := some 52, op := Op.nilCheck (Operand.tmp 51), type := 0, pos := "edits.go:126", after := #[{ on := 5, ground := Ground.data }], guard := none }) (v := ?_) rfl (by kernel_rfl) (by kernel_rfl) (by kernel_rfl) (by rfl) (fun _ _ _ h => h) (Or.inl ⟨by rfl, ?_⟩) (by assumption) ?_
      rotate_left
      · (intro w; go_simp); (first | done | with_reducible rfl)
      try simp only [Act.put, List.setIfInBounds_toArray, List.set_cons_zero, List.set_cons_succ]
      refine wpAnyZ_takeY (i := 7) (oi := { dst := some 53, op := Op.fieldAddr 24 (Operand.tmp 52) 0, type := 0, pos := "edits.go:126", after := #[{ on := 6, ground := Ground.data }], guard := none }) (v := ?_) rfl (by kernel_rfl) (by kernel_rfl) (by kernel_rfl) (by rfl) (fun _ _ _ h => h) (Or.inl ⟨by rfl, ?_⟩) (by assumption) ?_
      rotate_left
      · (intro w; go_simp); (first | done | with_reducible rfl)
      try simp only [Act.put, List.setIfInBounds_toArray, List.set_cons_zero, List.set_cons_succ]
      refine wpAnyZ_take (i := 8) (oi := { dst := some 54, op := Op.load 22 (Operand.tmp 53), type := 22, pos := "edits.go:126", after := #[{ on := 7, ground := Ground.data }], guard := none }) (v := ?_) [9, 10, 11, 12, 13, 14] rfl (by kernel_rfl) (by kernel_rfl) (by kernel_rfl) (by kernel_rfl) (fun _ _ _ h => h) (Or.inl ⟨by rfl, ?_⟩) (by assumption) ?_
      rotate_left
      · (intro w hSw; (try dsimp only at hSw); go_simp); (first | done | with_reducible rfl)
      try simp only [Act.put, List.setIfInBounds_toArray, List.set_cons_zero, List.set_cons_succ]
      refine wpAnyZ_takeY (i := 9) (oi := { dst := some 55, op := Op.call { callee := Callee.builtin Builtin.len, args := #[Operand.tmp 54], argTypes := #[22] }, type := 3, pos := "edits.go:126", after := #[{ on := 8, ground := Ground.data }], guard := none }) (v := ?_) rfl (by kernel_rfl) (by kernel_rfl) (by kernel_rfl) (by rfl) (fun _ _ _ h => h) (Or.inl ⟨by rfl, ?_⟩) (by assumption) ?_
      rotate_left
      · (intro w; go_simp); (first | done | with_reducible rfl)
      try simp only [Act.put, List.setIfInBounds_toArray, List.set_cons_zero, List.set_cons_succ]
      refine wpAnyZ_takeY (i := 10) (oi := { dst := some 56, op := Op.binOp BinOp.sub 3 (Operand.tmp 55) (Operand.const (Value.int IntKind.i64 1)) 3, type := 3, pos := "edits.go:126", after := #[{ on := 9, ground := Ground.data }], guard := none }) (v := ?_) rfl (by kernel_rfl) (by kernel_rfl) (by kernel_rfl) (by rfl) (fun _ _ _ h => h) (Or.inl ⟨by rfl, ?_⟩) (by assumption) ?_
      rotate_left
      · (intro w; go_simp); (first | done | with_reducible rfl)
      try simp only [Act.put, List.setIfInBounds_toArray, List.set_cons_zero, List.set_cons_succ]
      refine wpAnyZ_takeY (i := 11) (oi := { dst := some 57, op := Op.slice 22 (Operand.tmp 50) none (some (Operand.tmp 56)) none, type := 22, pos := "edits.go:126", after := #[{ on := 4, ground := Ground.data }, { on := 10, ground := Ground.data }], guard := none }) (v := ?_) rfl (by kernel_rfl) (by kernel_rfl) (by kernel_rfl) (by rfl) (fun _ _ _ h => h) (Or.inl ⟨by rfl, ?_⟩) (by assumption) ?_
      rotate_left
      · (intro w; go_simp); (first | done | with_reducible rfl)
      try simp only [Act.put, List.setIfInBounds_toArray, List.set_cons_zero, List.set_cons_succ]
      refine wpAnyZ_takeY (i := 12) (oi := { dst := some 58, op := Op.nilCheck (Operand.tmp 46), type := 0, pos := "edits.go:126", after := #[{ on := 0, ground := Ground.data }, { on := 0, ground := Ground.phase }, { on := 1, ground := Ground.phase }, { on := 2, ground := Ground.phase }, { on := 3, ground := Ground.phase }, { on := 4, ground := Ground.phase }, { on := 5, ground := Ground.phase }, { on := 6, ground := Ground.phase }, { on := 7, ground := Ground.phase }, { on := 8, ground := Ground.phase }, { on := 9, ground := Ground.phase }, { on := 10, ground := Ground.phase }, { on := 11, ground := Ground.phase }], guard := none }) (v := ?_) rfl (by kernel_rfl) (by kernel_rfl) (by kernel_rfl) (by rfl) (fun _ _ _ h => h) (Or.inl ⟨by rfl, ?_⟩) (by assumption) ?_
      rotate_left
      · (intro w; go_simp); (first | done | with_reducible rfl)
      try simp only [Act.put, List.setIfInBounds_toArray, List.set_cons_zero, List.set_cons_succ]
      refine wpAnyZ_takeY (i := 13) (oi := { dst := some 59, op := Op.fieldAddr 24 (Operand.tmp 58) 0, type := 0, pos := "edits.go:126", after := #[{ on := 12, ground := Ground.data }, { on := 0, ground := Ground.phase }, { on := 1, ground := Ground.phase }, { on := 2, ground := Ground.phase }, { on := 3, ground := Ground.phase }, { on := 4, ground := Ground.phase }, { on := 5, ground := Ground.phase }, { on := 6, ground := Ground.phase }, { on := 7, ground := Ground.phase }, { on := 8, ground := Ground.phase }, { on := 9, ground := Ground.phase }, { on := 10, ground := Ground.phase }, { on := 11, ground := Ground.phase }], guard := none }) (v := ?_) rfl (by kernel_rfl) (by kernel_rfl) (by kernel_rfl) (by rfl) (fun _ _ _ h => h) (Or.inl ⟨by rfl, ?_⟩) (by assumption) ?_
      rotate_left
      · (intro w; go_simp); (first | done | with_reducible rfl)
      try simp only [Act.put, List.setIfInBounds_toArray, List.set_cons_zero, List.set_cons_succ]
      refine wpAnyZ_ready (rs := [14]) (by kernel_rfl) (by simp) ?_
      refine AllReadyZ.last (o := { dst := none, op := Op.store 22 (Operand.tmp 59) (Operand.tmp 57), type := 0, pos := "edits.go:126", after := #[{ on := 13, ground := Ground.data }, { on := 11, ground := Ground.data }, { on := 0, ground := Ground.phase }, { on := 1, ground := Ground.phase }, { on := 2, ground := Ground.phase }, { on := 3, ground := Ground.phase }, { on := 4, ground := Ground.phase }, { on := 5, ground := Ground.phase }, { on := 6, ground := Ground.phase }, { on := 7, ground := Ground.phase }, { on := 8, ground := Ground.phase }, { on := 9, ground := Ground.phase }, { on := 10, ground := Ground.phase }, { on := 11, ground := Ground.phase }], guard := none }) rfl (fun K hK => ?_) AllReadyZ.nil
      have f9 := (HM5.out.below HB.out).bx.free 0
      have m9 := (HM5.out.below HB.out).bx.cell 0
      go_simp
      refine hK.out _ _ ?_
      clear hK K
      refine wpAny_done (by kernel_rfl) ?_ _
      go_wp2_with fail
      go_ret
      have h7 := (HM5.out.below HB.out).out
      rw [HML.out, HTB.out] at h7
      rw [← HUL.out] at h7
      exact .inr ⟨HLAST.out, rfl, h7⟩
  · have d1 : ((k : Int) + 1 == (Rk.length : Int)) = true := by rw [beq_iff_eq]; omega
    have d2 : (k : Int) + 1 = (Rk.length : Int) := by omega
    have HE := Lib.hid (show k + 1 = Rk.length from by omega)
    clear hlast d2
    go_wp2_with fail
    go_ret
    exact .inl ⟨HE.out, rfl, HM.out.own.bel, HM.out.kp⟩

end Go.Proofs.Ytfcmjgcjmldpcaa
