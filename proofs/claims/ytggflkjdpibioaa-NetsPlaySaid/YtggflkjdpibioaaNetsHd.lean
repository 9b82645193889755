/- Layer 7: the document's net: Double, where it is done, by a contract. -/
import Derived.Test.YtggflkjdpibioaaNetsHa
import Derived.Test.YtggflkjdpibioaaLast
namespace Go.Proofs.Ytggflkjdpibioaa
set_option linter.unusedVariables false
open Go Go.RowKit

theorem ml_blk {W : World} {X : Nat} {m : Ml} {T : TypeId} (h : BlkIn #[.int .i64 m.src, .int .i64 m.dst, .string (S m.dat)] T W X) : ∀ j u, (mlC m)[j]? = some u → W.cell? ((⟨X, 0, none⟩ : Addr).add j) = some u := by
  intro j u hu
  rw [Addr.add_lit, Nat.zero_add]
  refine (h.cell j).trans ?_
  show (mlC m).toArray[j]? = some u
  rw [List.getElem?_toArray]
  exact hu
theorem mlC_one (m : Ml) : ∀ u ∈ mlC m, u.oneCell' = true := fun x hx => by simp [mlC] at hx; rcases hx with rfl | rfl | rfl <;> rfl
set_option maxHeartbeats 4000000 in
theorem refDouble_yes {w : World} {base r : Nat} {L : List Ml} (h : RefIn w base r L) (n : Nat) (hn : n < L.length) (hl : L.length < 64) :
    Calls Try.prog 24 #[.pointer (some ⟨r, 0, none⟩), .int .i64 n] w fun e w' => e = .returned (.bool true) ∧ RefIn w' w.heap.size r (L.take (n + 1) ++ L.getD n ml0 :: L.drop (n + 1)) ∧ Only r w w' := by
  obtain ⟨i0, z0, hi, hz0, hz1, hz2, hz3⟩ := infoMl_parts
  have c1 := ref_is h n
  rw [decide_eq_true ⟨by omega, by omega⟩] at c1
  have C1 := Lib.hid c1
  obtain ⟨v, T, hb, ho, hr, hs⟩ := h
  obtain ⟨ao, cap, rfl, hcap, hrow, hao, hsh⟩ := own_parts ho
  obtain ⟨g, rfl⟩ : ∃ g, ao = some ⟨g, 0, none⟩ := by
    rcases hsh with ⟨_, rfl⟩ | h
    · omega
    · exact h
  have hgl := (ho.lt g rfl).2
  have c0 : w.cell? ⟨r, 0, none⟩ = some (.slice (some ⟨g, 0, none⟩) L.length cap) := hb.cell 0
  have HO := Lib.hid ho
  have HBK := Lib.hid hb
  have HRW := Lib.hid hrow
  have b1 : (0 : Int) ≤ (n : Int) := by omega
  have b2 : (n : Int) < (L.length : Int) := by omega
  have b3 : (0 : Int) ≤ (n : Int) + 1 := by omega
  have b4 : (n : Int) + 1 ≤ (L.length : Int) := by omega
  have b5 : (L.length : Int) ≤ (cap : Int) := by omega
  have b6 : (n : Int) + 1 ≤ (cap : Int) := by omega
  have d64 : decide ((L.length : Int) ≥ 64) = false := by simp; omega
  have ew : IntKind.i64.wrap ((n : Int) + 1) = (n : Int) + 1 := IntWalk.i64_in _ (by omega)
  have HMM := Lib.hid (show ∀ x, Below w.heap.size w x → x.cell? ⟨g, n * 3, none⟩ = some (.int .i64 (L.getD n ml0).src) ∧ x.cell? ⟨g, n * 3 + 1, none⟩ = some (.int .i64 (L.getD n ml0).dst) ∧ x.cell? ⟨g, n * 3 + 2, none⟩ = some (.string (S (L.getD n ml0).dat)) from fun x hx => by
    have h := (hrow.below hx).cells7 n hn
    simpa only [Nat.zero_add] using h)
  have HROW := Lib.hid (show ∀ (x : World), Below w.heap.size w x → ∀ (j : Nat) (u : Value), (mls L)[j]? = some u → x.cell? ⟨g, j, none⟩ = some u from fun x hx j u hu => by
    have h := ho.cells (g := g) rfl j u hu
    rw [show (⟨g, 0, none⟩ : Addr).add j = ⟨g, j, none⟩ from by unfold Addr.add; split <;> simp_all] at h
    rw [World.cell?_of_block (w := w) (hx.block g hgl)]
    exact h)
  have HB := Lib.hid (Below.refl w.heap.size w)
  have HRL := Lib.hid hb.lt
  generalize hmm : L.getD n ml0 = m at *
  clear c1 hrow hao hsh ho hb hmm HRW
  go_enter Try.func24, Try.ntmps24
  go_wp2_with fail
  with_reducible refine (C1.out).mono ?_
  rintro e w1 ⟨rfl, rfl⟩
  clear C1
  go_wp2_with fail
  have hcase : ¬ cap = n + 1 ∨ cap = n + 1 := by omega
  have e0 : (L.take (n + 1)).length = n + 1 := by rw [List.length_take]; omega
  have HE0 := Lib.hid e0
  clear e0
  rcases hcase with hc | hc
  · refine wp_region_Z (S := fun V => V.cell? ⟨r, 0, none⟩ = some (.slice (some ⟨g, 0, none⟩) L.length cap) ∧ V.cell? ⟨g, n * 3, none⟩ = some (.int .i64 m.src) ∧ V.cell? ⟨g, n * 3 + 1, none⟩ = some (.int .i64 m.dst) ∧ V.cell? ⟨g, n * 3 + 2, none⟩ = some (.string (S m.dat))) 29 (by kernel_rfl) ?_ (fun hHeld => ?_)
    · (have hm := HMM.out _ HB.out.drew; exact ⟨(HBK.out.below HB.out.drew).cell 0, hm.1, hm.2.1, hm.2.2⟩)
    replace HB := Lib.hid HB.out.drew
    obtain ⟨wr, hwr⟩ : ∃ x, x = World.drew w := ⟨_, rfl⟩
    rw [← hwr] at HB hHeld ⊢
    clear hwr c0
    refine wpAnyZ_takeY (i := 0) (oi := { dst := some 17, op := Op.move (Operand.tmp 0), type := 26, pos := "ref.go:50", after := #[], guard := none }) (v := ?_) rfl (by kernel_rfl) (by kernel_rfl) (by kernel_rfl) (by rfl) (fun _ _ _ h => h) (Or.inl ⟨by rfl, ?_⟩) (by assumption) ?_
    rotate_left
    · (intro w; go_simp); (first | done | with_reducible rfl)
    try simp only [Act.put, List.setIfInBounds_toArray, List.set_cons_zero, List.set_cons_succ]
    refine wpAnyZ_takeY (i := 2) (oi := { dst := some 19, op := Op.move (Operand.tmp 0), type := 26, pos := "ref.go:50", after := #[], guard := none }) (v := ?_) rfl (by kernel_rfl) (by kernel_rfl) (by kernel_rfl) (by rfl) (fun _ _ _ h => h) (Or.inl ⟨by rfl, ?_⟩) (by assumption) ?_
    rotate_left
    · (intro w; go_simp); (first | done | with_reducible rfl)
    try simp only [Act.put, List.setIfInBounds_toArray, List.set_cons_zero, List.set_cons_succ]
    refine wpAnyZ_takeY (i := 3) (oi := { dst := some 20, op := Op.nilCheck (Operand.tmp 19), type := 0, pos := "ref.go:50", after := #[{ on := 2, ground := Ground.data }], guard := none }) (v := ?_) rfl (by kernel_rfl) (by kernel_rfl) (by kernel_rfl) (by rfl) (fun _ _ _ h => h) (Or.inl ⟨by rfl, ?_⟩) (by assumption) ?_
    rotate_left
    · (intro w; go_simp); (first | done | with_reducible rfl)
    try simp only [Act.put, List.setIfInBounds_toArray, List.set_cons_zero, List.set_cons_succ]
    refine wpAnyZ_takeY (i := 4) (oi := { dst := some 21, op := Op.fieldAddr 29 (Operand.tmp 20) 0, type := 0, pos := "ref.go:50", after := #[{ on := 3, ground := Ground.data }], guard := none }) (v := ?_) rfl (by kernel_rfl) (by kernel_rfl) (by kernel_rfl) (by rfl) (fun _ _ _ h => h) (Or.inl ⟨by rfl, ?_⟩) (by assumption) ?_
    rotate_left
    · (intro w; go_simp); (first | done | with_reducible rfl)
    try simp only [Act.put, List.setIfInBounds_toArray, List.set_cons_zero, List.set_cons_succ]
    refine wpAnyZ_take (i := 5) (oi := { dst := some 22, op := Op.load 27 (Operand.tmp 21), type := 27, pos := "ref.go:50", after := #[{ on := 4, ground := Ground.data }], guard := none }) (v := ?_) [8, 9, 18, 26, 27, 28, 29] rfl (by kernel_rfl) (by kernel_rfl) (by kernel_rfl) (by kernel_rfl) (fun _ _ _ h => h) (Or.inl ⟨by rfl, ?_⟩) (by assumption) ?_
    rotate_left
    · (intro w hSw; (try dsimp only at hSw); go_simp); (first | done | with_reducible rfl)
    try simp only [Act.put, List.setIfInBounds_toArray, List.set_cons_zero, List.set_cons_succ]
    refine wpAnyZ_takeY (i := 6) (oi := { dst := some 23, op := Op.move (Operand.tmp 1), type := 3, pos := "ref.go:50", after := #[], guard := none }) (v := ?_) rfl (by kernel_rfl) (by kernel_rfl) (by kernel_rfl) (by rfl) (fun _ _ _ h => h) (Or.inl ⟨by rfl, ?_⟩) (by assumption) ?_
    rotate_left
    · (intro w; go_simp); (first | done | with_reducible rfl)
    try simp only [Act.put, List.setIfInBounds_toArray, List.set_cons_zero, List.set_cons_succ]
    refine wpAnyZ_takeY (i := 7) (oi := { dst := some 24, op := Op.binOp BinOp.add 3 (Operand.tmp 23) (Operand.const (Value.int IntKind.i64 1)) 3, type := 3, pos := "ref.go:50", after := #[{ on := 6, ground := Ground.data }], guard := none }) (v := ?_) rfl (by kernel_rfl) (by kernel_rfl) (by kernel_rfl) (by rfl) (fun _ _ _ h => h) (Or.inl ⟨by rfl, ?_⟩) (by assumption) ?_
    rotate_left
    · (intro w; go_simp); (first | done | with_reducible rfl)
    try simp only [Act.put, List.setIfInBounds_toArray, List.set_cons_zero, List.set_cons_succ]
    refine wpAnyZ_takeY (i := 8) (oi := { dst := some 25, op := Op.slice 27 (Operand.tmp 22) none (some (Operand.tmp 24)) none, type := 27, pos := "ref.go:50", after := #[{ on := 5, ground := Ground.data }, { on := 7, ground := Ground.data }], guard := none }) (v := ?_) rfl (by kernel_rfl) (by kernel_rfl) (by kernel_rfl) (by rfl) (fun _ _ _ h => h) (Or.inl ⟨by rfl, ?_⟩) (by assumption) ?_
    rotate_left
    · (intro w; go_simp); (first | done | with_reducible rfl)
    try simp only [Act.put, List.setIfInBounds_toArray, List.set_cons_zero, List.set_cons_succ]
    refine wpAnyZ_takeY (i := 10) (oi := { dst := some 27, op := Op.move (Operand.tmp 0), type := 26, pos := "ref.go:50", after := #[], guard := none }) (v := ?_) rfl (by kernel_rfl) (by kernel_rfl) (by kernel_rfl) (by rfl) (fun _ _ _ h => h) (Or.inl ⟨by rfl, ?_⟩) (by assumption) ?_
    rotate_left
    · (intro w; go_simp); (first | done | with_reducible rfl)
    try simp only [Act.put, List.setIfInBounds_toArray, List.set_cons_zero, List.set_cons_succ]
    refine wpAnyZ_takeY (i := 11) (oi := { dst := some 28, op := Op.nilCheck (Operand.tmp 27), type := 0, pos := "ref.go:50", after := #[{ on := 10, ground := Ground.data }], guard := none }) (v := ?_) rfl (by kernel_rfl) (by kernel_rfl) (by kernel_rfl) (by rfl) (fun _ _ _ h => h) (Or.inl ⟨by rfl, ?_⟩) (by assumption) ?_
    rotate_left
    · (intro w; go_simp); (first | done | with_reducible rfl)
    try simp only [Act.put, List.setIfInBounds_toArray, List.set_cons_zero, List.set_cons_succ]
    refine wpAnyZ_takeY (i := 12) (oi := { dst := some 29, op := Op.fieldAddr 29 (Operand.tmp 28) 0, type := 0, pos := "ref.go:50", after := #[{ on := 11, ground := Ground.data }], guard := none }) (v := ?_) rfl (by kernel_rfl) (by kernel_rfl) (by kernel_rfl) (by rfl) (fun _ _ _ h => h) (Or.inl ⟨by rfl, ?_⟩) (by assumption) ?_
    rotate_left
    · (intro w; go_simp); (first | done | with_reducible rfl)
    try simp only [Act.put, List.setIfInBounds_toArray, List.set_cons_zero, List.set_cons_succ]
    refine wpAnyZ_take (i := 13) (oi := { dst := some 30, op := Op.load 27 (Operand.tmp 29), type := 27, pos := "ref.go:50", after := #[{ on := 12, ground := Ground.data }], guard := none }) (v := ?_) [15, 16, 17, 18, 26, 27, 28, 29] rfl (by kernel_rfl) (by kernel_rfl) (by kernel_rfl) (by kernel_rfl) (fun _ _ _ h => h) (Or.inl ⟨by rfl, ?_⟩) (by assumption) ?_
    rotate_left
    · (intro w hSw; (try dsimp only at hSw); go_simp); (first | done | with_reducible rfl)
    try simp only [Act.put, List.setIfInBounds_toArray, List.set_cons_zero, List.set_cons_succ]
    refine wpAnyZ_takeY (i := 14) (oi := { dst := some 31, op := Op.move (Operand.tmp 1), type := 3, pos := "ref.go:50", after := #[], guard := none }) (v := ?_) rfl (by kernel_rfl) (by kernel_rfl) (by kernel_rfl) (by rfl) (fun _ _ _ h => h) (Or.inl ⟨by rfl, ?_⟩) (by assumption) ?_
    rotate_left
    · (intro w; go_simp); (first | done | with_reducible rfl)
    try simp only [Act.put, List.setIfInBounds_toArray, List.set_cons_zero, List.set_cons_succ]
    refine wpAnyZ_takeY (i := 15) (oi := { dst := some 32, op := Op.indexAddr 27 (Operand.tmp 30) (Operand.tmp 31), type := 0, pos := "ref.go:50", after := #[{ on := 13, ground := Ground.data }, { on := 14, ground := Ground.data }], guard := none }) (v := ?_) rfl (by kernel_rfl) (by kernel_rfl) (by kernel_rfl) (by rfl) (fun _ _ _ h => h) (Or.inl ⟨by rfl, ?_⟩) (by assumption) ?_
    rotate_left
    · (intro w; go_simp); (first | done | with_reducible rfl)
    try simp only [Act.put, List.setIfInBounds_toArray, List.set_cons_zero, List.set_cons_succ]
    refine wpAnyZ_take (i := 16) (oi := { dst := some 33, op := Op.load 31 (Operand.tmp 32), type := 31, pos := "ref.go:50", after := #[{ on := 15, ground := Ground.data }], guard := none }) (v := ?_) [17, 18, 26, 27, 28, 29] rfl (by kernel_rfl) (by kernel_rfl) (by kernel_rfl) (by kernel_rfl) (fun _ _ _ h => h) (Or.inl ⟨by rfl, ?_⟩) (by assumption) ?_
    rotate_left
    · (intro w hSw; (try dsimp only at hSw); go_simp); (first | done | with_reducible rfl)
    try simp only [Act.put, List.setIfInBounds_toArray, List.set_cons_zero, List.set_cons_succ]
    refine wpAnyZ_takeY (i := 19) (oi := { dst := some 36, op := Op.move (Operand.tmp 0), type := 26, pos := "ref.go:50", after := #[], guard := none }) (v := ?_) rfl (by kernel_rfl) (by kernel_rfl) (by kernel_rfl) (by rfl) (fun _ _ _ h => h) (Or.inl ⟨by rfl, ?_⟩) (by assumption) ?_
    rotate_left
    · (intro w; go_simp); (first | done | with_reducible rfl)
    try simp only [Act.put, List.setIfInBounds_toArray, List.set_cons_zero, List.set_cons_succ]
    refine wpAnyZ_takeY (i := 20) (oi := { dst := some 37, op := Op.nilCheck (Operand.tmp 36), type := 0, pos := "ref.go:50", after := #[{ on := 19, ground := Ground.data }], guard := none }) (v := ?_) rfl (by kernel_rfl) (by kernel_rfl) (by kernel_rfl) (by rfl) (fun _ _ _ h => h) (Or.inl ⟨by rfl, ?_⟩) (by assumption) ?_
    rotate_left
    · (intro w; go_simp); (first | done | with_reducible rfl)
    try simp only [Act.put, List.setIfInBounds_toArray, List.set_cons_zero, List.set_cons_succ]
    refine wpAnyZ_takeY (i := 21) (oi := { dst := some 38, op := Op.fieldAddr 29 (Operand.tmp 37) 0, type := 0, pos := "ref.go:50", after := #[{ on := 20, ground := Ground.data }], guard := none }) (v := ?_) rfl (by kernel_rfl) (by kernel_rfl) (by kernel_rfl) (by rfl) (fun _ _ _ h => h) (Or.inl ⟨by rfl, ?_⟩) (by assumption) ?_
    rotate_left
    · (intro w; go_simp); (first | done | with_reducible rfl)
    try simp only [Act.put, List.setIfInBounds_toArray, List.set_cons_zero, List.set_cons_succ]
    refine wpAnyZ_take (i := 22) (oi := { dst := some 39, op := Op.load 27 (Operand.tmp 38), type := 27, pos := "ref.go:50", after := #[{ on := 21, ground := Ground.data }], guard := none }) (v := ?_) [25, 26, 27, 28, 29] rfl (by kernel_rfl) (by kernel_rfl) (by kernel_rfl) (by kernel_rfl) (fun _ _ _ h => h) (Or.inl ⟨by rfl, ?_⟩) (by assumption) ?_
    rotate_left
    · (intro w hSw; (try dsimp only at hSw); go_simp); (first | done | with_reducible rfl)
    try simp only [Act.put, List.setIfInBounds_toArray, List.set_cons_zero, List.set_cons_succ]
    refine wpAnyZ_takeY (i := 23) (oi := { dst := some 40, op := Op.move (Operand.tmp 1), type := 3, pos := "ref.go:50", after := #[], guard := none }) (v := ?_) rfl (by kernel_rfl) (by kernel_rfl) (by kernel_rfl) (by rfl) (fun _ _ _ h => h) (Or.inl ⟨by rfl, ?_⟩) (by assumption) ?_
    rotate_left
    · (intro w; go_simp); (first | done | with_reducible rfl)
    try simp only [Act.put, List.setIfInBounds_toArray, List.set_cons_zero, List.set_cons_succ]
    refine wpAnyZ_takeY (i := 24) (oi := { dst := some 41, op := Op.binOp BinOp.add 3 (Operand.tmp 40) (Operand.const (Value.int IntKind.i64 1)) 3, type := 3, pos := "ref.go:50", after := #[{ on := 23, ground := Ground.data }], guard := none }) (v := ?_) rfl (by kernel_rfl) (by kernel_rfl) (by kernel_rfl) (by rfl) (fun _ _ _ h => h) (Or.inl ⟨by rfl, ?_⟩) (by assumption) ?_
    rotate_left
    · (intro w; go_simp); (first | done | with_reducible rfl)
    try simp only [Act.put, List.setIfInBounds_toArray, List.set_cons_zero, List.set_cons_succ]
    refine wpAnyZ_takeY (i := 25) (oi := { dst := some 42, op := Op.slice 27 (Operand.tmp 39) (some (Operand.tmp 41)) none none, type := 27, pos := "ref.go:50", after := #[{ on := 22, ground := Ground.data }, { on := 24, ground := Ground.data }], guard := none }) (v := ?_) rfl (by kernel_rfl) (by kernel_rfl) (by kernel_rfl) (by rfl) (fun _ _ _ h => h) (Or.inl ⟨by rfl, ?_⟩) (by assumption) ?_
    rotate_left
    · (intro w; go_simp); (first | done | with_reducible rfl)
    try simp only [Act.put, List.setIfInBounds_toArray, List.set_cons_zero, List.set_cons_succ]
    refine wpAnyZ_ready (rs := [1, 17]) (by kernel_rfl) (by simp) ?_
    refine AllReadyZ.cons (o := { dst := some 18, op := Op.buildSlice 27 0 #[], type := 27, pos := "ref.go:50", after := #[], guard := none }) rfl (by rfl) (fun K hK => ?_) (AllReadyZ.cons (o := { dst := some 34, op := Op.buildSlice 27 1 #[(0, Operand.tmp 33)], type := 27, pos := "ref.go:50", after := #[{ on := 16, ground := Ground.data }], guard := none }) rfl (by rfl) (fun K hK => ?_) (AllReadyZ.nil))
    · go_simp
      have HOo := Lib.hid (World.ownsRow_made (base := w.heap.size) (e := 31) (size := 3) wr #[] 0 HB.out.size (by unfold maxLen; omega) rfl)
      replace HB := Lib.hid (HB.out.alloc HB.out.size (.cells #[] 31))
      generalize hq1 : wr.heap.size = q1 at *
      generalize hw1 : wr.alloc (.cells #[] 31) = w1 at *
      clear hq1 hw1
      refine hK.out _ _ ?_ (fun hHeld => ?_)
      · (have hm := HMM.out _ HB.out; exact ⟨(HBK.out.below HB.out).cell 0, hm.1, hm.2.1, hm.2.2⟩)
      clear hK K
      try simp only [Act.put, List.setIfInBounds_toArray, List.set_cons_zero, List.set_cons_succ]
      refine wpAnyZ_ready (rs := [9, 17]) (by kernel_rfl) (by simp) ?_
      refine AllReadyZ.cons (o := { dst := some 26, op := Op.call { callee := Callee.builtin Builtin.append, args := #[Operand.tmp 18, Operand.tmp 25], argTypes := #[27, 27] }, type := 27, pos := "ref.go:50", after := #[{ on := 1, ground := Ground.data }, { on := 8, ground := Ground.data }], guard := none }) rfl (by rfl) (fun K hK => ?_) (AllReadyZ.cons (o := { dst := some 34, op := Op.buildSlice 27 1 #[(0, Operand.tmp 33)], type := 27, pos := "ref.go:50", after := #[{ on := 16, ground := Ground.data }], guard := none }) rfl (by rfl) (fun K hK => ?_) (AllReadyZ.nil))
      · refine step_append_at7 (by rfl) _ _ 27 (by rfl) w.heap.size 31 i0 z0 3 32 Try.underlying27 hi hz0 hz1 hz2 hz3 (by decide) (.slice (some ⟨q1, 0, none⟩) 0 0) 0 [] (by rfl) HOo.out ⟨g, 0, none⟩ (n + 1) cap (mls (L.take (n + 1))) (by rfl) (by rw [mls_length, HE0.out]) (fun j u hu => by rw [show (⟨g, 0, none⟩ : Addr).add j = ⟨g, j, none⟩ from by unfold Addr.add; split <;> simp_all]; exact HROW.out _ HB.out j u (mls_pre L (n + 1) j u hu)) (mls_one_cell _) (by unfold maxLen; omega) (by omega) HB.out.size ?_
        intro v9 w9 ho9 hg9 _ hat9
        rw [Nat.zero_add, List.nil_append] at ho9
        obtain ⟨a9, c9, rfl⟩ := own_shape ho9
        have HO9 := Lib.hid ho9
        replace HB := Lib.hid (HB.out.grown hg9 HB.out.size (fun k hk => (HOo.out.lt k hk).1))
        clear ho9 hg9 hat9 HOo
        refine hK.out _ _ ?_ (fun hHeld => ?_)
        · (have hm := HMM.out _ HB.out; exact ⟨(HBK.out.below HB.out).cell 0, hm.1, hm.2.1, hm.2.2⟩)
        clear hK K
        try simp only [Act.put, List.setIfInBounds_toArray, List.set_cons_zero, List.set_cons_succ]
        refine wpAnyZ_ready (rs := [17]) (by kernel_rfl) (by simp) ?_
        refine AllReadyZ.cons (o := { dst := some 34, op := Op.buildSlice 27 1 #[(0, Operand.tmp 33)], type := 27, pos := "ref.go:50", after := #[{ on := 16, ground := Ground.data }], guard := none }) rfl (by rfl) (fun K hK => ?_) (AllReadyZ.nil)
        go_simp
        have HNE := Lib.hid (show ∀ q, (Value.slice a9 (n + 1) c9).ownBlock = some q → q ≠ w9.heap.size from fun q hq e => by have := (HO9.out.lt q hq).2; omega)
        replace HO9 := Lib.hid (HO9.out.alloc (.cells #[.int .i64 m.src, .int .i64 m.dst, .string (S m.dat)] 31))
        have HY := Lib.hid (show BlkIn #[.int .i64 m.src, .int .i64 m.dst, .string (S m.dat)] 31 (w9.alloc (.cells #[.int .i64 m.src, .int .i64 m.dst, .string (S m.dat)] 31)) w9.heap.size from heap_alloc_new _ _)
        replace HB := Lib.hid (HB.out.alloc HB.out.size (.cells #[.int .i64 m.src, .int .i64 m.dst, .string (S m.dat)] 31))
        generalize hq17 : w9.heap.size = q17 at *
        generalize hw17 : w9.alloc (.cells #[.int .i64 m.src, .int .i64 m.dst, .string (S m.dat)] 31) = w17 at *
        clear hq17 hw17
        refine hK.out _ _ ?_ (fun hHeld => ?_)
        · (have hm := HMM.out _ HB.out; exact ⟨(HBK.out.below HB.out).cell 0, hm.1, hm.2.1, hm.2.2⟩)
        clear hK K
        try simp only [Act.put, List.setIfInBounds_toArray, List.set_cons_zero, List.set_cons_succ]
        refine wpAnyZ_ready (rs := [18]) (by kernel_rfl) (by simp) ?_
        refine AllReadyZ.cons (o := { dst := some 35, op := Op.call { callee := Callee.builtin Builtin.append, args := #[Operand.tmp 26, Operand.tmp 34], argTypes := #[27, 27] }, type := 27, pos := "ref.go:50", after := #[{ on := 9, ground := Ground.data }, { on := 17, ground := Ground.data }, { on := 9, ground := Ground.chain }], guard := none }) rfl (by rfl) (fun K hK => ?_) (AllReadyZ.nil)
        refine step_append_at7 (by rfl) _ _ 27 (by rfl) w.heap.size 31 i0 z0 3 32 Try.underlying27 hi hz0 hz1 hz2 hz3 (by decide) (.slice a9 (n + 1) c9) (n + 1) (mls (L.take (n + 1))) (by rfl) HO9.out ⟨q17, 0, none⟩ 1 1 (mlC m) (by rfl) rfl (ml_blk HY.out) (mlC_one m) (by unfold maxLen; omega) (by omega) HB.out.size ?_
        intro v18 w18 ho18 hg18 _ _
        replace ho18 : w18.ownsRow w.heap.size 31 3 v18 (n + 1 + 1) (mls (L.take (n + 1) ++ [m])) := by rw [mls_append, mls_one]; exact ho18
        obtain ⟨a18, c18, rfl⟩ := own_shape ho18
        have HO18 := Lib.hid ho18
        replace HB := Lib.hid (HB.out.grown hg18 HB.out.size (fun k hk => (HO9.out.lt k hk).1))
        clear ho18 hg18 HO9 HY HNE
        refine hK.out _ _ ?_ (fun hHeld => ?_)
        · (have hm := HMM.out _ HB.out; exact ⟨(HBK.out.below HB.out).cell 0, hm.1, hm.2.1, hm.2.2⟩)
        clear hK K
        try simp only [Act.put, List.setIfInBounds_toArray, List.set_cons_zero, List.set_cons_succ]
        refine wpAnyZ_ready (rs := [26]) (by kernel_rfl) (by simp) ?_
        refine AllReadyZ.cons (o := { dst := some 43, op := Op.call { callee := Callee.builtin Builtin.append, args := #[Operand.tmp 35, Operand.tmp 42], argTypes := #[27, 27] }, type := 27, pos := "ref.go:50", after := #[{ on := 18, ground := Ground.data }, { on := 25, ground := Ground.data }, { on := 18, ground := Ground.chain }], guard := none }) rfl (by rfl) (fun K hK => ?_) (AllReadyZ.nil)
        refine step_append_at7 (by rfl) _ _ 27 (by rfl) w.heap.size 31 i0 z0 3 32 Try.underlying27 hi hz0 hz1 hz2 hz3 (by decide) (.slice a18 (n + 1 + 1) c18) (n + 1 + 1) (mls (L.take (n + 1) ++ [m])) (by rfl) HO18.out ⟨g, (n + 1) * 3, none⟩ (L.length - (n + 1)) (cap - (n + 1)) (mls (L.drop (n + 1))) (by rfl) (by rw [mls_length, List.length_drop]) (fun j u hu => by rw [Addr.add_lit]; exact HROW.out _ HB.out _ u (mls_suf L (n + 1) hn j u hu)) (mls_one_cell _) (by unfold maxLen; omega) (by omega) HB.out.size ?_
        intro v26 w26 ho26 hg26 _ _
        rw [show n + 1 + 1 + (L.length - (n + 1)) = L.length + 1 from by omega] at ho26
        replace ho26 : w26.ownsRow w.heap.size 31 3 v26 (L.length + 1) (mls (L.take (n + 1) ++ [m] ++ L.drop (n + 1))) := by rw [mls_append]; exact ho26
        obtain ⟨a26, c26, rfl⟩ := own_shape ho26
        have HO26 := Lib.hid ho26
        replace HB := Lib.hid (HB.out.grown hg26 HB.out.size (fun k hk => (HO18.out.lt k hk).1))
        clear ho26 hg26 HO18
        refine hK.out _ _ ?_ (fun hHeld => ?_)
        · (have hm := HMM.out _ HB.out; exact ⟨(HBK.out.below HB.out).cell 0, hm.1, hm.2.1, hm.2.2⟩)
        clear hK K
        try simp only [Act.put, List.setIfInBounds_toArray, List.set_cons_zero, List.set_cons_succ]
        refine wpAnyZ_takeY (i := 27) (oi := { dst := some 44, op := Op.nilCheck (Operand.tmp 17), type := 0, pos := "ref.go:50", after := #[{ on := 0, ground := Ground.data }, { on := 0, ground := Ground.phase }, { on := 1, ground := Ground.phase }, { on := 2, ground := Ground.phase }, { on := 3, ground := Ground.phase }, { on := 4, ground := Ground.phase }, { on := 5, ground := Ground.phase }, { on := 6, ground := Ground.phase }, { on := 7, ground := Ground.phase }, { on := 8, ground := Ground.phase }, { on := 9, ground := Ground.phase }, { on := 10, ground := Ground.phase }, { on := 11, ground := Ground.phase }, { on := 12, ground := Ground.phase }, { on := 13, ground := Ground.phase }, { on := 14, ground := Ground.phase }, { on := 15, ground := Ground.phase }, { on := 16, ground := Ground.phase }, { on := 17, ground := Ground.phase }, { on := 18, ground := Ground.phase }, { on := 19, ground := Ground.phase }, { on := 20, ground := Ground.phase }, { on := 21, ground := Ground.phase }, { on := 22, ground := Ground.phase }, { on := 23, ground := Ground.phase }, { on := 24, ground := Ground.phase }, { on := 25, ground := Ground.phase }, { on := 26, ground := Ground.phase }], guard := none }) (v := ?_) rfl (by kernel_rfl) (by kernel_rfl) (by kernel_rfl) (by rfl) (fun _ _ _ h => h) (Or.inl ⟨by rfl, ?_⟩) (by assumption) ?_
        rotate_left
        · (intro w; go_simp); (first | done | with_reducible rfl)
        try simp only [Act.put, List.setIfInBounds_toArray, List.set_cons_zero, List.set_cons_succ]
        refine wpAnyZ_takeY (i := 28) (oi := { dst := some 45, op := Op.fieldAddr 29 (Operand.tmp 44) 0, type := 0, pos := "ref.go:50", after := #[{ on := 27, ground := Ground.data }, { on := 0, ground := Ground.phase }, { on := 1, ground := Ground.phase }, { on := 2, ground := Ground.phase }, { on := 3, ground := Ground.phase }, { on := 4, ground := Ground.phase }, { on := 5, ground := Ground.phase }, { on := 6, ground := Ground.phase }, { on := 7, ground := Ground.phase }, { on := 8, ground := Ground.phase }, { on := 9, ground := Ground.phase }, { on := 10, ground := Ground.phase }, { on := 11, ground := Ground.phase }, { on := 12, ground := Ground.phase }, { on := 13, ground := Ground.phase }, { on := 14, ground := Ground.phase }, { on := 15, ground := Ground.phase }, { on := 16, ground := Ground.phase }, { on := 17, ground := Ground.phase }, { on := 18, ground := Ground.phase }, { on := 19, ground := Ground.phase }, { on := 20, ground := Ground.phase }, { on := 21, ground := Ground.phase }, { on := 22, ground := Ground.phase }, { on := 23, ground := Ground.phase }, { on := 24, ground := Ground.phase }, { on := 25, ground := Ground.phase }, { on := 26, ground := Ground.phase }], guard := none }) (v := ?_) rfl (by kernel_rfl) (by kernel_rfl) (by kernel_rfl) (by rfl) (fun _ _ _ h => h) (Or.inl ⟨by rfl, ?_⟩) (by assumption) ?_
        rotate_left
        · (intro w; go_simp); (first | done | with_reducible rfl)
        try simp only [Act.put, List.setIfInBounds_toArray, List.set_cons_zero, List.set_cons_succ]
        refine wpAnyZ_ready (rs := [29]) (by kernel_rfl) (by simp) ?_
        refine AllReadyZ.last (o := { dst := none, op := Op.store 27 (Operand.tmp 45) (Operand.tmp 43), type := 0, pos := "ref.go:50", after := #[{ on := 28, ground := Ground.data }, { on := 26, ground := Ground.data }, { on := 26, ground := Ground.chain }, { on := 0, ground := Ground.phase }, { on := 1, ground := Ground.phase }, { on := 2, ground := Ground.phase }, { on := 3, ground := Ground.phase }, { on := 4, ground := Ground.phase }, { on := 5, ground := Ground.phase }, { on := 6, ground := Ground.phase }, { on := 7, ground := Ground.phase }, { on := 8, ground := Ground.phase }, { on := 9, ground := Ground.phase }, { on := 10, ground := Ground.phase }, { on := 11, ground := Ground.phase }, { on := 12, ground := Ground.phase }, { on := 13, ground := Ground.phase }, { on := 14, ground := Ground.phase }, { on := 15, ground := Ground.phase }, { on := 16, ground := Ground.phase }, { on := 17, ground := Ground.phase }, { on := 18, ground := Ground.phase }, { on := 19, ground := Ground.phase }, { on := 20, ground := Ground.phase }, { on := 21, ground := Ground.phase }, { on := 22, ground := Ground.phase }, { on := 23, ground := Ground.phase }, { on := 24, ground := Ground.phase }, { on := 25, ground := Ground.phase }, { on := 26, ground := Ground.phase }], guard := none }) rfl (fun K hK => ?_) AllReadyZ.nil
        have f0 := (HBK.out.below HB.out).free 0
        have m0 := (HBK.out.below HB.out).cell 0
        go_simp
        refine hK.out _ _ ?_
        clear hK K
        refine wpAny_done (by kernel_rfl) ?_ _
        go_wp2_with fail
        go_ret
        have hN : (L.take (n + 1) ++ m :: L.drop (n + 1)).length = L.length + 1 := by rw [List.length_append, HE0.out, List.length_cons, List.length_drop]; omega
        have hE : L.take (n + 1) ++ [m] ++ L.drop (n + 1) = L.take (n + 1) ++ m :: L.drop (n + 1) := by simp
        have h26 := HO26.out
        rw [hE] at h26
        refine ⟨rfl, ⟨_, T, (HBK.out.below HB.out).set 0 _, ?_, HRL.out, by simpa [World.setCell] using HB.out.size⟩, (Only.ofBelow (b := r) HB.out).setCell (p := ⟨r, 0, none⟩) (.inl rfl) _⟩
        rw [hN]
        exact ownsRow_set (r := r) (i := 0) h26 HRL.out
      · go_simp
        have HNE := Lib.hid (show q1 ≠ w1.heap.size from fun e => by have := (HOo.out.lt q1 rfl).2; omega)
        replace HOo := Lib.hid (HOo.out.alloc (.cells #[.int .i64 m.src, .int .i64 m.dst, .string (S m.dat)] 31))
        have HY := Lib.hid (show BlkIn #[.int .i64 m.src, .int .i64 m.dst, .string (S m.dat)] 31 (w1.alloc (.cells #[.int .i64 m.src, .int .i64 m.dst, .string (S m.dat)] 31)) w1.heap.size from heap_alloc_new _ _)
        replace HB := Lib.hid (HB.out.alloc HB.out.size (.cells #[.int .i64 m.src, .int .i64 m.dst, .string (S m.dat)] 31))
        generalize hq17 : w1.heap.size = q17 at *
        generalize hw17 : w1.alloc (.cells #[.int .i64 m.src, .int .i64 m.dst, .string (S m.dat)] 31) = w17 at *
        clear hq17 hw17
        refine hK.out _ _ ?_ (fun hHeld => ?_)
        · (have hm := HMM.out _ HB.out; exact ⟨(HBK.out.below HB.out).cell 0, hm.1, hm.2.1, hm.2.2⟩)
        clear hK K
        try simp only [Act.put, List.setIfInBounds_toArray, List.set_cons_zero, List.set_cons_succ]
        refine wpAnyZ_ready (rs := [9]) (by kernel_rfl) (by simp) ?_
        refine AllReadyZ.cons (o := { dst := some 26, op := Op.call { callee := Callee.builtin Builtin.append, args := #[Operand.tmp 18, Operand.tmp 25], argTypes := #[27, 27] }, type := 27, pos := "ref.go:50", after := #[{ on := 1, ground := Ground.data }, { on := 8, ground := Ground.data }], guard := none }) rfl (by rfl) (fun K hK => ?_) (AllReadyZ.nil)
        refine step_append_at7 (by rfl) _ _ 27 (by rfl) w.heap.size 31 i0 z0 3 32 Try.underlying27 hi hz0 hz1 hz2 hz3 (by decide) (.slice (some ⟨q1, 0, none⟩) 0 0) 0 [] (by rfl) HOo.out ⟨g, 0, none⟩ (n + 1) cap (mls (L.take (n + 1))) (by rfl) (by rw [mls_length, HE0.out]) (fun j u hu => by rw [show (⟨g, 0, none⟩ : Addr).add j = ⟨g, j, none⟩ from by unfold Addr.add; split <;> simp_all]; exact HROW.out _ HB.out j u (mls_pre L (n + 1) j u hu)) (mls_one_cell _) (by unfold maxLen; omega) (by omega) HB.out.size ?_
        intro v9 w9 ho9 hg9 _ hat9
        rw [Nat.zero_add, List.nil_append] at ho9
        obtain ⟨a9, c9, rfl⟩ := own_shape ho9
        have HO9 := Lib.hid ho9
        replace HB := Lib.hid (HB.out.grown hg9 HB.out.size (fun k hk => (HOo.out.lt k hk).1))
        have HYL := Lib.hid (show q17 < w17.heap.size from HY.out.lt)
        replace HY := Lib.hid (HY.out.grown hg9 (fun q hq e => HNE.out (by cases hq; exact e)))
        replace HNE := Lib.hid (show ∀ q, (Value.slice a9 (n + 1) c9).ownBlock = some q → q ≠ q17 from fun q hq e => by rcases hat9 with h | h; exact HNE.out (by rw [hq] at h; cases h; exact e); rw [hq] at h; cases h; have := HYL.out; omega)
        clear HYL
        clear ho9 hg9 hat9 HOo
        refine hK.out _ _ ?_ (fun hHeld => ?_)
        · (have hm := HMM.out _ HB.out; exact ⟨(HBK.out.below HB.out).cell 0, hm.1, hm.2.1, hm.2.2⟩)
        clear hK K
        try simp only [Act.put, List.setIfInBounds_toArray, List.set_cons_zero, List.set_cons_succ]
        refine wpAnyZ_ready (rs := [18]) (by kernel_rfl) (by simp) ?_
        refine AllReadyZ.cons (o := { dst := some 35, op := Op.call { callee := Callee.builtin Builtin.append, args := #[Operand.tmp 26, Operand.tmp 34], argTypes := #[27, 27] }, type := 27, pos := "ref.go:50", after := #[{ on := 9, ground := Ground.data }, { on := 17, ground := Ground.data }, { on := 9, ground := Ground.chain }], guard := none }) rfl (by rfl) (fun K hK => ?_) (AllReadyZ.nil)
        refine step_append_at7 (by rfl) _ _ 27 (by rfl) w.heap.size 31 i0 z0 3 32 Try.underlying27 hi hz0 hz1 hz2 hz3 (by decide) (.slice a9 (n + 1) c9) (n + 1) (mls (L.take (n + 1))) (by rfl) HO9.out ⟨q17, 0, none⟩ 1 1 (mlC m) (by rfl) rfl (ml_blk HY.out) (mlC_one m) (by unfold maxLen; omega) (by omega) HB.out.size ?_
        intro v18 w18 ho18 hg18 _ _
        replace ho18 : w18.ownsRow w.heap.size 31 3 v18 (n + 1 + 1) (mls (L.take (n + 1) ++ [m])) := by rw [mls_append, mls_one]; exact ho18
        obtain ⟨a18, c18, rfl⟩ := own_shape ho18
        have HO18 := Lib.hid ho18
        replace HB := Lib.hid (HB.out.grown hg18 HB.out.size (fun k hk => (HO9.out.lt k hk).1))
        clear ho18 hg18 HO9 HY HNE
        refine hK.out _ _ ?_ (fun hHeld => ?_)
        · (have hm := HMM.out _ HB.out; exact ⟨(HBK.out.below HB.out).cell 0, hm.1, hm.2.1, hm.2.2⟩)
        clear hK K
        try simp only [Act.put, List.setIfInBounds_toArray, List.set_cons_zero, List.set_cons_succ]
        refine wpAnyZ_ready (rs := [26]) (by kernel_rfl) (by simp) ?_
        refine AllReadyZ.cons (o := { dst := some 43, op := Op.call { callee := Callee.builtin Builtin.append, args := #[Operand.tmp 35, Operand.tmp 42], argTypes := #[27, 27] }, type := 27, pos := "ref.go:50", after := #[{ on := 18, ground := Ground.data }, { on := 25, ground := Ground.data }, { on := 18, ground := Ground.chain }], guard := none }) rfl (by rfl) (fun K hK => ?_) (AllReadyZ.nil)
        refine step_append_at7 (by rfl) _ _ 27 (by rfl) w.heap.size 31 i0 z0 3 32 Try.underlying27 hi hz0 hz1 hz2 hz3 (by decide) (.slice a18 (n + 1 + 1) c18) (n + 1 + 1) (mls (L.take (n + 1) ++ [m])) (by rfl) HO18.out ⟨g, (n + 1) * 3, none⟩ (L.length - (n + 1)) (cap - (n + 1)) (mls (L.drop (n + 1))) (by rfl) (by rw [mls_length, List.length_drop]) (fun j u hu => by rw [Addr.add_lit]; exact HROW.out _ HB.out _ u (mls_suf L (n + 1) hn j u hu)) (mls_one_cell _) (by unfold maxLen; omega) (by omega) HB.out.size ?_
        intro v26 w26 ho26 hg26 _ _
        rw [show n + 1 + 1 + (L.length - (n + 1)) = L.length + 1 from by omega] at ho26
        replace ho26 : w26.ownsRow w.heap.size 31 3 v26 (L.length + 1) (mls (L.take (n + 1) ++ [m] ++ L.drop (n + 1))) := by rw [mls_append]; exact ho26
        obtain ⟨a26, c26, rfl⟩ := own_shape ho26
        have HO26 := Lib.hid ho26
        replace HB := Lib.hid (HB.out.grown hg26 HB.out.size (fun k hk => (HO18.out.lt k hk).1))
        clear ho26 hg26 HO18
        refine hK.out _ _ ?_ (fun hHeld => ?_)
        · (have hm := HMM.out _ HB.out; exact ⟨(HBK.out.below HB.out).cell 0, hm.1, hm.2.1, hm.2.2⟩)
        clear hK K
        try simp only [Act.put, List.setIfInBounds_toArray, List.set_cons_zero, List.set_cons_succ]
        refine wpAnyZ_takeY (i := 27) (oi := { dst := some 44, op := Op.nilCheck (Operand.tmp 17), type := 0, pos := "ref.go:50", after := #[{ on := 0, ground := Ground.data }, { on := 0, ground := Ground.phase }, { on := 1, ground := Ground.phase }, { on := 2, ground := Ground.phase }, { on := 3, ground := Ground.phase }, { on := 4, ground := Ground.phase }, { on := 5, ground := Ground.phase }, { on := 6, ground := Ground.phase }, { on := 7, ground := Ground.phase }, { on := 8, ground := Ground.phase }, { on := 9, ground := Ground.phase }, { on := 10, ground := Ground.phase }, { on := 11, ground := Ground.phase }, { on := 12, ground := Ground.phase }, { on := 13, ground := Ground.phase }, { on := 14, ground := Ground.phase }, { on := 15, ground := Ground.phase }, { on := 16, ground := Ground.phase }, { on := 17, ground := Ground.phase }, { on := 18, ground := Ground.phase }, { on := 19, ground := Ground.phase }, { on := 20, ground := Ground.phase }, { on := 21, ground := Ground.phase }, { on := 22, ground := Ground.phase }, { on := 23, ground := Ground.phase }, { on := 24, ground := Ground.phase }, { on := 25, ground := Ground.phase }, { on := 26, ground := Ground.phase }], guard := none }) (v := ?_) rfl (by kernel_rfl) (by kernel_rfl) (by kernel_rfl) (by rfl) (fun _ _ _ h => h) (Or.inl ⟨by rfl, ?_⟩) (by assumption) ?_
        rotate_left
        · (intro w; go_simp); (first | done | with_reducible rfl)
        try simp only [Act.put, List.setIfInBounds_toArray, List.set_cons_zero, List.set_cons_succ]
        refine wpAnyZ_takeY (i := 28) (oi := { dst := some 45, op := Op.fieldAddr 29 (Operand.tmp 44) 0, type := 0, pos := "ref.go:50", after := #[{ on := 27, ground := Ground.data }, { on := 0, ground := Ground.phase }, { on := 1, ground := Ground.phase }, { on := 2, ground := Ground.phase }, { on := 3, ground := Ground.phase }, { on := 4, ground := Ground.phase }, { on := 5, ground := Ground.phase }, { on := 6, ground := Ground.phase }, { on := 7, ground := Ground.phase }, { on := 8, ground := Ground.phase }, { on := 9, ground := Ground.phase }, { on := 10, ground := Ground.phase }, { on := 11, ground := Ground.phase }, { on := 12, ground := Ground.phase }, { on := 13, ground := Ground.phase }, { on := 14, ground := Ground.phase }, { on := 15, ground := Ground.phase }, { on := 16, ground := Ground.phase }, { on := 17, ground := Ground.phase }, { on := 18, ground := Ground.phase }, { on := 19, ground := Ground.phase }, { on := 20, ground := Ground.phase }, { on := 21, ground := Ground.phase }, { on := 22, ground := Ground.phase }, { on := 23, ground := Ground.phase }, { on := 24, ground := Ground.phase }, { on := 25, ground := Ground.phase }, { on := 26, ground := Ground.phase }], guard := none }) (v := ?_) rfl (by kernel_rfl) (by kernel_rfl) (by kernel_rfl) (by rfl) (fun _ _ _ h => h) (Or.inl ⟨by rfl, ?_⟩) (by assumption) ?_
        rotate_left
        · (intro w; go_simp); (first | done | with_reducible rfl)
        try simp only [Act.put, List.setIfInBounds_toArray, List.set_cons_zero, List.set_cons_succ]
        refine wpAnyZ_ready (rs := [29]) (by kernel_rfl) (by simp) ?_
        refine AllReadyZ.last (o := { dst := none, op := Op.store 27 (Operand.tmp 45) (Operand.tmp 43), type := 0, pos := "ref.go:50", after := #[{ on := 28, ground := Ground.data }, { on := 26, ground := Ground.data }, { on := 26, ground := Ground.chain }, { on := 0, ground := Ground.phase }, { on := 1, ground := Ground.phase }, { on := 2, ground := Ground.phase }, { on := 3, ground := Ground.phase }, { on := 4, ground := Ground.phase }, { on := 5, ground := Ground.phase }, { on := 6, ground := Ground.phase }, { on := 7, ground := Ground.phase }, { on := 8, ground := Ground.phase }, { on := 9, ground := Ground.phase }, { on := 10, ground := Ground.phase }, { on := 11, ground := Ground.phase }, { on := 12, ground := Ground.phase }, { on := 13, ground := Ground.phase }, { on := 14, ground := Ground.phase }, { on := 15, ground := Ground.phase }, { on := 16, ground := Ground.phase }, { on := 17, ground := Ground.phase }, { on := 18, ground := Ground.phase }, { on := 19, ground := Ground.phase }, { on := 20, ground := Ground.phase }, { on := 21, ground := Ground.phase }, { on := 22, ground := Ground.phase }, { on := 23, ground := Ground.phase }, { on := 24, ground := Ground.phase }, { on := 25, ground := Ground.phase }, { on := 26, ground := Ground.phase }], guard := none }) rfl (fun K hK => ?_) AllReadyZ.nil
        have f0 := (HBK.out.below HB.out).free 0
        have m0 := (HBK.out.below HB.out).cell 0
        go_simp
        refine hK.out _ _ ?_
        clear hK K
        refine wpAny_done (by kernel_rfl) ?_ _
        go_wp2_with fail
        go_ret
        have hN : (L.take (n + 1) ++ m :: L.drop (n + 1)).length = L.length + 1 := by rw [List.length_append, HE0.out, List.length_cons, List.length_drop]; omega
        have hE : L.take (n + 1) ++ [m] ++ L.drop (n + 1) = L.take (n + 1) ++ m :: L.drop (n + 1) := by simp
        have h26 := HO26.out
        rw [hE] at h26
        refine ⟨rfl, ⟨_, T, (HBK.out.below HB.out).set 0 _, ?_, HRL.out, by simpa [World.setCell] using HB.out.size⟩, (Only.ofBelow (b := r) HB.out).setCell (p := ⟨r, 0, none⟩) (.inl rfl) _⟩
        rw [hN]
        exact ownsRow_set (r := r) (i := 0) h26 HRL.out
    · go_simp
      have HY := Lib.hid (show BlkIn #[.int .i64 m.src, .int .i64 m.dst, .string (S m.dat)] 31 (wr.alloc (.cells #[.int .i64 m.src, .int .i64 m.dst, .string (S m.dat)] 31)) wr.heap.size from heap_alloc_new _ _)
      replace HB := Lib.hid (HB.out.alloc HB.out.size (.cells #[.int .i64 m.src, .int .i64 m.dst, .string (S m.dat)] 31))
      generalize hq17 : wr.heap.size = q17 at *
      generalize hw17 : wr.alloc (.cells #[.int .i64 m.src, .int .i64 m.dst, .string (S m.dat)] 31) = w17 at *
      clear hq17 hw17
      refine hK.out _ _ ?_ (fun hHeld => ?_)
      · (have hm := HMM.out _ HB.out; exact ⟨(HBK.out.below HB.out).cell 0, hm.1, hm.2.1, hm.2.2⟩)
      clear hK K
      try simp only [Act.put, List.setIfInBounds_toArray, List.set_cons_zero, List.set_cons_succ]
      refine wpAnyZ_ready (rs := [1]) (by kernel_rfl) (by simp) ?_
      refine AllReadyZ.cons (o := { dst := some 18, op := Op.buildSlice 27 0 #[], type := 27, pos := "ref.go:50", after := #[], guard := none }) rfl (by rfl) (fun K hK => ?_) (AllReadyZ.nil)
      go_simp
      have HOo := Lib.hid (World.ownsRow_made (base := w.heap.size) (e := 31) (size := 3) w17 #[] 0 HB.out.size (by unfold maxLen; omega) rfl)
      replace HB := Lib.hid (HB.out.alloc HB.out.size (.cells #[] 31))
      have HNE := Lib.hid (show w17.heap.size ≠ q17 from fun e => by have := HY.out.lt; omega)
      replace HY := Lib.hid (HY.out.more (.cells #[] 31))
      generalize hq1 : w17.heap.size = q1 at *
      generalize hw1 : w17.alloc (.cells #[] 31) = w1 at *
      clear hq1 hw1
      refine hK.out _ _ ?_ (fun hHeld => ?_)
      · (have hm := HMM.out _ HB.out; exact ⟨(HBK.out.below HB.out).cell 0, hm.1, hm.2.1, hm.2.2⟩)
      clear hK K
      try simp only [Act.put, List.setIfInBounds_toArray, List.set_cons_zero, List.set_cons_succ]
      refine wpAnyZ_ready (rs := [9]) (by kernel_rfl) (by simp) ?_
      refine AllReadyZ.cons (o := { dst := some 26, op := Op.call { callee := Callee.builtin Builtin.append, args := #[Operand.tmp 18, Operand.tmp 25], argTypes := #[27, 27] }, type := 27, pos := "ref.go:50", after := #[{ on := 1, ground := Ground.data }, { on := 8, ground := Ground.data }], guard := none }) rfl (by rfl) (fun K hK => ?_) (AllReadyZ.nil)
      refine step_append_at7 (by rfl) _ _ 27 (by rfl) w.heap.size 31 i0 z0 3 32 Try.underlying27 hi hz0 hz1 hz2 hz3 (by decide) (.slice (some ⟨q1, 0, none⟩) 0 0) 0 [] (by rfl) HOo.out ⟨g, 0, none⟩ (n + 1) cap (mls (L.take (n + 1))) (by rfl) (by rw [mls_length, HE0.out]) (fun j u hu => by rw [show (⟨g, 0, none⟩ : Addr).add j = ⟨g, j, none⟩ from by unfold Addr.add; split <;> simp_all]; exact HROW.out _ HB.out j u (mls_pre L (n + 1) j u hu)) (mls_one_cell _) (by unfold maxLen; omega) (by omega) HB.out.size ?_
      intro v9 w9 ho9 hg9 _ hat9
      rw [Nat.zero_add, List.nil_append] at ho9
      obtain ⟨a9, c9, rfl⟩ := own_shape ho9
      have HO9 := Lib.hid ho9
      replace HB := Lib.hid (HB.out.grown hg9 HB.out.size (fun k hk => (HOo.out.lt k hk).1))
      have HYL := Lib.hid (show q17 < w1.heap.size from HY.out.lt)
      replace HY := Lib.hid (HY.out.grown hg9 (fun q hq e => HNE.out (by cases hq; exact e)))
      replace HNE := Lib.hid (show ∀ q, (Value.slice a9 (n + 1) c9).ownBlock = some q → q ≠ q17 from fun q hq e => by rcases hat9 with h | h; exact HNE.out (by rw [hq] at h; cases h; exact e); rw [hq] at h; cases h; have := HYL.out; omega)
      clear HYL
      clear ho9 hg9 hat9 HOo
      refine hK.out _ _ ?_ (fun hHeld => ?_)
      · (have hm := HMM.out _ HB.out; exact ⟨(HBK.out.below HB.out).cell 0, hm.1, hm.2.1, hm.2.2⟩)
      clear hK K
      try simp only [Act.put, List.setIfInBounds_toArray, List.set_cons_zero, List.set_cons_succ]
      refine wpAnyZ_ready (rs := [18]) (by kernel_rfl) (by simp) ?_
      refine AllReadyZ.cons (o := { dst := some 35, op := Op.call { callee := Callee.builtin Builtin.append, args := #[Operand.tmp 26, Operand.tmp 34], argTypes := #[27, 27] }, type := 27, pos := "ref.go:50", after := #[{ on := 9, ground := Ground.data }, { on := 17, ground := Ground.data }, { on := 9, ground := Ground.chain }], guard := none }) rfl (by rfl) (fun K hK => ?_) (AllReadyZ.nil)
      refine step_append_at7 (by rfl) _ _ 27 (by rfl) w.heap.size 31 i0 z0 3 32 Try.underlying27 hi hz0 hz1 hz2 hz3 (by decide) (.slice a9 (n + 1) c9) (n + 1) (mls (L.take (n + 1))) (by rfl) HO9.out ⟨q17, 0, none⟩ 1 1 (mlC m) (by rfl) rfl (ml_blk HY.out) (mlC_one m) (by unfold maxLen; omega) (by omega) HB.out.size ?_
      intro v18 w18 ho18 hg18 _ _
      replace ho18 : w18.ownsRow w.heap.size 31 3 v18 (n + 1 + 1) (mls (L.take (n + 1) ++ [m])) := by rw [mls_append, mls_one]; exact ho18
      obtain ⟨a18, c18, rfl⟩ := own_shape ho18
      have HO18 := Lib.hid ho18
      replace HB := Lib.hid (HB.out.grown hg18 HB.out.size (fun k hk => (HO9.out.lt k hk).1))
      clear ho18 hg18 HO9 HY HNE
      refine hK.out _ _ ?_ (fun hHeld => ?_)
      · (have hm := HMM.out _ HB.out; exact ⟨(HBK.out.below HB.out).cell 0, hm.1, hm.2.1, hm.2.2⟩)
      clear hK K
      try simp only [Act.put, List.setIfInBounds_toArray, List.set_cons_zero, List.set_cons_succ]
      refine wpAnyZ_ready (rs := [26]) (by kernel_rfl) (by simp) ?_
      refine AllReadyZ.cons (o := { dst := some 43, op := Op.call { callee := Callee.builtin Builtin.append, args := #[Operand.tmp 35, Operand.tmp 42], argTypes := #[27, 27] }, type := 27, pos := "ref.go:50", after := #[{ on := 18, ground := Ground.data }, { on := 25, ground := Ground.data }, { on := 18, ground := Ground.chain }], guard := none }) rfl (by rfl) (fun K hK => ?_) (AllReadyZ.nil)
      refine step_append_at7 (by rfl) _ _ 27 (by rfl) w.heap.size 31 i0 z0 3 32 Try.underlying27 hi hz0 hz1 hz2 hz3 (by decide) (.slice a18 (n + 1 + 1) c18) (n + 1 + 1) (mls (L.take (n + 1) ++ [m])) (by rfl) HO18.out ⟨g, (n + 1) * 3, none⟩ (L.length - (n + 1)) (cap - (n + 1)) (mls (L.drop (n + 1))) (by rfl) (by rw [mls_length, List.length_drop]) (fun j u hu => by rw [Addr.add_lit]; exact HROW.out _ HB.out _ u (mls_suf L (n + 1) hn j u hu)) (mls_one_cell _) (by unfold maxLen; omega) (by omega) HB.out.size ?_
      intro v26 w26 ho26 hg26 _ _
      rw [show n + 1 + 1 + (L.length - (n + 1)) = L.length + 1 from by omega] at ho26
      replace ho26 : w26.ownsRow w.heap.size 31 3 v26 (L.length + 1) (mls (L.take (n + 1) ++ [m] ++ L.drop (n + 1))) := by rw [mls_append]; exact ho26
      obtain ⟨a26, c26, rfl⟩ := own_shape ho26
      have HO26 := Lib.hid ho26
      replace HB := Lib.hid (HB.out.grown hg26 HB.out.size (fun k hk => (HO18.out.lt k hk).1))
      clear ho26 hg26 HO18
      refine hK.out _ _ ?_ (fun hHeld => ?_)
      · (have hm := HMM.out _ HB.out; exact ⟨(HBK.out.below HB.out).cell 0, hm.1, hm.2.1, hm.2.2⟩)
      clear hK K
      try simp only [Act.put, List.setIfInBounds_toArray, List.set_cons_zero, List.set_cons_succ]
      refine wpAnyZ_takeY (i := 27) (oi := { dst := some 44, op := Op.nilCheck (Operand.tmp 17), type := 0, pos := "ref.go:50", after := #[{ on := 0, ground := Ground.data }, { on := 0, ground := Ground.phase }, { on := 1, ground := Ground.phase }, { on := 2, ground := Ground.phase }, { on := 3, ground := Ground.phase }, { on := 4, ground := Ground.phase }, { on := 5, ground := Ground.phase }, { on := 6, ground := Ground.phase }, { on := 7, ground := Ground.phase }, { on := 8, ground := Ground.phase }, { on := 9, ground := Ground.phase }, { on := 10, ground := Ground.phase }, { on := 11, ground := Ground.phase }, { on := 12, ground := Ground.phase }, { on := 13, ground := Ground.phase }, { on := 14, ground := Ground.phase }, { on := 15, ground := Ground.phase }, { on := 16, ground := Ground.phase }, { on := 17, ground := Ground.phase }, { on := 18, ground := Ground.phase }, { on := 19, ground := Ground.phase }, { on := 20, ground := Ground.phase }, { on := 21, ground := Ground.phase }, { on := 22, ground := Ground.phase }, { on := 23, ground := Ground.phase }, { on := 24, ground := Ground.phase }, { on := 25, ground := Ground.phase }, { on := 26, ground := Ground.phase }], guard := none }) (v := ?_) rfl (by kernel_rfl) (by kernel_rfl) (by kernel_rfl) (by rfl) (fun _ _ _ h => h) (Or.inl ⟨by rfl, ?_⟩) (by assumption) ?_
      rotate_left
      · (intro w; go_simp); (first | done | with_reducible rfl)
      try simp only [Act.put, List.setIfInBounds_toArray, List.set_cons_zero, List.set_cons_succ]
      refine wpAnyZ_takeY (i := 28) (oi := { dst := some 45, op := Op.fieldAddr 29 (Operand.tmp 44) 0, type := 0, pos := "ref.go:50", after := #[{ on := 27, ground := Ground.data }, { on := 0, ground := Ground.phase }, { on := 1, ground := Ground.phase }, { on := 2, ground := Ground.phase }, { on := 3, ground := Ground.phase }, { on := 4, ground := Ground.phase }, { on := 5, ground := Ground.phase }, { on := 6, ground := Ground.phase }, { on := 7, ground := Ground.phase }, { on := 8, ground := Ground.phase }, { on := 9, ground := Ground.phase }, { on := 10, ground := Ground.phase }, { on := 11, ground := Ground.phase }, { on := 12, ground := Ground.phase }, { on := 13, ground := Ground.phase }, { on := 14, ground := Ground.phase }, { on := 15, ground := Ground.phase }, { on := 16, ground := Ground.phase }, { on := 17, ground := Ground.phase }, { on := 18, ground := Ground.phase }, { on := 19, ground := Ground.phase }, { on := 20, ground := Ground.phase }, { on := 21, ground := Ground.phase }, { on := 22, ground := Ground.phase }, { on := 23, ground := Ground.phase }, { on := 24, ground := Ground.phase }, { on := 25, ground := Ground.phase }, { on := 26, ground := Ground.phase }], guard := none }) (v := ?_) rfl (by kernel_rfl) (by kernel_rfl) (by kernel_rfl) (by rfl) (fun _ _ _ h => h) (Or.inl ⟨by rfl, ?_⟩) (by assumption) ?_
      rotate_left
      · (intro w; go_simp); (first | done | with_reducible rfl)
      try simp only [Act.put, List.setIfInBounds_toArray, List.set_cons_zero, List.set_cons_succ]
      refine wpAnyZ_ready (rs := [29]) (by kernel_rfl) (by simp) ?_
      refine AllReadyZ.last (o := { dst := none, op := Op.store 27 (Operand.tmp 45) (Operand.tmp 43), type := 0, pos := "ref.go:50", after := #[{ on := 28, ground := Ground.data }, { on := 26, ground := Ground.data }, { on := 26, ground := Ground.chain }, { on := 0, ground := Ground.phase }, { on := 1, ground := Ground.phase }, { on := 2, ground := Ground.phase }, { on := 3, ground := Ground.phase }, { on := 4, ground := Ground.phase }, { on := 5, ground := Ground.phase }, { on := 6, ground := Ground.phase }, { on := 7, ground := Ground.phase }, { on := 8, ground := Ground.phase }, { on := 9, ground := Ground.phase }, { on := 10, ground := Ground.phase }, { on := 11, ground := Ground.phase }, { on := 12, ground := Ground.phase }, { on := 13, ground := Ground.phase }, { on := 14, ground := Ground.phase }, { on := 15, ground := Ground.phase }, { on := 16, ground := Ground.phase }, { on := 17, ground := Ground.phase }, { on := 18, ground := Ground.phase }, { on := 19, ground := Ground.phase }, { on := 20, ground := Ground.phase }, { on := 21, ground := Ground.phase }, { on := 22, ground := Ground.phase }, { on := 23, ground := Ground.phase }, { on := 24, ground := Ground.phase }, { on := 25, ground := Ground.phase }, { on := 26, ground := Ground.phase }], guard := none }) rfl (fun K hK => ?_) AllReadyZ.nil
      have f0 := (HBK.out.below HB.out).free 0
      have m0 := (HBK.out.below HB.out).cell 0
      go_simp
      refine hK.out _ _ ?_
      clear hK K
      refine wpAny_done (by kernel_rfl) ?_ _
      go_wp2_with fail
      go_ret
      have hN : (L.take (n + 1) ++ m :: L.drop (n + 1)).length = L.length + 1 := by rw [List.length_append, HE0.out, List.length_cons, List.length_drop]; omega
      have hE : L.take (n + 1) ++ [m] ++ L.drop (n + 1) = L.take (n + 1) ++ m :: L.drop (n + 1) := by simp
      have h26 := HO26.out
      rw [hE] at h26
      refine ⟨rfl, ⟨_, T, (HBK.out.below HB.out).set 0 _, ?_, HRL.out, by simpa [World.setCell] using HB.out.size⟩, (Only.ofBelow (b := r) HB.out).setCell (p := ⟨r, 0, none⟩) (.inl rfl) _⟩
      rw [hN]
      exact ownsRow_set (r := r) (i := 0) h26 HRL.out
  · subst hc
    have HDR := Lib.hid (show L.drop (n + 1) = [] from List.drop_eq_nil_of_le (by omega))
    have HLN := Lib.hid (show L.length = n + 1 from by omega)
    refine wp_region_Z (S := fun V => V.cell? ⟨r, 0, none⟩ = some (.slice (some ⟨g, 0, none⟩) L.length (n + 1)) ∧ V.cell? ⟨g, n * 3, none⟩ = some (.int .i64 m.src) ∧ V.cell? ⟨g, n * 3 + 1, none⟩ = some (.int .i64 m.dst) ∧ V.cell? ⟨g, n * 3 + 2, none⟩ = some (.string (S m.dat))) 29 (by kernel_rfl) ?_ (fun hHeld => ?_)
    · (have hm := HMM.out _ HB.out.drew; exact ⟨(HBK.out.below HB.out.drew).cell 0, hm.1, hm.2.1, hm.2.2⟩)
    replace HB := Lib.hid HB.out.drew
    obtain ⟨wr, hwr⟩ : ∃ x, x = World.drew w := ⟨_, rfl⟩
    rw [← hwr] at HB hHeld ⊢
    clear hwr c0
    refine wpAnyZ_takeY (i := 0) (oi := { dst := some 17, op := Op.move (Operand.tmp 0), type := 26, pos := "ref.go:50", after := #[], guard := none }) (v := ?_) rfl (by kernel_rfl) (by kernel_rfl) (by kernel_rfl) (by rfl) (fun _ _ _ h => h) (Or.inl ⟨by rfl, ?_⟩) (by assumption) ?_
    rotate_left
    · (intro w; go_simp); (first | done | with_reducible rfl)
    try simp only [Act.put, List.setIfInBounds_toArray, List.set_cons_zero, List.set_cons_succ]
    refine wpAnyZ_takeY (i := 2) (oi := { dst := some 19, op := Op.move (Operand.tmp 0), type := 26, pos := "ref.go:50", after := #[], guard := none }) (v := ?_) rfl (by kernel_rfl) (by kernel_rfl) (by kernel_rfl) (by rfl) (fun _ _ _ h => h) (Or.inl ⟨by rfl, ?_⟩) (by assumption) ?_
    rotate_left
    · (intro w; go_simp); (first | done | with_reducible rfl)
    try simp only [Act.put, List.setIfInBounds_toArray, List.set_cons_zero, List.set_cons_succ]
    refine wpAnyZ_takeY (i := 3) (oi := { dst := some 20, op := Op.nilCheck (Operand.tmp 19), type := 0, pos := "ref.go:50", after := #[{ on := 2, ground := Ground.data }], guard := none }) (v := ?_) rfl (by kernel_rfl) (by kernel_rfl) (by kernel_rfl) (by rfl) (fun _ _ _ h => h) (Or.inl ⟨by rfl, ?_⟩) (by assumption) ?_
    rotate_left
    · (intro w; go_simp); (first | done | with_reducible rfl)
    try simp only [Act.put, List.setIfInBounds_toArray, List.set_cons_zero, List.set_cons_succ]
    refine wpAnyZ_takeY (i := 4) (oi := { dst := some 21, op := Op.fieldAddr 29 (Operand.tmp 20) 0, type := 0, pos := "ref.go:50", after := #[{ on := 3, ground := Ground.data }], guard := none }) (v := ?_) rfl (by kernel_rfl) (by kernel_rfl) (by kernel_rfl) (by rfl) (fun _ _ _ h => h) (Or.inl ⟨by rfl, ?_⟩) (by assumption) ?_
    rotate_left
    · (intro w; go_simp); (first | done | with_reducible rfl)
    try simp only [Act.put, List.setIfInBounds_toArray, List.set_cons_zero, List.set_cons_succ]
    refine wpAnyZ_take (i := 5) (oi := { dst := some 22, op := Op.load 27 (Operand.tmp 21), type := 27, pos := "ref.go:50", after := #[{ on := 4, ground := Ground.data }], guard := none }) (v := ?_) [8, 9, 18, 26, 27, 28, 29] rfl (by kernel_rfl) (by kernel_rfl) (by kernel_rfl) (by kernel_rfl) (fun _ _ _ h => h) (Or.inl ⟨by rfl, ?_⟩) (by assumption) ?_
    rotate_left
    · (intro w hSw; (try dsimp only at hSw); go_simp); (first | done | with_reducible rfl)
    try simp only [Act.put, List.setIfInBounds_toArray, List.set_cons_zero, List.set_cons_succ]
    refine wpAnyZ_takeY (i := 6) (oi := { dst := some 23, op := Op.move (Operand.tmp 1), type := 3, pos := "ref.go:50", after := #[], guard := none }) (v := ?_) rfl (by kernel_rfl) (by kernel_rfl) (by kernel_rfl) (by rfl) (fun _ _ _ h => h) (Or.inl ⟨by rfl, ?_⟩) (by assumption) ?_
    rotate_left
    · (intro w; go_simp); (first | done | with_reducible rfl)
    try simp only [Act.put, List.setIfInBounds_toArray, List.set_cons_zero, List.set_cons_succ]
    refine wpAnyZ_takeY (i := 7) (oi := { dst := some 24, op := Op.binOp BinOp.add 3 (Operand.tmp 23) (Operand.const (Value.int IntKind.i64 1)) 3, type := 3, pos := "ref.go:50", after := #[{ on := 6, ground := Ground.data }], guard := none }) (v := ?_) rfl (by kernel_rfl) (by kernel_rfl) (by kernel_rfl) (by rfl) (fun _ _ _ h => h) (Or.inl ⟨by rfl, ?_⟩) (by assumption) ?_
    rotate_left
    · (intro w; go_simp); (first | done | with_reducible rfl)
    try simp only [Act.put, List.setIfInBounds_toArray, List.set_cons_zero, List.set_cons_succ]
    refine wpAnyZ_takeY (i := 8) (oi := { dst := some 25, op := Op.slice 27 (Operand.tmp 22) none (some (Operand.tmp 24)) none, type := 27, pos := "ref.go:50", after := #[{ on := 5, ground := Ground.data }, { on := 7, ground := Ground.data }], guard := none }) (v := ?_) rfl (by kernel_rfl) (by kernel_rfl) (by kernel_rfl) (by rfl) (fun _ _ _ h => h) (Or.inl ⟨by rfl, ?_⟩) (by assumption) ?_
    rotate_left
    · (intro w; go_simp); (first | done | with_reducible rfl)
    try simp only [Act.put, List.setIfInBounds_toArray, List.set_cons_zero, List.set_cons_succ]
    refine wpAnyZ_takeY (i := 10) (oi := { dst := some 27, op := Op.move (Operand.tmp 0), type := 26, pos := "ref.go:50", after := #[], guard := none }) (v := ?_) rfl (by kernel_rfl) (by kernel_rfl) (by kernel_rfl) (by rfl) (fun _ _ _ h => h) (Or.inl ⟨by rfl, ?_⟩) (by assumption) ?_
    rotate_left
    · (intro w; go_simp); (first | done | with_reducible rfl)
    try simp only [Act.put, List.setIfInBounds_toArray, List.set_cons_zero, List.set_cons_succ]
    refine wpAnyZ_takeY (i := 11) (oi := { dst := some 28, op := Op.nilCheck (Operand.tmp 27), type := 0, pos := "ref.go:50", after := #[{ on := 10, ground := Ground.data }], guard := none }) (v := ?_) rfl (by kernel_rfl) (by kernel_rfl) (by kernel_rfl) (by rfl) (fun _ _ _ h => h) (Or.inl ⟨by rfl, ?_⟩) (by assumption) ?_
    rotate_left
    · (intro w; go_simp); (first | done | with_reducible rfl)
    try simp only [Act.put, List.setIfInBounds_toArray, List.set_cons_zero, List.set_cons_succ]
    refine wpAnyZ_takeY (i := 12) (oi := { dst := some 29, op := Op.fieldAddr 29 (Operand.tmp 28) 0, type := 0, pos := "ref.go:50", after := #[{ on := 11, ground := Ground.data }], guard := none }) (v := ?_) rfl (by kernel_rfl) (by kernel_rfl) (by kernel_rfl) (by rfl) (fun _ _ _ h => h) (Or.inl ⟨by rfl, ?_⟩) (by assumption) ?_
    rotate_left
    · (intro w; go_simp); (first | done | with_reducible rfl)
    try simp only [Act.put, List.setIfInBounds_toArray, List.set_cons_zero, List.set_cons_succ]
    refine wpAnyZ_take (i := 13) (oi := { dst := some 30, op := Op.load 27 (Operand.tmp 29), type := 27, pos := "ref.go:50", after := #[{ on := 12, ground := Ground.data }], guard := none }) (v := ?_) [15, 16, 17, 18, 26, 27, 28, 29] rfl (by kernel_rfl) (by kernel_rfl) (by kernel_rfl) (by kernel_rfl) (fun _ _ _ h => h) (Or.inl ⟨by rfl, ?_⟩) (by assumption) ?_
    rotate_left
    · (intro w hSw; (try dsimp only at hSw); go_simp); (first | done | with_reducible rfl)
    try simp only [Act.put, List.setIfInBounds_toArray, List.set_cons_zero, List.set_cons_succ]
    refine wpAnyZ_takeY (i := 14) (oi := { dst := some 31, op := Op.move (Operand.tmp 1), type := 3, pos := "ref.go:50", after := #[], guard := none }) (v := ?_) rfl (by kernel_rfl) (by kernel_rfl) (by kernel_rfl) (by rfl) (fun _ _ _ h => h) (Or.inl ⟨by rfl, ?_⟩) (by assumption) ?_
    rotate_left
    · (intro w; go_simp); (first | done | with_reducible rfl)
    try simp only [Act.put, List.setIfInBounds_toArray, List.set_cons_zero, List.set_cons_succ]
    refine wpAnyZ_takeY (i := 15) (oi := { dst := some 32, op := Op.indexAddr 27 (Operand.tmp 30) (Operand.tmp 31), type := 0, pos := "ref.go:50", after := #[{ on := 13, ground := Ground.data }, { on := 14, ground := Ground.data }], guard := none }) (v := ?_) rfl (by kernel_rfl) (by kernel_rfl) (by kernel_rfl) (by rfl) (fun _ _ _ h => h) (Or.inl ⟨by rfl, ?_⟩) (by assumption) ?_
    rotate_left
    · (intro w; go_simp); (first | done | with_reducible rfl)
    try simp only [Act.put, List.setIfInBounds_toArray, List.set_cons_zero, List.set_cons_succ]
    refine wpAnyZ_take (i := 16) (oi := { dst := some 33, op := Op.load 31 (Operand.tmp 32), type := 31, pos := "ref.go:50", after := #[{ on := 15, ground := Ground.data }], guard := none }) (v := ?_) [17, 18, 26, 27, 28, 29] rfl (by kernel_rfl) (by kernel_rfl) (by kernel_rfl) (by kernel_rfl) (fun _ _ _ h => h) (Or.inl ⟨by rfl, ?_⟩) (by assumption) ?_
    rotate_left
    · (intro w hSw; (try dsimp only at hSw); go_simp); (first | done | with_reducible rfl)
    try simp only [Act.put, List.setIfInBounds_toArray, List.set_cons_zero, List.set_cons_succ]
    refine wpAnyZ_takeY (i := 19) (oi := { dst := some 36, op := Op.move (Operand.tmp 0), type := 26, pos := "ref.go:50", after := #[], guard := none }) (v := ?_) rfl (by kernel_rfl) (by kernel_rfl) (by kernel_rfl) (by rfl) (fun _ _ _ h => h) (Or.inl ⟨by rfl, ?_⟩) (by assumption) ?_
    rotate_left
    · (intro w; go_simp); (first | done | with_reducible rfl)
    try simp only [Act.put, List.setIfInBounds_toArray, List.set_cons_zero, List.set_cons_succ]
    refine wpAnyZ_takeY (i := 20) (oi := { dst := some 37, op := Op.nilCheck (Operand.tmp 36), type := 0, pos := "ref.go:50", after := #[{ on := 19, ground := Ground.data }], guard := none }) (v := ?_) rfl (by kernel_rfl) (by kernel_rfl) (by kernel_rfl) (by rfl) (fun _ _ _ h => h) (Or.inl ⟨by rfl, ?_⟩) (by assumption) ?_
    rotate_left
    · (intro w; go_simp); (first | done | with_reducible rfl)
    try simp only [Act.put, List.setIfInBounds_toArray, List.set_cons_zero, List.set_cons_succ]
    refine wpAnyZ_takeY (i := 21) (oi := { dst := some 38, op := Op.fieldAddr 29 (Operand.tmp 37) 0, type := 0, pos := "ref.go:50", after := #[{ on := 20, ground := Ground.data }], guard := none }) (v := ?_) rfl (by kernel_rfl) (by kernel_rfl) (by kernel_rfl) (by rfl) (fun _ _ _ h => h) (Or.inl ⟨by rfl, ?_⟩) (by assumption) ?_
    rotate_left
    · (intro w; go_simp); (first | done | with_reducible rfl)
    try simp only [Act.put, List.setIfInBounds_toArray, List.set_cons_zero, List.set_cons_succ]
    refine wpAnyZ_take (i := 22) (oi := { dst := some 39, op := Op.load 27 (Operand.tmp 38), type := 27, pos := "ref.go:50", after := #[{ on := 21, ground := Ground.data }], guard := none }) (v := ?_) [25, 26, 27, 28, 29] rfl (by kernel_rfl) (by kernel_rfl) (by kernel_rfl) (by kernel_rfl) (fun _ _ _ h => h) (Or.inl ⟨by rfl, ?_⟩) (by assumption) ?_
    rotate_left
    · (intro w hSw; (try dsimp only at hSw); go_simp); (first | done | with_reducible rfl)
    try simp only [Act.put, List.setIfInBounds_toArray, List.set_cons_zero, List.set_cons_succ]
    refine wpAnyZ_takeY (i := 23) (oi := { dst := some 40, op := Op.move (Operand.tmp 1), type := 3, pos := "ref.go:50", after := #[], guard := none }) (v := ?_) rfl (by kernel_rfl) (by kernel_rfl) (by kernel_rfl) (by rfl) (fun _ _ _ h => h) (Or.inl ⟨by rfl, ?_⟩) (by assumption) ?_
    rotate_left
    · (intro w; go_simp); (first | done | with_reducible rfl)
    try simp only [Act.put, List.setIfInBounds_toArray, List.set_cons_zero, List.set_cons_succ]
    refine wpAnyZ_takeY (i := 24) (oi := { dst := some 41, op := Op.binOp BinOp.add 3 (Operand.tmp 40) (Operand.const (Value.int IntKind.i64 1)) 3, type := 3, pos := "ref.go:50", after := #[{ on := 23, ground := Ground.data }], guard := none }) (v := ?_) rfl (by kernel_rfl) (by kernel_rfl) (by kernel_rfl) (by rfl) (fun _ _ _ h => h) (Or.inl ⟨by rfl, ?_⟩) (by assumption) ?_
    rotate_left
    · (intro w; go_simp); (first | done | with_reducible rfl)
    try simp only [Act.put, List.setIfInBounds_toArray, List.set_cons_zero, List.set_cons_succ]
    refine wpAnyZ_takeY (i := 25) (oi := { dst := some 42, op := Op.slice 27 (Operand.tmp 39) (some (Operand.tmp 41)) none none, type := 27, pos := "ref.go:50", after := #[{ on := 22, ground := Ground.data }, { on := 24, ground := Ground.data }], guard := none }) (v := ?_) rfl (by kernel_rfl) (by kernel_rfl) (by kernel_rfl) (by rfl) (fun _ _ _ h => h) (Or.inl ⟨by rfl, ?_⟩) (by assumption) ?_
    rotate_left
    · (intro w; go_simp); (first | done | with_reducible rfl)
    try simp only [Act.put, List.setIfInBounds_toArray, List.set_cons_zero, List.set_cons_succ]
    refine wpAnyZ_ready (rs := [1, 17]) (by kernel_rfl) (by simp) ?_
    refine AllReadyZ.cons (o := { dst := some 18, op := Op.buildSlice 27 0 #[], type := 27, pos := "ref.go:50", after := #[], guard := none }) rfl (by rfl) (fun K hK => ?_) (AllReadyZ.cons (o := { dst := some 34, op := Op.buildSlice 27 1 #[(0, Operand.tmp 33)], type := 27, pos := "ref.go:50", after := #[{ on := 16, ground := Ground.data }], guard := none }) rfl (by rfl) (fun K hK => ?_) (AllReadyZ.nil))
    · go_simp
      have HOo := Lib.hid (World.ownsRow_made (base := w.heap.size) (e := 31) (size := 3) wr #[] 0 HB.out.size (by unfold maxLen; omega) rfl)
      replace HB := Lib.hid (HB.out.alloc HB.out.size (.cells #[] 31))
      generalize hq1 : wr.heap.size = q1 at *
      generalize hw1 : wr.alloc (.cells #[] 31) = w1 at *
      clear hq1 hw1
      refine hK.out _ _ ?_ (fun hHeld => ?_)
      · (have hm := HMM.out _ HB.out; exact ⟨(HBK.out.below HB.out).cell 0, hm.1, hm.2.1, hm.2.2⟩)
      clear hK K
      try simp only [Act.put, List.setIfInBounds_toArray, List.set_cons_zero, List.set_cons_succ]
      refine wpAnyZ_ready (rs := [9, 17]) (by kernel_rfl) (by simp) ?_
      refine AllReadyZ.cons (o := { dst := some 26, op := Op.call { callee := Callee.builtin Builtin.append, args := #[Operand.tmp 18, Operand.tmp 25], argTypes := #[27, 27] }, type := 27, pos := "ref.go:50", after := #[{ on := 1, ground := Ground.data }, { on := 8, ground := Ground.data }], guard := none }) rfl (by rfl) (fun K hK => ?_) (AllReadyZ.cons (o := { dst := some 34, op := Op.buildSlice 27 1 #[(0, Operand.tmp 33)], type := 27, pos := "ref.go:50", after := #[{ on := 16, ground := Ground.data }], guard := none }) rfl (by rfl) (fun K hK => ?_) (AllReadyZ.nil))
      · refine step_append_at7 (by rfl) _ _ 27 (by rfl) w.heap.size 31 i0 z0 3 32 Try.underlying27 hi hz0 hz1 hz2 hz3 (by decide) (.slice (some ⟨q1, 0, none⟩) 0 0) 0 [] (by rfl) HOo.out ⟨g, 0, none⟩ (n + 1) (n + 1) (mls (L.take (n + 1))) (by rfl) (by rw [mls_length, HE0.out]) (fun j u hu => by rw [show (⟨g, 0, none⟩ : Addr).add j = ⟨g, j, none⟩ from by unfold Addr.add; split <;> simp_all]; exact HROW.out _ HB.out j u (mls_pre L (n + 1) j u hu)) (mls_one_cell _) (by unfold maxLen; omega) (by omega) HB.out.size ?_
        intro v9 w9 ho9 hg9 _ hat9
        rw [Nat.zero_add, List.nil_append] at ho9
        obtain ⟨a9, c9, rfl⟩ := own_shape ho9
        have HO9 := Lib.hid ho9
        replace HB := Lib.hid (HB.out.grown hg9 HB.out.size (fun k hk => (HOo.out.lt k hk).1))
        clear ho9 hg9 hat9 HOo
        refine hK.out _ _ ?_ (fun hHeld => ?_)
        · (have hm := HMM.out _ HB.out; exact ⟨(HBK.out.below HB.out).cell 0, hm.1, hm.2.1, hm.2.2⟩)
        clear hK K
        try simp only [Act.put, List.setIfInBounds_toArray, List.set_cons_zero, List.set_cons_succ]
        refine wpAnyZ_ready (rs := [17]) (by kernel_rfl) (by simp) ?_
        refine AllReadyZ.cons (o := { dst := some 34, op := Op.buildSlice 27 1 #[(0, Operand.tmp 33)], type := 27, pos := "ref.go:50", after := #[{ on := 16, ground := Ground.data }], guard := none }) rfl (by rfl) (fun K hK => ?_) (AllReadyZ.nil)
        go_simp
        have HNE := Lib.hid (show ∀ q, (Value.slice a9 (n + 1) c9).ownBlock = some q → q ≠ w9.heap.size from fun q hq e => by have := (HO9.out.lt q hq).2; omega)
        replace HO9 := Lib.hid (HO9.out.alloc (.cells #[.int .i64 m.src, .int .i64 m.dst, .string (S m.dat)] 31))
        have HY := Lib.hid (show BlkIn #[.int .i64 m.src, .int .i64 m.dst, .string (S m.dat)] 31 (w9.alloc (.cells #[.int .i64 m.src, .int .i64 m.dst, .string (S m.dat)] 31)) w9.heap.size from heap_alloc_new _ _)
        replace HB := Lib.hid (HB.out.alloc HB.out.size (.cells #[.int .i64 m.src, .int .i64 m.dst, .string (S m.dat)] 31))
        generalize hq17 : w9.heap.size = q17 at *
        generalize hw17 : w9.alloc (.cells #[.int .i64 m.src, .int .i64 m.dst, .string (S m.dat)] 31) = w17 at *
        clear hq17 hw17
        refine hK.out _ _ ?_ (fun hHeld => ?_)
        · (have hm := HMM.out _ HB.out; exact ⟨(HBK.out.below HB.out).cell 0, hm.1, hm.2.1, hm.2.2⟩)
        clear hK K
        try simp only [Act.put, List.setIfInBounds_toArray, List.set_cons_zero, List.set_cons_succ]
        refine wpAnyZ_ready (rs := [18]) (by kernel_rfl) (by simp) ?_
        refine AllReadyZ.cons (o := { dst := some 35, op := Op.call { callee := Callee.builtin Builtin.append, args := #[Operand.tmp 26, Operand.tmp 34], argTypes := #[27, 27] }, type := 27, pos := "ref.go:50", after := #[{ on := 9, ground := Ground.data }, { on := 17, ground := Ground.data }, { on := 9, ground := Ground.chain }], guard := none }) rfl (by rfl) (fun K hK => ?_) (AllReadyZ.nil)
        refine step_append_at7 (by rfl) _ _ 27 (by rfl) w.heap.size 31 i0 z0 3 32 Try.underlying27 hi hz0 hz1 hz2 hz3 (by decide) (.slice a9 (n + 1) c9) (n + 1) (mls (L.take (n + 1))) (by rfl) HO9.out ⟨q17, 0, none⟩ 1 1 (mlC m) (by rfl) rfl (ml_blk HY.out) (mlC_one m) (by unfold maxLen; omega) (by omega) HB.out.size ?_
        intro v18 w18 ho18 hg18 _ _
        replace ho18 : w18.ownsRow w.heap.size 31 3 v18 (n + 1 + 1) (mls (L.take (n + 1) ++ [m])) := by rw [mls_append, mls_one]; exact ho18
        obtain ⟨a18, c18, rfl⟩ := own_shape ho18
        have HO18 := Lib.hid ho18
        replace HB := Lib.hid (HB.out.grown hg18 HB.out.size (fun k hk => (HO9.out.lt k hk).1))
        clear ho18 hg18 HO9 HY HNE
        refine hK.out _ _ ?_ (fun hHeld => ?_)
        · (have hm := HMM.out _ HB.out; exact ⟨(HBK.out.below HB.out).cell 0, hm.1, hm.2.1, hm.2.2⟩)
        clear hK K
        try simp only [Act.put, List.setIfInBounds_toArray, List.set_cons_zero, List.set_cons_succ]
        refine wpAnyZ_ready (rs := [26]) (by kernel_rfl) (by simp) ?_
        refine AllReadyZ.cons (o := { dst := some 43, op := Op.call { callee := Callee.builtin Builtin.append, args := #[Operand.tmp 35, Operand.tmp 42], argTypes := #[27, 27] }, type := 27, pos := "ref.go:50", after := #[{ on := 18, ground := Ground.data }, { on := 25, ground := Ground.data }, { on := 18, ground := Ground.chain }], guard := none }) rfl (by rfl) (fun K hK => ?_) (AllReadyZ.nil)
        refine step_append_at7 (by rfl) _ _ 27 (by rfl) w.heap.size 31 i0 z0 3 32 Try.underlying27 hi hz0 hz1 hz2 hz3 (by decide) (.slice a18 (n + 1 + 1) c18) (n + 1 + 1) (mls (L.take (n + 1) ++ [m])) (by rfl) HO18.out ⟨g, 0, none⟩ 0 0 [] (by rfl) rfl (fun j u hu => by simp at hu) (fun u hu => by simp at hu) (by unfold maxLen; omega) (by omega) HB.out.size ?_
        intro v26 w26 ho26 hg26 _ _
        rw [show n + 1 + 1 + 0 = L.length + 1 from by have := HLN.out; omega] at ho26
        replace ho26 : w26.ownsRow w.heap.size 31 3 v26 (L.length + 1) (mls (L.take (n + 1) ++ [m] ++ L.drop (n + 1))) := by rw [HDR.out, List.append_nil]; rw [List.append_nil] at ho26; exact ho26
        obtain ⟨a26, c26, rfl⟩ := own_shape ho26
        have HO26 := Lib.hid ho26
        replace HB := Lib.hid (HB.out.grown hg26 HB.out.size (fun k hk => (HO18.out.lt k hk).1))
        clear ho26 hg26 HO18
        refine hK.out _ _ ?_ (fun hHeld => ?_)
        · (have hm := HMM.out _ HB.out; exact ⟨(HBK.out.below HB.out).cell 0, hm.1, hm.2.1, hm.2.2⟩)
        clear hK K
        try simp only [Act.put, List.setIfInBounds_toArray, List.set_cons_zero, List.set_cons_succ]
        refine wpAnyZ_takeY (i := 27) (oi := { dst := some 44, op := Op.nilCheck (Operand.tmp 17), type := 0, pos := "ref.go:50", after := #[{ on := 0, ground := Ground.data }, { on := 0, ground := Ground.phase }, { on := 1, ground := Ground.phase }, { on := 2, ground := Ground.phase }, { on := 3, ground := Ground.phase }, { on := 4, ground := Ground.phase }, { on := 5, ground := Ground.phase }, { on := 6, ground := Ground.phase }, { on := 7, ground := Ground.phase }, { on := 8, ground := Ground.phase }, { on := 9, ground := Ground.phase }, { on := 10, ground := Ground.phase }, { on := 11, ground := Ground.phase }, { on := 12, ground := Ground.phase }, { on := 13, ground := Ground.phase }, { on := 14, ground := Ground.phase }, { on := 15, ground := Ground.phase }, { on := 16, ground := Ground.phase }, { on := 17, ground := Ground.phase }, { on := 18, ground := Ground.phase }, { on := 19, ground := Ground.phase }, { on := 20, ground := Ground.phase }, { on := 21, ground := Ground.phase }, { on := 22, ground := Ground.phase }, { on := 23, ground := Ground.phase }, { on := 24, ground := Ground.phase }, { on := 25, ground := Ground.phase }, { on := 26, ground := Ground.phase }], guard := none }) (v := ?_) rfl (by kernel_rfl) (by kernel_rfl) (by kernel_rfl) (by rfl) (fun _ _ _ h => h) (Or.inl ⟨by rfl, ?_⟩) (by assumption) ?_
        rotate_left
        · (intro w; go_simp); (first | done | with_reducible rfl)
        try simp only [Act.put, List.setIfInBounds_toArray, List.set_cons_zero, List.set_cons_succ]
        refine wpAnyZ_takeY (i := 28) (oi := { dst := some 45, op := Op.fieldAddr 29 (Operand.tmp 44) 0, type := 0, pos := "ref.go:50", after := #[{ on := 27, ground := Ground.data }, { on := 0, ground := Ground.phase }, { on := 1, ground := Ground.phase }, { on := 2, ground := Ground.phase }, { on := 3, ground := Ground.phase }, { on := 4, ground := Ground.phase }, { on := 5, ground := Ground.phase }, { on := 6, ground := Ground.phase }, { on := 7, ground := Ground.phase }, { on := 8, ground := Ground.phase }, { on := 9, ground := Ground.phase }, { on := 10, ground := Ground.phase }, { on := 11, ground := Ground.phase }, { on := 12, ground := Ground.phase }, { on := 13, ground := Ground.phase }, { on := 14, ground := Ground.phase }, { on := 15, ground := Ground.phase }, { on := 16, ground := Ground.phase }, { on := 17, ground := Ground.phase }, { on := 18, ground := Ground.phase }, { on := 19, ground := Ground.phase }, { on := 20, ground := Ground.phase }, { on := 21, ground := Ground.phase }, { on := 22, ground := Ground.phase }, { on := 23, ground := Ground.phase }, { on := 24, ground := Ground.phase }, { on := 25, ground := Ground.phase }, { on := 26, ground := Ground.phase }], guard := none }) (v := ?_) rfl (by kernel_rfl) (by kernel_rfl) (by kernel_rfl) (by rfl) (fun _ _ _ h => h) (Or.inl ⟨by rfl, ?_⟩) (by assumption) ?_
        rotate_left
        · (intro w; go_simp); (first | done | with_reducible rfl)
        try simp only [Act.put, List.setIfInBounds_toArray, List.set_cons_zero, List.set_cons_succ]
        refine wpAnyZ_ready (rs := [29]) (by kernel_rfl) (by simp) ?_
        refine AllReadyZ.last (o := { dst := none, op := Op.store 27 (Operand.tmp 45) (Operand.tmp 43), type := 0, pos := "ref.go:50", after := #[{ on := 28, ground := Ground.data }, { on := 26, ground := Ground.data }, { on := 26, ground := Ground.chain }, { on := 0, ground := Ground.phase }, { on := 1, ground := Ground.phase }, { on := 2, ground := Ground.phase }, { on := 3, ground := Ground.phase }, { on := 4, ground := Ground.phase }, { on := 5, ground := Ground.phase }, { on := 6, ground := Ground.phase }, { on := 7, ground := Ground.phase }, { on := 8, ground := Ground.phase }, { on := 9, ground := Ground.phase }, { on := 10, ground := Ground.phase }, { on := 11, ground := Ground.phase }, { on := 12, ground := Ground.phase }, { on := 13, ground := Ground.phase }, { on := 14, ground := Ground.phase }, { on := 15, ground := Ground.phase }, { on := 16, ground := Ground.phase }, { on := 17, ground := Ground.phase }, { on := 18, ground := Ground.phase }, { on := 19, ground := Ground.phase }, { on := 20, ground := Ground.phase }, { on := 21, ground := Ground.phase }, { on := 22, ground := Ground.phase }, { on := 23, ground := Ground.phase }, { on := 24, ground := Ground.phase }, { on := 25, ground := Ground.phase }, { on := 26, ground := Ground.phase }], guard := none }) rfl (fun K hK => ?_) AllReadyZ.nil
        have f0 := (HBK.out.below HB.out).free 0
        have m0 := (HBK.out.below HB.out).cell 0
        go_simp
        refine hK.out _ _ ?_
        clear hK K
        refine wpAny_done (by kernel_rfl) ?_ _
        go_wp2_with fail
        go_ret
        have hN : (L.take (n + 1) ++ m :: L.drop (n + 1)).length = L.length + 1 := by rw [List.length_append, HE0.out, List.length_cons, List.length_drop]; omega
        have hE : L.take (n + 1) ++ [m] ++ L.drop (n + 1) = L.take (n + 1) ++ m :: L.drop (n + 1) := by simp
        have h26 := HO26.out
        rw [hE] at h26
        refine ⟨rfl, ⟨_, T, (HBK.out.below HB.out).set 0 _, ?_, HRL.out, by simpa [World.setCell] using HB.out.size⟩, (Only.ofBelow (b := r) HB.out).setCell (p := ⟨r, 0, none⟩) (.inl rfl) _⟩
        rw [hN]
        exact ownsRow_set (r := r) (i := 0) h26 HRL.out
      · go_simp
        have HNE := Lib.hid (show q1 ≠ w1.heap.size from fun e => by have := (HOo.out.lt q1 rfl).2; omega)
        replace HOo := Lib.hid (HOo.out.alloc (.cells #[.int .i64 m.src, .int .i64 m.dst, .string (S m.dat)] 31))
        have HY := Lib.hid (show BlkIn #[.int .i64 m.src, .int .i64 m.dst, .string (S m.dat)] 31 (w1.alloc (.cells #[.int .i64 m.src, .int .i64 m.dst, .string (S m.dat)] 31)) w1.heap.size from heap_alloc_new _ _)
        replace HB := Lib.hid (HB.out.alloc HB.out.size (.cells #[.int .i64 m.src, .int .i64 m.dst, .string (S m.dat)] 31))
        generalize hq17 : w1.heap.size = q17 at *
        generalize hw17 : w1.alloc (.cells #[.int .i64 m.src, .int .i64 m.dst, .string (S m.dat)] 31) = w17 at *
        clear hq17 hw17
        refine hK.out _ _ ?_ (fun hHeld => ?_)
        · (have hm := HMM.out _ HB.out; exact ⟨(HBK.out.below HB.out).cell 0, hm.1, hm.2.1, hm.2.2⟩)
        clear hK K
        try simp only [Act.put, List.setIfInBounds_toArray, List.set_cons_zero, List.set_cons_succ]
        refine wpAnyZ_ready (rs := [9]) (by kernel_rfl) (by simp) ?_
        refine AllReadyZ.cons (o := { dst := some 26, op := Op.call { callee := Callee.builtin Builtin.append, args := #[Operand.tmp 18, Operand.tmp 25], argTypes := #[27, 27] }, type := 27, pos := "ref.go:50", after := #[{ on := 1, ground := Ground.data }, { on := 8, ground := Ground.data }], guard := none }) rfl (by rfl) (fun K hK => ?_) (AllReadyZ.nil)
        refine step_append_at7 (by rfl) _ _ 27 (by rfl) w.heap.size 31 i0 z0 3 32 Try.underlying27 hi hz0 hz1 hz2 hz3 (by decide) (.slice (some ⟨q1, 0, none⟩) 0 0) 0 [] (by rfl) HOo.out ⟨g, 0, none⟩ (n + 1) (n + 1) (mls (L.take (n + 1))) (by rfl) (by rw [mls_length, HE0.out]) (fun j u hu => by rw [show (⟨g, 0, none⟩ : Addr).add j = ⟨g, j, none⟩ from by unfold Addr.add; split <;> simp_all]; exact HROW.out _ HB.out j u (mls_pre L (n + 1) j u hu)) (mls_one_cell _) (by unfold maxLen; omega) (by omega) HB.out.size ?_
        intro v9 w9 ho9 hg9 _ hat9
        rw [Nat.zero_add, List.nil_append] at ho9
        obtain ⟨a9, c9, rfl⟩ := own_shape ho9
        have HO9 := Lib.hid ho9
        replace HB := Lib.hid (HB.out.grown hg9 HB.out.size (fun k hk => (HOo.out.lt k hk).1))
        have HYL := Lib.hid (show q17 < w17.heap.size from HY.out.lt)
        replace HY := Lib.hid (HY.out.grown hg9 (fun q hq e => HNE.out (by cases hq; exact e)))
        replace HNE := Lib.hid (show ∀ q, (Value.slice a9 (n + 1) c9).ownBlock = some q → q ≠ q17 from fun q hq e => by rcases hat9 with h | h; exact HNE.out (by rw [hq] at h; cases h; exact e); rw [hq] at h; cases h; have := HYL.out; omega)
        clear HYL
        clear ho9 hg9 hat9 HOo
        refine hK.out _ _ ?_ (fun hHeld => ?_)
        · (have hm := HMM.out _ HB.out; exact ⟨(HBK.out.below HB.out).cell 0, hm.1, hm.2.1, hm.2.2⟩)
        clear hK K
        try simp only [Act.put, List.setIfInBounds_toArray, List.set_cons_zero, List.set_cons_succ]
        refine wpAnyZ_ready (rs := [18]) (by kernel_rfl) (by simp) ?_
        refine AllReadyZ.cons (o := { dst := some 35, op := Op.call { callee := Callee.builtin Builtin.append, args := #[Operand.tmp 26, Operand.tmp 34], argTypes := #[27, 27] }, type := 27, pos := "ref.go:50", after := #[{ on := 9, ground := Ground.data }, { on := 17, ground := Ground.data }, { on := 9, ground := Ground.chain }], guard := none }) rfl (by rfl) (fun K hK => ?_) (AllReadyZ.nil)
        refine step_append_at7 (by rfl) _ _ 27 (by rfl) w.heap.size 31 i0 z0 3 32 Try.underlying27 hi hz0 hz1 hz2 hz3 (by decide) (.slice a9 (n + 1) c9) (n + 1) (mls (L.take (n + 1))) (by rfl) HO9.out ⟨q17, 0, none⟩ 1 1 (mlC m) (by rfl) rfl (ml_blk HY.out) (mlC_one m) (by unfold maxLen; omega) (by omega) HB.out.size ?_
        intro v18 w18 ho18 hg18 _ _
        replace ho18 : w18.ownsRow w.heap.size 31 3 v18 (n + 1 + 1) (mls (L.take (n + 1) ++ [m])) := by rw [mls_append, mls_one]; exact ho18
        obtain ⟨a18, c18, rfl⟩ := own_shape ho18
        have HO18 := Lib.hid ho18
        replace HB := Lib.hid (HB.out.grown hg18 HB.out.size (fun k hk => (HO9.out.lt k hk).1))
        clear ho18 hg18 HO9 HY HNE
        refine hK.out _ _ ?_ (fun hHeld => ?_)
        · (have hm := HMM.out _ HB.out; exact ⟨(HBK.out.below HB.out).cell 0, hm.1, hm.2.1, hm.2.2⟩)
        clear hK K
        try simp only [Act.put, List.setIfInBounds_toArray, List.set_cons_zero, List.set_cons_succ]
        refine wpAnyZ_ready (rs := [26]) (by kernel_rfl) (by simp) ?_
        refine AllReadyZ.cons (o := { dst := some 43, op := Op.call { callee := Callee.builtin Builtin.append, args := #[Operand.tmp 35, Operand.tmp 42], argTypes := #[27, 27] }, type := 27, pos := "ref.go:50", after := #[{ on := 18, ground := Ground.data }, { on := 25, ground := Ground.data }, { on := 18, ground := Ground.chain }], guard := none }) rfl (by rfl) (fun K hK => ?_) (AllReadyZ.nil)
        refine step_append_at7 (by rfl) _ _ 27 (by rfl) w.heap.size 31 i0 z0 3 32 Try.underlying27 hi hz0 hz1 hz2 hz3 (by decide) (.slice a18 (n + 1 + 1) c18) (n + 1 + 1) (mls (L.take (n + 1) ++ [m])) (by rfl) HO18.out ⟨g, 0, none⟩ 0 0 [] (by rfl) rfl (fun j u hu => by simp at hu) (fun u hu => by simp at hu) (by unfold maxLen; omega) (by omega) HB.out.size ?_
        intro v26 w26 ho26 hg26 _ _
        rw [show n + 1 + 1 + 0 = L.length + 1 from by have := HLN.out; omega] at ho26
        replace ho26 : w26.ownsRow w.heap.size 31 3 v26 (L.length + 1) (mls (L.take (n + 1) ++ [m] ++ L.drop (n + 1))) := by rw [HDR.out, List.append_nil]; rw [List.append_nil] at ho26; exact ho26
        obtain ⟨a26, c26, rfl⟩ := own_shape ho26
        have HO26 := Lib.hid ho26
        replace HB := Lib.hid (HB.out.grown hg26 HB.out.size (fun k hk => (HO18.out.lt k hk).1))
        clear ho26 hg26 HO18
        refine hK.out _ _ ?_ (fun hHeld => ?_)
        · (have hm := HMM.out _ HB.out; exact ⟨(HBK.out.below HB.out).cell 0, hm.1, hm.2.1, hm.2.2⟩)
        clear hK K
        try simp only [Act.put, List.setIfInBounds_toArray, List.set_cons_zero, List.set_cons_succ]
        refine wpAnyZ_takeY (i := 27) (oi := { dst := some 44, op := Op.nilCheck (Operand.tmp 17), type := 0, pos := "ref.go:50", after := #[{ on := 0, ground := Ground.data }, { on := 0, ground := Ground.phase }, { on := 1, ground := Ground.phase }, { on := 2, ground := Ground.phase }, { on := 3, ground := Ground.phase }, { on := 4, ground := Ground.phase }, { on := 5, ground := Ground.phase }, { on := 6, ground := Ground.phase }, { on := 7, ground := Ground.phase }, { on := 8, ground := Ground.phase }, { on := 9, ground := Ground.phase }, { on := 10, ground := Ground.phase }, { on := 11, ground := Ground.phase }, { on := 12, ground := Ground.phase }, { on := 13, ground := Ground.phase }, { on := 14, ground := Ground.phase }, { on := 15, ground := Ground.phase }, { on := 16, ground := Ground.phase }, { on := 17, ground := Ground.phase }, { on := 18, ground := Ground.phase }, { on := 19, ground := Ground.phase }, { on := 20, ground := Ground.phase }, { on := 21, ground := Ground.phase }, { on := 22, ground := Ground.phase }, { on := 23, ground := Ground.phase }, { on := 24, ground := Ground.phase }, { on := 25, ground := Ground.phase }, { on := 26, ground := Ground.phase }], guard := none }) (v := ?_) rfl (by kernel_rfl) (by kernel_rfl) (by kernel_rfl) (by rfl) (fun _ _ _ h => h) (Or.inl ⟨by rfl, ?_⟩) (by assumption) ?_
        rotate_left
        · (intro w; go_simp); (first | done | with_reducible rfl)
        try simp only [Act.put, List.setIfInBounds_toArray, List.set_cons_zero, List.set_cons_succ]
        refine wpAnyZ_takeY (i := 28) (oi := { dst := some 45, op := Op.fieldAddr 29 (Operand.tmp 44) 0, type := 0, pos := "ref.go:50", after := #[{ on := 27, ground := Ground.data }, { on := 0, ground := Ground.phase }, { on := 1, ground := Ground.phase }, { on := 2, ground := Ground.phase }, { on := 3, ground := Ground.phase }, { on := 4, ground := Ground.phase }, { on := 5, ground := Ground.phase }, { on := 6, ground := Ground.phase }, { on := 7, ground := Ground.phase }, { on := 8, ground := Ground.phase }, { on := 9, ground := Ground.phase }, { on := 10, ground := Ground.phase }, { on := 11, ground := Ground.phase }, { on := 12, ground := Ground.phase }, { on := 13, ground := Ground.phase }, { on := 14, ground := Ground.phase }, { on := 15, ground := Ground.phase }, { on := 16, ground := Ground.phase }, { on := 17, ground := Ground.phase }, { on := 18, ground := Ground.phase }, { on := 19, ground := Ground.phase }, { on := 20, ground := Ground.phase }, { on := 21, ground := Ground.phase }, { on := 22, ground := Ground.phase }, { on := 23, ground := Ground.phase }, { on := 24, ground := Ground.phase }, { on := 25, ground := Ground.phase }, { on := 26, ground := Ground.phase }], guard := none }) (v := ?_) rfl (by kernel_rfl) (by kernel_rfl) (by kernel_rfl) (by rfl) (fun _ _ _ h => h) (Or.inl ⟨by rfl, ?_⟩) (by assumption) ?_
        rotate_left
        · (intro w; go_simp); (first | done | with_reducible rfl)
        try simp only [Act.put, List.setIfInBounds_toArray, List.set_cons_zero, List.set_cons_succ]
        refine wpAnyZ_ready (rs := [29]) (by kernel_rfl) (by simp) ?_
        refine AllReadyZ.last (o := { dst := none, op := Op.store 27 (Operand.tmp 45) (Operand.tmp 43), type := 0, pos := "ref.go:50", after := #[{ on := 28, ground := Ground.data }, { on := 26, ground := Ground.data }, { on := 26, ground := Ground.chain }, { on := 0, ground := Ground.phase }, { on := 1, ground := Ground.phase }, { on := 2, ground := Ground.phase }, { on := 3, ground := Ground.phase }, { on := 4, ground := Ground.phase }, { on := 5, ground := Ground.phase }, { on := 6, ground := Ground.phase }, { on := 7, ground := Ground.phase }, { on := 8, ground := Ground.phase }, { on := 9, ground := Ground.phase }, { on := 10, ground := Ground.phase }, { on := 11, ground := Ground.phase }, { on := 12, ground := Ground.phase }, { on := 13, ground := Ground.phase }, { on := 14, ground := Ground.phase }, { on := 15, ground := Ground.phase }, { on := 16, ground := Ground.phase }, { on := 17, ground := Ground.phase }, { on := 18, ground := Ground.phase }, { on := 19, ground := Ground.phase }, { on := 20, ground := Ground.phase }, { on := 21, ground := Ground.phase }, { on := 22, ground := Ground.phase }, { on := 23, ground := Ground.phase }, { on := 24, ground := Ground.phase }, { on := 25, ground := Ground.phase }, { on := 26, ground := Ground.phase }], guard := none }) rfl (fun K hK => ?_) AllReadyZ.nil
        have f0 := (HBK.out.below HB.out).free 0
        have m0 := (HBK.out.below HB.out).cell 0
        go_simp
        refine hK.out _ _ ?_
        clear hK K
        refine wpAny_done (by kernel_rfl) ?_ _
        go_wp2_with fail
        go_ret
        have hN : (L.take (n + 1) ++ m :: L.drop (n + 1)).length = L.length + 1 := by rw [List.length_append, HE0.out, List.length_cons, List.length_drop]; omega
        have hE : L.take (n + 1) ++ [m] ++ L.drop (n + 1) = L.take (n + 1) ++ m :: L.drop (n + 1) := by simp
        have h26 := HO26.out
        rw [hE] at h26
        refine ⟨rfl, ⟨_, T, (HBK.out.below HB.out).set 0 _, ?_, HRL.out, by simpa [World.setCell] using HB.out.size⟩, (Only.ofBelow (b := r) HB.out).setCell (p := ⟨r, 0, none⟩) (.inl rfl) _⟩
        rw [hN]
        exact ownsRow_set (r := r) (i := 0) h26 HRL.out
    · go_simp
      have HY := Lib.hid (show BlkIn #[.int .i64 m.src, .int .i64 m.dst, .string (S m.dat)] 31 (wr.alloc (.cells #[.int .i64 m.src, .int .i64 m.dst, .string (S m.dat)] 31)) wr.heap.size from heap_alloc_new _ _)
      replace HB := Lib.hid (HB.out.alloc HB.out.size (.cells #[.int .i64 m.src, .int .i64 m.dst, .string (S m.dat)] 31))
      generalize hq17 : wr.heap.size = q17 at *
      generalize hw17 : wr.alloc (.cells #[.int .i64 m.src, .int .i64 m.dst, .string (S m.dat)] 31) = w17 at *
      clear hq17 hw17
      refine hK.out _ _ ?_ (fun hHeld => ?_)
      · (have hm := HMM.out _ HB.out; exact ⟨(HBK.out.below HB.out).cell 0, hm.1, hm.2.1, hm.2.2⟩)
      clear hK K
      try simp only [Act.put, List.setIfInBounds_toArray, List.set_cons_zero, List.set_cons_succ]
      refine wpAnyZ_ready (rs := [1]) (by kernel_rfl) (by simp) ?_
      refine AllReadyZ.cons (o := { dst := some 18, op := Op.buildSlice 27 0 #[], type := 27, pos := "ref.go:50", after := #[], guard := none }) rfl (by rfl) (fun K hK => ?_) (AllReadyZ.nil)
      go_simp
      have HOo := Lib.hid (World.ownsRow_made (base := w.heap.size) (e := 31) (size := 3) w17 #[] 0 HB.out.size (by unfold maxLen; omega) rfl)
      replace HB := Lib.hid (HB.out.alloc HB.out.size (.cells #[] 31))
      have HNE := Lib.hid (show w17.heap.size ≠ q17 from fun e => by have := HY.out.lt; omega)
      replace HY := Lib.hid (HY.out.more (.cells #[] 31))
      generalize hq1 : w17.heap.size = q1 at *
      generalize hw1 : w17.alloc (.cells #[] 31) = w1 at *
      clear hq1 hw1
      refine hK.out _ _ ?_ (fun hHeld => ?_)
      · (have hm := HMM.out _ HB.out; exact ⟨(HBK.out.below HB.out).cell 0, hm.1, hm.2.1, hm.2.2⟩)
      clear hK K
      try simp only [Act.put, List.setIfInBounds_toArray, List.set_cons_zero, List.set_cons_succ]
      refine wpAnyZ_ready (rs := [9]) (by kernel_rfl) (by simp) ?_
      refine AllReadyZ.cons (o := { dst := some 26, op := Op.call { callee := Callee.builtin Builtin.append, args := #[Operand.tmp 18, Operand.tmp 25], argTypes := #[27, 27] }, type := 27, pos := "ref.go:50", after := #[{ on := 1, ground := Ground.data }, { on := 8, ground := Ground.data }], guard := none }) rfl (by rfl) (fun K hK => ?_) (AllReadyZ.nil)
      refine step_append_at7 (by rfl) _ _ 27 (by rfl) w.heap.size 31 i0 z0 3 32 Try.underlying27 hi hz0 hz1 hz2 hz3 (by decide) (.slice (some ⟨q1, 0, none⟩) 0 0) 0 [] (by rfl) HOo.out ⟨g, 0, none⟩ (n + 1) (n + 1) (mls (L.take (n + 1))) (by rfl) (by rw [mls_length, HE0.out]) (fun j u hu => by rw [show (⟨g, 0, none⟩ : Addr).add j = ⟨g, j, none⟩ from by unfold Addr.add; split <;> simp_all]; exact HROW.out _ HB.out j u (mls_pre L (n + 1) j u hu)) (mls_one_cell _) (by unfold maxLen; omega) (by omega) HB.out.size ?_
      intro v9 w9 ho9 hg9 _ hat9
      rw [Nat.zero_add, List.nil_append] at ho9
      obtain ⟨a9, c9, rfl⟩ := own_shape ho9
      have HO9 := Lib.hid ho9
      replace HB := Lib.hid (HB.out.grown hg9 HB.out.size (fun k hk => (HOo.out.lt k hk).1))
      have HYL := Lib.hid (show q17 < w1.heap.size from HY.out.lt)
      replace HY := Lib.hid (HY.out.grown hg9 (fun q hq e => HNE.out (by cases hq; exact e)))
      replace HNE := Lib.hid (show ∀ q, (Value.slice a9 (n + 1) c9).ownBlock = some q → q ≠ q17 from fun q hq e => by rcases hat9 with h | h; exact HNE.out (by rw [hq] at h; cases h; exact e); rw [hq] at h; cases h; have := HYL.out; omega)
      clear HYL
      clear ho9 hg9 hat9 HOo
      refine hK.out _ _ ?_ (fun hHeld => ?_)
      · (have hm := HMM.out _ HB.out; exact ⟨(HBK.out.below HB.out).cell 0, hm.1, hm.2.1, hm.2.2⟩)
      clear hK K
      try simp only [Act.put, List.setIfInBounds_toArray, List.set_cons_zero, List.set_cons_succ]
      refine wpAnyZ_ready (rs := [18]) (by kernel_rfl) (by simp) ?_
      refine AllReadyZ.cons (o := { dst := some 35, op := Op.call { callee := Callee.builtin Builtin.append, args := #[Operand.tmp 26, Operand.tmp 34], argTypes := #[27, 27] }, type := 27, pos := "ref.go:50", after := #[{ on := 9, ground := Ground.data }, { on := 17, ground := Ground.data }, { on := 9, ground := Ground.chain }], guard := none }) rfl (by rfl) (fun K hK => ?_) (AllReadyZ.nil)
      refine step_append_at7 (by rfl) _ _ 27 (by rfl) w.heap.size 31 i0 z0 3 32 Try.underlying27 hi hz0 hz1 hz2 hz3 (by decide) (.slice a9 (n + 1) c9) (n + 1) (mls (L.take (n + 1))) (by rfl) HO9.out ⟨q17, 0, none⟩ 1 1 (mlC m) (by rfl) rfl (ml_blk HY.out) (mlC_one m) (by unfold maxLen; omega) (by omega) HB.out.size ?_
      intro v18 w18 ho18 hg18 _ _
      replace ho18 : w18.ownsRow w.heap.size 31 3 v18 (n + 1 + 1) (mls (L.take (n + 1) ++ [m])) := by rw [mls_append, mls_one]; exact ho18
      obtain ⟨a18, c18, rfl⟩ := own_shape ho18
      have HO18 := Lib.hid ho18
      replace HB := Lib.hid (HB.out.grown hg18 HB.out.size (fun k hk => (HO9.out.lt k hk).1))
      clear ho18 hg18 HO9 HY HNE
      refine hK.out _ _ ?_ (fun hHeld => ?_)
      · (have hm := HMM.out _ HB.out; exact ⟨(HBK.out.below HB.out).cell 0, hm.1, hm.2.1, hm.2.2⟩)
      clear hK K
      try simp only [Act.put, List.setIfInBounds_toArray, List.set_cons_zero, List.set_cons_succ]
      refine wpAnyZ_ready (rs := [26]) (by kernel_rfl) (by simp) ?_
      refine AllReadyZ.cons (o := { dst := some 43, op := Op.call { callee := Callee.builtin Builtin.append, args := #[Operand.tmp 35, Operand.tmp 42], argTypes := #[27, 27] }, type := 27, pos := "ref.go:50", after := #[{ on := 18, ground := Ground.data }, { on := 25, ground := Ground.data }, { on := 18, ground := Ground.chain }], guard := none }) rfl (by rfl) (fun K hK => ?_) (AllReadyZ.nil)
      refine step_append_at7 (by rfl) _ _ 27 (by rfl) w.heap.size 31 i0 z0 3 32 Try.underlying27 hi hz0 hz1 hz2 hz3 (by decide) (.slice a18 (n + 1 + 1) c18) (n + 1 + 1) (mls (L.take (n + 1) ++ [m])) (by rfl) HO18.out ⟨g, 0, none⟩ 0 0 [] (by rfl) rfl (fun j u hu => by simp at hu) (fun u hu => by simp at hu) (by unfold maxLen; omega) (by omega) HB.out.size ?_
      intro v26 w26 ho26 hg26 _ _
      rw [show n + 1 + 1 + 0 = L.length + 1 from by have := HLN.out; omega] at ho26
      replace ho26 : w26.ownsRow w.heap.size 31 3 v26 (L.length + 1) (mls (L.take (n + 1) ++ [m] ++ L.drop (n + 1))) := by rw [HDR.out, List.append_nil]; rw [List.append_nil] at ho26; exact ho26
      obtain ⟨a26, c26, rfl⟩ := own_shape ho26
      have HO26 := Lib.hid ho26
      replace HB := Lib.hid (HB.out.grown hg26 HB.out.size (fun k hk => (HO18.out.lt k hk).1))
      clear ho26 hg26 HO18
      refine hK.out _ _ ?_ (fun hHeld => ?_)
      · (have hm := HMM.out _ HB.out; exact ⟨(HBK.out.below HB.out).cell 0, hm.1, hm.2.1, hm.2.2⟩)
      clear hK K
      try simp only [Act.put, List.setIfInBounds_toArray, List.set_cons_zero, List.set_cons_succ]
      refine wpAnyZ_takeY (i := 27) (oi := { dst := some 44, op := Op.nilCheck (Operand.tmp 17), type := 0, pos := "ref.go:50", after := #[{ on := 0, ground := Ground.data }, { on := 0, ground := Ground.phase }, { on := 1, ground := Ground.phase }, { on := 2, ground := Ground.phase }, { on := 3, ground := Ground.phase }, { on := 4, ground := Ground.phase }, { on := 5, ground := Ground.phase }, { on := 6, ground := Ground.phase }, { on := 7, ground := Ground.phase }, { on := 8, ground := Ground.phase }, { on := 9, ground := Ground.phase }, { on := 10, ground := Ground.phase }, { on := 11, ground := Ground.phase }, { on := 12, ground := Ground.phase }, { on := 13, ground := Ground.phase }, { on := 14, ground := Ground.phase }, { on := 15, ground := Ground.phase }, { on := 16, ground := Ground.phase }, { on := 17, ground := Ground.phase }, { on := 18, ground := Ground.phase }, { on := 19, ground := Ground.phase }, { on := 20, ground := Ground.phase }, { on := 21, ground := Ground.phase }, { on := 22, ground := Ground.phase }, { on := 23, ground := Ground.phase }, { on := 24, ground := Ground.phase }, { on := 25, ground := Ground.phase }, { on := 26, ground := Ground.phase }], guard := none }) (v := ?_) rfl (by kernel_rfl) (by kernel_rfl) (by kernel_rfl) (by rfl) (fun _ _ _ h => h) (Or.inl ⟨by rfl, ?_⟩) (by assumption) ?_
      rotate_left
      · (intro w; go_simp); (first | done | with_reducible rfl)
      try simp only [Act.put, List.setIfInBounds_toArray, List.set_cons_zero, List.set_cons_succ]
      refine wpAnyZ_takeY (i := 28) (oi := { dst := some 45, op := Op.fieldAddr 29 (Operand.tmp 44) 0, type := 0, pos := "ref.go:50", after := #[{ on := 27, ground := Ground.data }, { on := 0, ground := Ground.phase }, { on := 1, ground := Ground.phase }, { on := 2, ground := Ground.phase }, { on := 3, ground := Ground.phase }, { on := 4, ground := Ground.phase }, { on := 5, ground := Ground.phase }, { on := 6, ground := Ground.phase }, { on := 7, ground := Ground.phase }, { on := 8, ground := Ground.phase }, { on := 9, ground := Ground.phase }, { on := 10, ground := Ground.phase }, { on := 11, ground := Ground.phase }, { on := 12, ground := Ground.phase }, { on := 13, ground := Ground.phase }, { on := 14, ground := Ground.phase }, { on := 15, ground := Ground.phase }, { on := 16, ground := Ground.phase }, { on := 17, ground := Ground.phase }, { on := 18, ground := Ground.phase }, { on := 19, ground := Ground.phase }, { on := 20, ground := Ground.phase }, { on := 21, ground := Ground.phase }, { on := 22, ground := Ground.phase }, { on := 23, ground := Ground.phase }, { on := 24, ground := Ground.phase }, { on := 25, ground := Ground.phase }, { on := 26, ground := Ground.phase }], guard := none }) (v := ?_) rfl (by kernel_rfl) (by kernel_rfl) (by kernel_rfl) (by rfl) (fun _ _ _ h => h) (Or.inl ⟨by rfl, ?_⟩) (by assumption) ?_
      rotate_left
      · (intro w; go_simp); (first | done | with_reducible rfl)
      try simp only [Act.put, List.setIfInBounds_toArray, List.set_cons_zero, List.set_cons_succ]
      refine wpAnyZ_ready (rs := [29]) (by kernel_rfl) (by simp) ?_
      refine AllReadyZ.last (o := { dst := none, op := Op.store 27 (Operand.tmp 45) (Operand.tmp 43), type := 0, pos := "ref.go:50", after := #[{ on := 28, ground := Ground.data }, { on := 26, ground := Ground.data }, { on := 26, ground := Ground.chain }, { on := 0, ground := Ground.phase }, { on := 1, ground := Ground.phase }, { on := 2, ground := Ground.phase }, { on := 3, ground := Ground.phase }, { on := 4, ground := Ground.phase }, { on := 5, ground := Ground.phase }, { on := 6, ground := Ground.phase }, { on := 7, ground := Ground.phase }, { on := 8, ground := Ground.phase }, { on := 9, ground := Ground.phase }, { on := 10, ground := Ground.phase }, { on := 11, ground := Ground.phase }, { on := 12, ground := Ground.phase }, { on := 13, ground := Ground.phase }, { on := 14, ground := Ground.phase }, { on := 15, ground := Ground.phase }, { on := 16, ground := Ground.phase }, { on := 17, ground := Ground.phase }, { on := 18, ground := Ground.phase }, { on := 19, ground := Ground.phase }, { on := 20, ground := Ground.phase }, { on := 21, ground := Ground.phase }, { on := 22, ground := Ground.phase }, { on := 23, ground := Ground.phase }, { on := 24, ground := Ground.phase }, { on := 25, ground := Ground.phase }, { on := 26, ground := Ground.phase }], guard := none }) rfl (fun K hK => ?_) AllReadyZ.nil
      have f0 := (HBK.out.below HB.out).free 0
      have m0 := (HBK.out.below HB.out).cell 0
      go_simp
      refine hK.out _ _ ?_
      clear hK K
      refine wpAny_done (by kernel_rfl) ?_ _
      go_wp2_with fail
      go_ret
      have hN : (L.take (n + 1) ++ m :: L.drop (n + 1)).length = L.length + 1 := by rw [List.length_append, HE0.out, List.length_cons, List.length_drop]; omega
      have hE : L.take (n + 1) ++ [m] ++ L.drop (n + 1) = L.take (n + 1) ++ m :: L.drop (n + 1) := by simp
      have h26 := HO26.out
      rw [hE] at h26
      refine ⟨rfl, ⟨_, T, (HBK.out.below HB.out).set 0 _, ?_, HRL.out, by simpa [World.setCell] using HB.out.size⟩, (Only.ofBelow (b := r) HB.out).setCell (p := ⟨r, 0, none⟩) (.inl rfl) _⟩
      rw [hN]
      exact ownsRow_set (r := r) (i := 0) h26 HRL.out

end Go.Proofs.Ytggflkjdpibioaa
