/- Texts of lower layers, as one. -/
import Derived.Test.YtnhljlmelbiljaaGreatZO
import Derived.Test.YtnhljlmelbiljaaGreatZJ
import Derived.Deep.RegionHeld3
import Derived.WalkSmall
/- Layer 11: rows of heads; which comes first, by a contract. -/
namespace Go.Proofs.YtnhljlmelbiljaaGreat
set_option linter.unusedVariables false
open Go Go.RowKit
attribute [local go_sem ↓] run_index_S
attribute [local go_sem] S_append S_extract

/-- A head's cells. -/
def hdL (x : M.Hd) : List Value := [.string (S x.c.key), .int .i64 x.c.seq, .string (S x.c.val), .slice x.o x.b.length x.k, .int .i64 x.r]
def hdA (x : M.Hd) : Array Value := #[.string (S x.c.key), .int .i64 x.c.seq, .string (S x.c.val), .slice x.o x.b.length x.k, .int .i64 x.r]
/-- A head at a place. -/
structure HdOff (x : M.Hd) (w : World) (g o : Nat) : Prop where
  h0 : w.cell? ⟨g, o, none⟩ = some (.string (S x.c.key))
  h1 : w.cell? ⟨g, o + 1, none⟩ = some (.int .i64 x.c.seq)
  h2 : w.cell? ⟨g, o + 2, none⟩ = some (.string (S x.c.val))
  h3 : w.cell? ⟨g, o + 3, none⟩ = some (.slice x.o x.b.length x.k)
  h4 : w.cell? ⟨g, o + 4, none⟩ = some (.int .i64 x.r)
set_option maxHeartbeats 4000000 in
set_option maxRecDepth 100000 in
theorem less11_any (w : World) (g n cap i j : Nat) (x y : M.Hd) (hi : i < n) (hj : j < n) (hn : n ≤ 1000000) (hx : HdOff x w g (i * 5)) (hy : HdOff y w g (j * 5)) :
    Calls Tryz.prog 166 #[.slice (some ⟨g, 0, none⟩) n cap, .int .i64 i, .int .i64 j] w fun e w' => e = .returned (.bool (M.hLess x y)) ∧ Below w.heap.size w w' := by
  obtain ⟨x0, x1, x2, x3, x4⟩ := hx
  obtain ⟨y0, y1, y2, y3, y4⟩ := hy
  have hii : (i : Int) < (n : Int) := by omega
  have hji : (j : Int) < (n : Int) := by omega
  have HL : Hid (M.hLess x y = if x.c.key = y.c.key then (if x.c.seq = y.c.seq then decide (x.r < y.r) else decide (y.c.seq < x.c.seq)) else Op.bytesLess x.c.key y.c.key) := Lib.hid rfl
  generalize M.hLess x y = B at *
  have hg := block_lt_of_cell x0
  have m1 : ¬ (g = w.heap.size) := by simp at hg; omega
  have m2 : ¬ (w.heap.size = g) := by simp at hg; omega
  have m3 : ¬ (g = w.heap.size + 1) := by simp at hg; omega
  have m4 : ¬ (w.heap.size + 1 = g) := by simp at hg; omega
  have HG := Lib.hid hg
  clear hg
  have HB : Hid (∀ a b : Obj, Below w.heap.size w (((w.alloc a).alloc b).drew)) := Lib.hid (fun a b => (((Below.refl w.heap.size w).alloc (Nat.le_refl _) a).alloc (by have := ((Below.refl w.heap.size w).alloc (Nat.le_refl _) a).size; omega) b).drew)
  go_enter Tryz.func166, Tryz.ntmps166
  go_wp2_with fail
  go_region_held3 (fun W => W.cell? ⟨g, i * 5, none⟩ = some (.string (S x.c.key)) ∧ W.cell? ⟨g, i * 5 + 1, none⟩ = some (.int .i64 x.c.seq) ∧ W.cell? ⟨g, i * 5 + 2, none⟩ = some (.string (S x.c.val)) ∧ W.cell? ⟨g, i * 5 + 3, none⟩ = some (.slice x.o x.b.length x.k) ∧ W.cell? ⟨g, i * 5 + 4, none⟩ = some (.int .i64 x.r) ∧ W.cell? ⟨g, j * 5, none⟩ = some (.string (S y.c.key)) ∧ W.cell? ⟨g, j * 5 + 1, none⟩ = some (.int .i64 y.c.seq) ∧ W.cell? ⟨g, j * 5 + 2, none⟩ = some (.string (S y.c.val)) ∧ W.cell? ⟨g, j * 5 + 3, none⟩ = some (.slice y.o y.b.length y.k) ∧ W.cell? ⟨g, j * 5 + 4, none⟩ = some (.int .i64 y.r)) (go_keep) (fail)
  all_goals
    by_cases e1 : x.c.key = y.c.key
    · have f1 : (x.c.key == y.c.key) = true := by simpa using e1
      by_cases e2 : x.c.seq = y.c.seq
      · have f2 : (x.c.seq == y.c.seq) = true := by simpa using e2
        have f3 : (x.c.seq != y.c.seq) = false := by simpa using e2
        have HV := Lib.hid (show B = decide (x.r < y.r) from by rw [HL.out, if_pos e1, if_pos e2])
        clear e1 e2 HL
        go_wp2_with fail
        go_ret
        exact ⟨ret_bool HV.out.symm, HB.out _ _⟩
      · have f2 : (x.c.seq == y.c.seq) = false := by simpa using e2
        have f3 : (x.c.seq != y.c.seq) = true := by simpa using e2
        have HV := Lib.hid (show B = decide (y.c.seq < x.c.seq) from by rw [HL.out, if_pos e1, if_neg e2])
        clear e1 e2 HL
        go_wp2_with fail
        go_ret
        exact ⟨ret_bool HV.out.symm, HB.out _ _⟩
    · have f1 : (x.c.key == y.c.key) = false := by simpa using e1
      have HV := Lib.hid (show B = Op.bytesLess x.c.key y.c.key from by rw [HL.out, if_neg e1])
      clear e1 HL
      go_wp2_with fail
      go_ret
      exact ⟨ret_bool HV.out.symm, HB.out _ _⟩

end Go.Proofs.YtnhljlmelbiljaaGreat

/- Layer 11: two heads changed about, by a contract. -/
namespace Go.Proofs.YtnhljlmelbiljaaGreat
set_option linter.unusedVariables false
open Go Go.RowKit
attribute [local go_sem ↓] run_index_S
attribute [local go_sem] S_append S_extract

def RoomH (N : Nat) (w : World) (g : Nat) : Prop := ∃ C, RowIn C 181 w g ∧ N ≤ C.size
theorem RoomH.free {N : Nat} {w : World} {g : Nat} (h : RoomH N w g) (i : Nat) : w.frozen? ⟨g, i, none⟩ = false := by
  obtain ⟨C, h1, h2⟩ := h
  exact h1.free i
/-- A head stored whole. -/
def store5 (w : World) (g o : Nat) (x : M.Hd) : World := ((((w.setCell ⟨g, o, none⟩ (.string (S x.c.key))).setCell ⟨g, o + 1, none⟩ (.int .i64 x.c.seq)).setCell ⟨g, o + 2, none⟩ (.string (S x.c.val))).setCell ⟨g, o + 3, none⟩ (.slice x.o x.b.length x.k)).setCell ⟨g, o + 4, none⟩ (.int .i64 x.r)
set_option maxHeartbeats 4000000 in
set_option maxRecDepth 100000 in
theorem swap11_ne (w : World) (g n cap i j : Nat) (x y : M.Hd) (hi : i < n) (hj : j < n) (hij : ¬ i = j) (hn : n ≤ 1000000) (hr : RoomH (n * 5) w g) (hx : HdOff x w g (i * 5)) (hy : HdOff y w g (j * 5)) :
    Calls Tryz.prog 167 #[.slice (some ⟨g, 0, none⟩) n cap, .int .i64 i, .int .i64 j] w fun e w' => e = .returned (.tuple #[]) ∧ w' = (store5 (store5 w g (i * 5) y) g (j * 5) x).drew := by
  obtain ⟨x0, x1, x2, x3, x4⟩ := hx
  obtain ⟨y0, y1, y2, y3, y4⟩ := hy
  have hii : (i : Int) < (n : Int) := by omega
  have hji : (j : Int) < (n : Int) := by omega
  have n0 := hr.free (i * 5)
  have n1 := hr.free (i * 5 + 1)
  have n2 := hr.free (i * 5 + 2)
  have n3 := hr.free (i * 5 + 3)
  have n4 := hr.free (i * 5 + 4)
  have m0 := hr.free (j * 5)
  have m1 := hr.free (j * 5 + 1)
  have m2 := hr.free (j * 5 + 2)
  have m3 := hr.free (j * 5 + 3)
  have m4 := hr.free (j * 5 + 4)
  have hji' : ¬ (j = i) := fun e => hij e.symm
  have u01 : ¬ (i * 5 = j * 5 + 1) := by omega
  have t01 : ¬ (j * 5 + 1 = i * 5) := by omega
  have u02 : ¬ (i * 5 = j * 5 + 2) := by omega
  have t02 : ¬ (j * 5 + 2 = i * 5) := by omega
  have u03 : ¬ (i * 5 = j * 5 + 3) := by omega
  have t03 : ¬ (j * 5 + 3 = i * 5) := by omega
  have u04 : ¬ (i * 5 = j * 5 + 4) := by omega
  have t04 : ¬ (j * 5 + 4 = i * 5) := by omega
  have u10 : ¬ (i * 5 + 1 = j * 5) := by omega
  have t10 : ¬ (j * 5 = i * 5 + 1) := by omega
  have u12 : ¬ (i * 5 + 1 = j * 5 + 2) := by omega
  have t12 : ¬ (j * 5 + 2 = i * 5 + 1) := by omega
  have u13 : ¬ (i * 5 + 1 = j * 5 + 3) := by omega
  have t13 : ¬ (j * 5 + 3 = i * 5 + 1) := by omega
  have u14 : ¬ (i * 5 + 1 = j * 5 + 4) := by omega
  have t14 : ¬ (j * 5 + 4 = i * 5 + 1) := by omega
  have u20 : ¬ (i * 5 + 2 = j * 5) := by omega
  have t20 : ¬ (j * 5 = i * 5 + 2) := by omega
  have u21 : ¬ (i * 5 + 2 = j * 5 + 1) := by omega
  have t21 : ¬ (j * 5 + 1 = i * 5 + 2) := by omega
  have u23 : ¬ (i * 5 + 2 = j * 5 + 3) := by omega
  have t23 : ¬ (j * 5 + 3 = i * 5 + 2) := by omega
  have u24 : ¬ (i * 5 + 2 = j * 5 + 4) := by omega
  have t24 : ¬ (j * 5 + 4 = i * 5 + 2) := by omega
  have u30 : ¬ (i * 5 + 3 = j * 5) := by omega
  have t30 : ¬ (j * 5 = i * 5 + 3) := by omega
  have u31 : ¬ (i * 5 + 3 = j * 5 + 1) := by omega
  have t31 : ¬ (j * 5 + 1 = i * 5 + 3) := by omega
  have u32 : ¬ (i * 5 + 3 = j * 5 + 2) := by omega
  have t32 : ¬ (j * 5 + 2 = i * 5 + 3) := by omega
  have u34 : ¬ (i * 5 + 3 = j * 5 + 4) := by omega
  have t34 : ¬ (j * 5 + 4 = i * 5 + 3) := by omega
  have u40 : ¬ (i * 5 + 4 = j * 5) := by omega
  have t40 : ¬ (j * 5 = i * 5 + 4) := by omega
  have u41 : ¬ (i * 5 + 4 = j * 5 + 1) := by omega
  have t41 : ¬ (j * 5 + 1 = i * 5 + 4) := by omega
  have u42 : ¬ (i * 5 + 4 = j * 5 + 2) := by omega
  have t42 : ¬ (j * 5 + 2 = i * 5 + 4) := by omega
  have u43 : ¬ (i * 5 + 4 = j * 5 + 3) := by omega
  have t43 : ¬ (j * 5 + 3 = i * 5 + 4) := by omega
  have s0 : ¬ (i * 5 = j * 5) := by omega
  have s1 : ¬ (j * 5 = i * 5) := by omega
  unfold store5
  go_enter Tryz.func167, Tryz.ntmps167
  go_wp2_with fail
  refine wp_region_any (by kernel_rfl) ?_
  change wpAny _ _ _ _ _ _ _ (World.drew _)
  refine wpAny_take (i := 0) (oi := { dst := some 6, op := Op.move (Operand.tmp 0), type := 148, pos := "merges.go:36", after := #[], guard := none }) (v := ?_) rfl (by kernel_rfl) (by kernel_rfl) (by kernel_rfl) (fun _ _ _ h => h) (Or.inl ⟨by rfl, ?_⟩) ?_
  rotate_left
  · (intro w; go_simp); (first | done | with_reducible rfl)
  try simp only [Act.put, List.setIfInBounds_toArray, List.set_cons_zero, List.set_cons_succ]
  refine wpAny_take (i := 1) (oi := { dst := some 7, op := Op.move (Operand.tmp 1), type := 3, pos := "merges.go:36", after := #[], guard := none }) (v := ?_) rfl (by kernel_rfl) (by kernel_rfl) (by kernel_rfl) (fun _ _ _ h => h) (Or.inl ⟨by rfl, ?_⟩) ?_
  rotate_left
  · (intro w; go_simp); (first | done | with_reducible rfl)
  try simp only [Act.put, List.setIfInBounds_toArray, List.set_cons_zero, List.set_cons_succ]
  refine wpAny_take (i := 2) (oi := { dst := some 8, op := Op.move (Operand.tmp 0), type := 148, pos := "merges.go:36", after := #[{ on := 13, ground := Ground.gcOnly Departure.lateStores }], guard := none }) (v := ?_) rfl (by kernel_rfl) (by kernel_rfl) (by kernel_rfl) (fun _ _ _ h => h) (Or.inl ⟨by rfl, ?_⟩) ?_
  rotate_left
  · (intro w; go_simp); (first | done | with_reducible rfl)
  try simp only [Act.put, List.setIfInBounds_toArray, List.set_cons_zero, List.set_cons_succ]
  refine wpAny_take (i := 3) (oi := { dst := some 9, op := Op.move (Operand.tmp 2), type := 3, pos := "merges.go:36", after := #[{ on := 13, ground := Ground.gcOnly Departure.lateStores }], guard := none }) (v := ?_) rfl (by kernel_rfl) (by kernel_rfl) (by kernel_rfl) (fun _ _ _ h => h) (Or.inl ⟨by rfl, ?_⟩) ?_
  rotate_left
  · (intro w; go_simp); (first | done | with_reducible rfl)
  try simp only [Act.put, List.setIfInBounds_toArray, List.set_cons_zero, List.set_cons_succ]
  refine wpAny_take (i := 4) (oi := { dst := some 10, op := Op.move (Operand.tmp 0), type := 148, pos := "merges.go:36", after := #[], guard := none }) (v := ?_) rfl (by kernel_rfl) (by kernel_rfl) (by kernel_rfl) (fun _ _ _ h => h) (Or.inl ⟨by rfl, ?_⟩) ?_
  rotate_left
  · (intro w; go_simp); (first | done | with_reducible rfl)
  try simp only [Act.put, List.setIfInBounds_toArray, List.set_cons_zero, List.set_cons_succ]
  refine wpAny_take (i := 5) (oi := { dst := some 11, op := Op.move (Operand.tmp 2), type := 3, pos := "merges.go:36", after := #[], guard := none }) (v := ?_) rfl (by kernel_rfl) (by kernel_rfl) (by kernel_rfl) (fun _ _ _ h => h) (Or.inl ⟨by rfl, ?_⟩) ?_
  rotate_left
  · (intro w; go_simp); (first | done | with_reducible rfl)
  try simp only [Act.put, List.setIfInBounds_toArray, List.set_cons_zero, List.set_cons_succ]
  refine wpAny_take (i := 6) (oi := { dst := some 12, op := Op.indexAddr 148 (Operand.tmp 10) (Operand.tmp 11), type := 0, pos := "merges.go:36", after := #[{ on := 4, ground := Ground.data }, { on := 5, ground := Ground.data }], guard := none }) (v := ?_) rfl (by kernel_rfl) (by kernel_rfl) (by kernel_rfl) (fun _ _ _ h => h) (Or.inl ⟨by rfl, ?_⟩) ?_
  rotate_left
  · (intro w; go_simp); (first | done | with_reducible rfl)
  try simp only [Act.put, List.setIfInBounds_toArray, List.set_cons_zero, List.set_cons_succ]
  refine wpAny_take (i := 8) (oi := { dst := some 14, op := Op.move (Operand.tmp 0), type := 148, pos := "merges.go:36", after := #[], guard := none }) (v := ?_) rfl (by kernel_rfl) (by kernel_rfl) (by kernel_rfl) (fun _ _ _ h => h) (Or.inl ⟨by rfl, ?_⟩) ?_
  rotate_left
  · (intro w; go_simp); (first | done | with_reducible rfl)
  try simp only [Act.put, List.setIfInBounds_toArray, List.set_cons_zero, List.set_cons_succ]
  refine wpAny_take (i := 9) (oi := { dst := some 15, op := Op.move (Operand.tmp 1), type := 3, pos := "merges.go:36", after := #[], guard := none }) (v := ?_) rfl (by kernel_rfl) (by kernel_rfl) (by kernel_rfl) (fun _ _ _ h => h) (Or.inl ⟨by rfl, ?_⟩) ?_
  rotate_left
  · (intro w; go_simp); (first | done | with_reducible rfl)
  try simp only [Act.put, List.setIfInBounds_toArray, List.set_cons_zero, List.set_cons_succ]
  refine wpAny_take (i := 10) (oi := { dst := some 16, op := Op.indexAddr 148 (Operand.tmp 14) (Operand.tmp 15), type := 0, pos := "merges.go:36", after := #[{ on := 8, ground := Ground.data }, { on := 9, ground := Ground.data }], guard := none }) (v := ?_) rfl (by kernel_rfl) (by kernel_rfl) (by kernel_rfl) (fun _ _ _ h => h) (Or.inl ⟨by rfl, ?_⟩) ?_
  rotate_left
  · (intro w; go_simp); (first | done | with_reducible rfl)
  try simp only [Act.put, List.setIfInBounds_toArray, List.set_cons_zero, List.set_cons_succ]
  refine wpAny_ready (rs := [7, 11]) (by kernel_rfl) (by simp) ?_
  refine AllReady.cons (o := { dst := some 13, op := Op.load 181 (Operand.tmp 12), type := 181, pos := "merges.go:36", after := #[{ on := 6, ground := Ground.data }], guard := none }) rfl (fun K hK => ?_) (AllReady.cons (o := { dst := some 17, op := Op.load 181 (Operand.tmp 16), type := 181, pos := "merges.go:36", after := #[{ on := 10, ground := Ground.data }], guard := none }) rfl (fun K hK => ?_) AllReady.nil)
  go_simp
  refine hK _ _ ?_
  clear hK K
  try simp only [Act.put, List.setIfInBounds_toArray, List.set_cons_zero, List.set_cons_succ]
  refine wpAny_ready (rs := [11]) (by kernel_rfl) (by simp) ?_
  refine AllReady.cons (o := { dst := some 17, op := Op.load 181 (Operand.tmp 16), type := 181, pos := "merges.go:36", after := #[{ on := 10, ground := Ground.data }], guard := none }) rfl (fun K hK => ?_) AllReady.nil
  go_simp
  refine hK _ _ ?_
  clear hK K
  try simp only [Act.put, List.setIfInBounds_toArray, List.set_cons_zero, List.set_cons_succ]
  refine wpAny_take (i := 12) (oi := { dst := some 18, op := Op.indexAddr 148 (Operand.tmp 6) (Operand.tmp 7), type := 0, pos := "merges.go:36", after := #[{ on := 0, ground := Ground.data }, { on := 1, ground := Ground.data }, { on := 0, ground := Ground.phase }, { on := 1, ground := Ground.phase }, { on := 2, ground := Ground.textOnly Departure.lateStores }, { on := 3, ground := Ground.textOnly Departure.lateStores }, { on := 4, ground := Ground.phase }, { on := 5, ground := Ground.phase }, { on := 6, ground := Ground.phase }, { on := 7, ground := Ground.phase }, { on := 8, ground := Ground.textOnly Departure.lateStores }, { on := 9, ground := Ground.textOnly Departure.lateStores }, { on := 10, ground := Ground.textOnly Departure.lateStoresUnsure }, { on := 11, ground := Ground.phase }], guard := none }) (v := ?_) rfl (by kernel_rfl) (by kernel_rfl) (by kernel_rfl) (fun _ _ _ h => h) (Or.inl ⟨by rfl, ?_⟩) ?_
  rotate_left
  · (intro w; go_simp); (first | done | with_reducible rfl)
  try simp only [Act.put, List.setIfInBounds_toArray, List.set_cons_zero, List.set_cons_succ]
  refine wpAny_ready (rs := [13]) (by kernel_rfl) (by simp) ?_
  refine AllReady.cons (o := { dst := none, op := Op.store 181 (Operand.tmp 18) (Operand.tmp 13), type := 0, pos := "merges.go:36", after := #[{ on := 12, ground := Ground.data }, { on := 7, ground := Ground.data }, { on := 0, ground := Ground.phase }, { on := 1, ground := Ground.phase }, { on := 2, ground := Ground.textOnly Departure.lateStores }, { on := 3, ground := Ground.textOnly Departure.lateStores }, { on := 4, ground := Ground.phase }, { on := 5, ground := Ground.phase }, { on := 6, ground := Ground.phase }, { on := 7, ground := Ground.phase }, { on := 8, ground := Ground.textOnly Departure.lateStores }, { on := 9, ground := Ground.textOnly Departure.lateStores }, { on := 10, ground := Ground.textOnly Departure.lateStoresUnsure }, { on := 11, ground := Ground.phase }], guard := none }) rfl (fun K hK => ?_) AllReady.nil
  go_simp
  refine hK _ _ ?_
  clear hK K
  try simp only [Act.put, List.setIfInBounds_toArray, List.set_cons_zero, List.set_cons_succ]
  refine wpAny_take (i := 14) (oi := { dst := some 19, op := Op.indexAddr 148 (Operand.tmp 8) (Operand.tmp 9), type := 0, pos := "merges.go:36", after := #[{ on := 2, ground := Ground.data }, { on := 3, ground := Ground.data }, { on := 0, ground := Ground.phase }, { on := 1, ground := Ground.phase }, { on := 2, ground := Ground.phase }, { on := 3, ground := Ground.phase }, { on := 4, ground := Ground.phase }, { on := 5, ground := Ground.phase }, { on := 6, ground := Ground.phase }, { on := 7, ground := Ground.phase }, { on := 8, ground := Ground.phase }, { on := 9, ground := Ground.phase }, { on := 10, ground := Ground.phase }, { on := 11, ground := Ground.phase }, { on := 12, ground := Ground.phase }, { on := 13, ground := Ground.phase }], guard := none }) (v := ?_) rfl (by kernel_rfl) (by kernel_rfl) (by kernel_rfl) (fun _ _ _ h => h) (Or.inl ⟨by rfl, ?_⟩) ?_
  rotate_left
  · (intro w; go_simp); (first | done | with_reducible rfl)
  try simp only [Act.put, List.setIfInBounds_toArray, List.set_cons_zero, List.set_cons_succ]
  refine wpAny_ready (rs := [15]) (by kernel_rfl) (by simp) ?_
  refine AllReady.cons (o := { dst := none, op := Op.store 181 (Operand.tmp 19) (Operand.tmp 17), type := 0, pos := "merges.go:36", after := #[{ on := 14, ground := Ground.data }, { on := 11, ground := Ground.data }, { on := 13, ground := Ground.chain }, { on := 0, ground := Ground.phase }, { on := 1, ground := Ground.phase }, { on := 2, ground := Ground.phase }, { on := 3, ground := Ground.phase }, { on := 4, ground := Ground.phase }, { on := 5, ground := Ground.phase }, { on := 6, ground := Ground.phase }, { on := 7, ground := Ground.phase }, { on := 8, ground := Ground.phase }, { on := 9, ground := Ground.phase }, { on := 10, ground := Ground.phase }, { on := 11, ground := Ground.phase }, { on := 12, ground := Ground.phase }, { on := 13, ground := Ground.phase }], guard := none }) rfl (fun K hK => ?_) AllReady.nil
  go_simp
  refine hK _ _ ?_
  clear hK K
  try simp only [Act.put, List.setIfInBounds_toArray, List.set_cons_zero, List.set_cons_succ]
  refine wpAny_done (by kernel_rfl) ?_ _
  rotate_left
  go_simp
  refine hK _ _ ?_
  clear hK K
  try simp only [Act.put, List.setIfInBounds_toArray, List.set_cons_zero, List.set_cons_succ]
  refine wpAny_ready (rs := [7]) (by kernel_rfl) (by simp) ?_
  refine AllReady.cons (o := { dst := some 13, op := Op.load 181 (Operand.tmp 12), type := 181, pos := "merges.go:36", after := #[{ on := 6, ground := Ground.data }], guard := none }) rfl (fun K hK => ?_) AllReady.nil
  go_simp
  refine hK _ _ ?_
  clear hK K
  try simp only [Act.put, List.setIfInBounds_toArray, List.set_cons_zero, List.set_cons_succ]
  refine wpAny_take (i := 12) (oi := { dst := some 18, op := Op.indexAddr 148 (Operand.tmp 6) (Operand.tmp 7), type := 0, pos := "merges.go:36", after := #[{ on := 0, ground := Ground.data }, { on := 1, ground := Ground.data }, { on := 0, ground := Ground.phase }, { on := 1, ground := Ground.phase }, { on := 2, ground := Ground.textOnly Departure.lateStores }, { on := 3, ground := Ground.textOnly Departure.lateStores }, { on := 4, ground := Ground.phase }, { on := 5, ground := Ground.phase }, { on := 6, ground := Ground.phase }, { on := 7, ground := Ground.phase }, { on := 8, ground := Ground.textOnly Departure.lateStores }, { on := 9, ground := Ground.textOnly Departure.lateStores }, { on := 10, ground := Ground.textOnly Departure.lateStoresUnsure }, { on := 11, ground := Ground.phase }], guard := none }) (v := ?_) rfl (by kernel_rfl) (by kernel_rfl) (by kernel_rfl) (fun _ _ _ h => h) (Or.inl ⟨by rfl, ?_⟩) ?_
  rotate_left
  · (intro w; go_simp); (first | done | with_reducible rfl)
  try simp only [Act.put, List.setIfInBounds_toArray, List.set_cons_zero, List.set_cons_succ]
  refine wpAny_ready (rs := [13]) (by kernel_rfl) (by simp) ?_
  refine AllReady.cons (o := { dst := none, op := Op.store 181 (Operand.tmp 18) (Operand.tmp 13), type := 0, pos := "merges.go:36", after := #[{ on := 12, ground := Ground.data }, { on := 7, ground := Ground.data }, { on := 0, ground := Ground.phase }, { on := 1, ground := Ground.phase }, { on := 2, ground := Ground.textOnly Departure.lateStores }, { on := 3, ground := Ground.textOnly Departure.lateStores }, { on := 4, ground := Ground.phase }, { on := 5, ground := Ground.phase }, { on := 6, ground := Ground.phase }, { on := 7, ground := Ground.phase }, { on := 8, ground := Ground.textOnly Departure.lateStores }, { on := 9, ground := Ground.textOnly Departure.lateStores }, { on := 10, ground := Ground.textOnly Departure.lateStoresUnsure }, { on := 11, ground := Ground.phase }], guard := none }) rfl (fun K hK => ?_) AllReady.nil
  go_simp
  refine hK _ _ ?_
  clear hK K
  try simp only [Act.put, List.setIfInBounds_toArray, List.set_cons_zero, List.set_cons_succ]
  refine wpAny_take (i := 14) (oi := { dst := some 19, op := Op.indexAddr 148 (Operand.tmp 8) (Operand.tmp 9), type := 0, pos := "merges.go:36", after := #[{ on := 2, ground := Ground.data }, { on := 3, ground := Ground.data }, { on := 0, ground := Ground.phase }, { on := 1, ground := Ground.phase }, { on := 2, ground := Ground.phase }, { on := 3, ground := Ground.phase }, { on := 4, ground := Ground.phase }, { on := 5, ground := Ground.phase }, { on := 6, ground := Ground.phase }, { on := 7, ground := Ground.phase }, { on := 8, ground := Ground.phase }, { on := 9, ground := Ground.phase }, { on := 10, ground := Ground.phase }, { on := 11, ground := Ground.phase }, { on := 12, ground := Ground.phase }, { on := 13, ground := Ground.phase }], guard := none }) (v := ?_) rfl (by kernel_rfl) (by kernel_rfl) (by kernel_rfl) (fun _ _ _ h => h) (Or.inl ⟨by rfl, ?_⟩) ?_
  rotate_left
  · (intro w; go_simp); (first | done | with_reducible rfl)
  try simp only [Act.put, List.setIfInBounds_toArray, List.set_cons_zero, List.set_cons_succ]
  refine wpAny_ready (rs := [15]) (by kernel_rfl) (by simp) ?_
  refine AllReady.cons (o := { dst := none, op := Op.store 181 (Operand.tmp 19) (Operand.tmp 17), type := 0, pos := "merges.go:36", after := #[{ on := 14, ground := Ground.data }, { on := 11, ground := Ground.data }, { on := 13, ground := Ground.chain }, { on := 0, ground := Ground.phase }, { on := 1, ground := Ground.phase }, { on := 2, ground := Ground.phase }, { on := 3, ground := Ground.phase }, { on := 4, ground := Ground.phase }, { on := 5, ground := Ground.phase }, { on := 6, ground := Ground.phase }, { on := 7, ground := Ground.phase }, { on := 8, ground := Ground.phase }, { on := 9, ground := Ground.phase }, { on := 10, ground := Ground.phase }, { on := 11, ground := Ground.phase }, { on := 12, ground := Ground.phase }, { on := 13, ground := Ground.phase }], guard := none }) rfl (fun K hK => ?_) AllReady.nil
  go_simp
  refine hK _ _ ?_
  clear hK K
  try simp only [Act.put, List.setIfInBounds_toArray, List.set_cons_zero, List.set_cons_succ]
  refine wpAny_done (by kernel_rfl) ?_ _
  rotate_left
  all_goals
    go_end0
    exact ⟨rfl, rfl⟩
set_option maxHeartbeats 4000000 in
set_option maxRecDepth 100000 in
theorem swap11_eq (w : World) (g n cap i : Nat) (x : M.Hd) (hi : i < n) (hn : n ≤ 1000000) (hr : RoomH (n * 5) w g) (hx : HdOff x w g (i * 5)) :
    Calls Tryz.prog 167 #[.slice (some ⟨g, 0, none⟩) n cap, .int .i64 i, .int .i64 i] w fun e w' => e = .returned (.tuple #[]) ∧ w' = (store5 (store5 w g (i * 5) x) g (i * 5) x).drew := by
  obtain ⟨x0, x1, x2, x3, x4⟩ := hx
  have hii : (i : Int) < (n : Int) := by omega
  have n0 := hr.free (i * 5)
  have n1 := hr.free (i * 5 + 1)
  have n2 := hr.free (i * 5 + 2)
  have n3 := hr.free (i * 5 + 3)
  have n4 := hr.free (i * 5 + 4)
  unfold store5
  go_enter Tryz.func167, Tryz.ntmps167
  go_wp2_with fail
  refine wp_region_any (by kernel_rfl) ?_
  change wpAny _ _ _ _ _ _ _ (World.drew _)
  refine wpAny_take (i := 0) (oi := { dst := some 6, op := Op.move (Operand.tmp 0), type := 148, pos := "merges.go:36", after := #[], guard := none }) (v := ?_) rfl (by kernel_rfl) (by kernel_rfl) (by kernel_rfl) (fun _ _ _ h => h) (Or.inl ⟨by rfl, ?_⟩) ?_
  rotate_left
  · (intro w; go_simp); (first | done | with_reducible rfl)
  try simp only [Act.put, List.setIfInBounds_toArray, List.set_cons_zero, List.set_cons_succ]
  refine wpAny_take (i := 1) (oi := { dst := some 7, op := Op.move (Operand.tmp 1), type := 3, pos := "merges.go:36", after := #[], guard := none }) (v := ?_) rfl (by kernel_rfl) (by kernel_rfl) (by kernel_rfl) (fun _ _ _ h => h) (Or.inl ⟨by rfl, ?_⟩) ?_
  rotate_left
  · (intro w; go_simp); (first | done | with_reducible rfl)
  try simp only [Act.put, List.setIfInBounds_toArray, List.set_cons_zero, List.set_cons_succ]
  refine wpAny_take (i := 2) (oi := { dst := some 8, op := Op.move (Operand.tmp 0), type := 148, pos := "merges.go:36", after := #[{ on := 13, ground := Ground.gcOnly Departure.lateStores }], guard := none }) (v := ?_) rfl (by kernel_rfl) (by kernel_rfl) (by kernel_rfl) (fun _ _ _ h => h) (Or.inl ⟨by rfl, ?_⟩) ?_
  rotate_left
  · (intro w; go_simp); (first | done | with_reducible rfl)
  try simp only [Act.put, List.setIfInBounds_toArray, List.set_cons_zero, List.set_cons_succ]
  refine wpAny_take (i := 3) (oi := { dst := some 9, op := Op.move (Operand.tmp 2), type := 3, pos := "merges.go:36", after := #[{ on := 13, ground := Ground.gcOnly Departure.lateStores }], guard := none }) (v := ?_) rfl (by kernel_rfl) (by kernel_rfl) (by kernel_rfl) (fun _ _ _ h => h) (Or.inl ⟨by rfl, ?_⟩) ?_
  rotate_left
  · (intro w; go_simp); (first | done | with_reducible rfl)
  try simp only [Act.put, List.setIfInBounds_toArray, List.set_cons_zero, List.set_cons_succ]
  refine wpAny_take (i := 4) (oi := { dst := some 10, op := Op.move (Operand.tmp 0), type := 148, pos := "merges.go:36", after := #[], guard := none }) (v := ?_) rfl (by kernel_rfl) (by kernel_rfl) (by kernel_rfl) (fun _ _ _ h => h) (Or.inl ⟨by rfl, ?_⟩) ?_
  rotate_left
  · (intro w; go_simp); (first | done | with_reducible rfl)
  try simp only [Act.put, List.setIfInBounds_toArray, List.set_cons_zero, List.set_cons_succ]
  refine wpAny_take (i := 5) (oi := { dst := some 11, op := Op.move (Operand.tmp 2), type := 3, pos := "merges.go:36", after := #[], guard := none }) (v := ?_) rfl (by kernel_rfl) (by kernel_rfl) (by kernel_rfl) (fun _ _ _ h => h) (Or.inl ⟨by rfl, ?_⟩) ?_
  rotate_left
  · (intro w; go_simp); (first | done | with_reducible rfl)
  try simp only [Act.put, List.setIfInBounds_toArray, List.set_cons_zero, List.set_cons_succ]
  refine wpAny_take (i := 6) (oi := { dst := some 12, op := Op.indexAddr 148 (Operand.tmp 10) (Operand.tmp 11), type := 0, pos := "merges.go:36", after := #[{ on := 4, ground := Ground.data }, { on := 5, ground := Ground.data }], guard := none }) (v := ?_) rfl (by kernel_rfl) (by kernel_rfl) (by kernel_rfl) (fun _ _ _ h => h) (Or.inl ⟨by rfl, ?_⟩) ?_
  rotate_left
  · (intro w; go_simp); (first | done | with_reducible rfl)
  try simp only [Act.put, List.setIfInBounds_toArray, List.set_cons_zero, List.set_cons_succ]
  refine wpAny_take (i := 8) (oi := { dst := some 14, op := Op.move (Operand.tmp 0), type := 148, pos := "merges.go:36", after := #[], guard := none }) (v := ?_) rfl (by kernel_rfl) (by kernel_rfl) (by kernel_rfl) (fun _ _ _ h => h) (Or.inl ⟨by rfl, ?_⟩) ?_
  rotate_left
  · (intro w; go_simp); (first | done | with_reducible rfl)
  try simp only [Act.put, List.setIfInBounds_toArray, List.set_cons_zero, List.set_cons_succ]
  refine wpAny_take (i := 9) (oi := { dst := some 15, op := Op.move (Operand.tmp 1), type := 3, pos := "merges.go:36", after := #[], guard := none }) (v := ?_) rfl (by kernel_rfl) (by kernel_rfl) (by kernel_rfl) (fun _ _ _ h => h) (Or.inl ⟨by rfl, ?_⟩) ?_
  rotate_left
  · (intro w; go_simp); (first | done | with_reducible rfl)
  try simp only [Act.put, List.setIfInBounds_toArray, List.set_cons_zero, List.set_cons_succ]
  refine wpAny_take (i := 10) (oi := { dst := some 16, op := Op.indexAddr 148 (Operand.tmp 14) (Operand.tmp 15), type := 0, pos := "merges.go:36", after := #[{ on := 8, ground := Ground.data }, { on := 9, ground := Ground.data }], guard := none }) (v := ?_) rfl (by kernel_rfl) (by kernel_rfl) (by kernel_rfl) (fun _ _ _ h => h) (Or.inl ⟨by rfl, ?_⟩) ?_
  rotate_left
  · (intro w; go_simp); (first | done | with_reducible rfl)
  try simp only [Act.put, List.setIfInBounds_toArray, List.set_cons_zero, List.set_cons_succ]
  refine wpAny_ready (rs := [7, 11]) (by kernel_rfl) (by simp) ?_
  refine AllReady.cons (o := { dst := some 13, op := Op.load 181 (Operand.tmp 12), type := 181, pos := "merges.go:36", after := #[{ on := 6, ground := Ground.data }], guard := none }) rfl (fun K hK => ?_) (AllReady.cons (o := { dst := some 17, op := Op.load 181 (Operand.tmp 16), type := 181, pos := "merges.go:36", after := #[{ on := 10, ground := Ground.data }], guard := none }) rfl (fun K hK => ?_) AllReady.nil)
  go_simp
  refine hK _ _ ?_
  clear hK K
  try simp only [Act.put, List.setIfInBounds_toArray, List.set_cons_zero, List.set_cons_succ]
  refine wpAny_ready (rs := [11]) (by kernel_rfl) (by simp) ?_
  refine AllReady.cons (o := { dst := some 17, op := Op.load 181 (Operand.tmp 16), type := 181, pos := "merges.go:36", after := #[{ on := 10, ground := Ground.data }], guard := none }) rfl (fun K hK => ?_) AllReady.nil
  go_simp
  refine hK _ _ ?_
  clear hK K
  try simp only [Act.put, List.setIfInBounds_toArray, List.set_cons_zero, List.set_cons_succ]
  refine wpAny_take (i := 12) (oi := { dst := some 18, op := Op.indexAddr 148 (Operand.tmp 6) (Operand.tmp 7), type := 0, pos := "merges.go:36", after := #[{ on := 0, ground := Ground.data }, { on := 1, ground := Ground.data }, { on := 0, ground := Ground.phase }, { on := 1, ground := Ground.phase }, { on := 2, ground := Ground.textOnly Departure.lateStores }, { on := 3, ground := Ground.textOnly Departure.lateStores }, { on := 4, ground := Ground.phase }, { on := 5, ground := Ground.phase }, { on := 6, ground := Ground.phase }, { on := 7, ground := Ground.phase }, { on := 8, ground := Ground.textOnly Departure.lateStores }, { on := 9, ground := Ground.textOnly Departure.lateStores }, { on := 10, ground := Ground.textOnly Departure.lateStoresUnsure }, { on := 11, ground := Ground.phase }], guard := none }) (v := ?_) rfl (by kernel_rfl) (by kernel_rfl) (by kernel_rfl) (fun _ _ _ h => h) (Or.inl ⟨by rfl, ?_⟩) ?_
  rotate_left
  · (intro w; go_simp); (first | done | with_reducible rfl)
  try simp only [Act.put, List.setIfInBounds_toArray, List.set_cons_zero, List.set_cons_succ]
  refine wpAny_ready (rs := [13]) (by kernel_rfl) (by simp) ?_
  refine AllReady.cons (o := { dst := none, op := Op.store 181 (Operand.tmp 18) (Operand.tmp 13), type := 0, pos := "merges.go:36", after := #[{ on := 12, ground := Ground.data }, { on := 7, ground := Ground.data }, { on := 0, ground := Ground.phase }, { on := 1, ground := Ground.phase }, { on := 2, ground := Ground.textOnly Departure.lateStores }, { on := 3, ground := Ground.textOnly Departure.lateStores }, { on := 4, ground := Ground.phase }, { on := 5, ground := Ground.phase }, { on := 6, ground := Ground.phase }, { on := 7, ground := Ground.phase }, { on := 8, ground := Ground.textOnly Departure.lateStores }, { on := 9, ground := Ground.textOnly Departure.lateStores }, { on := 10, ground := Ground.textOnly Departure.lateStoresUnsure }, { on := 11, ground := Ground.phase }], guard := none }) rfl (fun K hK => ?_) AllReady.nil
  go_simp
  refine hK _ _ ?_
  clear hK K
  try simp only [Act.put, List.setIfInBounds_toArray, List.set_cons_zero, List.set_cons_succ]
  refine wpAny_take (i := 14) (oi := { dst := some 19, op := Op.indexAddr 148 (Operand.tmp 8) (Operand.tmp 9), type := 0, pos := "merges.go:36", after := #[{ on := 2, ground := Ground.data }, { on := 3, ground := Ground.data }, { on := 0, ground := Ground.phase }, { on := 1, ground := Ground.phase }, { on := 2, ground := Ground.phase }, { on := 3, ground := Ground.phase }, { on := 4, ground := Ground.phase }, { on := 5, ground := Ground.phase }, { on := 6, ground := Ground.phase }, { on := 7, ground := Ground.phase }, { on := 8, ground := Ground.phase }, { on := 9, ground := Ground.phase }, { on := 10, ground := Ground.phase }, { on := 11, ground := Ground.phase }, { on := 12, ground := Ground.phase }, { on := 13, ground := Ground.phase }], guard := none }) (v := ?_) rfl (by kernel_rfl) (by kernel_rfl) (by kernel_rfl) (fun _ _ _ h => h) (Or.inl ⟨by rfl, ?_⟩) ?_
  rotate_left
  · (intro w; go_simp); (first | done | with_reducible rfl)
  try simp only [Act.put, List.setIfInBounds_toArray, List.set_cons_zero, List.set_cons_succ]
  refine wpAny_ready (rs := [15]) (by kernel_rfl) (by simp) ?_
  refine AllReady.cons (o := { dst := none, op := Op.store 181 (Operand.tmp 19) (Operand.tmp 17), type := 0, pos := "merges.go:36", after := #[{ on := 14, ground := Ground.data }, { on := 11, ground := Ground.data }, { on := 13, ground := Ground.chain }, { on := 0, ground := Ground.phase }, { on := 1, ground := Ground.phase }, { on := 2, ground := Ground.phase }, { on := 3, ground := Ground.phase }, { on := 4, ground := Ground.phase }, { on := 5, ground := Ground.phase }, { on := 6, ground := Ground.phase }, { on := 7, ground := Ground.phase }, { on := 8, ground := Ground.phase }, { on := 9, ground := Ground.phase }, { on := 10, ground := Ground.phase }, { on := 11, ground := Ground.phase }, { on := 12, ground := Ground.phase }, { on := 13, ground := Ground.phase }], guard := none }) rfl (fun K hK => ?_) AllReady.nil
  go_simp
  refine hK _ _ ?_
  clear hK K
  try simp only [Act.put, List.setIfInBounds_toArray, List.set_cons_zero, List.set_cons_succ]
  refine wpAny_done (by kernel_rfl) ?_ _
  rotate_left
  go_simp
  refine hK _ _ ?_
  clear hK K
  try simp only [Act.put, List.setIfInBounds_toArray, List.set_cons_zero, List.set_cons_succ]
  refine wpAny_ready (rs := [7]) (by kernel_rfl) (by simp) ?_
  refine AllReady.cons (o := { dst := some 13, op := Op.load 181 (Operand.tmp 12), type := 181, pos := "merges.go:36", after := #[{ on := 6, ground := Ground.data }], guard := none }) rfl (fun K hK => ?_) AllReady.nil
  go_simp
  refine hK _ _ ?_
  clear hK K
  try simp only [Act.put, List.setIfInBounds_toArray, List.set_cons_zero, List.set_cons_succ]
  refine wpAny_take (i := 12) (oi := { dst := some 18, op := Op.indexAddr 148 (Operand.tmp 6) (Operand.tmp 7), type := 0, pos := "merges.go:36", after := #[{ on := 0, ground := Ground.data }, { on := 1, ground := Ground.data }, { on := 0, ground := Ground.phase }, { on := 1, ground := Ground.phase }, { on := 2, ground := Ground.textOnly Departure.lateStores }, { on := 3, ground := Ground.textOnly Departure.lateStores }, { on := 4, ground := Ground.phase }, { on := 5, ground := Ground.phase }, { on := 6, ground := Ground.phase }, { on := 7, ground := Ground.phase }, { on := 8, ground := Ground.textOnly Departure.lateStores }, { on := 9, ground := Ground.textOnly Departure.lateStores }, { on := 10, ground := Ground.textOnly Departure.lateStoresUnsure }, { on := 11, ground := Ground.phase }], guard := none }) (v := ?_) rfl (by kernel_rfl) (by kernel_rfl) (by kernel_rfl) (fun _ _ _ h => h) (Or.inl ⟨by rfl, ?_⟩) ?_
  rotate_left
  · (intro w; go_simp); (first | done | with_reducible rfl)
  try simp only [Act.put, List.setIfInBounds_toArray, List.set_cons_zero, List.set_cons_succ]
  refine wpAny_ready (rs := [13]) (by kernel_rfl) (by simp) ?_
  refine AllReady.cons (o := { dst := none, op := Op.store 181 (Operand.tmp 18) (Operand.tmp 13), type := 0, pos := "merges.go:36", after := #[{ on := 12, ground := Ground.data }, { on := 7, ground := Ground.data }, { on := 0, ground := Ground.phase }, { on := 1, ground := Ground.phase }, { on := 2, ground := Ground.textOnly Departure.lateStores }, { on := 3, ground := Ground.textOnly Departure.lateStores }, { on := 4, ground := Ground.phase }, { on := 5, ground := Ground.phase }, { on := 6, ground := Ground.phase }, { on := 7, ground := Ground.phase }, { on := 8, ground := Ground.textOnly Departure.lateStores }, { on := 9, ground := Ground.textOnly Departure.lateStores }, { on := 10, ground := Ground.textOnly Departure.lateStoresUnsure }, { on := 11, ground := Ground.phase }], guard := none }) rfl (fun K hK => ?_) AllReady.nil
  go_simp
  refine hK _ _ ?_
  clear hK K
  try simp only [Act.put, List.setIfInBounds_toArray, List.set_cons_zero, List.set_cons_succ]
  refine wpAny_take (i := 14) (oi := { dst := some 19, op := Op.indexAddr 148 (Operand.tmp 8) (Operand.tmp 9), type := 0, pos := "merges.go:36", after := #[{ on := 2, ground := Ground.data }, { on := 3, ground := Ground.data }, { on := 0, ground := Ground.phase }, { on := 1, ground := Ground.phase }, { on := 2, ground := Ground.phase }, { on := 3, ground := Ground.phase }, { on := 4, ground := Ground.phase }, { on := 5, ground := Ground.phase }, { on := 6, ground := Ground.phase }, { on := 7, ground := Ground.phase }, { on := 8, ground := Ground.phase }, { on := 9, ground := Ground.phase }, { on := 10, ground := Ground.phase }, { on := 11, ground := Ground.phase }, { on := 12, ground := Ground.phase }, { on := 13, ground := Ground.phase }], guard := none }) (v := ?_) rfl (by kernel_rfl) (by kernel_rfl) (by kernel_rfl) (fun _ _ _ h => h) (Or.inl ⟨by rfl, ?_⟩) ?_
  rotate_left
  · (intro w; go_simp); (first | done | with_reducible rfl)
  try simp only [Act.put, List.setIfInBounds_toArray, List.set_cons_zero, List.set_cons_succ]
  refine wpAny_ready (rs := [15]) (by kernel_rfl) (by simp) ?_
  refine AllReady.cons (o := { dst := none, op := Op.store 181 (Operand.tmp 19) (Operand.tmp 17), type := 0, pos := "merges.go:36", after := #[{ on := 14, ground := Ground.data }, { on := 11, ground := Ground.data }, { on := 13, ground := Ground.chain }, { on := 0, ground := Ground.phase }, { on := 1, ground := Ground.phase }, { on := 2, ground := Ground.phase }, { on := 3, ground := Ground.phase }, { on := 4, ground := Ground.phase }, { on := 5, ground := Ground.phase }, { on := 6, ground := Ground.phase }, { on := 7, ground := Ground.phase }, { on := 8, ground := Ground.phase }, { on := 9, ground := Ground.phase }, { on := 10, ground := Ground.phase }, { on := 11, ground := Ground.phase }, { on := 12, ground := Ground.phase }, { on := 13, ground := Ground.phase }], guard := none }) rfl (fun K hK => ?_) AllReady.nil
  go_simp
  refine hK _ _ ?_
  clear hK K
  try simp only [Act.put, List.setIfInBounds_toArray, List.set_cons_zero, List.set_cons_succ]
  refine wpAny_done (by kernel_rfl) ?_ _
  rotate_left
  all_goals
    go_end0
    exact ⟨rfl, rfl⟩

end Go.Proofs.YtnhljlmelbiljaaGreat

/- Layer 11: rows of heads that the call owns: two changed about, the last one taken off, one laid behind. -/
namespace Go.Proofs.YtnhljlmelbiljaaGreat
set_option linter.unusedVariables false
open Go Go.RowKit
attribute [local go_sem ↓] run_index_S
attribute [local go_sem] S_append S_extract

def hds (H : List M.Hd) : List Value := H.flatMap hdL
theorem hds_append (a b : List M.Hd) : hds (a ++ b) = hds a ++ hds b := by simp [hds]
theorem hds_one (c : M.Hd) : hds [c] = hdL c := by simp [hds]
theorem hds_cons (m : M.Hd) (t : List M.Hd) : hds (m :: t) = hdL m ++ hds t := by simp [hds]
theorem hds_length (L : List M.Hd) : (hds L).length = L.length * 5 := by
  induction L with
  | nil => rfl
  | cons m t ih => rw [hds_cons, List.length_append, List.length_cons, ih]; simp [hdL]; omega
theorem hds_get (L : List M.Hd) (j i : Nat) (hj : j < L.length) (hi : i < 5) : (hds L)[j * 5 + i]? = (hdL (M.hAt L j))[i]? := by
  induction L generalizing j with
  | nil => simp at hj
  | cons m t ih =>
    rw [hds_cons]
    cases j with
    | zero => rw [List.getElem?_append_left (by simp [hdL]; omega)]; simp [M.hAt]
    | succ j =>
      rw [List.getElem?_append_right (by simp [hdL]; omega), show (j + 1) * 5 + i - (hdL m).length = j * 5 + i from by simp [hdL]; omega, ih j (by simpa using hj)]
      simp [M.hAt]
theorem hdL_oneC (c : M.Hd) : ∀ u ∈ hdL c, u.oneCell' = true := by simp [hdL, Value.oneCell']
theorem hds_set (H : List M.Hd) (i : Nat) (x : M.Hd) (hi : i < H.length) : (((((hds H).set (i * 5) (.string (S x.c.key))).set (i * 5 + 1) (.int .i64 x.c.seq)).set (i * 5 + 2) (.string (S x.c.val))).set (i * 5 + 3) (.slice x.o x.b.length x.k)).set (i * 5 + 4) (.int .i64 x.r) = hds (H.set i x) := by
  induction H generalizing i with
  | nil => simp at hi
  | cons m t ih =>
    cases i with
    | zero => simp [hds, hdL]
    | succ i =>
      have ih := ih i (by simpa using hi)
      rw [List.set_cons_succ, hds_cons, hds_cons, ← ih]
      have e : ∀ (k : Nat) (v : Value) (T : List Value), (hdL m ++ T).set ((i + 1) * 5 + k) v = hdL m ++ T.set (i * 5 + k) v := fun k v T => by
        rw [List.set_append, if_neg (by simp [hdL]; omega), show (i + 1) * 5 + k - (hdL m).length = i * 5 + k from by simp [hdL]; omega]
      have e0 := fun v T => e 0 v T
      simp only [Nat.add_zero] at e0
      rw [e0, e, e, e, e]
theorem hdOff_own {w : World} {B g n cap : Nat} {H : List M.Hd} (h : w.ownsRow B 181 5 (.slice (some ⟨g, 0, none⟩) n cap) n (hds H)) (hn : H.length = n) {j : Nat} (hj : j < n) : HdOff (M.hAt H j) w g (j * 5) := by
  have k := fun i (hi : i < 5) => (h.cellAt (j * 5 + i) (by omega)).trans (hds_get H j i (by omega) hi)
  exact ⟨k 0 (by omega), k 1 (by omega), k 2 (by omega), k 3 (by omega), k 4 (by omega)⟩
theorem roomH_own {w : World} {B g n cap : Nat} {xs : List Value} (h : w.ownsRow B 181 5 (.slice (some ⟨g, 0, none⟩) n cap) n xs) : RoomH (n * 5) w g := by
  rcases h.2 with ⟨h0, _⟩ | ⟨g', cap', cur, hv, hb, hg, hn, hc, hs, _⟩
  · cases h0
  · cases hv
    exact ⟨cur, hg, by rw [hs]; omega⟩
theorem store5_own {w : World} {B g n cap i : Nat} {H : List M.Hd} (h : w.ownsRow B 181 5 (.slice (some ⟨g, 0, none⟩) n cap) n (hds H)) (hn : H.length = n) (hi : i < n) (x : M.Hd) :
    (store5 w g (i * 5) x).ownsRow B 181 5 (.slice (some ⟨g, 0, none⟩) n cap) n (hds (H.set i x)) ∧ w.grownBy (store5 w g (i * 5) x) (some g) := by
  obtain ⟨a0, b0⟩ := h.stored (i * 5) (.string (S x.c.key))
  obtain ⟨a1, b1⟩ := a0.stored (i * 5 + 1) (.int .i64 x.c.seq)
  obtain ⟨a2, b2⟩ := a1.stored (i * 5 + 2) (.string (S x.c.val))
  obtain ⟨a3, b3⟩ := a2.stored (i * 5 + 3) (.slice x.o x.b.length x.k)
  obtain ⟨a4, b4⟩ := a3.stored (i * 5 + 4) (.int .i64 x.r)
  rw [hds_set H i x (by omega)] at a4
  exact ⟨a4, (((b0.trans b1).trans b2).trans b3).trans b4⟩
theorem grown_drew11 {w w' : World} {row : Option Nat} (h : w.grownBy w' row) : w.grownBy w'.drew row := ⟨h.os, h.tape, h.output, h.size, h.block⟩
/-- Swap, of a row that the call owns. -/
theorem swap11_own (w : World) (B g n cap i j : Nat) (H : List M.Hd) (hi : i < n) (hj : j < n) (hn : n ≤ 1000000) (hl : H.length = n) (h : w.ownsRow B 181 5 (.slice (some ⟨g, 0, none⟩) n cap) n (hds H)) :
    Calls Tryz.prog 167 #[.slice (some ⟨g, 0, none⟩) n cap, .int .i64 i, .int .i64 j] w fun e w' => e = .returned (.tuple #[]) ∧ w'.ownsRow B 181 5 (.slice (some ⟨g, 0, none⟩) n cap) n (hds (M.hSw H i j)) ∧ w.grownBy w' (some g) := by
  have hx := hdOff_own h hl hi
  have hy := hdOff_own h hl hj
  by_cases e : i = j
  · subst e
    refine (swap11_eq w g n cap i (M.hAt H i) hi hn (roomH_own h) hx).mono ?_
    rintro e w' ⟨rfl, rfl⟩
    obtain ⟨a, b⟩ := store5_own h hl hi (M.hAt H i)
    obtain ⟨a', b'⟩ := store5_own a (by simpa using hl) hi (M.hAt H i)
    exact ⟨rfl, by unfold M.hSw; exact a'.drew, grown_drew11 (b.trans b')⟩
  · refine (swap11_ne w g n cap i j (M.hAt H i) (M.hAt H j) hi hj e hn (roomH_own h) hx hy).mono ?_
    rintro e w' ⟨rfl, rfl⟩
    obtain ⟨a, b⟩ := store5_own h hl hi (M.hAt H j)
    obtain ⟨a', b'⟩ := store5_own a (by simpa using hl) hj (M.hAt H i)
    exact ⟨rfl, by unfold M.hSw; exact a'.drew, grown_drew11 (b.trans b')⟩

end Go.Proofs.YtnhljlmelbiljaaGreat

/- Layer 11: the heap through its interface: which method is meant; up, by a contract. -/
namespace Go.Proofs.YtnhljlmelbiljaaGreat
set_option linter.unusedVariables false
open Go Go.RowKit
attribute [local go_sem ↓] run_index_S
attribute [local go_sem] S_append S_extract

set_option maxRecDepth 100000 in
theorem find_m11 {nm : String} {k : Option (Nat × Bool)} (h : (Array.find? (fun x => x.name == nm) Tryz.t179.methods).map (fun m => (m.path, m.func)) = some (#[], k)) : ∃ m, Array.find? (fun x => x.name == nm) Tryz.t179.methods = some m ∧ m.path = #[] ∧ m.func = k := by
  cases hq : Array.find? (fun x => x.name == nm) Tryz.t179.methods with
  | none => rw [hq] at h; cases h
  | some m =>
    rw [hq] at h
    simp at h
    exact ⟨m, rfl, h.1, h.2⟩
set_option maxRecDepth 100000 in
/-- (326: how many types there are, and 100.) -/
theorem types_size11 : Tryz.prog.types.size + 100 = 326 := by kernel_rfl
theorem wrap_ok11 (P : Program) (a : Array TypeId) (t : TypeId) (p : Addr) (x y : String) (w : World) : (Builtin.ssaWrapNilChk_ a t #[.pointer (some p), strVal x, strVal y]).run P w = .ok (.pointer (some p)) w := rfl
set_option maxRecDepth 100000 in
theorem meth_val11 (nm : String) (f : Nat) (hf : (Array.find? (fun x => x.name == nm) Tryz.t179.methods).map (fun m => (m.path, m.func)) = some (#[], some (f, false))) (w : World) (bi : Nat) (ao : Option Addr) (n cap : Nat) (h : w.cell? ⟨bi, 0, none⟩ = some (.slice ao n cap)) : Sem.run Tryz.prog (method (Tryz.prog.types.size + 100) 179 (.pointer (some ⟨bi, 0, none⟩)) nm) w = .ok (f, .slice ao n cap) w := by
  obtain ⟨m, hm, hp, hfn⟩ := find_m11 hf
  unfold method
  go_simp
  unfold follow
  go_simp
  unfold receiverAt
  go_simp
  unfold Place.get
  go_simp
  simp only [wrap_ok11]
  go_simp
set_option maxRecDepth 100000 in
theorem meth_less11 {w : World} {bi : Nat} {ao : Option Addr} {n cap : Nat} (h : w.cell? ⟨bi, 0, none⟩ = some (.slice ao n cap)) : Sem.run Tryz.prog (method 326 179 (.pointer (some ⟨bi, 0, none⟩)) "Less") w = .ok (166, .slice ao n cap) w := types_size11 ▸ meth_val11 "Less" 166 (by kernel_rfl) w bi ao n cap h
set_option maxRecDepth 100000 in
theorem meth_swap11 {w : World} {bi : Nat} {ao : Option Addr} {n cap : Nat} (h : w.cell? ⟨bi, 0, none⟩ = some (.slice ao n cap)) : Sem.run Tryz.prog (method 326 179 (.pointer (some ⟨bi, 0, none⟩)) "Swap") w = .ok (167, .slice ao n cap) w := types_size11 ▸ meth_val11 "Swap" 167 (by kernel_rfl) w bi ao n cap h
set_option maxRecDepth 100000 in
theorem meth_len11 {w : World} {bi : Nat} {ao : Option Addr} {n cap : Nat} (h : w.cell? ⟨bi, 0, none⟩ = some (.slice ao n cap)) : Sem.run Tryz.prog (method 326 179 (.pointer (some ⟨bi, 0, none⟩)) "Len") w = .ok (165, .slice ao n cap) w := types_size11 ▸ meth_val11 "Len" 165 (by kernel_rfl) w bi ao n cap h
set_option maxRecDepth 100000 in
theorem meth_push11 (w : World) (bi : Nat) : Sem.run Tryz.prog (method 326 179 (.pointer (some ⟨bi, 0, none⟩)) "Push") w = .ok (169, .pointer (some ⟨bi, 0, none⟩)) w := by kernel_rfl
set_option maxRecDepth 100000 in
theorem meth_pop11 (w : World) (bi : Nat) : Sem.run Tryz.prog (method 326 179 (.pointer (some ⟨bi, 0, none⟩)) "Pop") w = .ok (168, .pointer (some ⟨bi, 0, none⟩)) w := by kernel_rfl

/-- A heap behind a pointer: the box, and the row. -/
structure Hv (B bi g n cap : Nat) (H : List M.Hd) (w : World) : Prop where
  cell : w.cell? ⟨bi, 0, none⟩ = some (.slice (some ⟨g, 0, none⟩) n cap)
  own : w.ownsRow B 181 5 (.slice (some ⟨g, 0, none⟩) n cap) n (hds H)
  len : H.length = n
  ne : bi ≠ g
theorem Hv.grown {B bi g n cap : Nat} {H H' : List M.Hd} {w w' : World} (h : Hv B bi g n cap H w) (ho : w'.ownsRow B 181 5 (.slice (some ⟨g, 0, none⟩) n cap) n (hds H')) (hl : H'.length = n) (hg : w.grownBy w' (some g)) : Hv B bi g n cap H' w' :=
  ⟨hg.cell h.cell (by simp [h.ne]), ho, hl, h.ne⟩
theorem grown_below11 {w w' : World} {row : Option Nat} (h : Below w.heap.size w w') : w.grownBy w' row := ⟨h.os, h.tape, h.output, h.size, fun k hk _ => h.block k hk⟩
theorem own_below11 {B : Nat} {w w' : World} {e : TypeId} {sz n : Nat} {v : Value} {xs : List Value} (h : w.ownsRow B e sz v n xs) (hb : Below w.heap.size w w') : w'.ownsRow B e sz v n xs := h.kept (row := none) (grown_below11 hb) (by cases v.ownBlock <;> simp)
theorem Hv.below {B bi g n cap : Nat} {H : List M.Hd} {w w' : World} (h : Hv B bi g n cap H w) (hb : Below w.heap.size w w') : Hv B bi g n cap H w' :=
  h.grown (own_below11 h.own hb) h.len (grown_below11 hb)
theorem Hv.less {B bi g n cap i j : Nat} {H : List M.Hd} {w : World} (h : Hv B bi g n cap H w) (hn : n ≤ 1000000) (hi : i < n) (hj : j < n) :
    Calls Tryz.prog 166 #[.slice (some ⟨g, 0, none⟩) n cap, .int .i64 i, .int .i64 j] w fun e w' => e = .returned (.bool (M.hLess (M.hAt H i) (M.hAt H j))) ∧ Hv B bi g n cap H w' ∧ w.grownBy w' (some g) :=
  (less11_any w g n cap i j _ _ hi hj hn (hdOff_own h.own h.len hi) (hdOff_own h.own h.len hj)).mono fun e w' hh => ⟨hh.1, h.below hh.2, grown_below11 hh.2⟩
theorem Hv.swap {B bi g n cap i j : Nat} {H : List M.Hd} {w : World} (h : Hv B bi g n cap H w) (hn : n ≤ 1000000) (hi : i < n) (hj : j < n) :
    Calls Tryz.prog 167 #[.slice (some ⟨g, 0, none⟩) n cap, .int .i64 i, .int .i64 j] w fun e w' => e = .returned (.tuple #[]) ∧ Hv B bi g n cap (M.hSw H i j) w' ∧ w.grownBy w' (some g) :=
  (swap11_own w B g n cap i j H hi hj hn h.len h.own).mono fun e w' hh => ⟨hh.1, h.grown hh.2.1 (by rw [M.hSw_len]; exact h.len) hh.2.2, hh.2.2⟩

set_option maxHeartbeats 4000000 in
set_option maxRecDepth 100000 in
theorem up11_any (B bi g n cap j : Nat) (H : List M.Hd) (w : World) (hv : Hv B bi g n cap H w) (hj : j < n) (hn : n ≤ 1000000) (hu : M.UpI H n j) :
    Calls Tryz.prog 128 #[.iface 179 (.pointer (some ⟨bi, 0, none⟩)), .int .i64 j] w fun e w' => e = .returned (.tuple #[]) ∧ ∃ H', H'.Perm H ∧ M.Hp H' n ∧ Hv B bi g n cap H' w' ∧ w.grownBy w' (some g) := by
  have HU := Lib.hid hu
  have HV := Lib.hid hv
  clear hu hv
  go_enter Tryz.func128, Tryz.ntmps128
  go_wp2_with fail
  go_loopw [1] (fun vj wr => ∃ (j : Nat) (K : List M.Hd), vj = .int .i64 j ∧ j < n ∧ Hid (K.Perm H) ∧ Hid (M.UpI K n j) ∧ Hid (Hv B bi g n cap K wr) ∧ Hid (w.grownBy wr (some g))) (fun vj _ => (intOf vj).toNat)
  case atStart => exact ⟨j, H, rfl, hj, Lib.hid (List.Perm.refl _), HU, HV, Lib.hid (World.grownBy.refl _ _)⟩
  case round =>
    obtain ⟨k, K, rfl, hk, HP, HU, HV, HG⟩ := hrel
    have HL := fun hi => Lib.hid (HV.out.less (i := k) (j := (k - 1) / 2) hn hk hi)
    have m1 := meth_less11 HV.out.cell
    by_cases hk0 : k = 0
    · subst hk0
      go_wp2_with fail
      go_end0
      exact ⟨rfl, K, HP.out, HU.out.done (.inl rfl), HV.out, HG.out⟩
    · have hlt : (k - 1) / 2 < k := by omega
      have e1 : ((k : Int) - 1).tdiv 2 = (((k - 1) / 2 : Nat) : Int) := by rw [Int.tdiv_eq_ediv_of_nonneg (by omega)]; omega
      have hq : ((((k - 1) / 2 : Nat) : Int) == (k : Int)) = false := by simp; omega
      have HD := Lib.hid (fun q => HU.out.done (.inr q))
      have HST := Lib.hid (fun q => HU.out.step (by rw [HV.out.len]; exact Nat.le_refl n) (by omega) hk q)
      have HPS := Lib.hid ((M.hSw_perm (H := K) (a := (k - 1) / 2) (b := k) (by rw [HV.out.len]; omega) (by rw [HV.out.len]; omega)).trans HP.out)
      generalize (k - 1) / 2 = p at *
      have HL := HL (by omega)
      go_wp2_with fail
      with_reducible refine (HL.out).mono ?_
      rintro e w1 ⟨rfl, hv1, hg1⟩
      have HV1 := Lib.hid hv1
      have HG1 := Lib.hid (HG.out.trans hg1)
      clear hv1 hg1 HL
      have m2 := meth_swap11 HV1.out.cell
      have HS := Lib.hid (HV1.out.swap (i := p) (j := k) hn (by omega) hk)
      cases hb : M.hLess (M.hAt K k) (M.hAt K p) with
      | false =>
        have HD := Lib.hid (HD.out hb)
        clear hb
        go_wp2_with fail
        go_end0
        exact ⟨rfl, K, HP.out, HD.out, HV1.out, HG1.out⟩
      | true =>
        have HST := Lib.hid (HST.out hb)
        clear hb HD
        go_wp2_with fail
        with_reducible refine (HS.out).mono ?_
        rintro e w2 ⟨rfl, hv2, hg2⟩
        have HV2 := Lib.hid hv2
        have HG2 := Lib.hid (HG1.out.trans hg2)
        clear hv2 hg2
        go_wp2_with fail
        go_roundw
        · exact ⟨p, _, rfl, by omega, HPS, HST, HV2, HG2⟩
        · simp only [intOf, Int.toNat_natCast]; omega

end Go.Proofs.YtnhljlmelbiljaaGreat

/- Layer 11: the row behind the interface: a head laid behind, the last one taken off, by contracts. -/
namespace Go.Proofs.YtnhljlmelbiljaaGreat
set_option linter.unusedVariables false
open Go Go.RowKit
attribute [local go_sem ↓] run_index_S
attribute [local go_sem] S_append S_extract

theorem infoHd : (Tryz.prog.info? 181).map (fun i => (i.zero.map (fun z => z.cells.size), i.size, i.bytes)) = some (some 5, 5, 72) := by kernel_rfl
theorem infoHd_parts : ∃ (i0 : TypeInfo) (z : Value), Tryz.prog.info? 181 = some i0 ∧ i0.zero = some z ∧ i0.size = 5 ∧ i0.bytes = 72 ∧ z.cells.size = 5 := by
  have h := infoHd
  cases hi : Tryz.prog.info? 181 with
  | none => rw [hi] at h; cases h
  | some i0 =>
    rw [hi] at h
    cases hz : i0.zero with
    | none => simp [hz] at h
    | some z =>
      simp [hz] at h
      exact ⟨i0, z, rfl, hz, h.2.1, h.2.2, h.1⟩
/-- What an append of one head comes to. -/
theorem append_hd (w : World) (base : Nat) (t ty : TypeId) (ht : Tryz.prog.underlying t = some (.slice 181))
    (v : Value) (n : Nat) (xs : List Value) (ho : w.ownsRow base 181 5 v n xs) (x : M.Hd) (ad : Addr) (hx : ∀ j u, (hdL x)[j]? = some u → w.cell? (ad.add j) = some u) (h63 : n + 1 ≤ 1000000) (hbase : base ≤ w.heap.size) :
    ∃ v' w', (Builtin.append_ #[t, t] ty #[v, .slice (some ad) 1 1]).run Tryz.prog w = .ok v' w' ∧ w'.ownsRow base 181 5 v' (n + 1) (xs ++ hdL x) ∧ w.grownBy w' v.ownBlock ∧ (v'.ownBlock = v.ownBlock ∨ v'.ownBlock = some w.heap.size) := by
  obtain ⟨i, z, hi, hz, h1, h2, h3⟩ := infoHd_parts
  obtain ⟨v', w', hr, h5, h6, _, h7⟩ := run_append_own_at (P := Tryz.prog) w base t ty 181 i z 5 72 ht hi hz h1 h2 h3 (by decide) v n xs ho ad 1 1 (hdL x) rfl hx (hdL_oneC x) (by unfold maxLen; omega) (by omega) hbase
  exact ⟨v', w', hr, h5, h6, h7⟩
theorem wp_append_hd {w : World} {o : Oper} {a : Act} {K : Act → World → Prop} {Q : Exit → Act → World → Prop} (s y : Operand) (t : TypeId)
    (hop : o.op = .call { callee := .builtin .append, args := #[s, y], argTypes := #[t, t] })
    (base : Nat) (ht : Tryz.prog.underlying t = some (.slice 181))
    (v : Value) (n : Nat) (xs : List Value) (hv : a.eval s = v) (ho : w.ownsRow base 181 5 v n xs) (x : M.Hd) (ad : Addr) (hy : a.eval y = .slice (some ad) 1 1) (hx : ∀ j u, (hdL x)[j]? = some u → w.cell? (ad.add j) = some u) (h63 : n + 1 ≤ 1000000) (hbase : base ≤ w.heap.size)
    (h : ∀ v' w', w'.ownsRow base 181 5 v' (n + 1) (xs ++ hdL x) → w.grownBy w' v.ownBlock → (v'.ownBlock = v.ownBlock ∨ v'.ownBlock = some w.heap.size) → K (a.put o.dst v') w') :
    Oper.wp Tryz.prog o a w K Q := by
  obtain ⟨v', w', hrun, h5, h6, h7⟩ := append_hd w base t o.type ht v n xs ho x ad hx h63 hbase
  unfold Oper.wp execOp
  simp only [hop, resolve, invoke, builtin, Sem.run_bind, Sem.run_pure, Result.andThen_ok, List.map_toArray, List.map_cons, List.map_nil, hv, hy, hrun]
  exact h v' w' h5 h6 h7
theorem hd_new (w : World) (x : M.Hd) (T : TypeId) : ∀ j u, (hdL x)[j]? = some u → (w.alloc (.cells (hdA x) T)).cell? ((⟨w.heap.size, 0, none⟩ : Addr).add j) = some u := by
  intro j u h
  have hadd : (⟨w.heap.size, 0, none⟩ : Addr).add j = ⟨w.heap.size, j, none⟩ := by unfold Addr.add; split <;> simp_all
  rw [hadd, (rowIn_new _ T w).cell j]
  simpa [hdA, hdL] using h
/-- All blocks but two stay. -/
structure Two (a : Nat) (row : Option Nat) (w w' : World) : Prop where
  os : w'.os = w.os
  tape : w'.tape = w.tape
  output : w'.output = w.output
  size : w.heap.size ≤ w'.heap.size
  block : ∀ k, k < w.heap.size → k ≠ a → some k ≠ row → w'.heap[k]? = w.heap[k]?
theorem Two.refl (a : Nat) (row : Option Nat) (w : World) : Two a row w w := ⟨rfl, rfl, rfl, Nat.le_refl _, fun _ _ _ _ => rfl⟩
theorem Two.of {a : Nat} {row : Option Nat} {w w' : World} (h : w.grownBy w' row) : Two a row w w' := ⟨h.os, h.tape, h.output, h.size, fun k hk _ hr => h.block k hk hr⟩
theorem Two.below {a : Nat} {row : Option Nat} {w w' : World} (h : Below w.heap.size w w') : Two a row w w' := ⟨h.os, h.tape, h.output, h.size, fun k hk _ hr => h.block k hk⟩
theorem Two.trans {a : Nat} {r r' : Option Nat} {w w1 w2 : World} (h : Two a r w w1) (k : Two a r' w1 w2) (hr : ∀ q, r' = some q → r = some q ∨ w.heap.size ≤ q) : Two a r w w2 :=
  ⟨k.os.trans h.os, k.tape.trans h.tape, k.output.trans h.output, Nat.le_trans h.size k.size, fun q hq ha hne => (k.block q (Nat.lt_of_lt_of_le hq h.size) ha (fun e => by
    rcases hr q e.symm with e1 | e1
    · exact hne e1.symm
    · omega)).trans (h.block q hq ha hne)⟩
theorem Two.cell {a : Nat} {row : Option Nat} {w w' : World} (h : Two a row w w') {p : Addr} {v : Value} (hc : w.cell? p = some v) (h1 : p.block ≠ a) (h2 : some p.block ≠ row) : w'.cell? p = some v :=
  (World.cell?_of_block (h.block p.block (World.block_lt_of_cell? w p hc) h1 h2)).trans hc
theorem Two.toBelow {B a : Nat} {row : Option Nat} {w w' : World} (h : Two a row w w') (ha : B ≤ a) (hr : ∀ q, row = some q → B ≤ q) (hB : B ≤ w.heap.size) : Below B w w' :=
  ⟨h.os, h.tape, h.output, h.size, fun k hk => h.block k (by omega) (by omega) (fun e => by have := hr k e.symm; omega)⟩
theorem Two.set {a : Nat} {row : Option Nat} {w w' : World} (h : Two a row w w') {p : Addr} (hp : p.block = a) (v : Value) : Two a row w (w'.setCell p v) :=
  ⟨h.os, h.tape, h.output, by simpa using h.size, fun k hk ha hr => by rw [Below.heap_setCell _ _ _ _ (by rw [hp]; exact ha)]; exact h.block k hk ha hr⟩
/-- A box with a row of heads, or none. -/
structure Hq (B bi : Nat) (ao : Option Addr) (n cap : Nat) (H : List M.Hd) (w : World) : Prop where
  row : RowIn #[.slice ao n cap] 150 w bi
  own : w.ownsRow B 181 5 (.slice ao n cap) n (hds H)
  len : H.length = n
  base : B ≤ w.heap.size
theorem Hq.ne {B bi : Nat} {ao : Option Addr} {n cap : Nat} {H : List M.Hd} {w : World} (h : Hq B bi ao n cap H w) : ∀ q, (Value.slice ao n cap).ownBlock = some q → q ≠ bi := row_apart h.row h.own (by decide)
theorem Hq.hv {B bi : Nat} {ao : Option Addr} {n cap : Nat} {H : List M.Hd} {w : World} (h : Hq B bi ao n cap H w) (hn : 0 < n) : ∃ g, ao = some ⟨g, 0, none⟩ ∧ Hv B bi g n cap H w := by
  rcases h.own.2 with ⟨h0, e0⟩ | ⟨g, cap', cur, hv, _⟩
  · omega
  · cases hv
    refine ⟨g, rfl, h.row.cell 0, h.own, h.len, fun e => h.ne g rfl e.symm⟩
theorem Hq.grown {B bi : Nat} {ao : Option Addr} {n cap : Nat} {H H' : List M.Hd} {w w' : World} (h : Hq B bi ao n cap H w) (ho : w'.ownsRow B 181 5 (.slice ao n cap) n (hds H')) (hl : H'.length = n) (hg : w.grownBy w' (Value.slice ao n cap).ownBlock) : Hq B bi ao n cap H' w' :=
  ⟨(hg.block bi h.row.lt (fun e => h.ne bi e.symm rfl)).trans h.row, ho, hl, Nat.le_trans h.base hg.size⟩

theorem ty_heads11 : Tryz.prog.underlying 148 = some (.slice 181) := by kernel_rfl
def PushR (B bi : Nat) (ao : Option Addr) (n cap : Nat) (H : List M.Hd) (w : World) (e : Ending) (w' : World) : Prop :=
  e = .returned (.tuple #[]) ∧ ∃ ao' cap', Hq B bi ao' (n + 1) cap' H w' ∧ Two bi (Value.slice ao n cap).ownBlock w w' ∧ ∀ q, (Value.slice ao' (n + 1) cap').ownBlock = some q → (Value.slice ao n cap).ownBlock = some q ∨ w.heap.size ≤ q

end Go.Proofs.YtnhljlmelbiljaaGreat

/- Layer 11: a head laid behind the others, by a contract. -/
namespace Go.Proofs.YtnhljlmelbiljaaGreat
set_option linter.unusedVariables false
open Go Go.RowKit
attribute [local go_sem ↓] run_index_S
attribute [local go_sem] S_append S_extract

theorem push_row11 {B bi : Nat} {ao : Option Addr} {n cap : Nat} {H : List M.Hd} {w W wN : World} (h : Hq B bi ao n cap H w) (hW : Below w.heap.size w W) (hg : W.grownBy wN (Value.slice ao n cap).ownBlock) : RowIn #[.slice ao n cap] 150 wN bi :=
  (hg.block bi (Nat.lt_of_lt_of_le h.row.lt hW.size) (fun e => h.ne bi e.symm rfl)).trans (h.row.below hW)
theorem push_end11 {B bi : Nat} {ao ao' : Option Addr} {n cap cap' : Nat} {H : List M.Hd} {x : M.Hd} {w W wN : World} (h : Hq B bi ao n cap H w) (hW : Below w.heap.size w W) (ho : wN.ownsRow B 181 5 (.slice ao' (n + 1) cap') (n + 1) (hds H ++ hdL x)) (hg : W.grownBy wN (Value.slice ao n cap).ownBlock) (h7 : (Value.slice ao' (n + 1) cap').ownBlock = (Value.slice ao n cap).ownBlock ∨ (Value.slice ao' (n + 1) cap').ownBlock = some W.heap.size) :
    ∃ ao'' cap'', Hq B bi ao'' (n + 1) cap'' (H ++ [x]) (wN.setCell ⟨bi, 0, none⟩ (.slice ao' (n + 1) cap')) ∧ Two bi (Value.slice ao n cap).ownBlock w (wN.setCell ⟨bi, 0, none⟩ (.slice ao' (n + 1) cap')) ∧ ∀ q, (Value.slice ao'' (n + 1) cap'').ownBlock = some q → (Value.slice ao n cap).ownBlock = some q ∨ w.heap.size ≤ q := by
  have hr := push_row11 h hW hg
  have hne := row_apart hr ho (by decide)
  refine ⟨ao', cap', ⟨?_, ?_, ?_, ?_⟩, ?_, ?_⟩
  · exact hr.set 0 _
  · have e : hds (H ++ [x]) = hds H ++ hdL x := by rw [hds_append, hds_one]
    rw [e]
    exact ownsRow_setCell_other ho (fun e => hne bi e rfl) _
  · simp [h.len]
  · exact Nat.le_trans h.base (Nat.le_trans hW.size (Nat.le_trans hg.size (by simp)))
  · exact ((Two.below hW).trans (Two.of hg) (fun q e => .inl e)).set (p := ⟨bi, 0, none⟩) rfl _
  · intro q hq
    rcases h7 with e | e
    · exact .inl (e.symm.trans hq)
    · rw [e] at hq; injection hq with hq; subst hq; exact .inr hW.size
set_option maxRecDepth 100000 in
theorem ta11 (v : Value) (w : World) : Sem.run Tryz.prog (Instr.typeAssert (.iface 181 v) 20 181 false) w = .ok v w := by kernel_rfl
set_option maxHeartbeats 4000000 in
set_option maxRecDepth 100000 in
theorem push11_any (B bi : Nat) (ao : Option Addr) (n cap : Nat) (H : List M.Hd) (x : M.Hd) (w : World) (h : Hq B bi ao n cap H w) (hn : n + 1 ≤ 1000000) :
    Calls Tryz.prog 169 #[.pointer (some ⟨bi, 0, none⟩), .iface 181 (.agg (hdA x))] w (PushR B bi ao n cap (H ++ [x]) w) := by
  have HQ := Lib.hid h
  have h0 : w.cell? ⟨bi, 0, none⟩ = some (.slice ao n cap) := h.row.cell 0
  have h0a : (w.alloc (.cells (hdA x) 181)).cell? ⟨bi, 0, none⟩ = some (.slice ao n cap) := (h.row.more _).cell 0
  have hlt := h.row.lt
  have m1 : ¬ (bi = w.heap.size) := by omega
  have m2 : ¬ (w.heap.size = bi) := by omega
  have HW := Lib.hid (((Below.refl w.heap.size w).drew).alloc (Nat.le_refl _) (.cells (hdA x) 181))
  have HO := Lib.hid ((own_below11 h.own (Below.refl w.heap.size w).drew).alloc (.cells (hdA x) 181))
  have HB := Lib.hid (show B ≤ (w.drew.alloc (.cells (hdA x) 181)).heap.size from Nat.le_trans h.base HW.out.size)
  unfold PushR
  clear h hlt
  have hta := ta11
  have hsz : (hdA x).size = 5 := rfl
  have hf : Array.foldl (fun (cs : Array Value) (x : Value × Nat) => cs.setIfInBounds x.snd x.fst) #[Value.string { data := #[] }, Value.int IntKind.i64 0, Value.string { data := #[] }, Value.slice none 0 0, Value.int IntKind.i64 0] (hdA x).zipIdx 0 5 = hdA x := rfl
  go_enter Tryz.func169, Tryz.ntmps169
  go_wp2_with fail
  refine wp_region_any (by kernel_rfl) ?_
  change wpAny _ _ _ _ _ _ _ (World.drew _)
  refine wpAny_take (i := 0) (oi := { dst := some 4, op := Op.move (Operand.tmp 0), type := 179, pos := "merges.go:38", after := #[], guard := none }) (v := ?_) rfl (by kernel_rfl) (by kernel_rfl) (by kernel_rfl) (fun _ _ _ h => h) (Or.inl ⟨by rfl, ?_⟩) ?_
  rotate_left
  · (intro w; go_simp); (first | done | with_reducible rfl)
  try simp only [Act.put, List.setIfInBounds_toArray, List.set_cons_zero, List.set_cons_succ]
  refine wpAny_take (i := 1) (oi := { dst := some 5, op := Op.move (Operand.tmp 0), type := 179, pos := "merges.go:38", after := #[], guard := none }) (v := ?_) rfl (by kernel_rfl) (by kernel_rfl) (by kernel_rfl) (fun _ _ _ h => h) (Or.inl ⟨by rfl, ?_⟩) ?_
  rotate_left
  · (intro w; go_simp); (first | done | with_reducible rfl)
  try simp only [Act.put, List.setIfInBounds_toArray, List.set_cons_zero, List.set_cons_succ]
  refine wpAny_take (i := 2) (oi := { dst := some 6, op := Op.nilCheck (Operand.tmp 5), type := 0, pos := "merges.go:38", after := #[{ on := 1, ground := Ground.data }], guard := none }) (v := ?_) rfl (by kernel_rfl) (by kernel_rfl) (by kernel_rfl) (fun _ _ _ h => h) (Or.inl ⟨by rfl, ?_⟩) ?_
  rotate_left
  · (intro w; go_simp); (first | done | with_reducible rfl)
  try simp only [Act.put, List.setIfInBounds_toArray, List.set_cons_zero, List.set_cons_succ]
  refine wpAny_take (i := 4) (oi := { dst := some 8, op := Op.move (Operand.tmp 1), type := 20, pos := "merges.go:38", after := #[], guard := none }) (v := ?_) rfl (by kernel_rfl) (by kernel_rfl) (by kernel_rfl) (fun _ _ _ h => h) (Or.inl ⟨by rfl, ?_⟩) ?_
  rotate_left
  · (intro w; go_simp); (first | done | with_reducible rfl)
  try simp only [Act.put, List.setIfInBounds_toArray, List.set_cons_zero, List.set_cons_succ]
  refine wpAny_take (i := 5) (oi := { dst := some 9, op := Op.typeAssert (Operand.tmp 8) 20 181 false, type := 181, pos := "merges.go:38", after := #[{ on := 4, ground := Ground.data }], guard := none }) (v := ?_) rfl (by kernel_rfl) (by kernel_rfl) (by kernel_rfl) (fun _ _ _ h => h) (Or.inl ⟨by rfl, ?_⟩) ?_
  rotate_left
  · (intro w; go_simp); (first | done | with_reducible rfl)
  try simp only [Act.put, List.setIfInBounds_toArray, List.set_cons_zero, List.set_cons_succ]
  refine wpAny_ready (rs := [3, 6]) (by kernel_rfl) (by simp) ?_
  refine AllReady.cons (o := { dst := some 7, op := Op.load 148 (Operand.tmp 6), type := 148, pos := "merges.go:38", after := #[{ on := 2, ground := Ground.data }], guard := none }) rfl (fun K hK => ?_) (AllReady.cons (o := { dst := some 10, op := Op.buildSlice 148 1 #[(0, Operand.tmp 9)], type := 148, pos := "merges.go:38", after := #[{ on := 5, ground := Ground.data }], guard := none }) rfl (fun K hK => ?_) AllReady.nil)
  go_simp
  refine hK _ _ ?_
  clear hK K
  try simp only [Act.put, List.setIfInBounds_toArray, List.set_cons_zero, List.set_cons_succ]
  refine wpAny_ready (rs := [6]) (by kernel_rfl) (by simp) ?_
  refine AllReady.cons (o := { dst := some 10, op := Op.buildSlice 148 1 #[(0, Operand.tmp 9)], type := 148, pos := "merges.go:38", after := #[{ on := 5, ground := Ground.data }], guard := none }) rfl (fun K hK => ?_) AllReady.nil
  go_simp
  refine hK _ _ ?_
  clear hK K
  try simp only [Act.put, List.setIfInBounds_toArray, List.set_cons_zero, List.set_cons_succ]
  refine wpAny_ready (rs := [7]) (by kernel_rfl) (by simp) ?_
  refine AllReady.cons (o := { dst := some 11, op := Op.call { callee := Callee.builtin Builtin.append, args := #[Operand.tmp 7, Operand.tmp 10], argTypes := #[148, 148] }, type := 148, pos := "merges.go:38", after := #[{ on := 3, ground := Ground.data }, { on := 6, ground := Ground.data }], guard := none }) rfl (fun K hK => ?_) AllReady.nil
  refine wp_append_hd (.tmp 7) (.tmp 10) 148 rfl B ty_heads11 _ n (hds H) rfl HO.out x _ rfl (hd_new _ x _) hn HB.out ?_
  intro v' wN hown hg h7
  obtain ⟨ao', cap', rfl⟩ := ownP_shape hown
  have HN := Lib.hid (And.intro hown (And.intro hg h7))
  have HRN := Lib.hid (push_row11 HQ.out HW.out hg)
  clear hown hg h7
  have fz := HRN.out.free 0
  have hc0 : wN.cell? ⟨bi, 0, none⟩ = some (.slice ao n cap) := HRN.out.cell 0
  refine hK _ _ ?_
  clear hK K
  try simp only [Act.put, List.setIfInBounds_toArray, List.set_cons_zero, List.set_cons_succ]
  refine wpAny_take (i := 8) (oi := { dst := some 12, op := Op.nilCheck (Operand.tmp 4), type := 0, pos := "merges.go:38", after := #[{ on := 0, ground := Ground.data }, { on := 0, ground := Ground.phase }, { on := 1, ground := Ground.phase }, { on := 2, ground := Ground.phase }, { on := 3, ground := Ground.phase }, { on := 4, ground := Ground.phase }, { on := 5, ground := Ground.phase }, { on := 6, ground := Ground.phase }, { on := 7, ground := Ground.phase }], guard := none }) (v := ?_) rfl (by kernel_rfl) (by kernel_rfl) (by kernel_rfl) (fun _ _ _ h => h) (Or.inl ⟨by rfl, ?_⟩) ?_
  rotate_left
  · (intro w; go_simp); (first | done | with_reducible rfl)
  try simp only [Act.put, List.setIfInBounds_toArray, List.set_cons_zero, List.set_cons_succ]
  refine wpAny_ready (rs := [9]) (by kernel_rfl) (by simp) ?_
  refine AllReady.cons (o := { dst := none, op := Op.store 148 (Operand.tmp 12) (Operand.tmp 11), type := 0, pos := "merges.go:38", after := #[{ on := 8, ground := Ground.data }, { on := 7, ground := Ground.data }, { on := 7, ground := Ground.chain }, { on := 0, ground := Ground.phase }, { on := 1, ground := Ground.phase }, { on := 2, ground := Ground.phase }, { on := 3, ground := Ground.phase }, { on := 4, ground := Ground.phase }, { on := 5, ground := Ground.phase }, { on := 6, ground := Ground.phase }, { on := 7, ground := Ground.phase }], guard := none }) rfl (fun K hK => ?_) AllReady.nil
  go_simp
  refine hK _ _ ?_
  clear hK K
  try simp only [Act.put, List.setIfInBounds_toArray, List.set_cons_zero, List.set_cons_succ]
  refine wpAny_done (by kernel_rfl) ?_ _
  go_end0
  exact ⟨rfl, push_end11 HQ.out HW.out HN.out.1 HN.out.2.1 HN.out.2.2⟩
  go_simp
  refine hK _ _ ?_
  clear hK K
  try simp only [Act.put, List.setIfInBounds_toArray, List.set_cons_zero, List.set_cons_succ]
  refine wpAny_ready (rs := [3]) (by kernel_rfl) (by simp) ?_
  refine AllReady.cons (o := { dst := some 7, op := Op.load 148 (Operand.tmp 6), type := 148, pos := "merges.go:38", after := #[{ on := 2, ground := Ground.data }], guard := none }) rfl (fun K hK => ?_) AllReady.nil
  go_simp
  refine hK _ _ ?_
  clear hK K
  try simp only [Act.put, List.setIfInBounds_toArray, List.set_cons_zero, List.set_cons_succ]
  refine wpAny_ready (rs := [7]) (by kernel_rfl) (by simp) ?_
  refine AllReady.cons (o := { dst := some 11, op := Op.call { callee := Callee.builtin Builtin.append, args := #[Operand.tmp 7, Operand.tmp 10], argTypes := #[148, 148] }, type := 148, pos := "merges.go:38", after := #[{ on := 3, ground := Ground.data }, { on := 6, ground := Ground.data }], guard := none }) rfl (fun K hK => ?_) AllReady.nil
  refine wp_append_hd (.tmp 7) (.tmp 10) 148 rfl B ty_heads11 _ n (hds H) rfl HO.out x _ rfl (hd_new _ x _) hn HB.out ?_
  intro v' wN hown hg h7
  obtain ⟨ao', cap', rfl⟩ := ownP_shape hown
  have HN := Lib.hid (And.intro hown (And.intro hg h7))
  have HRN := Lib.hid (push_row11 HQ.out HW.out hg)
  clear hown hg h7
  have fz := HRN.out.free 0
  have hc0 : wN.cell? ⟨bi, 0, none⟩ = some (.slice ao n cap) := HRN.out.cell 0
  refine hK _ _ ?_
  clear hK K
  try simp only [Act.put, List.setIfInBounds_toArray, List.set_cons_zero, List.set_cons_succ]
  refine wpAny_take (i := 8) (oi := { dst := some 12, op := Op.nilCheck (Operand.tmp 4), type := 0, pos := "merges.go:38", after := #[{ on := 0, ground := Ground.data }, { on := 0, ground := Ground.phase }, { on := 1, ground := Ground.phase }, { on := 2, ground := Ground.phase }, { on := 3, ground := Ground.phase }, { on := 4, ground := Ground.phase }, { on := 5, ground := Ground.phase }, { on := 6, ground := Ground.phase }, { on := 7, ground := Ground.phase }], guard := none }) (v := ?_) rfl (by kernel_rfl) (by kernel_rfl) (by kernel_rfl) (fun _ _ _ h => h) (Or.inl ⟨by rfl, ?_⟩) ?_
  rotate_left
  · (intro w; go_simp); (first | done | with_reducible rfl)
  try simp only [Act.put, List.setIfInBounds_toArray, List.set_cons_zero, List.set_cons_succ]
  refine wpAny_ready (rs := [9]) (by kernel_rfl) (by simp) ?_
  refine AllReady.cons (o := { dst := none, op := Op.store 148 (Operand.tmp 12) (Operand.tmp 11), type := 0, pos := "merges.go:38", after := #[{ on := 8, ground := Ground.data }, { on := 7, ground := Ground.data }, { on := 7, ground := Ground.chain }, { on := 0, ground := Ground.phase }, { on := 1, ground := Ground.phase }, { on := 2, ground := Ground.phase }, { on := 3, ground := Ground.phase }, { on := 4, ground := Ground.phase }, { on := 5, ground := Ground.phase }, { on := 6, ground := Ground.phase }, { on := 7, ground := Ground.phase }], guard := none }) rfl (fun K hK => ?_) AllReady.nil
  go_simp
  refine hK _ _ ?_
  clear hK K
  try simp only [Act.put, List.setIfInBounds_toArray, List.set_cons_zero, List.set_cons_succ]
  refine wpAny_done (by kernel_rfl) ?_ _
  go_end0
  exact ⟨rfl, push_end11 HQ.out HW.out HN.out.1 HN.out.2.1 HN.out.2.2⟩

end Go.Proofs.YtnhljlmelbiljaaGreat

/- Layer 11: heap.down, by a contract. -/
namespace Go.Proofs.YtnhljlmelbiljaaGreat
set_option linter.unusedVariables false
open Go Go.RowKit
attribute [local go_sem ↓] run_index_S
attribute [local go_sem] S_append S_extract

set_option maxHeartbeats 4000000 in
set_option maxRecDepth 100000 in
theorem down11_any (B bi g n cap m : Nat) (H : List M.Hd) (w : World) (hv : Hv B bi g n cap H w) (hm : m ≤ n) (hn : n ≤ 1000000) (hu : M.DnI H m 0) :
    Calls Tryz.prog 129 #[.iface 179 (.pointer (some ⟨bi, 0, none⟩)), .int .i64 0, .int .i64 m] w fun e w' => (∃ b, e = .returned (.bool b)) ∧ ∃ H', H'.Perm H ∧ M.Hp H' m ∧ Hv B bi g n cap H' w' ∧ w.grownBy w' (some g) ∧ ∀ i, m ≤ i → M.hAt H' i = M.hAt H i := by
  have HU := Lib.hid hu
  have HV := Lib.hid hv
  clear hu hv
  go_enter Tryz.func129, Tryz.ntmps129
  go_wp2_with fail
  go_loopw [7] (fun vj wr => ∃ (k : Nat) (K : List M.Hd), vj = .int .i64 k ∧ k ≤ m ∧ Hid (K.Perm H) ∧ Hid (M.DnI K m k) ∧ Hid (Hv B bi g n cap K wr) ∧ Hid (w.grownBy wr (some g)) ∧ Hid (∀ i, m ≤ i → M.hAt K i = M.hAt H i)) (fun vj _ => m - (intOf vj).toNat)
  case atStart => exact ⟨0, H, rfl, Nat.zero_le _, Lib.hid (List.Perm.refl _), HU, HV, Lib.hid (World.grownBy.refl _ _), Lib.hid (fun _ _ => rfl)⟩
  case round =>
    obtain ⟨k, K, rfl, hk, HP, HD, HV, HG, HT⟩ := hrel
    have e1 : 2 * (k : Int) + 1 = ((2 * k + 1 : Nat) : Int) := by omega
    obtain ⟨c, hc⟩ : ∃ c, c = 2 * k + 1 := ⟨_, rfl⟩
    rw [← hc] at e1
    have hcb : c ≤ 3000000 := by omega
    by_cases hcm : m ≤ c
    · have d1 : decide (c < m) = false := by simp; omega
      have HP1 := Lib.hid (HD.out.done (fun i h0 hi hp => by omega))
      clear hc
      have hcn : ¬ (c < m) := by omega
      go_wp2_with fail
      go_ret
      exact ⟨⟨_, rfl⟩, K, HP.out, HP1.out, HV.out, HG.out, HT.out⟩
    · have d1 : decide (c < m) = true := by simp; omega
      have d2 : decide ((c : Int) < 0) = false := by simp
      have e2 : (c : Int) + 1 = ((c + 1 : Nat) : Int) := by omega
      obtain ⟨d, hd⟩ : ∃ d, d = c + 1 := ⟨_, rfl⟩
      rw [← hd] at e2
      have hdb : d ≤ 3000001 := by omega
      have HCD := Lib.hid (And.intro hc hd)
      clear hc hd
      by_cases h2 : d < m
      · have d3 : decide (d < m) = true := by simp; omega
        have HL := Lib.hid (HV.out.less (i := d) (j := c) hn (by omega) (by omega))
        have m1 := meth_less11 HV.out.cell
        go_wp2_with fail
        with_reducible refine (HL.out).mono ?_
        rintro e w1 ⟨rfl, hv1, hg1⟩
        have HV1 := Lib.hid hv1
        have HG1 := Lib.hid (HG.out.trans hg1)
        clear hv1 hg1 HL m1
        cases ha : M.hLess (M.hAt K d) (M.hAt K c) with
        | true =>
          obtain ⟨hc, hd⟩ := HCD.out
          have h0q : 0 < d := by omega
          have HPQ := Lib.hid (show (d - 1) / 2 = k from by omega)
          have HMIN := Lib.hid (show ∀ i, 0 < i → i < m → (i - 1) / 2 = k → M.hLess (M.hAt K i) (M.hAt K d) = false from fun i h0 hi hp => by
            rcases (by omega : i = c ∨ i = d) with e | e
            · rw [e]; exact M.hLess_le ha
            · rw [e]; exact M.hLess_irr _)
          clear ha hc hd
          have HC := Lib.hid (HV1.out.less (i := d) (j := k) hn (by omega) (by omega))
          have m3 := meth_less11 HV1.out.cell
          go_wp2_with fail
          with_reducible refine (HC.out).mono ?_
          rintro e w2 ⟨rfl, hv2, hg2⟩
          have HV2 := Lib.hid hv2
          have HG2 := Lib.hid (HG1.out.trans hg2)
          have m4 := meth_swap11 hv2.cell
          have HS := Lib.hid (hv2.swap (i := k) (j := d) hn (by omega) (by omega))
          clear hv2 hg2 m3
          cases hb : M.hLess (M.hAt K d) (M.hAt K k) with
          | false =>
            have HP1 := Lib.hid (HD.out.done (fun i h0 hi hp => M.hLe_trans hb (HMIN.out i h0 hi hp)))
            clear hb
            go_wp2_with fail
            go_ret
            exact ⟨⟨_, rfl⟩, K, HP.out, HP1.out, HV2.out, HG2.out, HT.out⟩
          | true =>
            have HST := Lib.hid (HD.out.step (by rw [HV1.out.len]; exact hm) h0q (by omega) HPQ.out HMIN.out hb)
            have HPS := Lib.hid ((M.hSw_perm (H := K) (a := k) (b := d) (by rw [HV1.out.len]; omega) (by rw [HV1.out.len]; omega)).trans HP.out)
            have HTS := Lib.hid (fun i (hi : m ≤ i) => show M.hAt (M.hSw K k d) i = M.hAt H i from by rw [M.hSw_at (by rw [HV1.out.len]; omega) (by rw [HV1.out.len]; omega), if_neg (by omega), if_neg (by omega)]; exact HT.out i hi)
            clear hb
            go_wp2_with fail
            with_reducible refine (HS.out).mono ?_
            rintro e w3 ⟨rfl, hv3, hg3⟩
            have HV3 := Lib.hid hv3
            have HG3 := Lib.hid (HG2.out.trans hg3)
            clear hv3 hg3
            go_wp2_with fail
            go_roundw
            · exact ⟨d, _, rfl, by omega, HPS, HST, HV3, HG3, HTS⟩
            · simp only [intOf, Int.toNat_natCast]; omega
        | false =>
          obtain ⟨hc, hd⟩ := HCD.out
          have h0q : 0 < c := by omega
          have HPQ := Lib.hid (show (c - 1) / 2 = k from by omega)
          have HMIN := Lib.hid (show ∀ i, 0 < i → i < m → (i - 1) / 2 = k → M.hLess (M.hAt K i) (M.hAt K c) = false from fun i h0 hi hp => by
            rcases (by omega : i = c ∨ i = d) with e | e
            · rw [e]; exact M.hLess_irr _
            · rw [e]; exact ha)
          clear ha hc hd
          have HC := Lib.hid (HV1.out.less (i := c) (j := k) hn (by omega) (by omega))
          have m3 := meth_less11 HV1.out.cell
          go_wp2_with fail
          with_reducible refine (HC.out).mono ?_
          rintro e w2 ⟨rfl, hv2, hg2⟩
          have HV2 := Lib.hid hv2
          have HG2 := Lib.hid (HG1.out.trans hg2)
          have m4 := meth_swap11 hv2.cell
          have HS := Lib.hid (hv2.swap (i := k) (j := c) hn (by omega) (by omega))
          clear hv2 hg2 m3
          cases hb : M.hLess (M.hAt K c) (M.hAt K k) with
          | false =>
            have HP1 := Lib.hid (HD.out.done (fun i h0 hi hp => M.hLe_trans hb (HMIN.out i h0 hi hp)))
            clear hb
            go_wp2_with fail
            go_ret
            exact ⟨⟨_, rfl⟩, K, HP.out, HP1.out, HV2.out, HG2.out, HT.out⟩
          | true =>
            have HST := Lib.hid (HD.out.step (by rw [HV1.out.len]; exact hm) h0q (by omega) HPQ.out HMIN.out hb)
            have HPS := Lib.hid ((M.hSw_perm (H := K) (a := k) (b := c) (by rw [HV1.out.len]; omega) (by rw [HV1.out.len]; omega)).trans HP.out)
            have HTS := Lib.hid (fun i (hi : m ≤ i) => show M.hAt (M.hSw K k c) i = M.hAt H i from by rw [M.hSw_at (by rw [HV1.out.len]; omega) (by rw [HV1.out.len]; omega), if_neg (by omega), if_neg (by omega)]; exact HT.out i hi)
            clear hb
            go_wp2_with fail
            with_reducible refine (HS.out).mono ?_
            rintro e w3 ⟨rfl, hv3, hg3⟩
            have HV3 := Lib.hid hv3
            have HG3 := Lib.hid (HG2.out.trans hg3)
            clear hv3 hg3
            go_wp2_with fail
            go_roundw
            · exact ⟨c, _, rfl, by omega, HPS, HST, HV3, HG3, HTS⟩
            · simp only [intOf, Int.toNat_natCast]; omega
      · have d3 : decide (d < m) = false := by simp; omega
        have HV1 := HV
        have HG1 := HG
        obtain ⟨hc, hd⟩ := HCD.out
        have h0q : 0 < c := by omega
        have HPQ := Lib.hid (show (c - 1) / 2 = k from by omega)
        have HMIN := Lib.hid (show ∀ i, 0 < i → i < m → (i - 1) / 2 = k → M.hLess (M.hAt K i) (M.hAt K c) = false from fun i h0 hi hp => by
          rcases (by omega : i = c ∨ i = d) with e | e
          · rw [e]; exact M.hLess_irr _
          · omega)
        clear hc hd
        have HC := Lib.hid (HV1.out.less (i := c) (j := k) hn (by omega) (by omega))
        have m3 := meth_less11 HV1.out.cell
        go_wp2_with fail
        with_reducible refine (HC.out).mono ?_
        rintro e w2 ⟨rfl, hv2, hg2⟩
        have HV2 := Lib.hid hv2
        have HG2 := Lib.hid (HG1.out.trans hg2)
        have m4 := meth_swap11 hv2.cell
        have HS := Lib.hid (hv2.swap (i := k) (j := c) hn (by omega) (by omega))
        clear hv2 hg2 m3
        cases hb : M.hLess (M.hAt K c) (M.hAt K k) with
        | false =>
          have HP1 := Lib.hid (HD.out.done (fun i h0 hi hp => M.hLe_trans hb (HMIN.out i h0 hi hp)))
          clear hb
          go_wp2_with fail
          go_ret
          exact ⟨⟨_, rfl⟩, K, HP.out, HP1.out, HV2.out, HG2.out, HT.out⟩
        | true =>
          have HST := Lib.hid (HD.out.step (by rw [HV1.out.len]; exact hm) h0q (by omega) HPQ.out HMIN.out hb)
          have HPS := Lib.hid ((M.hSw_perm (H := K) (a := k) (b := c) (by rw [HV1.out.len]; omega) (by rw [HV1.out.len]; omega)).trans HP.out)
          have HTS := Lib.hid (fun i (hi : m ≤ i) => show M.hAt (M.hSw K k c) i = M.hAt H i from by rw [M.hSw_at (by rw [HV1.out.len]; omega) (by rw [HV1.out.len]; omega), if_neg (by omega), if_neg (by omega)]; exact HT.out i hi)
          clear hb
          go_wp2_with fail
          with_reducible refine (HS.out).mono ?_
          rintro e w3 ⟨rfl, hv3, hg3⟩
          have HV3 := Lib.hid hv3
          have HG3 := Lib.hid (HG2.out.trans hg3)
          clear hv3 hg3
          go_wp2_with fail
          go_roundw
          · exact ⟨c, _, rfl, by omega, HPS, HST, HV3, HG3, HTS⟩
          · simp only [intOf, Int.toNat_natCast]; omega

end Go.Proofs.YtnhljlmelbiljaaGreat

/- Layer 11: Len and Pop of the row, heap.Push, heap.Pop, by contracts. -/
namespace Go.Proofs.YtnhljlmelbiljaaGreat
set_option linter.unusedVariables false
open Go Go.RowKit
attribute [local go_sem ↓] run_index_S
attribute [local go_sem] S_append S_extract

theorem len11_any (ao : Option Addr) (n cap : Nat) (w : World) :
    Calls Tryz.prog 165 #[.slice ao n cap] w fun e w' => e = .returned (.int .i64 n) ∧ w' = w := by
  go_enter Tryz.func165, Tryz.ntmps165
  go_wp2_with fail
  go_ret
  exact ⟨rfl, rfl⟩
theorem pop_end11 {B bi g m cap : Nat} {K : List M.Hd} {x : M.Hd} {w W : World} (h : Hq B bi (some ⟨g, 0, none⟩) (m + 1) cap (K ++ [x]) w) (hW : Below w.heap.size w W) :
    Hq B bi (some ⟨g, 0, none⟩) m cap K (W.setCell ⟨bi, 0, none⟩ (.slice (some ⟨g, 0, none⟩) m cap)) ∧ Two bi none w (W.setCell ⟨bi, 0, none⟩ (.slice (some ⟨g, 0, none⟩) m cap)) := by
  have hr := h.row.below hW
  have hne := h.ne
  have hl := h.len
  have ho := h.own
  rw [hds_append, hds_one] at ho
  have ho := own_below11 (ownsRow_pop (by rw [hds_length]; simp at hl; rw [hl]) ho) hW
  refine ⟨⟨hr.set 0 _, ownsRow_setCell_other ho (fun e => hne bi (by cases e; rfl) rfl) _, by simpa using hl, Nat.le_trans h.base (Nat.le_trans hW.size (by simp))⟩, (Two.below hW).set (p := ⟨bi, 0, none⟩) rfl _⟩
theorem own_cap11 {w : World} {B : Nat} {e : TypeId} {sz n cap : Nat} {ao : Option Addr} {xs : List Value} (h : w.ownsRow B e sz (.slice ao n cap) n xs) : n ≤ cap := by
  rcases h.2 with ⟨h0, e0⟩ | ⟨g, cap', cur, hv, _, _, hn, _⟩
  · cases h0; exact Nat.le_refl _
  · cases hv; exact hn
set_option maxHeartbeats 4000000 in
set_option maxRecDepth 100000 in
theorem popm11_any (B bi g m cap : Nat) (K : List M.Hd) (x : M.Hd) (w : World) (h : Hq B bi (some ⟨g, 0, none⟩) (m + 1) cap (K ++ [x]) w) (hm : m + 1 ≤ 1000000) :
    Calls Tryz.prog 168 #[.pointer (some ⟨bi, 0, none⟩)] w fun e w' => e = .returned (.iface 181 (.agg (hdA x))) ∧ Hq B bi (some ⟨g, 0, none⟩) m cap K w' ∧ Two bi none w w' := by
  have HQ := Lib.hid h
  have hx := hdOff_own h.own h.len (j := m) (by omega)
  have hl := h.len
  rw [show M.hAt (K ++ [x]) m = x from by simp at hl; simp [M.hAt, List.getD, ← hl]] at hx
  obtain ⟨x0, x1, x2, x3, x4⟩ := hx
  have h0 : w.cell? ⟨bi, 0, none⟩ = some (.slice (some ⟨g, 0, none⟩) (m + 1) cap) := h.row.cell 0
  have h0a : ∀ o, (w.alloc o).cell? ⟨bi, 0, none⟩ = some (.slice (some ⟨g, 0, none⟩) (m + 1) cap) := fun o => (h.row.more o).cell 0
  have fz := h.row.free 0
  have fza : ∀ o, (w.alloc o).frozen? ⟨bi, 0, none⟩ = false := fun o => (h.row.more o).free 0
  have hlt := h.row.lt
  have m1 : ¬ (bi = w.heap.size) := by omega
  have m2 : ¬ (w.heap.size = bi) := by omega
  have hcap := own_cap11 h.own
  have hcap2 : m ≤ cap := by omega
  have hcap3 : (m : Int) ≤ (cap : Int) := by omega
  have e1 : ((m + 1 : Nat) : Int) - 1 = (m : Int) := by omega
  have hi1 : (m : Int) < ((m + 1 : Nat) : Int) := by omega
  clear h hlt hl
  go_enter Tryz.func168, Tryz.ntmps168
  go_wp2_with fail
  go_ret
  exact ⟨rfl, pop_end11 HQ.out ((Below.refl _ _).alloc (Nat.le_refl _) _)⟩
theorem M.hAt_left {H : List M.Hd} {x : M.Hd} {i : Nat} (h : i < H.length) : M.hAt (H ++ [x]) i = M.hAt H i := by simp [M.hAt, List.getD, List.getElem?_append_left h]
theorem M.Hp.upI {H : List M.Hd} {x : M.Hd} {n : Nat} (h : M.Hp H n) (hl : H.length = n) : M.UpI (H ++ [x]) (n + 1) n := by
  refine ⟨fun i h0 hi hne => ?_, fun h0 i _ hi hp => by omega⟩
  rw [M.hAt_left (by omega), M.hAt_left (by omega)]
  exact h i h0 (by omega)
theorem M.Hp.dnI {H : List M.Hd} {m : Nat} (h : M.Hp H (m + 1)) (hl : H.length = m + 1) : M.DnI (M.hSw H 0 m) m 0 := by
  refine ⟨fun i h0 hi hne => ?_, fun h0 => by omega⟩
  rw [M.hSw_at (by omega) (by omega), M.hSw_at (by omega) (by omega), if_neg (by omega), if_neg (by omega), if_neg (by omega), if_neg (by omega)]
  exact h i h0 (by omega)
theorem M.split_last {H : List M.Hd} {m : Nat} (hl : H.length = m + 1) : H = H.take m ++ [M.hAt H m] := by
  have e : M.hAt H m = H[m] := by simp [M.hAt, List.getD, hl]
  rw [e, List.take_append_getElem]
  rw [← hl, List.take_length]
theorem M.Hp.take {H : List M.Hd} {m : Nat} (h : M.Hp H m) (hl : m ≤ H.length) : M.Hp (H.take m) m := fun i h0 hi => by
  have e : ∀ j, j < m → M.hAt (H.take m) j = M.hAt H j := fun j hj => by simp [M.hAt, List.getD, hj]
  rw [e i hi, e _ (by omega)]
  exact h i h0 hi
def HPushR (B bi : Nat) (ao : Option Addr) (n cap : Nat) (H : List M.Hd) (w : World) (e : Ending) (w' : World) : Prop :=
  e = .returned (.tuple #[]) ∧ ∃ ao' cap' K, K.Perm H ∧ M.Hp K (n + 1) ∧ Hq B bi ao' (n + 1) cap' K w' ∧ Two bi (Value.slice ao n cap).ownBlock w w' ∧ ∀ q, (Value.slice ao' (n + 1) cap').ownBlock = some q → (Value.slice ao n cap).ownBlock = some q ∨ w.heap.size ≤ q
set_option maxHeartbeats 4000000 in
set_option maxRecDepth 100000 in
theorem hpush11_any (B bi : Nat) (ao : Option Addr) (n cap : Nat) (H : List M.Hd) (x : M.Hd) (w : World) (h : Hq B bi ao n cap H w) (hn : n + 1 ≤ 1000000) (hp : M.Hp H n) :
    Calls Tryz.prog 112 #[.iface 179 (.pointer (some ⟨bi, 0, none⟩)), .iface 181 (.agg (hdA x))] w (HPushR B bi ao n cap (H ++ [x]) w) := by
  have HC := Lib.hid (push11_any B bi ao n cap H x w h hn)
  have HU := Lib.hid (hp.upI (x := x) h.len)
  have mp := meth_push11 w bi
  unfold HPushR
  clear h hp
  go_enter Tryz.func112, Tryz.ntmps112
  go_wp2_with fail
  with_reducible refine (HC.out).mono ?_
  rintro e w1 ⟨rfl, ao', cap', hq, htw, hb⟩
  have HQ := Lib.hid hq
  have HTW := Lib.hid (And.intro htw hb)
  obtain ⟨g, rfl, hv⟩ := hq.hv (by omega)
  have HUP := Lib.hid (up11_any B bi g (n + 1) cap' n (H ++ [x]) w1 hv (by omega) (by omega) HU.out)
  have ml := meth_len11 hv.cell
  have e1 : ((n + 1 : Nat) : Int) - 1 = (n : Int) := by omega
  have HL := Lib.hid (len11_any (some ⟨g, 0, none⟩) (n + 1) cap' w1)
  clear hq htw hb hv mp
  go_wp2_with fail
  with_reducible refine (HL.out).mono ?_
  rintro e w1' ⟨rfl, rfl⟩
  go_wp2_with fail
  with_reducible refine (HUP.out).mono ?_
  rintro e w2 ⟨rfl, K, hpm, hpp, hv2, hg2⟩
  have HE := Lib.hid (And.intro hpm (And.intro hpp (And.intro hv2 hg2)))
  clear hpm hpp hv2 hg2
  go_wp2_with fail
  go_end0
  obtain ⟨hpm, hpp, hv2, hg2⟩ := HE.out
  exact ⟨rfl, _, cap', K, hpm, hpp, HQ.out.grown hv2.own hv2.len hg2, HTW.out.1.trans (Two.of hg2) (fun q e => HTW.out.2 q e), HTW.out.2⟩
def HPopR (B bi g m cap : Nat) (H : List M.Hd) (w : World) (e : Ending) (w' : World) : Prop :=
  e = .returned (.iface 181 (.agg (hdA (M.hAt H 0)))) ∧ ∃ K, (M.hAt H 0 :: K).Perm H ∧ M.Hp K m ∧ Hq B bi (some ⟨g, 0, none⟩) m cap K w' ∧ Two bi (some g) w w'
set_option maxHeartbeats 4000000 in
set_option maxRecDepth 100000 in
theorem hpop11_any (B bi g m cap : Nat) (H : List M.Hd) (w : World) (h : Hq B bi (some ⟨g, 0, none⟩) (m + 1) cap H w) (hm : m + 1 ≤ 1000000) (hp : M.Hp H (m + 1)) :
    Calls Tryz.prog 113 #[.iface 179 (.pointer (some ⟨bi, 0, none⟩))] w (HPopR B bi g m cap H w) := by
  obtain ⟨g', eg, hv⟩ := h.hv (by omega)
  cases eg
  have hl := h.len
  have HQ := Lib.hid h
  have HD := Lib.hid (hp.dnI hl)
  have ml := meth_len11 hv.cell
  have ms := meth_swap11 hv.cell
  have e1 : ((m + 1 : Nat) : Int) - 1 = (m : Int) := by omega
  have HL := Lib.hid (len11_any (some ⟨g, 0, none⟩) (m + 1) cap w)
  have HS := Lib.hid (show Calls Tryz.prog 167 #[.slice (some ⟨g, 0, none⟩) (m + 1) cap, .int .i64 0, .int .i64 m] w _ from hv.swap (i := 0) (j := m) hm (by omega) (by omega))
  have HPM := Lib.hid (M.hSw_perm (H := H) (a := 0) (b := m) (by omega) (by omega))
  have HAT := Lib.hid (show M.hAt (M.hSw H 0 m) m = M.hAt H 0 from by rw [M.hSw_at (by omega) (by omega), if_pos rfl])
  unfold HPopR
  clear h hp hv hl
  go_enter Tryz.func113, Tryz.ntmps113
  go_wp2_with fail
  with_reducible refine (HL.out).mono ?_
  rintro e w0 ⟨rfl, rfl⟩
  go_wp2_with fail
  with_reducible refine (HS.out).mono ?_
  rintro e w1 ⟨rfl, hv1, hg1⟩
  have HG1 := Lib.hid hg1
  have HDN := Lib.hid (down11_any B bi g (m + 1) cap m (M.hSw H 0 m) w1 hv1 (by omega) hm HD.out)
  clear hv1 hg1 ml ms
  go_wp2_with fail
  with_reducible refine (HDN.out).mono ?_
  rintro e w2 ⟨⟨b, rfl⟩, K, hpm, hpp, hv2, hg2, hat⟩
  have hK := M.split_last hv2.len
  rw [hat m (Nat.le_refl _), HAT.out] at hK
  have HQ2 := HQ.out.grown (w' := w2) hv2.own hv2.len (HG1.out.trans hg2)
  have HTK := Lib.hid (hpp.take (by rw [hv2.len]; omega))
  have HPK := Lib.hid (hpm.trans HPM.out)
  rw [hK] at HQ2
  have HPK2 := Lib.hid (show (K.take m ++ [M.hAt H 0]).Perm H from hK ▸ HPK.out)
  have HC := Lib.hid (popm11_any B bi g m cap (K.take m) (M.hAt H 0) w2 HQ2 hm)
  have mp := meth_pop11 w2 bi
  have HG2 := Lib.hid (HG1.out.trans hg2)
  clear hpm hpp hv2 hg2 hat hK HQ2 HPK
  obtain ⟨x, hx⟩ : ∃ x, x = M.hAt H 0 := ⟨_, rfl⟩
  rw [← hx] at HPK2 HC
  have HX := Lib.hid hx
  clear hx
  go_wp2_with fail
  with_reducible refine (HC.out).mono ?_
  rintro e w3 ⟨rfl, hq3, ht3⟩
  have HE := Lib.hid (And.intro hq3 ht3)
  clear hq3 ht3 mp
  go_wp2_with fail
  go_ret
  have hx := HX.out
  subst hx
  exact ⟨rfl, K.take m, (List.perm_append_singleton _ (K.take m)).symm.trans HPK2.out, HTK.out, HE.out.1, (Two.of HG2.out).trans HE.out.2 (fun q e => by cases e)⟩

end Go.Proofs.YtnhljlmelbiljaaGreat
