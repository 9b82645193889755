/- Layer 11: rows of heads; which comes first, by a contract. -/
import Derived.Test.YthidmgnfdikppaaHeapM
import Derived.Test.YthidmgnfdikppaaZJ
import Derived.Deep.RegionHeld3
namespace Go.Proofs.Ythidmgnfdikppaa
set_option linter.unusedVariables false
open Go Go.RowKit
attribute [local go_sem ↓] run_index_S
attribute [local go_sem] S_append S_extract

/-- A head's cells. -/
def hdL (x : M.Hd) : List Value := [.string (S x.c.key), .int .i64 x.c.seq, .string (S x.c.val), .slice x.o x.b.length x.k, .int .i64 x.r]
def hdA (x : M.Hd) : Array Value := #[.string (S x.c.key), .int .i64 x.c.seq, .string (S x.c.val), .slice x.o x.b.length x.k, .int .i64 x.r]
/-- A head at a place. -/
structure HdOff (x : M.Hd) (w : World) (g o : Nat) : Prop where
  h0 : w.cell? ⟨g, o, none⟩ = some (.string (S x.c.key))
  h1 : w.cell? ⟨g, o + 1, none⟩ = some (.int .i64 x.c.seq)
  h2 : w.cell? ⟨g, o + 2, none⟩ = some (.string (S x.c.val))
  h3 : w.cell? ⟨g, o + 3, none⟩ = some (.slice x.o x.b.length x.k)
  h4 : w.cell? ⟨g, o + 4, none⟩ = some (.int .i64 x.r)
set_option maxHeartbeats 4000000 in
set_option maxRecDepth 100000 in
theorem less11_any (w : World) (g n cap i j : Nat) (x y : M.Hd) (hi : i < n) (hj : j < n) (hn : n ≤ 1000000) (hx : HdOff x w g (i * 5)) (hy : HdOff y w g (j * 5)) :
    Calls Try.prog 179 #[.slice (some ⟨g, 0, none⟩) n cap, .int .i64 i, .int .i64 j] w fun e w' => e = .returned (.bool (M.hLess x y)) ∧ Below w.heap.size w w' := by
  obtain ⟨x0, x1, x2, x3, x4⟩ := hx
  obtain ⟨y0, y1, y2, y3, y4⟩ := hy
  have hii : (i : Int) < (n : Int) := by omega
  have hji : (j : Int) < (n : Int) := by omega
  have HL : Hid (M.hLess x y = if x.c.key = y.c.key then (if x.c.seq = y.c.seq then decide (x.r < y.r) else decide (y.c.seq < x.c.seq)) else Op.bytesLess x.c.key y.c.key) := Lib.hid rfl
  generalize M.hLess x y = B at *
  have hg := block_lt_of_cell x0
  have m1 : ¬ (g = w.heap.size) := by simp at hg; omega
  have m2 : ¬ (w.heap.size = g) := by simp at hg; omega
  have m3 : ¬ (g = w.heap.size + 1) := by simp at hg; omega
  have m4 : ¬ (w.heap.size + 1 = g) := by simp at hg; omega
  have HG := Lib.hid hg
  clear hg
  have HB : Hid (∀ a b : Obj, Below w.heap.size w (((w.alloc a).alloc b).drew)) := Lib.hid (fun a b => (((Below.refl w.heap.size w).alloc (Nat.le_refl _) a).alloc (by have := ((Below.refl w.heap.size w).alloc (Nat.le_refl _) a).size; omega) b).drew)
  go_enter Try.func179, Try.ntmps179
  go_wp2_with fail
  go_region_held3 (fun W => W.cell? ⟨g, i * 5, none⟩ = some (.string (S x.c.key)) ∧ W.cell? ⟨g, i * 5 + 1, none⟩ = some (.int .i64 x.c.seq) ∧ W.cell? ⟨g, i * 5 + 2, none⟩ = some (.string (S x.c.val)) ∧ W.cell? ⟨g, i * 5 + 3, none⟩ = some (.slice x.o x.b.length x.k) ∧ W.cell? ⟨g, i * 5 + 4, none⟩ = some (.int .i64 x.r) ∧ W.cell? ⟨g, j * 5, none⟩ = some (.string (S y.c.key)) ∧ W.cell? ⟨g, j * 5 + 1, none⟩ = some (.int .i64 y.c.seq) ∧ W.cell? ⟨g, j * 5 + 2, none⟩ = some (.string (S y.c.val)) ∧ W.cell? ⟨g, j * 5 + 3, none⟩ = some (.slice y.o y.b.length y.k) ∧ W.cell? ⟨g, j * 5 + 4, none⟩ = some (.int .i64 y.r)) (go_keep) (fail)
  all_goals
    by_cases e1 : x.c.key = y.c.key
    · have f1 : (x.c.key == y.c.key) = true := by simpa using e1
      by_cases e2 : x.c.seq = y.c.seq
      · have f2 : (x.c.seq == y.c.seq) = true := by simpa using e2
        have f3 : (x.c.seq != y.c.seq) = false := by simpa using e2
        have HV := Lib.hid (show B = decide (x.r < y.r) from by rw [HL.out, if_pos e1, if_pos e2])
        clear e1 e2 HL
        go_wp2_with fail
        go_ret
        exact ⟨ret_bool HV.out.symm, HB.out _ _⟩
      · have f2 : (x.c.seq == y.c.seq) = false := by simpa using e2
        have f3 : (x.c.seq != y.c.seq) = true := by simpa using e2
        have HV := Lib.hid (show B = decide (y.c.seq < x.c.seq) from by rw [HL.out, if_pos e1, if_neg e2])
        clear e1 e2 HL
        go_wp2_with fail
        go_ret
        exact ⟨ret_bool HV.out.symm, HB.out _ _⟩
    · have f1 : (x.c.key == y.c.key) = false := by simpa using e1
      have HV := Lib.hid (show B = Op.bytesLess x.c.key y.c.key from by rw [HL.out, if_neg e1])
      clear e1 HL
      go_wp2_with fail
      go_ret
      exact ⟨ret_bool HV.out.symm, HB.out _ _⟩

end Go.Proofs.Ythidmgnfdikppaa
