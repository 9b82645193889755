/- Layer 21: a span's cells, the program's and the document's, by contracts. -/
import Derived.Test.YtjlddackpckmfaaRowsC
import Derived.Test.YtjlddackpckmfaaKeysC2
import Derived.Test.YtjlddackpckmfaaZC
import Derived.Test.YtjlddackpckmfaaZE
import Derived.Test.YtjlddackpckmfaaZF
namespace Go.Proofs.Ytjlddackpckmfaa
set_option linter.unusedVariables false
open Go Go.RowKit
attribute [local go_sem ↓] run_index_S
attribute [local go_sem] S_append S_extract

abbrev spA (x : M.Sp) : Array Value := #[.int .i64 x.trace, .int .i64 x.id, .int .i64 x.parent, .string (S x.svc), .string (S x.host), .int .i64 x.start, .int .i64 x.dur, .string (S x.note)]
abbrev c2A (x : M.Sp) : Array Value := #[.string (S (M.keyB x)), .int .i64 0, .string (S (M.enc x)), .string (S (M.idxK x)), .int .i64 0, .string (S [])]
/-- What 'Cells' comes to. -/
def CellsR (x : M.Sp) (w : World) (e : Ending) (w' : World) : Prop :=
  (M.mayB x = true ∧ ∃ g, e = .returned (.tuple #[.slice (some ⟨g, 0, none⟩) 2 2, .int .i64 0]) ∧ w.heap.size ≤ g ∧ RowIn (c2A x) 25 w' g ∧ Below w.heap.size w w') ∨
  (M.mayB x = false ∧ e = .returned (.tuple #[.slice none 0 0, .int .i64 2]) ∧ Below w.heap.size w w')

set_option maxHeartbeats 1000000 in
theorem cells_no (x : M.Sp) (hx : x.fits) (hm : M.mayB x = false) (w : World) :
    Calls Try.prog 11 #[.agg (spA x)] w fun e w' => CellsR x w e w' := by
  have C1 := Lib.hid (fun W => by have := encode_any x hx W; rw [hm] at this; exact this)
  have HB := Lib.hid ((Below.refl w.heap.size w).alloc (Nat.le_refl _) (.cells (spC x) 23))
  have HM := Lib.hid hm
  clear hm
  go_enter Try.func11, Try.ntmps11
  go_wp2_with fail
  with_reducible refine (C1.out _).mono ?_
  rintro e w1 ⟨rfl, hb1⟩
  have HB1 := Lib.hid (below_step HB.out hb1)
  clear hb1
  go_wp2_with fail
  go_ret2
  exact .inr ⟨HM.out, rfl, HB1.out⟩
set_option maxHeartbeats 1000000 in
set_option maxRecDepth 100000 in
theorem cells_yes (x : M.Sp) (hx : x.fits) (hm : M.mayB x = true) (w : World) :
    Calls Try.prog 11 #[.agg (spA x)] w fun e w' => CellsR x w e w' := by
  have C1 := Lib.hid (fun W => by have := encode_any x hx W; rw [hm] at this; exact this)
  have C2 := Lib.hid (fun W => by have := of_any x.trace x.id W; rw [M.okOf_may hm] at this; exact this)
  have C3 := Lib.hid (fun W => by have := index_any x hx W; rw [hm] at this; exact this)
  have HA := Lib.hid (rowIn_new (spA x) 23 w)
  have HB := Lib.hid ((Below.refl w.heap.size w).alloc (Nat.le_refl _) (.cells (spC x) 23))
  have s0 : SpAt x (w.alloc (.cells (spC x) 23)) w.heap.size := spAt_new x w _
  have HM := Lib.hid hm
  clear hm
  go_enter Try.func11, Try.ntmps11
  go_wp2_with fail
  with_reducible refine (C1.out _).mono ?_
  rintro e w1 ⟨rfl, hb1⟩
  have HA1 := Lib.hid (HA.out.below hb1)
  have s1 := s0.below hb1
  obtain ⟨p0, p1, p2, p3, p4, p5, p6, p7, -⟩ := s1
  have HB1 := Lib.hid (below_step HB.out hb1)
  clear hb1 s0
  go_wp2_with fail
  with_reducible refine (C2.out _).mono ?_
  rintro e w2 ⟨rfl, hb2⟩
  have HA2 := Lib.hid (HA1.out.below hb2)
  have HB2 := Lib.hid (below_step HB1.out hb2)
  clear hb2 p0 p1 p2 p3 p4 p5 p6 p7
  go_wp2_with (refine wpList_load_row rfl 23 _ rfl w.heap.size rfl 23 _ (0, 0) _ HA2.out Try.underlying23 rfl ?_ ?_; kernel_rfl)
  with_reducible refine (C3.out _).mono ?_
  rintro e w3 ⟨rfl, hb3⟩
  have HB3 := Lib.hid (below_step HB2.out hb3)
  clear hb3
  go_wp2_with fail
  go_ret2
  exact .inl ⟨HM.out, _, rfl, HB3.out.size, rowIn_new _ _ _, HB3.out.alloc HB3.out.size _⟩
theorem cells_any (x : M.Sp) (hx : x.fits) (w : World) : Calls Try.prog 11 #[.agg (spA x)] w fun e w' => CellsR x w e w' := by
  cases hm : M.mayB x with
  | true => exact cells_yes x hx hm w
  | false => exact cells_no x hx hm w
set_option maxHeartbeats 1000000 in
theorem refCells_no (x : M.Sp) (hx : x.fits) (hm : M.mayB x = false) (w : World) :
    Calls Try.prog 12 #[.agg (spA x)] w fun e w' => CellsR x w e w' := by
  have C1 := Lib.hid (fun W => by have := refEncode_any x hx W; rw [hm] at this; exact this)
  have HB := Lib.hid ((Below.refl w.heap.size w).alloc (Nat.le_refl _) (.cells (spC x) 23))
  have HM := Lib.hid hm
  clear hm
  go_enter Try.func12, Try.ntmps12
  go_wp2_with fail
  with_reducible refine (C1.out _).mono ?_
  rintro e w1 ⟨rfl, hb1⟩
  have HB1 := Lib.hid (below_step HB.out hb1)
  clear hb1
  go_wp2_with fail
  go_ret2
  exact .inr ⟨HM.out, rfl, HB1.out⟩
set_option maxHeartbeats 1000000 in
set_option maxRecDepth 100000 in
theorem refCells_yes (x : M.Sp) (hx : x.fits) (hm : M.mayB x = true) (w : World) :
    Calls Try.prog 12 #[.agg (spA x)] w fun e w' => CellsR x w e w' := by
  have C1 := Lib.hid (fun W => by have := refEncode_any x hx W; rw [hm] at this; exact this)
  have C2 := Lib.hid (fun W => by have := refOf_any x.trace x.id W; rw [M.okOf_may hm] at this; exact this)
  have C3 := Lib.hid (fun W => by have := refIndex_any x hx W; rw [hm] at this; exact this)
  have HA := Lib.hid (rowIn_new (spA x) 23 w)
  have HB := Lib.hid ((Below.refl w.heap.size w).alloc (Nat.le_refl _) (.cells (spC x) 23))
  have s0 : SpAt x (w.alloc (.cells (spC x) 23)) w.heap.size := spAt_new x w _
  have HM := Lib.hid hm
  clear hm
  go_enter Try.func12, Try.ntmps12
  go_wp2_with fail
  with_reducible refine (C1.out _).mono ?_
  rintro e w1 ⟨rfl, hb1⟩
  have HA1 := Lib.hid (HA.out.below hb1)
  have s1 := s0.below hb1
  obtain ⟨p0, p1, p2, p3, p4, p5, p6, p7, -⟩ := s1
  have HB1 := Lib.hid (below_step HB.out hb1)
  clear hb1 s0
  go_wp2_with fail
  with_reducible refine (C2.out _).mono ?_
  rintro e w2 ⟨rfl, hb2⟩
  have HA2 := Lib.hid (HA1.out.below hb2)
  have HB2 := Lib.hid (below_step HB1.out hb2)
  clear hb2 p0 p1 p2 p3 p4 p5 p6 p7
  go_wp2_with (refine wpList_load_row rfl 23 _ rfl w.heap.size rfl 23 _ (0, 0) _ HA2.out Try.underlying23 rfl ?_ ?_; kernel_rfl)
  with_reducible refine (C3.out _).mono ?_
  rintro e w3 ⟨rfl, hb3⟩
  have HB3 := Lib.hid (below_step HB2.out hb3)
  clear hb3
  go_wp2_with fail
  go_ret2
  exact .inl ⟨HM.out, _, rfl, HB3.out.size, rowIn_new _ _ _, HB3.out.alloc HB3.out.size _⟩
theorem refCells_any (x : M.Sp) (hx : x.fits) (w : World) : Calls Try.prog 12 #[.agg (spA x)] w fun e w' => CellsR x w e w' := by
  cases hm : M.mayB x with
  | true => exact refCells_yes x hx hm w
  | false => exact refCells_no x hx hm w

end Go.Proofs.Ytjlddackpckmfaa
