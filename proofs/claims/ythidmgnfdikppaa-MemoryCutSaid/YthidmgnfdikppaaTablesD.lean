/- Layer 10: an index' next entry, by a contract. -/
import Derived.Test.YthidmgnfdikppaaTablesC
import Derived.BigQuiet
namespace Go.Proofs.Ythidmgnfdikppaa
set_option linter.unusedVariables false
open Go Go.RowKit
attribute [local go_sem ↓] run_index_S
attribute [local go_sem] S_append S_extract

/-- An index that is read: its rest, and that of the blocks. -/
def idxA (x bl : M.RS) : Array Value := #[.string (S x.t), .bool x.b, .string (S bl.t), .bool bl.b]
structure IdxAt (b : Nat) (x bl : M.RS) (w : World) : Prop where
  row : RowIn (idxA x bl) 105 w b
  l1 : x.t.length ≤ 140737488351232
  l2 : bl.t.length ≤ 140737488351232
theorem IdxAt.fst {b : Nat} {x bl : M.RS} {w : World} (h : IdxAt b x bl w) : RsAt (idxA x bl) 105 b 0 x w := ⟨h.row, rfl, rfl, h.l1⟩
theorem IdxAt.snd {b : Nat} {x bl : M.RS} {w : World} (h : IdxAt b x bl w) : RsAt (idxA x bl) 105 b 2 bl w := ⟨h.row, rfl, rfl, h.l2⟩
theorem IdxAt.drew {b : Nat} {x bl : M.RS} {w : World} (h : IdxAt b x bl w) : IdxAt b x bl w.drew := ⟨h.row, h.l1, h.l2⟩
/-- A call on the one, on the other. -/
def IxR (v : Value) (b : Nat) (x bl : M.RS) (w : World) (e : Ending) (w' : World) : Prop := e = .returned v ∧ IdxAt b x bl w' ∧ OnlyS (fun k => k = b) w w' ∧ w'.heap.size = w.heap.size
theorem ix_num {b : Nat} {x bl : M.RS} {w : World} (h : IdxAt b x bl w) : Calls Try.prog 80 #[.pointer (some ⟨b, 0, none⟩)] w fun e w' => IxR (.int .i64 (M.numR x).1) b (M.numR x).2 bl w e w' :=
  (num10_any _ _ b 0 x w h.fst).mono fun e w' ⟨h1, h2, h3, h4⟩ => ⟨h1, ⟨h2, Nat.le_trans (M.numR_len x) h.l1, h.l2⟩, h3, h4⟩
theorem ix_key {b : Nat} {x bl : M.RS} {w : World} (h : IdxAt b x bl w) : Calls Try.prog 116 #[.pointer (some ⟨b, 0, none⟩)] w fun e w' => IxR (.string (S (M.keyR x).1)) b (M.keyR x).2 bl w e w' :=
  (key10_any _ _ b 0 x w h.fst).mono fun e w' ⟨h1, h2, h3, h4⟩ => ⟨h1, ⟨h2, Nat.le_trans (M.cutR_len _ _).1 (Nat.le_trans (M.numR_len x) h.l1), h.l2⟩, h3, h4⟩
theorem ix_cut {b : Nat} {x bl : M.RS} {w : World} (h : IdxAt b x bl w) (n : Int) : Calls Try.prog 114 #[.pointer (some ⟨b, 2, none⟩), .int .i64 n] w fun e w' => IxR (.string (S (M.cutR bl n).1)) b x (M.cutR bl n).2 w e w' :=
  (cut10_any _ _ b 2 bl n w h.snd).mono fun e w' ⟨h1, h2, h3, h4⟩ => ⟨h1, ⟨h2, h.l1, Nat.le_trans (M.cutR_len bl n).1 h.l2⟩, h3, h4⟩
def EntR10 (t : M.Ent) (b : Nat) (w : World) (e : Ending) (w' : World) : Prop := e = .returned (.tuple #[.string (S t.first), .string (S t.block), .bool (!t.x.b && !t.bl.b)]) ∧ IdxAt b t.x t.bl w' ∧ OnlyS (fun k => k = b) w w' ∧ w'.heap.size = w.heap.size
theorem onlyS_drew {A : Nat → Prop} {w w' : World} (h : OnlyS A w.drew w') : OnlyS A w w' := ⟨h.os, h.tape, h.output, h.size, h.block⟩
theorem onlyS_drew' {A : Nat → Prop} {w w' : World} (h : OnlyS A w w') : OnlyS A w w'.drew := ⟨h.os, h.tape, h.output, h.size, h.block⟩
set_option maxHeartbeats 2000000 in
set_option maxRecDepth 100000 in
theorem entry10_any (b : Nat) (x bl : M.RS) (w : World) (h : IdxAt b x bl w) :
    Calls Try.prog 81 #[.pointer (some ⟨b, 0, none⟩)] w fun e w' => EntR10 (M.entR x bl) b w e w' := by
  have CK := Lib.hid (ix_key h)
  have CN := Lib.hid (fun W (h : IdxAt b (M.keyR x).2 bl W) => ix_num h)
  have CC := Lib.hid (fun W (h : IdxAt b (M.numR (M.keyR x).2).2 bl W) => ix_cut h ((M.numR (M.keyR x).2).1 : Int))
  have CD := Lib.hid (fun W (h : IdxAt b (M.numR (M.keyR x).2).2 (M.cutR bl (M.numR (M.keyR x).2).1).2 W) => ix_cut h 4)
  have HE : Hid (M.entR x bl = ⟨(M.keyR x).1, (M.cutR bl (M.numR (M.keyR x).2).1).1, (M.numR (M.keyR x).2).2, (M.cutR (M.cutR bl (M.numR (M.keyR x).2).1).2 4).2⟩) := Lib.hid rfl
  rw [HE.out]
  clear HE
  generalize M.keyR x = k at *
  generalize M.numR k.2 = m at *
  generalize M.cutR bl (m.1 : Int) = c at *
  generalize M.cutR c.2 4 = d at *
  obtain ⟨k1, k2⟩ := k
  obtain ⟨m1, m2⟩ := m
  obtain ⟨c1, c2⟩ := c
  obtain ⟨d1, d2⟩ := d
  simp only at CK CN CC CD
  clear h
  go_enter Try.func81, Try.ntmps81
  go_wp2_with fail
  with_reducible refine (CK.out).mono ?_
  rintro e w1 ⟨rfl, h1, h2, h3⟩
  have H1 := Lib.hid h1
  have H2 := Lib.hid h2
  have H3 := Lib.hid h3
  clear h1 h2 h3
  go_wp2_with fail
  go_region_with (first
    | (go_at_call 80; (with_reducible refine (CN.out _ H1.out.drew).mono ?_); rintro e w2 ⟨rfl, h1, h2, h3⟩; have H4 := Lib.hid h1; have H5 := Lib.hid (onlyS_drew h2); have H6 := Lib.hid h3; clear h1 h2 h3)
    | (go_at_call 114; (with_reducible refine (CC.out _ H4.out).mono ?_); rintro e w3 ⟨rfl, h1, h2, h3⟩; have H7 := Lib.hid h1; have H8 := Lib.hid h2; have H9 := Lib.hid h3; clear h1 h2 h3))
  go_wp2_with fail
  with_reducible refine (CD.out _ H7.out).mono ?_
  rintro e w4 ⟨rfl, h1, h2, h3⟩
  have H10 := Lib.hid h1
  have H11 := Lib.hid (((H2.out.trans H5.out).trans H8.out).trans h2)
  have H12 := Lib.hid (show w4.heap.size = w.heap.size from by rw [h3, H9.out, H6.out]; exact H3.out)
  clear h1 h2 h3
  have y1 : w4.cell? ⟨b, 1, none⟩ = some (.bool m2.b) := H10.out.fst.cell1
  have y3 : w4.cell? ⟨b, 3, none⟩ = some (.bool d2.b) := H10.out.snd.cell1
  obtain ⟨mt, mb⟩ := m2
  obtain ⟨dt, db⟩ := d2
  simp only at y1 y3
  cases mb <;> cases db
  all_goals
    go_wp2_with fail
    go_quiet (fail)
    go_wp2_with fail
    go_ret3
    exact ⟨rfl, ⟨H10.out.row, H10.out.l1, H10.out.l2⟩, ⟨H11.out.os, H11.out.tape, H11.out.output, H11.out.size, H11.out.block⟩, H12.out⟩

end Go.Proofs.Ythidmgnfdikppaa
