/- Texts of lower layers, as one. -/
import Derived.Test.YthidmgnfdikppaaTablesM
import Derived.Test.YthidmgnfdikppaaBuildT
import Derived.BigQuiet
import Derived.Test.YthidmgnfdikppaaOrder
import Derived.Test.YthidmgnfdikppaaZI
import Derived.Test.YthidmgnfdikppaaZF
import Derived.Maps.AppendAt
/- Layer 10: what of a text was not read yet, by contracts. -/
namespace Go.Proofs.Ythidmgnfdikppaa
set_option linter.unusedVariables false
open Go Go.RowKit
attribute [local go_sem ↓] run_index_S
attribute [local go_sem] S_append S_extract

/-- The two cells of a rest that lies at a place of a block. -/
def putR (C : Array Value) (o : Nat) (r : M.RS) : Array Value := (C.setIfInBounds o (.string (S r.t))).setIfInBounds (o + 1) (.bool r.b)
structure RsAt (C : Array Value) (T : TypeId) (b o : Nat) (r : M.RS) (w : World) : Prop where
  row : RowIn C T w b
  c0 : C[o]? = some (.string (S r.t))
  c1 : C[o + 1]? = some (.bool r.b)
  len : r.t.length ≤ 140737488351232
theorem RsAt.cell0 {C : Array Value} {T : TypeId} {b o : Nat} {r : M.RS} {w : World} (h : RsAt C T b o r w) : w.cell? ⟨b, o, none⟩ = some (.string (S r.t)) := by rw [h.row.cell, h.c0]
theorem RsAt.cell1 {C : Array Value} {T : TypeId} {b o : Nat} {r : M.RS} {w : World} (h : RsAt C T b o r w) : w.cell? ⟨b, o + 1, none⟩ = some (.bool r.b) := by rw [h.row.cell, h.c1]
theorem RsAt.put {C : Array Value} {T : TypeId} {b o : Nat} {r : M.RS} {w : World} (h : RsAt C T b o r w) (q : M.RS) (hq : q.t.length ≤ 140737488351232) {w' : World} (hr : RowIn (putR C o q) T w' b) : RsAt (putR C o q) T b o q w' := by
  have h1 := (Array.getElem?_eq_some_iff.1 h.c0).1
  have h2 := (Array.getElem?_eq_some_iff.1 h.c1).1
  refine ⟨hr, ?_, ?_, hq⟩
  · simp [putR, h1]
  · simp [putR, h2]
theorem set_same {C : Array Value} {o : Nat} {v : Value} (h : C[o]? = some v) : C.setIfInBounds o v = C := by
  apply Array.ext_getElem?
  intro i
  rw [Array.getElem?_setIfInBounds]
  by_cases e : o = i
  · subst e
    have := (Array.getElem?_eq_some_iff.1 h).1
    rw [if_pos rfl, if_pos this, h]
  · simp [e]
theorem RsAt.same {C : Array Value} {T : TypeId} {b o : Nat} {r : M.RS} {w : World} (h : RsAt C T b o r w) : putR C o r = C := by
  unfold putR
  rw [set_same h.c0, set_same h.c1]
theorem putR_bad {C : Array Value} {o : Nat} {t : List UInt8} {x : Bool} (h : C[o]? = some (.string (S t))) : C.setIfInBounds (o + 1) (.bool x) = putR C o ⟨t, x⟩ := by
  unfold putR
  rw [set_same h]
theorem putR_good {C : Array Value} {o : Nat} {t : List UInt8} (h : C[o + 1]? = some (.bool false)) : C.setIfInBounds o (.string (S t)) = putR C o ⟨t, false⟩ := by
  have k : (C.setIfInBounds o (.string (S t)))[o + 1]? = some (.bool false) := by rw [Array.getElem?_setIfInBounds, if_neg (by omega), h]
  unfold putR
  exact (set_same k).symm
/-- What a call on a rest leaves. -/
def RsR (v : Value) (C : Array Value) (T : TypeId) (b o : Nat) (q : M.RS) (w : World) (e : Ending) (w' : World) : Prop := e = .returned v ∧ RowIn (putR C o q) T w' b ∧ OnlyS (fun k => k = b) w w' ∧ w'.heap.size = w.heap.size
theorem M.cutR_len (r : M.RS) (n : Int) : (M.cutR r n).2.t.length ≤ r.t.length ∧ (M.cutR r n).1.length ≤ r.t.length := by
  unfold M.cutR
  split
  · simp; omega
  · simp
theorem M.cutR_nat {t : List UInt8} {m : Nat} (h : m ≤ t.length) : M.cutR ⟨t, false⟩ (m : Int) = (t.take m, ⟨t.drop m, false⟩) := by
  unfold M.cutR
  rw [if_pos ⟨rfl, by omega, by simp; omega⟩]
  rfl
theorem M.numR_len (r : M.RS) : (M.numR r).2.t.length ≤ r.t.length := by
  unfold M.numR
  split
  · simp
  · split
    · simp
    · simp
theorem M.numR_le (r : M.RS) : (M.numR r).1 ≤ 9223372036854775807 := by
  unfold M.numR
  cases h : M.gets r.t 0 with
  | none => simp
  | some x => obtain ⟨n, nx⟩ := x; exact (M.gets_bounds h).2.2.2.1
set_option maxHeartbeats 2000000 in
set_option maxRecDepth 100000 in
theorem cut10_any (C : Array Value) (T : TypeId) (b o : Nat) (r : M.RS) (n : Int) (w : World) (h : RsAt C T b o r w) :
    Calls Try.prog 114 #[.pointer (some ⟨b, o, none⟩), .int .i64 n] w fun e w' => RsR (.string (S (M.cutR r n).1)) C T b o (M.cutR r n).2 w e w' := by
  have c0 := h.cell0
  have c1 := h.cell1
  have f0 := h.row.free o
  have f1 := h.row.free (o + 1)
  have hlen := h.len
  have HO := Lib.hid (fun (v : Value) => onlyS_set (A := fun k => k = b) w b o v rfl)
  have HO1 := Lib.hid (fun (v : Value) => onlyS_set (A := fun k => k = b) w b (o + 1) v rfl)
  have HR := Lib.hid h
  clear h
  obtain ⟨t, bad⟩ := r
  simp only at c0 c1 hlen
  have HX : Hid (∀ P : Prop, (RsR (.string (S [])) C T b o ⟨t, true⟩ w (.returned (.string (S []))) (w.setCell ⟨b, o + 1, none⟩ (.bool true)))) := Lib.hid fun _ =>
    ⟨rfl, by rw [← putR_bad HR.out.c0]; exact HR.out.row.set _ _, HO1.out _, by simp [World.setCell]⟩
  cases bad with
  | true =>
    have HE : Hid (M.cutR ⟨t, true⟩ n = ([], ⟨t, true⟩)) := Lib.hid (by simp [M.cutR])
    go_enter Try.func114, Try.ntmps114
    go_wp2_with fail
    go_ret
    rw [HE.out]
    exact HX.out True
  | false =>
    by_cases h0 : n < 0
    · have q0 : decide (n < 0) = true := by simpa using h0
      have HE : Hid (M.cutR ⟨t, false⟩ n = ([], ⟨t, true⟩)) := Lib.hid (by simp [M.cutR]; omega)
      go_enter Try.func114, Try.ntmps114
      go_wp2_with fail
      go_ret
      rw [HE.out]
      exact HX.out True
    · have q0 : decide (n < 0) = false := by simp; omega
      by_cases h1 : (t.length : Int) < n
      · have q1 : decide ((t.length : Int) < n) = true := by simpa using h1
        have HE : Hid (M.cutR ⟨t, false⟩ n = ([], ⟨t, true⟩)) := Lib.hid (by simp [M.cutR]; omega)
        go_enter Try.func114, Try.ntmps114
        go_wp2_with fail
        go_ret
        rw [HE.out]
        exact HX.out True
      · have q1 : decide ((t.length : Int) < n) = false := by simp; omega
        obtain ⟨m, rfl⟩ : ∃ m : Nat, n = (m : Int) := ⟨n.toNat, by omega⟩
        have hml : m ≤ t.length := by omega
        have HE : Hid (M.cutR ⟨t, false⟩ (m : Int) = (t.take m, ⟨t.drop m, false⟩)) := Lib.hid (by simp [M.cutR]; omega)
        have k1 := run_piece_to (P := Try.prog) 9 Try.underlying9 t (m : Int) m rfl hml
        have k2 := run_piece_from (P := Try.prog) 9 Try.underlying9 t (m : Int) m rfl hml
        clear h0 h1
        go_enter Try.func114, Try.ntmps114
        go_wp2_with fail
        go_ret
        rw [HE.out]
        exact ⟨rfl, by rw [← putR_good HR.out.c1]; exact HR.out.row.set _ _, HO.out _, by simp [World.setCell]⟩

/-- A second call on what the first one left. -/
theorem RsR.at_ {v : Value} {C : Array Value} {T : TypeId} {b o : Nat} {r q : M.RS} {w w' : World} {e : Ending} (h : RsAt C T b o r w) (hq : q.t.length ≤ r.t.length) (k : RsR v C T b o q w e w') : RsAt (putR C o q) T b o q w' :=
  h.put q (by have := h.len; omega) k.2.1
theorem putR_putR (C : Array Value) (o : Nat) (q r : M.RS) : putR (putR C o q) o r = putR C o r := by
  unfold putR
  rw [Array.setIfInBounds_comm _ _ (show o + 1 ≠ o by omega) (xs := C.setIfInBounds o _), Array.setIfInBounds_setIfInBounds, Array.setIfInBounds_setIfInBounds]
set_option maxHeartbeats 2000000 in
set_option maxRecDepth 100000 in
theorem num10_any (C : Array Value) (T : TypeId) (b o : Nat) (r : M.RS) (w : World) (h : RsAt C T b o r w) :
    Calls Try.prog 80 #[.pointer (some ⟨b, o, none⟩)] w fun e w' => RsR (.int .i64 (M.numR r).1) C T b o (M.numR r).2 w e w' := by
  have c0 := h.cell0
  have c1 := h.cell1
  have f1 := h.row.free (o + 1)
  have CG := Lib.hid (get_any r.t 0 w (by have := h.len; omega))
  have HO1 := Lib.hid (fun (v : Value) => onlyS_set (A := fun k => k = b) w b (o + 1) v rfl)
  have HR := Lib.hid h
  have HL := Lib.hid h.len
  clear h
  obtain ⟨t, bad⟩ := r
  simp only at c0 c1 CG HL
  have HP : Hid (∀ x : Bool, RsAt (putR C o ⟨t, x⟩) T b o ⟨t, x⟩ (w.setCell ⟨b, o + 1, none⟩ (.bool x))) := Lib.hid fun x => HR.out.put ⟨t, x⟩ HL.out (by rw [← putR_bad HR.out.c0]; exact HR.out.row.set _ _)
  have CC := Lib.hid (fun (x : Bool) (n : Int) => cut10_any _ T b o ⟨t, x⟩ n _ (HP.out x))
  cases hg : M.gets t 0 with
  | none =>
    have HE := Lib.hid (show M.numR ⟨t, bad⟩ = (0, ⟨t, true⟩) from by simp [M.numR, hg])
    have HC := Lib.hid (show M.cutR ⟨t, true⟩ 0 = ([], ⟨t, true⟩) from by simp [M.cutR])
    rw [hg] at CG
    simp only [tri] at CG
    clear hg
    go_enter Try.func80, Try.ntmps80
    go_wp2_with fail
    with_reducible refine (CG.out).mono ?_
    rintro e w1 ⟨rfl, rfl⟩
    cases bad
    all_goals
      go_wp2_with fail
      with_reducible refine (CC.out true 0).mono ?_
      rintro e w2 ⟨rfl, h2, h3, h4⟩
      have H2 := Lib.hid h2
      have H3 := Lib.hid h3
      have H4 := Lib.hid h4
      clear h2 h3 h4
      go_wp2_with fail
      go_ret
      rw [HE.out]
      refine ⟨rfl, ?_, (HO1.out _).trans H3.out, by rw [H4.out]; simp [World.setCell]⟩
      have := H2.out
      rw [HC.out, putR_putR] at this
      exact this
  | some x =>
    obtain ⟨n, nx⟩ := x
    have hnx : nx ≤ t.length := (M.gets_bounds hg).2.2.1
    have HE := Lib.hid (show M.numR ⟨t, bad⟩ = (n, (M.cutR ⟨t, bad⟩ (nx : Int)).2) from by
      unfold M.numR
      simp only [hg]
      cases bad
      · rw [M.cutR_nat hnx]; rfl
      · simp [M.cutR])
    rw [hg] at CG
    simp only [tri] at CG
    clear hg
    go_enter Try.func80, Try.ntmps80
    go_wp2_with fail
    with_reducible refine (CG.out).mono ?_
    rintro e w1 ⟨rfl, rfl⟩
    cases bad
    all_goals
      go_wp2_with fail
      with_reducible refine (CC.out _ (nx : Int)).mono ?_
      rintro e w2 ⟨rfl, h2, h3, h4⟩
      have H2 := Lib.hid h2
      have H3 := Lib.hid h3
      have H4 := Lib.hid h4
      clear h2 h3 h4
      go_wp2_with fail
      go_ret
      rw [HE.out]
      refine ⟨rfl, ?_, (HO1.out _).trans H3.out, by rw [H4.out]; simp [World.setCell]⟩
      have := H2.out
      rw [putR_putR] at this
      exact this
set_option maxHeartbeats 2000000 in
set_option maxRecDepth 100000 in
theorem big10_any (C : Array Value) (T : TypeId) (b o : Nat) (r : M.RS) (w : World) (h : RsAt C T b o r w) :
    Calls Try.prog 79 #[.pointer (some ⟨b, o, none⟩)] w fun e w' => RsR (.int .i64 (M.bigR r).1) C T b o (M.bigR r).2 w e w' := by
  have CC := Lib.hid (cut10_any C T b o r 8 w h)
  have hl := M.cutR_len r 8
  have CG := Lib.hid (fun W => ofBig_any (M.cutR r 8).1 0 W (by have := h.len; omega))
  have HR := Lib.hid h
  have HE0 : Hid (M.bigR r = match M.ofBigs (M.cutR r 8).1 0 with
    | none => (0, ⟨(M.cutR r 8).2.t, true⟩)
    | some n => (n, (M.cutR r 8).2)) := Lib.hid rfl
  have HL := Lib.hid hl
  clear h hl
  generalize M.cutR r 8 = c at *
  obtain ⟨x, t, bad⟩ := c
  simp only at CC CG HE0 HL
  go_enter Try.func79, Try.ntmps79
  go_wp2_with fail
  with_reducible refine (CC.out).mono ?_
  rintro e w1 ⟨rfl, h2, h3, h4⟩
  have HQ := Lib.hid (HR.out.put ⟨t, bad⟩ (by have := HR.out.len; have := HL.out.1; show t.length ≤ _; omega) h2)
  have H3 := Lib.hid h3
  have H4 := Lib.hid h4
  clear h2 h3 h4
  go_wp2_with fail
  with_reducible refine (CG.out w1).mono ?_
  rintro e w2 ⟨rfl, rfl⟩
  have c1 : w1.cell? ⟨b, o + 1, none⟩ = some (.bool bad) := HQ.out.cell1
  have f1 := HQ.out.row.free (o + 1)
  have HO1 := Lib.hid (fun (v : Value) => onlyS_set (A := fun k => k = b) w1 b (o + 1) v rfl)
  have HP : Hid (∀ x : Bool, RowIn (putR C o ⟨t, x⟩) T (w1.setCell ⟨b, o + 1, none⟩ (.bool x)) b) := Lib.hid fun x => by
    have := HQ.out.row.set (o + 1) (.bool x)
    rw [putR_bad HQ.out.c0, putR_putR] at this
    exact this
  cases hg : M.ofBigs x 0 with
  | none =>
    rw [hg] at HE0
    simp only [duo]
    simp only at HE0
    clear hg
    cases bad
    all_goals
      go_wp2_with fail
      go_ret
      rw [HE0.out]
      exact ⟨rfl, HP.out true, H3.out.trans (HO1.out _), by rw [← H4.out]; simp [World.setCell]⟩
  | some n =>
    rw [hg] at HE0
    simp only [duo]
    simp only at HE0
    clear hg
    cases bad
    all_goals
      go_wp2_with fail
      go_ret
      rw [HE0.out]
      exact ⟨rfl, HP.out _, H3.out.trans (HO1.out _), by rw [← H4.out]; simp [World.setCell]⟩
set_option maxHeartbeats 2000000 in
set_option maxRecDepth 100000 in
theorem key10_any (C : Array Value) (T : TypeId) (b o : Nat) (r : M.RS) (w : World) (h : RsAt C T b o r w) :
    Calls Try.prog 116 #[.pointer (some ⟨b, o, none⟩)] w fun e w' => RsR (.string (S (M.keyR r).1)) C T b o (M.keyR r).2 w e w' := by
  have CN := Lib.hid (num10_any C T b o r w h)
  have hl := M.numR_len r
  have HR := Lib.hid h
  have HE : Hid (M.keyR r = M.cutR (M.numR r).2 (M.numR r).1) := Lib.hid rfl
  have CC := Lib.hid (fun W (h : RsAt (putR C o (M.numR r).2) T b o (M.numR r).2 W) => cut10_any _ T b o (M.numR r).2 ((M.numR r).1 : Int) W h)
  have HL := Lib.hid hl
  clear h hl
  generalize M.numR r = c at *
  obtain ⟨n, q⟩ := c
  simp only at CC CN HE HL
  go_enter Try.func116, Try.ntmps116
  go_wp2_with fail
  with_reducible refine (CN.out).mono ?_
  rintro e w1 ⟨rfl, h2, h3, h4⟩
  have HQ := Lib.hid (HR.out.put q (by have := HR.out.len; have := HL.out; omega) h2)
  have H3 := Lib.hid h3
  have H4 := Lib.hid h4
  clear h2 h3 h4
  go_wp2_with fail
  with_reducible refine (CC.out w1 HQ.out).mono ?_
  rintro e w2 ⟨rfl, h2, h3, h4⟩
  have H5 := Lib.hid h2
  have H6 := Lib.hid h3
  have H7 := Lib.hid h4
  clear h2 h3 h4
  go_wp2_with fail
  go_ret
  rw [HE.out]
  exact ⟨rfl, by have := H5.out; rwa [putR_putR] at this, H3.out.trans H6.out, by rw [H7.out, H4.out]⟩

end Go.Proofs.Ythidmgnfdikppaa

/- Layer 10: an index' next entry, by a contract. -/
namespace Go.Proofs.Ythidmgnfdikppaa
set_option linter.unusedVariables false
open Go Go.RowKit
attribute [local go_sem ↓] run_index_S
attribute [local go_sem] S_append S_extract

/-- An index that is read: its rest, and that of the blocks. -/
def idxA (x bl : M.RS) : Array Value := #[.string (S x.t), .bool x.b, .string (S bl.t), .bool bl.b]
structure IdxAt (b : Nat) (x bl : M.RS) (w : World) : Prop where
  row : RowIn (idxA x bl) 105 w b
  l1 : x.t.length ≤ 140737488351232
  l2 : bl.t.length ≤ 140737488351232
theorem IdxAt.fst {b : Nat} {x bl : M.RS} {w : World} (h : IdxAt b x bl w) : RsAt (idxA x bl) 105 b 0 x w := ⟨h.row, rfl, rfl, h.l1⟩
theorem IdxAt.snd {b : Nat} {x bl : M.RS} {w : World} (h : IdxAt b x bl w) : RsAt (idxA x bl) 105 b 2 bl w := ⟨h.row, rfl, rfl, h.l2⟩
theorem IdxAt.drew {b : Nat} {x bl : M.RS} {w : World} (h : IdxAt b x bl w) : IdxAt b x bl w.drew := ⟨h.row, h.l1, h.l2⟩
/-- A call on the one, on the other. -/
def IxR (v : Value) (b : Nat) (x bl : M.RS) (w : World) (e : Ending) (w' : World) : Prop := e = .returned v ∧ IdxAt b x bl w' ∧ OnlyS (fun k => k = b) w w' ∧ w'.heap.size = w.heap.size
theorem ix_num {b : Nat} {x bl : M.RS} {w : World} (h : IdxAt b x bl w) : Calls Try.prog 80 #[.pointer (some ⟨b, 0, none⟩)] w fun e w' => IxR (.int .i64 (M.numR x).1) b (M.numR x).2 bl w e w' :=
  (num10_any _ _ b 0 x w h.fst).mono fun e w' ⟨h1, h2, h3, h4⟩ => ⟨h1, ⟨h2, Nat.le_trans (M.numR_len x) h.l1, h.l2⟩, h3, h4⟩
theorem ix_key {b : Nat} {x bl : M.RS} {w : World} (h : IdxAt b x bl w) : Calls Try.prog 116 #[.pointer (some ⟨b, 0, none⟩)] w fun e w' => IxR (.string (S (M.keyR x).1)) b (M.keyR x).2 bl w e w' :=
  (key10_any _ _ b 0 x w h.fst).mono fun e w' ⟨h1, h2, h3, h4⟩ => ⟨h1, ⟨h2, Nat.le_trans (M.cutR_len _ _).1 (Nat.le_trans (M.numR_len x) h.l1), h.l2⟩, h3, h4⟩
theorem ix_cut {b : Nat} {x bl : M.RS} {w : World} (h : IdxAt b x bl w) (n : Int) : Calls Try.prog 114 #[.pointer (some ⟨b, 2, none⟩), .int .i64 n] w fun e w' => IxR (.string (S (M.cutR bl n).1)) b x (M.cutR bl n).2 w e w' :=
  (cut10_any _ _ b 2 bl n w h.snd).mono fun e w' ⟨h1, h2, h3, h4⟩ => ⟨h1, ⟨h2, h.l1, Nat.le_trans (M.cutR_len bl n).1 h.l2⟩, h3, h4⟩
def EntR10 (t : M.Ent) (b : Nat) (w : World) (e : Ending) (w' : World) : Prop := e = .returned (.tuple #[.string (S t.first), .string (S t.block), .bool (!t.x.b && !t.bl.b)]) ∧ IdxAt b t.x t.bl w' ∧ OnlyS (fun k => k = b) w w' ∧ w'.heap.size = w.heap.size
theorem onlyS_drew {A : Nat → Prop} {w w' : World} (h : OnlyS A w.drew w') : OnlyS A w w' := ⟨h.os, h.tape, h.output, h.size, h.block⟩
theorem onlyS_drew' {A : Nat → Prop} {w w' : World} (h : OnlyS A w w') : OnlyS A w w'.drew := ⟨h.os, h.tape, h.output, h.size, h.block⟩
set_option maxHeartbeats 2000000 in
set_option maxRecDepth 100000 in
theorem entry10_any (b : Nat) (x bl : M.RS) (w : World) (h : IdxAt b x bl w) :
    Calls Try.prog 81 #[.pointer (some ⟨b, 0, none⟩)] w fun e w' => EntR10 (M.entR x bl) b w e w' := by
  have CK := Lib.hid (ix_key h)
  have CN := Lib.hid (fun W (h : IdxAt b (M.keyR x).2 bl W) => ix_num h)
  have CC := Lib.hid (fun W (h : IdxAt b (M.numR (M.keyR x).2).2 bl W) => ix_cut h ((M.numR (M.keyR x).2).1 : Int))
  have CD := Lib.hid (fun W (h : IdxAt b (M.numR (M.keyR x).2).2 (M.cutR bl (M.numR (M.keyR x).2).1).2 W) => ix_cut h 4)
  have HE : Hid (M.entR x bl = ⟨(M.keyR x).1, (M.cutR bl (M.numR (M.keyR x).2).1).1, (M.numR (M.keyR x).2).2, (M.cutR (M.cutR bl (M.numR (M.keyR x).2).1).2 4).2⟩) := Lib.hid rfl
  rw [HE.out]
  clear HE
  generalize M.keyR x = k at *
  generalize M.numR k.2 = m at *
  generalize M.cutR bl (m.1 : Int) = c at *
  generalize M.cutR c.2 4 = d at *
  obtain ⟨k1, k2⟩ := k
  obtain ⟨m1, m2⟩ := m
  obtain ⟨c1, c2⟩ := c
  obtain ⟨d1, d2⟩ := d
  simp only at CK CN CC CD
  clear h
  go_enter Try.func81, Try.ntmps81
  go_wp2_with fail
  with_reducible refine (CK.out).mono ?_
  rintro e w1 ⟨rfl, h1, h2, h3⟩
  have H1 := Lib.hid h1
  have H2 := Lib.hid h2
  have H3 := Lib.hid h3
  clear h1 h2 h3
  go_wp2_with fail
  go_region_with (first
    | (go_at_call 80; (with_reducible refine (CN.out _ H1.out.drew).mono ?_); rintro e w2 ⟨rfl, h1, h2, h3⟩; have H4 := Lib.hid h1; have H5 := Lib.hid (onlyS_drew h2); have H6 := Lib.hid h3; clear h1 h2 h3)
    | (go_at_call 114; (with_reducible refine (CC.out _ H4.out).mono ?_); rintro e w3 ⟨rfl, h1, h2, h3⟩; have H7 := Lib.hid h1; have H8 := Lib.hid h2; have H9 := Lib.hid h3; clear h1 h2 h3))
  go_wp2_with fail
  with_reducible refine (CD.out _ H7.out).mono ?_
  rintro e w4 ⟨rfl, h1, h2, h3⟩
  have H10 := Lib.hid h1
  have H11 := Lib.hid (((H2.out.trans H5.out).trans H8.out).trans h2)
  have H12 := Lib.hid (show w4.heap.size = w.heap.size from by rw [h3, H9.out, H6.out]; exact H3.out)
  clear h1 h2 h3
  have y1 : w4.cell? ⟨b, 1, none⟩ = some (.bool m2.b) := H10.out.fst.cell1
  have y3 : w4.cell? ⟨b, 3, none⟩ = some (.bool d2.b) := H10.out.snd.cell1
  obtain ⟨mt, mb⟩ := m2
  obtain ⟨dt, db⟩ := d2
  simp only at y1 y3
  cases mb <;> cases db
  all_goals
    go_wp2_with fail
    go_quiet (fail)
    go_wp2_with fail
    go_ret3
    exact ⟨rfl, ⟨H10.out.row, H10.out.l1, H10.out.l2⟩, ⟨H11.out.os, H11.out.tape, H11.out.output, H11.out.size, H11.out.block⟩, H12.out⟩

end Go.Proofs.Ythidmgnfdikppaa

/- Layer 10: the text of a table, by a contract. -/
namespace Go.Proofs.Ythidmgnfdikppaa
set_option linter.unusedVariables false
open Go Go.RowKit
attribute [local go_sem ↓] run_index_S
attribute [local go_sem] S_append S_extract

/-- A piece of a row of cells. -/
def pieceC (L : List M.Cl) (i j : Nat) : List M.Cl := (L.drop i).take (j - i)
theorem pieceC_len (L : List M.Cl) {i j : Nat} (h1 : i ≤ j) (h2 : j ≤ L.length) : (pieceC L i j).length = j - i := by simp [pieceC]; omega
theorem pieceC_get (L : List M.Cl) {i j n : Nat} (hn : n < j - i) : (pieceC L i j).getD n M.cl0 = L.getD (i + n) M.cl0 := by
  simp [pieceC, List.getD, hn]
theorem pieceC_blk (L : List M.Cl) (k : Nat) : pieceC L (4 * k) (4 * k + 4) = M.blk L k := by
  rw [pieceC, M.blk, show 4 * k + 4 - 4 * k = 4 from by omega]
theorem pieceC_blk' (L : List M.Cl) (k : Nat) (h : L.length ≤ 4 * k + 4) : pieceC L (4 * k) L.length = M.blk L k := by
  rw [pieceC, M.blk, List.take_of_length_le (by simp), List.take_of_length_le (by simp; omega)]
theorem sizeCl10 (w : World) : (sizeOf (Try.prog.elem 22)).run Try.prog w = .ok 3 w := by kernel_rfl
theorem sizeSt10 (w : World) : (sizeOf (Try.prog.elem 55)).run Try.prog w = .ok 1 w := by kernel_rfl
theorem elemCl10 : Try.prog.elem 22 = 38 := by kernel_rfl
theorem cut_cells (L : List M.Cl) (ao : Option Addr) (cap i j : Nat) (h1 : i ≤ j) (h2 : j ≤ L.length) (h3 : L.length ≤ cap) : ∃ ao' : Option Addr,
    (∀ (w : World) (k k' : IntKind), (Instr.slice 22 (.slice ao L.length cap) (some (.int k (i : Int))) (some (.int k' (j : Int))) none).run Try.prog w = .ok (.slice ao' (pieceC L i j).length (cap - i)) w) ∧
    (∀ w : World, ClsAt w ao L → ClsAt w ao' (pieceC L i j)) := by
  refine ⟨if cap = i then ao else ao.map (·.add (i * 3)), fun w k k' => ?_, fun w h => ?_⟩
  · rw [run_slice_lh w 22 ao L.length cap (by rw [elemCl10]; exact Try.underlying22) k k' _ _ (by omega) (by omega) (by omega), sizeCl10]
    simp only [Result.andThen, sliced, Int.toNat_natCast]
    rw [pieceC_len L h1 h2]
  · intro hne
    have hl : 0 < (pieceC L i j).length := List.length_pos_iff.2 hne
    rw [pieceC_len L h1 h2] at hl
    have hL : L ≠ [] := fun e => by rw [e] at h2; simp at h2; omega
    obtain ⟨g, off, rfl, hc⟩ := h hL
    rw [if_neg (by omega)]
    refine ⟨g, off + i * 3, by simp [Addr.add_lit], fun n hn => ?_⟩
    rw [pieceC_len L h1 h2] at hn
    rw [pieceC_get L hn]
    have := hc (i + n) (by omega)
    rwa [show off + (i + n) * 3 = off + i * 3 + n * 3 from by omega] at this
theorem cut_blk (L : List M.Cl) (ao : Option Addr) (cap k i j : Nat) (hi : i = 4 * k) (hj : j = min (i + 4) L.length) (hlt : i < L.length) (h3 : L.length ≤ cap) : ∃ (ao' : Option Addr) (cp : Nat),
    (∀ (w : World) (kk k' : IntKind), (Instr.slice 22 (.slice ao L.length cap) (some (.int kk (i : Int))) (some (.int k' (j : Int))) none).run Try.prog w = .ok (.slice ao' (M.blk L k).length cp) w) ∧
    (∀ w : World, ClsAt w ao L → ClsAt w ao' (M.blk L k)) := by
  obtain ⟨ao', h1, h2⟩ := cut_cells L ao cap i j (by omega) (by omega) h3
  have e : pieceC L i j = M.blk L k := by
    subst hi
    by_cases h : 4 * k + 4 ≤ L.length
    · rw [hj, Nat.min_eq_left h]; exact pieceC_blk L k
    · rw [hj, Nat.min_eq_right (by omega)]; exact pieceC_blk' L k (by omega)
  rw [e] at h1 h2
  exact ⟨ao', cap - i, h1, h2⟩
set_option maxHeartbeats 2000000 in
set_option maxRecDepth 100000 in
theorem withSum_any (l : List UInt8) (hl : l.length ≤ 140737488351232) (w : World) :
    Calls Try.prog 68 #[.string (S l)] w fun e w' => e = .returned (.string (S (M.wsum l))) ∧ Below w.heap.size w w' := by
  have C1 := Lib.hid (sum0_any l (by omega) w)
  have C2 := Lib.hid (fun W => bytes_any (M.sumP l) (M.sumP_lt l) W)
  have HWS : Hid (M.wsum l = l ++ M.big 4 (M.sumP l)) := Lib.hid rfl
  have hbl : (M.big 4 (M.sumP l)).length ≤ 4 := by rw [M.big_length]; omega
  rw [HWS.out]
  clear HWS
  generalize M.big 4 (M.sumP l) = q at *
  go_enter Try.func68, Try.ntmps68
  go_wp2_with fail
  with_reducible refine (C1.out).mono ?_
  rintro e w1 ⟨rfl, hb1⟩
  have HB := Lib.hid hb1
  clear hb1
  go_wp2_with fail
  with_reducible refine (C2.out w1).mono ?_
  rintro e w2 ⟨rfl, hb1⟩
  replace HB := carry hb1 HB
  clear hb1
  go_wp2_with fail
  go_ret
  exact ⟨rfl, HB.out⟩
/-- What Build comes to. -/
def bE (L : List M.Cl) : Value := if M.srt none L = false then .tuple #[.string ⟨#[]⟩, .int .i64 2] else if 4096 < L.length then .tuple #[.string ⟨#[]⟩, .int .i64 3] else .tuple #[.string (S (M.tableT L)), .int .i64 0]
theorem bE_no {L : List M.Cl} (h : M.srt none L = false) : bE L = .tuple #[.string ⟨#[]⟩, .int .i64 2] := by rw [bE, if_pos h]
theorem bE_long {L : List M.Cl} (h : M.srt none L = true) (k : 4096 < L.length) : bE L = .tuple #[.string ⟨#[]⟩, .int .i64 3] := by rw [bE, if_neg (by rw [h]; decide), if_pos k]
theorem bE_ok {L : List M.Cl} (h : M.srt none L = true) (k : ¬ 4096 < L.length) : bE L = .tuple #[.string (S (M.tableT L)), .int .i64 0] := by rw [bE, if_neg (by rw [h]; decide), if_neg k]
def BuildR (L : List M.Cl) (w : World) (e : Ending) (w' : World) : Prop := e = .returned (bE L) ∧ Below w.heap.size w w'

set_option maxHeartbeats 4000000 in
set_option maxRecDepth 100000 in
theorem build10_any (L : List M.Cl) (hl : L.length ≤ 1000000) (ao : Option Addr) (cap : Nat) (hcap : L.length ≤ cap) (w : World) (hC : ClsAt w ao L) (hv : ∀ c ∈ L, ClOk c) :
    Calls Try.prog 24 #[.slice ao L.length cap] w fun e w' => BuildR L w e w' := by
  have HC := Lib.hid hC
  have HV := Lib.hid hv
  have CS := Lib.hid (sorted9_any L hl ao cap w hC hv)
  have HCAP := Lib.hid hcap
  clear hC hv hcap
  go_enter Try.func24, Try.ntmps24
  go_wp2_with fail
  with_reducible refine (CS.out).mono ?_
  rintro e w1 ⟨rfl, hb⟩
  have HB := Lib.hid hb
  clear hb CS
  cases hs : M.srt none L with
  | false =>
    have HS := Lib.hid hs
    clear hs
    go_wp2_with fail
    go_ret2
    exact ⟨by rw [bE_no HS.out]; rfl, HB.out⟩
  | true =>
    have HS := Lib.hid hs
    clear hs
    by_cases hL : 4096 < L.length
    · have q0 : decide ((4096 : Int) < (L.length : Int)) = true := by simp; omega
      go_wp2_with fail
      go_ret2
      exact ⟨by rw [bE_long HS.out hL]; rfl, HB.out⟩
    have q0 : decide ((4096 : Int) < (L.length : Int)) = false := by simp; omega
    have HM := Lib.hid (M.srt_may HS.out)
    have HWS := Lib.hid HB.out.size
    have HT := Lib.hid (bd2_new (w := (w1.alloc (.cells #[.pointer none, .slice none 0 0] 94)).alloc (.cells #[.pointer none, .slice none 0 0] 94)) (B := w1.heap.size) (b := w1.heap.size) (c := w1.heap.size + 1) (Nat.le_refl _) (Nat.le_succ _) (by omega) ((rowIn_new _ _ w1).more _) (rowIn_at _ _ _ _ (by rw [szA])))
    replace HB := carryA (w := w1) (.cells #[.pointer none, .slice none 0 0] 94) HB
    replace HB := carryA (w := w1.alloc (.cells #[.pointer none, .slice none 0 0] 94)) (.cells #[.pointer none, .slice none 0 0] 94) HB
    have hmany : ((L.length : Int) + 4 - 1).tdiv 4 = ((M.many L : Nat) : Int) := by unfold M.many; rw [Int.tdiv_eq_ediv_of_nonneg (by omega)]; omega
    have hmb : M.many L ≤ 1024 := by unfold M.many; omega
    have hlb := hL
    go_wp2_with fail
    with_reducible refine (put_nat (M.many L) _ (by omega)).mono ?_
    rintro e w2 ⟨rfl, hb2⟩
    replace HB := carry hb2 HB
    replace HT := carry hb2 HT
    have HSZ := Lib.hid (show w1.heap.size ≤ w2.heap.size from Nat.le_trans (by rw [szA, szA]; omega) hb2.size)
    clear hb2
    have hpl := (M.putN_length (M.many L)).2
    go_wp2_with fail
    with_reducible refine (write2_any w1.heap.size (w1.heap.size + 1) w1.heap.size [] [] (M.putN (M.many L)) w2 HT.out.symm (by simp; omega) HSZ.out).mono ?_
    rintro e w3 ⟨rfl, h3, hb3, -⟩
    rw [List.nil_append] at h3
    replace HT := Lib.hid h3.symm
    replace HB := Lib.hid (HB.out.trans (hb3.mono HWS.out))
    replace HSZ := Lib.hid (Nat.le_trans HSZ.out hb3.size)
    clear h3 hb3
    go_wp2_with fail
    go_loopw [6] (fun v wr => ∃ k i : Nat, k ≤ M.many L ∧ Hid (i = 4 * k) ∧ v = .int .i64 i ∧ Hid (Bd2 w1.heap.size w1.heap.size (w1.heap.size + 1) (M.bodyS k L) (M.putN (M.many L) ++ M.idxS k L) wr ∧ Below w.heap.size w wr ∧ w1.heap.size ≤ wr.heap.size)) (fun v _ => L.length + 4 - (intOf v).toNat)
    case atStart => exact ⟨0, 0, Nat.zero_le _, Lib.hid rfl, rfl, Lib.hid ⟨by simpa [M.bodyS, M.idxS] using HT.out, HB.out, HSZ.out⟩⟩
    case round =>
      clear HT HB HSZ
      obtain ⟨k, i, hk, HI, rfl, HH⟩ := hrel
      by_cases hlt : i < L.length
      · have hd : decide ((i : Int) < (L.length : Int)) = true := by simp; omega
        obtain ⟨j, hj⟩ : ∃ j, j = min (i + 4) L.length := ⟨_, rfl⟩
        obtain ⟨ao', cp, hrun, hcls⟩ := cut_blk L ao cap k i j HI.out hj hlt HCAP.out
        have HBC := Lib.hid (hcls wr (HC.out.below HH.out.2.1))
        have CE := Lib.hid (encode9_any (M.blk L k) (by have := M.blk_len4 L k; omega) ao' cp wr HBC.out (fun c hc => HV.out c (M.blk_mem hc)))
        unfold EncR at CE
        rw [M.srt_blk HS.out k] at CE
        simp only [if_true] at CE
        have hel := M.encCs_len (M.srt_blk HS.out k) (M.blk_len4 L k)
        have HBS := Lib.hid (show M.bodyS (k + 1) L = M.bodyS k L ++ M.wsum (M.encCs (M.blk L k)) from M.bodyS_snoc k L)
        have HIS := Lib.hid (show M.idxS (k + 1) L = M.idxS k L ++ (M.putT (L.getD i M.cl0).key ++ M.putN (M.encCs (M.blk L k)).length) from by rw [HI.out]; exact M.idxS_snoc k L)
        have hbl := M.body_len HS.out k
        have hil := M.idx_len HS.out k
        have hkl := M.key_len HS.out i
        have hwl := M.wsum_len (M.encCs (M.blk L k))
        have HWL := Lib.hid hwl
        clear hwl
        obtain ⟨g, off, rfl, hc⟩ := HC.out.off i hlt
        have HCL := Lib.hid hc
        have HMIN := Lib.hid hj
        have hj1 : j ≤ L.length := by omega
        have hj2 : i < j := by omega
        have hmin : min ((i : Int) + 4) (L.length : Int) = (j : Int) := by omega
        clear hj hc
        generalize L.getD i M.cl0 = c at *
        generalize M.blk L k = bk at *
        generalize M.encCs bk = eb at *
        generalize M.bodyS k L = bs at *
        generalize M.idxS k L = is at *
        go_wp2_with fail
        with_reducible refine (CE.out).mono ?_
        rintro e w4 ⟨rfl, hb4⟩
        replace HH := Lib.hid (⟨HH.out.1.below hb4, below_step HH.out.2.1 hb4, Nat.le_trans HH.out.2.2 hb4.size⟩ : Bd2 w1.heap.size w1.heap.size (w1.heap.size + 1) bs (M.putN (M.many L) ++ is) w4 ∧ Below w.heap.size w w4 ∧ w1.heap.size ≤ w4.heap.size)
        clear hb4 hrun hcls HBC CE
        go_wp2_with fail
        with_reducible refine (withSum_any eb (by omega) w4).mono ?_
        rintro e w5 ⟨rfl, hb4⟩
        replace HH := Lib.hid (⟨HH.out.1.below hb4, below_step HH.out.2.1 hb4, Nat.le_trans HH.out.2.2 hb4.size⟩ : Bd2 w1.heap.size w1.heap.size (w1.heap.size + 1) bs (M.putN (M.many L) ++ is) w5 ∧ Below w.heap.size w w5 ∧ w1.heap.size ≤ w5.heap.size)
        clear hb4
        go_wp2_with fail
        with_reducible refine (write2_any w1.heap.size w1.heap.size (w1.heap.size + 1) bs (M.putN (M.many L) ++ is) (M.wsum eb) w5 HH.out.1 (by rw [HWL.out]; omega) HH.out.2.2).mono ?_
        rintro e w6 ⟨rfl, h6, hb6, -⟩
        replace HH := Lib.hid (⟨h6, HH.out.2.1.trans (hb6.mono HWS.out), Nat.le_trans HH.out.2.2 hb6.size⟩ : Bd2 w1.heap.size w1.heap.size (w1.heap.size + 1) (bs ++ M.wsum eb) (M.putN (M.many L) ++ is) w6 ∧ Below w.heap.size w w6 ∧ w1.heap.size ≤ w6.heap.size)
        clear h6 hb6
        obtain ⟨x0, -, -⟩ := HCL.out.below HH.out.2.1
        have hii : (i : Int) < (L.length : Int) := by omega
        go_wp2_with fail
        with_reducible refine (putText_any c.key w6 (by omega)).mono ?_
        rintro e w7 ⟨rfl, hb4⟩
        replace HH := Lib.hid (⟨HH.out.1.below hb4, below_step HH.out.2.1 hb4, Nat.le_trans HH.out.2.2 hb4.size⟩ : Bd2 w1.heap.size w1.heap.size (w1.heap.size + 1) (bs ++ M.wsum eb) (M.putN (M.many L) ++ is) w7 ∧ Below w.heap.size w w7 ∧ w1.heap.size ≤ w7.heap.size)
        clear hb4 x0
        go_wp2_with fail
        with_reducible refine (put_nat eb.length w7 (by omega)).mono ?_
        rintro e w8 ⟨rfl, hb4⟩
        replace HH := Lib.hid (⟨HH.out.1.below hb4, below_step HH.out.2.1 hb4, Nat.le_trans HH.out.2.2 hb4.size⟩ : Bd2 w1.heap.size w1.heap.size (w1.heap.size + 1) (bs ++ M.wsum eb) (M.putN (M.many L) ++ is) w8 ∧ Below w.heap.size w w8 ∧ w1.heap.size ≤ w8.heap.size)
        clear hb4
        have hp1 := (M.putN_length c.key.length).2
        have hp2 := (M.putN_length eb.length).2
        have HIS2 := Lib.hid (show M.idxS (k + 1) L = is ++ ((M.putN c.key.length ++ c.key) ++ M.putN eb.length) from HIS.out)
        clear HIS
        generalize M.putN c.key.length = e1 at *
        generalize M.putN eb.length = e2 at *
        go_wp2_with fail
        with_reducible refine (write2_any w1.heap.size (w1.heap.size + 1) w1.heap.size (M.putN (M.many L) ++ is) (bs ++ M.wsum eb) _ w8 HH.out.1.symm (by simp only [List.length_append]; omega) HH.out.2.2).mono ?_
        rintro e w9 ⟨rfl, h6, hb6, -⟩
        have HH9 := Lib.hid (⟨by have h7 := h6.symm; rw [HBS.out, HIS2.out]; simpa only [List.append_assoc] using h7, HH.out.2.1.trans (hb6.mono HWS.out), Nat.le_trans HH.out.2.2 hb6.size⟩ : Bd2 w1.heap.size w1.heap.size (w1.heap.size + 1) (M.bodyS (k + 1) L) (M.putN (M.many L) ++ M.idxS (k + 1) L) w9 ∧ Below w.heap.size w w9 ∧ w1.heap.size ≤ w9.heap.size)
        clear h6 hb6 HH
        have HK1 := Lib.hid (show k + 1 ≤ M.many L from by have := HI.out; unfold M.many; omega)
        go_wp2_with fail
        go_roundw
        case rel => exact ⟨k + 1, i + 4, HK1.out, Lib.hid (by rw [HI.out]; omega), by go_num, HH9⟩
        case measure => simp [intOf]; omega
      · have hd : decide ((i : Int) < (L.length : Int)) = false := by simp; omega
        obtain rfl : k = M.many L := by have := HI.out; unfold M.many at *; omega
        have HBL := Lib.hid (M.body_len HS.out (M.many L))
        have HIL := Lib.hid (M.idx_len HS.out (M.many L))
        have HTT := Lib.hid (show M.tableT L = M.bodyS (M.many L) L ++ M.wsum (M.putN (M.many L) ++ M.idxS (M.many L) L) ++ (M.bigN (M.bodyS (M.many L) L).length ++ M.bigN L.length ++ M.spoorT) from rfl)
        have HBE := Lib.hid (bE_ok HS.out hL)
        have hbl := HBL.out
        have hil := HIL.out
        clear HBL HIL
        have HF := Lib.hid (HH.out.1.first)
        have HBc : Hid ((Lib.byteCells (M.bodyS (M.many L) L)).length = (M.bodyS (M.many L) L).length) := Lib.hid (by simp [Lib.byteCells])
        have CL := Lib.hid (Try.Builder_Len w1.heap.size w1.heap.size (Lib.byteCells (M.bodyS (M.many L) L)) wr HF.out)
        rw [HBc.out] at CL
        have hwl := M.wsum_len (M.putN (M.many L) ++ M.idxS (M.many L) L)
        rw [List.length_append] at hwl
        have HWL := Lib.hid hwl
        clear hwl HBc
        generalize M.bodyS (M.many L) L = bs at *
        generalize M.idxS (M.many L) L = is at *
        go_wp2_with fail
        with_reducible refine (CL.out).mono ?_
        rintro e w4 ⟨rfl, rfl⟩
        clear CL HF
        go_wp2_with fail
        with_reducible refine (big_nat bs.length w4 (by omega)).mono ?_
        rintro e w5 ⟨rfl, hb4⟩
        replace HH := Lib.hid (⟨HH.out.1.below hb4, below_step HH.out.2.1 hb4, Nat.le_trans HH.out.2.2 hb4.size⟩ : Bd2 w1.heap.size w1.heap.size (w1.heap.size + 1) bs (M.putN (M.many L) ++ is) w5 ∧ Below w.heap.size w w5 ∧ w1.heap.size ≤ w5.heap.size)
        clear hb4
        go_wp2_with fail
        with_reducible refine (big_nat L.length w5 (by omega)).mono ?_
        rintro e w6 ⟨rfl, hb4⟩
        replace HH := Lib.hid (⟨HH.out.1.below hb4, below_step HH.out.2.1 hb4, Nat.le_trans HH.out.2.2 hb4.size⟩ : Bd2 w1.heap.size w1.heap.size (w1.heap.size + 1) bs (M.putN (M.many L) ++ is) w6 ∧ Below w.heap.size w w6 ∧ w1.heap.size ≤ w6.heap.size)
        clear hb4
        have hg1 : (M.bigN bs.length).length ≤ 8 := by rw [M.bigN_length]; omega
        have hg2 : (M.bigN L.length).length ≤ 8 := by rw [M.bigN_length]; omega
        generalize M.bigN bs.length = f1 at *
        generalize M.bigN L.length = f2 at *
        go_wp2_with fail
        with_reducible refine (string2_any w1.heap.size w1.heap.size (w1.heap.size + 1) bs (M.putN (M.many L) ++ is) w6 HH.out.1 HH.out.2.2).mono ?_
        rintro e w7 ⟨rfl, h6, hb6⟩
        have HH7 := Lib.hid (⟨h6, HH.out.2.1.trans (hb6.mono HWS.out), Nat.le_trans HH.out.2.2 hb6.size⟩ : BdAt w1.heap.size (w1.heap.size + 1) (M.putN (M.many L) ++ is) w7 ∧ Below w.heap.size w w7 ∧ w1.heap.size ≤ w7.heap.size)
        clear h6 hb6 HH
        go_wp2_with fail
        with_reducible refine (bd_any HH7.out.1 HH7.out.2.2).mono ?_
        rintro e w8 ⟨rfl, hb6⟩
        have HB8 := Lib.hid (HH7.out.2.1.trans (hb6.mono HWS.out))
        clear hb6 HH7
        go_wp2_with fail
        with_reducible refine (withSum_any (M.putN (M.many L) ++ is) (by simp only [List.length_append]; omega) w8).mono ?_
        rintro e w9 ⟨rfl, hb4⟩
        have HB9 := Lib.hid (below_step HB8.out hb4)
        have hwl : (M.wsum (M.putN (M.many L) ++ is)).length ≤ 100000000 := by rw [HWL.out]; omega
        clear hb4 HB8 HWL
        generalize M.wsum (M.putN (M.many L) ++ is) = ws at *
        go_wp2_with fail
        go_ret2
        exact ⟨by rw [HBE.out, HTT.out]; simp only [List.append_assoc, M.spoorT]; rfl, HB9.out⟩

end Go.Proofs.Ythidmgnfdikppaa

/- Layer 10: the table of a text, by a contract. -/
namespace Go.Proofs.Ythidmgnfdikppaa
set_option linter.unusedVariables false
open Go Go.RowKit
attribute [local go_sem ↓] run_index_S
attribute [local go_sem] S_append S_extract

theorem infoSt10 : (Try.prog.info? 9).map (fun i => (i.zero, i.size, i.bytes)) = some (some (.string ByteArray.empty), 1, 16) := by kernel_rfl
/-- Texts as cells. -/
def txs10 (ps : List (List UInt8)) : List Value := ps.map fun p => Value.string (S p)
theorem txs10_len (ps : List (List UInt8)) : (txs10 ps).length = ps.length := by simp [txs10]
theorem txs10_snoc (ps : List (List UInt8)) (p : List UInt8) : txs10 (ps ++ [p]) = txs10 ps ++ [.string (S p)] := by simp [txs10]
/-- A table that is laid: of each block its bytes, and its first key. -/
structure TabRow (B p : Nat) (vB vF : Value) (Bk F : List (List UInt8)) (n : Int) (w : World) : Prop where
  row : RowIn #[vB, vF, .int .i64 n] 57 w p
  b : w.ownsRow B 9 1 vB Bk.length (txs10 Bk)
  f : w.ownsRow B 9 1 vF F.length (txs10 F)
  ne : ∀ q, vB.ownBlock = some q → vF.ownBlock ≠ some q
def TabAt (L : List M.Cl) (p : Nat) (w : World) : Prop := ∃ B vB vF, TabRow B p vB vF (M.blksB L (M.many L)) (M.firsts L (M.many L)) L.length w
theorem TabRow.below {B p : Nat} {vB vF : Value} {Bk F : List (List UInt8)} {n : Int} {w w' : World} (h : TabRow B p vB vF Bk F n w) (hb : Below w.heap.size w w') : TabRow B p vB vF Bk F n w' :=
  ⟨h.row.below hb, ownP_below h.b hb, ownP_below h.f hb, h.ne⟩
theorem TabAt.below {L : List M.Cl} {p : Nat} {w w' : World} (h : TabAt L p w) (hb : Below w.heap.size w w') : TabAt L p w' := by
  obtain ⟨B, vB, vF, h⟩ := h
  exact ⟨B, vB, vF, h.below hb⟩
instance car_tab {w w' : World} {L : List M.Cl} {p : Nat} : Car w w' (TabAt L p w) (TabAt L p w') := ⟨fun hb h => h.below hb⟩
theorem IdxAt.below {b : Nat} {x bl : M.RS} {w w' : World} (h : IdxAt b x bl w) (hb : Below w.heap.size w w') : IdxAt b x bl w' := ⟨h.row.below hb, h.l1, h.l2⟩
/-- What Open comes to. -/
def OpenR10 (t : List UInt8) (w : World) (e : Ending) (w' : World) : Prop := (match M.openT t with
  | none => e = .returned (.tuple #[.pointer none, .int .i64 30])
  | some L => ∃ p, e = .returned (.tuple #[.pointer (some ⟨p, 0, none⟩), .int .i64 0]) ∧ TabAt L p w') ∧ Below w.heap.size w w'
theorem openR10_none {t : List UInt8} {w w' : World} (h : ∀ L, ¬ M.IsT t L) (hb : Below w.heap.size w w') : OpenR10 t w (.returned (.tuple #[.pointer none, .int .i64 30])) w' := by
  unfold OpenR10
  rw [M.openT_none h]
  exact ⟨rfl, hb⟩
theorem openR10_some {t : List UInt8} {L : List M.Cl} {p : Nat} {w w' : World} (h : M.IsT t L) (ht : TabAt L p w') (hb : Below w.heap.size w w') : OpenR10 t w (.returned (.tuple #[.pointer (some ⟨p, 0, none⟩), .int .i64 0])) w' := by
  unfold OpenR10
  rw [M.openT_some h]
  exact ⟨⟨p, rfl, ht⟩, hb⟩
/-- What has been read, after so many entries. -/
structure Read10 (t : List UInt8) (k n : Nat) (x bl : M.RS) (C : List M.Cl) (Bk F : List (List UInt8)) : Prop where
  lb : Bk.length = k
  lf : F.length = k
  kx : k + x.t.length ≤ 1000000
  cl : C.length + bl.t.length ≤ 1000000
  ok : ∀ c ∈ C, ClOk c
  is : ∀ L, M.IsT t L → k + n = M.many L ∧ x = ⟨M.idxS n (L.drop (4 * k)), false⟩ ∧ bl = ⟨M.bodyS n (L.drop (4 * k)), false⟩ ∧ C = L.take (4 * k) ∧ F = M.firsts L k ∧ Bk = M.blksB L k
/-- What is read first. -/
theorem isT_len {t : List UInt8} {L : List M.Cl} (h : M.IsT t L) : 25 ≤ t.length := by
  rw [← h.t, M.tab_len]; omega
theorem M.bigR_big (n : Nat) (h : n ≤ 9223372036854775807) (z : List UInt8) : M.bigR ⟨M.bigN n ++ z, false⟩ = (n, ⟨z, false⟩) := by
  have e1 : M.cutR ⟨M.bigN n ++ z, false⟩ 8 = (M.bigN n, ⟨z, false⟩) := M.cutR_app' _ _ 8 (by rw [M.bigN_length]; rfl)
  have e2 := M.ofBigs_big [] [] n h
  simp only [List.nil_append, List.append_nil, List.length_nil] at e2
  have e0 : ((0 : Nat) : Int) = 0 := rfl
  rw [e0] at e2
  unfold M.bigR
  rw [e1]
  simp only [e2]
theorem isT_body {t : List UInt8} {L : List M.Cl} (h : M.IsT t L) : (M.bodyT L).length ≤ 1000 * 1024 := by
  have h1 := M.body_len h.s (M.many L)
  have h2 := h.n
  have : M.many L ≤ 1024 := by unfold M.many; omega
  unfold M.bodyT
  omega
theorem isT_foot {t : List UInt8} {L : List M.Cl} (h : M.IsT t L) : ∃ z, M.bigR ⟨t.drop (t.length - 21), false⟩ = ((M.bodyT L).length, ⟨z, false⟩) := by
  have h1 := isT_body h
  have e := M.tab_foot L
  rw [h.t] at e
  rw [e, M.bigR_big _ (by omega)]
  exact ⟨_, rfl⟩
theorem isT_size {t : List UInt8} {L : List M.Cl} (h : M.IsT t L) : (M.bodyT L).length ≤ t.length - 25 := by
  rw [← h.t, M.tab_len]; omega
/-- What the rests begin with. -/
theorem isT_start {t : List UInt8} {L : List M.Cl} (h : M.IsT t L) : M.numR ⟨(t.take (t.length - 25)).drop (M.bodyT L).length, false⟩ = (M.many L, ⟨M.idxS (M.many L) L, false⟩) ∧ (t.take (t.length - 25)).take (M.bodyT L).length = M.bodyS (M.many L) L := by
  have e := M.tab_body L
  rw [h.t] at e
  rw [e]
  have hm : M.many L ≤ 1025 := by have := h.n; unfold M.many; omega
  refine ⟨?_, ?_⟩
  · rw [List.drop_append_of_le_length (Nat.le_refl _), List.drop_of_length_le (Nat.le_refl _), List.nil_append, M.idxT, M.numR_put _ (by omega)]
  · rw [List.take_append_of_le_length (Nat.le_refl _), List.take_of_length_le (Nat.le_refl _)]; rfl
theorem M.numR_lt {r : M.RS} (h : (M.numR r).2.b = false) : (M.numR r).2.t.length + 1 ≤ r.t.length ∧ r.b = false := by
  obtain ⟨t, b⟩ := r
  unfold M.numR at h ⊢
  cases hg : M.gets t 0 with
  | none => simp [hg] at h
  | some x =>
    obtain ⟨n, nx⟩ := x
    simp only [hg] at h ⊢
    obtain ⟨g1, g2, g3, _⟩ := M.gets_bounds hg
    cases b with
    | true => simp at h
    | false => simp; omega
theorem M.cutR_ok {r : M.RS} {n : Int} (h : (M.cutR r n).2.b = false) : (M.cutR r n).1.length + (M.cutR r n).2.t.length = r.t.length ∧ r.b = false := by
  unfold M.cutR at h ⊢
  split at h
  · rename_i hc
    rw [if_pos hc]
    refine ⟨?_, hc.1⟩
    simp only [List.length_take, List.length_drop]
    omega
  · cases h
theorem M.entR_len {x bl x' bl' : M.RS} {fs bk : List UInt8} (he : M.entR x bl = ⟨fs, bk, x', bl'⟩) (hx : x'.b = false) (hb : bl'.b = false) : x'.t.length + 1 ≤ x.t.length ∧ bk.length + bl'.t.length ≤ bl.t.length := by
  unfold M.entR at he
  injection he with h1 h2 h3 h4
  subst h1 h2 h3 h4
  obtain ⟨a1, a2⟩ := M.numR_lt hx
  unfold M.keyR at a1 a2
  obtain ⟨b1, b2⟩ := M.cutR_ok a2
  have b3 := M.numR_len x
  obtain ⟨c1, c2⟩ := M.cutR_ok hb
  obtain ⟨d1, d2⟩ := M.cutR_ok c2
  unfold M.keyR at *
  constructor <;> omega
theorem Read10.step {t : List UInt8} {k n : Nat} {x bl x' bl' : M.RS} {C Ln : List M.Cl} {Bk F : List (List UInt8)} {fs bk : List UInt8} (h : Read10 t k (n + 1) x bl C Bk F) (he : M.entR x bl = ⟨fs, bk, x', bl'⟩) (hx : x'.b = false) (hb : bl'.b = false) (hd : M.decC bk = some Ln) :
    Read10 t (k + 1) n x' bl' (C ++ Ln) (Bk ++ [bk]) (F ++ [fs]) := by
  obtain ⟨e1, e2⟩ := M.entR_len he hx hb
  have e3 := M.decC_len hd
  obtain ⟨o1, -, -⟩ := decC_oks hd
  refine ⟨by simp [h.lb], by simp [h.lf], by have := h.kx; omega, by have := h.cl; simp only [List.length_append]; omega, fun c hc => ?_, fun L hL => ?_⟩
  · rcases List.mem_append.1 hc with hc | hc
    · exact h.ok c hc
    · exact o1 c hc
  · obtain ⟨i1, rfl, rfl, i4, i5, i6⟩ := h.is L hL
    rw [M.entR_is (M.srt_drop hL.s _) n] at he
    injection he with h1 h2 h3 h4
    have hdr : (L.drop (4 * k)).drop 4 = L.drop (4 * (k + 1)) := by rw [List.drop_drop]; congr 1
    rw [hdr] at h3 h4
    have hbk : M.encCs (M.blk L k) = bk := h2
    have hLn : Ln = M.blk L k := by
      have := M.dec_encC (M.srt_blk hL.s k) (fun c hc => hL.q c (M.blk_mem hc)) (by have := M.blk_len4 L k; omega)
      rw [hbk, hd] at this
      injection this
    refine ⟨by omega, h3.symm, h4.symm, by rw [i4, hLn, M.take_blk], ?_, by rw [i6, M.blksB_snoc, hbk]⟩
    rw [i5, M.firsts_snoc, ← h1]
    simp [List.getD]
theorem Read10.bad {t : List UInt8} {k n : Nat} {x bl x' bl' : M.RS} {C : List M.Cl} {Bk F : List (List UInt8)} {fs bk : List UInt8} (h : Read10 t k (n + 1) x bl C Bk F) (he : M.entR x bl = ⟨fs, bk, x', bl'⟩) (hbad : x'.b = true ∨ bl'.b = true ∨ M.decC bk = none) :
    ∀ L, ¬ M.IsT t L := fun L hL => by
  obtain ⟨i1, rfl, rfl, i4, i5, i6⟩ := h.is L hL
  rw [M.entR_is (M.srt_drop hL.s _) n] at he
  injection he with h1 h2 h3 h4
  subst h3 h4
  rcases hbad with q | q | q
  · cases q
  · cases q
  · have hbk : M.encCs (M.blk L k) = bk := h2
    have := M.dec_encC (M.srt_blk hL.s k) (fun c hc => hL.q c (M.blk_mem hc)) (by have := M.blk_len4 L k; omega)
    rw [hbk, q] at this
    cases this
/-- At the end. -/
theorem Read10.fin {t : List UInt8} {k : Nat} {x bl : M.RS} {C : List M.Cl} {Bk F : List (List UInt8)} (h : Read10 t k 0 x bl C Bk F) (hs : M.srt none C = true) (hn : ¬ 4096 < C.length) (ht : M.tableT C = t) : M.IsT t C ∧ F = M.firsts C (M.many C) ∧ Bk = M.blksB C (M.many C) := by
  have hi : M.IsT t C := ⟨hs, by omega, fun c hc => (h.ok c hc).2.2.h2, ht⟩
  obtain ⟨i1, _, _, _, i5, i6⟩ := h.is C hi
  have : k = M.many C := by omega
  subst this
  exact ⟨hi, i5, i6⟩
theorem Read10.finBad {t : List UInt8} {k : Nat} {x bl : M.RS} {C : List M.Cl} {Bk F : List (List UInt8)} (h : Read10 t k 0 x bl C Bk F) (hb : M.srt none C = false ∨ 4096 < C.length ∨ M.tableT C ≠ t) : ∀ L, ¬ M.IsT t L := fun L hL => by
  obtain ⟨i1, _, _, i4, _⟩ := h.is L hL
  have : k = M.many L := by omega
  subst this
  rw [M.take_many] at i4
  subst i4
  rcases hb with q | q | q
  · rw [hL.s] at q; cases q
  · have := hL.n; omega
  · exact q hL.t
/-- An append, as a step of a region: what its run comes to. -/
theorem step_append_run {P : Program} {w : World} {ops : Array Oper} {o : Oper} {a : Act} {K : Act → World → Prop} {Q : Exit → Act → World → Prop} {E : Prop} (hgd : o.guard = none) (s x : Operand) (t : TypeId)
    (ho : o.op = .call { callee := .builtin .append, args := #[s, x], argTypes := #[t, t] }) {v u v' : Value} {w' : World} (hs : a.eval s = v) (hx : a.eval x = u)
    (hr : (Builtin.append_ #[t, t] o.type #[v, u]).run P w = .ok v' w') (h : K (a.put o.dst v') w') :
    if Region.wanted o (yielded ops a.tmps) = true then Oper.wp P o a w K Q else E := by
  have hw : Region.wanted o (yielded ops a.tmps) = true := by simp [Region.wanted, hgd]
  rw [if_pos hw]
  unfold Oper.wp execOp
  simp only [ho, resolve, invoke, builtin, Sem.run_bind, Sem.run_pure, Result.andThen_ok, List.map_toArray, List.map_cons, List.map_nil, hs, hx, hr]
  exact h
theorem append_st10 (w : World) (base : Nat) (t ty : TypeId) (ht : Try.prog.underlying t = some (.slice 9)) (v : Value) (ps : List (List UInt8)) (ho : w.ownsRow base 9 1 v ps.length (txs10 ps)) (g c : Nat) (p : List UInt8) (hg : RowIn #[.string (S p)] 9 w g) (hl : ps.length ≤ 1000000) (hb : base ≤ w.heap.size) :
    ∃ v' w', (Builtin.append_ #[t, t] ty #[v, .slice (some ⟨g, 0, none⟩) 1 c]).run Try.prog w = .ok v' w' ∧ w'.ownsRow base 9 1 v' (ps ++ [p]).length (txs10 (ps ++ [p])) ∧ w.grownBy w' v.ownBlock ∧ (v'.ownBlock = v.ownBlock ∨ v'.ownBlock = some w.heap.size) := by
  obtain ⟨iS, hiS, hzS, hsS, hbS⟩ := info_parts infoSt10
  obtain ⟨v', w', hr, h2, h3, -, h5⟩ := run_append_own_at (P := Try.prog) w base t ty 9 iS (.string ByteArray.empty) 1 16 ht hiS hzS hsS hbS rfl (by decide) v ps.length (txs10 ps) ho ⟨g, 0, none⟩ 1 c [.string (S p)] rfl (fun j u hu => add_row hg rfl j u hu) (by simp [Value.oneCell']) (by unfold maxLen; omega) (by omega) hb
  exact ⟨v', w', hr, by rw [txs10_snoc, List.length_append]; exact h2, h3, h5⟩
/-- A piece of one text, made for an append. -/
def Pc10 (x : Value) (p : List UInt8) (w : World) (v u : Value) : Prop := ∃ g, x = .slice (some ⟨g, 0, none⟩) 1 1 ∧ RowIn #[.string (S p)] 9 w g ∧ v.ownBlock ≠ some g ∧ u.ownBlock ≠ some g
theorem Pc10.below {x : Value} {p : List UInt8} {w w' : World} {v u : Value} (h : Pc10 x p w v u) (hb : Below w.heap.size w w') : Pc10 x p w' v u := by
  obtain ⟨g, h1, h2, h3, h4⟩ := h
  exact ⟨g, h1, h2.below hb, h3, h4⟩
theorem Pc10.symm {x : Value} {p : List UInt8} {w : World} {v u : Value} (h : Pc10 x p w v u) : Pc10 x p w u v := by
  obtain ⟨g, h1, h2, h3, h4⟩ := h
  exact ⟨g, h1, h2, h4, h3⟩
/-- What the region has: the table that is laid, the index, the rows. -/
structure Rs10 (W : World) (bx bt : Nat) (x bl : M.RS) (vB0 vF0 vB vF vC : Value) (Bk F : List (List UInt8)) (C : List M.Cl) (w : World) : Prop where
  row : RowIn #[vB0, vF0, .int .i64 0] 57 w bt
  idx : IdxAt bx x bl w
  b : w.ownsRow W.heap.size 9 1 vB Bk.length (txs10 Bk)
  f : w.ownsRow W.heap.size 9 1 vF F.length (txs10 F)
  c : w.ownsRow W.heap.size 38 3 vC C.length (cls C)
  ne : ∀ q, vB.ownBlock = some q → vF.ownBlock ≠ some q
  bel : Below W.heap.size W w
theorem Rs10.below {W : World} {bx bt : Nat} {x bl : M.RS} {vB0 vF0 vB vF vC : Value} {Bk F : List (List UInt8)} {C : List M.Cl} {w w' : World} (h : Rs10 W bx bt x bl vB0 vF0 vB vF vC Bk F C w) (hb : Below w.heap.size w w') : Rs10 W bx bt x bl vB0 vF0 vB vF vC Bk F C w' :=
  ⟨h.row.below hb, h.idx.below hb, ownP_below h.b hb, ownP_below h.f hb, ownP_below h.c hb, h.ne, below_step h.bel hb⟩
theorem row_kept10 {w w' : World} {C : Array Value} {T : TypeId} {g : Nat} {row : Option Nat} (h : RowIn C T w g) (hg : w.grownBy w' row) (hn : row ≠ some g) : RowIn C T w' g :=
  h.grownP hg (fun q hq e => hn (by rw [hq, e]))
theorem Pc10.grown {x : Value} {p : List UInt8} {w w' : World} {v u v' : Value} (h : Pc10 x p w v u) (hg : w.grownBy w' v.ownBlock) (hat : v'.ownBlock = v.ownBlock ∨ v'.ownBlock = some w.heap.size) : Pc10 x p w' v' u := by
  obtain ⟨g, h1, h2, h3, h4⟩ := h
  refine ⟨g, h1, row_kept10 h2 hg h3, fun e => ?_, h4⟩
  rcases hat with k | k
  · exact h3 (k ▸ e)
  · rw [k] at e
    injection e with e
    have := h2.lt
    omega
theorem Rs10.appF {W : World} {bx bt : Nat} {x bl : M.RS} {vB0 vF0 vB vF vC vF' : Value} {Bk F : List (List UInt8)} {C : List M.Cl} {p : List UInt8} {w w' : World} (h : Rs10 W bx bt x bl vB0 vF0 vB vF vC Bk F C w) (ho : w'.ownsRow W.heap.size 9 1 vF' (F ++ [p]).length (txs10 (F ++ [p]))) (hg : w.grownBy w' vF.ownBlock) (hat : vF'.ownBlock = vF.ownBlock ∨ vF'.ownBlock = some w.heap.size) :
    Rs10 W bx bt x bl vB0 vF0 vB vF' vC Bk (F ++ [p]) C w' := by
  refine ⟨row_kept10 h.row hg (fun e => row_apart h.row h.f (by decide) bt e rfl), ⟨row_kept10 h.idx.row hg (fun e => row_apart h.idx.row h.f (by decide) bx e rfl), h.idx.l1, h.idx.l2⟩, h.b.kept hg ?_, ho, h.c.kept hg (own_apart h.c h.f (by decide)), fun q hq e => ?_, h.bel.grown hg h.bel.size (fun k hk => (h.f.lt k hk).1)⟩
  · cases hb : vB.ownBlock with
    | none => exact .inl rfl
    | some q => exact .inr (fun e => h.ne q hb e.symm)
  · rcases hat with k | k
    · exact h.ne q hq (k ▸ e)
    · rw [k] at e
      injection e with e
      have := (h.b.lt q hq).2
      omega
theorem Rs10.flip {W : World} {bx bt : Nat} {x bl : M.RS} {vB0 vF0 vB vF vC : Value} {Bk F : List (List UInt8)} {C : List M.Cl} {w : World} (h : Rs10 W bx bt x bl vB0 vF0 vB vF vC Bk F C w) : Rs10 W bx bt x bl vB0 vF0 vF vB vC F Bk C w :=
  ⟨h.row, h.idx, h.f, h.b, h.c, fun q hq e => h.ne q e hq, h.bel⟩
theorem Rs10.appC {W : World} {bx bt : Nat} {x bl : M.RS} {vB0 vF0 vB vF vC vC' : Value} {Bk F : List (List UInt8)} {C C' : List M.Cl} {w w' : World} (h : Rs10 W bx bt x bl vB0 vF0 vB vF vC Bk F C w) (ho : w'.ownsRow W.heap.size 38 3 vC' C'.length (cls C')) (hg : w.grownBy w' vC.ownBlock) :
    Rs10 W bx bt x bl vB0 vF0 vB vF vC' Bk F C' w' :=
  ⟨row_kept10 h.row hg (fun e => row_apart h.row h.c (by decide) bt e rfl), ⟨row_kept10 h.idx.row hg (fun e => row_apart h.idx.row h.c (by decide) bx e rfl), h.idx.l1, h.idx.l2⟩, h.b.kept hg (own_apart h.b h.c (by decide)), h.f.kept hg (own_apart h.f h.c (by decide)), ho, h.ne, h.bel.grown hg h.bel.size (fun k hk => (h.c.lt k hk).1)⟩
/-- Cells that were decoded, apart from those that are kept. -/
def Ln10 (al : Option Addr) (Ln : List M.Cl) (cl : Nat) (vC : Value) (w : World) : Prop := ∃ B, w.ownsRow B 38 3 (.slice al Ln.length cl) Ln.length (cls Ln) ∧ ∀ q, (Value.slice al Ln.length cl).ownBlock = some q → vC.ownBlock ≠ some q
theorem Ln10.below {al : Option Addr} {Ln : List M.Cl} {cl : Nat} {vC : Value} {w w' : World} (h : Ln10 al Ln cl vC w) (hb : Below w.heap.size w w') : Ln10 al Ln cl vC w' := by
  obtain ⟨B, h1, h2⟩ := h
  exact ⟨B, ownP_below h1 hb, h2⟩
theorem Ln10.grown {al : Option Addr} {Ln : List M.Cl} {cl : Nat} {vC v : Value} {w w' : World} {B n : Nat} {xs : List Value} (h : Ln10 al Ln cl vC w) (ho : w.ownsRow B 9 1 v n xs) (hg : w.grownBy w' v.ownBlock) : Ln10 al Ln cl vC w' := by
  obtain ⟨B', h1, h2⟩ := h
  exact ⟨B', h1.kept hg (own_apart h1 ho (by decide)), h2⟩

end Go.Proofs.Ythidmgnfdikppaa

/- Layer 10: where in a table a key may begin, by contracts. -/
namespace Go.Proofs.Ythidmgnfdikppaa
set_option linter.unusedVariables false
open Go Go.RowKit
attribute [local go_sem ↓] run_index_S
attribute [local go_sem] S_append S_extract

theorem own_slice10 {w : World} {B n sz : Nat} {e : TypeId} {v : Value} {xs : List Value} (h : w.ownsRow B e sz v n xs) (hn : 0 < n) : ∃ g cap, v = .slice (some ⟨g, 0, none⟩) n cap ∧ n ≤ cap ∧ ∀ j u, xs[j]? = some u → w.cell? ⟨g, j, none⟩ = some u := by
  rcases h.2 with ⟨_, h0⟩ | ⟨g, cap, cur, rfl, hB, hg, hc, _⟩
  · omega
  · refine ⟨g, cap, rfl, hc, fun j u hu => ?_⟩
    have := h.cells (g := g) rfl j u hu
    rwa [Addr.add_lit, Nat.zero_add] at this
theorem txs10_get {ps : List (List UInt8)} {i : Nat} (h : i < ps.length) : (txs10 ps)[i]? = some (.string (S (ps.getD i []))) := by
  simp [txs10, List.getD, h]
/-- Does a block begin at the key, or behind it? -/
def M.beg (F : List (List UInt8)) (key : List UInt8) (i : Nat) : Bool := !Op.bytesLess (F.getD i []) key
set_option maxHeartbeats 2000000 in
set_option maxRecDepth 100000 in
theorem begins10_any (B p : Nat) (vB vF : Value) (Bk F : List (List UInt8)) (n : Int) (key : List UInt8) (i : Nat) (w : World) (h : TabRow B p vB vF Bk F n w) (hi : i < F.length) (hF : F.length ≤ 1000000) :
    Calls Try.prog 119 #[.agg #[.pointer (some ⟨p, 0, none⟩), .string (S key)], .int .i64 i] w fun e w' => e = .returned (.bool (M.beg F key i)) ∧ Below w.heap.size w w' := by
  obtain ⟨g, cap, rfl, hc, hcell⟩ := own_slice10 h.f (by omega)
  have hb := (Below.refl w.heap.size w).alloc (Nat.le_refl _) (.cells #[.pointer (some ⟨p, 0, none⟩), .string (S key)] 150)
  have hn := rowIn_new #[.pointer (some ⟨p, 0, none⟩), .string (S key)] 150 w
  have c0 : (w.alloc (.cells #[.pointer (some ⟨p, 0, none⟩), .string (S key)] 150)).cell? ⟨w.heap.size, 0, none⟩ = some (.pointer (some ⟨p, 0, none⟩)) := hn.cell 0
  have c1 : (w.alloc (.cells #[.pointer (some ⟨p, 0, none⟩), .string (S key)] 150)).cell? ⟨w.heap.size, 1, none⟩ = some (.string (S key)) := hn.cell 1
  have c2 : (w.alloc (.cells #[.pointer (some ⟨p, 0, none⟩), .string (S key)] 150)).cell? ⟨p, 1, none⟩ = some (.slice (some ⟨g, 0, none⟩) F.length cap) := (h.row.below hb).cell 1
  have c3 : (w.alloc (.cells #[.pointer (some ⟨p, 0, none⟩), .string (S key)] 150)).cell? ⟨g, i, none⟩ = some (.string (S (F.getD i []))) := by
    have k := hcell i _ (txs10_get hi)
    exact (hb.cell (p := ⟨g, i, none⟩) (block_lt_of_cell k)).trans k
  have hii : (i : Int) < (F.length : Int) := by omega
  have HB := Lib.hid hb
  have HE : Hid (M.beg F key i = !Op.bytesLess (F.getD i []) key) := Lib.hid rfl
  clear hb hn h hcell
  generalize F.getD i [] = f at *
  go_enter Try.func119, Try.ntmps119
  go_wp2_with fail
  go_quiet (fail)
  go_wp2_with fail
  go_ret
  exact ⟨by rw [HE.out]; rfl, below_drewN HB.out _⟩
/-- The least place from which on it says yes. -/
def SearchR (q : Nat → Bool) (n : Nat) (w : World) (e : Ending) (w' : World) : Prop := ∃ r : Nat, e = .returned (.int .i64 r) ∧ r ≤ n ∧ (∀ k, k < r → q k = false) ∧ (∀ k, r ≤ k → k < n → q k = true) ∧ Below w.heap.size w w'
set_option maxHeartbeats 2000000 in
set_option maxRecDepth 100000 in
theorem search10_any (B p : Nat) (vB vF : Value) (Bk F : List (List UInt8)) (n : Int) (key : List UInt8) (w : World) (h : TabRow B p vB vF Bk F n w) (hF : F.length ≤ 1000000) (hm : ∀ a b, a ≤ b → b < F.length → M.beg F key a = true → M.beg F key b = true) :
    Calls Try.prog 102 #[.int .i64 F.length, .func (.func 119) #[.agg #[.pointer (some ⟨p, 0, none⟩), .string (S key)]] #[]] w fun e w' => SearchR (M.beg F key) F.length w e w' := by
  have HT := Lib.hid h
  have HB := Lib.hid (Below.refl w.heap.size w)
  have HM := Lib.hid hm
  clear h hm
  go_enter Try.func102, Try.ntmps102
  go_wp2_with fail
  go_loopw [5, 6] (fun vi vj wr => ∃ i j : Nat, i ≤ j ∧ j ≤ F.length ∧ vi = .int .i64 i ∧ vj = .int .i64 j ∧ Hid (∀ k, k < i → M.beg F key k = false) ∧ Hid (∀ k, j ≤ k → k < F.length → M.beg F key k = true) ∧ Hid (Below w.heap.size w wr)) (fun vi vj _ => (intOf vj).toNat - (intOf vi).toNat)
  case atStart => exact ⟨0, F.length, Nat.zero_le _, Nat.le_refl _, rfl, rfl, Lib.hid (fun k hk => by omega), Lib.hid (fun k h1 h2 => by omega), HB⟩
  case round =>
    obtain ⟨i, j, hij, hj, rfl, rfl, H1, H2, HBr⟩ := hrel
    clear HB
    by_cases hlt : i < j
    · have d1 : decide ((i : Int) < (j : Int)) = true := by simp; omega
      have d2 : decide (i < j) = true := by simp; omega
      obtain ⟨h, hh⟩ : ∃ h, h = (i + j) / 2 := ⟨_, rfl⟩
      have h1 : i ≤ h := by omega
      have h2 : h < j := by omega
      have hc : ((i : Int) + (j : Int)) / 2 = (h : Int) := by omega
      have CB := Lib.hid (begins10_any B p vB vF Bk F n key h wr (HT.out.below HBr.out) (by omega) hF)
      clear hh
      go_wp2_with fail
      with_reducible refine (CB.out).mono ?_
      rintro e w1 ⟨rfl, hb⟩
      have HB1 := Lib.hid (below_step HBr.out hb)
      clear hb CB hc
      cases hq : M.beg F key h with
      | true =>
        have HQ := Lib.hid hq
        clear hq
        go_wp2_with fail
        go_roundw
        case rel => exact ⟨i, h, h1, by omega, rfl, rfl, H1, Lib.hid (fun k k1 k2 => HM.out h k k1 k2 HQ.out), HB1⟩
        case measure => simp [intOf]; omega
      | false =>
        have HQ := Lib.hid hq
        clear hq
        go_wp2_with fail
        go_roundw
        case rel => exact ⟨h + 1, j, by omega, hj, by go_num, rfl, Lib.hid (fun k k1 => by
          cases hk : M.beg F key k with
          | false => rfl
          | true => have := HM.out k h (by omega) (by omega) hk; rw [HQ.out] at this; cases this), H2, HB1⟩
        case measure => simp [intOf]; omega
    · obtain rfl : i = j := by omega
      have d1 : decide ((i : Int) < (i : Int)) = false := by simp
      have d2 : decide (i < i) = false := by simp
      go_wp2_with fail
      go_ret
      exact ⟨i, rfl, hj, H1.out, H2.out, HBr.out⟩
theorem M.firsts_mono {L : List M.Cl} (h : M.srt none L = true) (key : List UInt8) : ∀ a b, a ≤ b → b < (M.firsts L (M.many L)).length → M.beg (M.firsts L (M.many L)) key a = true → M.beg (M.firsts L (M.many L)) key b = true := fun a b hab hb ha => by
  rw [M.firsts_len] at hb
  unfold M.beg at *
  rw [M.firsts_get L (by omega)] at ha
  rw [M.firsts_get L hb]
  have hbl : 4 * b < L.length := by unfold M.many at hb; omega
  have k := M.key_mono h (i := 4 * a) (j := 4 * b) (by omega) hbl
  cases q : Op.bytesLess (L.getD (4 * b) M.cl0).key key with
  | false => rfl
  | true => rw [M.le_less k q] at ha; cases ha
/-- The block at which one begins. -/
def M.startOk (L : List M.Cl) (key : List UInt8) (s : Nat) : Prop := s ≤ M.many L ∧ (s = 0 ∨ (4 * s < L.length ∧ Op.bytesLess (L.getD (4 * s) M.cl0).key key = true))
def StartR (L : List M.Cl) (key : List UInt8) (w : World) (e : Ending) (w' : World) : Prop := ∃ s : Nat, e = .returned (.int .i64 s) ∧ M.startOk L key s ∧ Below w.heap.size w w'
set_option maxHeartbeats 2000000 in
set_option maxRecDepth 100000 in
theorem start10_any (L : List M.Cl) (p : Nat) (key : List UInt8) (w : World) (h : TabAt L p w) (hs : M.srt none L = true) (hl : L.length ≤ 4096) :
    Calls Try.prog 87 #[.pointer (some ⟨p, 0, none⟩), .string (S key)] w fun e w' => StartR L key w e w' := by
  obtain ⟨B, vB, vF, hr⟩ := h
  have hm : M.many L ≤ 1024 := by unfold M.many; omega
  have CS := Lib.hid (search10_any B p vB vF (M.blksB L (M.many L)) (M.firsts L (M.many L)) L.length key w hr (by rw [M.firsts_len]; omega) (M.firsts_mono hs key))
  rw [M.firsts_len] at CS
  obtain ⟨ao, cap, rfl⟩ := ownP_shape hr.f
  have c1 : w.cell? ⟨p, 1, none⟩ = some (.slice ao (M.firsts L (M.many L)).length cap) := hr.row.cell 1
  rw [M.firsts_len] at c1
  have hmf : ∀ (fn : Fn) (first cap : Array Value) (w : World), (Instr.makeFunc fn first cap).run Try.prog w = .ok (.func fn first cap) w := fun _ _ _ _ => rfl
  have HF := Lib.hid (show ∀ k, k < M.many L → M.beg (M.firsts L (M.many L)) key k = false → 4 * k < L.length ∧ Op.bytesLess (L.getD (4 * k) M.cl0).key key = true from fun k hk hb => by
    unfold M.beg at hb
    rw [M.firsts_get L hk] at hb
    exact ⟨by unfold M.many at hk; omega, by simpa using hb⟩)
  clear hr
  go_enter Try.func87, Try.ntmps87
  go_wp2_with fail
  with_reducible refine (CS.out).mono ?_
  rintro e w1 ⟨r, rfl, hr, h1, h2, hb⟩
  have HB := Lib.hid hb
  have H1 := Lib.hid h1
  clear hb h1 h2 CS
  have hmx : max (0 : Int) ((r : Int) - 1) = ((r - 1 : Nat) : Int) := by omega
  go_wp2_with fail
  go_ret
  refine ⟨r - 1, rfl, ⟨by omega, ?_⟩, HB.out⟩
  by_cases h0 : r ≤ 1
  · exact .inl (by omega)
  · exact .inr (HF.out (r - 1) (by omega) (H1.out (r - 1) (by omega)))

end Go.Proofs.Ythidmgnfdikppaa

/- Layer 10: the cells of a range, by contracts. -/
namespace Go.Proofs.Ythidmgnfdikppaa
set_option linter.unusedVariables false
open Go Go.RowKit
attribute [local go_sem ↓] run_index_S
attribute [local go_sem] S_append S_extract

def RangeR10 (K : List M.Cl) (w : World) (e : Ending) (w' : World) : Prop := ∃ ao cap, e = .returned (.slice ao K.length cap) ∧ w'.ownsRow w.heap.size 38 3 (.slice ao K.length cap) K.length (cls K) ∧ Below w.heap.size w w'
theorem tabAt_blk {L : List M.Cl} {p : Nat} {w : World} (h : TabAt L p w) (hl : L.length ≤ 4096) : ∃ bo bc fo fc, w.cell? ⟨p, 0, none⟩ = some (.slice bo (M.many L) bc) ∧ w.cell? ⟨p, 1, none⟩ = some (.slice fo (M.many L) fc) ∧ w.cell? ⟨p, 2, none⟩ = some (.int .i64 L.length) ∧
    ∀ k, k < M.many L → ∃ bg fg, bo = some ⟨bg, 0, none⟩ ∧ fo = some ⟨fg, 0, none⟩ ∧ w.cell? ⟨bg, k, none⟩ = some (.string (S (M.encCs (M.blk L k)))) ∧ w.cell? ⟨fg, k, none⟩ = some (.string (S (L.getD (4 * k) M.cl0).key)) := by
  obtain ⟨B, vB, vF, hr⟩ := h
  obtain ⟨bo, bc, rfl⟩ := ownP_shape hr.b
  obtain ⟨fo, fc, rfl⟩ := ownP_shape hr.f
  have h0 : w.cell? ⟨p, 0, none⟩ = some (.slice bo (M.blksB L (M.many L)).length bc) := hr.row.cell 0
  have h1 : w.cell? ⟨p, 1, none⟩ = some (.slice fo (M.firsts L (M.many L)).length fc) := hr.row.cell 1
  rw [M.blksB_len] at h0
  rw [M.firsts_len] at h1
  refine ⟨bo, bc, fo, fc, h0, h1, hr.row.cell 2, fun k hk => ?_⟩
  obtain ⟨bg, bcap, e1, -, hb⟩ := own_slice10 hr.b (by rw [M.blksB_len]; omega)
  obtain ⟨fg, fcap, e2, -, hf⟩ := own_slice10 hr.f (by rw [M.firsts_len]; omega)
  injection e1 with e1
  injection e2 with e2
  refine ⟨bg, fg, e1, e2, ?_, ?_⟩
  · rw [hb k _ (txs10_get (by rw [M.blksB_len]; exact hk)), M.blksB_get L hk]
  · rw [hf k _ (txs10_get (by rw [M.firsts_len]; exact hk)), M.firsts_get L hk]
theorem M.range_nil (L : List M.Cl) : M.rangeL [] [] L = L := by
  have : ∀ c : M.Cl, M.inR [] [] c = true := fun c => by
    have : Op.bytesLess c.key [] = false := by cases c.key <;> rfl
    simp [M.inR, this]
  unfold M.rangeL
  rw [List.filter_eq_self]
  exact fun c _ => this c
theorem M.range_len (lo hi : List UInt8) (L : List M.Cl) : (M.rangeL lo hi L).length ≤ L.length := List.length_filter_le _ _
set_option maxRecDepth 100000 in
/-- As append_cls, and where the new row lies. -/
theorem append_cls_at (w : World) (base : Nat) (t ty : TypeId) (i : TypeInfo) (z : Value) (ht : Try.prog.underlying t = some (.slice 38)) (hi : Try.prog.info? 38 = some i) (hz : i.zero = some z) (h1 : i.size = 3) (h2 : i.bytes = 40) (h3 : z.cells.size = 3)
    (v : Value) (n : Nat) (xs : List Value) (ho : w.ownsRow base 38 3 v n xs) (ao : Option Addr) (c : Nat) (L : List M.Cl) (hs : ClsAt w ao L) (h63 : n + L.length ≤ 1000000) (hbase : base ≤ w.heap.size) :
    ∃ v' w', (Builtin.append_ #[t, t] ty #[v, .slice ao L.length c]).run Try.prog w = .ok v' w' ∧ w'.ownsRow base 38 3 v' (n + L.length) (xs ++ cls L) ∧ w.grownBy w' v.ownBlock ∧ (v'.ownBlock = v.ownBlock ∨ v'.ownBlock = some w.heap.size) := by
  cases ao with
  | none =>
    have hL : L = [] := by
      cases L with
      | nil => rfl
      | cons x r => obtain ⟨g, off, e, _⟩ := hs (by simp); cases e
    subst hL
    exact ⟨v, w, append_none9 w base t ty _ i 3 ht hi ho c, by simpa [cls] using ho, World.grownBy.refl w _, .inl rfl⟩
  | some ad =>
    have hc : ∀ j u, (cls L)[j]? = some u → w.cell? (ad.add j) = some u := by
      intro j u hu
      by_cases hL : L = []
      · subst hL; simp [cls] at hu
      · obtain ⟨g, off, e, hk⟩ := hs hL
        injection e with e
        subst e
        rw [Addr.add_lit]
        exact clsAt_get9 hk j u hu
    obtain ⟨v', w', hr, h5, h6, _, h7⟩ := run_append_own_at (P := Try.prog) w base t ty 38 i z 3 40 ht hi hz h1 h2 h3 (by decide) v n xs ho ad L.length c (cls L) (cls_length L) hc (cls_oneC L) (by unfold maxLen; omega) (by omega) hbase
    exact ⟨v', w', hr, h5, h6, h7⟩
theorem wpList_append_cls_at {w : World} {ops : Array Oper} {rest : List Oper} {o : Oper} {a : Act} {Q : Exit → Act → World → Prop} (hgd : o.guard = none) (s x : Operand) (t : TypeId)
    (hop : o.op = .call { callee := .builtin .append, args := #[s, x], argTypes := #[t, t] })
    (base : Nat) (i : TypeInfo) (z : Value) (ht : Try.prog.underlying t = some (.slice 38)) (hi : Try.prog.info? 38 = some i) (hz : i.zero = some z) (h1 : i.size = 3) (h2 : i.bytes = 40) (h3 : z.cells.size = 3)
    (v : Value) (n : Nat) (xs : List Value) (hv : a.eval s = v) (ho : w.ownsRow base 38 3 v n xs) (ao : Option Addr) (c : Nat) (L : List M.Cl) (hx : a.eval x = .slice ao L.length c) (hs : ClsAt w ao L) (h63 : n + L.length ≤ 1000000) (hbase : base ≤ w.heap.size)
    (h : ∀ v' w', w'.ownsRow base 38 3 v' (n + L.length) (xs ++ cls L) → w.grownBy w' v.ownBlock → (v'.ownBlock = v.ownBlock ∨ v'.ownBlock = some w.heap.size) → wpList Try.prog ops Q rest (a.put o.dst v') w') :
    wpList Try.prog ops Q (o :: rest) a w := by
  refine wpList_plain hgd fun K hK => ?_
  obtain ⟨v', w', hrun, h5, h6, h7⟩ := append_cls_at w base t o.type i z ht hi hz h1 h2 h3 v n xs ho ao c L hs h63 hbase
  unfold Oper.wp execOp
  simp only [hop, resolve, invoke, builtin, Sem.run_bind, Sem.run_pure, Result.andThen_ok, List.map_toArray, List.map_cons, List.map_nil, hv, hx, hrun]
  exact hK _ _ (h v' w' h5 h6 h7)
theorem M.range_take (lo hi : List UInt8) {K : List M.Cl} {j : Nat} (h : j < K.length) : M.rangeL lo hi (K.take (j + 1)) = M.rangeL lo hi (K.take j) ++ (if M.inR lo hi (K.getD j M.cl0) then [K.getD j M.cl0] else []) := by
  rw [takeC_snoc h, M.rangeL, List.filter_append]
  congr 1
  simp only [List.filter_cons, List.filter_nil]
/-- What a range has so far: the blocks ahead, and some cells of this one. -/
structure Rg10 (W : World) (al : Option Addr) (cl : Nat) (bk A : List M.Cl) (ao : Option Addr) (cap : Nat) (B' : Nat) (w : World) : Prop where
  own : w.ownsRow W.heap.size 38 3 (.slice ao A.length cap) A.length (cls A)
  row : w.ownsRow B' 38 3 (.slice al bk.length cl) bk.length (cls bk)
  ne : ∀ q, (Value.slice al bk.length cl).ownBlock = some q → (Value.slice ao A.length cap).ownBlock ≠ some q
  bel : Below W.heap.size W w
theorem Rg10.below {W : World} {al : Option Addr} {cl : Nat} {bk A : List M.Cl} {ao : Option Addr} {cap B' : Nat} {w w' : World} (h : Rg10 W al cl bk A ao cap B' w) (hb : Below w.heap.size w w') : Rg10 W al cl bk A ao cap B' w' :=
  ⟨ownP_below h.own hb, ownP_below h.row hb, h.ne, below_step h.bel hb⟩
instance car_rg10 {W : World} {al : Option Addr} {cl : Nat} {bk A : List M.Cl} {ao : Option Addr} {cap B' : Nat} {w w' : World} : Car w w' (Rg10 W al cl bk A ao cap B' w) (Rg10 W al cl bk A ao cap B' w') := ⟨fun hb h => h.below hb⟩
theorem Rg10.grown {W : World} {al : Option Addr} {cl : Nat} {bk A : List M.Cl} {ao ao' : Option Addr} {cap cap' B' : Nat} {c : M.Cl} {w w' : World} (h : Rg10 W al cl bk A ao cap B' w) (ho : w'.ownsRow W.heap.size 38 3 (.slice ao' (A.length + 1) cap') (A.length + 1) (cls A ++ cls [c])) (hg : w.grownBy w' (Value.slice ao A.length cap).ownBlock) (hat : (Value.slice ao' (A.length + 1) cap').ownBlock = (Value.slice ao A.length cap).ownBlock ∨ (Value.slice ao' (A.length + 1) cap').ownBlock = some w.heap.size) :
    Rg10 W al cl bk (A ++ [c]) ao' cap' B' w' := by
  have e : (A ++ [c]).length = A.length + 1 := by simp
  refine ⟨by rw [e, cls_append]; exact ho, h.row.kept hg ?_, fun q hq => ?_, h.bel.grown hg h.bel.size (fun k hk => (h.own.lt k hk).1)⟩
  · cases hb : (Value.slice al bk.length cl).ownBlock with
    | none => exact .inl rfl
    | some q => exact .inr (fun e => h.ne q hb e.symm)
  · rw [e]
    intro e2
    rcases hat with k | k
    · exact h.ne q hq (k ▸ e2)
    · rw [k] at e2
      injection e2 with e2
      have := (h.row.lt q hq).2
      omega
set_option maxHeartbeats 8000000 in
set_option maxRecDepth 100000 in
theorem range10_any (L : List M.Cl) (p : Nat) (lo hi : List UInt8) (w : World) (h : TabAt L p w) (hs : M.srt none L = true) (hl : L.length ≤ 4096) (hq : ∀ c ∈ L, c.seq ≤ 9223372036854775807) (h1 : lo.length ≤ 140737488351232) (h2 : hi.length ≤ 140737488351232) :
    Calls Try.prog 32 #[.pointer (some ⟨p, 0, none⟩), .string (S lo), .string (S hi)] w fun e w' => RangeR10 (M.rangeL lo hi L) w e w' := by
  obtain ⟨i0, z0, hi0, hz0, hz1, hz2, hz3⟩ := infoCl_parts
  have hm : M.many L ≤ 1024 := by unfold M.many; omega
  have CS := Lib.hid (start10_any L p lo w h hs hl)
  have HT := Lib.hid h
  have HS := Lib.hid hs
  have HQ := Lib.hid hq
  have CD := Lib.hid (fun k W => by
    have := decode9_any (M.encCs (M.blk L k)) (by have := M.encCs_len (M.srt_blk hs k) (M.blk_len4 L k); omega) W
    rw [M.dec_encC (M.srt_blk hs k) (fun c hc => hq c (M.blk_mem hc)) (by have := M.blk_len4 L k; omega)] at this
    exact this)
  unfold DecR9 at CD
  simp only at CD
  clear h hs hq
  go_enter Try.func32, Try.ntmps32
  go_wp2_with fail
  with_reducible refine (CS.out).mono ?_
  rintro e w1 ⟨s, rfl, ⟨hs1, hs2⟩, hb⟩
  have HB := Lib.hid hb
  have HS2 := Lib.hid (M.range_start (hi := hi) HS.out hs2)
  clear hb hs2 CS
  go_wp2_with fail
  go_loopw [7, 8] (fun v7 v8 wr => ∃ (k : Nat) (ao : Option Addr) (cap : Nat), k ≤ M.many L ∧ v8 = .int .i64 k ∧ v7 = .slice ao (M.rangeL lo hi (L.take (4 * k))).length cap ∧ Hid (wr.ownsRow w.heap.size 38 3 (.slice ao (M.rangeL lo hi (L.take (4 * k))).length cap) (M.rangeL lo hi (L.take (4 * k))).length (cls (M.rangeL lo hi (L.take (4 * k))))) ∧ Hid (Below w.heap.size w wr)) (fun _ v _ => M.many L - (intOf v).toNat)
  case atStart => exact ⟨s, none, 0, hs1, rfl, by rw [HS2.out]; rfl, Lib.hid (by rw [HS2.out]; exact World.ownsRow_nil _ _ _ _), HB⟩
  case round =>
    clear HB HS2 hs1
    obtain ⟨k, ao, cap, hk, rfl, rfl, HO, HBr⟩ := hrel
    obtain ⟨bo, bc, fo, fc, x0, x1, -, hblk⟩ := tabAt_blk (HT.out.below HBr.out) hl
    by_cases hlt : k < M.many L
    · have d1 : decide ((k : Int) < (M.many L : Int)) = true := by simp; omega
      have d2 : decide (k < M.many L) = true := by simp; omega
      have hki : (k : Int) < (M.many L : Int) := by omega
      obtain ⟨bg, fg, rfl, rfl, x2, x3⟩ := hblk k hlt
      obtain ⟨fk, hfk⟩ : ∃ fk, (L.getD (4 * k) M.cl0).key = fk := ⟨_, rfl⟩
      rw [hfk] at x3
      have HFK := Lib.hid hfk
      clear hfk hblk
      cases he : hi.isEmpty with
      | true =>
        obtain rfl : hi = [] := by simpa using he
        go_wp2_with fail
        with_reducible refine (CD.out k wr).mono ?_
        rintro e w2 ⟨⟨al, cl, rfl, hol⟩, hb2⟩
        have HG := Lib.hid (show Rg10 w al cl (M.blk L k) (M.rangeL lo [] (L.take (4 * k))) ao cap wr.heap.size w2 from ⟨ownP_below HO.out hb2, hol, fun q hq e => by
          have e1 := (HO.out.lt q e).2
          have e2 := (hol.lt q hq).1
          omega, below_step HBr.out hb2⟩)
        have hal : (M.rangeL lo [] (L.take (4 * k))).length ≤ 4096 := by
          have h1 := M.range_len lo [] (L.take (4 * k))
          have h2 := List.length_take_le (4 * k) L
          have h3 : (L.take (4 * k)).length ≤ L.length := by rw [List.length_take]; omega
          omega
        have hbl := M.blk_len4 L k
        have HSN := Lib.hid (M.range_snoc L lo [] k)
        have HKEY := Lib.hid (show ∀ c ∈ M.blk L k, c.key.length ≤ 64 from fun c hc => (M.mayC_true.1 (M.srt_may HS.out c (M.blk_mem hc))).2.1)
        clear hol hb2 x0 x1 x2 x3 HO HBr
        generalize M.rangeL lo [] (L.take (4 * k)) = A at *
        generalize M.blk L k = bk at *
        go_wp2_with fail
        obtain ⟨wo, hwo⟩ : ∃ x, x = wr.heap.size := ⟨_, rfl⟩
        rw [← hwo] at HG
        clear hwo
        go_loopw [7, 55] (fun v7 v55 wr => ∃ (j : Nat) (A' : List M.Cl) (ao' : Option Addr) (cap' : Nat), j ≤ bk.length ∧ A'.length ≤ A.length + j ∧ v55 = .int .i64 j ∧ v7 = .slice ao' A'.length cap' ∧ Hid (A' = A ++ M.rangeL lo [] (bk.take j)) ∧ Hid (Rg10 w al cl bk A' ao' cap' wo wr)) (fun _ v _ => bk.length - (intOf v).toNat)
        case atStart => exact ⟨0, A, ao, cap, Nat.zero_le _, Nat.le_refl _, rfl, rfl, Lib.hid (by simp [M.rangeL]), HG⟩
        case round =>
          clear HG
          obtain ⟨j, A', ao', cap', hj, hA, rfl, rfl, HA, HG⟩ := hrel
          by_cases hjl : j < bk.length
          · have d3 : decide ((j : Int) < (bk.length : Int)) = true := by simp; omega
            have d4 : decide (j < bk.length) = true := by simp; omega
            have hji : (j : Int) < (bk.length : Int) := by omega
            obtain ⟨cg, ccap, e, -, hcc⟩ := own_slice10 HG.out.row (by omega)
            obtain ⟨rfl, rfl⟩ : al = some ⟨cg, 0, none⟩ ∧ cl = ccap := by injection e with a b c; exact ⟨a, c⟩
            obtain ⟨y0, y1, y2⟩ : ClOff (bk.getD j M.cl0) wr cg (j * 3) := by
              obtain ⟨g', o', e, hc⟩ := (clsAt_own HG.out.row rfl).off j hjl
              cases e
              rwa [Nat.zero_add] at hc
            have HTK := Lib.hid (M.range_take lo [] hjl)
            have hkl := HKEY.out _ (M.getD_memC hjl)
            have HIN : Hid (M.inR lo [] (bk.getD j M.cl0) = (!Op.bytesLess (bk.getD j M.cl0).key lo && (([] : List UInt8).isEmpty || Op.bytesLess (bk.getD j M.cl0).key []))) := Lib.hid rfl
            generalize bk.getD j M.cl0 = c at *
            have HX := Lib.hid (rowIn_new (clA c) 38 wr)
            have HG2 := carryA (w := wr) (.cells (clA c) 38) HG
            cases hq1 : Op.bytesLess c.key lo with
            | true =>
              have HR := Lib.hid (show A' = A ++ M.rangeL lo [] (bk.take (j + 1)) from by rw [HTK.out, HIN.out, hq1]; simpa using HA.out)
              go_wp2_with fail
              go_roundw
              case rel => exact ⟨j + 1, A', ao', cap', by omega, by omega, by go_num, rfl, HR, HG2⟩
              case measure => simp [intOf]; omega
            | false =>
              have HR := Lib.hid (show A' ++ [c] = A ++ M.rangeL lo [] (bk.take (j + 1)) from by rw [HTK.out, HIN.out, hq1, show ([] : List UInt8).isEmpty = true from rfl]; simp [HA.out])
              have HXX := Lib.hid (rowIn_new (clA c) 38 (wr.alloc (.cells (clA c) 38)))
              have HG3 := carryA (w := wr.alloc (.cells (clA c) 38)) (.cells (clA c) 38) HG2
              have z0' := HX.out.cell 0
              go_wp2_with (at_builtin; refine wpList_append_cls_at rfl _ _ 22 rfl w.heap.size i0 z0 Try.underlying22 hi0 hz0 hz1 hz2 hz3 (.slice ao' A'.length cap') A'.length (cls A') rfl HG3.out.own (some ⟨wr.heap.size + 1, 0, none⟩) 1 [c] rfl ?c1 ?c2 ?c3 ?_)
              case c1 => exact clsAt_row (by have := HXX.out; rw [szA] at this; exact this) rfl
              case c2 => have e1 : [c].length = 1 := rfl; omega
              case c3 => exact HG3.out.bel.size
              intro v' w5 ho5 hg5 hat5
              obtain ⟨ao5, cap5, rfl⟩ := ownP_shape ho5
              have HG5 := Lib.hid (HG3.out.grown ho5 hg5 (by first | exact hat5 | (rw [szA, szA]; exact hat5)))
              clear ho5 hg5 hat5 z0'
              have e5 : (A' ++ [c]).length = A'.length + 1 := by simp
              have HE5 := Lib.hid e5
              clear e5
              go_wp2_with fail
              go_roundw
              case rel => exact ⟨j + 1, A' ++ [c], ao5, cap5, by omega, by rw [HE5.out]; omega, by go_num, by rw [HE5.out], HR, HG5⟩
              case measure => simp [intOf]; omega
          · obtain rfl : j = bk.length := by omega
            have d3 : decide ((bk.length : Int) < (bk.length : Int)) = false := by simp
            have d4 : decide (bk.length < bk.length) = false := by simp
            have HR := Lib.hid (show A' = M.rangeL lo [] (L.take (4 * (k + 1))) from by rw [HSN.out, HA.out, List.take_length])
            have HO2 := Lib.hid HG.out.own
            have HB2 := Lib.hid HG.out.bel
            rw [HR.out] at HO2
            clear HG
            go_wp2_with fail
            go_roundw
            case rel => exact ⟨k + 1, ao', cap', by omega, by go_num, by rw [HR.out], HO2, HB2⟩
            case measure => simp [intOf]; omega
      | false =>
        cases hf : Op.bytesLess fk hi with
        | true =>
          go_wp2_with fail
          with_reducible refine (CD.out k wr).mono ?_
          rintro e w2 ⟨⟨al, cl, rfl, hol⟩, hb2⟩
          have HG := Lib.hid (show Rg10 w al cl (M.blk L k) (M.rangeL lo hi (L.take (4 * k))) ao cap wr.heap.size w2 from ⟨ownP_below HO.out hb2, hol, fun q hq e => by
            have e1 := (HO.out.lt q e).2
            have e2 := (hol.lt q hq).1
            omega, below_step HBr.out hb2⟩)
          have hal : (M.rangeL lo hi (L.take (4 * k))).length ≤ 4096 := by
            have h1 := M.range_len lo hi (L.take (4 * k))
            have h2 := List.length_take_le (4 * k) L
            have h3 : (L.take (4 * k)).length ≤ L.length := by rw [List.length_take]; omega
            omega
          have hbl := M.blk_len4 L k
          have HSN := Lib.hid (M.range_snoc L lo hi k)
          have HKEY := Lib.hid (show ∀ c ∈ M.blk L k, c.key.length ≤ 64 from fun c hc => (M.mayC_true.1 (M.srt_may HS.out c (M.blk_mem hc))).2.1)
          clear hol hb2 x0 x1 x2 x3 HO HBr
          generalize M.rangeL lo hi (L.take (4 * k)) = A at *
          generalize M.blk L k = bk at *
          go_wp2_with fail
          obtain ⟨wo, hwo⟩ : ∃ x, x = wr.heap.size := ⟨_, rfl⟩
          rw [← hwo] at HG
          clear hwo
          go_loopw [7, 55] (fun v7 v55 wr => ∃ (j : Nat) (A' : List M.Cl) (ao' : Option Addr) (cap' : Nat), j ≤ bk.length ∧ A'.length ≤ A.length + j ∧ v55 = .int .i64 j ∧ v7 = .slice ao' A'.length cap' ∧ Hid (A' = A ++ M.rangeL lo hi (bk.take j)) ∧ Hid (Rg10 w al cl bk A' ao' cap' wo wr)) (fun _ v _ => bk.length - (intOf v).toNat)
          case atStart => exact ⟨0, A, ao, cap, Nat.zero_le _, Nat.le_refl _, rfl, rfl, Lib.hid (by simp [M.rangeL]), HG⟩
          case round =>
            clear HG
            obtain ⟨j, A', ao', cap', hj, hA, rfl, rfl, HA, HG⟩ := hrel
            by_cases hjl : j < bk.length
            · have d3 : decide ((j : Int) < (bk.length : Int)) = true := by simp; omega
              have d4 : decide (j < bk.length) = true := by simp; omega
              have hji : (j : Int) < (bk.length : Int) := by omega
              obtain ⟨cg, ccap, e, -, hcc⟩ := own_slice10 HG.out.row (by omega)
              obtain ⟨rfl, rfl⟩ : al = some ⟨cg, 0, none⟩ ∧ cl = ccap := by injection e with a b c; exact ⟨a, c⟩
              obtain ⟨y0, y1, y2⟩ : ClOff (bk.getD j M.cl0) wr cg (j * 3) := by
                obtain ⟨g', o', e, hc⟩ := (clsAt_own HG.out.row rfl).off j hjl
                cases e
                rwa [Nat.zero_add] at hc
              have HTK := Lib.hid (M.range_take lo hi hjl)
              have hkl := HKEY.out _ (M.getD_memC hjl)
              have HIN : Hid (M.inR lo hi (bk.getD j M.cl0) = (!Op.bytesLess (bk.getD j M.cl0).key lo && (hi.isEmpty || Op.bytesLess (bk.getD j M.cl0).key hi))) := Lib.hid rfl
              generalize bk.getD j M.cl0 = c at *
              have HX := Lib.hid (rowIn_new (clA c) 38 wr)
              have HG2 := carryA (w := wr) (.cells (clA c) 38) HG
              cases hq1 : Op.bytesLess c.key lo with
              | true =>
                have HR := Lib.hid (show A' = A ++ M.rangeL lo hi (bk.take (j + 1)) from by rw [HTK.out, HIN.out, hq1]; simpa using HA.out)
                go_wp2_with fail
                go_roundw
                case rel => exact ⟨j + 1, A', ao', cap', by omega, by omega, by go_num, rfl, HR, HG2⟩
                case measure => simp [intOf]; omega
              | false =>
                cases hq2 : Op.bytesLess c.key hi with
                | true =>
                  have HR := Lib.hid (show A' ++ [c] = A ++ M.rangeL lo hi (bk.take (j + 1)) from by rw [HTK.out, HIN.out, hq1, hq2, he]; simp [HA.out])
                  have HXX := Lib.hid (rowIn_new (clA c) 38 (wr.alloc (.cells (clA c) 38)))
                  have HG3 := carryA (w := wr.alloc (.cells (clA c) 38)) (.cells (clA c) 38) HG2
                  have z0' := HX.out.cell 0
                  go_wp2_with (at_builtin; refine wpList_append_cls_at rfl _ _ 22 rfl w.heap.size i0 z0 Try.underlying22 hi0 hz0 hz1 hz2 hz3 (.slice ao' A'.length cap') A'.length (cls A') rfl HG3.out.own (some ⟨wr.heap.size + 1, 0, none⟩) 1 [c] rfl ?c1 ?c2 ?c3 ?_)
                  case c1 => exact clsAt_row (by have := HXX.out; rw [szA] at this; exact this) rfl
                  case c2 => have e1 : [c].length = 1 := rfl; omega
                  case c3 => exact HG3.out.bel.size
                  intro v' w5 ho5 hg5 hat5
                  obtain ⟨ao5, cap5, rfl⟩ := ownP_shape ho5
                  have HG5 := Lib.hid (HG3.out.grown ho5 hg5 (by first | exact hat5 | (rw [szA, szA]; exact hat5)))
                  clear ho5 hg5 hat5 z0'
                  have e5 : (A' ++ [c]).length = A'.length + 1 := by simp
                  have HE5 := Lib.hid e5
                  clear e5
                  go_wp2_with fail
                  go_roundw
                  case rel => exact ⟨j + 1, A' ++ [c], ao5, cap5, by omega, by rw [HE5.out]; omega, by go_num, by rw [HE5.out], HR, HG5⟩
                  case measure => simp [intOf]; omega
                | false =>
                  have HR := Lib.hid (show A' = A ++ M.rangeL lo hi (bk.take (j + 1)) from by rw [HTK.out, HIN.out, hq1, he, hq2]; simpa using HA.out)
                  go_wp2_with fail
                  go_roundw
                  case rel => exact ⟨j + 1, A', ao', cap', by omega, by omega, by go_num, rfl, HR, HG2⟩
                  case measure => simp [intOf]; omega
            · obtain rfl : j = bk.length := by omega
              have d3 : decide ((bk.length : Int) < (bk.length : Int)) = false := by simp
              have d4 : decide (bk.length < bk.length) = false := by simp
              have HR := Lib.hid (show A' = M.rangeL lo hi (L.take (4 * (k + 1))) from by rw [HSN.out, HA.out, List.take_length])
              have HO2 := Lib.hid HG.out.own
              have HB2 := Lib.hid HG.out.bel
              rw [HR.out] at HO2
              clear HG
              go_wp2_with fail
              go_roundw
              case rel => exact ⟨k + 1, ao', cap', by omega, by go_num, by rw [HR.out], HO2, HB2⟩
              case measure => simp [intOf]; omega
        | false =>
          have HE := Lib.hid (M.range_end HS.out (lo := lo) he (show Op.bytesLess (L.getD (4 * k) M.cl0).key hi = false from by rw [HFK.out]; exact hf))
          go_wp2_with fail
          go_ret
          exact ⟨ao, cap, by rw [HE.out]; rfl, by rw [HE.out]; exact HO.out, HBr.out⟩
    · obtain rfl : k = M.many L := by omega
      have d1 : decide ((M.many L : Int) < (M.many L : Int)) = false := by simp
      have d2 : decide (M.many L < M.many L) = false := by simp
      rw [M.take_many] at HO
      go_wp2_with fail
      go_ret
      exact ⟨ao, cap, by rw [M.take_many]; rfl, HO.out, HBr.out⟩

end Go.Proofs.Ythidmgnfdikppaa

/- Layer 10: what is asked of a table, by contracts. -/
namespace Go.Proofs.Ythidmgnfdikppaa
set_option linter.unusedVariables false
open Go Go.RowKit
attribute [local go_sem ↓] run_index_S
attribute [local go_sem] S_append S_extract

set_option maxHeartbeats 1000000 in
theorem all10_any (L : List M.Cl) (p : Nat) (w : World) (h : TabAt L p w) (hs : M.srt none L = true) (hl : L.length ≤ 4096) (hq : ∀ c ∈ L, c.seq ≤ 9223372036854775807) :
    Calls Try.prog 33 #[.pointer (some ⟨p, 0, none⟩)] w fun e w' => RangeR10 L w e w' := by
  have CR := Lib.hid (range10_any L p [] [] w h hs hl hq (by simp) (by simp))
  rw [M.range_nil] at CR
  go_enter Try.func33, Try.ntmps33
  go_wp2_with fail
  with_reducible refine (CR.out).mono ?_
  rintro e w1 ⟨ao, cap, rfl, ho, hb⟩
  have HO := Lib.hid ho
  have HB := Lib.hid hb
  clear ho hb CR
  go_wp2_with fail
  go_ret
  exact ⟨ao, cap, rfl, HO.out, HB.out⟩
set_option maxHeartbeats 1000000 in
theorem len10_any (L : List M.Cl) (p : Nat) (w : World) (h : TabAt L p w) (hl : L.length ≤ 4096) :
    Calls Try.prog 34 #[.pointer (some ⟨p, 0, none⟩)] w fun e w' => e = .returned (.int .i64 L.length) ∧ w = w' := by
  obtain ⟨bo, bc, fo, fc, -, -, x2, -⟩ := tabAt_blk h hl
  go_enter Try.func34, Try.ntmps34
  go_wp2_with fail
  go_ret
  exact ⟨rfl, rfl⟩
set_option maxHeartbeats 1000000 in
theorem len10_nil (w : World) : Calls Try.prog 34 #[.pointer none] w fun e w' => e = .returned (.int .i64 0) ∧ w = w' := by
  go_enter Try.func34, Try.ntmps34
  go_wp2_with fail
  go_ret
  exact ⟨rfl, rfl⟩
set_option maxHeartbeats 1000000 in
theorem range10_nil (lo hi : List UInt8) (w : World) : Calls Try.prog 32 #[.pointer none, .string (S lo), .string (S hi)] w fun e w' => e = .returned (.slice none 0 0) ∧ w = w' := by
  go_enter Try.func32, Try.ntmps32
  go_wp2_with fail
  go_ret
  exact ⟨rfl, rfl⟩
set_option maxHeartbeats 1000000 in
theorem all10_nil (w : World) : Calls Try.prog 33 #[.pointer none] w fun e w' => e = .returned (.slice none 0 0) ∧ w = w' := by
  have CR := Lib.hid (range10_nil [] [] w)
  go_enter Try.func33, Try.ntmps33
  go_wp2_with fail
  with_reducible refine (CR.out).mono ?_
  rintro e w1 ⟨rfl, rfl⟩
  go_wp2_with fail
  go_ret
  exact ⟨rfl, rfl⟩
set_option maxHeartbeats 2000000 in
set_option maxRecDepth 100000 in
theorem get10_nil (key : List UInt8) (w : World) : Calls Try.prog 30 #[.pointer none, .string (S key)] w fun e w' => FindR9 none w e w' := by
  have HB := Lib.hid ((Below.refl w.heap.size w).alloc (Nat.le_refl _) (.cells clZ9 38))
  have HR := Lib.hid (rowIn_new clZ9 38 w)
  go_enter Try.func30, Try.ntmps30
  go_wp2_with ((refine wpList_store_hid rfl 38 _ _ rfl w.heap.size _ rfl rfl 38 clZ9 HR.out ?_ rfl (by simp [Value.oneCell']) ?_; kernel_rfl; intro w3 hrQ hbelQ hothQ hszQ; have HXE := Lib.hid hrQ; have HBE := Lib.hid (hbelQ w.heap.size w (Nat.le_refl _) HB.out); clear hrQ hbelQ hothQ hszQ))
  try simp only [Exit.inBlock, Exit.then]
  exact bodyPost_ret (ret_rowP2 rfl _ _ w.heap.size rfl (load_struct Try.underlying38 (by kernel_rfl) HXE.out)) rfl (show FindR9 none w _ _ from ⟨rfl, HBE.out⟩)
set_option maxHeartbeats 8000000 in
set_option maxRecDepth 100000 in
theorem get10_any (L : List M.Cl) (p : Nat) (key : List UInt8) (w : World) (h : TabAt L p w) (hs : M.srt none L = true) (hl : L.length ≤ 4096) (hq : ∀ c ∈ L, c.seq ≤ 9223372036854775807) (h1 : key.length ≤ 140737488351232) :
    Calls Try.prog 30 #[.pointer (some ⟨p, 0, none⟩), .string (S key)] w fun e w' => FindR9 (M.findL key L) w e w' := by
  have hm : M.many L ≤ 1024 := by unfold M.many; omega
  have HB0 := (Below.refl w.heap.size w).alloc (Nat.le_refl _) (.cells clZ9 38)
  have HR0 := rowIn_new clZ9 38 w
  have CS := Lib.hid (start10_any L p key _ (h.below HB0) hs hl)
  have HB := Lib.hid HB0
  have HR := Lib.hid HR0
  clear HB0 HR0
  have HT := Lib.hid h
  have HS := Lib.hid hs
  have CF := Lib.hid (fun k W => by
    have := find9_any (M.encCs (M.blk L k)) key (by have := M.encCs_len (M.srt_blk hs k) (M.blk_len4 L k); omega) W
    rw [show M.findC (M.encCs (M.blk L k)) key = M.findL key (M.blk L k) from by rw [M.findC, M.dec_encC (M.srt_blk hs k) (fun c hc => hq c (M.blk_mem hc)) (by have := M.blk_len4 L k; omega)]] at this
    exact this)
  unfold FindR9 at CF
  clear h hs hq
  go_enter Try.func30, Try.ntmps30
  go_wp2_with fail
  with_reducible refine (CS.out).mono ?_
  rintro e w1 ⟨s, rfl, ⟨hs1, hs2⟩, hb⟩
  replace HB := carry hb HB
  replace HR := carry hb HR
  have HS2 := Lib.hid (M.find_start HS.out hs2)
  clear hb hs2 CS
  go_wp2_with fail
  go_loopw [6] (fun v6 wr => ∃ k : Nat, k ≤ M.many L ∧ v6 = .int .i64 k ∧ Hid (M.findL key (L.take (4 * k)) = none) ∧ Hid (RowIn clZ9 38 wr w.heap.size) ∧ Hid (Below w.heap.size w wr)) (fun v _ => M.many L - (intOf v).toNat)
  case atStart => exact ⟨s, hs1, rfl, HS2, HR, HB⟩
  case round =>
    clear HB HR HS2 hs1
    obtain ⟨k, hk, rfl, HF, HR, HBr⟩ := hrel
    obtain ⟨bo, bc, fo, fc, x0, x1, -, hblk⟩ := tabAt_blk (HT.out.below HBr.out) hl
    by_cases hlt : k < M.many L
    · have d1 : decide ((k : Int) < (M.many L : Int)) = true := by simp; omega
      have d2 : decide (k < M.many L) = true := by simp; omega
      have hki : (k : Int) < (M.many L : Int) := by omega
      obtain ⟨bg, fg, rfl, rfl, x2, x3⟩ := hblk k hlt
      obtain ⟨fk, hfk⟩ : ∃ fk, (L.getD (4 * k) M.cl0).key = fk := ⟨_, rfl⟩
      rw [hfk] at x3
      have HFK := Lib.hid hfk
      clear hfk hblk
      cases hf : Op.bytesLess key fk with
      | true =>
        have q1 : Op.bytesLess fk key = false := by
          cases q : Op.bytesLess fk key with
          | false => rfl
          | true => have := M.less_trans _ _ _ hf q; rw [M.less_irr] at this; cases this
        have q2 : (fk == key) = false := by
          simp only [beq_eq_false_iff_ne]
          rintro rfl
          rw [M.less_irr] at hf; cases hf
        have HE := Lib.hid (M.find_end HS.out (show Op.bytesLess key (L.getD (4 * k) M.cl0).key = true from by rw [HFK.out]; exact hf) HF.out)
        go_wp2_with ((refine wpList_store_hid rfl 38 _ _ rfl w.heap.size _ rfl rfl 38 clZ9 HR.out ?_ rfl (by simp [Value.oneCell']) ?_; kernel_rfl; intro w3 hrQ hbelQ hothQ hszQ; have HXE := Lib.hid hrQ; have HBE := Lib.hid (hbelQ w.heap.size w (Nat.le_refl _) HBr.out); clear hrQ hbelQ hothQ hszQ))
        try simp only [Exit.inBlock, Exit.then]
        exact bodyPost_ret (ret_rowP2 rfl _ _ w.heap.size rfl (load_struct Try.underlying38 (by kernel_rfl) HXE.out)) rfl (show FindR9 (M.findL key L) w _ _ from by rw [HE.out]; exact ⟨rfl, HBE.out⟩)
      | false =>
        have HSN := Lib.hid (M.find_snoc L key k HF.out)
        have CF1 := Lib.hid (CF.out k wr)
        have qq : (Op.bytesLess fk key = true ∧ (fk == key) = false) ∨ (Op.bytesLess fk key = false ∧ (fk == key) = true) := by
          by_cases e : fk = key
          · subst e; exact .inr ⟨M.less_irr _, by simp⟩
          · have := M.less_flip fk key e
            rw [hf] at this
            exact .inl ⟨by simpa using this.symm, by simpa using e⟩
        clear hf
        rcases qq with ⟨q1, q2⟩ | ⟨q1, q2⟩
        all_goals
          go_wp2_with fail
          cases hd : M.findL key (M.blk L k) with
          | none =>
            have HN := Lib.hid (HSN.out.trans hd)
            rw [hd] at CF1
            with_reducible refine (CF1.out).mono ?_
            rintro e w2 ⟨rfl, hb⟩
            replace HR := carry hb HR
            replace HBr := carry hb HBr
            clear hb hd CF1 x0 x1 x2 x3
            replace HR := carryA (w := w2) (.cells (clA M.cl0) 38) HR
            replace HBr := carryA (w := w2) (.cells (clA M.cl0) 38) HBr
            go_wp2_with fail
            go_roundw
            case rel => exact ⟨k + 1, by omega, by go_num, HN, HR, HBr⟩
            case measure => simp [intOf]; omega
          | some d =>
            have HN := Lib.hid (M.find_hit L key (4 * (k + 1)) (HSN.out.trans hd))
            rw [hd] at CF1
            with_reducible refine (CF1.out).mono ?_
            rintro e w2 ⟨rfl, hb⟩
            replace HR := carry hb HR
            replace HBr := carry hb HBr
            clear hb hd CF1 x0 x1 x2 x3
            have HX := Lib.hid (rowIn_new (clA d) 38 w2)
            replace HR := carryA (w := w2) (.cells (clA d) 38) HR
            replace HBr := carryA (w := w2) (.cells (clA d) 38) HBr
            go_wp2_with (first | (refine wpList_load_row rfl 38 _ rfl w2.heap.size rfl 38 _ (0, 0) _ HX.out Try.underlying38 rfl ?_ ?_; kernel_rfl) | (refine wpList_store_hid rfl 38 _ _ rfl w.heap.size _ rfl rfl 38 clZ9 HR.out ?_ rfl (by simp [Value.oneCell']) ?_; kernel_rfl; intro w3 hrQ hbelQ hothQ hszQ; have HXE := Lib.hid hrQ; have HBE := Lib.hid (hbelQ w.heap.size w (Nat.le_refl _) HBr.out); clear hrQ hbelQ hothQ hszQ))
            try simp only [Exit.inBlock, Exit.then]
            exact bodyPost_ret (ret_rowP2 rfl _ _ w.heap.size rfl (load_struct Try.underlying38 (by kernel_rfl) HXE.out)) rfl (show FindR9 (M.findL key L) w _ _ from by rw [HN.out]; exact ⟨rfl, HBE.out⟩)
    · obtain rfl : k = M.many L := by omega
      have d1 : decide ((M.many L : Int) < (M.many L : Int)) = false := by simp
      have d2 : decide (M.many L < M.many L) = false := by simp
      have HE := HF
      rw [M.take_many] at HE
      go_wp2_with ((refine wpList_store_hid rfl 38 _ _ rfl w.heap.size _ rfl rfl 38 clZ9 HR.out ?_ rfl (by simp [Value.oneCell']) ?_; kernel_rfl; intro w3 hrQ hbelQ hothQ hszQ; have HXE := Lib.hid hrQ; have HBE := Lib.hid (hbelQ w.heap.size w (Nat.le_refl _) HBr.out); clear hrQ hbelQ hothQ hszQ))
      try simp only [Exit.inBlock, Exit.then]
      exact bodyPost_ret (ret_rowP2 rfl _ _ w.heap.size rfl (load_struct Try.underlying38 (by kernel_rfl) HXE.out)) rfl (show FindR9 (M.findL key L) w _ _ from by rw [HE.out]; exact ⟨rfl, HBE.out⟩)

end Go.Proofs.Ythidmgnfdikppaa
