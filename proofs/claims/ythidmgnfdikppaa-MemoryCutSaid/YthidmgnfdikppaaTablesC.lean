/- Layer 10: what of a text was not read yet, by contracts. -/
import Derived.Test.YthidmgnfdikppaaTablesM
import Derived.Test.YthidmgnfdikppaaBuildT
import Derived.BigQuiet
namespace Go.Proofs.Ythidmgnfdikppaa
set_option linter.unusedVariables false
open Go Go.RowKit
attribute [local go_sem ↓] run_index_S
attribute [local go_sem] S_append S_extract

/-- The two cells of a rest that lies at a place of a block. -/
def putR (C : Array Value) (o : Nat) (r : M.RS) : Array Value := (C.setIfInBounds o (.string (S r.t))).setIfInBounds (o + 1) (.bool r.b)
structure RsAt (C : Array Value) (T : TypeId) (b o : Nat) (r : M.RS) (w : World) : Prop where
  row : RowIn C T w b
  c0 : C[o]? = some (.string (S r.t))
  c1 : C[o + 1]? = some (.bool r.b)
  len : r.t.length ≤ 140737488351232
theorem RsAt.cell0 {C : Array Value} {T : TypeId} {b o : Nat} {r : M.RS} {w : World} (h : RsAt C T b o r w) : w.cell? ⟨b, o, none⟩ = some (.string (S r.t)) := by rw [h.row.cell, h.c0]
theorem RsAt.cell1 {C : Array Value} {T : TypeId} {b o : Nat} {r : M.RS} {w : World} (h : RsAt C T b o r w) : w.cell? ⟨b, o + 1, none⟩ = some (.bool r.b) := by rw [h.row.cell, h.c1]
theorem RsAt.put {C : Array Value} {T : TypeId} {b o : Nat} {r : M.RS} {w : World} (h : RsAt C T b o r w) (q : M.RS) (hq : q.t.length ≤ 140737488351232) {w' : World} (hr : RowIn (putR C o q) T w' b) : RsAt (putR C o q) T b o q w' := by
  have h1 := (Array.getElem?_eq_some_iff.1 h.c0).1
  have h2 := (Array.getElem?_eq_some_iff.1 h.c1).1
  refine ⟨hr, ?_, ?_, hq⟩
  · simp [putR, h1]
  · simp [putR, h2]
theorem set_same {C : Array Value} {o : Nat} {v : Value} (h : C[o]? = some v) : C.setIfInBounds o v = C := by
  apply Array.ext_getElem?
  intro i
  rw [Array.getElem?_setIfInBounds]
  by_cases e : o = i
  · subst e
    have := (Array.getElem?_eq_some_iff.1 h).1
    rw [if_pos rfl, if_pos this, h]
  · simp [e]
theorem RsAt.same {C : Array Value} {T : TypeId} {b o : Nat} {r : M.RS} {w : World} (h : RsAt C T b o r w) : putR C o r = C := by
  unfold putR
  rw [set_same h.c0, set_same h.c1]
theorem putR_bad {C : Array Value} {o : Nat} {t : List UInt8} {x : Bool} (h : C[o]? = some (.string (S t))) : C.setIfInBounds (o + 1) (.bool x) = putR C o ⟨t, x⟩ := by
  unfold putR
  rw [set_same h]
theorem putR_good {C : Array Value} {o : Nat} {t : List UInt8} (h : C[o + 1]? = some (.bool false)) : C.setIfInBounds o (.string (S t)) = putR C o ⟨t, false⟩ := by
  have k : (C.setIfInBounds o (.string (S t)))[o + 1]? = some (.bool false) := by rw [Array.getElem?_setIfInBounds, if_neg (by omega), h]
  unfold putR
  exact (set_same k).symm
/-- What a call on a rest leaves. -/
def RsR (v : Value) (C : Array Value) (T : TypeId) (b o : Nat) (q : M.RS) (w : World) (e : Ending) (w' : World) : Prop := e = .returned v ∧ RowIn (putR C o q) T w' b ∧ OnlyS (fun k => k = b) w w' ∧ w'.heap.size = w.heap.size
theorem M.cutR_len (r : M.RS) (n : Int) : (M.cutR r n).2.t.length ≤ r.t.length ∧ (M.cutR r n).1.length ≤ r.t.length := by
  unfold M.cutR
  split
  · simp; omega
  · simp
theorem M.cutR_nat {t : List UInt8} {m : Nat} (h : m ≤ t.length) : M.cutR ⟨t, false⟩ (m : Int) = (t.take m, ⟨t.drop m, false⟩) := by
  unfold M.cutR
  rw [if_pos ⟨rfl, by omega, by simp; omega⟩]
  rfl
theorem M.numR_len (r : M.RS) : (M.numR r).2.t.length ≤ r.t.length := by
  unfold M.numR
  split
  · simp
  · split
    · simp
    · simp
theorem M.numR_le (r : M.RS) : (M.numR r).1 ≤ 9223372036854775807 := by
  unfold M.numR
  cases h : M.gets r.t 0 with
  | none => simp
  | some x => obtain ⟨n, nx⟩ := x; exact (M.gets_bounds h).2.2.2.1
set_option maxHeartbeats 2000000 in
set_option maxRecDepth 100000 in
theorem cut10_any (C : Array Value) (T : TypeId) (b o : Nat) (r : M.RS) (n : Int) (w : World) (h : RsAt C T b o r w) :
    Calls Try.prog 114 #[.pointer (some ⟨b, o, none⟩), .int .i64 n] w fun e w' => RsR (.string (S (M.cutR r n).1)) C T b o (M.cutR r n).2 w e w' := by
  have c0 := h.cell0
  have c1 := h.cell1
  have f0 := h.row.free o
  have f1 := h.row.free (o + 1)
  have hlen := h.len
  have HO := Lib.hid (fun (v : Value) => onlyS_set (A := fun k => k = b) w b o v rfl)
  have HO1 := Lib.hid (fun (v : Value) => onlyS_set (A := fun k => k = b) w b (o + 1) v rfl)
  have HR := Lib.hid h
  clear h
  obtain ⟨t, bad⟩ := r
  simp only at c0 c1 hlen
  have HX : Hid (∀ P : Prop, (RsR (.string (S [])) C T b o ⟨t, true⟩ w (.returned (.string (S []))) (w.setCell ⟨b, o + 1, none⟩ (.bool true)))) := Lib.hid fun _ =>
    ⟨rfl, by rw [← putR_bad HR.out.c0]; exact HR.out.row.set _ _, HO1.out _, by simp [World.setCell]⟩
  cases bad with
  | true =>
    have HE : Hid (M.cutR ⟨t, true⟩ n = ([], ⟨t, true⟩)) := Lib.hid (by simp [M.cutR])
    go_enter Try.func114, Try.ntmps114
    go_wp2_with fail
    go_ret
    rw [HE.out]
    exact HX.out True
  | false =>
    by_cases h0 : n < 0
    · have q0 : decide (n < 0) = true := by simpa using h0
      have HE : Hid (M.cutR ⟨t, false⟩ n = ([], ⟨t, true⟩)) := Lib.hid (by simp [M.cutR]; omega)
      go_enter Try.func114, Try.ntmps114
      go_wp2_with fail
      go_ret
      rw [HE.out]
      exact HX.out True
    · have q0 : decide (n < 0) = false := by simp; omega
      by_cases h1 : (t.length : Int) < n
      · have q1 : decide ((t.length : Int) < n) = true := by simpa using h1
        have HE : Hid (M.cutR ⟨t, false⟩ n = ([], ⟨t, true⟩)) := Lib.hid (by simp [M.cutR]; omega)
        go_enter Try.func114, Try.ntmps114
        go_wp2_with fail
        go_ret
        rw [HE.out]
        exact HX.out True
      · have q1 : decide ((t.length : Int) < n) = false := by simp; omega
        obtain ⟨m, rfl⟩ : ∃ m : Nat, n = (m : Int) := ⟨n.toNat, by omega⟩
        have hml : m ≤ t.length := by omega
        have HE : Hid (M.cutR ⟨t, false⟩ (m : Int) = (t.take m, ⟨t.drop m, false⟩)) := Lib.hid (by simp [M.cutR]; omega)
        have k1 := run_piece_to (P := Try.prog) 9 Try.underlying9 t (m : Int) m rfl hml
        have k2 := run_piece_from (P := Try.prog) 9 Try.underlying9 t (m : Int) m rfl hml
        clear h0 h1
        go_enter Try.func114, Try.ntmps114
        go_wp2_with fail
        go_ret
        rw [HE.out]
        exact ⟨rfl, by rw [← putR_good HR.out.c1]; exact HR.out.row.set _ _, HO.out _, by simp [World.setCell]⟩

/-- A second call on what the first one left. -/
theorem RsR.at_ {v : Value} {C : Array Value} {T : TypeId} {b o : Nat} {r q : M.RS} {w w' : World} {e : Ending} (h : RsAt C T b o r w) (hq : q.t.length ≤ r.t.length) (k : RsR v C T b o q w e w') : RsAt (putR C o q) T b o q w' :=
  h.put q (by have := h.len; omega) k.2.1
theorem putR_putR (C : Array Value) (o : Nat) (q r : M.RS) : putR (putR C o q) o r = putR C o r := by
  unfold putR
  rw [Array.setIfInBounds_comm _ _ (show o + 1 ≠ o by omega) (xs := C.setIfInBounds o _), Array.setIfInBounds_setIfInBounds, Array.setIfInBounds_setIfInBounds]
set_option maxHeartbeats 2000000 in
set_option maxRecDepth 100000 in
theorem num10_any (C : Array Value) (T : TypeId) (b o : Nat) (r : M.RS) (w : World) (h : RsAt C T b o r w) :
    Calls Try.prog 80 #[.pointer (some ⟨b, o, none⟩)] w fun e w' => RsR (.int .i64 (M.numR r).1) C T b o (M.numR r).2 w e w' := by
  have c0 := h.cell0
  have c1 := h.cell1
  have f1 := h.row.free (o + 1)
  have CG := Lib.hid (get_any r.t 0 w (by have := h.len; omega))
  have HO1 := Lib.hid (fun (v : Value) => onlyS_set (A := fun k => k = b) w b (o + 1) v rfl)
  have HR := Lib.hid h
  have HL := Lib.hid h.len
  clear h
  obtain ⟨t, bad⟩ := r
  simp only at c0 c1 CG HL
  have HP : Hid (∀ x : Bool, RsAt (putR C o ⟨t, x⟩) T b o ⟨t, x⟩ (w.setCell ⟨b, o + 1, none⟩ (.bool x))) := Lib.hid fun x => HR.out.put ⟨t, x⟩ HL.out (by rw [← putR_bad HR.out.c0]; exact HR.out.row.set _ _)
  have CC := Lib.hid (fun (x : Bool) (n : Int) => cut10_any _ T b o ⟨t, x⟩ n _ (HP.out x))
  cases hg : M.gets t 0 with
  | none =>
    have HE := Lib.hid (show M.numR ⟨t, bad⟩ = (0, ⟨t, true⟩) from by simp [M.numR, hg])
    have HC := Lib.hid (show M.cutR ⟨t, true⟩ 0 = ([], ⟨t, true⟩) from by simp [M.cutR])
    rw [hg] at CG
    simp only [tri] at CG
    clear hg
    go_enter Try.func80, Try.ntmps80
    go_wp2_with fail
    with_reducible refine (CG.out).mono ?_
    rintro e w1 ⟨rfl, rfl⟩
    cases bad
    all_goals
      go_wp2_with fail
      with_reducible refine (CC.out true 0).mono ?_
      rintro e w2 ⟨rfl, h2, h3, h4⟩
      have H2 := Lib.hid h2
      have H3 := Lib.hid h3
      have H4 := Lib.hid h4
      clear h2 h3 h4
      go_wp2_with fail
      go_ret
      rw [HE.out]
      refine ⟨rfl, ?_, (HO1.out _).trans H3.out, by rw [H4.out]; simp [World.setCell]⟩
      have := H2.out
      rw [HC.out, putR_putR] at this
      exact this
  | some x =>
    obtain ⟨n, nx⟩ := x
    have hnx : nx ≤ t.length := (M.gets_bounds hg).2.2.1
    have HE := Lib.hid (show M.numR ⟨t, bad⟩ = (n, (M.cutR ⟨t, bad⟩ (nx : Int)).2) from by
      unfold M.numR
      simp only [hg]
      cases bad
      · rw [M.cutR_nat hnx]; rfl
      · simp [M.cutR])
    rw [hg] at CG
    simp only [tri] at CG
    clear hg
    go_enter Try.func80, Try.ntmps80
    go_wp2_with fail
    with_reducible refine (CG.out).mono ?_
    rintro e w1 ⟨rfl, rfl⟩
    cases bad
    all_goals
      go_wp2_with fail
      with_reducible refine (CC.out _ (nx : Int)).mono ?_
      rintro e w2 ⟨rfl, h2, h3, h4⟩
      have H2 := Lib.hid h2
      have H3 := Lib.hid h3
      have H4 := Lib.hid h4
      clear h2 h3 h4
      go_wp2_with fail
      go_ret
      rw [HE.out]
      refine ⟨rfl, ?_, (HO1.out _).trans H3.out, by rw [H4.out]; simp [World.setCell]⟩
      have := H2.out
      rw [putR_putR] at this
      exact this
set_option maxHeartbeats 2000000 in
set_option maxRecDepth 100000 in
theorem big10_any (C : Array Value) (T : TypeId) (b o : Nat) (r : M.RS) (w : World) (h : RsAt C T b o r w) :
    Calls Try.prog 79 #[.pointer (some ⟨b, o, none⟩)] w fun e w' => RsR (.int .i64 (M.bigR r).1) C T b o (M.bigR r).2 w e w' := by
  have CC := Lib.hid (cut10_any C T b o r 8 w h)
  have hl := M.cutR_len r 8
  have CG := Lib.hid (fun W => ofBig_any (M.cutR r 8).1 0 W (by have := h.len; omega))
  have HR := Lib.hid h
  have HE0 : Hid (M.bigR r = match M.ofBigs (M.cutR r 8).1 0 with
    | none => (0, ⟨(M.cutR r 8).2.t, true⟩)
    | some n => (n, (M.cutR r 8).2)) := Lib.hid rfl
  have HL := Lib.hid hl
  clear h hl
  generalize M.cutR r 8 = c at *
  obtain ⟨x, t, bad⟩ := c
  simp only at CC CG HE0 HL
  go_enter Try.func79, Try.ntmps79
  go_wp2_with fail
  with_reducible refine (CC.out).mono ?_
  rintro e w1 ⟨rfl, h2, h3, h4⟩
  have HQ := Lib.hid (HR.out.put ⟨t, bad⟩ (by have := HR.out.len; have := HL.out.1; show t.length ≤ _; omega) h2)
  have H3 := Lib.hid h3
  have H4 := Lib.hid h4
  clear h2 h3 h4
  go_wp2_with fail
  with_reducible refine (CG.out w1).mono ?_
  rintro e w2 ⟨rfl, rfl⟩
  have c1 : w1.cell? ⟨b, o + 1, none⟩ = some (.bool bad) := HQ.out.cell1
  have f1 := HQ.out.row.free (o + 1)
  have HO1 := Lib.hid (fun (v : Value) => onlyS_set (A := fun k => k = b) w1 b (o + 1) v rfl)
  have HP : Hid (∀ x : Bool, RowIn (putR C o ⟨t, x⟩) T (w1.setCell ⟨b, o + 1, none⟩ (.bool x)) b) := Lib.hid fun x => by
    have := HQ.out.row.set (o + 1) (.bool x)
    rw [putR_bad HQ.out.c0, putR_putR] at this
    exact this
  cases hg : M.ofBigs x 0 with
  | none =>
    rw [hg] at HE0
    simp only [duo]
    simp only at HE0
    clear hg
    cases bad
    all_goals
      go_wp2_with fail
      go_ret
      rw [HE0.out]
      exact ⟨rfl, HP.out true, H3.out.trans (HO1.out _), by rw [← H4.out]; simp [World.setCell]⟩
  | some n =>
    rw [hg] at HE0
    simp only [duo]
    simp only at HE0
    clear hg
    cases bad
    all_goals
      go_wp2_with fail
      go_ret
      rw [HE0.out]
      exact ⟨rfl, HP.out _, H3.out.trans (HO1.out _), by rw [← H4.out]; simp [World.setCell]⟩
set_option maxHeartbeats 2000000 in
set_option maxRecDepth 100000 in
theorem key10_any (C : Array Value) (T : TypeId) (b o : Nat) (r : M.RS) (w : World) (h : RsAt C T b o r w) :
    Calls Try.prog 116 #[.pointer (some ⟨b, o, none⟩)] w fun e w' => RsR (.string (S (M.keyR r).1)) C T b o (M.keyR r).2 w e w' := by
  have CN := Lib.hid (num10_any C T b o r w h)
  have hl := M.numR_len r
  have HR := Lib.hid h
  have HE : Hid (M.keyR r = M.cutR (M.numR r).2 (M.numR r).1) := Lib.hid rfl
  have CC := Lib.hid (fun W (h : RsAt (putR C o (M.numR r).2) T b o (M.numR r).2 W) => cut10_any _ T b o (M.numR r).2 ((M.numR r).1 : Int) W h)
  have HL := Lib.hid hl
  clear h hl
  generalize M.numR r = c at *
  obtain ⟨n, q⟩ := c
  simp only at CC CN HE HL
  go_enter Try.func116, Try.ntmps116
  go_wp2_with fail
  with_reducible refine (CN.out).mono ?_
  rintro e w1 ⟨rfl, h2, h3, h4⟩
  have HQ := Lib.hid (HR.out.put q (by have := HR.out.len; have := HL.out; omega) h2)
  have H3 := Lib.hid h3
  have H4 := Lib.hid h4
  clear h2 h3 h4
  go_wp2_with fail
  with_reducible refine (CC.out w1 HQ.out).mono ?_
  rintro e w2 ⟨rfl, h2, h3, h4⟩
  have H5 := Lib.hid h2
  have H6 := Lib.hid h3
  have H7 := Lib.hid h4
  clear h2 h3 h4
  go_wp2_with fail
  go_ret
  rw [HE.out]
  exact ⟨rfl, by have := H5.out; rwa [putR_putR] at this, H3.out.trans H6.out, by rw [H7.out, H4.out]⟩

end Go.Proofs.Ythidmgnfdikppaa
