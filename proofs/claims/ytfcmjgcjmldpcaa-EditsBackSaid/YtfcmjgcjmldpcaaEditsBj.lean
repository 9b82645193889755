/- Layer 16: DecodeState (gendecstate.py). -/
import Derived.Test.YtfcmjgcjmldpcaaEditsBg
import Derived.Test.YtfcmjgcjmldpcaaEditsAj
namespace Go.Proofs.Ytfcmjgcjmldpcaa
set_option linter.unusedVariables false
set_option linter.unusedSimpArgs false
open Go Go.RowKit
attribute [local go_sem ↓] run_index_S
attribute [local go_sem] S_append S_extract

/-- A tablet that stands at a place; tablets, so many; a state; the state that all of a text is. -/
def Rd.tb (l : List UInt8) (a : Nat) : Option (Ed.Tb × Nat) := match M.getTs l a with
  | none => none
  | some (f, p1) => match Rd.lst l p1 with
    | none => none
    | some (xs, p2) => some (⟨f, xs⟩, p2)
def Rd.tbN (l : List UInt8) : Nat → Nat → Option (List Ed.Tb × Nat)
  | 0, a => some ([], a)
  | n + 1, a => match Rd.tb l a with
    | none => none
    | some (x, p) => match Rd.tbN l n p with
      | none => none
      | some (xs, q) => some (x :: xs, q)
def Rd.st0 (l : List UInt8) : Option (Ed.St × Nat) := match M.gets l (0 : Nat) with
  | none => none
  | some (v1, p1) => match M.gets l p1 with
    | none => none
    | some (v2, p2) => match M.gets l p2 with
      | none => none
      | some (n, p3) => (Rd.tbN l n p3).map (fun q => (⟨q.1, v1, v2⟩, q.2))
def Rd.st (l : List UInt8) : Option Ed.St := match Rd.st0 l with
  | none => none
  | some (s, q) => if q = l.length then some s else none
theorem Rd.tb_step {l f : List UInt8} {p p1 p2 : Nat} {e1 bd2 : Bool} {xs : List Int} (h1 : Rd.txt l p = (f, p1, e1)) (h2 : LsE l p1 e1 xs p2 bd2) :
    (bd2 = false ∧ Rd.tb l p = some (⟨f, xs⟩, p2) ∧ p < p2 ∧ p2 ≤ l.length) ∨ (bd2 = true ∧ Rd.tb l p = none) := by
  unfold Rd.tb
  rcases Rd.txt_cases h1 with ⟨rfl, g1⟩ | ⟨rfl, g1⟩
  · rcases h2.2 with ⟨rfl, _, g4⟩ | ⟨rfl, g4⟩
    · have b1 := getTs_bounds g1
      have b4 := lst_bounds g4
      exact .inl ⟨rfl, by simp only [g1, g4], by omega, b4.2.1⟩
    · simp only [Bool.false_eq_true, false_or] at g4
      exact .inr ⟨rfl, by simp only [g1, g4]⟩
  · rcases h2.2 with ⟨rfl, h, _⟩ | ⟨rfl, _⟩
    · simp at h
    · exact .inr ⟨rfl, by simp only [g1]⟩
theorem Rd.txt_len (l : List UInt8) (a : Nat) : (Rd.txt l a).1.length ≤ l.length := by
  unfold Rd.txt
  cases h : M.getTs l a with
  | none => simp
  | some q => obtain ⟨t, p⟩ := q; exact (getTs_bounds h).2.2
/-- A state that is being read. -/
def DsI (l : List UInt8) (D : List Ed.Tb) (v1 v2 p n : Nat) (bd : Bool) : Prop := n ≤ 9223372036854775807 ∧
  ((bd = false ∧ Rd.st0 l = (Rd.tbN l n p).map (fun q => (⟨D ++ q.1, v1, v2⟩, q.2)) ∧ D.length ≤ p ∧ p ≤ l.length) ∨ (bd = true ∧ Rd.st0 l = none ∧ D.length ≤ l.length + 1))
theorem Rd.num_le {l : List UInt8} {a v p : Nat} {e : Bool} (h : Rd.num l a = (v, p, e)) : v ≤ 9223372036854775807 := by
  rcases Rd.num_cases h with ⟨rfl, g⟩ | ⟨rfl, g⟩
  · exact (M.gets_bounds g).2.2.2.1
  · unfold Rd.num at h
    rw [g] at h
    simp only [Prod.mk.injEq] at h
    omega
theorem DsI.start {l : List UInt8} {v1 p1 v2 p2 v p : Nat} {e1 e2 e : Bool} (h1 : Rd.num l 0 = (v1, p1, e1)) (h2 : Rd.num l p1 = (v2, p2, e2)) (h : Rd.num l p2 = (v, p, e)) : DsI l [] v1 v2 p v ((e1 || e2) || e) := by
  refine ⟨Rd.num_le h, ?_⟩
  unfold Rd.st0
  rcases Rd.num_cases h1 with ⟨rfl, g1⟩ | ⟨rfl, g1⟩
  · rcases Rd.num_cases h2 with ⟨rfl, g2⟩ | ⟨rfl, g2⟩
    · rcases Rd.num_cases h with ⟨rfl, g3⟩ | ⟨rfl, g3⟩
      · exact .inl ⟨rfl, by simp only [g1, g2, g3, List.nil_append], by simp, (M.gets_bounds g3).2.2.1⟩
      · exact .inr ⟨rfl, by simp only [g1, g2, g3], by simp⟩
    · exact .inr ⟨rfl, by simp only [g1, g2], by simp⟩
  · exact .inr ⟨by simp, by simp only [g1], by simp⟩
theorem DsI.step {l : List UInt8} {D : List Ed.Tb} {v1 v2 p n p5 : Nat} {bd : Bool} {y : Ed.Tb} (h : DsI l D v1 v2 p (n + 1) false) (h5 : (bd = false ∧ Rd.tb l p = some (y, p5) ∧ p < p5 ∧ p5 ≤ l.length) ∨ (bd = true ∧ Rd.tb l p = none)) : DsI l (D ++ [y]) v1 v2 p5 n bd := by
  obtain ⟨h0, ⟨_, h2, h3, h4⟩ | ⟨h1, _⟩⟩ := h
  · rcases h5 with ⟨rfl, g, g2, g3⟩ | ⟨rfl, g⟩
    · refine ⟨by omega, .inl ⟨rfl, ?_, by simp; omega, g3⟩⟩
      rw [h2]
      simp only [Rd.tbN, g]
      cases hl : Rd.tbN l n p5 with
      | none => rfl
      | some q => simp
    · exact ⟨by omega, .inr ⟨rfl, by rw [h2]; simp [Rd.tbN, g], by simp; omega⟩⟩
  · cases h1
theorem DsI.len {l : List UInt8} {D : List Ed.Tb} {v1 v2 p n : Nat} {bd : Bool} (h : DsI l D v1 v2 p n bd) : D.length ≤ l.length + 1 := by
  obtain ⟨h0, ⟨_, h2, h3, h4⟩ | ⟨h1, h2, h3⟩⟩ := h <;> omega
theorem DsI.fin {l : List UInt8} {D : List Ed.Tb} {v1 v2 p n : Nat} {bd : Bool} (h : DsI l D v1 v2 p n bd) (hn : n = 0 ∨ bd = true) : Rd.st l = if (!bd && decide (p = l.length)) = true then some ⟨D, v1, v2⟩ else none := by
  obtain ⟨h0, ⟨rfl, h2, h3, h4⟩ | ⟨rfl, h2, h3⟩⟩ := h
  · rcases hn with rfl | h
    · unfold Rd.st
      rw [h2]
      simp [Rd.tbN]
    · cases h
  · unfold Rd.st
    rw [h2]
    simp
/-- A state in memory that the call made: rc the result's block, sb the state's. -/
structure DsM (W : World) (sb : Nat) (Rs : List Rt) (a : Option Addr) (c : Nat) (v1 v2 : Int) (w : World) : Prop where
  z : BkIn stZ 24 w W.heap.size
  bx : BkIn (stA a Rs.length c v1 v2) 24 w sb
  b0 : W.heap.size + 1 < sb
  row : w.ownsRow W.heap.size 41 2 (.slice a Rs.length c) Rs.length (tbC Rs)
  own : ∀ r, r ∈ Rs → w.ownsRow W.heap.size 3 1 (.slice r.o r.l.length r.k) r.l.length (nsL r.l)
  sm : ∀ r, r ∈ Rs → r.f.length ≤ 90000 ∧ r.l.length ≤ 90001
  bel : Below W.heap.size W w
theorem DsM.grown {W w w' : World} {sb : Nat} {Rs : List Rt} {a : Option Addr} {c : Nat} {v1 v2 : Int} (h : DsM W sb Rs a c v1 v2 w) {C : Array Value} (hb : BkIn C 77 w (W.heap.size + 1)) (hg : w.grownBy w' (some (W.heap.size + 1))) : DsM W sb Rs a c v1 v2 w' :=
  ⟨h.z.grown' hg (by simp), h.bx.grown' hg (by have := h.b0; simp; omega), h.b0, h.row.kept hg (.inr (own_of_blk hb h.row (by decide))), fun r hr => (h.own r hr).kept hg (.inr (own_of_blk hb (h.own r hr) (by decide))), h.sm, h.bel.grown hg h.bel.size (fun k hk => by cases hk; omega)⟩
theorem DsM.below {W w w' : World} {sb : Nat} {Rs : List Rt} {a : Option Addr} {c : Nat} {v1 v2 : Int} (h : DsM W sb Rs a c v1 v2 w) (hb : Below w.heap.size w w') : DsM W sb Rs a c v1 v2 w' :=
  ⟨h.z.below hb, h.bx.below hb, h.b0, own_below16 h.row hb, fun r hr => own_below16 (h.own r hr) hb, h.sm, h.bel.trans (hb.mono h.bel.size)⟩
theorem DsM.quiet {W w w' : World} {sb : Nat} {Rs : List Rt} {a : Option Addr} {c : Nat} {v1 v2 : Int} (h : DsM W sb Rs a c v1 v2 w) (hg : w.grownBy w' none) : DsM W sb Rs a c v1 v2 w' :=
  ⟨h.z.grown' hg (by simp), h.bx.grown' hg (by simp), h.b0, h.row.kept hg (none_ne16 _), fun r hr => (h.own r hr).kept hg (none_ne16 _), h.sm, h.bel.grown hg h.bel.size (fun k hk => by cases hk)⟩
theorem DsM.at_ {W w : World} {sb : Nat} {Rs : List Rt} {a : Option Addr} {c : Nat} {v1 v2 : Int} (h : DsM W sb Rs a c v1 v2 w) : TbsAt w a Rs := fun hne => by
  obtain ⟨g, e1, _, hc⟩ := own_cell16 (List.length_pos_iff.2 hne) h.row
  refine ⟨g, 0, e1, fun j hj => ?_⟩
  have k := fun i (hi : i < 2) u (hu : (tbL (Rs.getD j rt0))[i]? = some u) => hc (j * 2 + i) u (by rw [tbC_get Rs j i hj hi]; exact hu)
  rw [Nat.zero_add]
  exact ⟨k 0 (by omega) _ rfl, k 1 (by omega) _ rfl, nsAt_own (h.own _ (Ed.gD_mem hj))⟩
theorem DsM.app {W w w' : World} {sb : Nat} {Rs : List Rt} {a a' : Option Addr} {c c' : Nat} {v1 v2 : Int} (h : DsM W sb Rs a c v1 v2 w) {y : Rt} (hy : w.ownsRow W.heap.size 3 1 (.slice y.o y.l.length y.k) y.l.length (nsL y.l)) (hsm : y.f.length ≤ 90000 ∧ y.l.length ≤ 90001) (hg : w.grownBy w' (Value.ownBlock (.slice a Rs.length c)))
    (ho : w'.ownsRow W.heap.size 41 2 (.slice a' (Rs.length + 1) c') (Rs.length + 1) (tbC Rs ++ tbC [y])) : DsM W sb (Rs ++ [y]) a' c' v1 v2 (w'.setCell ⟨sb, 0, none⟩ (.slice a' (Rs.length + 1) c')) := by
  have hk : ∀ {v' : Value} {n' : Nat} {xs' : List Value}, w.ownsRow W.heap.size 3 1 v' n' xs' → w'.ownsRow W.heap.size 3 1 v' n' xs' := fun hi => by
    refine World.ownsRow.kept hi hg ?_
    rename_i v' _ _
    cases q : Value.ownBlock (.slice a Rs.length c) with
    | none =>
      cases q2 : v'.ownBlock with
      | none => exact .inl rfl
      | some x => exact .inr (by simp)
    | some x => exact .inr (own_apart16 h.row hi (by decide) q)
  have hz := h.z.grown' hg (own_of_blk h.z h.row (by decide))
  have hx := h.bx.grown' hg (own_of_blk h.bx h.row (by decide))
  have hs := grown_set16 w' sb 0 (.slice a' (Rs.length + 1) c')
  have hb : Below W.heap.size W w' := h.bel.grown hg h.bel.size (fun k hk => (h.row.lt k hk).1)
  have e : tbC (Rs ++ [y]) = tbC Rs ++ tbC [y] := by simp [tbC]
  refine ⟨hz.other (by have := h.b0; omega) _ _, ?_, h.b0, ?_, fun r hr => ?_, fun r hr => ?_, hb.grown hs hb.size (fun k hk => by cases hk; have := h.b0; omega)⟩
  · have := hx.set 0 (.slice a' (Rs.length + 1) c')
    rw [List.length_append]
    exact this
  · rw [List.length_append, e]
    exact ho.kept hs (.inr (own_of_blk hx ho (by decide)))
  · have hr' : w'.ownsRow W.heap.size 3 1 (.slice r.o r.l.length r.k) r.l.length (nsL r.l) := by
      rcases List.mem_append.1 hr with hr | hr
      · exact hk (h.own r hr)
      · rw [List.mem_singleton.1 hr]; exact hk hy
    exact hr'.kept hs (.inr (own_of_blk hx hr' (by decide)))
  · rcases List.mem_append.1 hr with hr | hr
    · exact h.sm r hr
    · rw [List.mem_singleton.1 hr]; exact hsm
theorem DsM.atRow {W w : World} {sb : Nat} {Rs : List Rt} {a : Option Addr} {c : Nat} {v1 v2 : Int} (h : DsM W sb Rs a c v1 v2 w) (C : Array Value) : TbsAt (w.setRow W.heap.size C) a Rs := fun hne => by
  have hrow := own_row16 h.row (own_of_blk h.z h.row (by decide)) C
  obtain ⟨g, e1, _, hc⟩ := own_cell16 (List.length_pos_iff.2 hne) hrow
  refine ⟨g, 0, e1, fun j hj => ?_⟩
  have k := fun i (hi : i < 2) u (hu : (tbL (Rs.getD j rt0))[i]? = some u) => hc (j * 2 + i) u (by rw [tbC_get Rs j i hj hi]; exact hu)
  rw [Nat.zero_add]
  exact ⟨k 0 (by omega) _ rfl, k 1 (by omega) _ rfl, nsAt_own (own_row16 (h.own _ (Ed.gD_mem hj)) (own_of_blk h.z (h.own _ (Ed.gD_mem hj)) (by decide)) C)⟩
def DecSR (l : List UInt8) (W : World) (e : Ending) (w' : World) : Prop := Below W.heap.size W w' ∧
  ((∃ Rs a c, ∃ s : Ed.St, Rd.st l = some s ∧ Ed.Ok s ∧ e = .returned (.tuple #[.agg #[.slice a (Rs : List Rt).length c, .int .i64 s.log, .int .i64 s.next], .int .i64 0]) ∧ TbsAt w' a Rs ∧ tbs Rs = s.T) ∨
   ((∀ s, Rd.st l = some s → ¬ Ed.Ok s) ∧ e = .returned (.tuple #[.agg #[.slice none 0 0, .int .i64 0, .int .i64 0], .int .i64 30])))

set_option maxHeartbeats 8000000 in
set_option maxRecDepth 100000 in
theorem decodeState16_any (l : List UInt8) (hl : l.length ≤ 90000) (w : World) : Calls Try.prog 27 #[.string (S l)] w (DecSR l w) := by
  have HLL := Lib.hid hl
  obtain ⟨i1, z1, hi1, hz1, h11, h12, h13⟩ := infoTb_parts
  have CN := Lib.hid (fun p bd x hx => number16_any l (by omega) p (w.heap.size + 1) bd x hx)
  have CT := Lib.hid (fun p bd x hx => textR16_any l (by omega) p (w.heap.size + 1) bd x hx)
  have CL := Lib.hid (fun p bd x hx => listR16_any l (by omega) p (w.heap.size + 1) bd x hx)
  have CW := Lib.hid (fun p bd x hx => whole16_any l (by omega) p (w.heap.size + 1) bd x hx)
  clear hl
  have hs0 : (w.alloc (.cells #[.slice none 0 0, .int .i64 0, .int .i64 0] 24)).heap.size = w.heap.size + 1 := by simp
  have HR := Lib.hid (show RdAt (w.heap.size + 1) l (0 : Nat) false ((w.alloc (.cells #[.slice none 0 0, .int .i64 0, .int .i64 0] 24)).alloc (.cells #[.string (S l), .int .i64 0, .bool false] 77)) from bkIn_at _ _ hs0)
  have hb0 := (Below.refl w.heap.size w).alloc (Nat.le_refl _) (.cells #[.slice none 0 0, .int .i64 0, .int .i64 0] 24)
  have hb1 := (Below.refl (w.heap.size + 1) (w.alloc (.cells #[.slice none 0 0, .int .i64 0, .int .i64 0] 24))).alloc (by simp) (.cells #[.string (S l), .int .i64 0, .bool false] 77)
  have HZ := Lib.hid (show BkIn stZ 24 ((w.alloc (.cells #[.slice none 0 0, .int .i64 0, .int .i64 0] 24)).alloc (.cells #[.string (S l), .int .i64 0, .bool false] 77)) w.heap.size from BkIn.below (bkIn_new stZ _ w) (by rw [hs0]; exact hb1))
  have HB := Lib.hid (hb0.trans (hb1.mono (by omega)))
  clear hb0 hb1 hs0
  go_enter Try.func27, Try.ntmps27
  obtain ⟨v1, p1, e1, hq1⟩ : ∃ v p' e, Rd.num l 0 = (v, p', e) := ⟨_, _, _, rfl⟩
  have HQ1 := Lib.hid hq1
  have C1 := Lib.hid (CN.out 0 false ((w.alloc (.cells #[.slice none 0 0, .int .i64 0, .int .i64 0] 24)).alloc (.cells #[.string (S l), .int .i64 0, .bool false] 77)) HR.out)
  rw [hq1] at C1
  clear hq1
  simp only [Bool.false_or] at C1
  go_wp2_with fail
  generalize (w.alloc (.cells #[.slice none 0 0, .int .i64 0, .int .i64 0] 24)).alloc (.cells #[.string (S l), .int .i64 0, .bool false] 77) = wa at *
  with_reducible refine (C1.out).mono ?_
  rintro e x1 ⟨rfl, hr, hg⟩
  replace HZ := Lib.hid (HZ.out.grown' hg (by simp))
  replace HB := Lib.hid (HB.out.grown hg HB.out.size (fun k hk => by cases hk; omega))
  replace HR := Lib.hid hr
  clear hr hg C1
  
  obtain ⟨v2, p2, e2, hq2⟩ : ∃ v p' e, Rd.num l p1 = (v, p', e) := ⟨_, _, _, rfl⟩
  have HQ2 := Lib.hid hq2
  have C2 := Lib.hid (CN.out p1 e1 x1 HR.out)
  rw [hq2] at C2
  clear hq2
  simp only [Bool.false_or] at C2
  go_wp2_with fail
  with_reducible refine (C2.out).mono ?_
  rintro e x2 ⟨rfl, hr, hg⟩
  replace HZ := Lib.hid (HZ.out.grown' hg (by simp))
  replace HB := Lib.hid (HB.out.grown hg HB.out.size (fun k hk => by cases hk; omega))
  replace HR := Lib.hid hr
  clear hr hg C2
  
  have HGB := Lib.hid (HR.out.lt)
  have hba := (Below.refl x2.heap.size x2).alloc (Nat.le_refl _) (.cells #[.slice none 0 0, .int .i64 v1, .int .i64 v2] 24)
  have HD := Lib.hid (show DsM w x2.heap.size [] none 0 v1 v2 (x2.alloc (.cells #[.slice none 0 0, .int .i64 v1, .int .i64 v2] 24)) from ⟨HZ.out.below hba, bkIn_new _ _ x2, HGB.out, World.ownsRow_nil _ _ _ _, fun r hr => by simp at hr, fun r hr => by simp at hr, HB.out.trans (hba.mono HB.out.size)⟩)
  replace HR := Lib.hid (show RdAt (w.heap.size + 1) l p2 (e1 || e2) (x2.alloc (.cells #[.slice none 0 0, .int .i64 v1, .int .i64 v2] 24)) from BkIn.below HR.out hba)
  clear hba HZ HB
  obtain ⟨v3, p3, e3, hq3⟩ : ∃ v p' e, Rd.num l p2 = (v, p', e) := ⟨_, _, _, rfl⟩
  have HQ3 := Lib.hid hq3
  have C3 := Lib.hid (CN.out p2 (e1 || e2) (x2.alloc (.cells #[.slice none 0 0, .int .i64 v1, .int .i64 v2] 24)) HR.out)
  rw [hq3] at C3
  clear hq3
  simp only [Bool.false_or] at C3
  go_wp2_with fail
  generalize x2.alloc (.cells #[.slice none 0 0, .int .i64 v1, .int .i64 v2] 24) = wb at *
  generalize x2.heap.size = sb at *
  with_reducible refine (C3.out).mono ?_
  rintro e x3 ⟨rfl, hr, hg⟩
  replace HD := Lib.hid (HD.out.grown HR.out hg)
  replace HR := Lib.hid hr
  clear hr hg C3
  
  have HI0 := Lib.hid (DsI.start HQ1.out HQ2.out HQ3.out)
  clear HQ1 HQ2 HQ3
  generalize ((e1 || e2) || e3) = b3 at *
  go_wp2_with fail
  go_loopw [6] (fun nv wr => ∃ (D : List Rt) (p n : Nat) (bd : Bool) (ad : Option Addr) (cd : Nat), nv = .int .i64 n ∧ Hid (DsI l (tbs D) v1 v2 p n bd) ∧ Hid (RdAt (w.heap.size + 1) l p bd wr) ∧ Hid (DsM w sb D ad cd v1 v2 wr)) (fun nv _ => (intOf nv).toNat)
  case atStart => exact ⟨[], p3, v3, b3, none, 0, rfl, HI0, HR, HD⟩
  case round =>
    obtain ⟨D, p, n, bd, ad, cd, rfl, HI, HRr, HDr⟩ := hrel
    clear HI0 HR HD
    have HR := HRr
    have HD := HDr
    clear HRr HDr
    have c2 : wr.cell? ⟨w.heap.size + 1, 2, none⟩ = some (.bool bd) := BkIn.cell HR.out 2
    by_cases hn : n = 0 ∨ bd = true
    · have HF := Lib.hid (HI.out.fin hn)
      have C1 := Lib.hid (CW.out p bd wr HR.out)
      have HLX := Lib.hid (HI.out.len)
      clear HI
      generalize (!bd && decide (p = l.length)) = bw at *
      cases bd with
      | true =>
        go_wp2_with fail
        all_goals
          with_reducible refine (C1.out).mono ?_
          rintro e y2 ⟨rfl, hg⟩
          have HD2 := Lib.hid (HD.out.quiet hg)
          clear hg
          cases bw with
          | false =>
            go_wp2_with (refine wpList_store_row rfl 24 _ _ rfl w.heap.size _ rfl rfl 24 _ HD2.out.z infoSt_size rfl (by simp [Value.oneCell']) ?_)
            exact bodyPost_ret (ret_st2 rfl _ _ w.heap.size rfl (load_st rfl (HD2.out.z.rowPut stZ))) rfl ⟨below_row16 HD2.out.bel (Nat.le_refl _) _, .inr ⟨fun s hs => (by rw [HF.out] at hs; simp at hs), rfl⟩⟩
          | true =>
            have HF2 := Lib.hid (show Rd.st l = some ⟨tbs D, v1, v2⟩ from by rw [HF.out]; simp)
            have CC := Lib.hid (check16_any D ⟨by have h1 := HLX.out; have h2 := HLL.out; simp only [tbs_length] at h1; omega, fun r hr => by have := HD2.out.sm r hr; omega, fun r hr => by have := HD2.out.sm r hr; omega⟩ ad cd v1 v2 y2 HD2.out.at_)
            unfold stV at CC
            have s0 : y2.cell? ⟨sb, 0, none⟩ = some (.slice ad D.length cd) := HD2.out.bx.cell 0
            have s1 : y2.cell? ⟨sb, 1, none⟩ = some (.int .i64 v1) := HD2.out.bx.cell 1
            have s2 : y2.cell? ⟨sb, 2, none⟩ = some (.int .i64 v2) := HD2.out.bx.cell 2
            go_wp2_with fail
            with_reducible refine (CC.out).mono ?_
            rintro e y3 ⟨bk, rfl, hok, hb3⟩
            have HD3 := Lib.hid (HD2.out.below hb3)
            have HOK := Lib.hid hok
            clear hb3 hok CC s0 s1 s2 HD2
            cases bk with
            | false =>
              go_wp2_with (refine wpList_store_row rfl 24 _ _ rfl w.heap.size _ rfl rfl 24 _ HD3.out.z infoSt_size rfl (by simp [Value.oneCell']) ?_)
              exact bodyPost_ret (ret_st2 rfl _ _ w.heap.size rfl (load_st rfl (HD3.out.z.rowPut stZ))) rfl ⟨below_row16 HD3.out.bel (Nat.le_refl _) _, .inr ⟨fun s hs hk => (by rw [HF2.out] at hs; cases hs; exact nomatch HOK.out.2 hk), rfl⟩⟩
            | true =>
              have s0 : y3.cell? ⟨sb, 0, none⟩ = some (.slice ad D.length cd) := HD3.out.bx.cell 0
              have s1 : y3.cell? ⟨sb, 1, none⟩ = some (.int .i64 v1) := HD3.out.bx.cell 1
              have s2 : y3.cell? ⟨sb, 2, none⟩ = some (.int .i64 v2) := HD3.out.bx.cell 2
              go_wp2_with (refine wpList_store_row rfl 24 _ _ rfl w.heap.size _ rfl rfl 24 _ HD3.out.z infoSt_size rfl (by simp [Value.oneCell']) ?_)
              exact bodyPost_ret (ret_st2 rfl _ _ w.heap.size rfl (load_st rfl (HD3.out.z.rowPut (stA ad D.length cd v1 v2)))) rfl ⟨below_row16 HD3.out.bel (Nat.le_refl _) _, .inl ⟨D, ad, cd, _, HF2.out, HOK.out.1 (by trivial), rfl, HD3.out.atRow _, rfl⟩⟩
          
      | false =>
        obtain rfl : n = 0 := by rcases hn with h | h; exact h; cases h
        go_wp2_with fail
        with_reducible refine (C1.out).mono ?_
        rintro e y2 ⟨rfl, hg⟩
        have HD2 := Lib.hid (HD.out.quiet hg)
        clear hg
        cases bw with
        | false =>
          go_wp2_with (refine wpList_store_row rfl 24 _ _ rfl w.heap.size _ rfl rfl 24 _ HD2.out.z infoSt_size rfl (by simp [Value.oneCell']) ?_)
          exact bodyPost_ret (ret_st2 rfl _ _ w.heap.size rfl (load_st rfl (HD2.out.z.rowPut stZ))) rfl ⟨below_row16 HD2.out.bel (Nat.le_refl _) _, .inr ⟨fun s hs => (by rw [HF.out] at hs; simp at hs), rfl⟩⟩
        | true =>
          have HF2 := Lib.hid (show Rd.st l = some ⟨tbs D, v1, v2⟩ from by rw [HF.out]; simp)
          have CC := Lib.hid (check16_any D ⟨by have h1 := HLX.out; have h2 := HLL.out; simp only [tbs_length] at h1; omega, fun r hr => by have := HD2.out.sm r hr; omega, fun r hr => by have := HD2.out.sm r hr; omega⟩ ad cd v1 v2 y2 HD2.out.at_)
          unfold stV at CC
          have s0 : y2.cell? ⟨sb, 0, none⟩ = some (.slice ad D.length cd) := HD2.out.bx.cell 0
          have s1 : y2.cell? ⟨sb, 1, none⟩ = some (.int .i64 v1) := HD2.out.bx.cell 1
          have s2 : y2.cell? ⟨sb, 2, none⟩ = some (.int .i64 v2) := HD2.out.bx.cell 2
          go_wp2_with fail
          with_reducible refine (CC.out).mono ?_
          rintro e y3 ⟨bk, rfl, hok, hb3⟩
          have HD3 := Lib.hid (HD2.out.below hb3)
          have HOK := Lib.hid hok
          clear hb3 hok CC s0 s1 s2 HD2
          cases bk with
          | false =>
            go_wp2_with (refine wpList_store_row rfl 24 _ _ rfl w.heap.size _ rfl rfl 24 _ HD3.out.z infoSt_size rfl (by simp [Value.oneCell']) ?_)
            exact bodyPost_ret (ret_st2 rfl _ _ w.heap.size rfl (load_st rfl (HD3.out.z.rowPut stZ))) rfl ⟨below_row16 HD3.out.bel (Nat.le_refl _) _, .inr ⟨fun s hs hk => (by rw [HF2.out] at hs; cases hs; exact nomatch HOK.out.2 hk), rfl⟩⟩
          | true =>
            have s0 : y3.cell? ⟨sb, 0, none⟩ = some (.slice ad D.length cd) := HD3.out.bx.cell 0
            have s1 : y3.cell? ⟨sb, 1, none⟩ = some (.int .i64 v1) := HD3.out.bx.cell 1
            have s2 : y3.cell? ⟨sb, 2, none⟩ = some (.int .i64 v2) := HD3.out.bx.cell 2
            go_wp2_with (refine wpList_store_row rfl 24 _ _ rfl w.heap.size _ rfl rfl 24 _ HD3.out.z infoSt_size rfl (by simp [Value.oneCell']) ?_)
            exact bodyPost_ret (ret_st2 rfl _ _ w.heap.size rfl (load_st rfl (HD3.out.z.rowPut (stA ad D.length cd v1 v2)))) rfl ⟨below_row16 HD3.out.bel (Nat.le_refl _) _, .inl ⟨D, ad, cd, _, HF2.out, HOK.out.1 (by trivial), rfl, HD3.out.atRow _, rfl⟩⟩
        
    · obtain ⟨m, rfl⟩ : ∃ m, n = m + 1 := ⟨n - 1, by omega⟩
      obtain rfl : bd = false := by cases bd; rfl; exact absurd (.inr rfl) hn
      clear hn
      have hpos : decide ((0 : Int) < ((m + 1 : Nat) : Int)) = true := decide_eq_true (by omega)
      have hpos2 : decide (0 < m + 1) = true := by simp
      have hn63 := HI.out.1
      have HLX := Lib.hid (HI.out.len)
      go_wp2_with fail
      refine wp_region_Z (S := fun V => V.cell? ⟨sb, 0, none⟩ = some (.slice ad D.length cd)) 8 (by kernel_rfl) ?_ (fun hHeld => ?_)
      · exact (HD.out.below (Below.refl _ wr).drew).bx.cell 0
      replace HD := Lib.hid (HD.out.below (Below.refl _ wr).drew)
      replace HR := Lib.hid (show RdAt (w.heap.size + 1) l p false wr.drew from BkIn.below HR.out (Below.refl _ wr).drew)
      clear c2
      obtain ⟨wd, hwd⟩ : ∃ x, x = World.drew wr := ⟨_, rfl⟩
      rw [← hwd] at HD HR hHeld ⊢
      clear hwd
      refine wpAnyZ_takeY (i := 0) (oi := { dst := some 22, op := Op.fieldAddr 24 (Operand.tmp 5) 0, type := 0, pos := "bytes.go:102", after := #[], guard := none }) (v := ?_) rfl (by kernel_rfl) (by kernel_rfl) (by kernel_rfl) (by rfl) (fun _ _ _ h => h) (Or.inl ⟨by rfl, ?_⟩) (by assumption) ?_
      rotate_left
      · (intro w; go_simp); (first | done | with_reducible rfl)
      try simp only [Act.put, List.setIfInBounds_toArray, List.set_cons_zero, List.set_cons_succ]
      refine wpAnyZ_take (i := 1) (oi := { dst := some 23, op := Op.load 22 (Operand.tmp 22), type := 22, pos := "bytes.go:102", after := #[{ on := 0, ground := Ground.data }], guard := none }) (v := ?_) [6, 7, 8] rfl (by kernel_rfl) (by kernel_rfl) (by kernel_rfl) (by kernel_rfl) (fun _ _ _ h => h) (Or.inl ⟨by rfl, ?_⟩) (by assumption) ?_
      rotate_left
      · (intro w hSw; (try dsimp only at hSw); go_simp); (first | done | with_reducible rfl)
      try simp only [Act.put, List.setIfInBounds_toArray, List.set_cons_zero, List.set_cons_succ]
      refine wpAnyZ_ready (rs := [2]) (by kernel_rfl) (by simp) ?_
      refine AllReadyZ.cons (o := { dst := some 24, op := Op.call { callee := Callee.value (Operand.func 44), args := #[Operand.tmp 4], argTypes := #[77] }, type := 9, pos := "bytes.go:102", after := #[], guard := none }) rfl (by rfl) (fun K hK => ?_) (AllReadyZ.nil)
      obtain ⟨f, p4, e4, hq4⟩ : ∃ v p' e, Rd.txt l p = (v, p', e) := ⟨_, _, _, rfl⟩
      have HQ4 := Lib.hid hq4
      have HFL := Lib.hid (show f.length ≤ 90000 from by have h := Rd.txt_len l p; have h2 := HLL.out; rw [hq4] at h; simp only at h; omega)
      have C4 := Lib.hid (CT.out p false wd HR.out)
      rw [hq4] at C4
      clear hq4
      simp only [Bool.false_or] at C4
      go_simp
      go_at_call 44
      with_reducible refine (C4.out).mono ?_
      rintro e y4 ⟨rfl, hr, hg⟩
      replace HD := Lib.hid (HD.out.grown HR.out hg)
      replace HR := Lib.hid hr
      clear hr hg C4
      refine hK.out _ _ ?_ (fun hHeld => ?_)
      · first | exact HX6.out.cell 0 | exact HD.out.bx.cell 0
      clear hK K
      try simp only [Act.put, List.setIfInBounds_toArray, List.set_cons_zero, List.set_cons_succ]
      refine wpAnyZ_ready (rs := [3]) (by kernel_rfl) (by simp) ?_
      refine AllReadyZ.cons (o := { dst := some 25, op := Op.call { callee := Callee.value (Operand.func 45), args := #[Operand.tmp 4], argTypes := #[77] }, type := 25, pos := "bytes.go:102", after := #[{ on := 2, ground := Ground.chain }], guard := none }) rfl (by rfl) (fun K hK => ?_) (AllReadyZ.nil)
      have C5 := Lib.hid (CL.out p4 e4 y4 HR.out)
      go_simp
      go_at_call 45
      with_reducible refine (C5.out).mono ?_
      rintro e y5 ⟨xs, p5, bd5, a4, c4, rfl, hls, hr, hg, ho⟩
      have HST := Lib.hid (HI.out.step (Rd.tb_step HQ4.out hls))
      have HXL := Lib.hid (show xs.length ≤ 90001 from by have h := hls.1; have h2 := HLL.out; omega)
      have HO := Lib.hid (own_base16 ho HD.out.bel.size)
      replace HD := Lib.hid (HD.out.grown HR.out hg)
      replace HR := Lib.hid hr
      clear hls hr hg ho C5 HQ4 HI
      refine hK.out _ _ ?_ (fun hHeld => ?_)
      · first | exact HX6.out.cell 0 | exact HD.out.bx.cell 0
      clear hK K
      try simp only [Act.put, List.setIfInBounds_toArray, List.set_cons_zero, List.set_cons_succ]
      refine wpAnyZ_takeY (i := 4) (oi := { dst := some 26, op := Op.build 41 #[(0, Operand.tmp 24), (1, Operand.tmp 25)], type := 41, pos := "bytes.go:102", after := #[{ on := 2, ground := Ground.data }, { on := 3, ground := Ground.data }], guard := none }) (v := ?_) rfl (by kernel_rfl) (by kernel_rfl) (by kernel_rfl) (by rfl) (fun _ _ _ h => h) (Or.inl ⟨by rfl, ?_⟩) (by assumption) ?_
      rotate_left
      · (intro w; go_simp); (first | done | with_reducible rfl)
      try simp only [Act.put, List.setIfInBounds_toArray, List.set_cons_zero, List.set_cons_succ]
      refine wpAnyZ_ready (rs := [5]) (by kernel_rfl) (by simp) ?_
      refine AllReadyZ.cons (o := { dst := some 27, op := Op.buildSlice 22 1 #[(0, Operand.tmp 26)], type := 22, pos := "bytes.go:102", after := #[{ on := 4, ground := Ground.data }], guard := none }) rfl (by rfl) (fun K hK => ?_) (AllReadyZ.nil)
      go_simp
      have hba := (Below.refl y5.heap.size y5).alloc (Nat.le_refl _) (.cells #[.string (S f), .slice a4 xs.length c4] 41)
      have HX := Lib.hid (bkIn_new #[.string (S f), .slice a4 xs.length c4] 41 y5)
      replace HO := Lib.hid (own_below16 HO.out hba)
      replace HD := Lib.hid (HD.out.below hba)
      replace HR := Lib.hid (show RdAt (w.heap.size + 1) l p5 bd5 (y5.alloc (.cells #[.string (S f), .slice a4 xs.length c4] 41)) from BkIn.below HR.out hba)
      clear hba
      generalize y5.alloc (.cells #[.string (S f), .slice a4 xs.length c4] 41) = y6 at *
      refine hK.out _ _ ?_ (fun hHeld => ?_)
      · first | exact HX6.out.cell 0 | exact HD.out.bx.cell 0
      clear hK K
      try simp only [Act.put, List.setIfInBounds_toArray, List.set_cons_zero, List.set_cons_succ]
      refine wpAnyZ_ready (rs := [6]) (by kernel_rfl) (by simp) ?_
      refine AllReadyZ.cons (o := { dst := some 28, op := Op.call { callee := Callee.builtin Builtin.append, args := #[Operand.tmp 23, Operand.tmp 27], argTypes := #[22, 22] }, type := 22, pos := "bytes.go:102", after := #[{ on := 1, ground := Ground.data }, { on := 5, ground := Ground.data }, { on := 3, ground := Ground.chain }], guard := none }) rfl (by rfl) (fun K hK => ?_) (AllReadyZ.nil)
      refine step_append_tabs (by rfl) _ _ 22 (by rfl) w.heap.size i1 z1 Try.underlying22 hi1 hz1 h11 h12 h13 (.slice ad D.length cd) D.length (tbC D) (by rfl) HD.out.row ⟨y5.heap.size, 0, none⟩ 1 1 [⟨f, xs, a4, c4⟩] (by rfl) rfl (cellsAt_one HX.out) (by have h1 := HLX.out; have h2 := HLL.out; simp only [tbs_length] at h1; omega) HD.out.bel.size ?_
      intro v6 y7 ho6 hg6
      obtain ⟨a6, c6, rfl⟩ := own_shape16 ho6
      have HX6 := Lib.hid (HD.out.bx.grown' hg6 (own_of_blk HD.out.bx HD.out.row (by decide)))
      have HM6 := Lib.hid (HD.out.app (y := ⟨f, xs, a4, c4⟩) HO.out ⟨HFL.out, HXL.out⟩ hg6 ho6)
      replace HR := Lib.hid (show RdAt (w.heap.size + 1) l p5 bd5 y7 from BkIn.grown' HR.out hg6 (own_of_blk HR.out HD.out.row (by decide)))
      clear ho6 hg6 HX HO
      refine hK.out _ _ ?_ (fun hHeld => ?_)
      · first | exact HX6.out.cell 0 | exact HD.out.bx.cell 0
      clear hK K
      try simp only [Act.put, List.setIfInBounds_toArray, List.set_cons_zero, List.set_cons_succ]
      refine wpAnyZ_takeY (i := 7) (oi := { dst := some 29, op := Op.fieldAddr 24 (Operand.tmp 5) 0, type := 0, pos := "bytes.go:102", after := #[{ on := 0, ground := Ground.phase }, { on := 1, ground := Ground.phase }, { on := 2, ground := Ground.phase }, { on := 3, ground := Ground.phase }, { on := 4, ground := Ground.phase }, { on := 5, ground := Ground.phase }, { on := 6, ground := Ground.phase }], guard := none }) (v := ?_) rfl (by kernel_rfl) (by kernel_rfl) (by kernel_rfl) (by rfl) (fun _ _ _ h => h) (Or.inl ⟨by rfl, ?_⟩) (by assumption) ?_
      rotate_left
      · (intro w; go_simp); (first | done | with_reducible rfl)
      try simp only [Act.put, List.setIfInBounds_toArray, List.set_cons_zero, List.set_cons_succ]
      refine wpAnyZ_ready (rs := [8]) (by kernel_rfl) (by simp) ?_
      refine AllReadyZ.last (o := { dst := none, op := Op.store 22 (Operand.tmp 29) (Operand.tmp 28), type := 0, pos := "bytes.go:102", after := #[{ on := 7, ground := Ground.data }, { on := 6, ground := Ground.data }, { on := 6, ground := Ground.chain }, { on := 0, ground := Ground.phase }, { on := 1, ground := Ground.phase }, { on := 2, ground := Ground.phase }, { on := 3, ground := Ground.phase }, { on := 4, ground := Ground.phase }, { on := 5, ground := Ground.phase }, { on := 6, ground := Ground.phase }], guard := none }) rfl (fun K hK => ?_) AllReadyZ.nil
      have f9 := HX6.out.free 0
      have m9 := HX6.out.cell 0
      go_simp
      refine hK.out _ _ ?_
      clear hK K
      refine wpAny_done (by kernel_rfl) ?_ _
      have HR7 := Lib.hid (show RdAt (w.heap.size + 1) l p5 bd5 (y7.setCell ⟨sb, 0, none⟩ (.slice a6 (D.length + 1) c6)) from BkIn.other HR.out (by have := HGB.out; omega) _ _)
      generalize y7.setCell ⟨sb, 0, none⟩ (.slice a6 (D.length + 1) c6) = y8 at *
      clear HD HR HX6 hHeld
      go_wp2_with fail
      go_roundw
      case rel => exact ⟨D ++ [⟨f, xs, a4, c4⟩], p5, m, bd5, a6, c6, by go_num, Lib.hid (by have := HST.out; simp only [tbs, List.map_append, List.map_cons, List.map_nil] at this ⊢; exact this), HR7, HM6⟩
      case measure => simp [intOf]

end Go.Proofs.Ytfcmjgcjmldpcaa
