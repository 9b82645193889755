/- Layer 16: Decode: the edits that bytes are. -/
import Derived.Test.YtfcmjgcjmldpcaaEditsBf
namespace Go.Proofs.Ytfcmjgcjmldpcaa
set_option linter.unusedVariables false
set_option linter.unusedSimpArgs false
open Go Go.RowKit
attribute [local go_sem ↓] run_index_S
attribute [local go_sem] S_append S_extract

theorem Rd.num_cases {l : List UInt8} {a v p : Nat} {e : Bool} (h : Rd.num l a = (v, p, e)) : (e = false ∧ M.gets l a = some (v, p)) ∨ (e = true ∧ M.gets l a = none) := by
  unfold Rd.num at h
  cases hg : M.gets l a with
  | none => rw [hg] at h; simp only [Prod.mk.injEq] at h; exact .inr ⟨h.2.2.symm, rfl⟩
  | some q => obtain ⟨x, y⟩ := q; rw [hg] at h; simp only [Prod.mk.injEq] at h; obtain ⟨rfl, rfl, rfl⟩ := h; exact .inl ⟨rfl, rfl⟩
theorem Rd.txt_cases {l t : List UInt8} {a p : Nat} {e : Bool} (h : Rd.txt l a = (t, p, e)) : (e = false ∧ M.getTs l a = some (t, p)) ∨ (e = true ∧ M.getTs l a = none) := by
  unfold Rd.txt at h
  cases hg : M.getTs l a with
  | none => rw [hg] at h; simp only [Prod.mk.injEq] at h; exact .inr ⟨h.2.2.symm, rfl⟩
  | some q => obtain ⟨x, y⟩ := q; rw [hg] at h; simp only [Prod.mk.injEq] at h; obtain ⟨rfl, rfl, rfl⟩ := h; exact .inl ⟨rfl, rfl⟩
theorem getTs_bounds {l t : List UInt8} {a q : Nat} (h : M.getTs l a = some (t, q)) : a < q ∧ q ≤ l.length ∧ t.length ≤ l.length := by
  unfold M.getTs at h
  cases hg : M.gets l a with
  | none => rw [hg] at h; cases h
  | some x =>
    obtain ⟨n, p⟩ := x
    have hb := M.gets_bounds hg
    rw [hg] at h
    simp only at h
    split at h
    · simp only [Option.some.injEq, Prod.mk.injEq] at h
      obtain ⟨rfl, rfl⟩ := h
      refine ⟨by omega, by omega, by simp; omega⟩
    · cases h
theorem lstN_bounds {l : List UInt8} : ∀ {n p q : Nat} {xs : List Int}, Rd.lstN l n p = some (xs, q) → p ≤ q ∧ (p ≤ l.length → q ≤ l.length) ∧ xs.length = n ∧ p + n ≤ q
  | 0, p, q, xs, h => by simp only [Rd.lstN, Option.some.injEq, Prod.mk.injEq] at h; obtain ⟨rfl, rfl⟩ := h; simp
  | n + 1, p, q, xs, h => by
    simp only [Rd.lstN] at h
    cases hg : M.gets l p with
    | none => rw [hg] at h; cases h
    | some x =>
      obtain ⟨v, p'⟩ := x
      have hb := M.gets_bounds hg
      rw [hg] at h
      simp only at h
      cases hl : Rd.lstN l n p' with
      | none => rw [hl] at h; cases h
      | some y =>
        obtain ⟨ys, q'⟩ := y
        have := lstN_bounds hl
        rw [hl] at h
        simp only [Option.some.injEq, Prod.mk.injEq] at h
        obtain ⟨rfl, rfl⟩ := h
        simp only [List.length_cons]
        omega
theorem lst_bounds {l : List UInt8} {a q : Nat} {xs : List Int} (h : Rd.lst l a = some (xs, q)) : a < q ∧ q ≤ l.length ∧ xs.length ≤ l.length := by
  unfold Rd.lst at h
  cases hg : M.gets l a with
  | none => rw [hg] at h; cases h
  | some x =>
    obtain ⟨n, p⟩ := x
    have hb := M.gets_bounds hg
    rw [hg] at h
    simp only at h
    have := lstN_bounds h
    omega
/-- An edit that stands at a place, and the place behind; edits, so many; all that a text is. -/
def Rd.ed (l : List UInt8) (a : Nat) : Option (Ed.Ed × Nat) := match M.gets l a with
  | none => none
  | some (v1, p1) => match M.gets l p1 with
    | none => none
    | some (v2, p2) => match M.gets l p2 with
      | none => none
      | some (v3, p3) => match Rd.lst l p3 with
        | none => none
        | some (xs, p4) => match M.getTs l p4 with
          | none => none
          | some (t, p5) => some (⟨v1, v2, v3, xs, t⟩, p5)
def Rd.edN (l : List UInt8) : Nat → Nat → Option (List Ed.Ed × Nat)
  | 0, a => some ([], a)
  | n + 1, a => match Rd.ed l a with
    | none => none
    | some (x, p) => match Rd.edN l n p with
      | none => none
      | some (xs, q) => some (x :: xs, q)
def Rd.eds (l : List UInt8) : Option (List Ed.Ed × Nat) := match M.gets l (0 : Nat) with
  | none => none
  | some (n, p) => Rd.edN l n p
def Rd.dec (l : List UInt8) : Option (List Ed.Ed) := match Rd.eds l with
  | none => none
  | some (es, q) => if q = l.length then some es else none
theorem Rd.ed_step {l t : List UInt8} {p v1 p1 v2 p2 v3 p3 p4 p5 : Nat} {e1 e2 e3 bd4 e5 : Bool} {xs : List Int} (h1 : Rd.num l p = (v1, p1, e1)) (h2 : Rd.num l p1 = (v2, p2, e2)) (h3 : Rd.num l p2 = (v3, p3, e3)) (h4 : LsE l p3 ((e1 || e2) || e3) xs p4 bd4) (h5 : Rd.txt l p4 = (t, p5, e5)) :
    ((bd4 || e5) = false ∧ Rd.ed l p = some (⟨v1, v2, v3, xs, t⟩, p5) ∧ p < p5 ∧ p5 ≤ l.length) ∨ ((bd4 || e5) = true ∧ Rd.ed l p = none) := by
  have k4 := h4.2
  unfold Rd.ed
  rcases Rd.num_cases h1 with ⟨rfl, g1⟩ | ⟨rfl, g1⟩
  · rcases Rd.num_cases h2 with ⟨rfl, g2⟩ | ⟨rfl, g2⟩
    · rcases Rd.num_cases h3 with ⟨rfl, g3⟩ | ⟨rfl, g3⟩
      · rcases k4 with ⟨rfl, _, g4⟩ | ⟨rfl, g4⟩
        · have b1 := M.gets_bounds g1
          have b2 := M.gets_bounds g2
          have b3 := M.gets_bounds g3
          have b4 := lst_bounds g4
          rcases Rd.txt_cases h5 with ⟨rfl, g5⟩ | ⟨rfl, g5⟩
          · have b5 := getTs_bounds g5
            exact .inl ⟨rfl, by simp only [g1, g2, g3, g4, g5], by omega, b5.2.1⟩
          · exact .inr ⟨rfl, by simp only [g1, g2, g3, g4, g5]⟩
        · simp only [Bool.or_self, Bool.false_eq_true, false_or] at g4
          exact .inr ⟨rfl, by simp only [g1, g2, g3, g4]⟩
      · rcases k4 with ⟨rfl, h, _⟩ | ⟨rfl, _⟩
        · simp at h
        · exact .inr ⟨rfl, by simp only [g1, g2, g3]⟩
    · rcases k4 with ⟨rfl, h, _⟩ | ⟨rfl, _⟩
      · simp at h
      · exact .inr ⟨rfl, by simp only [g1, g2]⟩
  · rcases k4 with ⟨rfl, h, _⟩ | ⟨rfl, _⟩
    · simp at h
    · exact .inr ⟨rfl, by simp only [g1]⟩
/-- Edits that are being read. -/
def DcI (l : List UInt8) (D : List Ed.Ed) (p n : Nat) (bd : Bool) : Prop := n ≤ 9223372036854775807 ∧
  ((bd = false ∧ Rd.eds l = (Rd.edN l n p).map (fun q => (D ++ q.1, q.2)) ∧ D.length ≤ p ∧ p ≤ l.length) ∨ (bd = true ∧ Rd.eds l = none ∧ D.length ≤ l.length + 1))
theorem DcI.start {l : List UInt8} {v p : Nat} {e : Bool} (h : Rd.num l 0 = (v, p, e)) : DcI l [] p v (false || e) := by
  rcases Rd.num_cases h with ⟨rfl, g⟩ | ⟨rfl, g⟩
  · have hb := M.gets_bounds g
    exact ⟨hb.2.2.2.1, .inl ⟨rfl, by unfold Rd.eds; rw [g]; simp, by simp, hb.2.2.1⟩⟩
  · have hv : v = 0 := by
      unfold Rd.num at h
      rw [g] at h
      simp only [Prod.mk.injEq] at h
      exact h.1.symm
    exact ⟨by omega, .inr ⟨rfl, by unfold Rd.eds; rw [g], by simp⟩⟩
theorem DcI.step {l : List UInt8} {D : List Ed.Ed} {p n p5 : Nat} {bd : Bool} {y : Ed.Ed} (h : DcI l D p (n + 1) false) (h5 : (bd = false ∧ Rd.ed l p = some (y, p5) ∧ p < p5 ∧ p5 ≤ l.length) ∨ (bd = true ∧ Rd.ed l p = none)) : DcI l (D ++ [y]) p5 n bd := by
  obtain ⟨h0, ⟨_, h2, h3, h4⟩ | ⟨h1, _⟩⟩ := h
  · rcases h5 with ⟨rfl, g, g2, g3⟩ | ⟨rfl, g⟩
    · refine ⟨by omega, .inl ⟨rfl, ?_, by simp; omega, g3⟩⟩
      rw [h2]
      simp only [Rd.edN, g]
      cases hl : Rd.edN l n p5 with
      | none => rfl
      | some q => simp
    · exact ⟨by omega, .inr ⟨rfl, by rw [h2]; simp [Rd.edN, g], by simp; omega⟩⟩
  · cases h1
theorem DcI.len {l : List UInt8} {D : List Ed.Ed} {p n : Nat} {bd : Bool} (h : DcI l D p n bd) : D.length ≤ l.length + 1 := by
  obtain ⟨h0, ⟨_, h2, h3, h4⟩ | ⟨h1, h2, h3⟩⟩ := h <;> omega
theorem DcI.fin {l : List UInt8} {D : List Ed.Ed} {p n : Nat} {bd : Bool} (h : DcI l D p n bd) (hn : n = 0 ∨ bd = true) : Rd.dec l = if (!bd && decide (p = l.length)) = true then some D else none := by
  obtain ⟨h0, ⟨rfl, h2, h3, h4⟩ | ⟨rfl, h2, h3⟩⟩ := h
  · rcases hn with rfl | h
    · unfold Rd.dec
      rw [h2]
      simp [Rd.edN]
    · cases h
  · unfold Rd.dec
    rw [h2]
    simp
/-- Edits in memory that the call made. -/
structure DcM (W : World) (D : List Re) (a : Option Addr) (c : Nat) (w : World) : Prop where
  row : w.ownsRow W.heap.size 27 5 (.slice a D.length c) D.length (edC D)
  own : ∀ r, r ∈ D → w.ownsRow W.heap.size 3 1 (.slice r.o r.fs.length r.k) r.fs.length (nsL r.fs)
  bel : Below W.heap.size W w
theorem DcM.grown {W w w' : World} {D : List Re} {a : Option Addr} {c : Nat} (h : DcM W D a c w) {C : Array Value} {b : Nat} (hb : BkIn C 77 w b) (h0 : W.heap.size ≤ b) (hg : w.grownBy w' (some b)) : DcM W D a c w' :=
  ⟨h.row.kept hg (.inr (own_of_blk hb h.row (by decide))), fun r hr => (h.own r hr).kept hg (.inr (own_of_blk hb (h.own r hr) (by decide))), h.bel.grown hg h.bel.size (fun k hk => by cases hk; exact h0)⟩
theorem DcM.below {W w w' : World} {D : List Re} {a : Option Addr} {c : Nat} (h : DcM W D a c w) (hb : Below w.heap.size w w') : DcM W D a c w' := ⟨own_below16 h.row hb, fun r hr => own_below16 (h.own r hr) hb, h.bel.trans (hb.mono h.bel.size)⟩
theorem DcM.at_ {W w : World} {D : List Re} {a : Option Addr} {c : Nat} (h : DcM W D a c w) : EdsAt w a D := fun hne => by
  obtain ⟨g, e1, _, hc⟩ := own_cell16 (List.length_pos_iff.2 hne) h.row
  refine ⟨g, 0, e1, fun j hj => ?_⟩
  have k := fun i (hi : i < 5) u (hu : (edL (D.getD j re0))[i]? = some u) => hc (j * 5 + i) u (by rw [edC_get D j i hj hi]; exact hu)
  rw [Nat.zero_add]
  exact ⟨k 0 (by omega) _ rfl, k 1 (by omega) _ rfl, k 2 (by omega) _ rfl, k 3 (by omega) _ rfl, k 4 (by omega) _ rfl, nsAt_own (h.own _ (Ed.gD_mem hj))⟩
theorem DcM.app {W w w' : World} {D : List Re} {a a' : Option Addr} {c c' : Nat} (h : DcM W D a c w) {y : Re} (hy : w.ownsRow W.heap.size 3 1 (.slice y.o y.fs.length y.k) y.fs.length (nsL y.fs)) (hg : w.grownBy w' (Value.ownBlock (.slice a D.length c)))
    (ho : w'.ownsRow W.heap.size 27 5 (.slice a' (D.length + 1) c') (D.length + 1) (edC D ++ edC [y])) : DcM W (D ++ [y]) a' c' w' := by
  have hk : ∀ {v' : Value} {n' : Nat} {xs' : List Value}, w.ownsRow W.heap.size 3 1 v' n' xs' → w'.ownsRow W.heap.size 3 1 v' n' xs' := fun hi => by
    refine World.ownsRow.kept hi hg ?_
    rename_i v' _ _
    cases q : Value.ownBlock (.slice a D.length c) with
    | none =>
      cases q2 : v'.ownBlock with
      | none => exact .inl rfl
      | some x => exact .inr (by simp)
    | some x => exact .inr (own_apart16 h.row hi (by decide) q)
  refine ⟨by rw [List.length_append, edC_app]; exact ho, fun r hr => ?_, bel_ownsEd h.bel h.row hg⟩
  rcases List.mem_append.1 hr with hr | hr
  · exact hk (h.own r hr)
  · rw [List.mem_singleton.1 hr]; exact hk hy
def DecR (l : List UInt8) (W : World) (e : Ending) (w' : World) : Prop :=
  (∃ D ad cd, Rd.dec l = some (eds D) ∧ e = .returned (.tuple #[.slice ad (D : List Re).length cd, .int .i64 0]) ∧ DcM W D ad cd w') ∨ (Rd.dec l = none ∧ e = .returned (.tuple #[.slice none 0 0, .int .i64 30]) ∧ Below W.heap.size W w')
theorem none_ne16 (v : Value) : v.ownBlock = none ∨ v.ownBlock ≠ none := by cases v.ownBlock <;> simp

set_option maxHeartbeats 8000000 in
set_option maxRecDepth 100000 in
theorem decode16_any (l : List UInt8) (hl : l.length ≤ 90000) (w : World) : Calls Try.prog 28 #[.string (S l)] w (DecR l w) := by
  have HLL := Lib.hid hl
  have CN := Lib.hid (fun p bd x hx => number16_any l (by omega) p w.heap.size bd x hx)
  have CT := Lib.hid (fun p bd x hx => textR16_any l (by omega) p w.heap.size bd x hx)
  have CL := Lib.hid (fun p bd x hx => listR16_any l (by omega) p w.heap.size bd x hx)
  have CW := Lib.hid (fun p bd x hx => whole16_any l (by omega) p w.heap.size bd x hx)
  clear hl
  have HR := Lib.hid (show RdAt w.heap.size l (0 : Nat) false (w.alloc (.cells #[.string (S l), .int .i64 0, .bool false] 77)) from bkIn_new _ _ w)
  have HD := Lib.hid (show DcM w [] none 0 (w.alloc (.cells #[.string (S l), .int .i64 0, .bool false] 77)) from ⟨World.ownsRow_nil _ _ _ _, fun r hr => by simp at hr, (Below.refl _ w).alloc (Nat.le_refl _) _⟩)
  have HGB := Lib.hid (Nat.le_refl w.heap.size)
  go_enter Try.func28, Try.ntmps28
  obtain ⟨v0, p0, e0, hq0⟩ : ∃ v p' e, Rd.num l 0 = (v, p', e) := ⟨_, _, _, rfl⟩
  have HI0 := Lib.hid (DcI.start hq0)
  have C0 := Lib.hid (CN.out 0 false (w.alloc (.cells #[.string (S l), .int .i64 0, .bool false] 77)) HR.out)
  rw [hq0] at C0
  clear hq0
  simp only [Bool.false_or] at C0 HI0
  go_wp2_with fail
  generalize w.alloc (.cells #[.string (S l), .int .i64 0, .bool false] 77) = wa at *
  with_reducible refine (C0.out).mono ?_
  rintro e w1 ⟨rfl, hr, hg⟩
  have HD1 := Lib.hid (HD.out.grown HR.out HGB.out hg)
  have HR1 := Lib.hid hr
  clear hr hg C0 HD HR
  go_wp2_with fail
  go_loopw [5, 6] (fun sv nv wr => ∃ (D : List Re) (p n : Nat) (bd : Bool) (ad : Option Addr) (cd : Nat), sv = .slice ad D.length cd ∧ nv = .int .i64 n ∧ Hid (DcI l (eds D) p n bd) ∧ Hid (RdAt w.heap.size l p bd wr) ∧ Hid (DcM w D ad cd wr)) (fun _ nv _ => (intOf nv).toNat)
  case atStart => exact ⟨[], p0, v0, e0, none, 0, rfl, rfl, HI0, HR1, HD1⟩
  case round =>
    obtain ⟨D, p, n, bd, ad, cd, rfl, rfl, HI, HR, HD⟩ := hrel
    clear HI0 HR1 HD1
    have c2 : wr.cell? ⟨w.heap.size, 2, none⟩ = some (.bool bd) := BkIn.cell HR.out 2
    by_cases hn : n = 0 ∨ bd = true
    · have HF := Lib.hid (HI.out.fin hn)
      have C1 := Lib.hid (CW.out p bd wr HR.out)
      have HEND : Hid (∀ wx, wr.grownBy wx none → (!bd && decide (p = l.length)) = true → DecR l w (.returned (.tuple #[.slice ad D.length cd, .int .i64 0])) wx) := Lib.hid (fun wx hx ht => .inl ⟨D, ad, cd, by rw [HF.out, if_pos ht], rfl, ⟨HD.out.row.kept hx (by exact none_ne16 _), fun r hr => (HD.out.own r hr).kept hx (by exact none_ne16 _), HD.out.bel.grown hx HD.out.bel.size (fun k hk => by cases hk)⟩⟩)
      have HNO : Hid (∀ wx, wr.grownBy wx none → (!bd && decide (p = l.length)) = false → DecR l w (.returned (.tuple #[.slice none 0 0, .int .i64 30])) wx) := Lib.hid (fun wx hx ht => .inr ⟨by rw [HF.out, if_neg (by rw [ht]; decide)], rfl, HD.out.bel.grown hx HD.out.bel.size (fun k hk => by cases hk)⟩)
      clear HF HI
      generalize (!bd && decide (p = l.length)) = bw at *
      cases bd with
      | true =>
        go_wp2_with fail
        all_goals
          with_reducible refine (C1.out).mono ?_
          rintro e w2 ⟨rfl, hg⟩
          cases bw with
          | true =>
            go_wp2_with fail
            go_ret2
            exact HEND.out _ hg (by trivial)
          | false =>
            go_wp2_with fail
            go_ret2
            exact HNO.out _ hg (by trivial)
      | false =>
        obtain rfl : n = 0 := by rcases hn with h | h; exact h; cases h
        go_wp2_with fail
        with_reducible refine (C1.out).mono ?_
        rintro e w2 ⟨rfl, hg⟩
        cases bw with
        | true =>
          go_wp2_with fail
          go_ret2
          exact HEND.out _ hg (by trivial)
        | false =>
          go_wp2_with fail
          go_ret2
          exact HNO.out _ hg (by trivial)
    · obtain ⟨m, rfl⟩ : ∃ m, n = m + 1 := ⟨n - 1, by omega⟩
      obtain rfl : bd = false := by cases bd; rfl; exact absurd (.inr rfl) hn
      clear hn
      have hpos : decide ((0 : Int) < ((m + 1 : Nat) : Int)) = true := decide_eq_true (by omega)
      have hpos2 : decide (0 < m + 1) = true := by simp
      have hn63 := HI.out.1
      have HLX := Lib.hid (HI.out.len)
      obtain ⟨v1, p1, e1, hq1⟩ : ∃ v p' e, Rd.num l p = (v, p', e) := ⟨_, _, _, rfl⟩
      have HQ1 := Lib.hid hq1
      have C1 := Lib.hid (CN.out p false wr HR.out)
      rw [hq1] at C1
      clear hq1
      simp only [Bool.false_or] at C1
      go_wp2_with fail
      with_reducible refine (C1.out).mono ?_
      rintro e x1 ⟨rfl, hr, hg⟩
      replace HD := Lib.hid (HD.out.grown HR.out HGB.out hg)
      replace HR := Lib.hid hr
      clear hr hg C1
      obtain ⟨v2, p2, e2, hq2⟩ : ∃ v p' e, Rd.num l p1 = (v, p', e) := ⟨_, _, _, rfl⟩
      have HQ2 := Lib.hid hq2
      have C2 := Lib.hid (CN.out p1 e1 x1 HR.out)
      rw [hq2] at C2
      clear hq2
      simp only [Bool.false_or] at C2
      go_wp2_with fail
      with_reducible refine (C2.out).mono ?_
      rintro e x2 ⟨rfl, hr, hg⟩
      replace HD := Lib.hid (HD.out.grown HR.out HGB.out hg)
      replace HR := Lib.hid hr
      clear hr hg C2
      obtain ⟨v3, p3, e3, hq3⟩ : ∃ v p' e, Rd.num l p2 = (v, p', e) := ⟨_, _, _, rfl⟩
      have HQ3 := Lib.hid hq3
      have C3 := Lib.hid (CN.out p2 (e1 || e2) x2 HR.out)
      rw [hq3] at C3
      clear hq3
      simp only [Bool.false_or] at C3
      go_wp2_with fail
      with_reducible refine (C3.out).mono ?_
      rintro e x3 ⟨rfl, hr, hg⟩
      replace HD := Lib.hid (HD.out.grown HR.out HGB.out hg)
      replace HR := Lib.hid hr
      clear hr hg C3
      have C4 := Lib.hid (CL.out p3 ((e1 || e2) || e3) x3 HR.out)
      go_wp2_with fail
      with_reducible refine (C4.out).mono ?_
      rintro e x4 ⟨xs, p4, bd4, a4, c4, rfl, hls, hr, hg, ho⟩
      have HLS := Lib.hid hls
      have HO := Lib.hid (own_base16 ho HD.out.bel.size)
      replace HD := Lib.hid (HD.out.grown HR.out HGB.out hg)
      replace HR := Lib.hid hr
      clear hls hr hg ho C4
      obtain ⟨t, p5, e5, hq5⟩ : ∃ v p' e, Rd.txt l p4 = (v, p', e) := ⟨_, _, _, rfl⟩
      have HST := Lib.hid (HI.out.step (Rd.ed_step HQ1.out HQ2.out HQ3.out HLS.out hq5))
      have C5 := Lib.hid (CT.out p4 bd4 x4 HR.out)
      rw [hq5] at C5
      clear hq5 HQ1 HQ2 HQ3 HLS HI
      simp only at C5
      generalize (bd4 || e5) = b5 at *
      go_wp2_with fail
      with_reducible refine (C5.out).mono ?_
      rintro e x5 ⟨rfl, hr, hg⟩
      replace HO := Lib.hid (HO.out.kept hg (.inr (own_of_blk HR.out HO.out (by decide))))
      replace HD := Lib.hid (HD.out.grown HR.out HGB.out hg)
      replace HR := Lib.hid hr
      clear hr hg C5 c2
      have hba := (Below.refl x5.heap.size x5).alloc (Nat.le_refl _) (.cells #[.int .i64 v1, .int .i64 v2, .int .i64 v3, .slice a4 xs.length c4, .string (S t)] 27)
      have HX := Lib.hid (show BkIn (edA ⟨v1, v2, v3, xs, a4, c4, t⟩) 27 (x5.alloc (.cells #[.int .i64 v1, .int .i64 v2, .int .i64 v3, .slice a4 xs.length c4, .string (S t)] 27)) x5.heap.size from bkIn_new _ _ x5)
      have HOa := Lib.hid (own_below16 HO.out hba)
      have HDa := Lib.hid (HD.out.below hba)
      have HRa := Lib.hid (show RdAt w.heap.size l p5 b5 (x5.alloc (.cells #[.int .i64 v1, .int .i64 v2, .int .i64 v3, .slice a4 xs.length c4, .string (S t)] 27)) from BkIn.below HR.out hba)
      have HEE := Lib.hid (edsAt_one HX.out (nsAt_own HOa.out))
      clear hba HO HD HR
      go_wp2_with (at_builtin; refine wpList_append_eds rfl _ _ 30 rfl Try.underlying30 w.heap.size (.slice ad D.length cd) D.length (edC D) rfl HDa.out.row (some ⟨x5.heap.size, 0, none⟩) 1 1 [⟨v1, v2, v3, xs, a4, c4, t⟩] rfl rfl HEE.out (by have h1 := HLX.out; have h2 := HLL.out; simp only [eds, List.length_map] at h1; omega) HDa.out.bel.size ?_; intro v6 x6 ho6 hg6; obtain ⟨a6, c6, rfl⟩ := own_shape16 ho6; have HD6 := Lib.hid (HDa.out.app HOa.out hg6 ho6); have HR6 := Lib.hid (show RdAt w.heap.size l p5 b5 x6 from BkIn.grown' HRa.out hg6 (own_of_blk HRa.out HDa.out.row (by decide))); clear ho6 hg6 HDa HRa HOa HX HEE)
      go_roundw
      case rel => exact ⟨D ++ [⟨v1, v2, v3, xs, a4, c4, t⟩], p5, m, b5, a6, c6, by rw [List.length_append]; rfl, by go_num, Lib.hid (by have := HST.out; simp only [eds, List.map_append, List.map_cons, List.map_nil] at this ⊢; exact this), HR6, HD6⟩
      case measure => simp [intOf]

end Go.Proofs.Ytfcmjgcjmldpcaa
