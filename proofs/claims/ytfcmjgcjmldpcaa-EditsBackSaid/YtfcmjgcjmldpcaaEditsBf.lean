/- Layer 16: a reader's list, and whether it is at the end. -/
import Derived.Test.YtfcmjgcjmldpcaaEditsBe
namespace Go.Proofs.Ytfcmjgcjmldpcaa
set_option linter.unusedVariables false
set_option linter.unusedSimpArgs false
open Go Go.RowKit
attribute [local go_sem ↓] run_index_S
attribute [local go_sem] S_append S_extract

/-- Numbers one behind the other, so many; a list of numbers; the place behind. -/
def Rd.lstN (l : List UInt8) : Nat → Nat → Option (List Int × Nat)
  | 0, a => some ([], a)
  | n + 1, a => match M.gets l a with
    | none => none
    | some (x, p) => match Rd.lstN l n p with
      | none => none
      | some (xs, q) => some ((x : Int) :: xs, q)
def Rd.lst (l : List UInt8) (a : Nat) : Option (List Int × Nat) := match M.gets l a with
  | none => none
  | some (n, p) => Rd.lstN l n p
/-- A list that is being read. -/
def LsI (l : List UInt8) (a : Nat) (bad : Bool) (xs : List Int) (p n : Nat) (bd : Bool) : Prop := n ≤ 9223372036854775807 ∧
  ((bd = false ∧ bad = false ∧ Rd.lst l a = (Rd.lstN l n p).map (fun q => (xs ++ q.1, q.2)) ∧ xs.length ≤ p ∧ p ≤ l.length) ∨
  (bd = true ∧ (bad = true ∨ Rd.lst l a = none) ∧ xs.length ≤ l.length + 1))
theorem LsI.start (l : List UInt8) (a : Nat) (bad : Bool) : LsI l a bad [] (Rd.num l a).2.1 (Rd.num l a).1 (bad || (Rd.num l a).2.2) := by
  unfold Rd.num
  cases hg : M.gets l a with
  | none => exact ⟨by simp, .inr ⟨by simp, .inr (by unfold Rd.lst; rw [hg]), by simp⟩⟩
  | some q =>
    obtain ⟨n, p⟩ := q
    have hb := M.gets_bounds hg
    cases bad with
    | true => exact ⟨hb.2.2.2.1, .inr ⟨rfl, .inl rfl, by simp⟩⟩
    | false => exact ⟨hb.2.2.2.1, .inl ⟨rfl, rfl, by unfold Rd.lst; rw [hg]; simp, by simp, hb.2.2.1⟩⟩
theorem LsI.step {l : List UInt8} {a : Nat} {bad : Bool} {xs : List Int} {p n : Nat} (h : LsI l a bad xs p (n + 1) false) : LsI l a bad (xs ++ [((Rd.num l p).1 : Int)]) (Rd.num l p).2.1 n (false || (Rd.num l p).2.2) := by
  obtain ⟨h0, ⟨_, h1, h2, h3, h4⟩ | ⟨h1, _⟩⟩ := h
  · unfold Rd.num
    cases hg : M.gets l p with
    | none => exact ⟨by omega, .inr ⟨rfl, .inr (by rw [h2]; simp [Rd.lstN, hg]), by simp; omega⟩⟩
    | some q =>
      obtain ⟨x, p'⟩ := q
      have hb := M.gets_bounds hg
      refine ⟨by omega, .inl ⟨rfl, h1, ?_, by simp; omega, hb.2.2.1⟩⟩
      rw [h2]
      simp only [Rd.lstN, hg]
      cases hl : Rd.lstN l n p' with
      | none => rfl
      | some q => simp
  · cases h1
theorem LsI.len {l : List UInt8} {a : Nat} {bad : Bool} {xs : List Int} {p n : Nat} {bd : Bool} (h : LsI l a bad xs p n bd) : xs.length ≤ l.length + 1 := by
  obtain ⟨h0, ⟨_, h1, h2, h3, h4⟩ | ⟨h1, h2, h3⟩⟩ := h <;> omega
/-- What a list's reading leaves. -/
def LsE (l : List UInt8) (a : Nat) (bad : Bool) (xs : List Int) (p : Nat) (bd : Bool) : Prop := xs.length ≤ l.length + 1 ∧
  ((bd = false ∧ bad = false ∧ Rd.lst l a = some (xs, p)) ∨ (bd = true ∧ (bad = true ∨ Rd.lst l a = none)))
theorem LsI.fin {l : List UInt8} {a : Nat} {bad : Bool} {xs : List Int} {p n : Nat} {bd : Bool} (h : LsI l a bad xs p n bd) (hn : n = 0 ∨ bd = true) : LsE l a bad xs p bd := by
  refine ⟨h.len, ?_⟩
  obtain ⟨h0, ⟨rfl, h1, h2, h3, h4⟩ | ⟨h1, h2, h3⟩⟩ := h
  · rcases hn with rfl | h
    · exact .inl ⟨rfl, h1, by rw [h2]; simp [Rd.lstN]⟩
    · cases h
  · exact .inr ⟨h1, h2⟩
set_option maxHeartbeats 4000000 in
theorem whole16_any (l : List UInt8) (hl : l.length ≤ 9223372036854775807) (a b : Nat) (bad : Bool) (w : World) (h : RdAt b l a bad w) :
    Calls Try.prog 46 #[.pointer (some ⟨b, 0, none⟩)] w fun e w' => e = .returned (.bool (!bad && decide (a = l.length))) ∧ w.grownBy w' none := by
  unfold RdAt at h
  have c0 : w.drew.cell? ⟨b, 0, none⟩ = some (.string (S l)) := BkIn.cell (w := w.drew) h 0
  have c1 : w.drew.cell? ⟨b, 1, none⟩ = some (.int .i64 a) := BkIn.cell (w := w.drew) h 1
  have c2 : w.drew.cell? ⟨b, 2, none⟩ = some (.bool bad) := BkIn.cell (w := w.drew) h 2
  clear h
  cases bad with
  | true =>
    go_enter Try.func46, Try.ntmps46
    go_wp2
    go_region
    all_goals (go_wp2; go_ret; exact ⟨rfl, grown_drew16 _ _⟩)
  | false =>
    by_cases q : a = l.length
    · have d1 : ((a : Int) == (l.length : Int)) = true := by simp; omega
      have d2 : decide (a = l.length) = true := by simpa using q
      rw [d2]
      go_enter Try.func46, Try.ntmps46
      go_wp2
      go_region
      all_goals (go_wp2; go_ret; exact ⟨rfl, grown_drew16 _ _⟩)
    · have d1 : ((a : Int) == (l.length : Int)) = false := by simp; omega
      have d2 : decide (a = l.length) = false := by simpa using q
      rw [d2]
      go_enter Try.func46, Try.ntmps46
      go_wp2
      go_region
      all_goals (go_wp2; go_ret; exact ⟨rfl, grown_drew16 _ _⟩)
set_option maxHeartbeats 8000000 in
set_option maxRecDepth 100000 in
theorem listR16_any (l : List UInt8) (hl : l.length ≤ 900000) (a b : Nat) (bad : Bool) (w : World) (h : RdAt b l a bad w) :
    Calls Try.prog 45 #[.pointer (some ⟨b, 0, none⟩)] w fun e w' => ∃ (xs : List Int) (p : Nat) (bd : Bool) (ao : Option Addr) (cap : Nat), e = .returned (.slice ao xs.length cap) ∧ LsE l a bad xs p bd ∧ RdAt b l p bd w' ∧ w.grownBy w' (some b) ∧ w'.ownsRow w.heap.size 3 1 (.slice ao xs.length cap) xs.length (nsL xs) := by
  obtain ⟨i0, zz, hi0, hz0, h01, h02, h03⟩ := infoN_parts
  have HLL := Lib.hid hl
  have CN := Lib.hid (fun p bd x hx => number16_any l (by omega) p b bd x hx)
  have C1 := Lib.hid (CN.out a bad w h)
  have HI0 := Lib.hid (LsI.start l a bad)
  clear h hl
  generalize Rd.num l a = q0 at *
  obtain ⟨n0, p0, bd0⟩ := q0
  simp only at C1 HI0
  generalize (bad || bd0) = b0 at *
  go_enter Try.func45, Try.ntmps45
  go_wp2_with fail
  with_reducible refine (C1.out).mono ?_
  rintro e w1 ⟨rfl, hr, hg⟩
  have HR1 := Lib.hid hr
  have HG1 := Lib.hid hg
  clear hr hg C1
  go_wp2_with fail
  go_loopw [3, 4] (fun sv nv wr => ∃ (xs : List Int) (p n : Nat) (bd : Bool) (ao : Option Addr) (cap : Nat), sv = .slice ao xs.length cap ∧ nv = .int .i64 n ∧ Hid (LsI l a bad xs p n bd) ∧ Hid (RdAt b l p bd wr) ∧ Hid (w.grownBy wr (some b)) ∧ Hid (wr.ownsRow w.heap.size 3 1 (.slice ao xs.length cap) xs.length (nsL xs))) (fun _ nv _ => (intOf nv).toNat)
  case atStart => exact ⟨[], p0, n0, b0, none, 0, rfl, rfl, HI0, HR1, HG1, Lib.hid (World.ownsRow_nil _ _ _ _)⟩
  case round =>
    obtain ⟨xs, p, n, bd, ao, cap, rfl, rfl, HI, HR, HG, HO⟩ := hrel
    clear HI0 HR1 HG1
    have c2 : wr.cell? ⟨b, 2, none⟩ = some (.bool bd) := BkIn.cell HR.out 2
    by_cases hn : n = 0
    · subst hn
      have HF := Lib.hid (HI.out.fin (.inl rfl))
      clear HI
      go_wp2_with fail
      go_ret
      exact ⟨xs, p, bd, ao, cap, rfl, HF.out, HR.out, HG.out, HO.out⟩
    · have hpos : decide ((0 : Int) < (n : Int)) = true := by simp; omega
      have hpos2 : decide (0 < n) = true := by simp; omega
      cases bd with
      | true =>
        have HF := Lib.hid (HI.out.fin (.inr rfl))
        clear HI
        go_wp2_with fail
        go_ret
        exact ⟨xs, p, true, ao, cap, rfl, HF.out, HR.out, HG.out, HO.out⟩
      | false =>
        obtain ⟨m, rfl⟩ : ∃ m, n = m + 1 := ⟨n - 1, by omega⟩
        have HI2 := Lib.hid (HI.out.step)
        have hn63 := HI.out.1
        have C2 := Lib.hid (CN.out p false wr HR.out)
        have HLX := Lib.hid (HI.out.len)
        clear HI
        generalize Rd.num l p = q at *
        obtain ⟨x, p', bd'⟩ := q
        simp only at C2 HI2
        generalize (false || bd') = b2 at *
        go_wp2_with fail
        with_reducible refine (C2.out).mono ?_
        rintro e w2 ⟨rfl, hr2, hg2⟩
        have hg3 := World.grownBy_alloc w2 (.cells #[.int .i64 x] 3) (some b)
        have HX := Lib.hid (nsAt_one (bkIn_new #[.int .i64 x] 3 w2))
        have HO3 := Lib.hid ((HO.out.kept hg2 (.inr (own_of_blk HR.out HO.out (by decide)))).kept hg3 (.inr (own_of_blk HR.out HO.out (by decide))))
        have HR3 := Lib.hid (show RdAt b l p' b2 (w2.alloc (.cells #[.int .i64 x] 3)) from BkIn.more' hr2 _)
        have HG3 := Lib.hid ((HG.out.trans hg2).trans hg3)
        clear hr2 hg2 hg3 HR HO HG C2 c2
        go_wp2_with (at_builtin; refine wpList_append_nums rfl _ _ 25 rfl w.heap.size i0 zz Try.underlying25 hi0 hz0 h01 h02 h03 (.slice ao xs.length cap) xs.length (nsL xs) rfl HO3.out (some ⟨w2.heap.size, 0, none⟩) 1 [(x : Int)] rfl HX.out (by have := HLX.out; have := HLL.out; simp only [List.length_singleton]; omega) HG3.out.size ?_; intro v4 w4 ho4 hg4; obtain ⟨a4, c4, rfl⟩ := own_shape16 ho4; have HG4 := Lib.hid (HG3.out.andThen hg4 (fun j hj => .inl (HO3.out.lt j hj).1)); have HR4 := Lib.hid (show RdAt b l p' b2 w4 from BkIn.grown' HR3.out hg4 (own_of_blk HR3.out HO3.out (by decide))); rw [← nsL_append] at ho4; have HO4 := Lib.hid ho4; clear ho4 hg4 HO3 HG3 HR3 HX)
        go_roundw
        case rel => exact ⟨xs ++ [(x : Int)], p', m, b2, a4, c4, by rw [List.length_append]; rfl, by go_num, HI2, HR4, HG4, Lib.hid (by rw [List.length_append]; exact HO4.out)⟩
        case measure => simp [intOf]

end Go.Proofs.Ytfcmjgcjmldpcaa
