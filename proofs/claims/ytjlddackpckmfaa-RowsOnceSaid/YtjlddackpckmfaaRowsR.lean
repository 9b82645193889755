/- Layer 21: RowsLate, walked. -/
import Derived.Test.YtjlddackpckmfaaRowsP
namespace Go.Proofs.Ytjlddackpckmfaa
set_option linter.unusedVariables false
open Go Go.RowKit
attribute [local go_sem ↓] run_index_S
attribute [local go_sem] S_append S_extract

theorem late_tk {x : M.Sp} (hm : M.mayB x = true) (n : Int) : M.tk (M.getL []) n [x] = if M.pastB x.start n then [] else [x] := by
  simp only [M.tk, List.foldl, M.tkS, M.okT, hm, M.getL]
  cases M.pastB x.start n <;> simp
theorem late_live {x : M.Sp} (hx : x.fits) (hm : M.mayB x = true) (n : Int) : M.live [M.cell1 x, M.cell2 x] n = if M.pastB x.start n then [] else [x] := by
  have e1 : M.liveF n (M.cell1 x) = if M.pastB x.start n then none else some x := by simp [M.liveF, M.spanC_cell1 hx hm]
  have e2 : M.liveF n (M.cell2 x) = none := by simp [M.liveF, M.spanC_cell2]
  cases h : M.pastB x.start n <;> simp [M.live, e1, e2, h]
def lateN (b : Bool) : Nat := if b then 0 else 1
theorem late_len (b : Bool) (x : M.Sp) : (if b then [] else [x] : List M.Sp).length = lateN b := by cases b <;> rfl
theorem idx_len {x : M.Sp} (hm : M.mayB x = true) : (M.idxK x).length ≤ 60 := by
  have h3 := M.mayB_parts hm
  have h4 := M.nameB_len h3.2.2.2.1
  have h5 := M.nameB_len h3.2.2.2.2.1
  rw [M.idxK_may hm, M.indexK, M.aheadK]
  simp only [List.length_append, List.length_cons, M.bigN_length, List.length_nil]
  omega
theorem late_next {s n : Int} (hn1 : n < 9223372036854775807) (h : M.pastB s n = true) : M.pastB s (n + 1) = true := by
  rw [M.pastB_true] at h ⊢; omega
theorem late_cls {x : M.Sp} (hm : M.mayB x = true) : ∀ c ∈ [M.cell1 x, M.cell2 x], c.key.length ≤ 140737488351232 ∧ c.val.length ≤ 140737488351232 := by
  have h1 := M.keyB_len x
  have h2 := M.enc_len hm
  have h3 := idx_len hm
  intro c hc
  rcases (by simpa using hc : c = M.cell1 x ∨ c = M.cell2 x) with rfl | rfl
  · exact ⟨by simp only [M.cell1]; omega, by simp only [M.cell1]; omega⟩
  · exact ⟨by simp only [M.cell2]; omega, by simp [M.cell2]⟩

set_option maxHeartbeats 16000000 in
set_option maxRecDepth 100000 in
theorem rowsLate_calls (W : World) (v : Value) (hv : USp v) (n : Int) (wn : (Lit.int .i64 n).wf = true) :
    Calls Try.prog 6 #[v, .int .i64 n] W fun e w' => e = .returned (.bool true) ∧ Below W.heap.size W w' := by
  obtain ⟨x, rfl, hxi⟩ := hv
  obtain ⟨hn1, hn2⟩ := i64_wfP wn
  have CL := Lib.hid lives21
  have HX := Lib.hid (rowIn_new (spA x) 23 W)
  have HB := Lib.hid ((Below.refl W.heap.size W).alloc (Nat.le_refl _) (.cells (spA x) 23))
  have hs1 : SpsAt ((W.alloc (.cells (spA x) 23)).alloc (.cells (spA x) 23)) (some ⟨W.heap.size + 1, 0, none⟩) [x] := spsAt_row (rowIn_at _ _ _ _ (by rw [szA])) rfl
  have HS1 := Lib.hid hs1
  have HXI := Lib.hid hxi
  clear hxi wn hs1
  go_enter Try.func6, Try.ntmps6
  go_wp2_with (refine wpList_load_row rfl 23 _ rfl W.heap.size rfl 23 _ (0, 0) _ HX.out Try.underlying23 rfl ?_ ?_; kernel_rfl)
  with_reducible refine (beyS x _ _ HS1.out).mono ?_
  replace HX := carryA (w := (W.alloc (.cells (spA x) 23))) (.cells (spA x) 23) HX
  replace HB := carryA (w := (W.alloc (.cells (spA x) 23))) (.cells (spA x) 23) HB
  clear HS1
  rintro e w1 ⟨hr, rfl⟩
  generalize (W.alloc (.cells (spA x) 23)).alloc (.cells (spA x) 23) = w1 at *
  rcases hr with rfl | ⟨rfl, hsm⟩
  · go_wp2_with fail
    with_reducible refine (CL.out _).mono ?_
    rintro e w2 ⟨rfl, hbq⟩
    replace HB := carry hbq HB
    clear hbq
    go_wp2_with fail
    go_ret
    exact ⟨rfl, HB.out⟩
  have HFX := Lib.hid (hsm.fits HXI.out)
  clear hsm HXI
  have CX := Lib.hid (fun W => check_any x HFX.out W)
  obtain ⟨q0, q1, q2, q3, q4, q5, q6, q7, -⟩ := HX.out.spAt
  go_wp2_with fail
  with_reducible refine (CX.out _).mono ?_
  rintro e w2 ⟨rfl, hbq⟩
  replace HX := carry hbq HX
  replace HB := carry hbq HB
  clear hbq q0 q1 q2 q3 q4 q5 q6 q7
  cases hmx : M.mayB x with
  | false =>
    go_wp2_with fail
    with_reducible refine (CL.out _).mono ?_
    rintro e w3 ⟨rfl, hbq⟩
    replace HB := carry hbq HB
    clear hbq
    go_wp2_with fail
    go_ret
    exact ⟨rfl, HB.out⟩
  | true =>
    have HMX := Lib.hid hmx
    clear hmx CX
    by_cases hneg : n < 0
    · have hd : decide (n < 0) = true := decide_eq_true hneg
      go_wp2_with fail
      with_reducible refine (CL.out _).mono ?_
      rintro e w3 ⟨rfl, hbq⟩
      replace HB := carry hbq HB
      clear hbq
      go_wp2_with fail
      go_ret
      exact ⟨rfl, HB.out⟩
    have hd : decide (n < 0) = false := decide_eq_false hneg
    have CA := Lib.hid (fun W => cells_yes x HFX.out HMX.out W)
    go_wp2_with (refine wpList_load_row rfl 23 _ rfl W.heap.size rfl 23 _ (0, 0) _ HX.out Try.underlying23 rfl ?_ ?_; kernel_rfl)
    with_reducible refine (CA.out _).mono ?_
    rintro e w4 (⟨-, g2, rfl, hg2, hr2, hb4⟩ | ⟨hno, -, -⟩)
    case inr => rw [HMX.out] at hno; cases hno
    have HA := Lib.hid hr2
    replace HX := carry hb4 HX
    replace HB := carry hb4 HB
    clear hb4 hr2 hg2 CA hd
    have HNN := Lib.hid hneg
    clear hneg
    have CT : Hid (∀ W b, ShelfAt W b [] → ∀ g, SpsAt W (some ⟨g, 0, none⟩) [x] → Calls Try.prog 21 #[.func (Fn.func 20) #[.pointer (some ⟨b, 0, none⟩)] #[], .slice (some ⟨g, 0, none⟩) 1 1, .int .i64 n] W fun e w' => ∃ a1 c1 a2 c2, e = .returned (.tuple #[.slice a1 (lateN (M.pastB x.start n)) c1, .slice a2 (2 * lateN (M.pastB x.start n)) c2]) ∧ Below W.heap.size W w') := Lib.hid (fun W b hs g hl => by
      have := take_any [x] _ 1 [] b n hn1 hn2 W (by simp) (fun y hy => by obtain rfl : y = x := (by simpa using hy); exact HFX.out) hl (by simp) (fun c hc => by simp at hc) hs
      unfold TakeR at this
      rw [late_tk HMX.out, late_len] at this
      exact this.mono fun e w' ⟨a1, c1, a2, c2, h1, h2, h3, h4⟩ => ⟨a1, c1, a2, c2, h1, h4⟩)
    have CV : Hid (∀ W g, RowIn (c2A x) 25 W g → Calls Try.prog 23 #[.slice (some ⟨g, 0, none⟩) 2 2, .int .i64 n] W fun e w' => ∃ a1 c1, e = .returned (.slice a1 (lateN (M.pastB x.start n)) c1) ∧ Below W.heap.size W w') := Lib.hid (fun W g hr => by
      have := live_any [M.cell1 x, M.cell2 x] (some ⟨g, 0, none⟩) 2 n hn1 hn2 W (by simp) (fun c hc => (late_cls HMX.out c hc).2) (clsAt_row hr rfl)
      unfold SpsR at this
      rw [late_live HFX.out HMX.out, late_len] at this
      exact this.mono fun e w' ⟨a1, c1, h1, h2, h4⟩ => ⟨a1, c1, h1, h4⟩)
    have CE := Lib.hid (fun W => expired_any x HFX.out n hn1 hn2 W)
    have CD1 : Hid (∀ W, Calls Try.prog 17 #[.agg #[.string (S (M.keyB x)), .int .i64 0, .string (S (M.enc x))], .int .i64 n] W fun e w' => e = .returned (.bool (M.pastB x.start n)) ∧ Below W.heap.size W w') := Lib.hid (fun W => by
      have := dropped_any (M.cell1 x) (late_cls HMX.out _ (by simp)).2 (late_cls HMX.out _ (by simp)).1 n hn1 hn2 W
      rw [M.dropB_cell1 HFX.out HMX.out] at this; exact this)
    have CD2 : Hid (∀ W, Calls Try.prog 17 #[.agg #[.string (S (M.idxK x)), .int .i64 0, .string (S [])], .int .i64 n] W fun e w' => e = .returned (.bool (M.pastB x.start n)) ∧ Below W.heap.size W w') := Lib.hid (fun W => by
      have := dropped_any (M.cell2 x) (late_cls HMX.out _ (by simp)).2 (late_cls HMX.out _ (by simp)).1 n hn1 hn2 W
      rw [M.dropB_cell2 HMX.out] at this; exact this)
    have CE1 := Lib.hid (fun (hl : n < 9223372036854775807) (hp : M.pastB x.start n = true) W => show Calls Try.prog 15 #[.agg (spA x), .int .i64 (n + 1)] W fun e w' => e = .returned (.bool true) ∧ Below W.heap.size W w' from by
      have := expired_any x HFX.out (n + 1) (by omega) (by omega) W
      rw [late_next hl hp] at this; exact this)
    have CE2 := Lib.hid (fun W => show Calls Try.prog 15 #[.agg (spA x), .int .i64 (-9223372036854775808)] W fun e w' => e = .returned (.bool false) ∧ Below W.heap.size W w' from by
      have := expired_any x HFX.out (-9223372036854775808) (by omega) (by omega) W
      rw [show M.pastB x.start (-9223372036854775808) = false from by have := M.mayB_parts HMX.out; rw [← Bool.not_eq_true, M.pastB_true]; omega] at this; exact this)
    generalize hlt : M.pastB x.start n = lt at *
    have HLT := Lib.hid hlt
    clear hlt
    have h0 : ((lateN lt : Int) == 0) = lt := by cases lt <;> rfl
    generalize lateN lt = m at *
    go_wp2_with (refine wpList_load_row rfl 23 _ rfl W.heap.size rfl 23 _ (0, 0) _ (Lib.hid (HX.out.more _)).out Try.underlying23 rfl ?_ ?_; kernel_rfl)
    have HS := Lib.hid (show ShelfAt ((w4.alloc (.cells #[.slice none 0 0] 44)).alloc (.cells (spA x) 23)) w4.heap.size [] from ⟨none, 0, (rowIn_new _ _ _).more _, clsAt_nil _ _⟩)
    have HL := Lib.hid (show SpsAt ((w4.alloc (.cells #[.slice none 0 0] 44)).alloc (.cells (spA x) 23)) (some ⟨w4.heap.size + 1, 0, none⟩) [x] from spsAt_row (rowIn_at _ _ _ _ (by rw [szA])) rfl)
    replace HX := carryA (w := w4) (.cells #[.slice none 0 0] 44) HX
    replace HB := carryA (w := w4) (.cells #[.slice none 0 0] 44) HB
    replace HA := carryA (w := w4) (.cells #[.slice none 0 0] 44) HA
    replace HX := carryA (w := w4.alloc (.cells #[.slice none 0 0] 44)) (.cells (spA x) 23) HX
    replace HB := carryA (w := w4.alloc (.cells #[.slice none 0 0] 44)) (.cells (spA x) 23) HB
    replace HA := carryA (w := w4.alloc (.cells #[.slice none 0 0] 44)) (.cells (spA x) 23) HA
    with_reducible refine (CT.out _ _ HS.out _ HL.out).mono ?_
    rintro e w5 ⟨a1, c1, a2, c2, rfl, hb5⟩
    replace HX := carry hb5 HX
    replace HB := carry hb5 HB
    replace HA := carry hb5 HA
    clear hb5 HS HL CT
    go_wp2_with fail
    with_reducible refine (CV.out _ _ HA.out).mono ?_
    rintro e w6 ⟨a3, c3, rfl, hb6⟩
    replace HX := carry hb6 HX
    replace HB := carry hb6 HB
    replace HA := carry hb6 HA
    clear hb6 CV
    go_wp2_with (refine wpList_load_row rfl 23 _ rfl W.heap.size rfl 23 _ (0, 0) _ HX.out Try.underlying23 rfl ?_ ?_; kernel_rfl)
    with_reducible refine (CE.out _).mono ?_
    rintro e w7 ⟨rfl, hbq⟩
    replace HX := carry hbq HX
    replace HB := carry hbq HB
    replace HA := carry hbq HA
    clear hbq CE
    cases lt with
    | false =>
      have k0 : w7.cell? _ = some _ := HA.out.cell 0
      have k1 : w7.cell? _ = some _ := HA.out.cell 1
      have k2 : w7.cell? _ = some _ := HA.out.cell 2
      go_wp2_with fail
      with_reducible refine (CD1.out _).mono ?_
      rintro e w8 ⟨rfl, hbq⟩
      replace HX := carry hbq HX
      replace HB := carry hbq HB
      replace HA := carry hbq HA
      clear hbq k0 k1 k2
      have k3 : w8.cell? _ = some _ := HA.out.cell 3
      have k4 : w8.cell? _ = some _ := HA.out.cell 4
      have k5 : w8.cell? _ = some _ := HA.out.cell 5
      go_wp2_with fail
      with_reducible refine (CD2.out _).mono ?_
      rintro e w9 ⟨rfl, hbq⟩
      replace HX := carry hbq HX
      replace HB := carry hbq HB
      replace HA := carry hbq HA
      clear hbq k3 k4 k5
      go_wp2_with fail
      with_reducible refine (CL.out _).mono ?_
      rintro e w11 ⟨rfl, hbq⟩
      replace HB := carry hbq HB
      clear hbq
      go_wp2_with fail
      go_ret
      exact ⟨rfl, HB.out⟩
    | true =>
      by_cases hmax : n < 9223372036854775807
      · have CE3 := Lib.hid (CE1.out hmax rfl)
        have hw : IntKind.i64.wrap (n + 1) = n + 1 := IntWalk.i64_in _ (by omega)
        have k0 : w7.cell? _ = some _ := HA.out.cell 0
        have k1 : w7.cell? _ = some _ := HA.out.cell 1
        have k2 : w7.cell? _ = some _ := HA.out.cell 2
        go_wp2_with fail
        with_reducible refine (CD1.out _).mono ?_
        rintro e w8 ⟨rfl, hbq⟩
        replace HX := carry hbq HX
        replace HB := carry hbq HB
        replace HA := carry hbq HA
        clear hbq k0 k1 k2
        have k3 : w8.cell? _ = some _ := HA.out.cell 3
        have k4 : w8.cell? _ = some _ := HA.out.cell 4
        have k5 : w8.cell? _ = some _ := HA.out.cell 5
        go_wp2_with fail
        with_reducible refine (CD2.out _).mono ?_
        rintro e w9 ⟨rfl, hbq⟩
        replace HX := carry hbq HX
        replace HB := carry hbq HB
        replace HA := carry hbq HA
        clear hbq k3 k4 k5
        have x0 : w9.cell? _ = some _ := HX.out.cell 0
        have x1 : w9.cell? _ = some _ := HX.out.cell 1
        have x2 : w9.cell? _ = some _ := HX.out.cell 2
        have x3 : w9.cell? _ = some _ := HX.out.cell 3
        have x4 : w9.cell? _ = some _ := HX.out.cell 4
        have x5 : w9.cell? _ = some _ := HX.out.cell 5
        have x6 : w9.cell? _ = some _ := HX.out.cell 6
        have x7 : w9.cell? _ = some _ := HX.out.cell 7
        go_wp2_with fail
        with_reducible refine (CE3.out _).mono ?_
        rintro e w10 ⟨rfl, hbq⟩
        replace HX := carry hbq HX
        replace HB := carry hbq HB
        clear hbq x0 x1 x2 x3 x4 x5 x6 x7
        go_wp2_with fail
        with_reducible refine (CL.out _).mono ?_
        rintro e w11 ⟨rfl, hbq⟩
        replace HB := carry hbq HB
        clear hbq
        go_wp2_with fail
        go_ret
        exact ⟨rfl, HB.out⟩
      · obtain rfl : n = 9223372036854775807 := by omega
        have hw : wrap64 9223372036854775808 = -9223372036854775808 := by unfold wrap64; decide
        have CE3 := CE2
        have k0 : w7.cell? _ = some _ := HA.out.cell 0
        have k1 : w7.cell? _ = some _ := HA.out.cell 1
        have k2 : w7.cell? _ = some _ := HA.out.cell 2
        go_wp2_with fail
        with_reducible refine (CD1.out _).mono ?_
        rintro e w8 ⟨rfl, hbq⟩
        replace HX := carry hbq HX
        replace HB := carry hbq HB
        replace HA := carry hbq HA
        clear hbq k0 k1 k2
        have k3 : w8.cell? _ = some _ := HA.out.cell 3
        have k4 : w8.cell? _ = some _ := HA.out.cell 4
        have k5 : w8.cell? _ = some _ := HA.out.cell 5
        go_wp2_with fail
        with_reducible refine (CD2.out _).mono ?_
        rintro e w9 ⟨rfl, hbq⟩
        replace HX := carry hbq HX
        replace HB := carry hbq HB
        replace HA := carry hbq HA
        clear hbq k3 k4 k5
        have x0 : w9.cell? _ = some _ := HX.out.cell 0
        have x1 : w9.cell? _ = some _ := HX.out.cell 1
        have x2 : w9.cell? _ = some _ := HX.out.cell 2
        have x3 : w9.cell? _ = some _ := HX.out.cell 3
        have x4 : w9.cell? _ = some _ := HX.out.cell 4
        have x5 : w9.cell? _ = some _ := HX.out.cell 5
        have x6 : w9.cell? _ = some _ := HX.out.cell 6
        have x7 : w9.cell? _ = some _ := HX.out.cell 7
        go_wp2_with fail
        with_reducible refine (CE3.out _).mono ?_
        rintro e w10 ⟨rfl, hbq⟩
        replace HX := carry hbq HX
        replace HB := carry hbq HB
        clear hbq x0 x1 x2 x3 x4 x5 x6 x7
        go_wp2_with fail
        with_reducible refine (CL.out _).mono ?_
        rintro e w11 ⟨rfl, hbq⟩
        replace HB := carry hbq HB
        clear hbq
        go_wp2_with fail
        go_ret
        exact ⟨rfl, HB.out⟩

end Go.Proofs.Ytjlddackpckmfaa
