/- Layer 21: the chapter's span (spoorlaw21.lives) comes out true. -/
import Derived.Test.YtjlddackpckmfaaRowsL
import Derived.Test.YtjlddackpckmfaaZE
namespace Go.Proofs.Ytjlddackpckmfaa
set_option linter.unusedVariables false
open Go Go.RowKit
attribute [local go_sem ↓] run_index_S
attribute [local go_sem] S_append S_extract

theorem spOff_mk {w : World} {g o : Nat} {x : M.Sp} (h : ∀ i, i < 8 → ∀ u, (spL x)[i]? = some u → w.cell? ⟨g, o + i, none⟩ = some u) : SpOff x w g o :=
  ⟨h 0 (by omega) _ rfl, h 1 (by omega) _ rfl, h 2 (by omega) _ rfl, h 3 (by omega) _ rfl, h 4 (by omega) _ rfl, h 5 (by omega) _ rfl, h 6 (by omega) _ rfl, h 7 (by omega) _ rfl⟩
/-- A block that is known whole: the spans that lie in it. -/
theorem spsAt_row {w : World} {C : Array Value} {T : TypeId} {g : Nat} {L : List M.Sp} (h : RowIn C T w g) (hC : C.toList = sps L) : SpsAt w (some ⟨g, 0, none⟩) L := fun _ =>
  ⟨g, 0, rfl, fun j hj => spOff_mk fun i hi u hu => by
    rw [Nat.zero_add, h.cell, ← Array.getElem?_toList, hC, sps_get L j i hj hi]
    exact hu⟩
theorem own_addr {w : World} {B sz n cap : Nat} {e : TypeId} {ao : Option Addr} {xs : List Value} (h : w.ownsRow B e sz (.slice ao n cap) n xs) (hn : 0 < n) : ∃ g, ao = some ⟨g, 0, none⟩ ∧ B ≤ g := by
  rcases h.2 with ⟨h1, h0⟩ | ⟨g, cap', cur, e, hb, hg, _⟩
  · omega
  · injection e with e1 e2 e3
    exact ⟨g, e1, hb⟩

def one21 : M.Sp := ⟨3, 1, 0, [97], [104], 10, 0, []⟩
theorem one21_fits : one21.fits := by constructor <;> decide
theorem one21_may : M.mayB one21 = true := by decide
theorem lv_p20 : M.pastB one21.start 20 = false := by decide
theorem lv_p69 : M.pastB one21.start 69 = false := by decide
theorem lv_p70 : M.pastB one21.start 70 = true := by decide
theorem lv_get : M.getL (M.cls2 one21) (M.keyB one21) = some (M.cell1 one21) := by
  have : ¬ M.idxK one21 = M.keyB one21 := fun h => M.key_idx one21_may one21_may h.symm
  simp [M.getL, M.cls2, M.cell1, M.cell2, this]
theorem lv_t1 : M.tk (M.getL []) 20 [one21, one21] = [one21] := by
  simp [M.tk, M.tkS, M.okT, M.getL, one21_may, lv_p20]
theorem lv_t2 : M.tk (M.getL (M.cls2 one21)) 20 [one21] = [] := by
  have h : M.dropB (M.cell1 one21) 20 = false := (M.dropB_cell1 one21_fits one21_may 20).trans lv_p20
  simp [M.tk, M.tkS, M.okT, lv_get, h, one21_may, lv_p20]
theorem lv_t3 : M.tk (M.getL (M.cls2 one21)) 70 [one21] = [] := by
  simp [M.tk, M.tkS, M.okT, one21_may, lv_p70]
theorem lv_span : M.spanC (M.cell1 one21) = some one21 := M.spanC_cell1 one21_fits one21_may
theorem lv_d69 : M.dropB (M.cell2 one21) 69 = false := (M.dropB_cell2 one21_may 69).trans lv_p69
theorem lv_d70 : M.dropB (M.cell2 one21) 70 = true := (M.dropB_cell2 one21_may 70).trans lv_p70
theorem lv_cells : ∀ c ∈ M.cls2 one21, c.key.length ≤ 140737488351232 ∧ c.val.length ≤ 140737488351232 := by
  have h1 := M.keyB_len one21
  have h2 := M.enc_len one21_may
  have h3 : (M.idxK one21).length ≤ 100 := by decide
  intro c hc
  rcases (by simpa [M.cls2] using hc : c = M.cell1 one21 ∨ c = M.cell2 one21) with rfl | rfl
  · exact ⟨by simp only [M.cell1]; omega, by simp only [M.cell1]; omega⟩
  · exact ⟨by simp only [M.cell2]; omega, by simp [M.cell2]⟩
theorem lv_ones (x : M.Sp) (hx : x ∈ [one21, one21]) : x.fits := by
  obtain rfl : x = one21 := by simpa using hx
  exact one21_fits
theorem lv_one (x : M.Sp) (hx : x ∈ [one21]) : x.fits := by
  obtain rfl : x = one21 := by simpa using hx
  exact one21_fits
theorem one21_any (w : World) : Calls Try.prog 26 #[] w fun e w' => e = .returned (.agg #[.int .i64 3, .int .i64 1, .int .i64 0, .string ⟨#[97]⟩, .string ⟨#[104]⟩, .int .i64 10, .int .i64 0, .string ⟨#[]⟩]) ∧ Below w.heap.size w w' := by
  have HR := Lib.hid (spIn_new w)
  go_enter Try.func26, Try.ntmps26
  go_wp2_with (refine wpList_store_row rfl 23 _ _ rfl w.heap.size _ rfl rfl 23 (spC M.sp0) HR.out ?_ rfl (spC_one one21) ?_; kernel_rfl)
  try simp only [Exit.inBlock, Exit.then]
  exact bodyPost_ret (ret_rowP1 rfl _ _ w.heap.size rfl (load_struct Try.underlying23 (by kernel_rfl) (RowIn.rowP HR.out))) rfl ⟨rfl, below_setRow ((Below.refl _ _).alloc (Nat.le_refl _) _) (Nat.le_refl _) _⟩

abbrev ones1 : Array Value := #[.int .i64 3, .int .i64 1, .int .i64 0, .string ⟨#[97]⟩, .string ⟨#[104]⟩, .int .i64 10, .int .i64 0, .string ⟨#[]⟩]
abbrev ones2 : Array Value := #[.int .i64 3, .int .i64 1, .int .i64 0, .string ⟨#[97]⟩, .string ⟨#[104]⟩, .int .i64 10, .int .i64 0, .string ⟨#[]⟩, .int .i64 3, .int .i64 1, .int .i64 0, .string ⟨#[97]⟩, .string ⟨#[104]⟩, .int .i64 10, .int .i64 0, .string ⟨#[]⟩]
theorem clsAt_two {w : World} {g : Nat} {c d : M.Cl} (h : ClsAt w (some ⟨g, 0, none⟩) [c, d]) : ClOff c w g 0 ∧ ClOff d w g 3 := by
  obtain ⟨g', off, he, hc⟩ := h (by simp)
  cases he
  exact ⟨hc 0 (by simp), by have := hc 1 (by simp); simpa using this⟩

set_option maxHeartbeats 8000000 in
set_option maxRecDepth 100000 in
theorem lives21 (w : World) : Calls Try.prog 10 #[] w fun e w' => e = .returned (.bool true) ∧ Below w.heap.size w w' := by
  have CO := Lib.hid one21_any
  have CT1 : Hid (∀ W b, ShelfAt W b [] → ∀ g, SpsAt W (some ⟨g, 0, none⟩) [one21, one21] → Calls Try.prog 21 #[.func (Fn.func 20) #[.pointer (some ⟨b, 0, none⟩)] #[], .slice (some ⟨g, 0, none⟩) 2 2, .int .i64 20] W fun e w' => ∃ a1 c1 a2 c2, e = .returned (.tuple #[.slice a1 1 c1, .slice a2 2 c2]) ∧ w'.ownsRow W.heap.size 23 8 (.slice a1 1 c1) 1 (sps [one21]) ∧ w'.ownsRow W.heap.size 25 3 (.slice a2 2 c2) 2 (cls (M.cls2 one21)) ∧ Below W.heap.size W w') := Lib.hid (fun W b hs g hl => by
    have := take_any [one21, one21] _ 2 [] b 20 (by decide) (by decide) W (by decide) lv_ones hl (by decide) (fun c hc => by simp at hc) hs
    rw [lv_t1] at this; exact this)
  have CT2 : Hid (∀ W b, ShelfAt W b (M.cls2 one21) → ∀ g, SpsAt W (some ⟨g, 0, none⟩) [one21] → Calls Try.prog 21 #[.func (Fn.func 20) #[.pointer (some ⟨b, 0, none⟩)] #[], .slice (some ⟨g, 0, none⟩) 1 1, .int .i64 20] W fun e w' => ∃ a1 c1 a2 c2, e = .returned (.tuple #[.slice a1 0 c1, .slice a2 0 c2]) ∧ w'.ownsRow W.heap.size 23 8 (.slice a1 0 c1) 0 (sps []) ∧ w'.ownsRow W.heap.size 25 3 (.slice a2 0 c2) 0 (cls []) ∧ Below W.heap.size W w') := Lib.hid (fun W b hs g hl => by
    have := take_any [one21] _ 1 (M.cls2 one21) b 20 (by decide) (by decide) W (by decide) lv_one hl (by decide) lv_cells hs
    rw [lv_t2] at this; exact this)
  have CT3 : Hid (∀ W b, ShelfAt W b (M.cls2 one21) → ∀ g, SpsAt W (some ⟨g, 0, none⟩) [one21] → Calls Try.prog 21 #[.func (Fn.func 20) #[.pointer (some ⟨b, 0, none⟩)] #[], .slice (some ⟨g, 0, none⟩) 1 1, .int .i64 70] W fun e w' => ∃ a1 c1 a2 c2, e = .returned (.tuple #[.slice a1 0 c1, .slice a2 0 c2]) ∧ w'.ownsRow W.heap.size 23 8 (.slice a1 0 c1) 0 (sps []) ∧ w'.ownsRow W.heap.size 25 3 (.slice a2 0 c2) 0 (cls []) ∧ Below W.heap.size W w') := Lib.hid (fun W b hs g hl => by
    have := take_any [one21] _ 1 (M.cls2 one21) b 70 (by decide) (by decide) W (by decide) lv_one hl (by decide) lv_cells hs
    rw [lv_t3] at this; exact this)
  have CE69 : Hid (∀ W, Calls Try.prog 15 #[.agg #[.int .i64 3, .int .i64 1, .int .i64 0, .string ⟨#[97]⟩, .string ⟨#[104]⟩, .int .i64 10, .int .i64 0, .string ⟨#[]⟩], .int .i64 69] W fun e w' => e = .returned (.bool false) ∧ Below W.heap.size W w') := Lib.hid (fun W => by
    have := expired_any one21 one21_fits 69 (by decide) (by decide) W; rw [lv_p69] at this; exact this)
  have CE70 : Hid (∀ W, Calls Try.prog 15 #[.agg #[.int .i64 3, .int .i64 1, .int .i64 0, .string ⟨#[97]⟩, .string ⟨#[104]⟩, .int .i64 10, .int .i64 0, .string ⟨#[]⟩], .int .i64 70] W fun e w' => e = .returned (.bool true) ∧ Below W.heap.size W w') := Lib.hid (fun W => by
    have := expired_any one21 one21_fits 70 (by decide) (by decide) W; rw [lv_p70] at this; exact this)
  have hcs := lv_cells
  obtain ⟨cA, hcA⟩ : ∃ c, c = M.cell1 one21 := ⟨_, rfl⟩
  obtain ⟨cB, hcB⟩ : ∃ c, c = M.cell2 one21 := ⟨_, rfl⟩
  have hAB : M.cls2 one21 = [cA, cB] := by rw [hcA, hcB]; rfl
  rw [hAB] at hcs CT2 CT3
  have HAB := Lib.hid hAB
  have CS : Hid (∀ W, Calls Try.prog 13 #[.agg (clA cA)] W fun e w' => e = .returned (.tuple #[.agg #[.int .i64 3, .int .i64 1, .int .i64 0, .string ⟨#[97]⟩, .string ⟨#[104]⟩, .int .i64 10, .int .i64 0, .string ⟨#[]⟩], .bool true]) ∧ Below W.heap.size W w') := Lib.hid (fun W => by
    have := span_any cA (hcs cA (by simp)).2 W; unfold SpanR at this; rw [show M.spanC cA = some one21 from by rw [hcA]; exact lv_span] at this; exact this)
  have CD69 : Hid (∀ W, Calls Try.prog 17 #[.agg (clA cB), .int .i64 69] W fun e w' => e = .returned (.bool false) ∧ Below W.heap.size W w') := Lib.hid (fun W => by
    have := dropped_any cB (hcs cB (by simp)).2 (hcs cB (by simp)).1 69 (by decide) (by decide) W; rw [show M.dropB cB 69 = false from by rw [hcB]; exact lv_d69] at this; exact this)
  have CD70 : Hid (∀ W, Calls Try.prog 17 #[.agg (clA cB), .int .i64 70] W fun e w' => e = .returned (.bool true) ∧ Below W.heap.size W w') := Lib.hid (fun W => by
    have := dropped_any cB (hcs cB (by simp)).2 (hcs cB (by simp)).1 70 (by decide) (by decide) W; rw [show M.dropB cB 70 = true from by rw [hcB]; exact lv_d70] at this; exact this)
  clear hcs hcA hcB hAB
  have HS0 := Lib.hid (show ShelfAt (w.alloc (.cells #[.slice none 0 0] 44)) w.heap.size [] from ⟨none, 0, rowIn_new _ _ _, clsAt_nil _ _⟩)
  have HB0 := Lib.hid ((Below.refl w.heap.size w).alloc (Nat.le_refl _) (.cells #[.slice none 0 0] 44))
  go_enter Try.func10, Try.ntmps10
  have hmf : ∀ (fn : Fn) (first cap : Array Value) (w : World), (Instr.makeFunc fn first cap).run Try.prog w = .ok (.func fn first cap) w := fun _ _ _ _ => rfl
  go_wp2_with fail
  with_reducible refine (CO.out _).mono ?_
  rintro e w1 ⟨rfl, hb1⟩
  replace HS0 := carry hb1 HS0
  replace HB0 := carry hb1 HB0
  clear hb1
  go_wp2_with fail
  with_reducible refine (CO.out _).mono ?_
  rintro e w2 ⟨rfl, hb2⟩
  replace HS0 := carry hb2 HS0
  replace HB0 := carry hb2 HB0
  clear hb2
  go_wp2_with fail
  have HL := Lib.hid (show SpsAt (w2.alloc (.cells ones2 23)) (some ⟨w2.heap.size, 0, none⟩) [one21, one21] from spsAt_row (rowIn_new _ _ _) rfl)
  replace HS0 := carryA (w := w2) (.cells ones2 23) HS0
  replace HB0 := carryA (w := w2) (.cells ones2 23) HB0
  with_reducible refine (CT1.out _ _ HS0.out _ HL.out).mono ?_
  rintro e w3 ⟨a1, c1, a2, c2, rfl, ho1, ho2, hb3⟩
  replace HB0 := carry hb3 HB0
  obtain ⟨gc, rfl, hgc⟩ := own_addr ho2 (by decide)
  have HC := Lib.hid (show ClsAt w3 (some ⟨gc, 0, none⟩) [cA, cB] from HAB.out ▸ clsAt_own ho2 rfl)
  clear hb3 ho1 ho2 HS0 HL CT1
  go_wp2_with fail
  have HS1 := Lib.hid (show ShelfAt (w3.alloc (.cells #[.slice (some ⟨gc, 0, none⟩) 2 c2] 44)) w3.heap.size [cA, cB] from ⟨some ⟨gc, 0, none⟩, c2, rowIn_new _ _ _, HC.out.below ((Below.refl _ _).alloc (Nat.le_refl _) _)⟩)
  replace HB0 := carryA (w := w3) (.cells #[.slice (some ⟨gc, 0, none⟩) 2 c2] 44) HB0
  replace HC := carryA (w := w3) (.cells #[.slice (some ⟨gc, 0, none⟩) 2 c2] 44) HC
  with_reducible refine (CO.out _).mono ?_
  rintro e w4 ⟨rfl, hb4⟩
  replace HB0 := carry hb4 HB0
  replace HC := carry hb4 HC
  replace HS1 := carry hb4 HS1
  clear hb4
  go_wp2_with fail
  have HL := Lib.hid (show SpsAt (w4.alloc (.cells ones1 23)) (some ⟨w4.heap.size, 0, none⟩) [one21] from spsAt_row (rowIn_new _ _ _) rfl)
  replace HS1 := carryA (w := w4) (.cells ones1 23) HS1
  replace HB0 := carryA (w := w4) (.cells ones1 23) HB0
  replace HC := carryA (w := w4) (.cells ones1 23) HC
  with_reducible refine (CT2.out _ _ HS1.out _ HL.out).mono ?_
  rintro e w5 ⟨a3, c3, a4, c4, rfl, ho1, ho2, hb5⟩
  replace HB0 := carry hb5 HB0
  replace HC := carry hb5 HC
  replace HS1 := carry hb5 HS1
  clear hb5 ho1 ho2 HL CT2
  go_wp2_with fail
  with_reducible refine (CO.out _).mono ?_
  rintro e w6 ⟨rfl, hb6⟩
  replace HB0 := carry hb6 HB0
  replace HC := carry hb6 HC
  replace HS1 := carry hb6 HS1
  clear hb6
  go_wp2_with fail
  have HL := Lib.hid (show SpsAt (w6.alloc (.cells ones1 23)) (some ⟨w6.heap.size, 0, none⟩) [one21] from spsAt_row (rowIn_new _ _ _) rfl)
  replace HS1 := carryA (w := w6) (.cells ones1 23) HS1
  replace HB0 := carryA (w := w6) (.cells ones1 23) HB0
  replace HC := carryA (w := w6) (.cells ones1 23) HC
  with_reducible refine (CT3.out _ _ HS1.out _ HL.out).mono ?_
  rintro e w7 ⟨a5, c5, a6, c6, rfl, ho1, ho2, hb7⟩
  replace HB0 := carry hb7 HB0
  replace HC := carry hb7 HC
  clear hb7 ho1 ho2 HL CT3 HS1
  obtain ⟨⟨k0, k1, k2⟩, -⟩ := clsAt_two HC.out
  go_wp2_with fail
  with_reducible refine (CS.out _).mono ?_
  rintro e w8 ⟨rfl, hb8⟩
  replace HB0 := carry hb8 HB0
  replace HC := carry hb8 HC
  clear hb8 k0 k1 k2
  go_wp2_with (refine wpList_store_hid rfl 23 _ _ rfl w8.heap.size _ rfl rfl 23 (spC M.sp0) (spIn_new w8) ?_ rfl (spC_one one21) ?_; kernel_rfl; intro w9 hr9 hbel9 hoth9 hsz9; have hb9 := hbel9 w8.heap.size w8 (Nat.le_refl _) ((Below.refl _ _).alloc (Nat.le_refl _) _); replace HB0 := carry hb9 HB0; replace HC := carry hb9 HC; have HX := Lib.hid hr9; clear hr9 hbel9 hoth9 hsz9 hb9)
  obtain ⟨-, k0, k1, k2⟩ := clsAt_two HC.out
  have g0 := fun d os => cell_regrown k0 d os
  have g1 := fun d os => cell_regrown k1 d os
  have g2 := fun d os => cell_regrown k2 d os
  have x0 := HX.out.gcell 0 rfl
  have x1 := HX.out.gcell 1 rfl
  have x2 := HX.out.gcell 2 rfl
  have x3 := HX.out.gcell 3 rfl
  have x4 := HX.out.gcell 4 rfl
  have x5 := HX.out.gcell 5 rfl
  have x6 := HX.out.gcell 6 rfl
  have x7 := HX.out.gcell 7 rfl
  clear k0 k1 k2
  refine wp_region_quiet_below (by kernel_rfl) (by kernel_rfl) ?_
  repeat (any_goals (first | go_big_quiet_step ((first | (go_at_call 26; with_reducible exact Calls.regrown_of (CO.out _)) | (go_at_call 15; with_reducible exact Calls.regrown_of (CE69.out _)) | (go_at_call 15; with_reducible exact Calls.regrown_of (CE70.out _)) | (go_at_call 17; with_reducible exact Calls.regrown_of (CD69.out _)) | (go_at_call 17; with_reducible exact Calls.regrown_of (CD70.out _)))) | quiet_step ((first | (go_at_call 26; with_reducible exact Calls.regrown_of (CO.out _)) | (go_at_call 15; with_reducible exact Calls.regrown_of (CE69.out _)) | (go_at_call 15; with_reducible exact Calls.regrown_of (CE70.out _)) | (go_at_call 17; with_reducible exact Calls.regrown_of (CD69.out _)) | (go_at_call 17; with_reducible exact Calls.regrown_of (CD70.out _))))))
  refine wpQuiet_nil ?_
  intro _ hw1
  obtain ⟨⟨d1, d1o⟩, hw1⟩ := hw1
  subst hw1
  replace HB0 := carry (below_regrown w9 d1 d1o) HB0
  go_wp2_with fail
  go_ret
  exact ⟨rfl, HB0.out⟩

end Go.Proofs.Ytjlddackpckmfaa

