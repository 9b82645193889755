/- Layer 3: the chapter's examples (spoorlaw03.does) come out true. -/
import Derived.Test.YtpbdmldooehafabSpansR2
namespace Go.Proofs.Ytpbdmldooehafab
set_option linter.unusedVariables false
open Go Go.RowKit
attribute [local go_sem ↓] run_index_S
attribute [local go_sem] S_append S_extract

def sx : M.Sp := { trace := 300, id := 2, parent := 1, svc := [97, 112, 105], host := [104, 49], start := 5, dur := 0, note := [111, 107] }
def sy : M.Sp := { trace := 300, id := 0, parent := 1, svc := [97, 112, 105], host := [104, 49], start := 5, dur := 0, note := [111, 107] }
def sz : M.Sp := { trace := 300, id := 3, parent := 1, svc := [97, 112, 105], host := [104, 49], start := 5, dur := 0, note := [111, 107] }
theorem sx_fits : sx.fits := by constructor <;> decide
theorem sy_fits : sy.fits := by constructor <;> decide
theorem sz_fits : sz.fits := by constructor <;> decide
theorem sx_may : M.mayB sx = true := by decide
theorem sy_may : M.mayB sy = false := by decide
theorem sx_enc : M.enc sx = [130, 44, 2, 1, 5, 0, 3, 97, 112, 105, 2, 104, 49, 2, 111, 107] := by decide
theorem sx_dec : M.dec [130, 44, 2, 1, 5, 0, 3, 97, 112, 105, 2, 104, 49, 2, 111, 107] = some sx := by rfl
theorem sx_less : M.lessB sx sz = true := by decide
theorem sz_less : M.lessB sz sx = false := by decide
theorem n_ab : M.nameB [97, 32, 98] = false := by decide
theorem n_a_b : M.nameB [97, 45, 98] = true := by decide

theorem some_any (w : World) : Calls Try.prog 39 #[] w fun e w' => e = .returned (.agg #[.int .i64 300, .int .i64 2, .int .i64 1, .string ⟨#[97, 112, 105]⟩, .string ⟨#[104, 49]⟩, .int .i64 5, .int .i64 0, .string ⟨#[111, 107]⟩]) ∧ Below w.heap.size w w' := by
  go_enter Try.func39, Try.ntmps39
  go_wp2_with (refine wpList_store_row rfl 30 _ _ rfl w.heap.size _ rfl rfl 30 (spC M.sp0) (spIn_new w) ?_ rfl (spC_one sx) ?_; kernel_rfl)
  try simp only [Exit.inBlock, Exit.then]
  exact bodyPost_ret (ret_sp1 rfl _ _ w.heap.size sx rfl (SpIn.row (spIn_new w) _)) rfl ⟨rfl, below_setRow ((Below.refl _ _).alloc (Nat.le_refl _) _) (Nat.le_refl _) _⟩

theorem RowIn.grown {C : Array Value} {T : TypeId} {w : World} {b : Nat} (h : RowIn C T w b) (d : Nat) (os : Array Obj) : RowIn C T (Sort.grow (redrawn w d) os) b := h.below (below_regrown w d os)
theorem RowIn.gcell {C : Array Value} {T : TypeId} {w : World} {b : Nat} (h : RowIn C T w b) (j : Nat) {v : Value} (hv : C[j]? = some v) (d : Nat) (os : Array Obj) : (Sort.grow (redrawn w d) os).cell? ⟨b, j, none⟩ = some v := ((h.grown d os).cell j).trans hv

set_option maxHeartbeats 2000000 in
theorem does3 (w : World) : Calls Try.prog 23 #[] w fun e w' => e = .returned (.bool true) ∧ Below w.heap.size w w' := by
  have c0 := some_any
  have c1 : ∀ W, Calls Try.prog 17 #[.agg #[.int .i64 300, .int .i64 2, .int .i64 1, .string ⟨#[97, 112, 105]⟩, .string ⟨#[104, 49]⟩, .int .i64 5, .int .i64 0, .string ⟨#[111, 107]⟩]] W fun e w' => e = .returned (.tuple #[.string ⟨#[130, 44, 2, 1, 5, 0, 3, 97, 112, 105, 2, 104, 49, 2, 111, 107]⟩, .int .i64 0]) ∧ Below W.heap.size W w' := fun W => by
    have := encode_yes sx sx_fits sx_may W; rw [sx_enc] at this; exact this
  have c2 : ∀ W, Calls Try.prog 24 #[.string ⟨#[130, 44, 2, 1, 5, 0, 3, 97, 112, 105, 2, 104, 49, 2, 111, 107]⟩] W fun e w' => e = .returned (.tuple #[.agg #[.int .i64 300, .int .i64 2, .int .i64 1, .string ⟨#[97, 112, 105]⟩, .string ⟨#[104, 49]⟩, .int .i64 5, .int .i64 0, .string ⟨#[111, 107]⟩], .int .i64 0]) ∧ Below W.heap.size W w' := fun W => by
    have := decode_any [130, 44, 2, 1, 5, 0, 3, 97, 112, 105, 2, 104, 49, 2, 111, 107] (by decide) W; rw [sx_dec] at this; exact this
  have c3 : ∀ W, Calls Try.prog 19 #[.agg #[.int .i64 300, .int .i64 0, .int .i64 1, .string ⟨#[97, 112, 105]⟩, .string ⟨#[104, 49]⟩, .int .i64 5, .int .i64 0, .string ⟨#[111, 107]⟩]] W fun e w' => e = .returned (.int .i64 2) ∧ Below W.heap.size W w' := fun W => by
    have := check_any sy sy_fits W; rw [sy_may] at this; exact this
  have c4 : ∀ W, Calls Try.prog 26 #[.agg #[.int .i64 300, .int .i64 2, .int .i64 1, .string ⟨#[97, 112, 105]⟩, .string ⟨#[104, 49]⟩, .int .i64 5, .int .i64 0, .string ⟨#[111, 107]⟩], .agg #[.int .i64 300, .int .i64 3, .int .i64 1, .string ⟨#[97, 112, 105]⟩, .string ⟨#[104, 49]⟩, .int .i64 5, .int .i64 0, .string ⟨#[111, 107]⟩]] W fun e w' => e = .returned (.bool true) ∧ Below W.heap.size W w' := fun W => by
    have := less_any sx sz W; rw [sx_less] at this; exact this
  have c5 : ∀ W, Calls Try.prog 26 #[.agg #[.int .i64 300, .int .i64 3, .int .i64 1, .string ⟨#[97, 112, 105]⟩, .string ⟨#[104, 49]⟩, .int .i64 5, .int .i64 0, .string ⟨#[111, 107]⟩], .agg #[.int .i64 300, .int .i64 2, .int .i64 1, .string ⟨#[97, 112, 105]⟩, .string ⟨#[104, 49]⟩, .int .i64 5, .int .i64 0, .string ⟨#[111, 107]⟩]] W fun e w' => e = .returned (.bool false) ∧ Below W.heap.size W w' := fun W => by
    have := less_any sz sx W; rw [sz_less] at this; exact this
  have c6 : ∀ W, Calls Try.prog 21 #[.string ⟨#[97, 32, 98]⟩] W fun e w' => e = .returned (.bool false) ∧ Below W.heap.size W w' := fun W => by
    have := name_any [97, 32, 98] (by decide) W; rw [n_ab] at this; exact this.mono fun e w' ⟨he, hw⟩ => ⟨he, hw ▸ Below.refl _ _⟩
  have c7 : ∀ W, Calls Try.prog 21 #[.string ⟨#[97, 45, 98]⟩] W fun e w' => e = .returned (.bool true) ∧ Below W.heap.size W w' := fun W => by
    have := name_any [97, 45, 98] (by decide) W; rw [n_a_b] at this; exact this.mono fun e w' ⟨he, hw⟩ => ⟨he, hw ▸ Below.refl _ _⟩
  have C0 := Lib.hid c0
  have C1 := Lib.hid c1
  have C2 := Lib.hid c2
  have C3 := Lib.hid c3
  have C4 := Lib.hid c4
  have C5 := Lib.hid c5
  have C6 := Lib.hid c6
  have C7 := Lib.hid c7
  clear c0 c1 c2 c3 c4 c5 c6 c7
  go_enter Try.func23, Try.ntmps23
  go_wp2_with fail
  with_reducible refine (C0.out _).mono ?_
  rintro e w1 ⟨rfl, hb1⟩
  go_wp2_with fail
  with_reducible refine (C1.out _).mono ?_
  rintro e w2 ⟨rfl, hb2⟩
  go_wp2_with fail
  with_reducible refine (C2.out _).mono ?_
  rintro e w3 ⟨rfl, hb3⟩
  have rx := rowIn_new #[.int .i64 300, .int .i64 2, .int .i64 1, .string ⟨#[97, 112, 105]⟩, .string ⟨#[104, 49]⟩, .int .i64 5, .int .i64 0, .string ⟨#[111, 107]⟩] 30 w3
  go_wp2_with fail
  with_reducible refine (C0.out _).mono ?_
  rintro e w4 ⟨rfl, hb4⟩
  replace rx := (rx.below hb4).more (.cells #[.int .i64 300, .int .i64 0, .int .i64 1, .string ⟨#[97, 112, 105]⟩, .string ⟨#[104, 49]⟩, .int .i64 5, .int .i64 0, .string ⟨#[111, 107]⟩] 30)
  have ry := rowIn_new #[.int .i64 300, .int .i64 0, .int .i64 1, .string ⟨#[97, 112, 105]⟩, .string ⟨#[104, 49]⟩, .int .i64 5, .int .i64 0, .string ⟨#[111, 107]⟩] 30 w4
  have bw : Below w.heap.size w (w4.alloc (.cells #[.int .i64 300, .int .i64 0, .int .i64 1, .string ⟨#[97, 112, 105]⟩, .string ⟨#[104, 49]⟩, .int .i64 5, .int .i64 0, .string ⟨#[111, 107]⟩] 30)) := (below_step ((below_step (below_step hb1 hb2) hb3).alloc (by have := hb1.size; have := hb2.size; have := hb3.size; omega) _) hb4).alloc (by have := hb1.size; have := hb2.size; have := hb3.size; have := hb4.size; simp at this; omega) _
  have RX := Lib.hid rx
  have RY := Lib.hid ry
  have BW := Lib.hid bw
  clear rx ry bw
  go_wp2_with fail
  with_reducible refine (C0.out _).mono ?_
  rintro e w5 ⟨rfl, hb5⟩
  have rx := (RX.out.below hb5).more (.cells #[.int .i64 300, .int .i64 3, .int .i64 1, .string ⟨#[97, 112, 105]⟩, .string ⟨#[104, 49]⟩, .int .i64 5, .int .i64 0, .string ⟨#[111, 107]⟩] 30)
  have ry := (RY.out.below hb5).more (.cells #[.int .i64 300, .int .i64 3, .int .i64 1, .string ⟨#[97, 112, 105]⟩, .string ⟨#[104, 49]⟩, .int .i64 5, .int .i64 0, .string ⟨#[111, 107]⟩] 30)
  have rz := rowIn_new #[.int .i64 300, .int .i64 3, .int .i64 1, .string ⟨#[97, 112, 105]⟩, .string ⟨#[104, 49]⟩, .int .i64 5, .int .i64 0, .string ⟨#[111, 107]⟩] 30 w5
  have bw := (below_step BW.out hb5).alloc (by have := (below_step BW.out hb5).size; exact this) (.cells #[.int .i64 300, .int .i64 3, .int .i64 1, .string ⟨#[97, 112, 105]⟩, .string ⟨#[104, 49]⟩, .int .i64 5, .int .i64 0, .string ⟨#[111, 107]⟩] 30)
  have RX2 := Lib.hid rx
  have RY2 := Lib.hid ry
  have RZ2 := Lib.hid rz
  have BW2 := Lib.hid bw
  clear rx ry rz bw
  go_wp2_with fail
  generalize w5.alloc (.cells #[.int .i64 300, .int .i64 3, .int .i64 1, .string ⟨#[97, 112, 105]⟩, .string ⟨#[104, 49]⟩, .int .i64 5, .int .i64 0, .string ⟨#[111, 107]⟩] 30) = W6 at *
  have x0 := RX2.out.gcell 0 rfl
  have x1 := RX2.out.gcell 1 rfl
  have x2 := RX2.out.gcell 2 rfl
  have x3 := RX2.out.gcell 3 rfl
  have x4 := RX2.out.gcell 4 rfl
  have x5 := RX2.out.gcell 5 rfl
  have x6 := RX2.out.gcell 6 rfl
  have x7 := RX2.out.gcell 7 rfl
  have y0 := RY2.out.gcell 0 rfl
  have y1 := RY2.out.gcell 1 rfl
  have y2 := RY2.out.gcell 2 rfl
  have y3 := RY2.out.gcell 3 rfl
  have y4 := RY2.out.gcell 4 rfl
  have y5 := RY2.out.gcell 5 rfl
  have y6 := RY2.out.gcell 6 rfl
  have y7 := RY2.out.gcell 7 rfl
  have z0 := RZ2.out.gcell 0 rfl
  have z1 := RZ2.out.gcell 1 rfl
  have z2 := RZ2.out.gcell 2 rfl
  have z3 := RZ2.out.gcell 3 rfl
  have z4 := RZ2.out.gcell 4 rfl
  have z5 := RZ2.out.gcell 5 rfl
  have z6 := RZ2.out.gcell 6 rfl
  have z7 := RZ2.out.gcell 7 rfl
  refine wp_region_quiet_below (by kernel_rfl) (by kernel_rfl) ?_
  repeat (go_big_quiet_step ((first | (go_at_call 39; with_reducible exact Calls.regrown_of (C0.out _)) | (go_at_call 19; with_reducible exact Calls.regrown_of (C3.out _)) | (go_at_call 26; with_reducible exact Calls.regrown_of (C4.out _)) | (go_at_call 26; with_reducible exact Calls.regrown_of (C5.out _)) | (go_at_call 21; with_reducible exact Calls.regrown_of (C6.out _)) | (go_at_call 21; with_reducible exact Calls.regrown_of (C7.out _)))))
  refine wpQuiet_nil ?_
  intro _ hw1
  obtain ⟨⟨d1, o1⟩, hw1⟩ := hw1
  subst hw1
  go_wp2_with fail
  go_ret
  exact ⟨rfl, below_step BW2.out (below_regrown _ d1 o1)⟩

end Go.Proofs.Ytpbdmldooehafab
