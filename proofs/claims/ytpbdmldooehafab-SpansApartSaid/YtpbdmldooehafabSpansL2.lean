/- Layer 3: the laws' walks: SpansEncode. -/
import Derived.Test.YtpbdmldooehafabSpansL
namespace Go.Proofs.Ytpbdmldooehafab
set_option linter.unusedVariables false
open Go Go.RowKit
attribute [local go_sem ↓] run_index_S
attribute [local go_sem] S_append S_extract

theorem span_cells {x : M.Sp} {T : TypeId} {w : World} {b : Nat} (h : RowIn #[.int .i64 x.trace, .int .i64 x.id, .int .i64 x.parent, .string (S x.svc), .string (S x.host), .int .i64 x.start, .int .i64 x.dur, .string (S x.note)] T w b) : w.cell? ⟨b, 0, none⟩ = some (.int .i64 x.trace) ∧ w.cell? ⟨b, 1, none⟩ = some (.int .i64 x.id) ∧ w.cell? ⟨b, 2, none⟩ = some (.int .i64 x.parent) ∧ w.cell? ⟨b, 3, none⟩ = some (.string (S x.svc)) ∧ w.cell? ⟨b, 4, none⟩ = some (.string (S x.host)) ∧ w.cell? ⟨b, 5, none⟩ = some (.int .i64 x.start) ∧ w.cell? ⟨b, 6, none⟩ = some (.int .i64 x.dur) ∧ w.cell? ⟨b, 7, none⟩ = some (.string (S x.note)) :=
  ⟨h.cell 0, h.cell 1, h.cell 2, h.cell 3, h.cell 4, h.cell 5, h.cell 6, h.cell 7⟩

def M.greatB (x : M.Sp) : Bool := decide (1000 < x.svc.length) || decide (1000 < x.host.length) || decide (1000 < x.note.length)
theorem M.greatB_false {x : M.Sp} (h : M.greatB x = false) : x.svc.length ≤ 1000 ∧ x.host.length ≤ 1000 ∧ x.note.length ≤ 1000 := by
  simp [M.greatB] at h
  omega

set_option maxHeartbeats 400000 in
theorem great_any (x : M.Sp) (w : World) :
    Calls Try.prog 16 #[.agg #[.int .i64 x.trace, .int .i64 x.id, .int .i64 x.parent, .string (S x.svc), .string (S x.host), .int .i64 x.start, .int .i64 x.dur, .string (S x.note)]] w fun e w' => e = .returned (.bool (M.greatB x)) ∧ Below w.heap.size w w' := by
  by_cases h1 : 1000 < x.svc.length
  · have hm : M.greatB x = true := by simp [M.greatB, h1]
    have d1 : decide (1000 < (x.svc.length : Int)) = true := by simp; omega
    rw [hm]
    go_enter Try.func16, Try.ntmps16
    go_wp2_with fail
    go_ret
    exact ⟨rfl, (Below.refl _ _).alloc (Nat.le_refl _) _⟩
  · have d1 : decide (1000 < (x.svc.length : Int)) = false := by simp; omega
    by_cases h2 : 1000 < x.host.length
    · have hm : M.greatB x = true := by simp [M.greatB, h2]
      have d2 : decide (1000 < (x.host.length : Int)) = true := by simp; omega
      rw [hm]
      go_enter Try.func16, Try.ntmps16
      go_wp2_with fail
      go_ret
      exact ⟨rfl, (Below.refl _ _).alloc (Nat.le_refl _) _⟩
    · have d2 : decide (1000 < (x.host.length : Int)) = false := by simp; omega
      by_cases h3 : 1000 < x.note.length
      · have hm : M.greatB x = true := by simp [M.greatB, h3]
        have d3 : decide (1000 < (x.note.length : Int)) = true := by simp; omega
        rw [hm]
        go_enter Try.func16, Try.ntmps16
        go_wp2_with fail
        go_ret
        exact ⟨rfl, (Below.refl _ _).alloc (Nat.le_refl _) _⟩
      · have hm : M.greatB x = false := by simp [M.greatB, h1, h2, h3]
        have d3 : decide (1000 < (x.note.length : Int)) = false := by simp; omega
        rw [hm]
        go_enter Try.func16, Try.ntmps16
        go_wp2_with fail
        go_ret
        exact ⟨rfl, (Below.refl _ _).alloc (Nat.le_refl _) _⟩

set_option maxHeartbeats 1000000 in
theorem spansEncode_calls (u : Value) (hu : USp u) (w : World) :
    Calls Try.prog 5 #[u] w fun e w' => e = .returned (.bool true) ∧ Below w.heap.size w w' := by
  obtain ⟨x, rfl, hx⟩ := hu
  have cg := fun W => great_any x W
  cases hg : M.greatB x with
  | true =>
    rw [hg] at cg
    have CG := Lib.hid cg
    clear cg hg
    go_enter Try.func5, Try.ntmps5
    go_wp2_with fail
    with_reducible refine (CG.out _).mono ?_
    rintro e w1 ⟨rfl, hb1⟩
    go_wp2_with fail
    go_ret
    exact ⟨rfl, below_step ((Below.refl _ _).alloc (Nat.le_refl _) _) hb1⟩
  | false =>
    rw [hg] at cg
    obtain ⟨g1, g2, g3⟩ := M.greatB_false hg
    have hf := hx.fits g1 g2 g3
    have CG := Lib.hid cg
    have c1 := fun W => encode_any x hf W
    have c2 := fun W => refEncode_any x hf W
    have c3 := fun W => check_any x hf W
    have c4 := fun W => refCheck_any x hf W
    have c5 : ∀ W, Calls Try.prog 21 #[.string (S x.svc)] W fun e w' => e = .returned (.bool (M.nameB x.svc)) ∧ Below W.heap.size W w' := fun W => (name_any x.svc (by omega) W).mono fun e w' ⟨he, hw⟩ => ⟨he, hw ▸ Below.refl _ _⟩
    have c6 : ∀ W, Calls Try.prog 22 #[.string (S x.svc)] W fun e w' => e = .returned (.bool (M.nameB x.svc)) ∧ Below W.heap.size W w' := fun W => (refName_any x.svc (by omega) W).mono fun e w' ⟨he, hw⟩ => ⟨he, hw ▸ Below.refl _ _⟩
    have c7 : ∀ W, Calls Try.prog 21 #[.string (S x.note)] W fun e w' => e = .returned (.bool (M.nameB x.note)) ∧ Below W.heap.size W w' := fun W => (name_any x.note (by omega) W).mono fun e w' ⟨he, hw⟩ => ⟨he, hw ▸ Below.refl _ _⟩
    have c8 : ∀ W, Calls Try.prog 22 #[.string (S x.note)] W fun e w' => e = .returned (.bool (M.nameB x.note)) ∧ Below W.heap.size W w' := fun W => (refName_any x.note (by omega) W).mono fun e w' ⟨he, hw⟩ => ⟨he, hw ▸ Below.refl _ _⟩
    generalize (if M.mayB x = true then M.enc x else []) = q at *
    generalize M.errOf (M.mayB x) = n at *
    generalize M.nameB x.svc = p1 at *
    generalize M.nameB x.note = p2 at *
    have C1 := Lib.hid c1
    have C2 := Lib.hid c2
    have C3 := Lib.hid c3
    have C4 := Lib.hid c4
    have C5 := Lib.hid c5
    have C6 := Lib.hid c6
    have C7 := Lib.hid c7
    have C8 := Lib.hid c8
    clear c1 c2 c3 c4 c5 c6 c7 c8 cg hg
    have rx := rowIn_new #[.int .i64 x.trace, .int .i64 x.id, .int .i64 x.parent, .string (S x.svc), .string (S x.host), .int .i64 x.start, .int .i64 x.dur, .string (S x.note)] 30 w
    have RX := Lib.hid rx
    clear rx
    go_enter Try.func5, Try.ntmps5
    go_wp2_with fail
    with_reducible refine (CG.out _).mono ?_
    rintro e w1 ⟨rfl, hb1⟩
    have RX1 := Lib.hid (RX.out.below hb1)
    have BW1 := Lib.hid (below_step ((Below.refl w.heap.size w).alloc (Nat.le_refl _) _) hb1)
    clear hb1
    obtain ⟨x0, x1, x2, x3, x4, x5, x6, x7⟩ := span_cells RX1.out
    go_wp2_with fail
    with_reducible refine (C1.out _).mono ?_
    rintro e w2 ⟨rfl, hb2⟩
    clear x0 x1 x2 x3 x4 x5 x6 x7
    have RX2 := Lib.hid (RX1.out.below hb2)
    have BW2 := Lib.hid (below_step BW1.out hb2)
    clear hb2
    obtain ⟨x0, x1, x2, x3, x4, x5, x6, x7⟩ := span_cells RX2.out
    go_wp2_with fail
    with_reducible refine (C2.out _).mono ?_
    rintro e w3 ⟨rfl, hb3⟩
    clear x0 x1 x2 x3 x4 x5 x6 x7
    have RX3 := Lib.hid (RX2.out.below hb3)
    have BW3 := Lib.hid (below_step BW2.out hb3)
    clear hb3
    go_wp2_with fail
    have x0 := RX3.out.gcell 0 rfl
    have x1 := RX3.out.gcell 1 rfl
    have x2 := RX3.out.gcell 2 rfl
    have x3 := RX3.out.gcell 3 rfl
    have x4 := RX3.out.gcell 4 rfl
    have x5 := RX3.out.gcell 5 rfl
    have x6 := RX3.out.gcell 6 rfl
    have x7 := RX3.out.gcell 7 rfl
    refine wp_region_quiet_below (by kernel_rfl) (by kernel_rfl) ?_
    repeat (go_big_quiet_step ((first | (go_at_call 19; with_reducible exact Calls.regrown_of (C3.out _)) | (go_at_call 20; with_reducible exact Calls.regrown_of (C4.out _)) | (go_at_call 21; with_reducible exact Calls.regrown_of (C5.out _)) | (go_at_call 22; with_reducible exact Calls.regrown_of (C6.out _)) | (go_at_call 21; with_reducible exact Calls.regrown_of (C7.out _)) | (go_at_call 22; with_reducible exact Calls.regrown_of (C8.out _)) | (go_at_call 23; with_reducible exact Calls.regrown_of (does3 _)))))
    refine wpQuiet_nil ?_
    intro _ hw1
    obtain ⟨⟨d1, d1o⟩, hw1⟩ := hw1
    subst hw1
    go_wp2_with fail
    go_ret
    exact ⟨rfl, below_step BW3.out (below_regrown _ d1 d1o)⟩

end Go.Proofs.Ytpbdmldooehafab
