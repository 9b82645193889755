/- Layer 2: the law's walk, SumsRoll: an array of two bytes comes in. -/
import Derived.Test.YtpbdmldooehafaaSumsL2
import Derived.ProofKit
import Derived.OpenShut
import Derived.Lib.SmallJoins
namespace Go.Proofs.Ytpbdmldooehafaa
set_option linter.unusedVariables false
open Go Go.RowKit
attribute [local go_sem ↓] run_index_S
attribute [local go_sem] S_append S_extract

theorem i64_range {n : Int} (h : (Lit.int .i64 n).wf = true) : -9223372036854775808 ≤ n ∧ n ≤ 9223372036854775807 := by
  simp [Lit.wf, IntKind.min, IntKind.max, IntKind.signed, IntKind.bits] at h
  omega

/-- Two bytes by value. -/
def U8x2 (v : Value) : Prop := ∃ x y : Int, v = .agg #[.int .u8 x, .int .u8 y] ∧ (0 ≤ x ∧ x ≤ 255) ∧ (0 ≤ y ∧ y ≤ 255)

theorem open_u8x2 {H : Type} {enc : TypeId × Value → H} {W : World} {r : Reach} {b0 : Nat} {v : Value} {d : DataW H} {p : List MemPlace}
    (hv : Value.okWide Try.prog W r b0 41 v) (h : DataW.Trod enc Try.prog W 0 (fun _ => true) true 41 v d p) : U8x2 v := by
  simp only [Value.okWide, Try.underlying41] at hv
  obtain ⟨cs, rfl, hsz, _⟩ := hv
  obtain ⟨fuel, hf⟩ := h
  have c41 : Try.prog.cellsOf 41 = 2 := by kernel_rfl
  have c5 : Try.prog.cellsOf 5 = 1 := by kernel_rfl
  obtain ⟨c0, c1, rfl⟩ := Joins.array2 (hsz.trans c41)
  obtain ⟨xs, m, _, _, _, hn, hel⟩ := DataW.trod_array Try.underlying41 hf
  have h0 := hel 0 (by decide)
  have h1 := hel 1 (by decide)
  rw [c5] at h0 h1
  obtain ⟨x0, hx0⟩ : ∃ x, xs[0]? = some x := ⟨xs[0], by simp [hn]⟩
  obtain ⟨x1, hx1⟩ : ∃ x, xs[1]? = some x := ⟨xs[1], by simp [hn]⟩
  rw [hx0] at h0
  rw [hx1] at h1
  obtain ⟨a, e0, _, w0⟩ := DataW.trod_int Try.underlying5 h0
  obtain ⟨b, e1, _, w1⟩ := DataW.trod_int Try.underlying5 h1
  simp [Value.cells] at e0 e1
  exact ⟨a, b, by rw [e0, e1], u8_range w0, u8_range w1⟩

set_option maxHeartbeats 1000000 in
set_option maxRecDepth 100000 in
theorem sumsRoll_calls (s : Int) (ws : (Lit.int .u32 s).wf = true) (n : Int) (wn : (Lit.int .i64 n).wf = true) (v : Value) (hv : U8x2 v) (w : World) :
    Calls Try.prog 11 #[.int .u32 s, .int .i64 n, v] w fun e w' => e = .returned (.bool true) ∧ Below w.heap.size w w' := by
  obtain ⟨x, y, rfl, hx, hy⟩ := hv
  have hs := u32_range ws
  have hn := i64_range wn
  obtain ⟨t, rfl⟩ := Int.eq_ofNat_of_zero_le hs.1
  have ht : t < 4294967296 := by omega
  have c1 := fun W => roll_any t ht n hn x y hx hy W
  have c2 : ∀ W, Calls Try.prog 34 #[.int .u32 t, .int .i64 n, .int .u8 x, .int .u8 y] W fun e w' => e = .returned (.int .u32 (rollS t n x y)) ∧ Below W.heap.size W w' := fun W => (refRoll_any t ht n hn x y hx hy W).mono fun e w' ⟨he, hw⟩ => ⟨he, hw ▸ Below.refl _ _⟩
  have c3 := fun W => bytes_any t ht W
  have c4 := fun W => refBytes_any t ht W
  generalize rollS t n x y = r at *
  generalize M.big 4 t = q at *
  have C1 := Lib.hid c1
  have C2 := Lib.hid c2
  have C3 := Lib.hid c3
  have C4 := Lib.hid c4
  have g0 : ∀ d os, (Sort.grow (redrawn (w.alloc (.cells #[.int .u8 x, .int .u8 y] 41)) d) os).cell? ⟨w.heap.size, 0, none⟩ = some (.int .u8 x) := fun d os => cell_regrown (by rw [cell_new]; rfl) d os
  have g1 : ∀ d os, (Sort.grow (redrawn (w.alloc (.cells #[.int .u8 x, .int .u8 y] 41)) d) os).cell? ⟨w.heap.size, 1, none⟩ = some (.int .u8 y) := fun d os => cell_regrown (by rw [cell_new]; rfl) d os
  clear c1 c2 c3 c4
  go_enter Try.func11, Try.ntmps11
  go_wp2_with fail
  refine wp_region_quiet_below (by kernel_rfl) (by kernel_rfl) ?_
  repeat (any_goals (first | go_big_quiet_step ((first | (go_at_call 33; exact Calls.regrown_of (C1.out _)) | (go_at_call 34; exact Calls.regrown_of (C2.out _)) | (go_at_call 35; exact Calls.regrown_of (C3.out _)) | (go_at_call 36; exact Calls.regrown_of (C4.out _)) | (go_at_call 32; exact Calls.regrown_of (does2 _)))) | quiet_step ((first | (go_at_call 33; exact Calls.regrown_of (C1.out _)) | (go_at_call 34; exact Calls.regrown_of (C2.out _)) | (go_at_call 35; exact Calls.regrown_of (C3.out _)) | (go_at_call 36; exact Calls.regrown_of (C4.out _)) | (go_at_call 32; exact Calls.regrown_of (does2 _))))))
  refine wpQuiet_nil ?_
  intro _ hw1
  obtain ⟨⟨d1, o1⟩, hw1⟩ := hw1
  subst hw1
  go_wp2_with fail
  go_ret
  exact ⟨rfl, below_step ((Below.refl _ _).alloc (Nat.le_refl _) _) (below_regrown _ d1 o1)⟩

end Go.Proofs.Ytpbdmldooehafaa
