/- Layer 16: First, give, by contracts. -/
import Derived.Test.YtfcmjgcjmldpcaaEditsH
namespace Go.Proofs.Ytfcmjgcjmldpcaa
set_option linter.unusedVariables false
set_option linter.unusedSimpArgs false
open Go Go.RowKit
attribute [local go_sem ↓] run_index_S
attribute [local go_sem] S_append S_extract

theorem load_st {C : Array Value} (hC : C.size = 3) {w : World} {g : Nat} (h : BkIn C 24 w g) : (loadVar 24 ⟨g, 0, none⟩).run Try.prog w = .ok (.agg C) w :=
  run_loadVar_row w g _ _ C (0, 0) _ h Try.underlying24 rfl (by rw [hC]; kernel_rfl)
theorem ret_st1 {fn : Func} {p : Tmp} {T : TypeId} {v : Value} (hr : fn.results = #[.cell p T]) (tmps : Array Value) (w : World) (g : Nat) (hp : tmps.getD p undef = .pointer (some ⟨g, 0, none⟩)) (hl : (loadVar T ⟨g, 0, none⟩).run Try.prog w = .ok v w) :
    (results fn tmps).run Try.prog w = .ok v w := by
  have hp' : tmps[p]?.getD undef = .pointer (some ⟨g, 0, none⟩) := by simpa using hp
  simp [results, hr, hp', asAddr, hl]
theorem ret_st2 {fn : Func} {p q : Tmp} {T : TypeId} {v : Value} (hr : fn.results = #[.cell p T, .tmp q]) (tmps : Array Value) (w : World) (g : Nat) (hp : tmps.getD p undef = .pointer (some ⟨g, 0, none⟩)) (hl : (loadVar T ⟨g, 0, none⟩).run Try.prog w = .ok v w) :
    (results fn tmps).run Try.prog w = .ok (.tuple #[v, tmps.getD q undef]) w := by
  have hp' : tmps[p]?.getD undef = .pointer (some ⟨g, 0, none⟩) := by simpa using hp
  simp [results, hr, hp', asAddr, hl]
set_option maxHeartbeats 2000000 in
theorem first16_any (w : World) : Calls Try.prog 22 #[] w fun e w' => (∃ ao cap, e = .returned (stV ao 1 cap 1 2) ∧ TbsAt w' ao [rt0]) ∧ Below w.heap.size w w' := by
  unfold stV
  go_enter Try.func22, Try.ntmps22
  go_wp2_with fail
  have hb := bel_two w (.cells #[.slice (some ⟨w.heap.size + 1, 0, none⟩) 1 1, .int .i64 1, .int .i64 2] 24) (.cells #[.string ⟨#[]⟩, .slice none 0 0] 41)
  have hS := (bkIn_new #[.slice (some ⟨w.heap.size + 1, 0, none⟩) 1 1, .int .i64 1, .int .i64 2] 24 w).below ((Below.refl _ _).alloc (Nat.le_refl _) (.cells #[.string ⟨#[]⟩, .slice none 0 0] 41))
  have hT := bkIn_new #[.string ⟨#[]⟩, .slice none 0 0] 41 (w.alloc (.cells #[.slice (some ⟨w.heap.size + 1, 0, none⟩) 1 1, .int .i64 1, .int .i64 2] 24))
  have e1 : (w.alloc (.cells #[.slice (some ⟨w.heap.size + 1, 0, none⟩) 1 1, .int .i64 1, .int .i64 2] 24)).heap.size = w.heap.size + 1 := by simp
  rw [e1] at hT
  refine bodyPost_ret (ret_st1 rfl _ _ w.heap.size rfl (load_st rfl hS)) rfl ⟨⟨_, _, rfl, fun _ => ⟨_, 0, rfl, fun j hj => ?_⟩⟩, hb⟩
  have : j = 0 := by simp at hj; exact hj
  subst this
  exact ⟨hT.cell 0, hT.cell 1, nsAt_nil _ _⟩

end Go.Proofs.Ytfcmjgcjmldpcaa
