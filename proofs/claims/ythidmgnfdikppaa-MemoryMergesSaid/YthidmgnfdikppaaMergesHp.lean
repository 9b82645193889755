/- Layer 11: All and Newest of rows whose merge is named, by contracts; two rows. -/
import Derived.Test.YthidmgnfdikppaaMergesW
import Derived.Test.YthidmgnfdikppaaMergesU
namespace Go.Proofs.Ythidmgnfdikppaa
set_option linter.unusedVariables false
open Go Go.RowKit
attribute [local go_sem ↓] run_index_S
attribute [local go_sem] S_append S_extract

theorem rwsAt_two {w : World} {r : Nat} {o1 o2 : Option Addr} {l1 l2 : List M.Cl} {k1 k2 : Nat} (h : RowIn #[.slice o1 l1.length k1, .slice o2 l2.length k2] 22 w r) (h1 : ClsAt w o1 l1) (h2 : ClsAt w o2 l2) : RwsAt w (some ⟨r, 0, none⟩) [⟨l1, o1, k1⟩, ⟨l2, o2, k2⟩] := fun _ =>
  ⟨r, 0, rfl, fun j hj => by
    match j, hj with
    | 0, _ => exact ⟨h.cell 0, h1⟩
    | 1, _ => exact ⟨h.cell 1, h2⟩
    | j + 2, hj => simp at hj; omega⟩
theorem allL11 (Rs : List M.Rw) (hR : RsOk Rs) (hm : M.mayR Rs = true) (ao : Option Addr) (cap : Nat) (w : World) (h : RwsAt w ao Rs) (K : List M.Cl) (hK : M.mrg (M.rls Rs) = K) (n : Nat) (hn : Rs.length = n) :
    Calls Try.prog 41 #[.slice ao n cap] w fun e w' => ∃ a c, e = .returned (.tuple #[.slice a K.length c, .int .i64 0]) ∧ ClsAt w' a K ∧ Below w.heap.size w w' := by
  subst hn
  refine (all11_any Rs hR ao cap w h).mono ?_
  rintro e w' ⟨a, c, e1, h1, h2⟩
  rw [if_pos hm, id, hK] at e1 h1
  rw [if_pos hm] at e1
  exact ⟨a, c, e1, clsAt_own h1 rfl, h2⟩
theorem newL11 (Rs : List M.Rw) (hR : RsOk Rs) (hm : M.mayR Rs = true) (ao : Option Addr) (cap : Nat) (w : World) (h : RwsAt w ao Rs) (K : List M.Cl) (hK : M.nw (M.mrg (M.rls Rs)) = K) (n : Nat) (hn : Rs.length = n) :
    Calls Try.prog 43 #[.slice ao n cap] w fun e w' => ∃ a c, e = .returned (.tuple #[.slice a K.length c, .int .i64 0]) ∧ ClsAt w' a K ∧ Below w.heap.size w w' := by
  subst hn
  refine (newest11_any Rs hR ao cap w h).mono ?_
  rintro e w' ⟨a, c, e1, h1, h2⟩
  rw [if_pos hm, hK] at e1 h1
  rw [if_pos hm] at e1
  exact ⟨a, c, e1, clsAt_own h1 rfl, h2⟩
theorem rsOk_two {l1 l2 : List M.Cl} {o1 o2 : Option Addr} {k1 k2 : Nat} (h1 : l1.length ≤ 1000) (h2 : l2.length ≤ 1000) (h3 : ∀ c, c ∈ l1 → ClOk c) (h4 : ∀ c, c ∈ l2 → ClOk c) : RsOk [⟨l1, o1, k1⟩, ⟨l2, o2, k2⟩] := by
  refine ⟨by simp, fun r hr => ?_, fun r hr => ?_, ?_⟩
  · simp only [List.mem_cons, List.not_mem_nil, or_false] at hr
    rcases hr with rfl | rfl
    · show l1.length ≤ _; omega
    · show l2.length ≤ _; omega
  · simp only [List.mem_cons, List.not_mem_nil, or_false] at hr
    rcases hr with rfl | rfl
    · exact h3
    · exact h4
  · simp; omega

end Go.Proofs.Ythidmgnfdikppaa
