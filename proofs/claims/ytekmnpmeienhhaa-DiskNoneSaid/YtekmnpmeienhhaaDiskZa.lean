/- Layer 5: an act with a disk that is none. -/
import Derived.Test.YtekmnpmeienhhaaDiskZ
namespace Go.Proofs.Ytekmnpmeienhhaa
set_option linter.unusedVariables false
open Go Go.RowKit Go.Maps

set_option maxRecDepth 100000 in
set_option maxHeartbeats 4000000 in
theorem doneN {w : World} {p : Option Addr} (h : NoDk w p) (kd : Int) (hkd : 0 ≤ kd ∧ kd ≤ 255) (r : Ra) : Calls Try.prog 20 #[.pointer p, .agg #[.int .u8 kd, .string (S r.name), .string (S r.other), .string (S r.data), .int .i64 r.n, .slice r.o r.keep.length r.k]] w (RetN (.int .i64 1) w) := by
  have hb := (Below.refl w.heap.size w).alloc (Nat.le_refl _) (.cells #[.int .u8 kd, .string (S r.name), .string (S r.other), .string (S r.data), .int .i64 r.n, .slice r.o r.keep.length r.k] 34)
  have h' := h.below hb
  have FIN := Lib.hid (fun (e : Ending) (w2 : World) (hr : RetN (.int .i64 1) (w.alloc (.cells #[.int .u8 kd, .string (S r.name), .string (S r.other), .string (S r.data), .int .i64 r.n, .slice r.o r.keep.length r.k] 34)) e w2) => (show RetN (.int .i64 1) w e w2 from ⟨hr.1, below_step hb hr.2⟩))
  have C1 := Lib.hid (syncN h' r.name)
  have C2 := Lib.hid (renameN h' r.name r.other)
  have C3 := Lib.hid (removeN h' r.name)
  have C4 := Lib.hid (crashN h' (.slice r.o r.keep.length r.k))
  have C5 := Lib.hid (startN h')
  have C6 := Lib.hid (failN h' r.n (.slice r.o r.keep.length r.k))
  have C7 := Lib.hid (appendN h' r.name r.data)
  clear h h' hb
  obtain ⟨m, hm, hlt⟩ : ∃ m : Nat, kd % 12 = (m : Int) ∧ m < 12 := ⟨(kd % 12).toNat, by omega, by omega⟩
  have hcs : m = 0 ∨ m = 1 ∨ m = 2 ∨ m = 3 ∨ m = 4 ∨ m = 5 ∨ m = 6 ∨ m = 7 ∨ m = 8 ∨ m = 9 ∨ m = 10 ∨ m = 11 := by omega
  clear hlt
  rcases hcs with rfl | rfl | rfl | rfl | rfl | rfl | rfl | rfl | rfl | rfl | rfl | rfl
  all_goals
    go_enter Try.func20, Try.ntmps20
    go_wp2_with fail
    with_reducible first
      | refine C1.out.mono ?_
      | refine C2.out.mono ?_
      | refine C3.out.mono ?_
      | refine C4.out.mono ?_
      | refine C5.out.mono ?_
      | refine C6.out.mono ?_
      | refine C7.out.mono ?_
    rintro e w2 hR
    have HR := Lib.hid (FIN.out _ _ hR)
    obtain ⟨rfl, -⟩ := hR
    go_wp2_with fail
    go_ret
    exact HR.out

end Go.Proofs.Ytekmnpmeienhhaa
