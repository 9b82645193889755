import Derived.Test.YtmammmjmipgmoaaGreatDoorZV
import Derived.Deep.CutRange
import Derived.BigQuiet
import Derived.Test.YtmammmjmipgmoaaGreatDoorZQh
set_option linter.unusedVariables false
set_option maxRecDepth 100000
set_option maxHeartbeats 16000000
namespace Go.Proofs.YtmammmjmipgmoaaGreatDoor
section
open Go Go.RowKit Go.Maps
namespace Dk
theorem crash_up (ks : List Int) {D : St} (h : D.up = true) : crash ks D = (0, fall ks D) := by unfold crash; rw [h]; rfl
theorem crash_down (ks : List Int) {D : St} (h : D.up = false) : crash ks D = (51, D) := by unfold crash; rw [h]; rfl
def woke (D : St) : St := { D with up := true, starts := D.starts + 1 }
theorem start_down {D : St} (h : D.up = false) : start D = (0, woke D) := by unfold start; rw [h]; rfl
end Dk
def NsK (P : Nat → Prop) (w : World) (ao : Option Addr) (l : List Int) : Prop := NsA5 w ao l ∧ ∀ a, l ≠ [] → ao = some a → P a.block
section
variable {P P' A : Nat → Prop} {w w' : World} {ao : Option Addr}
end
theorem Jgl {w : World} {B : Nat} {ao : Option Addr} {cap : Nat} {l : List Int} (h : w.ownsRow B 3 1 (.slice ao l.length cap) l.length (Jap l)) : NsK (fun q => B ≤ q ∧ q < w.heap.size) w ao l :=
 ⟨fun hn => by
  have hl : 0 < l.length := List.length_pos_iff.2 hn;obtain ⟨g, e, _, _, _⟩ := Jck h hl;refine ⟨g, 0, e, fun j hj => ?_⟩;obtain ⟨g', e', _, _, hc⟩ := Jck h hj;rw [e] at e';injection e' with e'
  injection e' with e'
  subst e';rw [Nat.zero_add, hc]
  simp [Jap, List.getD, hj], fun a hn ha => by have := h.lt a.block (by rw [ha]; rfl); exact this⟩
section
variable {P A : Nat → Prop} {L : List Dk.Fl} {ks : List Int} {no lo ao ko : Option Addr} {w w' : World}
end
end
section
open Go Go.RowKit Go.Maps
namespace Dk
theorem struck_no {B : St} (h : B.set = none) : struck B = (false, B) := by unfold struck; rw [h]
end Dk
section
variable {P P' X : Nat → Prop} {B a b : Nat} {Da Db : Dk.St} {w w' : World}
end
end
end Go.Proofs.YtmammmjmipgmoaaGreatDoor
