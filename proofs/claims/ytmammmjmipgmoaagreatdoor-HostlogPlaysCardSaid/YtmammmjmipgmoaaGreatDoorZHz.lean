import Derived.Test.YtmammmjmipgmoaaGreatDoorZHt
import Derived.Test.YtmammmjmipgmoaaGreatDoorZW
import Derived.Test.YtmammmjmipgmoaaGreatDoorZQh
set_option linter.unusedVariables false
set_option maxRecDepth 100000
set_option maxHeartbeats 16000000
namespace Go.Proofs.YtmammmjmipgmoaaGreatDoor
open Go Go.RowKit Go.Maps
namespace Hl
theorem open_again {F : Nat} {Z : List Sg} {G : Lg} {D : Dk.St} (h : Lv F Z G D) : openR Z [] D = (0, D) := by
 unfold openR;rw [if_neg (by rw [h.up]; simp)];show Dk.next_ (Dk.clear nD D) (Dk.run [mendT _ (decide (([] : List UInt8) ≠ []))]) = _
 unfold Dk.clear;rw [if_neg (by rw [nod_of h.hz h.len]; simp), Dk.next_zero, Jcd];rfl
end Hl
section
open Hl
variable {w0 w w' : World} {b b' d : Nat} {D : Dk.St} {G : Lg} {no so : Option Addr} {nl : List (List UInt8)} {sl : List Int} {F : Nat} {Z : List Sg}
end
end Go.Proofs.YtmammmjmipgmoaaGreatDoor
