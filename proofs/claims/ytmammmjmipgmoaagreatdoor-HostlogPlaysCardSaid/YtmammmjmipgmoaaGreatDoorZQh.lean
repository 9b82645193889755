/- Texts of lower layers, as one. -/
import Derived.Lib.Hide
import Derived.Below
/- Short names for what hides a fact, and shows it. -/
namespace Go.RowKit
theorem Hid.o {p : Prop} (h : Hid p) : p := h.out
end Go.RowKit
namespace Go.Proofs.YtmammmjmipgmoaaGreatDoor
open Go Go.RowKit
theorem Qh {p : Prop} (h : p) : Hid p := Lib.hid h
theorem Qa {w : World} (o : Obj) : Below w.heap.size w (w.alloc o) := (Below.refl _ _).alloc (Nat.le_refl _) o

end Go.Proofs.YtmammmjmipgmoaaGreatDoor
