/- Layer 19: what comes in: what a tablet is made of. -/
import Derived.Test.YtnhljlmelbiljaaGreatZS
import Derived.WideShapes
import Derived.OpenShut
namespace Go.Proofs.YtnhljlmelbiljaaGreat
set_option linter.unusedVariables false
set_option linter.unusedSimpArgs false
open Go Go.RowKit

/-- What a tablet is made of: its stretch, memory's cells, tables' cells. -/
structure M.Da where
  f : List UInt8
  t : List UInt8
  L : List M.Cl
  Lo : Option Addr
  Lk : Nat
  R : List M.Rw
  Ro : Option Addr
  Rk : Nat
def daV (x : M.Da) : Array Value := #[.string (S x.f), .string (S x.t), .slice x.Lo x.L.length x.Lk, .slice x.Ro x.R.length x.Rk]
structure DaIn (x : M.Da) : Prop where
  f : x.f.length ≤ 9223372036854775807
  t : x.t.length ≤ 9223372036854775807
  ln : x.L.length ≤ 9223372036854775807
  li : ∀ c ∈ x.L, c.ints
  rn : x.R.length ≤ 9223372036854775807
  ri : ∀ r, r ∈ x.R → RwIn r
structure DaAt (W : World) (x : M.Da) : Prop where
  l : ClsAt W x.Lo x.L
  r : RwsAt W x.Ro x.R
theorem DaAt.below {w w' : World} {x : M.Da} (h : DaAt w x) (hb : Below w.heap.size w w') : DaAt w' x := ⟨h.l.below hb, h.r.below hb⟩
def UDa (W : World) (v : Value) : Prop := ∃ x : M.Da, v = .agg (daV x) ∧ DaIn x ∧ DaAt W x
section
variable {H : Type} {enc : TypeId × Value → H} {W : World} {fuel : Nat} {cs : List Value} {x : DataW H × List MemPlace} {sp : Nat → Bool} {hd : Bool} {r : Reach} {b0 : Nat} {v : Value} {d : DataW H} {p : List MemPlace}
end

end Go.Proofs.YtnhljlmelbiljaaGreat
