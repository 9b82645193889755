/- Layer 3: the chapter's examples (spoorlaw03.does) come out true. -/
import Derived.Test.YtblgfhljaafmhaaSpansR2
namespace Go.Proofs.Ytblgfhljaafmhaa
set_option linter.unusedVariables false
open Go Go.RowKit
attribute [local go_sem ↓] run_index_S
attribute [local go_sem] S_append S_extract

def sx : M.Sp := { trace := 300, id := 2, parent := 1, svc := [97, 112, 105], host := [104, 49], start := 5, dur := 0, note := [111, 107] }
def sy : M.Sp := { trace := 300, id := 0, parent := 1, svc := [97, 112, 105], host := [104, 49], start := 5, dur := 0, note := [111, 107] }
def sz : M.Sp := { trace := 300, id := 3, parent := 1, svc := [97, 112, 105], host := [104, 49], start := 5, dur := 0, note := [111, 107] }
theorem sx_fits : sx.fits := by constructor <;> decide
theorem sy_fits : sy.fits := by constructor <;> decide
theorem sz_fits : sz.fits := by constructor <;> decide
theorem sx_may : M.mayB sx = true := by decide
theorem sy_may : M.mayB sy = false := by decide
theorem sx_enc : M.enc sx = [130, 44, 2, 1, 5, 0, 3, 97, 112, 105, 2, 104, 49, 2, 111, 107] := by decide
theorem sx_dec : M.dec [130, 44, 2, 1, 5, 0, 3, 97, 112, 105, 2, 104, 49, 2, 111, 107] = some sx := by rfl
theorem sx_less : M.lessB sx sz = true := by decide
theorem sz_less : M.lessB sz sx = false := by decide
theorem n_ab : M.nameB [97, 32, 98] = false := by decide
theorem n_a_b : M.nameB [97, 45, 98] = true := by decide

theorem RowIn.grown {C : Array Value} {T : TypeId} {w : World} {b : Nat} (h : RowIn C T w b) (d : Nat) (os : Array Obj) : RowIn C T (Sort.grow (redrawn w d) os) b := h.below (below_regrown w d os)
theorem RowIn.gcell {C : Array Value} {T : TypeId} {w : World} {b : Nat} (h : RowIn C T w b) (j : Nat) {v : Value} (hv : C[j]? = some v) (d : Nat) (os : Array Obj) : (Sort.grow (redrawn w d) os).cell? ⟨b, j, none⟩ = some v := ((h.grown d os).cell j).trans hv

end Go.Proofs.Ytblgfhljaafmhaa
