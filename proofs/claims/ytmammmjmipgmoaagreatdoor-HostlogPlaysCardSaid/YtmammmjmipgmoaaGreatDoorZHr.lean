import Derived.Test.YtmammmjmipgmoaaGreatDoorRows
import Derived.Test.YtmammmjmipgmoaaGreatDoorZM
import Derived.Lib.LaidTab
import Derived.Stop.LaidErr
import Derived.LaidMore
import Derived.MakeChecks
import Derived.Test.YtmammmjmipgmoaaGreatDoorZQh
set_option linter.unusedVariables false
set_option maxRecDepth 100000
set_option maxHeartbeats 16000000
namespace Go.Proofs.YtmammmjmipgmoaaGreatDoor
open Go Go.RowKit
def laid6 : List (String × DataW Unit) := Rows.hostlogNoneRow.laid
theorem Jo1 : laid6 = [("math/bits.deBruijn32tab", Rows.laid_math_bits_deBruijn32tab), ("math/bits.deBruijn64tab", Rows.laid_math_bits_deBruijn64tab), ("internal/strconv.uint64pow10", Lib.tabData .u64 Lib.pow10Tab), ("strconv.ErrRange", Rows.laid_strconv_ErrRange), ("strconv.ErrSyntax", Rows.laid_strconv_ErrSyntax)] := by kernel_rfl
theorem gES6 : Tryz.prog.globalNamed "strconv.ErrSyntax" = some 0 := by kernel_rfl
theorem gER6 : Tryz.prog.globalNamed "strconv.ErrRange" = some 1 := by kernel_rfl
theorem star6 : "*" ++ "errors.errorString" = "*errors.errorString" := by decide
theorem Jks (u : TypeId) (h : Tryz.prog.typeName? 3 u = some "*errors.errorString") : u = 244 :=
 typeName_ptr_named (nm := "errors.errorString") (by rw [star6]; kernel_rfl) (by kernel_rfl) (by decide) u (by rw [star6]; exact h)
theorem vr_of_laid {W : World} (h : laidMetH Tryz.prog laid6 W) : Vr W := by
 rw [MakeChecks.laidMetH_plain _ _ _ (by kernel_rfl), Jo1] at h;have h3 := h.tail.tail;have h4 := h3.tail;have h5 := h4.tail;refine ⟨?_, ?_, ?_⟩
 ·exact Lib.tabIs_of_head Ji3 (by kernel_rfl) Tryz.underlying240 Tryz.underlying185 (by kernel_rfl) (by kernel_rfl) h3
 ·obtain ⟨a, s, hv, -⟩ := laid_sentinel h5 gES6 (show (Tryz.prog.globals[0]?).map (·.type) = some 179 by kernel_rfl) Tryz.underlying179 Jks Tryz.underlying244 Tryz.underlying246 rfl rfl Tryz.underlying9 (by kernel_rfl) (by kernel_rfl)
  exact ⟨_, _, by have := World.var?_cell gES6 hv 0; simpa using this⟩
 ·obtain ⟨a, s, hv, -⟩ := laid_sentinel h4 gER6 (show (Tryz.prog.globals[1]?).map (·.type) = some 179 by kernel_rfl) Tryz.underlying179 Jks Tryz.underlying244 Tryz.underlying246 rfl rfl Tryz.underlying9 (by kernel_rfl) (by kernel_rfl)
  exact ⟨_, _, by have := World.var?_cell gER6 hv 0; simpa using this⟩
theorem door_met6 (os : Os) (args : Array Value) : laidMetH Tryz.prog laid6 ((World.doorLaid Tryz.prog 400 os).forCall (fun _ _ => 0) ⟨#[], args, []⟩).memory :=
 laidMetH_of_parts3 (fuel := 8) (laidMet_of_run' 8 (by kernel_rfl) (by kernel_rfl)) (by kernel_rfl) (by kernel_rfl)
end Go.Proofs.YtmammmjmipgmoaaGreatDoor
