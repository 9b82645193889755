/- Layer 9: BlocksFind, walked. -/
import Derived.Test.YtppkecilbkgbdaaBlocksV
namespace Go.Proofs.Ytppkecilbkgbdaa
set_option linter.unusedVariables false
open Go Go.RowKit
attribute [local go_sem ↓] run_index_S
attribute [local go_sem] S_append S_extract

set_option maxHeartbeats 4000000 in
set_option maxRecDepth 100000 in
theorem blocksFind_calls (W : World) (s : List UInt8) (hsl : s.length ≤ 140737488351232) (key : List UInt8) (hkl : key.length ≤ 140737488351232) :
    Calls Try.prog 5 #[.string (S s), .string (S key)] W fun e w' => e = .returned (.bool true) ∧ Below W.heap.size W w' := by
  have CD := Lib.hid (fun W => does9 W)
  by_cases hs : s.length ≤ 5000
  · have C1 := Lib.hid (fun W => find9_any s key (by omega) W)
    have C2 := Lib.hid (fun W => refFind9_any s key (by omega) W)
    unfold FindR9 at C1 C2
    generalize (M.findC s key).isSome = b at *
    generalize (M.findC s key).getD M.cl0 = c at *
    have d0 : decide ((5000 : Int) < (s.length : Int)) = false := by simp; omega
    by_cases hk : key.length ≤ 1000
    · have d1 : decide ((1000 : Int) < (key.length : Int)) = false := by simp; omega
      go_enter Try.func5, Try.ntmps5
      go_wp2_with fail
      with_reducible refine (C1.out _).mono ?_
      rintro e w1 ⟨rfl, hbq⟩
      have HB := Lib.hid hbq
      clear hbq
      go_wp2_with (refine wpList_store_hid rfl 32 _ _ rfl w1.heap.size _ rfl rfl 32 clZ9 (rowIn_new clZ9 32 w1) ?_ rfl (by simp [Value.oneCell']) ?_; kernel_rfl; intro w2 hrQ hbelQ hothQ hszQ; have hbQ := hbelQ w1.heap.size w1 (Nat.le_refl _) ((Below.refl _ _).alloc (Nat.le_refl _) _); replace HB := carry hbQ HB; have HX := Lib.hid (show RowIn (clA c) 32 w2 w1.heap.size from hrQ); clear hrQ hbelQ hothQ hszQ hbQ)
      with_reducible refine (C2.out _).mono ?_
      rintro e w3 ⟨rfl, hbq⟩
      replace HB := carry hbq HB
      replace HX := carry hbq HX
      clear hbq
      go_wp2_with (refine wpList_store_hid rfl 32 _ _ rfl w3.heap.size _ rfl rfl 32 clZ9 (rowIn_new clZ9 32 w3) ?_ rfl (by simp [Value.oneCell']) ?_; kernel_rfl; intro w4 hrQ hbelQ hothQ hszQ; have hbQ := hbelQ w3.heap.size w3 (Nat.le_refl _) ((Below.refl _ _).alloc (Nat.le_refl _) _); replace HB := carry hbQ HB; replace HX := carry hbQ HX; have HY := Lib.hid (show RowIn (clA c) 32 w4 w3.heap.size from hrQ); clear hrQ hbelQ hothQ hszQ hbQ; have x0 : w4.cell? ⟨w1.heap.size, 0, none⟩ = some (.string (S c.key)) := HX.out.cell 0; have x1 : w4.cell? ⟨w1.heap.size, 1, none⟩ = some (.int .i64 c.seq) := HX.out.cell 1; have x2 : w4.cell? ⟨w1.heap.size, 2, none⟩ = some (.string (S c.val)) := HX.out.cell 2; have y0 : w4.cell? ⟨w3.heap.size, 0, none⟩ = some (.string (S c.key)) := HY.out.cell 0; have y1 : w4.cell? ⟨w3.heap.size, 1, none⟩ = some (.int .i64 c.seq) := HY.out.cell 1; have y2 : w4.cell? ⟨w3.heap.size, 2, none⟩ = some (.string (S c.val)) := HY.out.cell 2)
      with_reducible refine (CD.out _).mono ?_
      rintro e w5 ⟨rfl, hbq⟩
      replace HB := carry hbq HB
      clear hbq
      go_wp2_with fail
      go_ret
      exact ⟨rfl, HB.out⟩
    · have d1 : decide ((1000 : Int) < (key.length : Int)) = true := by simp; omega
      go_enter Try.func5, Try.ntmps5
      go_wp2_with fail
      go_ret
      exact ⟨rfl, Below.refl _ _⟩
  · have d0 : decide ((5000 : Int) < (s.length : Int)) = true := by simp; omega
    go_enter Try.func5, Try.ntmps5
    go_wp2_with fail
    go_ret
    exact ⟨rfl, Below.refl _ _⟩

end Go.Proofs.Ytppkecilbkgbdaa
