/- Layer 13: CursorsBytes, walked. -/
import Derived.Test.YtekmnpmeienhhaaCursO
import Derived.Test.YtekmnpmeienhhaaCursS
namespace Go.Proofs.Ytekmnpmeienhhaa
set_option linter.unusedVariables false
open Go Go.RowKit Go.Maps

set_option maxRecDepth 100000 in
set_option maxHeartbeats 4000000 in
theorem cursorsBytes_calls (W : World) (v : Value) (hv : UCu v) (l : List UInt8) (hl : l.length ≤ 140737488351232) : Calls Try.prog 10 #[v, .string (S l)] W fun e w' => e = .returned (.bool true) ∧ Below W.heap.size W w' := by
  obtain ⟨⟨a, b⟩, rfl, -⟩ := hv
  have C1 := Lib.hid (fun w => enc13_any ⟨a, b⟩ w)
  have C2 := Lib.hid (fun w => refEnc13_any ⟨a, b⟩ w)
  have C3 := Lib.hid (fun w => dec13_any l hl w)
  have C4 := Lib.hid (fun w => refDec13_any l hl w)
  have CD := Lib.hid (fun w => does13 w)
  rw [Cu.decV_out] at C3 C4
  generalize Cu.encR ⟨a, b⟩ = q at *
  obtain ⟨q1, q2⟩ := q
  generalize (Cu.dec l).getD Cu.c0 = y at *
  generalize (if Cu.dec l = none then (30 : Int) else 0) = z at *
  obtain ⟨y1, y2⟩ := y
  have hi : (Try.prog.info? 71).map (·.size) = some 2 := by kernel_rfl
  have HI := Lib.hid hi
  have HB := Lib.hid ((Below.refl W.heap.size W).alloc (Nat.le_refl _) (.cells #[.int .i64 a, .int .i64 b] 71))
  have HX := Lib.hid (bk_new #[.int .i64 a, .int .i64 b] 71 W)
  clear hi hl
  go_enter Try.func10, Try.ntmps10
  go_wp2_with (refine wpList_load_row rfl 71 _ rfl W.heap.size rfl 71 _ (0, 0) _ HX.out Try.underlying71 rfl ?_ ?_; exact HI.out)
  with_reducible refine (C1.out _).mono ?_
  rintro e w1 ⟨rfl, hb⟩
  replace HX := Lib.hid (HX.out.below hb)
  replace HB := Lib.hid (below_step HB.out hb)
  clear hb C1
  go_wp2_with (refine wpList_load_row rfl 71 _ rfl W.heap.size rfl 71 _ (0, 0) _ HX.out Try.underlying71 rfl ?_ ?_; exact HI.out)
  with_reducible refine (C2.out _).mono ?_
  rintro e w2 ⟨rfl, hb⟩
  replace HB := Lib.hid (below_step HB.out hb)
  clear hb C2 HX
  go_wp2_with fail
  with_reducible refine (C3.out _).mono ?_
  rintro e w3 ⟨rfl, hb⟩
  replace HB := Lib.hid ((below_step HB.out hb).alloc (below_step HB.out hb).size (.cells #[.int .i64 y1, .int .i64 y2] 71))
  have HX := Lib.hid (bk_new #[.int .i64 y1, .int .i64 y2] 71 w3)
  clear hb C3
  go_wp2_with fail
  with_reducible refine (C4.out _).mono ?_
  rintro e w4 ⟨rfl, hb⟩
  replace HB := Lib.hid ((below_step HB.out hb).alloc (below_step HB.out hb).size (.cells #[.int .i64 y1, .int .i64 y2] 71))
  replace HX := Lib.hid ((HX.out.below hb).more (.cells #[.int .i64 y1, .int .i64 y2] 71))
  have HY := Lib.hid (bk_new #[.int .i64 y1, .int .i64 y2] 71 w4)
  clear hb C4
  go_upto_region 5 with fail
  generalize w4.alloc (.cells #[.int .i64 y1, .int .i64 y2] 71) = w5 at *
  have c0 : w5.cell? ⟨w3.heap.size, 0, none⟩ = some (.int .i64 y1) := HX.out.cell 0
  have c1 : w5.cell? ⟨w3.heap.size, 1, none⟩ = some (.int .i64 y2) := HX.out.cell 1
  have c2 : w5.cell? ⟨w4.heap.size, 0, none⟩ = some (.int .i64 y1) := HY.out.cell 0
  have c3 : w5.cell? ⟨w4.heap.size, 1, none⟩ = some (.int .i64 y2) := HY.out.cell 1
  go_wp2_with fail
  with_reducible refine (CD.out _).mono ?_
  rintro e w6 ⟨rfl, hb⟩
  replace HB := Lib.hid (below_step HB.out hb)
  clear hb CD
  go_wp2_with fail
  go_ret
  exact ⟨rfl, HB.out⟩

end Go.Proofs.Ytekmnpmeienhhaa
