/- Layer 7: Double, Lose, New, by contracts. -/
import Derived.Test.YtggflkjdpibioaaNetsV
import Derived.Deep.RegionHeld3
namespace Go.Proofs.Ytggflkjdpibioaa
set_option linter.unusedVariables false
open Go Go.RowKit

theorem netLose_no {w : World} {b : Nat} {L : List Ml} (h : NetIn w b L) (i : Int) (hi : ¬ (0 ≤ i ∧ i < L.length)) :
    Calls Try.prog 19 #[.pointer (some ⟨b, 0, none⟩), .int .i64 i] w fun e w' => e = .returned (.bool false) ∧ Below w.heap.size w w' := by
  have C1 := Lib.hid (netTake_no h i hi)
  clear h
  go_enter Try.func19, Try.ntmps19
  go_wp2_with fail
  with_reducible refine (C1.out).mono ?_
  rintro e w1 ⟨rfl, hb1⟩
  go_wp2_with fail
  go_ret
  exact ⟨rfl, hb1.alloc hb1.size _⟩
theorem netLose_yes {w : World} {b : Nat} {L : List Ml} (h : NetIn w b L) (i : Nat) (hi : i < L.length) :
    Calls Try.prog 19 #[.pointer (some ⟨b, 0, none⟩), .int .i64 i] w fun e w' => e = .returned (.bool true) ∧ NetIn w' b (L.take i ++ L.drop (i + 1)) ∧ Only b w w' := by
  have C1 := Lib.hid (netTake_yes h i hi)
  clear h
  go_enter Try.func19, Try.ntmps19
  go_wp2_with fail
  with_reducible refine (C1.out).mono ?_
  rintro e w1 ⟨rfl, hN1, hO1⟩
  go_wp2_with fail
  go_ret
  exact ⟨rfl, hN1.below ((Below.refl _ _).alloc (Nat.le_refl _) _), hO1.alloc _⟩

theorem netDouble_no {w : World} {b : Nat} {L : List Ml} (h : NetIn w b L) (i : Int) (hi : ¬ (0 ≤ i ∧ i < L.length)) :
    Calls Try.prog 18 #[.pointer (some ⟨b, 0, none⟩), .int .i64 i] w fun e w' => e = .returned (.bool false) ∧ Below w.heap.size w w' := by
  have C1 := Lib.hid (netLook_no h i hi)
  clear h
  go_enter Try.func18, Try.ntmps18
  go_wp2_with fail
  with_reducible refine (C1.out).mono ?_
  rintro e w1 ⟨rfl, hb1⟩
  go_wp2_with fail
  go_region
  go_wp2_with fail
  go_ret
  exact ⟨rfl, (hb1.alloc hb1.size _).drew⟩
set_option maxHeartbeats 2000000 in
set_option maxRecDepth 100000 in
theorem netDouble_room {w : World} {b : Nat} {L : List Ml} (h : NetIn w b L) (i : Nat) (hi : i < L.length) (hl : L.length < 64) :
    Calls Try.prog 18 #[.pointer (some ⟨b, 0, none⟩), .int .i64 i] w fun e w' => e = .returned (.bool true) ∧ NetIn w' b (L.take (i + 1) ++ L.getD i ml0 :: L.drop (i + 1)) ∧ Only b w w' := by
  have C1 := Lib.hid (netLook_yes h i hi)
  obtain ⟨nx, ml, us, fs, hN, hS, rfl⟩ := h
  have hall := hS.all
  simp only [List.length_map] at hl hi
  generalize (us.map ml).getD i ml0 = m at *
  cases fs with
  | nil => simp at hall; omega
  | cons v ft =>
    have cL := fun (W : World) (hW : NetS W b nx ml us.length) => netLink_any hW hS (i + 1) (by omega)
    have cI := fun (W : World) (hW : NetS W b nx ml us.length) => netInsert_room hW hS (show i + 1 ≤ us.length by omega) (by omega) m
    have hfin := fun (W : World) hW => netIn_insert (w := W) (b := b) (ml := ml) (m := m) hS (show i + 1 ≤ us.length by omega) hW
    have gi0 : (0 : Int) ≤ (i : Int) := by omega
    have gi1 : (i : Int) < 64 := by omega
    have ew : IntKind.i64.wrap ((i : Int) + 1) = ((i + 1 : Nat) : Int) := IntWalk.i64_in _ (by omega)
    simp only [← ew] at cL
    clear ew
    have CL := Lib.hid cL
    have CI := Lib.hid cI
    have HF := Lib.hid hfin
    have HN := Lib.hid hN
    clear cL cI hN hS hfin
    go_enter Try.func18, Try.ntmps18
    go_wp2_with fail
    with_reducible refine (C1.out).mono ?_
    rintro e w1 ⟨rfl, hb1⟩
    have hne1 : w1.heap.size ≠ b := by have := HN.out.lt; have := hb1.size; omega
    have HN1 := Lib.hid (HN.out.below hb1)
    have HB1 := Lib.hid hb1
    clear hb1
    go_wp2_with fail
    have hN2 := HN1.out.more (.cells #[.int .i64 m.src, .int .i64 m.dst, .string (S m.dat)] 31)
    have hX2 : BlkIn #[.int .i64 m.src, .int .i64 m.dst, .string (S m.dat)] 31 (w1.alloc (.cells #[.int .i64 m.src, .int .i64 m.dst, .string (S m.dat)] 31)) w1.heap.size := heap_alloc_new w1 _
    have hb2 := HB1.out.alloc HB1.out.size (.cells #[.int .i64 m.src, .int .i64 m.dst, .string (S m.dat)] 31)
    generalize (w1.alloc (.cells #[.int .i64 m.src, .int .i64 m.dst, .string (S m.dat)] 31)) = W2 at *
    have x0 : W2.cell? ⟨w1.heap.size, 0, none⟩ = some (.int .i64 m.src) := hX2.cell 0
    have x1 : W2.cell? ⟨w1.heap.size, 1, none⟩ = some (.int .i64 m.dst) := hX2.cell 1
    have x2 : W2.cell? ⟨w1.heap.size, 2, none⟩ = some (.string (S m.dat)) := hX2.cell 2
    have HN2 := Lib.hid hN2
    have HX2 := Lib.hid hX2
    have HB2 := Lib.hid hb2
    clear hN2 hX2 hb2 HN HN1
    go_region_held3 (fun W => W.cell? ⟨w1.heap.size, 0, none⟩ = some (.int .i64 m.src) ∧ W.cell? ⟨w1.heap.size, 1, none⟩ = some (.int .i64 m.dst) ∧ W.cell? ⟨w1.heap.size, 2, none⟩ = some (.string (S m.dat))) (go_keep) (first
      | (go_at_call 29; refine (CL.out _ (by exact HN2.out.drew)).mono ?_; rintro e w3 ⟨rfl, hb3⟩; have HN3 := Lib.hid (HN2.out.drew.below hb3); have HB3 := Lib.hid (below_step HB2.out.drew hb3); have y0 : w3.cell? ⟨w1.heap.size, 0, none⟩ = some (.int .i64 m.src) := ((HX2.out.drew.below hb3).cell 0); have y1 : w3.cell? ⟨w1.heap.size, 1, none⟩ = some (.int .i64 m.dst) := ((HX2.out.drew.below hb3).cell 1); have y2 : w3.cell? ⟨w1.heap.size, 2, none⟩ = some (.string (S m.dat)) := ((HX2.out.drew.below hb3).cell 2); clear hb3)
      | (go_at_call 30; refine (CI.out _ (by exact HN3.out)).mono ?_; rintro e w4 ⟨rfl, hN4, hO4⟩; have z0 := hO4.cell hne1 y0; have z1 := hO4.cell hne1 y1; have z2 := hO4.cell hne1 y2; replace hN4 := Lib.hid hN4; replace hO4 := Lib.hid hO4))
    all_goals
      go_wp2_with fail
      go_ret
      exact ⟨rfl, HF.out _ hN4.out, (Only.ofBelow HB3.out).trans hO4.out⟩

set_option maxHeartbeats 2000000 in
set_option maxRecDepth 100000 in
theorem netDouble_full {w : World} {b : Nat} {L : List Ml} (h : NetIn w b L) (i : Nat) (hi : i < L.length) (hl : ¬ L.length < 64) :
    Calls Try.prog 18 #[.pointer (some ⟨b, 0, none⟩), .int .i64 i] w fun e w' => e = .returned (.bool false) ∧ Below w.heap.size w w' := by
  have C1 := Lib.hid (netLook_yes h i hi)
  obtain ⟨nx, ml, us, fs, hN, hS, rfl⟩ := h
  have hall := hS.all
  simp only [List.length_map] at hl hi
  generalize (us.map ml).getD i ml0 = m at *
  cases fs with
  | cons v ft => simp at hall; omega
  | nil =>
    have cL := fun (W : World) (hW : NetS W b nx ml us.length) => netLink_any hW hS (i + 1) (by omega)
    have cI := fun (W : World) (hW : NetS W b nx ml us.length) => netInsert_full hW hS.free (cel (node 64 us (i + 1))) m
    have gi0 : (0 : Int) ≤ (i : Int) := by omega
    have gi1 : (i : Int) < 64 := by omega
    have ew : IntKind.i64.wrap ((i : Int) + 1) = ((i + 1 : Nat) : Int) := IntWalk.i64_in _ (by omega)
    simp only [← ew] at cL
    clear ew
    have CL := Lib.hid cL
    have CI := Lib.hid cI
    have HN := Lib.hid hN
    clear cL cI hN hS
    go_enter Try.func18, Try.ntmps18
    go_wp2_with fail
    with_reducible refine (C1.out).mono ?_
    rintro e w1 ⟨rfl, hb1⟩
    have hne1 : w1.heap.size ≠ b := by have := HN.out.lt; have := hb1.size; omega
    have HN1 := Lib.hid (HN.out.below hb1)
    have HB1 := Lib.hid hb1
    clear hb1
    go_wp2_with fail
    have hN2 := HN1.out.more (.cells #[.int .i64 m.src, .int .i64 m.dst, .string (S m.dat)] 31)
    have hX2 : BlkIn #[.int .i64 m.src, .int .i64 m.dst, .string (S m.dat)] 31 (w1.alloc (.cells #[.int .i64 m.src, .int .i64 m.dst, .string (S m.dat)] 31)) w1.heap.size := heap_alloc_new w1 _
    have hb2 := HB1.out.alloc HB1.out.size (.cells #[.int .i64 m.src, .int .i64 m.dst, .string (S m.dat)] 31)
    generalize (w1.alloc (.cells #[.int .i64 m.src, .int .i64 m.dst, .string (S m.dat)] 31)) = W2 at *
    have x0 : W2.cell? ⟨w1.heap.size, 0, none⟩ = some (.int .i64 m.src) := hX2.cell 0
    have x1 : W2.cell? ⟨w1.heap.size, 1, none⟩ = some (.int .i64 m.dst) := hX2.cell 1
    have x2 : W2.cell? ⟨w1.heap.size, 2, none⟩ = some (.string (S m.dat)) := hX2.cell 2
    have HN2 := Lib.hid hN2
    have HX2 := Lib.hid hX2
    have HB2 := Lib.hid hb2
    clear hN2 hX2 hb2 HN HN1
    go_region_held3 (fun W => W.cell? ⟨w1.heap.size, 0, none⟩ = some (.int .i64 m.src) ∧ W.cell? ⟨w1.heap.size, 1, none⟩ = some (.int .i64 m.dst) ∧ W.cell? ⟨w1.heap.size, 2, none⟩ = some (.string (S m.dat))) (go_keep) (first
      | (go_at_call 29; refine (CL.out _ (by exact HN2.out.drew)).mono ?_; rintro e w3 ⟨rfl, hb3⟩; have HN3 := Lib.hid (HN2.out.drew.below hb3); have HB3 := Lib.hid (below_step HB2.out.drew hb3); have y0 : w3.cell? ⟨w1.heap.size, 0, none⟩ = some (.int .i64 m.src) := ((HX2.out.drew.below hb3).cell 0); have y1 : w3.cell? ⟨w1.heap.size, 1, none⟩ = some (.int .i64 m.dst) := ((HX2.out.drew.below hb3).cell 1); have y2 : w3.cell? ⟨w1.heap.size, 2, none⟩ = some (.string (S m.dat)) := ((HX2.out.drew.below hb3).cell 2); clear hb3)
      | (go_at_call 30; refine (CI.out _ (by exact HN3.out)).mono ?_; rintro e w4 ⟨rfl, hb4⟩; have z0 := (hb4.cell (block_lt_of_cell y0)).trans y0; have z1 := (hb4.cell (block_lt_of_cell y1)).trans y1; have z2 := (hb4.cell (block_lt_of_cell y2)).trans y2; replace hb4 := Lib.hid hb4))
    all_goals
      go_wp2_with fail
      go_ret
      exact ⟨rfl, below_step HB3.out hb4.out⟩


end Go.Proofs.Ytggflkjdpibioaa
