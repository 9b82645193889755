/- Layer 7: Look, Take, by contracts. -/
import Derived.Test.YtggflkjdpibioaaNetsS
namespace Go.Proofs.Ytggflkjdpibioaa
set_option linter.unusedVariables false
open Go Go.RowKit

theorem info_ml : (Try.prog.info? 31).map (·.size) = some 3 := by kernel_rfl
theorem ret_ml2 {fn : Func} {p q : Tmp} (hr : fn.results = #[.cell p 31, .tmp q]) (tmps : Array Value) (w : World) (g : Nat) (m : Ml)
    (hp : tmps.getD p undef = .pointer (some ⟨g, 0, none⟩)) (hg : BlkIn #[.int .i64 m.src, .int .i64 m.dst, .string (S m.dat)] 31 w g) :
    (results fn tmps).run Try.prog w = .ok (.tuple #[mlV m, tmps.getD q undef]) w := by
  have hp' : tmps[p]?.getD undef = .pointer (some ⟨g, 0, none⟩) := by simpa using hp
  have hl : (loadVar 31 ⟨g, 0, none⟩).run Try.prog w = .ok (mlV m) w := run_loadVar_row w g _ _ #[.int .i64 m.src, .int .i64 m.dst, .string (S m.dat)] (0, 0) _ hg Try.underlying31 rfl info_ml
  simp [results, hr, hp', asAddr, hl]
theorem blk_row3 {w : World} {g : Nat} {T : TypeId} {m0 : Ml} (m : Ml) (h : BlkIn #[.int .i64 m0.src, .int .i64 m0.dst, .string (S m0.dat)] T w g) :
    BlkIn #[.int .i64 m.src, .int .i64 m.dst, .string (S m.dat)] T (((w.setCell ⟨g, 0, none⟩ (.int .i64 m.src)).setCell ⟨g, 1, none⟩ (.int .i64 m.dst)).setCell ⟨g, 2, none⟩ (.string (S m.dat))) g := ((h.set 0 _).set 1 _).set 2 _
/-- What a net tells of a place. -/
def lookM (L : List Ml) (i : Int) : Ml := if 0 ≤ i ∧ i < L.length then L.getD i.toNat ml0 else ml0
def lookB (L : List Ml) (i : Int) : Bool := decide (0 ≤ i ∧ i < L.length)

theorem netLook_no {w : World} {b : Nat} {L : List Ml} (h : NetIn w b L) (i : Int) (hi : ¬ (0 ≤ i ∧ i < L.length)) :
    Calls Try.prog 17 #[.pointer (some ⟨b, 0, none⟩), .int .i64 i] w fun e w' => e = .returned (.tuple #[mlV ml0, .bool false]) ∧ Below w.heap.size w w' := by
  obtain ⟨nx, ml, us, fs, hN, hS, rfl⟩ := h
  simp only [List.length_map] at hi
  have cH := fun (W : World) (hW : NetS W b nx ml us.length) => netHas_any hW i
  simp only [hi, decide_false] at cH
  have CH := Lib.hid cH
  have HN := Lib.hid hN
  clear hN hS cH
  go_enter Try.func17, Try.ntmps17
  go_wp2_with fail
  have hN1 := HN.out.more (.cells #[.int .i64 0, .int .i64 0, .string ⟨#[]⟩] 31)
  have hX1 : BlkIn #[.int .i64 ml0.src, .int .i64 ml0.dst, .string (S ml0.dat)] 31 (w.alloc (.cells #[.int .i64 0, .int .i64 0, .string ⟨#[]⟩] 31)) w.heap.size := heap_alloc_new w _
  have hb1 := (Below.refl w.heap.size w).alloc (Nat.le_refl _) (.cells #[.int .i64 0, .int .i64 0, .string ⟨#[]⟩] 31)
  generalize (w.alloc (.cells #[.int .i64 0, .int .i64 0, .string ⟨#[]⟩] 31)) = W1 at *
  have hf : ∀ j, W1.frozen? ⟨w.heap.size, j, none⟩ = false := fun j => hX1.free j
  have x0 : W1.cell? ⟨w.heap.size, 0, none⟩ = some (.int .i64 0) := hX1.cell 0
  have x1 : W1.cell? ⟨w.heap.size, 1, none⟩ = some (.int .i64 0) := hX1.cell 1
  have x2 : W1.cell? ⟨w.heap.size, 2, none⟩ = some (.string ⟨#[]⟩) := hX1.cell 2
  have HX1 := Lib.hid hX1
  have HB1 := Lib.hid hb1
  with_reducible refine (CH.out _ hN1).mono ?_
  rintro e w2 ⟨rfl, rfl⟩
  clear hX1 hb1 hN1
  go_wp2_with fail
  refine bodyPost_ret (ret_ml2 rfl _ _ w.heap.size ml0 rfl (blk_row3 ml0 HX1.out)) rfl ⟨rfl, ((HB1.out.setCell (Nat.le_refl _) _).setCell (Nat.le_refl _) _).setCell (Nat.le_refl _) _⟩
set_option maxHeartbeats 2000000 in
theorem netLook_yes {w : World} {b : Nat} {L : List Ml} (h : NetIn w b L) (i : Nat) (hi : i < L.length) :
    Calls Try.prog 17 #[.pointer (some ⟨b, 0, none⟩), .int .i64 i] w fun e w' => e = .returned (.tuple #[mlV (L.getD i ml0), .bool true]) ∧ Below w.heap.size w w' := by
  obtain ⟨nx, ml, us, fs, hN, hS, rfl⟩ := h
  simp only [List.length_map] at hi
  have cH := fun (W : World) (hW : NetS W b nx ml us.length) => netHas_any hW i
  rw [show decide (0 ≤ (i : Int) ∧ (i : Int) < (us.length : Int)) = true from by simp; omega] at cH
  have cL := fun (W : World) (hW : NetS W b nx ml us.length) => netLink_any hW hS i (by omega)
  have CL := Lib.hid cL
  have CH := Lib.hid cH
  have hu := hS.used.link (show i ≤ us.length by omega)
  rw [if_pos hi] at hu
  have HU := Lib.hid hu
  have HP := Lib.hid (hS.node_lt i (by omega))
  have HV := Lib.hid (hS.get_lt i hi)
  rw [show (us.map ml).getD i ml0 = ml (us.getD i 0) from by simp [List.getD, List.getElem?_eq_getElem hi]]
  generalize us.getD i 0 = u at *
  generalize hm : ml u = m
  have HM := Lib.hid hm
  have HN := Lib.hid hN
  have g1 : (0 : Int) ≤ (u : Int) := by omega
  have g2 : (u : Int) < 64 := by have := HV.out; omega
  clear hN hS cH cL hu hm
  go_enter Try.func17, Try.ntmps17
  go_wp2_with fail
  have hN1 := HN.out.more (.cells #[.int .i64 0, .int .i64 0, .string ⟨#[]⟩] 31)
  have hX1 : BlkIn #[.int .i64 ml0.src, .int .i64 ml0.dst, .string (S ml0.dat)] 31 (w.alloc (.cells #[.int .i64 0, .int .i64 0, .string ⟨#[]⟩] 31)) w.heap.size := heap_alloc_new w _
  have hb1 := (Below.refl w.heap.size w).alloc (Nat.le_refl _) (.cells #[.int .i64 0, .int .i64 0, .string ⟨#[]⟩] 31)
  generalize (w.alloc (.cells #[.int .i64 0, .int .i64 0, .string ⟨#[]⟩] 31)) = W1 at *
  have HX1 := Lib.hid hX1
  have HN1 := Lib.hid hN1
  have HB1 := Lib.hid hb1
  with_reducible refine (CH.out _ hN1).mono ?_
  rintro e w2 ⟨rfl, rfl⟩
  clear hX1 hb1 hN1
  go_wp2_with fail
  go_region_with (first
    | (go_at_call 29; refine (CL.out _ (by exact HN1.out.drew)).mono ?_; rintro e w2 ⟨rfl, hb2⟩; have hN2 := (HN1.out.drew.below hb2); have HX2 := Lib.hid (HX1.out.drew.below hb2); have HB2 := Lib.hid (below_step HB1.out.drew hb2); have z0 := hN2.nxt HP.out; have z1 := hN2.src HV.out; have z2 := hN2.dst HV.out; have z3 := hN2.dat HV.out; rw [HU.out] at z0; rw [HM.out] at z1 z2 z3; have hf : ∀ j, w2.frozen? ⟨w.heap.size, j, none⟩ = false := fun j => HX2.out.free j; have x0 : w2.cell? ⟨w.heap.size, 0, none⟩ = some (.int .i64 0) := HX2.out.cell 0; have x1 : w2.cell? ⟨w.heap.size, 1, none⟩ = some (.int .i64 0) := HX2.out.cell 1; have x2 : w2.cell? ⟨w.heap.size, 2, none⟩ = some (.string ⟨#[]⟩) := HX2.out.cell 2; clear hb2 hN2))
  all_goals
    go_wp2_with fail
    refine bodyPost_ret (ret_ml2 rfl _ _ w.heap.size m rfl (blk_row3 m HX2.out)) rfl ⟨rfl, ((HB2.out.setCell (Nat.le_refl _) _).setCell (Nat.le_refl _) _).setCell (Nat.le_refl _) _⟩

end Go.Proofs.Ytggflkjdpibioaa
