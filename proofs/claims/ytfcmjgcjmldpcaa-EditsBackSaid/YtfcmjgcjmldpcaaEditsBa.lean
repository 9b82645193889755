/- Layer 16: a strings.Builder that lies in a writer, by contracts (as XBuild, XBuildT have it for one that lies by itself). -/
import Derived.Test.YtfcmjgcjmldpcaaEditsK
import Derived.Lib.Builder
import Derived.Lib.AppendStr
import Derived.Laws.Externs
import Derived.Lib.Hide
namespace Go.Proofs.Ytfcmjgcjmldpcaa
set_option linter.unusedVariables false
set_option linter.unusedSimpArgs false
open Go Go.RowKit

theorem BkIn.grown' {C : Array Value} {T : TypeId} {w w' : World} {b : Nat} {row : Option Nat} (h : BkIn C T w b) (hg : w.grownBy w' row) (hne : row ≠ some b) : BkIn C T w' b := (hg.block b h.lt (fun e => hne e.symm)).trans h
theorem BkIn.more' {C : Array Value} {T : TypeId} {w : World} {b : Nat} (h : BkIn C T w b) (o : Obj) : BkIn C T (w.alloc o) b := h.below ((Below.refl _ _).alloc (Nat.le_refl _) o)
theorem below_freeze16 {B : Nat} (w : World) (p : Addr) (n : Nat) (hp : B ≤ p.block) : Below B w (w.freeze p n) := by
  unfold World.freeze
  split
  · exact Below.refl _ _
  · exact ⟨rfl, rfl, rfl, by simp, fun k hk => by
      simp only [Array.getElem?_modify]
      rw [if_neg (fun (e : p.block = k) => by omega)]⟩
theorem sizeBd16 : (Try.prog.info? 69).map (·.size) = some 2 := by kernel_rfl
theorem infoBt16 : (Try.prog.info? 5).map (fun i => (i.zero, i.size, i.bytes)) = some (some (.int .u8 0), 1, 1) := by kernel_rfl
theorem liesWr16 : liesAt Try.prog Try.prog.depth 71 (2 / Try.prog.cellsOf 71) 0 69 1 = true := by kernel_rfl
set_option maxHeartbeats 1000000 in
set_option maxRecDepth 100000 in
theorem copyCheckW_used (b : Nat) (w : World) (h0 : w.cell? ⟨b, 0, none⟩ = some (.pointer (some ⟨b, 0, none⟩))) :
    Calls Try.prog 64 #[.pointer (some ⟨b, 0, none⟩)] w fun e w' => e = .returned (.tuple #[]) ∧ w' = w := by
  obtain ⟨j, hj, _⟩ := Option.map_eq_some_iff.1 sizeBd16
  go_enter Try.func64, Try.ntmps64
  go_wp2
  rw [Lib.run_neq_ptr_same w _ Try.underlying66 hj]
  go_wp2
  go_end0
  exact ⟨rfl, rfl⟩

set_option maxHeartbeats 1000000 in
set_option maxRecDepth 100000 in
theorem copyCheckW_fresh (b : Nat) (w : World) (h0 : w.cell? ⟨b, 0, none⟩ = some (.pointer none)) (hsh : w.shape? b = some (71, 2)) (hfz : w.frozen? ⟨b, 0, none⟩ = false) :
    Calls Try.prog 64 #[.pointer (some ⟨b, 0, none⟩)] w fun e w' => e = .returned (.tuple #[]) ∧ w' = w.setCell ⟨b, 0, none⟩ (.pointer (some ⟨b, 0, none⟩)) := by
  obtain ⟨j, hj, hjs⟩ := Option.map_eq_some_iff.1 sizeBd16
  go_enter Try.func64, Try.ntmps64
  go_wp2
  rw [Lib.run_to_unsafe w ⟨b, 0, none⟩ Try.underlying66 Try.underlying116 hj (by rw [hjs]; decide) hsh (Nat.zero_lt_succ 1)]
  simp only [Result.andThen]
  rw [Oper.upon_value]
  go_wp2
  rw [run_callFunc_extern Try.func77 (by kernel_rfl) (by kernel_rfl) (by kernel_rfl) (e := Extern.AbiNoEscape.same) (by kernel_rfl)]
  rw [Lib.run_noEscape]
  simp only [Result.andThen]
  rw [Oper.upon_value]
  go_wp2
  rw [Lib.run_from_unsafe w ⟨b, 0, none⟩ Try.underlying116 Try.underlying66 hj hsh liesWr16]
  simp only [Result.andThen]
  rw [Oper.upon_value]
  go_wp2
  go_end0
  exact ⟨rfl, rfl⟩

/-- A builder that the call itself made (block b), with these bytes. -/
def WrAt (B b : Nat) (l : List UInt8) (w : World) : Prop := Lib.IsBuilder 71 5 B b (Lib.byteCells l) w

/-- Blocks of other kinds stand, beside the builder's. -/
def KeptW (b : Nat) (w w' : World) : Prop := ∀ (C : Array Value) (T : TypeId) (g : Nat), T ≠ 5 → g ≠ b → BkIn C T w g → BkIn C T w' g
theorem copyCheckW_any (B b : Nat) (l : List UInt8) (w : World) (h : WrAt B b l w) :
    Calls Try.prog 64 #[.pointer (some ⟨b, 0, none⟩)] w fun e w' => e = .returned (.tuple #[]) ∧ Lib.BuilderAt 71 5 B b (.pointer (some ⟨b, 0, none⟩)) (Lib.byteCells l) w' ∧ Below B w w' ∧ KeptW b w w' := by
  rcases h with h | h
  · refine (copyCheckW_fresh b w h.cell0 h.shape h.frozen0).mono ?_
    rintro e w' ⟨rfl, rfl⟩
    exact ⟨rfl, h.used _, (Below.refl B w).setCell (p := ⟨b, 0, none⟩) h.1 _, fun C T g _ hg hr => hr.other hg 0 _⟩
  · refine (copyCheckW_used b w h.cell0).mono ?_
    rintro e w' ⟨rfl, rfl⟩
    exact ⟨rfl, h, Below.refl B _, fun C T g _ _ hr => hr⟩

set_option maxHeartbeats 2000000 in
set_option maxRecDepth 100000 in
theorem writeW_any (B b : Nat) (l t : List UInt8) (w : World) (h : WrAt B b l w) (hlen : l.length + t.length ≤ 140737488355328) (hBw : B ≤ w.heap.size) :
    Calls Try.prog 56 #[.pointer (some ⟨b, 0, none⟩), .string (S t)] w fun e w' => e = .returned (.tuple #[.int .i64 t.length, .nilIface]) ∧ WrAt B b (l ++ t) w' ∧ Below B w w' ∧ KeptW b w w' := by
  obtain ⟨i0, hi, hz0, hz1, hz2⟩ := info_parts infoBt16
  have hl : (Lib.byteCells l).length = l.length := by simp [Lib.byteCells]
  go_enter Try.func56, Try.ntmps56
  go_wp2_with fail
  refine (copyCheckW_any B b l _ h).mono ?_
  rintro e w1 ⟨rfl, h1, hb1, hkp1⟩
  have HK1 := Lib.hid hkp1
  clear hkp1
  obtain ⟨hB, v, hbk, hown, hne⟩ := h1
  have c0 : w1.cell? ⟨b, 0, none⟩ = some (.pointer (some ⟨b, 0, none⟩)) := by rw [Lib.cell_of_heap hbk]; rfl
  have c1 : w1.cell? ⟨b, 1, none⟩ = some v := by rw [Lib.cell_of_heap hbk]; rfl
  go_wp2_with (at_builtin; refine Lib.wpList_append_own_string _ rfl _ _ 67 9 rfl B 5 i0 Try.underlying67 Try.underlying9 hi hz0 hz1 hz2 _ _ _ rfl hown (S t) rfl ?c3 ?c4 ?c5 ?_)
  case c3 => unfold maxLen; simp [ByteArray.size]; omega
  case c4 => simp [ByteArray.size]; omega
  case c5 => have := hb1.size; omega
  intro v' w2 hown' hgrow _
  have hlt : b < w1.heap.size := by
    rcases Nat.lt_or_ge b w1.heap.size with h' | h'
    · exact h'
    · simp [Array.getElem?_eq_none h'] at hbk
  have hb2 : w2.heap[b]? = some (.cells #[.pointer (some ⟨b, 0, none⟩), v] 71 (0, 0)) := by
    rw [hgrow.block b hlt (fun e => hne e.symm)]
    exact hbk
  have d0 : w2.cell? ⟨b, 0, none⟩ = some (.pointer (some ⟨b, 0, none⟩)) := by rw [Lib.cell_of_heap hb2]; rfl
  have d1 : w2.cell? ⟨b, 1, none⟩ = some v := by rw [Lib.cell_of_heap hb2]; rfl
  have f1 : w2.frozen? ⟨b, 1, none⟩ = false := Lib.frozen_of_heap hb2 1
  obtain ⟨ao, n', cap, rfl⟩ : ∃ ao n' cap, v' = .slice ao n' cap := by
    rcases hown'.2 with ⟨hv, _⟩ | ⟨g, cap, cur, hv, _⟩
    · exact ⟨_, _, _, hv⟩
    · exact ⟨_, _, _, hv⟩
  have hcells : Lib.byteCells (l ++ t) = Lib.byteCells l ++ Lib.strCells (S t) := by simp [Lib.byteCells, Lib.strCells]
  go_wp2
  go_ret2
  refine ⟨by simp, .inr ?_, ?_, fun C T g hT hg hr => ((HK1.out C T g hT hg hr).grown' hgrow (own_of_blk (HK1.out C T g hT hg hr) hown hT)).other hg 1 _⟩
  · rw [hcells]
    exact Lib.BuilderAt.put (T := 71) (e := 5) hB hb2 (bs' := Lib.byteCells l ++ Lib.strCells (S t)) (by simpa [Lib.byteCells_length, Lib.strCells_length, ByteArray.size] using hown') (by decide)
  · exact (hb1.grown hgrow (by have := hb1.size; omega) (fun k hk => (hown.lt k hk).1)).setCell (p := ⟨b, 1, none⟩) hB _
def StrWR (B : Nat) (l : List UInt8) (w : World) (e : Ending) (w' : World) : Prop := e = .returned (.string ⟨l.toArray⟩) ∧ ∀ W0, Below B W0 w → Below B W0 w'
theorem unsafeSW_none (W : World) (q : Option Addr) : (Builtin.unsafeString_ #[94, 3] 9 #[.pointer q, .int .i64 0]).run Try.prog W = .ok (.string .empty) W :=
  Lib.run_unsafeString_none W _ _ _ q
set_option maxHeartbeats 2000000 in
set_option maxRecDepth 100000 in
theorem stringW_some (B b g : Nat) (hB : B ≤ g) (p : Value) (l : List UInt8) (h0 : l ≠ []) (cap : Nat) (cur : Array Value) (w : World) (hr : BkIn #[p, .slice (some ⟨g, 0, none⟩) l.length cap] 71 w b) (hg : w.heap[g]? = some (.cells cur 5 (0, 0)))
    (hnc : l.length ≤ cap) (hcm : cap ≤ maxLen) (hcs : cur.size = cap) (hc : ∀ j u, (Lib.byteCells l)[j]? = some u → w.cell? ((⟨g, 0, none⟩ : Addr).add j) = some u) :
    Calls Try.prog 42 #[.pointer (some ⟨b, 0, none⟩)] w fun e w' => StrWR B l w e w' := by
  have hl0 : l.length ≠ 0 := by simpa using h0
  have c1 : w.drew.cell? ⟨b, 1, none⟩ = some (.slice (some ⟨g, 0, none⟩) l.length cap) := BkIn.cell (w := w.drew) hr 1
  have hSD : (Builtin.unsafeSliceData_ #[67] 94 #[.slice (some ⟨g, 0, none⟩) l.length cap]).run Try.prog w.drew = .ok (.pointer (some ⟨g, 0, none⟩)) w.drew :=
    Lib.run_unsafeSliceData_row _ _ _ _ _ _ (by omega)
  have hUS : (Builtin.unsafeString_ #[94, 3] 9 #[.pointer (some ⟨g, 0, none⟩), .int .i64 l.length]).run Try.prog w.drew = .ok (.string ⟨l.toArray⟩) (w.drew.freeze ⟨g, 0, none⟩ l.length) := by
    refine Lib.run_unsafeString_row w.drew 94 3 9 5 Try.underlying94 (by kernel_rfl) g cur.size (by have hg' : w.drew.heap[g]? = some (.cells cur 5 (0, 0)) := hg; simp [World.shape?, hg']) l h0 (by omega) (by unfold maxLen at hcm; omega) ?_
    intro j x hx
    exact hc j (.int .u8 x.toNat) (by simp [Lib.byteCells, hx])
  have HO := Lib.hid (show ∀ W0, Below B W0 w → Below B W0 (w.drew.freeze ⟨g, 0, none⟩ l.length) from fun W0 h => h.drew.trans (below_freeze16 w.drew ⟨g, 0, none⟩ l.length hB))
  clear hc hcs hcm hnc
  go_enter Try.func42, Try.ntmps42
  go_wp2
  go_region
  all_goals (go_wp2; go_ret; exact ⟨rfl, HO.out⟩)
set_option maxHeartbeats 2000000 in
set_option maxRecDepth 100000 in
theorem stringW_nil (B b : Nat) (p : Value) (w : World) (hr : BkIn #[p, .slice none 0 0] 71 w b) :
    Calls Try.prog 42 #[.pointer (some ⟨b, 0, none⟩)] w fun e w' => StrWR B [] w e w' := by
  have hUS := unsafeSW_none
  have c1 : w.drew.cell? ⟨b, 1, none⟩ = some (.slice none 0 0) := BkIn.cell (w := w.drew) hr 1
  have hSD : (Builtin.unsafeSliceData_ #[67] 94 #[.slice none 0 0]).run Try.prog w.drew = .ok (.pointer none) w.drew := rfl
  go_enter Try.func42, Try.ntmps42
  go_wp2
  go_region
  all_goals (go_wp2; go_ret; exact ⟨rfl, fun W0 h => h.drew⟩)
set_option maxHeartbeats 2000000 in
set_option maxRecDepth 100000 in
theorem stringW_room (B b g : Nat) (p : Value) (cap : Nat) (h0 : cap ≠ 0) (w : World) (hr : BkIn #[p, .slice (some ⟨g, 0, none⟩) 0 cap] 71 w b) :
    Calls Try.prog 42 #[.pointer (some ⟨b, 0, none⟩)] w fun e w' => StrWR B [] w e w' := by
  have hUS := unsafeSW_none
  have c1 : w.drew.cell? ⟨b, 1, none⟩ = some (.slice (some ⟨g, 0, none⟩) 0 cap) := BkIn.cell (w := w.drew) hr 1
  have hSD : (Builtin.unsafeSliceData_ #[67] 94 #[.slice (some ⟨g, 0, none⟩) 0 cap]).run Try.prog w.drew = .ok (.pointer (some ⟨g, 0, none⟩)) w.drew :=
    Lib.run_unsafeSliceData_row _ _ _ _ _ _ h0
  clear h0
  go_enter Try.func42, Try.ntmps42
  go_wp2
  go_region
  all_goals (go_wp2; go_ret; exact ⟨rfl, fun W0 h => h.drew⟩)
set_option maxHeartbeats 2000000 in
set_option maxRecDepth 100000 in
theorem stringW_noroom (B b g : Nat) (p : Value) (cur : Array Value) (w : World) (hr : BkIn #[p, .slice (some ⟨g, 0, none⟩) 0 0] 71 w b) (hg : w.heap[g]? = some (.cells cur 5 (0, 0))) (hBw : B ≤ w.heap.size) :
    Calls Try.prog 42 #[.pointer (some ⟨b, 0, none⟩)] w fun e w' => StrWR B [] w e w' := by
  have hUS := unsafeSW_none
  have c1 : w.drew.cell? ⟨b, 1, none⟩ = some (.slice (some ⟨g, 0, none⟩) 0 0) := BkIn.cell (w := w.drew) hr 1
  have hSD : (Builtin.unsafeSliceData_ #[67] 94 #[.slice (some ⟨g, 0, none⟩) 0 0]).run Try.prog w.drew = .ok (.pointer (some ⟨w.drew.heap.size, 0, none⟩)) (w.drew.alloc (.view ⟨g, 0, none⟩ 5)) :=
    Lib.run_unsafeSliceData_zero w.drew _ _ 5 Try.underlying94 ⟨g, 0, none⟩ 0 (5, cur.size) (by have hg' : w.drew.heap[g]? = some (.cells cur 5 (0, 0)) := hg; simp [World.shape?, hg'])
  have c2 : (w.drew.alloc (.view ⟨g, 0, none⟩ 5)).cell? ⟨b, 1, none⟩ = some (.slice (some ⟨g, 0, none⟩) 0 0) := BkIn.cell (BkIn.more' (w := w.drew) hr _) 1
  have c3 : (w.alloc (.view ⟨g, 0, none⟩ 5)).drew.cell? ⟨b, 1, none⟩ = some (.slice (some ⟨g, 0, none⟩) 0 0) := c2
  have c0 : w.cell? ⟨b, 1, none⟩ = some (.slice (some ⟨g, 0, none⟩) 0 0) := c1
  have HO := Lib.hid (show ∀ W0, Below B W0 w → Below B W0 (w.alloc (.view ⟨g, 0, none⟩ 5)) from fun W0 h => h.alloc hBw _)
  go_enter Try.func42, Try.ntmps42
  go_wp2
  go_region
  all_goals (go_wp2; go_ret; exact ⟨rfl, fun W0 h => by first | exact HO.out W0 h | exact (HO.out W0 h).drew⟩)
theorem stringW_any (B b : Nat) (l : List UInt8) (w : World) (h : WrAt B b l w) (hBw : B ≤ w.heap.size) :
    Calls Try.prog 42 #[.pointer (some ⟨b, 0, none⟩)] w fun e w' => StrWR B l w e w' := by
  obtain ⟨p, v, hr, hown⟩ : ∃ p v, BkIn #[p, v] 71 w b ∧ w.ownsRow B 5 1 v (Lib.byteCells l).length (Lib.byteCells l) := by
    rcases h with ⟨_, v, k, k2, _⟩ | ⟨_, v, k, k2, _⟩
    · exact ⟨_, v, k, k2⟩
    · exact ⟨_, v, k, k2⟩
  have hl : (Lib.byteCells l).length = l.length := by simp [Lib.byteCells]
  rw [hl] at hown
  rcases hown.2 with ⟨rfl, h0⟩ | ⟨g, cap, cur, rfl, hB, hg, hnc, hcm, hcs, ht⟩
  · obtain rfl : l = [] := List.eq_nil_of_length_eq_zero h0
    exact stringW_nil B b p w hr
  · by_cases h0 : l = []
    · subst h0
      by_cases hc : cap = 0
      · subst hc; exact stringW_noroom B b g p cur w hr hg hBw
      · exact stringW_room B b g p cap hc w hr
    · refine stringW_some B b g hB p l h0 cap cur w hr hg hnc hcm (by simpa using hcs) (fun j u hu => ?_)
      rw [Addr.add_lit, Nat.zero_add]
      have hj : j < l.length := by rw [← hl]; exact (List.getElem?_eq_some_iff.1 hu).1
      have h1 := World.ownsRow.cellAt (g := g) hown j (by omega)
      rw [h1, hu]
theorem wr_new (w : World) : WrAt w.heap.size w.heap.size [] (w.alloc (.cells #[.pointer none, .slice none 0 0] 71)) :=
  .inl ⟨Nat.le_refl _, .slice none 0 0, bkIn_new _ _ w, World.ownsRow_nil _ _ _ _, by simp [Value.ownBlock]⟩
theorem WrAt.below {B b : Nat} {l : List UInt8} {w w' : World} (h : WrAt B b l w) (hb : Below w.heap.size w w') : WrAt B b l w' := by
  have k : ∀ p, Lib.BuilderAt 71 5 B b p (Lib.byteCells l) w → Lib.BuilderAt 71 5 B b p (Lib.byteCells l) w' := fun p ⟨h1, v, h2, h3, h4⟩ =>
    ⟨h1, v, BkIn.below (w := w) h2 hb, own_below16 h3 hb, h4⟩
  exact h.elim (fun x => .inl (k _ x)) (fun x => .inr (k _ x))

end Go.Proofs.Ytfcmjgcjmldpcaa
