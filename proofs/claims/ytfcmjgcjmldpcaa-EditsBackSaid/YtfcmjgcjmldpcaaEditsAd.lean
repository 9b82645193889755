/- Layer 16: a state of a law in its box, and an edit done to it: what Apply tells, in one shape. -/
import Derived.Test.YtfcmjgcjmldpcaaEditsAc
import Derived.Test.YtfcmjgcjmldpcaaEditsF
namespace Go.Proofs.Ytfcmjgcjmldpcaa
set_option linter.unusedVariables false
set_option linter.unusedSimpArgs false
open Go Go.RowKit
attribute [local go_sem ↓] run_index_S
attribute [local go_sem] S_append S_extract

def Nr16 (s : Ed.St) (y : Ed.Ed) (W : World) (ao : Option Addr) (n c : Nat) (lg nx : Int) (bo : Bool) (w : World) : Prop :=
  (bo = true ∧ ∃ t Rk g, ao = some ⟨g, 0, none⟩ ∧ n = (Rk : List Rt).length ∧ lg = t.log ∧ nx = t.next ∧ Ed.apply s y = some t ∧ Own16 W g c Rk w ∧ tbs Rk = t.T) ∨ (bo = false ∧ Ed.apply s y = none)
def ApplyU (s : Ed.St) (y : Re) (w : World) (e : Ending) (w' : World) : Prop :=
  ∃ ao n c lg nx bo, e = .returned (.tuple #[.agg #[.slice ao n c, .int .i64 lg, .int .i64 nx], .bool bo]) ∧ Below w.heap.size w w' ∧ Nr16 s y.ed w ao n c lg nx bo w'
theorem applyU_any (Rs : List Rt) (hR : RtsOk Rs) (ao : Option Addr) (cap : Nat) (log next : Int) (y : Re) (hfl : y.fs.length ≤ 100000) (hkl : y.key.length ≤ 9223372036854775807) (hfi : ∀ n ∈ y.fs, -9223372036854775808 ≤ n ∧ n ≤ 9223372036854775807) (w : World) (h : TbsAt w ao Rs) (hN : NsAt w y.o y.fs) :
    Calls Try.prog 12 #[.agg #[.slice ao Rs.length cap, .int .i64 log, .int .i64 next], .agg (edA y)] w (ApplyU ⟨tbs Rs, log, next⟩ y w) :=
  (apply16_any Rs hR ao cap log next y hfl hkl hfi w h hN).mono (fun e w' ⟨hb, h⟩ => by
    rcases h with ⟨t, Rk, g, c, ha, rfl, hO, ht⟩ | ⟨ha, rfl⟩
    · exact ⟨_, _, _, _, _, _, rfl, hb, .inl ⟨rfl, t, Rk, g, rfl, rfl, rfl, rfl, ha, hO, ht⟩⟩
    · exact ⟨_, _, _, _, _, _, rfl, hb, .inr ⟨rfl, ha⟩⟩)
theorem step_store_row16 {ops : Array Oper} {o : Oper} {a : Act} {w : World} {K : Act → World → Prop} {Q : Exit → Act → World → Prop} {E : Prop} (hgd : o.guard = none) (ty : TypeId) (x y : Operand) (ho : o.op = .store ty x y)
    (g : Nat) (cells : Array Value) (hx : a.eval x = .pointer (some ⟨g, 0, none⟩)) (hy : a.eval y = .agg cells)
    (t : TypeId) (old : Array Value) (hg : w.heap[g]? = some (.cells old t (0, 0))) (hi : (Try.prog.info? ty).map (·.size) = some cells.size)
    (hold : old.size = cells.size) (h1 : cells.all (·.oneCell') = true) (h : K (a.put o.dst undef) (w.setRow g cells)) :
    if Region.wanted o (yielded ops a.tmps) = true then Oper.wp Try.prog o a w K Q else E := by
  have hw : Region.wanted o (yielded ops a.tmps) = true := by simp [Region.wanted, hgd]
  rw [if_pos hw]
  exact wp_store_row ty x y ho g cells hx hy t old hg hi hold h1 h
theorem own_nil16 (w : World) : Own16 w (w.heap.size + 1) 1 [rt0] ((w.alloc (.cells (stA (some ⟨w.heap.size + 1, 0, none⟩) 1 1 1 2) 24)).alloc (.cells #[.string ⟨#[]⟩, .slice none 0 0] 41)) := by
  have hT := bkIn_at (w := w.alloc (.cells (stA (some ⟨w.heap.size + 1, 0, none⟩) 1 1 1 2) 24)) #[.string ⟨#[]⟩, .slice none 0 0] 41 (n := w.heap.size + 1) (by simp)
  refine ⟨⟨rfl, .inr ⟨w.heap.size + 1, 1, #[.string ⟨#[]⟩, .slice none 0 0], rfl, by omega, hT, Nat.le_refl _, by unfold maxLen; omega, rfl, rfl⟩⟩, fun r hr => ?_, bel_two _ _ _⟩
  rw [List.mem_singleton.1 hr]
  exact World.ownsRow_nil _ _ _ _
set_option maxHeartbeats 2000000 in
theorem first16_own (w : World) : Calls Try.prog 22 #[] w fun e w' => ∃ g cap, e = .returned (.agg #[.slice (some ⟨g, 0, none⟩) 1 cap, .int .i64 1, .int .i64 2]) ∧ Own16 w g cap [rt0] w' := by
  go_enter Try.func22, Try.ntmps22
  go_wp2_with fail
  have hS := (bkIn_new #[.slice (some ⟨w.heap.size + 1, 0, none⟩) 1 1, .int .i64 1, .int .i64 2] 24 w).below ((Below.refl _ _).alloc (Nat.le_refl _) (.cells #[.string ⟨#[]⟩, .slice none 0 0] 41))
  exact bodyPost_ret (ret_st1 rfl _ _ w.heap.size rfl (load_st rfl hS)) rfl ⟨_, _, rfl, own_nil16 w⟩
/-- A state of one's own in its box. -/
structure One16 (W : World) (B : Nat) (s : Ed.St) (Rk : List Rt) (g c : Nat) (w : World) : Prop where
  bx : BkIn (stA (some ⟨g, 0, none⟩) Rk.length c s.log s.next) 24 w B
  ow : Own16 W g c Rk w
  T : tbs Rk = s.T
  ok : Ed.Ok s
  b0 : W.heap.size ≤ B
section
variable {W w w' : World} {B g c nb : Nat} {s : Ed.St} {Rk : List Rt} {ao : Option Addr} {y : Ed.Ed} {bo : Bool}
theorem One16.bel (h : One16 W B s Rk g c w) : Below W.heap.size W w := h.ow.bel
theorem One16.at_ (h : One16 W B s Rk g c w) : TbsAt w (some ⟨g, 0, none⟩) Rk := h.ow.at_
theorem One16.below (h : One16 W B s Rk g c w) (hb : Below w.heap.size w w') : One16 W B s Rk g c w' := ⟨h.bx.below hb, h.ow.below hb, h.T, h.ok, h.b0⟩
theorem One16.st (h : One16 W B s Rk g c w) : (⟨tbs Rk, s.log, s.next⟩ : Ed.St) = s := by rw [h.T]
theorem One16.small (h : One16 W B s Rk g c w) : RtsOk Rk := small_ok (log := s.log) (next := s.next) (by rw [h.st]; exact h.ok)
/-- What came of an edit, in a box of its own. -/
def Nw16 (W : World) (nb : Nat) (s : Ed.St) (y : Ed.Ed) (bo : Bool) (w : World) : Prop :=
  ∃ ao n c lg nx, BkIn (stA ao n c lg nx) 24 w nb ∧ Nr16 s y W ao n c lg nx bo w
theorem Nr16.below {n : Nat} {lg nx : Int} (h : Nr16 s y W ao n c lg nx bo w) (hb : Below w.heap.size w w') : Nr16 s y W ao n c lg nx bo w' := by
  rcases h with ⟨h1, t, Rk, g, h2, h3, h4, h5, h6, h7, h8⟩ | h
  · exact .inl ⟨h1, t, Rk, g, h2, h3, h4, h5, h6, h7.below hb, h8⟩
  · exact .inr h
theorem Nr16.rebase {W2 : World} {n : Nat} {lg nx : Int} (h : Nr16 s y W2 ao n c lg nx bo w) (hb : Below W.heap.size W W2) : Nr16 s y W ao n c lg nx bo w := by
  rcases h with ⟨h1, t, Rk, g, h2, h3, h4, h5, h6, h7, h8⟩ | h
  · exact .inl ⟨h1, t, Rk, g, h2, h3, h4, h5, h6, h7.rebase hb, h8⟩
  · exact .inr h
theorem Nr16.put {n : Nat} {lg nx : Int} (h : Nr16 s y W ao n c lg nx bo w) {E : Array Value} (hE : BkIn E 24 w nb) (h0 : W.heap.size ≤ nb) : Nw16 W nb s y bo (w.setRow nb (stA ao n c lg nx)) := by
  refine ⟨ao, n, c, lg, nx, hE.rowPut _, ?_⟩
  rcases h with ⟨h1, t, Rk, g, h2, h3, h4, h5, h6, h7, h8⟩ | h
  · exact .inl ⟨h1, t, Rk, g, h2, h3, h4, h5, h6, h7.rowSt hE h0 _, h8⟩
  · exact .inr h
theorem Nw16.below (h : Nw16 W nb s y bo w) (hb : Below w.heap.size w w') : Nw16 W nb s y bo w' := by
  obtain ⟨ao, n, c, lg, nx, h1, h2⟩ := h
  exact ⟨ao, n, c, lg, nx, h1.below hb, h2.below hb⟩
theorem Nw16.no (h : Nw16 W nb s y false w) : Ed.apply s y = none := by
  obtain ⟨ao, n, c, lg, nx, _, ⟨h1, _⟩ | ⟨_, h1⟩⟩ := h
  · cases h1
  · exact h1
/-- What came of an edit that may be done. -/
theorem Nw16.yes (h : Nw16 W nb s y true w) (h0 : W.heap.size ≤ nb) : ∃ t Rk g c, Ed.apply s y = some t ∧ One16 W nb t Rk g c w := by
  obtain ⟨ao, n, c, lg, nx, h1, ⟨_, t, Rk, g, rfl, rfl, rfl, rfl, h6, h7, h8⟩ | ⟨h2, _⟩⟩ := h
  · exact ⟨t, Rk, g, c, h6, ⟨h1, h7, h8, Ed.apply_ok h6, h0⟩⟩
  · cases h2
/-- .. laid into the box of the state before. -/
theorem One16.put (h : One16 W nb s Rk g c w) {E : Array Value} (hE : BkIn E 24 w B) (h0 : W.heap.size ≤ B) : One16 W B s Rk g c (w.setRow B (stA (some ⟨g, 0, none⟩) Rk.length c s.log s.next)) :=
  ⟨hE.rowPut _, h.ow.rowSt hE h0 _, h.T, h.ok, h0⟩
end
def s8 (V : World) (B : Nat) (ao : Option Addr) (n c : Nat) (lg nx : Int) (gl off : Nat) (y : Re) : Prop :=
  V.cell? ⟨B, 0, none⟩ = some (.slice ao n c) ∧ V.cell? ⟨B, 1, none⟩ = some (.int .i64 lg) ∧ V.cell? ⟨B, 2, none⟩ = some (.int .i64 nx) ∧ V.cell? ⟨gl, off, none⟩ = some (.int .i64 y.kind) ∧ V.cell? ⟨gl, off + 1, none⟩ = some (.int .i64 y.at_) ∧ V.cell? ⟨gl, off + 2, none⟩ = some (.int .i64 y.file) ∧ V.cell? ⟨gl, off + 3, none⟩ = some (.slice y.o y.fs.length y.k) ∧ V.cell? ⟨gl, off + 4, none⟩ = some (.string (S y.key))
theorem s8_of {W w : World} {B g c gl off : Nat} {s : Ed.St} {Rk : List Rt} {y : Re} (h : One16 W B s Rk g c w) (hy : EdAt w gl off y) {x : World} (hx : Below w.heap.size w x) : s8 x B (some ⟨g, 0, none⟩) Rk.length c s.log s.next gl off y :=
  have h1 := (h.below hx).bx
  have h2 := hy.below hx
  ⟨h1.cell 0, h1.cell 1, h1.cell 2, h2.1, h2.2.1, h2.2.2.1, h2.2.2.2.1, h2.2.2.2.2.1⟩

end Go.Proofs.Ytfcmjgcjmldpcaa
