/- Layer 4: the program's iterator over frames (each), by the contract of a range over a function. -/
import Derived.Test.YtehcedepiepbiaaFramesW
import Derived.RangeFuncNested
import Derived.RangeFuncBound
import Derived.RangeFuncCalls
import Derived.RangeFuncLeaves
import Derived.Shelf.Abstract
import Derived.Shelf.RegionOpen
import Derived.OwnWalkIn
import Derived.TacticsInMore
import Derived.LoopNIn
import Derived.LoopIn
namespace Go.Proofs.Ytehcedepiepbiaa
set_option linter.unusedVariables false
open Go Go.RowKit Go.Shelf
attribute [local go_sem ↓] run_index_S
attribute [local go_sem] S_append S_extract
attribute [local go_sem] Oper.semAt_some

abbrev encF (x : List UInt8 × Nat) : Array Value := #[.string (S x.1), .int .i64 (x.2 : Nat)]

/-- The frames from a place on, each with its end. -/
def M.runs (s : List UInt8) (e : Nat) : List (List UInt8 × Nat) :=
  match h : M.next s e with
  | none => []
  | some (p, z) => (p, z) :: M.runs s z
termination_by s.length - e
decreasing_by
  have := M.next_bounds h
  omega
theorem M.runs_none {s : List UInt8} {e : Nat} (h : M.next s e = none) : M.runs s e = [] := by
  rw [M.runs]
  split
  · rfl
  · rename_i p z h'
    rw [h] at h'; simp at h'
theorem M.runs_some {s p : List UInt8} {e z : Nat} (h : M.next s e = some (p, z)) : M.runs s e = (p, z) :: M.runs s z := by
  rw [M.runs]
  split
  · rename_i h'
    rw [h] at h'; simp at h'
  · rename_i p' z' h'
    rw [h] at h'
    simp only [Option.some.injEq, Prod.mk.injEq] at h'
    rw [← h'.1, ← h'.2]

theorem below_grownBy {w w' : World} (h : Below w.heap.size w w') : w.grownBy w' none :=
  ⟨h.os, h.tape, h.output, h.size, fun k hk _ => h.block k hk⟩

/-- What a round keeps for the iterator: its box. -/
def KpB (b : Nat) (W W' : World) : Prop := W'.cell? ⟨b, 0, none⟩ = W.cell? ⟨b, 0, none⟩ ∧ W.heap.size ≤ W'.heap.size
theorem kpB_t {b : Nat} {A B C : World} (h : KpB b A B) (k : KpB b B C) : KpB b A C := ⟨k.1.trans h.1, Nat.le_trans h.2 k.2⟩
theorem kpB_b {b : Nat} {w : World} (hb : b < w.heap.size) (W : World) (l : Nat) (o o' : Obj) (hl : w.heap.size ≤ l) (h : W.heap[l]? = some o) (_ : o.isCells = false) (_ : o.isWalk = false) : KpB b W (W.putObj l o') :=
  ⟨World.cell?_of_block ((grownBy_putObj' W l o').block b (by have := (Array.getElem?_eq_some_iff.1 h).1; omega) (by simp; omega)), (grownBy_putObj' W l o').size⟩

def leftF (L : Nat) (nx ok : Value) : Nat := match ok with
  | .bool true => L + 1 - (intOf nx).toNat
  | _ => 0

def frV (r : Option (List UInt8 × Nat)) : Value × Value × Value := match r with
  | some (p, e) => (.string (S p), .int .i64 e, .bool true)
  | none => (.string (S []), .int .i64 0, .bool false)
theorem triF_frV (r : Option (List UInt8 × Nat)) : triF r = .tuple #[(frV r).1, (frV r).2.1, (frV r).2.2] := by
  cases r with
  | none => rfl
  | some q => rfl
theorem leftF_lt (l : List UInt8) (z : Nat) (hz : z ≤ l.length) : leftF l.length (frV (M.next l z)).2.1 (frV (M.next l z)).2.2 < l.length + 1 - z := by
  cases h : M.next l z with
  | none => simp only [frV, leftF]; omega
  | some r =>
    obtain ⟨p, e⟩ := r
    have hb := M.next_bounds h
    simp only [frV, leftF, intOf]
    omega
/-- Where the iterator stands ahead of a round. -/
def StepE (l : List UInt8) (J : List (List UInt8 × Nat) → World → Prop) (b n₀ : Nat) (p nx ok : Value) (wr : World) : Prop :=
  ∃ (pre : List (List UInt8 × Nat)) (z : Nat), p = (frV (M.next l z)).1 ∧ nx = (frV (M.next l z)).2.1 ∧ ok = (frV (M.next l z)).2.2 ∧ z ≤ l.length ∧ J pre wr ∧ 8 * pre.length ≤ z ∧ pre ++ M.runs l z = M.runs l 0 ∧ wr.cell? ⟨b, 0, none⟩ = some (.string (S l)) ∧ n₀ ≤ wr.heap.size

set_option maxHeartbeats 1000000 in
theorem each1_in (l : List UInt8) (hl : l.length ≤ 1000000) (n : Nat) (hn : 1 ≤ n) (lp b n₀ B0 : Nat) (hbn : b < n₀) (J Jx : List (List UInt8 × Nat) → World → Prop) (hJ : AbidesFrom B0 J)
    (hY : ∀ pre x W, J pre W → pre.length < l.length + 1 → YieldAt Fence.wide (n - 1) Try.prog lp (encF x) W fun e W' =>
      (e = .returned (.bool true) ∧ J (pre ++ [x]) W' ∧ KpB b W W') ∨ (e = .returned (.bool false) ∧ Jx (pre ++ [x]) W'))
    (W : World) (hc : W.cell? ⟨b, 0, none⟩ = some (.string (S l))) (hn₀ : n₀ ≤ W.heap.size) (h0 : J [] W) :
    CallsIn Fence.wide n Try.prog 34 #[.func (.yield lp) #[] #[], .pointer (some ⟨b, 0, none⟩)] W fun e W' => (∃ v, e = .returned v) ∧
      ((∃ ys, ys = M.runs l 0 ∧ J ys W') ∨ (∃ pre : List (List UInt8 × Nat), True ∧ Jx pre W')) := by
  have cn := fun (z : Nat) W => next_any l (by omega) (z : Int) W
  have CN := Lib.hid cn
  clear cn
  refine callsIn_of_wp Try.func34 rfl trivial ?_ rfl
  simp only [Try.ntmps34, List.size_toArray, List.length_cons, List.length_nil, Nat.reduceAdd, Nat.reduceSub, Array.replicate_succ, Array.replicate_zero, List.push_toArray, List.append_toArray, List.nil_append, List.cons_append]
  have rel0 : ∀ (W' : World) (pre : List (List UInt8 × Nat)) (z : Nat), z ≤ l.length → J pre W' → 8 * pre.length ≤ z → pre ++ M.runs l z = M.runs l 0 → W'.cell? ⟨b, 0, none⟩ = some (.string (S l)) → n₀ ≤ W'.heap.size →
      StepE l J b n₀ (frV (M.next l z)).1 (frV (M.next l z)).2.1 (frV (M.next l z)).2.2 W' := fun W' pre z h1 h2 h3 h4 h5 h6 => ⟨pre, z, rfl, rfl, rfl, h1, h2, h3, h4, h5, h6⟩
  have R0 := Lib.hid rel0
  clear rel0
  gi_wp2
  have c0 : ∀ W, Calls Try.prog 15 #[.string (S l), .int .i64 0] W fun e w' => e = .returned (.tuple #[(frV (M.next l 0)).1, (frV (M.next l 0)).2.1, (frV (M.next l 0)).2.2]) ∧ Below W.heap.size W w' := fun W => by
    have := CN.out 0 W
    rw [M.nextI_nat, triF_frV] at this
    exact this
  refine ⟨trivial, (callsIn_wide.2 (c0 _)).mono ?_⟩
  rintro e W1 ⟨rfl, hb1⟩
  have s1 := R0.out W1 [] 0 (by omega) (hJ _ _ _ none h0 (below_grownBy hb1) (fun r e => by cases e)) (by simp) (by simp) ((hb1.cell (p := ⟨b, 0, none⟩) (by simp; omega)).trans hc) (Nat.le_trans hn₀ hb1.size)
  generalize (frV (M.next l 0)).1 = v3 at *
  generalize (frV (M.next l 0)).2.1 = v4 at *
  generalize (frV (M.next l 0)).2.2 = v5 at *
  have S1 := Lib.hid s1
  clear s1 c0 hb1 h0 hc
  gi_wp2
  gi_loopw [3, 4, 5] (fun p nx ok wr => StepE l J b n₀ p nx ok wr) (fun _ nx ok _ => leftF l.length nx ok)
  case atStart => exact S1.out
  case round =>
    obtain ⟨pre, z, rfl, rfl, rfl, hz, hj, h8, hru, hc, hn₀'⟩ := hrel
    cases hx : M.next l z with
    | none =>
      simp only [frV]
      gi_wp2
      refine ⟨fun _ h => (by cases h), ?_⟩
      gi_wp2
      go_end0
      exact ⟨⟨_, rfl⟩, .inl ⟨pre, by rw [← hru, M.runs_none hx]; simp, hj⟩⟩
    | some r =>
      obtain ⟨p, z2⟩ := r
      simp only [frV]
      have hbd := M.next_bounds hx
      have q1 := hbd.2.1
      have q2 := hbd.2.2.1
      have hru2 : (pre ++ [(p, z2)]) ++ M.runs l z2 = M.runs l 0 := by rw [← hru, M.runs_some hx]; simp
      have HRU := Lib.hid hru2
      clear hbd hru hru2
      obtain ⟨fn, tmps, assign, body, hy, hR⟩ := hY pre (p, z2) _ hj (by omega)
      dsimp only [encF] at hy
      have c1 : ∀ W, Calls Try.prog 15 #[.string (S l), .int .i64 z2] W fun e w' => e = .returned (.tuple #[(frV (M.next l z2)).1, (frV (M.next l z2)).2.1, (frV (M.next l z2)).2.2]) ∧ Below W.heap.size W w' := fun W => by
        have := CN.out z2 W
        rw [M.nextI_nat, triF_frV] at this
        exact this
      have C1 := Lib.hid c1
      clear c1 hx
      gi_wp2
      refine hR.mono ?_
      rintro e W3 (⟨rfl, hJ3, hk3⟩ | ⟨rfl, hJx3⟩)
      · have hc3 : W3.cell? ⟨b, 0, none⟩ = some (.string (S l)) := hk3.1.trans hc
        have hs3 := Nat.le_trans hn₀' hk3.2
        gi_wp2
        refine ⟨trivial, (callsIn_wide.2 (C1.out _)).mono ?_⟩
        rintro e W4 ⟨rfl, hb4⟩
        have s4 := R0.out W4 (pre ++ [(p, z2)]) z2 q2 (hJ _ _ _ none hJ3 (below_grownBy hb4) (fun r e => by cases e)) (by simp; omega) HRU.out ((hb4.cell (p := ⟨b, 0, none⟩) (by simp; omega)).trans hc3) (Nat.le_trans hs3 hb4.size)
        have hm := leftF_lt l z2 q2
        generalize (frV (M.next l z2)).1 = y3 at *
        generalize (frV (M.next l z2)).2.1 = y4 at *
        generalize (frV (M.next l z2)).2.2 = y5 at *
        have S4 := Lib.hid s4
        have HM := Lib.hid hm
        clear s4 hm hb4 C1
        gi_wp2
        go_roundw
        case rel => exact S4.out
        case measure => simpa [leftF, intOf] using HM.out
      · gi_wp2
        go_end0
        exact ⟨⟨_, rfl⟩, .inr ⟨_, trivial, hJx3⟩⟩

end Go.Proofs.Ytehcedepiepbiaa
