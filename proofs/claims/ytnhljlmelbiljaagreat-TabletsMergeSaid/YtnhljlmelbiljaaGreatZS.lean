/- Texts of lower layers, as one. -/
import Derived.Test.YtnhljlmelbiljaaGreatZQ
import Derived.Test.YtnhljlmelbiljaaGreatZO
import Derived.Test.YtnhljlmelbiljaaGreatZJ
import Derived.BigQuiet
/- Layer 11: the laws' example: its rows. -/
namespace Go.Proofs.YtnhljlmelbiljaaGreat
set_option linter.unusedVariables false
open Go Go.RowKit
attribute [local go_sem ↓] run_index_S
attribute [local go_sem] S_append S_extract

def M.ca5 : M.Cl := ⟨[97], 5, []⟩
def M.cb2 : M.Cl := ⟨[98], 2, []⟩
def M.ca7 : M.Cl := ⟨[97], 7, []⟩
def M.ca5x : M.Cl := ⟨[97], 5, [120]⟩
def M.cc1 : M.Cl := ⟨[99], 1, []⟩
/-- A row whose cells lie one behind the other from the beginning of a block. -/
structure RowBlk (w : World) (a : Nat) (L : List M.Cl) : Prop where
  r : RowIn (cls L).toArray 38 w a
theorem RowBlk.clsAt {w : World} {a : Nat} {L : List M.Cl} (h : RowBlk w a L) : ClsAt w (some ⟨a, 0, none⟩) L := clsAt_row h.r (by simp)
theorem RowBlk.below {w w' : World} {a : Nat} {L : List M.Cl} (h : RowBlk w a L) (hb : Below w.heap.size w w') : RowBlk w' a L := ⟨h.r.below hb⟩
/-- Two rows. -/
structure Rws2 (w : World) (r a b : Nat) (L K : List M.Cl) : Prop where
  rr : RowIn #[.slice (some ⟨a, 0, none⟩) L.length L.length, .slice (some ⟨b, 0, none⟩) K.length K.length] 22 w r
  ra : RowBlk w a L
  rb : RowBlk w b K
theorem Rws2.below {w w' : World} {r a b : Nat} {L K : List M.Cl} (h : Rws2 w r a b L K) (hb : Below w.heap.size w w') : Rws2 w' r a b L K := ⟨h.rr.below hb, h.ra.below hb, h.rb.below hb⟩
def rws2L (a b : Nat) (L K : List M.Cl) : List M.Rw := [⟨L, some ⟨a, 0, none⟩, L.length⟩, ⟨K, some ⟨b, 0, none⟩, K.length⟩]
theorem Rws2.at_ {w : World} {r a b : Nat} {L K : List M.Cl} (h : Rws2 w r a b L K) : RwsAt w (some ⟨r, 0, none⟩) (rws2L a b L K) := fun _ =>
  ⟨r, 0, rfl, fun j hj => by
    match j, hj with
    | 0, _ => exact ⟨h.rr.cell 0, h.ra.clsAt⟩
    | 1, _ => exact ⟨h.rr.cell 1, h.rb.clsAt⟩
    | j + 2, hj => simp [rws2L] at hj; omega⟩
def M.someL : List M.Cl := [M.ca5, M.cb2]
def M.someK : List M.Cl := [M.ca7, M.ca5x, M.cc1]
def M.allS : List M.Cl := [M.ca7, M.ca5, M.ca5x, M.cb2, M.cc1]
def M.newS : List M.Cl := [M.ca7, M.cb2, M.cc1]
end Go.Proofs.YtnhljlmelbiljaaGreat

/- Layer 11: the laws' example, by a contract. -/
namespace Go.Proofs.YtnhljlmelbiljaaGreat
set_option linter.unusedVariables false
open Go Go.RowKit
attribute [local go_sem ↓] run_index_S
attribute [local go_sem] S_append S_extract

/-- What holds in the example's last statement. -/
structure Ed11 (w : World) (r a b : Nat) (a2 a3 : Option Addr) (W : World) : Prop where
  hr : Rws2 W r a b M.someL M.someK
  hb : Below w.heap.size w W
  k1 : ClsAt W a2 M.allS
  k2 : ClsAt W a3 M.newS
theorem Ed11.below {w : World} {r a b : Nat} {a2 a3 : Option Addr} {W W' : World} (h : Ed11 w r a b a2 a3 W) (hb : Below W.heap.size W W') : Ed11 w r a b a2 a3 W' := ⟨h.hr.below hb, h.hb.trans (hb.mono h.hb.size), h.k1.below hb, h.k2.below hb⟩
theorem Ed11.s {w : World} {r a b : Nat} {a2 a3 : Option Addr} {W : World} (h : Ed11 w r a b a2 a3 W) : W.cell? ⟨r, 0, none⟩ = some (.slice (some ⟨a, 0, none⟩) 2 2) ∧ W.cell? ⟨r, 1, none⟩ = some (.slice (some ⟨b, 0, none⟩) 3 3) ∧ W.cell? ⟨a, 0, none⟩ = some (.string ⟨#[97]⟩) ∧ W.cell? ⟨a, 1, none⟩ = some (.int .i64 5) ∧ W.cell? ⟨a, 2, none⟩ = some (.string ⟨#[]⟩) ∧ W.cell? ⟨a, 3, none⟩ = some (.string ⟨#[98]⟩) ∧ W.cell? ⟨a, 4, none⟩ = some (.int .i64 2) ∧ W.cell? ⟨a, 5, none⟩ = some (.string ⟨#[]⟩) ∧ W.cell? ⟨b, 0, none⟩ = some (.string ⟨#[97]⟩) ∧ W.cell? ⟨b, 1, none⟩ = some (.int .i64 7) ∧ W.cell? ⟨b, 2, none⟩ = some (.string ⟨#[]⟩) ∧ W.cell? ⟨b, 3, none⟩ = some (.string ⟨#[97]⟩) ∧ W.cell? ⟨b, 4, none⟩ = some (.int .i64 5) ∧ W.cell? ⟨b, 5, none⟩ = some (.string ⟨#[120]⟩) ∧ W.cell? ⟨b, 6, none⟩ = some (.string ⟨#[99]⟩) ∧ W.cell? ⟨b, 7, none⟩ = some (.int .i64 1) ∧ W.cell? ⟨b, 8, none⟩ = some (.string ⟨#[]⟩) :=
  ⟨h.hr.rr.cell 0, h.hr.rr.cell 1, h.hr.ra.r.cell 0, h.hr.ra.r.cell 1, h.hr.ra.r.cell 2, h.hr.ra.r.cell 3, h.hr.ra.r.cell 4, h.hr.ra.r.cell 5, h.hr.rb.r.cell 0, h.hr.rb.r.cell 1, h.hr.rb.r.cell 2, h.hr.rb.r.cell 3, h.hr.rb.r.cell 4, h.hr.rb.r.cell 5, h.hr.rb.r.cell 6, h.hr.rb.r.cell 7, h.hr.rb.r.cell 8⟩
end Go.Proofs.YtnhljlmelbiljaaGreat

/- Layer 11: rows of rows of cells that come in; whether they are more than is gone through. -/
namespace Go.Proofs.YtnhljlmelbiljaaGreat
set_option linter.unusedVariables false
open Go Go.RowKit
attribute [local go_sem ↓] run_index_S
attribute [local go_sem] S_append S_extract

/-- Rows as they come in. -/
structure RwIn (r : M.Rw) : Prop where
  ints : ∀ y, y ∈ r.l → y.ints
  len : r.l.length ≤ 9223372036854775807
  cap : r.l.length ≤ r.k
section
variable {H : Type} {enc : TypeId × Value → H} {W : World} {fuel : Nat} {cs : List Value} {x : DataW H × List MemPlace} {B : Nat} {sp : Nat → Bool} {hd : Bool}
end
section
variable {H : Type} {enc : TypeId × Value → H} {W : World} {r : Reach} {b0 : Nat} {v : Value} {d : DataW H} {p : List MemPlace}
end
structure SmallRs (Rs : List M.Rw) : Prop where
  n : Rs.length ≤ 20
  each : ∀ r, r ∈ Rs → SmallCs9 r.l 200
  tot : ((M.rls Rs).map List.length).sum ≤ 300
theorem SmallRs.ok {Rs : List M.Rw} (h : SmallRs Rs) (hi : ∀ r, r ∈ Rs → RwIn r) : RsOk Rs :=
  ⟨by have := h.n; omega, fun r hr => by have := (h.each r hr).1; omega, fun r hr c hc => by
    have h1 := (h.each r hr).2 c hc
    exact ⟨by have := h1.1; omega, by have := h1.2; omega, (hi r hr).ints c hc⟩, by have := h.tot; unfold M.rls at this; omega⟩
theorem sum_le11 : ∀ (Rs : List M.Rw) (m : Nat), (∀ r, r ∈ Rs → r.l.length ≤ m) → ((M.rls Rs).map List.length).sum ≤ Rs.length * m
  | [], m, _ => by simp [M.rls]
  | r :: Rs, m, h => by
    have h1 := sum_le11 Rs m (fun r hr => h r (by simp [hr]))
    have h2 := h r (by simp)
    simp only [M.rls, List.map_cons, List.sum_cons, List.length_cons, Nat.add_mul] at *
    omega
end Go.Proofs.YtnhljlmelbiljaaGreat

/- Layer 11: how often a list has a cell. -/
namespace Go.Proofs.YtnhljlmelbiljaaGreat
set_option linter.unusedVariables false
open Go Go.RowKit
attribute [local go_sem ↓] run_index_S
attribute [local go_sem] S_append S_extract

def M.eqC (a b : M.Cl) : Bool := a.key == b.key && (a.seq == b.seq && a.val == b.val)
theorem M.eqC_iff {a b : M.Cl} : M.eqC a b = true ↔ a = b := by
  obtain ⟨a1, a2, a3⟩ := a
  obtain ⟨b1, b2, b3⟩ := b
  simp [M.eqC]
def M.cnt (c : M.Cl) (L : List M.Cl) : Nat := (L.filter (fun x => M.eqC x c)).length
end Go.Proofs.YtnhljlmelbiljaaGreat

/- Layer 11: All and Newest of rows whose merge is named, by contracts; two rows. -/
namespace Go.Proofs.YtnhljlmelbiljaaGreat
set_option linter.unusedVariables false
open Go Go.RowKit
attribute [local go_sem ↓] run_index_S
attribute [local go_sem] S_append S_extract

end Go.Proofs.YtnhljlmelbiljaaGreat

/- Layer 11: rows in memory of their own: the laws' twins of rows, and whether they are what they were. -/
namespace Go.Proofs.YtnhljlmelbiljaaGreat
set_option linter.unusedVariables false
open Go Go.RowKit
attribute [local go_sem ↓] run_index_S
attribute [local go_sem] S_append S_extract

def rwsV (Ts : List M.Rw) : List Value := Ts.map (fun r => .slice r.o r.l.length r.k)
theorem rwsV_append (A B : List M.Rw) : rwsV (A ++ B) = rwsV A ++ rwsV B := by simp [rwsV]
theorem rwsV_get {Ts : List M.Rw} {j : Nat} (h : j < Ts.length) : (rwsV Ts)[j]? = some (.slice (Ts.getD j M.rw0).o (Ts.getD j M.rw0).l.length (Ts.getD j M.rw0).k) := by
  simp [rwsV, List.getD, h]
theorem rwsV_one (Ts : List M.Rw) : ∀ u ∈ rwsV Ts, u.oneCell' = true := fun u hu => by
  simp only [rwsV, List.mem_map] at hu
  obtain ⟨r, _, rfl⟩ := hu
  rfl
/-- A twin: a row of the call's own, with one cell more behind. -/
def TwR (B : Nat) (w : World) (r : M.Rw) : Prop := ∃ q, r.o = some ⟨q, 0, none⟩ ∧ w.ownsRow B 38 3 (.slice (some ⟨q, 0, none⟩) (r.l.length + 1) r.k) (r.l.length + 1) (cls (r.l ++ [c70]))
theorem TwR.below {B : Nat} {w w' : World} {r : M.Rw} (h : TwR B w r) (hb : Below w.heap.size w w') : TwR B w' r := by
  obtain ⟨q, e, h⟩ := h
  exact ⟨q, e, ownP_below h hb⟩
theorem TwR.cls {B : Nat} {w : World} {r : M.Rw} (h : TwR B w r) : ∃ q, r.o = some ⟨q, 0, none⟩ ∧ ClsAt w (some ⟨q, 0, none⟩) (r.l ++ [c70]) ∧ r.l.length + 1 ≤ r.k := by
  obtain ⟨q, e, h⟩ := h
  exact ⟨q, e, clsAt_own h (by simp), ownC_cap h⟩
theorem TwR.mono {B B' : Nat} {w : World} {r : M.Rw} (h : TwR B' w r) (hB : B ≤ B') : TwR B w r := by
  obtain ⟨q, e, h⟩ := h
  exact ⟨q, e, ownP_mono h hB⟩
structure Tws (B : Nat) (w : World) (ao : Option Addr) (cap : Nat) (R : List (List M.Cl)) (Ts : List M.Rw) : Prop where
  row : w.ownsRow B 22 1 (.slice ao Ts.length cap) Ts.length (rwsV Ts)
  same : M.rls Ts = R
  each : ∀ r, r ∈ Ts → TwR B w r
theorem Tws.below {B : Nat} {w w' : World} {ao : Option Addr} {cap : Nat} {R : List (List M.Cl)} {Ts : List M.Rw} (h : Tws B w ao cap R Ts) (hb : Below w.heap.size w w') : Tws B w' ao cap R Ts :=
  ⟨ownP_below h.row hb, h.same, fun r hr => (h.each r hr).below hb⟩
theorem Tws.at_ {B : Nat} {w : World} {ao : Option Addr} {cap : Nat} {R : List (List M.Cl)} {Ts : List M.Rw} (h : Tws B w ao cap R Ts) : RwsAt w ao Ts := fun hn => by
  have hl : 0 < Ts.length := by cases Ts with
    | nil => exact absurd rfl hn
    | cons _ _ => simp
  obtain ⟨g, cap', e, _, hc⟩ := own_slice10 h.row hl
  injection e with e1 e2 e3
  refine ⟨g, 0, e1, fun j hj => ?_⟩
  rw [Nat.zero_add]
  refine ⟨hc j _ (rwsV_get hj), ?_⟩
  obtain ⟨q, e, hq, _⟩ := (h.each _ (M.getD_memR hj)).cls
  rw [e]
  exact clsAt_pre9 hq
/-- What an append of a row comes to. -/
theorem Tws.snoc {B : Nat} {w w' : World} {ao ao' : Option Addr} {cap cap' : Nat} {R : List (List M.Cl)} {Ts : List M.Rw} {r : M.Rw} (h : Tws B w ao cap R Ts) (hr : TwR B w r) (ho : w'.ownsRow B 22 1 (.slice ao' (Ts.length + 1) cap') (Ts.length + 1) (rwsV Ts ++ rwsV [r])) (hg : w.grownBy w' (Value.slice ao Ts.length cap).ownBlock) :
    Tws B w' ao' cap' (R ++ [r.l]) (Ts ++ [r]) := by
  have keep : ∀ x, TwR B w x → TwR B w' x := fun x hx => by
    obtain ⟨q, e, hx⟩ := hx
    exact ⟨q, e, hx.kept hg (own_apart hx h.row (by decide))⟩
  refine ⟨?_, ?_, fun x hx => ?_⟩
  · rw [List.length_append, rwsV_append]; exact ho
  · simp only [M.rls, List.map_append, List.map_cons, List.map_nil]
    rw [show List.map (fun r => r.l) Ts = R from h.same]
  · rcases List.mem_append.1 hx with hx | hx
    · exact keep x (h.each x hx)
    · rw [List.mem_singleton] at hx
      subst hx
      exact keep x hr
/-- 'make([][]Cell, 0, n)'. -/
theorem infoRw_parts : ∃ (i0 : TypeInfo) (z : Value), Tryz.prog.info? 22 = some i0 ∧ i0.zero = some z ∧ i0.size = 1 ∧ i0.bytes = 24 ∧ z.cells.size = 1 := by
  have h : (Tryz.prog.info? 22).map (fun i => (i.zero.map (fun z => z.cells.size), i.size, i.bytes)) = some (some 1, 1, 24) := by kernel_rfl
  cases hi : Tryz.prog.info? 22 with
  | none => rw [hi] at h; cases h
  | some i0 =>
    rw [hi] at h
    cases hz : i0.zero with
    | none => simp [hz] at h
    | some z =>
      simp [hz] at h
      exact ⟨i0, z, rfl, hz, h.2.1, h.2.2, h.1⟩
end Go.Proofs.YtnhljlmelbiljaaGreat
