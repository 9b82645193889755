/- Texts of lower layers, as one. -/
import Derived.Test.YtmammmjmipgmoaaGreatDoorZU
import Derived.Deep.Slices
import Derived.ChangeSame
import Derived.WideShapes
import Derived.OpenShut
/- Layer 5: the example. -/
namespace Go.Proofs.YtmammmjmipgmoaaGreatDoor
set_option linter.unusedVariables false
open Go Go.RowKit Go.Maps

namespace Dk
end Dk
theorem OpX.less {X X' : Nat → Prop} {B d : Nat} {r : Int × Dk.St} {w w' : World} {e : Ending} (h : OpX X B d r w e w') (hX : ∀ k, X' k → X k) : OpX X' B d r w e w' :=
  ⟨h.1, h.2.1.more (fun k hk => .inl (hX k hk)), h.2.2.mono (fun k hk => .inl ⟨hk.1, fun hx => hk.2 (hX k hx)⟩)⟩
end Go.Proofs.YtmammmjmipgmoaaGreatDoor

/- Layer 5: what comes in: numbers, acts. -/
namespace Go.Proofs.YtmammmjmipgmoaaGreatDoor
set_option linter.unusedVariables false
set_option linter.unusedSimpArgs false
set_option linter.constructorNameAsVariable false
open Go Go.RowKit

theorem i64_wf5 {n : Int} (h : (Lit.int .i64 n).wf = true) : -9223372036854775808 ≤ n ∧ n ≤ 9223372036854775807 := by
  simp [Lit.wf, IntKind.min, IntKind.max, IntKind.signed, IntKind.bits] at h
  omega
theorem u8_wf5 {n : Int} (h : (Lit.int .u8 n).wf = true) : 0 ≤ n ∧ n ≤ 255 := by
  simp [Lit.wf, IntKind.min, IntKind.max, IntKind.signed, IntKind.bits] at h
  omega
theorem mapM_get5 {f : Nat → Option Value} : ∀ (l : List Nat) (cs : List Value), l.mapM f = some cs → cs.length = l.length ∧ ∀ (j : Nat) (u : Value), cs[j]? = some u → ∃ i : Nat, l[j]? = some i ∧ f i = some u
  | [], cs, h => by simp at h; subst h; simp
  | a :: l, cs, h => by
    rw [List.mapM_cons] at h
    cases hf : f a with
    | none => simp [hf] at h
    | some v =>
      cases hm : l.mapM f with
      | none => simp [hf, hm] at h
      | some vs =>
        simp [hf, hm] at h
        subst h
        obtain ⟨h1, h2⟩ := mapM_get5 l vs hm
        refine ⟨by simp [h1], fun j u hj => ?_⟩
        cases j with
        | zero => simp at hj; exact ⟨a, rfl, by rw [hf, hj]⟩
        | succ j => simpa using h2 j u (by simpa using hj)
theorem cells_get5 {w : World} {B n : Nat} {a : Addr} {cs : List Value} (h : w.cells? B a n = some cs) : ∀ j u, cs[j]? = some u → w.cell? (a.add j) = some u := by
  unfold World.cells? at h
  split at h
  · intro j u hj
    obtain ⟨_, h2⟩ := mapM_get5 _ _ h
    obtain ⟨i, hi, hf⟩ := h2 j u hj
    obtain ⟨hlt, e⟩ := List.getElem?_eq_some_iff.1 hi
    simp at e
    subst e
    exact hf
  · cases h
theorem addr_plain5 {w : World} {a : Addr} {u : Value} (h : w.cell? a = some u) : a = ⟨a.block, a.off, none⟩ := by
  obtain ⟨b, o, s⟩ := a
  cases s with
  | none => rfl
  | some s =>
    unfold World.cell? at h
    split at h <;> simp at h
theorem choose_list5 {α : Type} (d : α) (n : Nat) {p : Nat → α → Prop} (h : ∀ i, i < n → ∃ a, p i a) : ∃ l : List α, l.length = n ∧ ∀ i, i < n → p i (l.getD i d) := by
  induction n with
  | zero => exact ⟨[], rfl, fun i hi => by omega⟩
  | succ n ih =>
    obtain ⟨l, hl, hp⟩ := ih fun i hi => h i (by omega)
    obtain ⟨a, ha⟩ := h n (by omega)
    refine ⟨l ++ [a], by simp [hl], fun i hi => ?_⟩
    by_cases hin : i < n
    · rw [show (l ++ [a]).getD i d = l.getD i d from by simp [List.getD, List.getElem?_append_left (show i < l.length by omega)]]
      exact hp i hin
    · obtain rfl : i = n := by omega
      rw [show (l ++ [a]).getD i d = a from by simp [List.getD, ← hl]]
      exact ha
/-- Numbers within their kind. -/
structure NsI5 (l : List Int) : Prop where
  n : l.length ≤ 9223372036854775807
  each : ∀ y, y ∈ l → -9223372036854775808 ≤ y ∧ y ≤ 9223372036854775807
theorem NsI5.ks {l : List Int} (h : NsI5 l) (hl : l.length ≤ 1000000) : Dk.KsOk l := ⟨hl, h.each⟩
/-- An act in memory; a row of them. -/
def RaAt (w : World) (g o : Nat) (r : Ra) : Prop := w.cell? ⟨g, o, none⟩ = some (.int .u8 r.kind) ∧ w.cell? ⟨g, o + 1, none⟩ = some (.string (S r.name)) ∧ w.cell? ⟨g, o + 2, none⟩ = some (.string (S r.other)) ∧ w.cell? ⟨g, o + 3, none⟩ = some (.string (S r.data)) ∧ w.cell? ⟨g, o + 4, none⟩ = some (.int .i64 r.n) ∧ w.cell? ⟨g, o + 5, none⟩ = some (.slice r.o r.keep.length r.k) ∧ NsA5 w r.o r.keep
def RasAt (w : World) (ao : Option Addr) (L : List Ra) : Prop := L ≠ [] → ∃ g off, ao = some ⟨g, off, none⟩ ∧ ∀ j, j < L.length → RaAt w g (off + j * 6) (L.getD j ra0)
section
variable {w w' : World} {ao : Option Addr} {L : List Ra}
theorem RaAt.below {g o : Nat} {r : Ra} (h : RaAt w g o r) (hb : Below w.heap.size w w') : RaAt w' g o r := by
  obtain ⟨h0, h1, h2, h3, h4, h5, h6⟩ := h
  exact ⟨(hb.cell (p := ⟨g, o, none⟩) (cell_lt5 h0)).trans h0, (hb.cell (p := ⟨g, o + 1, none⟩) (cell_lt5 h1)).trans h1, (hb.cell (p := ⟨g, o + 2, none⟩) (cell_lt5 h2)).trans h2, (hb.cell (p := ⟨g, o + 3, none⟩) (cell_lt5 h3)).trans h3, (hb.cell (p := ⟨g, o + 4, none⟩) (cell_lt5 h4)).trans h4, (hb.cell (p := ⟨g, o + 5, none⟩) (cell_lt5 h5)).trans h5, h6.below hb⟩
theorem RasAt.below (h : RasAt w ao L) (hb : Below w.heap.size w w') : RasAt w' ao L := fun hn => by
  obtain ⟨g, off, e, hc⟩ := h hn
  exact ⟨g, off, e, fun j hj => (hc j hj).below hb⟩
theorem RasAt.off (h : RasAt w ao L) {j : Nat} (hj : j < L.length) : ∃ g off, ao = some ⟨g, off, none⟩ ∧ RaAt w g (off + j * 6) (L.getD j ra0) := by
  obtain ⟨g, off, e, hc⟩ := h (fun h => by rw [h] at hj; simp at hj)
  exact ⟨g, off, e, hc j hj⟩
end
section
variable {H : Type} {enc : TypeId × Value → H} {W : World} {fuel : Nat} {cs : List Value} {x : DataW H × List MemPlace} {sp : Nat → Bool} {hd : Bool} {r : Reach} {b0 : Nat} {v : Value} {d : DataW H} {p : List MemPlace}
set_option maxRecDepth 100000 in
theorem ns_cells5 (hf : DataW.trod enc Tryz.prog W 0 sp hd fuel 40 cs = some x) : ∃ (L : List Int) (ao : Option Addr) (cap : Nat), cs = [.slice ao L.length cap] ∧ NsI5 L ∧ NsA5 W ao L := by
  have c8 : Tryz.prog.cellsOf 3 = 1 := by kernel_rfl
  rcases Deep.open_slice Tryz.underlying40 hf with ⟨hcs, _⟩ | ⟨a, len, cap, m, n, D, Pz, hcs, _, hl, hm, hmm, _, hx⟩
  · exact ⟨[], none, 0, hcs, ⟨by simp, by simp⟩, fun h => absurd rfl h⟩
  · rw [c8] at hx
    have hlm : len ≤ m := by rw [hmm]; split <;> omega
    unfold maxLen at hm
    obtain ⟨L, hL, hp⟩ := choose_list5 (0 : Int) len (p := fun i y => W.cells? 0 (a.add (i * 1)) 1 = some ([.int .i64 y]) ∧ -9223372036854775808 ≤ y ∧ y ≤ 9223372036854775807) (fun i hi => by
      obtain ⟨cs', h1, h2⟩ := hx i (by omega)
      obtain ⟨y, e, _, w0⟩ := DataW.trod_int Tryz.underlying3 h2
      exact ⟨y, by rw [h1, e], i64_wf5 w0⟩)
    refine ⟨L, some a, cap, by rw [hcs, hL], ⟨by omega, fun y hym => ?_⟩, fun hne => ?_⟩
    · obtain ⟨i, hi, rfl⟩ := List.mem_iff_getElem.1 hym
      have := (hp i (by omega)).2
      simpa [List.getD, List.getElem?_eq_getElem hi] using this
    · have h0 : 0 < len := by rw [← hL]; exact List.length_pos_iff.2 hne
      have e := addr_plain5 (cells_get5 (hp 0 h0).1 0 _ rfl)
      simp only [Nat.zero_mul, show ∀ x : Addr, x.add 0 = x from fun x => if_pos rfl] at e
      refine ⟨a.block, a.off, by rw [← e], fun j hj => ?_⟩
      have hc := cells_get5 (hp j (by omega)).1
      rw [e, Addr.add_lit] at hc
      have := hc 0 _ rfl
      rw [show ∀ x : Addr, x.add 0 = x from fun x => if_pos rfl] at this
      simpa using this
def UNs5 (W : World) (v : Value) : Prop := ∃ (L : List Int) (ao : Option Addr) (cap : Nat), v = .slice ao L.length cap ∧ NsI5 L ∧ NsA5 W ao L
set_option maxRecDepth 100000 in
theorem open_ns5 (hv : Value.okWide Tryz.prog W r b0 40 v) (h : DataW.Trod enc Tryz.prog W 0 (fun _ => true) true 40 v d p) : UNs5 W v := by
  obtain ⟨a0, len, cap, rfl⟩ := WideShapes.okWide_slice Tryz.underlying40 hv
  obtain ⟨fuel, hf⟩ := h
  obtain ⟨L, ao, cap', hcs, h1, h2⟩ := ns_cells5 hf
  simp [Value.cells] at hcs
  obtain ⟨rfl, rfl, rfl⟩ := hcs
  exact ⟨L, a0, cap, rfl, h1, h2⟩
end
section
variable {H : Type} {enc : TypeId × Value → H} {W : World} {r : Reach} {b0 : Nat} {v : Value} {d : DataW H} {p : List MemPlace}
end

end Go.Proofs.YtmammmjmipgmoaaGreatDoor

/- Layer 5: more than is gone through. -/
namespace Go.Proofs.YtmammmjmipgmoaaGreatDoor
set_option linter.unusedVariables false
open Go Go.RowKit Go.Maps

end Go.Proofs.YtmammmjmipgmoaaGreatDoor

/- Layer 5: what acts leave as it was. -/
namespace Go.Proofs.YtmammmjmipgmoaaGreatDoor
set_option linter.unusedVariables false
open Go Go.RowKit Go.Maps

namespace Dk
/-- Of one disk, started so often or once more. -/
structure Kin (D D' : St) : Prop where
  room : D'.room = D.room
  starts : D'.starts ≤ D.starts + 1
theorem Kin.rfl (D : St) : Kin D D := ⟨by exact Eq.refl _, Nat.le_succ _⟩
/-- Acts one behind the other. -/
def acts (L : List Ra) (D : St) : St := L.foldl (fun D r => (act r D).2) D
end Dk
theorem DkX.newrow {X : Nat → Prop} {B d : Nat} {D : Dk.St} {w w' : World} (h : DkX X B d D w) (hb : Below w.heap.size w w') : DkX (fun q => X q ∨ (w.heap.size ≤ q ∧ q < w'.heap.size)) B d D w' :=
  (h.more (fun q hq => hq.elim .inl (fun e => .inr e.1))).below hb
theorem DkX.less {X X' : Nat → Prop} {B d : Nat} {D : Dk.St} {w : World} (h : DkX X B d D w) (hX : ∀ k, X' k → X k) : DkX X' B d D w := h.more (fun k hk => .inl (hX k hk))
/-- An act of a row that came in, as it is to be done. -/
structure ActAt (B : Nat) (w : World) (g o : Nat) (r : Ra) : Prop where
  at_ : RaAt w g o r
  lt : g < B
  keep : ∀ a, r.keep ≠ [] → r.o = some a → a.block < B
theorem ActAt.below {B : Nat} {w w' : World} {g o : Nat} {r : Ra} (h : ActAt B w g o r) (hb : Below B w w') : ActAt B w' g o r := by
  obtain ⟨⟨h0, h1, h2, h3, h4, h5, h6⟩, hl, hk⟩ := h
  have c : ∀ j, w'.cell? ⟨g, j, none⟩ = w.cell? ⟨g, j, none⟩ := fun j => hb.cell (p := ⟨g, j, none⟩) hl
  refine ⟨⟨(c _).trans h0, (c _).trans h1, (c _).trans h2, (c _).trans h3, (c _).trans h4, (c _).trans h5, fun hn => ?_⟩, hl, hk⟩
  obtain ⟨g', o', e', hc'⟩ := h6 hn
  exact ⟨g', o', e', fun j hj => (hb.cell (p := ⟨g', o' + j, none⟩) (show g' < B from hk _ hn e')).trans (hc' j hj)⟩
end Go.Proofs.YtmammmjmipgmoaaGreatDoor

/- Layer 5: Played, texts. -/
namespace Go.Proofs.YtmammmjmipgmoaaGreatDoor
set_option linter.unusedVariables false
open Go Go.RowKit Go.Maps

def Dk.dats (L : List Dk.Fl) : List (List UInt8) := L.map (·.dat)
section
variable {X : Nat → Prop} {B d : Nat} {D : Dk.St} {w : World}
end

end Go.Proofs.YtmammmjmipgmoaaGreatDoor
