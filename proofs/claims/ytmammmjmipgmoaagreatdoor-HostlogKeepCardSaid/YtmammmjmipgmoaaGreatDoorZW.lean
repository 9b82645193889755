/- Texts of lower layers, as one. -/
import Derived.Test.YtmammmjmipgmoaaGreatDoorZV
import Derived.Deep.CutRange
import Derived.BigQuiet
/- Layer 5: DiskCrash, walked. -/
namespace Go.Proofs.YtmammmjmipgmoaaGreatDoor
set_option linter.unusedVariables false
open Go Go.RowKit Go.Maps

namespace Dk
def woke (D : St) : St := { D with up := true, starts := D.starts + 1 }
end Dk
/-- Rows that a law keeps: of texts, of numbers; they lie in blocks of P. -/
def TsK (P : Nat → Prop) (w : World) (ao : Option Addr) (l : List (List UInt8)) : Prop := TsA5 w ao l ∧ ∀ a, l ≠ [] → ao = some a → P a.block
def NsK (P : Nat → Prop) (w : World) (ao : Option Addr) (l : List Int) : Prop := NsA5 w ao l ∧ ∀ a, l ≠ [] → ao = some a → P a.block
section
variable {P P' A : Nat → Prop} {w w' : World} {ao : Option Addr}
theorem TsK.wr {l : List (List UInt8)} (h : TsK P w ao l) (hw : Wr A w w') (hA : ∀ q, P q → ¬ A q) : TsK P w' ao l := ⟨h.1.wr hw (fun a hn ha => hA _ (h.2 a hn ha)), h.2⟩
theorem NsK.wr {l : List Int} (h : NsK P w ao l) (hw : Wr A w w') (hA : ∀ q, P q → ¬ A q) : NsK P w' ao l := ⟨h.1.wr hw (fun a hn ha => hA _ (h.2 a hn ha)), h.2⟩
theorem TsK.below {l : List (List UInt8)} (h : TsK P w ao l) (hb : Below w.heap.size w w') : TsK P w' ao l := ⟨h.1.below hb, h.2⟩
theorem NsK.below {l : List Int} (h : NsK P w ao l) (hb : Below w.heap.size w w') : NsK P w' ao l := ⟨h.1.below hb, h.2⟩
theorem TsK.mono {l : List (List UInt8)} (h : TsK P w ao l) (hP : ∀ q, P q → P' q) : TsK P' w ao l := ⟨h.1, fun a hn ha => hP _ (h.2 a hn ha)⟩
theorem NsK.mono {l : List Int} (h : NsK P w ao l) (hP : ∀ q, P q → P' q) : NsK P' w ao l := ⟨h.1, fun a hn ha => hP _ (h.2 a hn ha)⟩
end
theorem tsK_row {w : World} {B : Nat} {ao : Option Addr} {cap : Nat} {l : List (List UInt8)} (h : w.ownsRow B 9 1 (.slice ao l.length cap) l.length (txs5 l)) : TsK (fun q => B ≤ q ∧ q < w.heap.size) w ao l :=
  ⟨tsA_row5 h, fun a hn ha => by have := h.lt a.block (by rw [ha]; rfl); exact this⟩
theorem nsK_row {w : World} {B : Nat} {ao : Option Addr} {cap : Nat} {l : List Int} (h : w.ownsRow B 3 1 (.slice ao l.length cap) l.length (ints5 l)) : NsK (fun q => B ≤ q ∧ q < w.heap.size) w ao l :=
  ⟨fun hn => by
    have hl : 0 < l.length := List.length_pos_iff.2 hn
    obtain ⟨g, e, _, _, _⟩ := row_at5 h hl
    refine ⟨g, 0, e, fun j hj => ?_⟩
    obtain ⟨g', e', _, _, hc⟩ := row_at5 h hj
    rw [e] at e'
    injection e' with e'
    injection e' with e'
    subst e'
    rw [Nat.zero_add, hc]
    simp [ints5, List.getD, hj], fun a hn ha => by have := h.lt a.block (by rw [ha]; rfl); exact this⟩
/-- What the law of crashes keeps. -/
structure Cr5 (P : Nat → Prop) (L : List Dk.Fl) (ks : List Int) (no lo ao ko : Option Addr) (w : World) : Prop where
  n : TsK P w no (Dk.names L)
  l : NsK P w lo (Dk.unsynced L)
  a : TsK P w ao (Dk.dats L)
  k : NsK P w ko ks
section
variable {P A : Nat → Prop} {L : List Dk.Fl} {ks : List Int} {no lo ao ko : Option Addr} {w w' : World}
theorem Cr5.wr (h : Cr5 P L ks no lo ao ko w) (hw : Wr A w w') (hA : ∀ q, P q → ¬ A q) : Cr5 P L ks no lo ao ko w' := ⟨h.n.wr hw hA, h.l.wr hw hA, h.a.wr hw hA, h.k.wr hw hA⟩
theorem Cr5.below (h : Cr5 P L ks no lo ao ko w) (hb : Below w.heap.size w w') : Cr5 P L ks no lo ao ko w' := ⟨h.n.below hb, h.l.below hb, h.a.below hb, h.k.below hb⟩
end
end Go.Proofs.YtmammmjmipgmoaaGreatDoor

/- Layer 5: a disk that is none. -/
namespace Go.Proofs.YtmammmjmipgmoaaGreatDoor
set_option linter.unusedVariables false
open Go Go.RowKit Go.Maps

def noCells5 : Array Value := #[.int .i64 0, .int .i64 0, .map none, .bool false, .int .i64 0, .nilFunc]
/-- A pointer to no disk, or to one that has nothing. -/
def NoDk (w : World) (p : Option Addr) : Prop := p = none ∨ ∃ b, p = some ⟨b, 0, none⟩ ∧ Bk noCells5 51 w b
theorem NoDk.below {w w' : World} {p : Option Addr} (h : NoDk w p) (hb : Below w.heap.size w w') : NoDk w' p := by
  rcases h with h | ⟨b, h, k⟩
  · exact .inl h
  · exact .inr ⟨b, h, k.below hb⟩
section
variable {w : World} {p : Option Addr}
end
end Go.Proofs.YtmammmjmipgmoaaGreatDoor

/- Layer 5: two disks side by side; one with a Fail, one without it. -/
namespace Go.Proofs.YtmammmjmipgmoaaGreatDoor
set_option linter.unusedVariables false
open Go Go.RowKit Go.Maps

namespace Dk
/-- A disk that is running, all of it safe, no Fail set. -/
def ready (D : St) : St := if D.up then woke (fall (unsynced D.L) D) else woke D
end Dk
theorem KsAt.base {B B' : Nat} {w : World} {ao : Option Addr} {cap : Nat} {ks : List Int} (h : KsAt B w ao cap ks) (hB : B' ≤ B) : KsAt B' w ao cap ks := fun hn => row_base5 (h hn) hB
theorem DkAt.base {B B' d : Nat} {F : Nat → Prop} {D : Dk.St} {w : World} (h : DkAt B F d D w) (hB : B' ≤ B) : DkAt B' F d D w := by
  obtain ⟨h0, mb, V, sv, c, h1, h2, h3⟩ := h
  refine ⟨h0, mb, V, sv, c, ⟨h1.box, h1.map, fun f hf => row_base5 (h1.row f hf) hB, h1.ap, ?_⟩, h2, fun b hb => ⟨Nat.le_trans hB (h3 b hb).1, (h3 b hb).2⟩⟩
  have hs := h1.set
  generalize D.set = o at *
  cases o with
  | none => exact hs
  | some p =>
    obtain ⟨n, ks⟩ := p
    obtain ⟨q1, q2, q3, q4, q5, q6⟩ := hs
    exact ⟨q1, q2, q3, q4, q5.base hB, q6⟩
/-- Two disks, and blocks that neither has. -/
def Two5 (P : Nat → Prop) (B a b : Nat) (Da Db : Dk.St) (w : World) : Prop := ∃ Fa Fb, DkAt B Fa a Da w ∧ DkAt B Fb b Db w ∧ (∀ k, Fa k → ¬ Fb k) ∧ (∀ k, P k → ¬ Fa k ∧ ¬ Fb k) ∧ (∀ k, P k → k < w.heap.size) ∧ B ≤ w.heap.size
section
variable {P P' X : Nat → Prop} {B a b : Nat} {Da Db : Dk.St} {w w' : World}
theorem DkAt.fp {F : Nat → Prop} {d : Nat} {D : Dk.St} (h : DkAt B F d D w) : ∀ k, F k → B ≤ k ∧ k < w.heap.size := by
  obtain ⟨h0, mb, V, sv, c, h1, h2, h3⟩ := h; exact h3
theorem Two5.swap (h : Two5 P B a b Da Db w) : Two5 P B b a Db Da w := by
  obtain ⟨Fa, Fb, h1, h2, h3, h4, h5, h6⟩ := h
  exact ⟨Fb, Fa, h2, h1, fun k hb ha => h3 k ha hb, fun k hk => ⟨(h4 k hk).2, (h4 k hk).1⟩, h5, h6⟩
theorem Two5.below (h : Two5 P B a b Da Db w) (hb : Below w.heap.size w w') : Two5 P B a b Da Db w' := by
  obtain ⟨Fa, Fb, h1, h2, h3, h4, h5, h6⟩ := h
  exact ⟨Fa, Fb, h1.below hb, h2.below hb, h3, h4, fun k hk => Nat.lt_of_lt_of_le (h5 k hk) hb.size, Nat.le_trans h6 hb.size⟩
theorem Two5.less (h : Two5 P B a b Da Db w) (hP : ∀ k, P' k → P k) : Two5 P' B a b Da Db w := by
  obtain ⟨Fa, Fb, h1, h2, h3, h4, h5, h6⟩ := h
  exact ⟨Fa, Fb, h1, h2, h3, fun k hk => h4 k (hP k hk), fun k hk => h5 k (hP k hk), h6⟩
theorem Two5.newrow (h : Two5 P B a b Da Db w) (hb : Below w.heap.size w w') : Two5 (fun q => P q ∨ (w.heap.size ≤ q ∧ q < w'.heap.size)) B a b Da Db w' := by
  obtain ⟨Fa, Fb, h1, h2, h3, h4, h5, h6⟩ := h
  have f1 := h1.fp
  have f2 := h2.fp
  refine ⟨Fa, Fb, h1.below hb, h2.below hb, h3, fun k hk => ?_, fun k hk => ?_, Nat.le_trans h6 hb.size⟩
  · rcases hk with hk | hk
    · exact h4 k hk
    · exact ⟨fun hf => by have := f1 k hf; omega, fun hf => by have := f2 k hf; omega⟩
  · rcases hk with hk | hk
    · exact Nat.lt_of_lt_of_le (h5 k hk) hb.size
    · exact hk.2
/-- The first of the two, as it is to be handed on. -/
theorem Two5.fst (h : Two5 P B a b Da Db w) : ∃ X, DkX X B a Da w ∧ (∀ k, X k → k < w.heap.size) ∧ B ≤ w.heap.size ∧
    ∀ D' w', DkX X B a D' w' → Wr (fun k => B ≤ k ∧ ¬ X k) w w' → Two5 P B a b D' Db w' ∧ Wr (fun k => B ≤ k ∧ ¬ P k) w w' := by
  obtain ⟨Fa, Fb, h1, h2, h3, h4, h5, h6⟩ := h
  have f2 := h2.fp
  refine ⟨fun k => Fb k ∨ P k, ⟨Fa, h1, fun k hk hx => hx.elim (h3 k hk) (fun hp => (h4 k hp).1 hk)⟩, fun k hk => hk.elim (fun q => (f2 k q).2) (h5 k), h6, fun D' w' o2' o4 => ?_⟩
  obtain ⟨F, o2, o3⟩ := o2'
  exact ⟨⟨F, Fb, o2, h2.wr o4 (fun k hk ha => ha.2 (.inl hk)), fun k hk hb => o3 k hk (.inl hb), fun k hk => ⟨fun hf => o3 k hf (.inr hk), (h4 k hk).2⟩, fun k hk => Nat.lt_of_lt_of_le (h5 k hk) o4.size, Nat.le_trans h6 o4.size⟩, o4.mono (fun k hk => .inl ⟨hk.1, fun hp => hk.2 (.inr hp)⟩)⟩
theorem Two5.ok (h : Two5 P B a b Da Db w) : Dk.Ok Da ∧ Dk.Ok Db := by
  obtain ⟨Fa, Fb, h1, h2, _⟩ := h
  exact ⟨h1.ok, h2.ok⟩
end
end Go.Proofs.YtmammmjmipgmoaaGreatDoor
