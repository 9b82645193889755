/- Texts of lower layers, as one. -/
import Derived.Test.YtnhljlmelbiljaaGreatZC
import Derived.Laws.AppendOwn
import Derived.Deep.RegionHeld3
import Derived.ChangeSame
import Derived.WideShapes
import Derived.Deep.Slices
/- Plain mathematics of layer 12: batches and acks as bytes. No Go here. -/
namespace Go.Proofs.YtnhljlmelbiljaaGreat.M
set_option linter.unusedVariables false

structure Bt where
  host : Int
  first : Int
  sps : List Sp
structure Ak where
  host : Int
  first : Int
  next : Int

def hd (l : List UInt8) : Nat := (l.getD 0 0).toNat
end Go.Proofs.YtnhljlmelbiljaaGreat.M

/- Layer 12: which batches and acks may be; acks' bytes: the program's functions and the document's, each by a contract. -/
namespace Go.Proofs.YtnhljlmelbiljaaGreat
set_option linter.unusedVariables false
open Go Go.RowKit
attribute [local go_sem ↓] run_index_S
attribute [local go_sem] S_append S_extract

end Go.Proofs.YtnhljlmelbiljaaGreat

/- Layer 12: acks' bytes, the program's and the document's, each by a contract; slices of spans. -/
namespace Go.Proofs.YtnhljlmelbiljaaGreat
set_option linter.unusedVariables false
open Go Go.RowKit
attribute [local go_sem ↓] run_index_S
attribute [local go_sem] S_append S_extract

end Go.Proofs.YtnhljlmelbiljaaGreat

/- Layer 12: slices of spans; a batch's bytes, the program's and the document's, each by a contract. -/
namespace Go.Proofs.YtnhljlmelbiljaaGreat
set_option linter.unusedVariables false
open Go Go.RowKit
attribute [local go_sem ↓] run_index_S
attribute [local go_sem] S_append S_extract

/-- A span's cells at a place of a block. -/
def SpOff (x : M.Sp) (w : World) (g o : Nat) : Prop :=
  w.cell? ⟨g, o, none⟩ = some (.int .i64 x.trace) ∧ w.cell? ⟨g, o + 1, none⟩ = some (.int .i64 x.id) ∧ w.cell? ⟨g, o + 2, none⟩ = some (.int .i64 x.parent) ∧ w.cell? ⟨g, o + 3, none⟩ = some (.string (S x.svc)) ∧
  w.cell? ⟨g, o + 4, none⟩ = some (.string (S x.host)) ∧ w.cell? ⟨g, o + 5, none⟩ = some (.int .i64 x.start) ∧ w.cell? ⟨g, o + 6, none⟩ = some (.int .i64 x.dur) ∧ w.cell? ⟨g, o + 7, none⟩ = some (.string (S x.note))
theorem SpOff.below {x : M.Sp} {w w' : World} {g o : Nat} (h : SpOff x w g o) (hb : Below w.heap.size w w') : SpOff x w' g o := by
  have k := fun {a v} (h : w.cell? a = some v) => (hb.cell (p := a) (block_lt_of_cell h)).trans h
  obtain ⟨h0, h1, h2, h3, h4, h5, h6, h7⟩ := h
  exact ⟨k h0, k h1, k h2, k h3, k h4, k h5, k h6, k h7⟩
/-- A slice of spans, whose cells are known. -/
def SpsAt (w : World) (ao : Option Addr) (L : List M.Sp) : Prop := L ≠ [] → ∃ g off, ao = some ⟨g, off, none⟩ ∧ ∀ j, j < L.length → SpOff (L.getD j M.sp0) w g (off + j * 8)
theorem SpsAt.below {w w' : World} {ao : Option Addr} {L : List M.Sp} (h : SpsAt w ao L) (hb : Below w.heap.size w w') : SpsAt w' ao L := fun hn => by
  obtain ⟨g, off, e, hc⟩ := h hn
  exact ⟨g, off, e, fun j hj => (hc j hj).below hb⟩
theorem SpsAt.off {w : World} {ao : Option Addr} {L : List M.Sp} (h : SpsAt w ao L) (j : Nat) (hj : j < L.length) : ∃ g off, ao = some ⟨g, off, none⟩ ∧ SpOff (L.getD j M.sp0) w g (off + j * 8) := by
  obtain ⟨g, off, e, hc⟩ := h (fun h => by rw [h] at hj; simp at hj)
  exact ⟨g, off, e, hc j hj⟩

end Go.Proofs.YtnhljlmelbiljaaGreat

/- Layer 12: a batch's bytes, the document's, by a contract. -/
namespace Go.Proofs.YtnhljlmelbiljaaGreat
set_option linter.unusedVariables false
open Go Go.RowKit
attribute [local go_sem ↓] run_index_S
attribute [local go_sem] S_append S_extract

end Go.Proofs.YtnhljlmelbiljaaGreat

/- Layer 12: the three numbers behind a letter; the ack of bytes, the program's: each by a contract. -/
namespace Go.Proofs.YtnhljlmelbiljaaGreat
set_option linter.unusedVariables false
open Go Go.RowKit
attribute [local go_sem ↓] run_index_S
attribute [local go_sem] S_append S_extract

section
variable {C : Array Value} {T : TypeId} {w : World}
theorem RowIn.rowP {D : Array Value} {b : Nat} (h : RowIn C T w b) : RowIn D T (w.setRow b D) b := setRow_heap w b _ _ _ _ h
theorem RowIn.aboveP {D : Array Value} {b c : Nat} (h : RowIn C T w b) (hlt : b < c) : RowIn C T (w.setRow c D) b := by
  have := below_setRow (Below.refl c w) (Nat.le_refl _) D
  exact (this.block b hlt).trans h
end
theorem szA (w : World) (o : Obj) : (w.alloc o).heap.size = w.heap.size + 1 := by simp
theorem load_struct {T : TypeId} {fs : Array Field} {C : Array Value} (hu : Tryz.prog.underlying T = some (.struct fs)) (hi : (Tryz.prog.info? T).map (·.size) = some C.size) {w : World} {g : Nat} (h : RowIn C T w g) :
    (loadVar T ⟨g, 0, none⟩).run Tryz.prog w = .ok (.agg C) w := run_loadVar_row w g _ _ C (0, 0) _ h hu rfl hi
theorem ret_rowP2 {fn : Func} {p q : Tmp} {T : TypeId} {v : Value} (hr : fn.results = #[.cell p T, .tmp q]) (tmps : Array Value) (w : World) (g : Nat) (hp : tmps.getD p undef = .pointer (some ⟨g, 0, none⟩)) (hl : (loadVar T ⟨g, 0, none⟩).run Tryz.prog w = .ok v w) :
    (results fn tmps).run Tryz.prog w = .ok (.tuple #[v, tmps.getD q undef]) w := by
  have hp' : tmps[p]?.getD undef = .pointer (some ⟨g, 0, none⟩) := by simpa using hp
  simp [results, hr, hp', asAddr, hl]
theorem ret_rowP3 {fn : Func} {p q r : Tmp} {T : TypeId} {v : Value} (hr : fn.results = #[.cell p T, .tmp q, .tmp r]) (tmps : Array Value) (w : World) (g : Nat) (hp : tmps.getD p undef = .pointer (some ⟨g, 0, none⟩)) (hl : (loadVar T ⟨g, 0, none⟩).run Tryz.prog w = .ok v w) :
    (results fn tmps).run Tryz.prog w = .ok (.tuple #[v, tmps.getD q undef, tmps.getD r undef]) w := by
  have hp' : tmps[p]?.getD undef = .pointer (some ⟨g, 0, none⟩) := by simpa using hp
  simp [results, hr, hp', asAddr, hl]

/-- A whole struct or array stored: the world behind it by what it is good for. -/
theorem wpList_store_hid {ops : Array Oper} {rest : List Oper} {o : Oper} {a : Act} {w : World} {Q : Exit → Act → World → Prop} (hgd : o.guard = none) (ty : TypeId) (x y : Operand) (ho : o.op = .store ty x y)
    (g : Nat) (cells : Array Value) (hx : a.eval x = .pointer (some ⟨g, 0, none⟩)) (hy : a.eval y = .agg cells)
    (t : TypeId) (old : Array Value) (hg : RowIn old t w g) (hi : (Tryz.prog.info? ty).map (·.size) = some cells.size)
    (hold : old.size = cells.size) (h1 : cells.all (·.oneCell') = true)
    (h : ∀ w', RowIn cells t w' g → (∀ B0 W0, B0 ≤ g → Below B0 W0 w → Below B0 W0 w') → (∀ C T b, b < g → RowIn C T w b → RowIn C T w' b) → w'.heap.size = w.heap.size → wpList Tryz.prog ops Q rest (a.put o.dst undef) w') :
    wpList Tryz.prog ops Q (o :: rest) a w := by
  refine wpList_store_row hgd ty x y ho g cells hx hy t old hg hi hold h1 (h _ (RowIn.rowP hg) (fun B0 W0 hB hb => below_setRow hb hB _) (fun C T b hlt hr => RowIn.aboveP hr hlt) ?_)
  simp [World.setRow]
end Go.Proofs.YtnhljlmelbiljaaGreat

/- Layer 12: the ack of bytes, the program's and the document's, each by a contract. -/
namespace Go.Proofs.YtnhljlmelbiljaaGreat
set_option linter.unusedVariables false
open Go Go.RowKit
attribute [local go_sem ↓] run_index_S
attribute [local go_sem] S_append S_extract

end Go.Proofs.YtnhljlmelbiljaaGreat

/- Layer 12: the ack of bytes, the document's, by a contract. -/
namespace Go.Proofs.YtnhljlmelbiljaaGreat
set_option linter.unusedVariables false
open Go Go.RowKit
attribute [local go_sem ↓] run_index_S
attribute [local go_sem] S_append S_extract

end Go.Proofs.YtnhljlmelbiljaaGreat

/- Layer 12: rows of spans that the call itself makes; what the batch of bytes comes to. -/
namespace Go.Proofs.YtnhljlmelbiljaaGreat
set_option linter.unusedVariables false
open Go Go.RowKit

/-- A span's cells; those of many, one behind the other. -/
def spL (x : M.Sp) : List Value := [.int .i64 x.trace, .int .i64 x.id, .int .i64 x.parent, .string (S x.svc), .string (S x.host), .int .i64 x.start, .int .i64 x.dur, .string (S x.note)]
def sps (L : List M.Sp) : List Value := L.flatMap spL
section
variable {B sz : Nat} {e : TypeId} {v : Value} {n : Nat} {xs : List Value} {w w' : World}
theorem ownP_below (h : w.ownsRow B e sz v n xs) (hb : Below w.heap.size w w') : w'.ownsRow B e sz v n xs := by
  refine ⟨h.1, ?_⟩
  rcases h.2 with hc | ⟨g, cap, cur, rfl, hBg, hgg, rest⟩
  · exact .inl hc
  · exact .inr ⟨g, cap, cur, rfl, hBg, by rw [hb.block g (Array.getElem?_eq_some_iff.1 hgg).1]; exact hgg, rest⟩
theorem ownP_mono {B' : Nat} (h : w.ownsRow B e sz v n xs) (hB : B' ≤ B) : w.ownsRow B' e sz v n xs := by
  refine ⟨h.1, ?_⟩
  rcases h.2 with hc | ⟨g, cap, cur, rfl, hBg, hgg, rest⟩
  · exact .inl hc
  · exact .inr ⟨g, cap, cur, rfl, by omega, hgg, rest⟩
theorem ownP_shape (h : w.ownsRow B e sz v n xs) : ∃ ao c, v = .slice ao n c := by
  rcases h.2 with ⟨rfl, rfl⟩ | ⟨g, cap, cur, rfl, _⟩
  · exact ⟨_, _, rfl⟩
  · exact ⟨_, _, rfl⟩
end
theorem RowIn.grownP {C : Array Value} {T : TypeId} {w w' : World} {b : Nat} {row : Option Nat} (h : RowIn C T w b) (hg : w.grownBy w' row) (hne : ∀ q, row = some q → q ≠ b) : RowIn C T w' b := by
  have hl := h.lt
  unfold RowIn at *
  rw [hg.block b hl (fun e => hne b e.symm rfl)]; exact h
/-- A batch's cells. -/
def btC (h f : Int) (v : Value) : Array Value := #[.int .i64 h, .int .i64 f, v]
def bz : Array Value := btC 0 0 (.slice none 0 0)
/-- What the batch of bytes comes to. -/
def DecB (r : Option M.Bt) (w : World) (e : Ending) (w' : World) : Prop := match r with
  | some b => ∃ ao cap, e = .returned (.tuple #[.agg #[.int .i64 b.host, .int .i64 b.first, .slice ao b.sps.length cap], .int .i64 0]) ∧ w'.ownsRow w.heap.size 159 8 (.slice ao b.sps.length cap) b.sps.length (sps b.sps) ∧ Below w.heap.size w w'
  | none => e = .returned (.tuple #[.agg #[.int .i64 0, .int .i64 0, .slice none 0 0], .int .i64 30]) ∧ Below w.heap.size w w'
theorem DecB.no {r : Option M.Bt} {w w' : World} (h : r = none) (hb : Below w.heap.size w w') : DecB r w (.returned (.tuple #[.agg bz, .int .i64 30])) w' := by
  subst h; exact ⟨rfl, hb⟩
theorem DecB.yes {r : Option M.Bt} {w w' : World} {h f : Int} {L : List M.Sp} {ao : Option Addr} {n cap : Nat} (hr : r = some ⟨h, f, L⟩) (hn : n = L.length) (ho : w'.ownsRow w.heap.size 159 8 (.slice ao n cap) n (sps L)) (hb : Below w.heap.size w w') :
    DecB r w (.returned (.tuple #[.agg (btC h f (.slice ao n cap)), .int .i64 0])) w' := by
  subst hr hn; exact ⟨ao, cap, rfl, ho, hb⟩
end Go.Proofs.YtnhljlmelbiljaaGreat

/- Layer 12: the batch of bytes, the program's, by a contract. -/
namespace Go.Proofs.YtnhljlmelbiljaaGreat
set_option linter.unusedVariables false
open Go Go.RowKit
attribute [local go_sem ↓] run_index_S
attribute [local go_sem] S_append S_extract

end Go.Proofs.YtnhljlmelbiljaaGreat

/- Layer 12: the batch of bytes, the document's, by a contract. -/
namespace Go.Proofs.YtnhljlmelbiljaaGreat
set_option linter.unusedVariables false
open Go Go.RowKit
attribute [local go_sem ↓] run_index_S
attribute [local go_sem] S_append S_extract

end Go.Proofs.YtnhljlmelbiljaaGreat

/- Layer 12: the law's own helpers: SameSpans, SameBatch, great, by contracts. -/
namespace Go.Proofs.YtnhljlmelbiljaaGreat
set_option linter.unusedVariables false
open Go Go.RowKit

theorem M.Sp.diff {x y : M.Sp} (h : ¬ x = y) : (¬ x.trace = y.trace) ∨ (x.trace = y.trace ∧ ¬ x.id = y.id) ∨ (x.trace = y.trace ∧ x.id = y.id ∧ ¬ x.parent = y.parent) ∨ (x.trace = y.trace ∧ x.id = y.id ∧ x.parent = y.parent ∧ ¬ x.svc = y.svc) ∨ (x.trace = y.trace ∧ x.id = y.id ∧ x.parent = y.parent ∧ x.svc = y.svc ∧ ¬ x.host = y.host) ∨ (x.trace = y.trace ∧ x.id = y.id ∧ x.parent = y.parent ∧ x.svc = y.svc ∧ x.host = y.host ∧ ¬ x.start = y.start) ∨ (x.trace = y.trace ∧ x.id = y.id ∧ x.parent = y.parent ∧ x.svc = y.svc ∧ x.host = y.host ∧ x.start = y.start ∧ ¬ x.dur = y.dur) ∨ (x.trace = y.trace ∧ x.id = y.id ∧ x.parent = y.parent ∧ x.svc = y.svc ∧ x.host = y.host ∧ x.start = y.start ∧ x.dur = y.dur ∧ ¬ x.note = y.note) := by
  by_cases h0 : x.trace = y.trace
  case neg => exact .inl h0
  by_cases h1 : x.id = y.id
  case neg => exact .inr (.inl ⟨h0, h1⟩)
  by_cases h2 : x.parent = y.parent
  case neg => exact .inr (.inr (.inl ⟨h0, h1, h2⟩))
  by_cases h3 : x.svc = y.svc
  case neg => exact .inr (.inr (.inr (.inl ⟨h0, h1, h2, h3⟩)))
  by_cases h4 : x.host = y.host
  case neg => exact .inr (.inr (.inr (.inr (.inl ⟨h0, h1, h2, h3, h4⟩))))
  by_cases h5 : x.start = y.start
  case neg => exact .inr (.inr (.inr (.inr (.inr (.inl ⟨h0, h1, h2, h3, h4, h5⟩)))))
  by_cases h6 : x.dur = y.dur
  case neg => exact .inr (.inr (.inr (.inr (.inr (.inr (.inl ⟨h0, h1, h2, h3, h4, h5, h6⟩))))))
  by_cases h7 : x.note = y.note
  case neg => exact .inr (.inr (.inr (.inr (.inr (.inr (.inr (⟨h0, h1, h2, h3, h4, h5, h6, h7⟩)))))))
  exact absurd (M.Sp.ext' h0 h1 h2 h3 h4 h5 h6 h7) h
/-- The same, or not. -/
def SameR (p : Prop) (w : World) (e : Ending) (w' : World) : Prop := (p → e = .returned (.bool true)) ∧ (¬ p → e = .returned (.bool false)) ∧ Below w.heap.size w w'
theorem SameR.yes {p : Prop} (h : p) {w w' : World} (hb : Below w.heap.size w w') : SameR p w (.returned (.bool true)) w' := ⟨fun _ => rfl, fun k => absurd h k, hb⟩
theorem SameR.no {p : Prop} (h : ¬ p) {w w' : World} (hb : Below w.heap.size w w') : SameR p w (.returned (.bool false)) w' := ⟨fun k => absurd k h, fun _ => rfl, hb⟩

end Go.Proofs.YtnhljlmelbiljaaGreat

/- Layer 12: SameBatch, great, some, by contracts. -/
namespace Go.Proofs.YtnhljlmelbiljaaGreat
set_option linter.unusedVariables false
open Go Go.RowKit

theorem M.Bt.ext' {b c : M.Bt} (h1 : b.host = c.host) (h2 : b.first = c.first) (h3 : b.sps = c.sps) : b = c := by
  cases b; cases c; simp_all

def s1 : M.Sp := { trace := 1, id := 2, parent := 0, svc := [115], host := [104], start := 3, dur := 0, note := [] }
end Go.Proofs.YtnhljlmelbiljaaGreat

/- Layer 12: the chapter's examples (spoorlaw12.does) come out true. -/
namespace Go.Proofs.YtnhljlmelbiljaaGreat
set_option linter.unusedVariables false
open Go Go.RowKit
attribute [local go_sem ↓] run_index_S
attribute [local go_sem] S_append S_extract

theorem SameR.is {p : Prop} {w : World} {e : Ending} {w' : World} (h : SameR p w e w') (hp : p) : e = .returned (.bool true) ∧ Below w.heap.size w w' := ⟨h.1 hp, h.2.2⟩
theorem SpsAt.same {w w' : World} {ao : Option Addr} {L : List M.Sp} (h : SpsAt w ao L) (he : w'.heap = w.heap) : SpsAt w' ao L := by
  have e : ∀ a, w'.cell? a = w.cell? a := fun a => by unfold World.cell?; rw [he]
  intro hn
  obtain ⟨g, off, e1, hc⟩ := h hn
  refine ⟨g, off, e1, fun j hj => ?_⟩
  have := hc j hj
  unfold SpOff at *
  simp only [e]
  exact this

end Go.Proofs.YtnhljlmelbiljaaGreat

/- Layer 12: what comes in: batches and acks. -/
namespace Go.Proofs.YtnhljlmelbiljaaGreat
set_option linter.unusedVariables false
open Go Go.RowKit

structure M.Ak.ints (y : M.Ak) : Prop where
  h1 : -9223372036854775808 ≤ y.host
  h2 : y.host ≤ 9223372036854775807
  f1 : -9223372036854775808 ≤ y.first
  f2 : y.first ≤ 9223372036854775807
  n1 : -9223372036854775808 ≤ y.next
  n2 : y.next ≤ 9223372036854775807
theorem mapM_getP {f : Nat → Option Value} : ∀ (l : List Nat) (cs : List Value), l.mapM f = some cs → cs.length = l.length ∧ ∀ (j : Nat) (u : Value), cs[j]? = some u → ∃ i : Nat, l[j]? = some i ∧ f i = some u
  | [], cs, h => by simp at h; subst h; simp
  | a :: l, cs, h => by
    rw [List.mapM_cons] at h
    cases hf : f a with
    | none => simp [hf] at h
    | some v =>
      cases hm : l.mapM f with
      | none => simp [hf, hm] at h
      | some vs =>
        simp [hf, hm] at h
        subst h
        obtain ⟨h1, h2⟩ := mapM_getP l vs hm
        refine ⟨by simp [h1], fun j u hj => ?_⟩
        cases j with
        | zero => simp at hj; exact ⟨a, rfl, by rw [hf, hj]⟩
        | succ j => simpa using h2 j u (by simpa using hj)
theorem cells_getP {w : World} {B n : Nat} {a : Addr} {cs : List Value} (h : w.cells? B a n = some cs) : ∀ j u, cs[j]? = some u → w.cell? (a.add j) = some u := by
  unfold World.cells? at h
  split at h
  · intro j u hj
    obtain ⟨_, h2⟩ := mapM_getP _ _ h
    obtain ⟨i, hi, hf⟩ := h2 j u hj
    obtain ⟨hlt, e⟩ := List.getElem?_eq_some_iff.1 hi
    simp at e
    subst e
    exact hf
  · cases h
theorem addr_plainP {w : World} {a : Addr} {u : Value} (h : w.cell? a = some u) : a = ⟨a.block, a.off, none⟩ := by
  obtain ⟨b, o, s⟩ := a
  cases s with
  | none => rfl
  | some s =>
    unfold World.cell? at h
    split at h <;> simp at h
theorem choose_listP {α : Type} (d : α) (n : Nat) {p : Nat → α → Prop} (h : ∀ i, i < n → ∃ a, p i a) : ∃ l : List α, l.length = n ∧ ∀ i, i < n → p i (l.getD i d) := by
  induction n with
  | zero => exact ⟨[], rfl, fun i hi => by omega⟩
  | succ n ih =>
    obtain ⟨l, hl, hp⟩ := ih fun i hi => h i (by omega)
    obtain ⟨a, ha⟩ := h n (by omega)
    refine ⟨l ++ [a], by simp [hl], fun i hi => ?_⟩
    by_cases hin : i < n
    · rw [show (l ++ [a]).getD i d = l.getD i d from by simp [List.getD, List.getElem?_append_left (show i < l.length by omega)]]
      exact hp i hin
    · obtain rfl : i = n := by omega
      rw [show (l ++ [a]).getD i d = a from by simp [List.getD, ← hl]]
      exact ha
section
variable {H : Type} {enc : TypeId × Value → H} {W : World} {fuel : Nat} {cs : List Value} {x : DataW H × List MemPlace} {B : Nat} {sp : Nat → Bool} {hd : Bool}
end
section
variable {H : Type} {enc : TypeId × Value → H} {W : World} {r : Reach} {b0 : Nat} {v : Value} {d : DataW H} {p : List MemPlace}
end

end Go.Proofs.YtnhljlmelbiljaaGreat
