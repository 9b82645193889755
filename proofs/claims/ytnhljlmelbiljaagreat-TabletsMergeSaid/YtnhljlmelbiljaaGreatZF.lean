/- Texts of lower layers, as one. -/
import Derived.Test.YtnhljlmelbiljaaGreatZC
import Derived.Test.YtnhljlmelbiljaaGreatZA
import Derived.Test.YtnhljlmelbiljaaGreatZE
import Derived.Deep.RegionLaw
import Derived.Maps.AppendAt
import Derived.Maps.OwnSet
import Derived.Laws.AppendOwnNone
/- Plain mathematics of layer 8: keys of cells. No Go here. -/
namespace Go.Proofs.YtnhljlmelbiljaaGreat.M
set_option linter.unusedVariables false

def idB (n : Int) : Bool := win n 1 2147483647
def spanK (t i : Nat) : List UInt8 := 115 :: (bigN t ++ bigN i)
def aheadK (a b : List UInt8) : List UInt8 := 120 :: (a ++ 0 :: (b ++ [0]))
def indexK (a b : List UInt8) (st t i : Nat) : List UInt8 := aheadK a b ++ (bigN st ++ (bigN t ++ bigN i))
/-- P8.1 Of. -/
def okOf (t i : Int) : Bool := idB t && idB i
def ofK (t i : Int) : List UInt8 := if okOf t i then spanK t.toNat i.toNat else []
/-- What stands ahead of the first byte 0, and what behind it. -/
def cut0 : List UInt8 → List UInt8 × List UInt8
  | [] => ([], [])
  | x :: r => if x = 0 then ([], r) else (x :: (cut0 r).1, (cut0 r).2)
theorem cut0_none : ∀ (l : List UInt8), 0 ∉ l → cut0 l = (l, [])
  | [], _ => rfl
  | x :: r, h => by
    have hx : ¬ x = 0 := fun e => h (by rw [e]; exact List.mem_cons_self)
    have := cut0_none r (fun e => h (List.mem_cons_of_mem _ e))
    rw [cut0, if_neg hx, this]
theorem cut0_some : ∀ (a r : List UInt8), 0 ∉ a → cut0 (a ++ 0 :: r) = (a, r)
  | [], r, _ => by simp [cut0]
  | x :: a, r, h => by
    have hx : ¬ x = 0 := fun e => h (by rw [e]; exact List.mem_cons_self)
    have := cut0_some a r (fun e => h (List.mem_cons_of_mem _ e))
    rw [List.cons_append, cut0, if_neg hx, this]
theorem cut0_parts : ∀ (l : List UInt8), 0 ∈ l → l = (cut0 l).1 ++ 0 :: (cut0 l).2 ∧ 0 ∉ (cut0 l).1
  | [], h => by simp at h
  | x :: r, h => by
    by_cases hx : x = 0
    · subst hx; simp [cut0]
    · have hr : 0 ∈ r := by
        rcases List.mem_cons.1 h with e | e
        · exact absurd e.symm hx
        · exact e
      obtain ⟨h1, h2⟩ := cut0_parts r hr
      rw [cut0, if_neg hx]
      refine ⟨by rw [List.cons_append, ← h1], fun e => ?_⟩
      rcases List.mem_cons.1 e with e | e
      · exact hx e.symm
      · exact h2 e
theorem cut0_length (l : List UInt8) : (cut0 l).1.length ≤ l.length ∧ (cut0 l).2.length ≤ l.length := by
  by_cases h : 0 ∈ l
  · have h1 := (cut0_parts l h).1
    have : l.length = ((cut0 l).1 ++ 0 :: (cut0 l).2).length := by rw [← h1]
    simp at this
    omega
  · rw [cut0_none l h]; simp
structure Pt where
  kind : Nat
  trace : Nat
  id : Nat
  start : Nat
  svc : List UInt8
  host : List UInt8
def numsP (kind : Nat) (r a b : List UInt8) (st : Nat) : Option Pt := match ofBigs r 0, ofBigs r 8 with
  | some t, some i => if r.length = 16 ∧ idB t = true ∧ idB i = true then some ⟨kind, t, i, st, a, b⟩ else none
  | _, _ => none
def idxP (rest : List UInt8) : Option Pt :=
  if nameB (cut0 rest).1 && nameB (cut0 (cut0 rest).2).1 then
    match ofBigs (cut0 (cut0 rest).2).2 0 with
    | some st => if st ≤ 1073741824 then numsP 120 ((cut0 (cut0 rest).2).2.drop 8) (cut0 rest).1 (cut0 (cut0 rest).2).1 st else none
    | none => none
  else none
/-- P8.4 Parse. -/
def parse : List UInt8 → Option Pt
  | [] => none
  | k :: rest => if k = 115 then numsP 115 rest [] [] 0 else if k = 120 then idxP rest else none
/-- P8.4 Row. -/
def rowK (key : List UInt8) : List UInt8 := match parse key with
  | none => []
  | some p => if p.kind = 115 then key.take 9 else key

theorem idB_true {n : Int} : idB n = true ↔ 1 ≤ n ∧ n ≤ 2147483647 := win_true
theorem numsP_some {kind : Nat} {r a b : List UInt8} {st : Nat} {p : Pt} (h : numsP kind r a b st = some p) : ∃ t i : Nat, idB t = true ∧ idB i = true ∧ r = bigN t ++ bigN i ∧ p = ⟨kind, t, i, st, a, b⟩ := by
  unfold numsP at h
  split at h
  · rename_i t i h1 h2
    split at h
    · rename_i hc
      obtain ⟨hl, ht, hi⟩ := hc
      obtain ⟨_, _, _, b1⟩ := ofBigs_bounds h1
      obtain ⟨_, _, _, b2⟩ := ofBigs_bounds h2
      refine ⟨t, i, ht, hi, ?_, (Option.some.inj h).symm⟩
      rw [b1, b2]
      have e : r = r.take 8 ++ r.drop 8 := (List.take_append_drop 8 r).symm
      conv => lhs; rw [e]
      simp only [Int.toNat_zero, List.drop_zero]
      congr 1
      exact (List.take_of_length_le (by simp; omega)).symm
    · simp at h
  · simp at h
theorem parse_some {key : List UInt8} {p : Pt} (h : parse key = some p) : idB p.trace = true ∧ idB p.id = true ∧ ((p.kind = 115 ∧ key = spanK p.trace p.id ∧ p.start = 0 ∧ p.svc = [] ∧ p.host = []) ∨ (p.kind = 120 ∧ p.start ≤ 1073741824 ∧ nameB p.svc = true ∧ nameB p.host = true ∧ key = indexK p.svc p.host p.start p.trace p.id)) := by
  match key with
  | [] => simp [parse] at h
  | k :: rest =>
    rw [parse] at h
    split at h
    · rename_i hk
      obtain ⟨t, i, ht, hi, hr, rfl⟩ := numsP_some h
      exact ⟨ht, hi, .inl ⟨rfl, by rw [hk, hr]; rfl, rfl, rfl, rfl⟩⟩
    · split at h
      · rename_i hk
        unfold idxP at h
        split at h
        · rename_i hn
          simp only [Bool.and_eq_true] at hn
          split at h
          · rename_i st hst
            split at h
            · rename_i hs
              obtain ⟨t, i, ht, hi, hr, rfl⟩ := numsP_some h
              obtain ⟨_, _, _, b1⟩ := ofBigs_bounds hst
              refine ⟨ht, hi, .inr ⟨rfl, hs, hn.1, hn.2, ?_⟩⟩
              have hl := (ofBigs_bounds hst).2.1
              have m2 : 0 ∈ (cut0 rest).2 := by
                by_cases m : 0 ∈ (cut0 rest).2
                · exact m
                · rw [cut0_none _ m] at hl; simp at hl
              have m1 : 0 ∈ rest := by
                by_cases m : 0 ∈ rest
                · exact m
                · rw [cut0_none _ m] at m2; simp at m2
              have p1 := (cut0_parts rest m1).1
              have p2 := (cut0_parts _ m2).1
              simp only [indexK, aheadK, List.cons_append, List.append_assoc, List.nil_append]
              rw [hk, ← hr, b1]
              simp only [Int.toNat_zero, List.drop_zero, List.take_append_drop]
              rw [← p2, ← p1]
            · simp at h
          · simp at h
        · simp at h
      · simp at h

end Go.Proofs.YtnhljlmelbiljaaGreat.M

/- Plain mathematics of layer 8: the order of keys. No Go here. -/
namespace Go.Proofs.YtnhljlmelbiljaaGreat.M
set_option linter.unusedVariables false
open Op (bytesLess)

theorem u8_lt {a b : UInt8} : a < b ↔ a.toNat < b.toNat := UInt8.lt_iff_toNat_lt
theorem less_flip : ∀ (x y : List UInt8), x ≠ y → bytesLess y x = !bytesLess x y
  | [], [], h => absurd rfl h
  | [], b :: y, h => by simp [bytesLess]
  | a :: x, [], h => by simp [bytesLess]
  | a :: x, b :: y, h => by
    rw [bytesLess, bytesLess]
    by_cases e : a = b
    · subst e
      have := less_flip x y (fun e => h (by rw [e]))
      simp [this]
    · have hn : a.toNat ≠ b.toNat := fun e' => e (UInt8.toNat_inj.1 e')
      have e2 : ¬ b = a := fun e' => e e'.symm
      by_cases hl : a < b
      · have hl' := u8_lt.1 hl
        have : ¬ b < a := by rw [u8_lt]; omega
        simp [hl, this, e2]
      · have hl' : ¬ a.toNat < b.toNat := fun h' => hl (u8_lt.2 h')
        have : b < a := by rw [u8_lt]; omega
        simp [hl, this, e]
end Go.Proofs.YtnhljlmelbiljaaGreat.M

/- Plain mathematics of layer 21: spans as cells, and which spans are taken. No Go here. -/
namespace Go.Proofs.YtnhljlmelbiljaaGreat.M
set_option linter.unusedVariables false

/-- A cell. -/
structure Cl where
  key : List UInt8
  seq : Int
  val : List UInt8
deriving DecidableEq
theorem Cl.ext' {x y : Cl} (h1 : x.key = y.key) (h2 : x.seq = y.seq) (h3 : x.val = y.val) : x = y := by
  cases x; cases y; simp_all
/-- The key of a span's cell; whether two spans are of one trace and ID. -/
def keyB (x : Sp) : List UInt8 := ofK x.trace x.id
def same (x y : Sp) : Bool := decide (x.trace = y.trace) && decide (x.id = y.id)
def cell1 (x : Sp) : Cl := ⟨keyB x, 0, enc x⟩
end Go.Proofs.YtnhljlmelbiljaaGreat.M

/- Rows of cells that lie in memory: what came in, and what the call itself makes. -/
namespace Go.Proofs.YtnhljlmelbiljaaGreat
set_option linter.unusedVariables false
open Go Go.RowKit

/-- A cell's cells; those of many, one behind the other. -/
abbrev clA (c : M.Cl) : Array Value := #[.string (S c.key), .int .i64 c.seq, .string (S c.val)]
def clL (c : M.Cl) : List Value := [.string (S c.key), .int .i64 c.seq, .string (S c.val)]
def cls (L : List M.Cl) : List Value := L.flatMap clL
def M.cl0 : M.Cl := ⟨[], 0, []⟩
theorem cls_append (a b : List M.Cl) : cls (a ++ b) = cls a ++ cls b := by simp [cls]
theorem cls_one (c : M.Cl) : cls [c] = clL c := by simp [cls]
theorem cls_length (L : List M.Cl) : (cls L).length = L.length * 3 := by
  induction L with
  | nil => rfl
  | cons m t ih => simp only [cls, List.flatMap_cons, List.length_append, List.length_cons] at *; rw [ih]; simp [clL]; omega
theorem cls_get (L : List M.Cl) (j i : Nat) (hj : j < L.length) (hi : i < 3) : (cls L)[j * 3 + i]? = (clL (L.getD j M.cl0))[i]? := by
  induction L generalizing j with
  | nil => simp at hj
  | cons m t ih =>
    rw [show cls (m :: t) = clL m ++ cls t from by simp [cls]]
    cases j with
    | zero => rw [List.getElem?_append_left (by simp [clL]; omega)]; simp
    | succ j =>
      rw [List.getElem?_append_right (by simp [clL]; omega), show (j + 1) * 3 + i - (clL m).length = j * 3 + i from by simp [clL]; omega, ih j (by simpa using hj)]
      simp
theorem clL_oneC (c : M.Cl) : ∀ u ∈ clL c, u.oneCell' = true := by simp [clL, Value.oneCell']
theorem cls_oneC (L : List M.Cl) : ∀ u ∈ cls L, u.oneCell' = true := by
  intro u hu
  obtain ⟨x, _, hx⟩ := List.mem_flatMap.1 hu
  exact clL_oneC x u hx
theorem clA_one (c : M.Cl) : (clA c).all (·.oneCell') = true := by simp [clA, Value.oneCell']
theorem infoCl : (Tryz.prog.info? 38).map (fun i => (i.zero.map (fun z => z.cells.size), i.size, i.bytes)) = some (some 3, 3, 40) := by kernel_rfl
theorem infoCl_parts : ∃ (i0 : TypeInfo) (z : Value), Tryz.prog.info? 38 = some i0 ∧ i0.zero = some z ∧ i0.size = 3 ∧ i0.bytes = 40 ∧ z.cells.size = 3 := by
  have h := infoCl
  cases hi : Tryz.prog.info? 38 with
  | none => rw [hi] at h; cases h
  | some i0 =>
    rw [hi] at h
    cases hz : i0.zero with
    | none => simp [hz] at h
    | some z =>
      simp [hz] at h
      exact ⟨i0, z, rfl, hz, h.2.1, h.2.2, h.1⟩

/-- A cell at a place of a block; a slice of cells, whose cells are known. -/
def ClOff (c : M.Cl) (w : World) (g o : Nat) : Prop := w.cell? ⟨g, o, none⟩ = some (.string (S c.key)) ∧ w.cell? ⟨g, o + 1, none⟩ = some (.int .i64 c.seq) ∧ w.cell? ⟨g, o + 2, none⟩ = some (.string (S c.val))
theorem ClOff.below {x : M.Cl} {w w' : World} {g o : Nat} (h : ClOff x w g o) (hb : Below w.heap.size w w') : ClOff x w' g o := by
  have k := fun {a v} (h : w.cell? a = some v) => (hb.cell (p := a) (block_lt_of_cell h)).trans h
  obtain ⟨h0, h1, h2⟩ := h
  exact ⟨k h0, k h1, k h2⟩
def ClsAt (w : World) (ao : Option Addr) (L : List M.Cl) : Prop := L ≠ [] → ∃ g off, ao = some ⟨g, off, none⟩ ∧ ∀ j, j < L.length → ClOff (L.getD j M.cl0) w g (off + j * 3)
theorem ClsAt.below {w w' : World} {ao : Option Addr} {L : List M.Cl} (h : ClsAt w ao L) (hb : Below w.heap.size w w') : ClsAt w' ao L := fun hn => by
  obtain ⟨g, off, e, hc⟩ := h hn
  exact ⟨g, off, e, fun j hj => (hc j hj).below hb⟩
theorem ClsAt.off {w : World} {ao : Option Addr} {L : List M.Cl} (h : ClsAt w ao L) (j : Nat) (hj : j < L.length) : ∃ g off, ao = some ⟨g, off, none⟩ ∧ ClOff (L.getD j M.cl0) w g (off + j * 3) := by
  obtain ⟨g, off, e, hc⟩ := h (fun h => by rw [h] at hj; simp at hj)
  exact ⟨g, off, e, hc j hj⟩
theorem ClsAt.same {w w' : World} {ao : Option Addr} {L : List M.Cl} (h : ClsAt w ao L) (he : w'.heap = w.heap) : ClsAt w' ao L := by
  have e : ∀ a, w'.cell? a = w.cell? a := fun a => by unfold World.cell?; rw [he]
  intro hn
  obtain ⟨g, off, e1, hc⟩ := h hn
  refine ⟨g, off, e1, fun j hj => ?_⟩
  have := hc j hj
  unfold ClOff at *
  simp only [e]
  exact this
theorem clsAt_mk {w : World} {g o : Nat} {L : List M.Cl} (h : ∀ j u, (cls L)[j]? = some u → w.cell? ⟨g, o + j, none⟩ = some u) : ClsAt w (some ⟨g, o, none⟩) L := fun _ =>
  ⟨g, o, rfl, fun j hj => by
    have k := fun i (hi : i < 3) u (hu : (clL (L.getD j M.cl0))[i]? = some u) => h (j * 3 + i) u ((cls_get L j i hj hi).trans hu)
    refine ⟨?_, ?_, ?_⟩
    · have := k 0 (by omega) _ rfl; rwa [show o + (j * 3 + 0) = o + j * 3 from by omega] at this
    · have := k 1 (by omega) _ rfl; rwa [show o + (j * 3 + 1) = o + j * 3 + 1 from by omega] at this
    · have := k 2 (by omega) _ rfl; rwa [show o + (j * 3 + 2) = o + j * 3 + 2 from by omega] at this⟩
theorem clsAt_own {B : Nat} {w : World} {ao : Option Addr} {cap n : Nat} {L : List M.Cl} {T : TypeId} (h : w.ownsRow B T 3 (.slice ao n cap) n (cls L)) (hn : n = L.length) : ClsAt w ao L := by
  subst hn
  intro hne
  rcases h.2 with ⟨_, h0⟩ | ⟨g, cap', cur, e, _, hg, _⟩
  · exact absurd (List.eq_nil_of_length_eq_zero h0) hne
  · injection e with e1 e2 e3
    subst e1
    have hc := fun i u (hu : (cls L)[i]? = some u) => h.cells (g := g) rfl i u hu
    have ha : ∀ n : Nat, (⟨g, 0, none⟩ : Addr).add n = ⟨g, n, none⟩ := fun n => by unfold Addr.add; split <;> simp_all
    simp only [ha] at hc
    exact clsAt_mk (fun j u hu => by rw [Nat.zero_add]; exact hc j u hu) hne
theorem cl_new (w : World) (x : M.Cl) (T : TypeId) : ∀ j u, (clL x)[j]? = some u → (w.alloc (.cells (clA x) T)).cell? ((⟨w.heap.size, 0, none⟩ : Addr).add j) = some u := by
  intro j u h
  have hadd : (⟨w.heap.size, 0, none⟩ : Addr).add j = ⟨w.heap.size, j, none⟩ := by unfold Addr.add; split <;> simp_all
  rw [hadd, (rowIn_new _ T w).cell j]
  simpa [clL] using h
/-- A block that is known whole: the cells that lie in it. -/
theorem clsAt_row {w : World} {C : Array Value} {T : TypeId} {g : Nat} {L : List M.Cl} (h : RowIn C T w g) (hC : C.toList = cls L) : ClsAt w (some ⟨g, 0, none⟩) L :=
  clsAt_mk fun j u hu => by
    rw [Nat.zero_add, h.cell j, ← Array.getElem?_toList, hC]
    exact hu
theorem add_row {w : World} {C : Array Value} {T : TypeId} {g : Nat} {xs : List Value} (h : RowIn C T w g) (hC : C.toList = xs) (j : Nat) (u : Value) (hu : xs[j]? = some u) : w.cell? ((⟨g, 0, none⟩ : Addr).add j) = some u := by
  have hadd : (⟨g, 0, none⟩ : Addr).add j = ⟨g, j, none⟩ := by unfold Addr.add; split <;> simp_all
  rw [hadd, h.cell j, ← Array.getElem?_toList, hC]
  exact hu
/-- Rows of elements of unlike types lie apart. -/
theorem own_apart {w : World} {B B' : Nat} {e e' : TypeId} {sz sz' : Nat} {v u : Value} {n m : Nat} {xs ys : List Value} (h : w.ownsRow B e sz v n xs) (k : w.ownsRow B' e' sz' u m ys) (hne : e ≠ e') : v.ownBlock = none ∨ v.ownBlock ≠ u.ownBlock := by
  rcases h.2 with ⟨rfl, _⟩ | ⟨g, cap, cur, rfl, hb, hg, _⟩
  · exact .inl rfl
  · right
    rcases k.2 with ⟨rfl, _⟩ | ⟨g', cap', cur', rfl, hb', hg', _⟩
    · simp [Value.ownBlock]
    · simp only [Value.ownBlock, ne_eq, Option.some.injEq]
      intro e1
      subst e1
      rw [hg] at hg'
      simp at hg'
      exact hne hg'.2

end Go.Proofs.YtnhljlmelbiljaaGreat

/- What comes in: cells, and rows of cells and of spans. -/
namespace Go.Proofs.YtnhljlmelbiljaaGreat
set_option linter.unusedVariables false
open Go Go.RowKit

structure M.Cl.ints (c : M.Cl) : Prop where
  h1 : -9223372036854775808 ≤ c.seq
  h2 : c.seq ≤ 9223372036854775807
section
variable {H : Type} {enc : TypeId × Value → H} {W : World} {fuel : Nat} {cs : List Value} {x : DataW H × List MemPlace} {B : Nat} {sp : Nat → Bool} {hd : Bool}
end
section
variable {H : Type} {enc : TypeId × Value → H} {W : World} {r : Reach} {b0 : Nat} {v : Value} {d : DataW H} {p : List MemPlace}
end

end Go.Proofs.YtnhljlmelbiljaaGreat

/- What stands over a call that only makes memory: one law for facts of all kinds. -/
namespace Go.Proofs.YtnhljlmelbiljaaGreat
set_option linter.unusedVariables false
open Go Go.RowKit

/-- What a fact of one world is of a later one. -/
class Car (w w' : World) (A : Prop) (A' : outParam Prop) : Prop where
  go : Below w.heap.size w w' → A → A'
theorem carry {w w' : World} (hb : Below w.heap.size w w') {A A' : Prop} [h : Car w w' A A'] (k : A) : A' := h.go hb k
theorem carryA {w : World} (o : Obj) {A A' : Prop} [h : Car w (w.alloc o) A A'] (k : A) : A' := h.go ((Below.refl _ _).alloc (Nat.le_refl _) _) k
instance car_and {w w' : World} {A B A' B' : Prop} [h : Car w w' A A'] [k : Car w w' B B'] : Car w w' (A ∧ B) (A' ∧ B') := ⟨fun hb ⟨a, b⟩ => ⟨h.go hb a, k.go hb b⟩⟩
instance car_hid {w w' : World} {A A' : Prop} [h : Car w w' A A'] : Car w w' (Hid A) (Hid A') := ⟨fun hb a => Lib.hid (h.go hb a.out)⟩
instance car_row {w w' : World} {C : Array Value} {T : TypeId} {b : Nat} : Car w w' (RowIn C T w b) (RowIn C T w' b) := ⟨fun hb h => h.below hb⟩
instance car_own {w w' : World} {B sz : Nat} {e : TypeId} {v : Value} {n : Nat} {xs : List Value} : Car w w' (w.ownsRow B e sz v n xs) (w'.ownsRow B e sz v n xs) := ⟨fun hb h => ownP_below h hb⟩
instance car_cls {w w' : World} {ao : Option Addr} {L : List M.Cl} : Car w w' (ClsAt w ao L) (ClsAt w' ao L) := ⟨fun hb h => h.below hb⟩
instance car_below {w w' W : World} : Car w w' (Below W.heap.size W w) (Below W.heap.size W w') := ⟨fun hb h => below_step h hb⟩
instance car_le {w w' : World} {n : Nat} : Car w w' (n ≤ w.heap.size) (n ≤ w'.heap.size) := ⟨fun hb h => Nat.le_trans h hb.size⟩
instance car_lt {w w' : World} {n : Nat} : Car w w' (n < w.heap.size) (n < w'.heap.size) := ⟨fun hb h => Nat.lt_of_lt_of_le h hb.size⟩
theorem ownsMap_below {H : Type} {P : Program} {k : TypeId} {R : Value → Option (DataW H × List MemPlace)} {w w' : World} {b n : Nat} {D : DataW H} (h : w.ownsMap P k R b n D) (hb : Below w.heap.size w w') : w'.ownsMap P k R b n D := by
  have hlt := h.lt
  obtain ⟨es, clock, h1, F, hs, hD⟩ := h
  exact ⟨es, clock, (hb.block b hlt).trans h1, F, hs, hD⟩
instance car_map {w w' : World} {H : Type} {P : Program} {k : TypeId} {R : Value → Option (DataW H × List MemPlace)} {b n : Nat} {D : DataW H} : Car w w' (w.ownsMap P k R b n D) (w'.ownsMap P k R b n D) := ⟨fun hb h => ownsMap_below h hb⟩
/-- A block that is known whole is no row of elements of another type. -/
theorem row_apart {w : World} {C : Array Value} {T : TypeId} {b : Nat} {B : Nat} {e : TypeId} {sz : Nat} {v : Value} {n : Nat} {xs : List Value} (h : RowIn C T w b) (k : w.ownsRow B e sz v n xs) (hne : T ≠ e) : ∀ q, v.ownBlock = some q → q ≠ b := by
  intro q hq e1
  subst e1
  rcases k.2 with ⟨rfl, _⟩ | ⟨g, cap, cur, rfl, hb, hg, _⟩
  · cases hq
  · simp only [Value.ownBlock, Option.some.injEq] at hq
    subst hq
    unfold RowIn at h
    rw [hg] at h
    simp at h
    exact hne h.2.symm
end Go.Proofs.YtnhljlmelbiljaaGreat

/- The same for spans' rows. -/
namespace Go.Proofs.YtnhljlmelbiljaaGreat
set_option linter.unusedVariables false
open Go Go.RowKit
instance car_sps {w w' : World} {ao : Option Addr} {L : List M.Sp} : Car w w' (SpsAt w ao L) (SpsAt w' ao L) := ⟨fun hb h => h.below hb⟩

end Go.Proofs.YtnhljlmelbiljaaGreat

/- 'append(a, b...)' where both are rows that a call made, the second one nil or not. -/
namespace Go.Proofs.YtnhljlmelbiljaaGreat
set_option linter.unusedVariables false
open Go Go.RowKit

theorem wpList_append_rows {ops : Array Oper} {rest : List Oper} {o : Oper} {a : Act} {Q : Exit → Act → World → Prop} (w : World) (hgd : o.guard = none) (s x : Operand) (t : TypeId)
    (ho : o.op = .call { callee := .builtin .append, args := #[s, x], argTypes := #[t, t] })
    (base : Nat) (e : TypeId) (i : TypeInfo) (z : Value) (size bytes : Nat) (ht : Tryz.prog.underlying t = some (.slice e)) (hi : Tryz.prog.info? e = some i) (hz : i.zero = some z)
    (hsize : i.size = size) (hby : i.bytes = bytes) (hzs : z.cells.size = size) (hsz : 0 < size)
    (v : Value) (n : Nat) (xs : List Value) (hs : a.eval s = v) (hown : w.ownsRow base e size v n xs)
    (base' : Nat) (u : Value) (m : Nat) (ys : List Value) (hx : a.eval x = u) (hu : w.ownsRow base' e size u m ys) (h1 : ∀ u ∈ ys, u.oneCell' = true)
    (h63 : n + m ≤ maxLen) (hbytes : (n + m) * bytes ≤ 140737488355328) (hbase : base ≤ w.heap.size)
    (h : ∀ v' w', w'.ownsRow base e size v' (n + m) (xs ++ ys) → w.grownBy w' v.ownBlock → wpList Tryz.prog ops Q rest (a.put o.dst v') w') : wpList Tryz.prog ops Q (o :: rest) a w := by
  have hul := hu.1
  rcases hu.2 with ⟨rfl, rfl⟩ | ⟨g, cap, cur, rfl, _, hg, _⟩
  · have hy : ys = [] := List.eq_nil_of_length_eq_zero (by rw [hul]; simp)
    subst hy
    refine wpList_append_own_none hgd s x t ho base e i size ht hi v n xs hs hown hx (h v w ?_ ⟨rfl, rfl, rfl, Nat.le_refl _, fun _ _ _ => rfl⟩)
    simpa using hown
  · refine wpList_append_own w hgd s x t ho base e i z size bytes ht hi hz hsize hby hzs hsz v n xs hs hown ⟨g, 0, none⟩ m cap ys hx hul (fun j u' hj => ?_) h1 h63 hbytes hbase (fun v' w' h2 h3 _ => h v' w' h2 h3)
    exact hu.cells (g := g) rfl j u' hj

end Go.Proofs.YtnhljlmelbiljaaGreat

/- Plain mathematics of layer 9: sorted cells as bytes that leave out what a key has of the one ahead. No Go here. -/
namespace Go.Proofs.YtnhljlmelbiljaaGreat.M
set_option linter.unusedVariables false
open Op (bytesLess)

/-- May a cell be? Does it stand ahead of another one? -/
def mayC (c : Cl) : Bool := decide (1 ≤ c.key.length) && decide (c.key.length ≤ 64) && decide (0 ≤ c.seq) && decide (c.val.length ≤ 128)
def aheadC (a b : Cl) : Bool := bytesLess a.key b.key || (a.key == b.key && decide (b.seq < a.seq))
theorem mayC_true {c : Cl} : mayC c = true ↔ 1 ≤ c.key.length ∧ c.key.length ≤ 64 ∧ 0 ≤ c.seq ∧ c.val.length ≤ 128 := by
  simp [mayC, and_assoc]
def nextB (p : Option Cl) (c : Cl) : Bool := mayC c && (match p with
  | none => true
  | some q => aheadC q c)
/-- Are cells sorted, behind one? -/
def srt : Option Cl → List Cl → Bool
  | _, [] => true
  | p, c :: r => nextB p c && srt (some c) r
def lastO (p : Option Cl) : List Cl → Option Cl
  | [] => p
  | c :: r => lastO (some c) r
theorem lastO_snoc (p : Option Cl) (L : List Cl) (c : Cl) : lastO p (L ++ [c]) = some c := by
  induction L generalizing p with
  | nil => rfl
  | cons x L ih => exact ih _
theorem srt_append (p : Option Cl) (L K : List Cl) : srt p (L ++ K) = (srt p L && srt (lastO p L) K) := by
  induction L generalizing p with
  | nil => simp [srt, lastO]
  | cons x L ih => simp only [List.cons_append, srt, lastO, ih, Bool.and_assoc]
theorem srt_snoc (p : Option Cl) (L : List Cl) (c : Cl) : srt p (L ++ [c]) = (srt p L && nextB (lastO p L) c) := by
  rw [srt_append]; simp [srt]
theorem srt_may {p : Option Cl} {L : List Cl} (h : srt p L = true) : ∀ c ∈ L, mayC c = true := by
  induction L generalizing p with
  | nil => intro c hc; simp at hc
  | cons x L ih =>
    simp only [srt, Bool.and_eq_true] at h
    intro c hc
    rcases List.mem_cons.1 hc with rfl | hc
    · have := h.1
      simp only [nextB, Bool.and_eq_true] at this
      exact this.1
    · exact ih h.2 c hc

/-- How many bytes two texts begin with alike. -/
def com : List UInt8 → List UInt8 → Nat
  | a :: x, b :: y => if a = b then com x y + 1 else 0
  | _, _ => 0
theorem com_le1 : ∀ (a b : List UInt8), com a b ≤ a.length
  | [], _ => by simp [com]
  | _ :: _, [] => by simp [com]
  | a :: x, b :: y => by
    have := com_le1 x y
    simp only [com]
    split <;> simp <;> omega
theorem com_le2 : ∀ (a b : List UInt8), com a b ≤ b.length
  | [], _ => by simp [com]
  | _ :: _, [] => by simp [com]
  | a :: x, b :: y => by
    have := com_le2 x y
    simp only [com]
    split <;> simp <;> omega
theorem com_take : ∀ (a b : List UInt8), a.take (com a b) = b.take (com a b)
  | [], _ => by simp [com]
  | _ :: _, [] => by simp [com]
  | a :: x, b :: y => by
    have := com_take x y
    simp only [com]
    split
    · rename_i h; subst h; simp [this]
    · simp
theorem com_is : ∀ (n : Nat) (a b : List UInt8), n ≤ a.length → n ≤ b.length → (∀ j, j < n → a.getD j 0 = b.getD j 0) → (n = a.length ∨ n = b.length ∨ a.getD n 0 ≠ b.getD n 0) → com a b = n
  | 0, [], b, _, _, _, _ => by simp [com]
  | 0, a :: x, [], _, _, _, _ => by simp [com]
  | 0, a :: x, b :: y, _, _, _, h => by
    have : ¬ a = b := by simpa using h
    simp [com, this]
  | n + 1, [], b, h, _, _, _ => by simp at h
  | n + 1, a :: x, [], _, h, _, _ => by simp at h
  | n + 1, a :: x, b :: y, h1, h2, h3, h4 => by
    have e : a = b := by simpa using h3 0 (by omega)
    have := com_is n x y (by simpa using h1) (by simpa using h2) (fun j hj => by simpa using h3 (j + 1) (by omega)) (by simpa using h4)
    simp [com, e, this]
theorem com_head (last key : List UInt8) : last.take (com last key) ++ key.drop (com last key) = key := by
  rw [com_take, List.take_append_drop]

/-- A cell's bytes, behind a key; those of cells. -/
def encOne (last : List UInt8) (c : Cl) : List UInt8 := putN (com last c.key) ++ putT (c.key.drop (com last c.key)) ++ putN c.seq.toNat ++ putT c.val
def encL : List UInt8 → List Cl → List UInt8
  | _, [] => []
  | last, c :: r => encOne last c ++ encL c.key r
def lastK (k : List UInt8) : List Cl → List UInt8
  | [] => k
  | c :: r => lastK c.key r
theorem lastK_snoc (k : List UInt8) (L : List Cl) (c : Cl) : lastK k (L ++ [c]) = c.key := by
  induction L generalizing k with
  | nil => rfl
  | cons x L ih => exact ih _
theorem encL_snoc (k : List UInt8) (L : List Cl) (c : Cl) : encL k (L ++ [c]) = encL k L ++ encOne (lastK k L) c := by
  induction L generalizing k with
  | nil => simp [encL, lastK]
  | cons x L ih => simp only [List.cons_append, encL, lastK, ih, List.append_assoc]
def encCs (L : List Cl) : List UInt8 := putN L.length ++ encL [] L

/-- The cell that stands at a place behind a key, and the place behind it; chk: asked as the program asks. -/
def readC (chk : Bool) (s : List UInt8) (at_ : Nat) (last : List UInt8) : Option (Cl × Nat) := match gets s at_ with
  | none => none
  | some (n, a1) => if n ≤ last.length then match getTs s a1 with
    | none => none
    | some (rest, a2) => if (!chk || decide (com last (last.take n ++ rest) = n)) = true then match gets s a2 with
      | none => none
      | some (q, a3) => match getTs s a3 with
        | none => none
        | some (v, a4) => some (⟨last.take n ++ rest, (q : Int), v⟩, a4)
      else none
    else none
def rdC (chk : Bool) (s : List UInt8) : Nat → Nat → List UInt8 → Option (List Cl × Nat)
  | 0, at_, _ => some ([], at_)
  | k + 1, at_, last => match readC chk s at_ last with
    | none => none
    | some (c, nx) => match rdC chk s k nx c.key with
      | none => none
      | some (l, e) => some (c :: l, e)
def decC (s : List UInt8) : Option (List Cl) := match gets s 0 with
  | none => none
  | some (n, a) => match rdC true s n a [] with
    | none => none
    | some (L, e) => if (decide (e = s.length) && srt none L) = true then some L else none
theorem gets_drop {s : List UInt8} {at_ n m : Nat} (h : gets s at_ = some (n, m)) : s.drop at_ = putN n ++ s.drop m ∧ at_ < m ∧ m ≤ s.length ∧ n ≤ 9223372036854775807 := by
  obtain ⟨h1, h2, h3, h4, h5, h6⟩ := gets_bounds h
  have e : (at_ : Int).toNat = at_ := by omega
  rw [e] at h6
  refine ⟨?_, by omega, h3, h4⟩
  rw [h6]
  have : s.drop m = (s.drop at_).drop (m - at_) := by rw [List.drop_drop]; congr 1; omega
  rw [this, List.take_append_drop]

theorem getTs_drop {s t : List UInt8} {at_ m : Nat} (h : getTs s at_ = some (t, m)) : s.drop at_ = putT t ++ s.drop m ∧ at_ < m ∧ m ≤ s.length ∧ t.length ≤ 9223372036854775807 := by
  unfold getTs at h
  cases hg : gets s at_ with
  | none => rw [hg] at h; cases h
  | some x =>
    obtain ⟨n, a⟩ := x
    rw [hg] at h
    simp only at h
    split at h
    · rename_i hle
      simp only [Option.some.injEq, Prod.mk.injEq] at h
      obtain ⟨rfl, rfl⟩ := h
      obtain ⟨h1, h2, h3, h4⟩ := gets_drop hg
      have hl : ((s.drop a).take (a + n - a)).length = n := by simp; omega
      refine ⟨?_, by omega, hle, by omega⟩
      rw [h1, putT, hl, List.append_assoc]
      congr 1
      rw [show a + n - a = n from by omega]
      have : s.drop (a + n) = (s.drop a).drop n := by rw [List.drop_drop]
      rw [this, List.take_append_drop]
    · cases h
theorem getsP {s a c : List UInt8} {n i : Nat} (h : n ≤ 9223372036854775807) (hs : s = a ++ putN n ++ c) (hi : i = a.length) : gets s i = some (n, (a ++ putN n).length) := by
  subst hs hi
  rw [gets_put a c n h, List.length_append]
theorem getTsP {s a c t : List UInt8} {i : Nat} (h : t.length ≤ 9223372036854775807) (hs : s = a ++ putT t ++ c) (hi : i = a.length) : getTs s i = some (t, (a ++ putT t).length) := by
  subst hs hi
  rw [putT, getTs_put a c t h, List.length_append, List.length_append, Nat.add_assoc]

theorem readC_drop {chk : Bool} {s last : List UInt8} {at_ nx : Nat} {c : Cl} (h : readC chk s at_ last = some (c, nx)) :
    ∃ n q : Nat, n ≤ last.length ∧ q ≤ 9223372036854775807 ∧ (c.seq = (q : Int)) ∧ (∃ rest, c.key = last.take n ++ rest ∧ s.drop at_ = putN n ++ putT rest ++ putN q ++ putT c.val ++ s.drop nx) ∧ (chk = true → com last c.key = n) ∧ nx ≤ s.length ∧ at_ + 4 ≤ nx := by
  unfold readC at h
  cases h1 : gets s at_ with
  | none => rw [h1] at h; cases h
  | some x =>
    obtain ⟨n, a1⟩ := x
    rw [h1] at h
    simp only at h
    split at h
    · rename_i hn
      cases h2 : getTs s a1 with
      | none => rw [h2] at h; cases h
      | some x =>
        obtain ⟨rest, a2⟩ := x
        rw [h2] at h
        simp only at h
        split at h
        · rename_i hc
          cases h3 : gets s a2 with
          | none => rw [h3] at h; cases h
          | some x =>
            obtain ⟨q, a3⟩ := x
            rw [h3] at h
            simp only at h
            cases h4 : getTs s a3 with
            | none => rw [h4] at h; cases h
            | some x =>
              obtain ⟨v, a4⟩ := x
              rw [h4] at h
              simp only [Option.some.injEq, Prod.mk.injEq] at h
              obtain ⟨rfl, rfl⟩ := h
              obtain ⟨d1, b1, l1, m1⟩ := gets_drop h1
              obtain ⟨d2, b2, l2, m2⟩ := getTs_drop h2
              obtain ⟨d3, b3, l3, m3⟩ := gets_drop h3
              obtain ⟨d4, b4, l4, m4⟩ := getTs_drop h4
              refine ⟨n, q, hn, m3, rfl, ⟨rest, rfl, ?_⟩, fun hk => ?_, l4, by omega⟩
              · rw [d1, d2, d3, d4]; simp only [List.append_assoc]
              · subst hk; simpa using hc
        · cases h
    · cases h
theorem readC_enc {s last : List UInt8} {at_ nx : Nat} {c : Cl} (h : readC true s at_ last = some (c, nx)) :
    s.drop at_ = encOne last c ++ s.drop nx ∧ nx ≤ s.length ∧ 0 ≤ c.seq ∧ c.seq ≤ 9223372036854775807 := by
  obtain ⟨n, q, hn, hq, hs, ⟨rest, hk, hd⟩, hc, hl, _⟩ := readC_drop h
  have hc := hc rfl
  refine ⟨?_, hl, by omega, by omega⟩
  have hr : c.key.drop n = rest := by
    rw [hk, List.drop_append_of_le_length (by simp; omega), List.drop_take]
    simp
  have hqn : c.seq.toNat = q := by omega
  rw [hd, encOne, hc, hr, hqn]
theorem rd_len {chk : Bool} {s : List UInt8} : ∀ {k at_ : Nat} {last : List UInt8} {L : List Cl} {e : Nat}, rdC chk s k at_ last = some (L, e) → L.length = k ∧ (∀ c ∈ L, 0 ≤ c.seq ∧ c.seq ≤ 9223372036854775807)
  | 0, at_, last, L, e, h => by
    simp [rdC] at h
    obtain ⟨rfl, rfl⟩ := h
    simp
  | k + 1, at_, last, L, e, h => by
    rw [rdC] at h
    cases h1 : readC chk s at_ last with
    | none => rw [h1] at h; cases h
    | some x =>
      obtain ⟨c, nx⟩ := x
      rw [h1] at h
      simp only at h
      cases h2 : rdC chk s k nx c.key with
      | none => rw [h2] at h; cases h
      | some x =>
        obtain ⟨l, e'⟩ := x
        rw [h2] at h
        simp only [Option.some.injEq, Prod.mk.injEq] at h
        obtain ⟨rfl, rfl⟩ := h
        obtain ⟨g1, g2⟩ := rd_len h2
        obtain ⟨n, q, _, hq, hs, _⟩ := readC_drop h1
        refine ⟨by simp [g1], fun x hx => ?_⟩
        rcases List.mem_cons.1 hx with rfl | hx
        · omega
        · exact g2 x hx
theorem rd_drop {s : List UInt8} : ∀ {k at_ : Nat} {last : List UInt8} {L : List Cl} {e : Nat}, at_ ≤ s.length → rdC true s k at_ last = some (L, e) → s.drop at_ = encL last L ++ s.drop e ∧ e ≤ s.length
  | 0, at_, last, L, e, hat, h => by
    simp [rdC] at h
    obtain ⟨rfl, rfl⟩ := h
    simp [encL, hat]
  | k + 1, at_, last, L, e, hat, h => by
    rw [rdC] at h
    cases h1 : readC true s at_ last with
    | none => rw [h1] at h; cases h
    | some x =>
      obtain ⟨c, nx⟩ := x
      rw [h1] at h
      simp only at h
      cases h2 : rdC true s k nx c.key with
      | none => rw [h2] at h; cases h
      | some x =>
        obtain ⟨l, e'⟩ := x
        rw [h2] at h
        simp only [Option.some.injEq, Prod.mk.injEq] at h
        obtain ⟨rfl, rfl⟩ := h
        obtain ⟨g1, g2, -⟩ := readC_enc h1
        obtain ⟨g3, g4⟩ := rd_drop g2 h2
        exact ⟨by rw [g1, g3, encL, List.append_assoc], g4⟩
theorem decC_enc {s : List UInt8} {L : List Cl} (h : decC s = some L) : encCs L = s ∧ srt none L = true ∧ (∀ c ∈ L, 0 ≤ c.seq ∧ c.seq ≤ 9223372036854775807) := by
  unfold decC at h
  cases h1 : gets s 0 with
  | none => rw [h1] at h; cases h
  | some x =>
    obtain ⟨n, a⟩ := x
    rw [h1] at h
    simp only at h
    cases h2 : rdC true s n a [] with
    | none => rw [h2] at h; cases h
    | some x =>
      obtain ⟨L', e⟩ := x
      rw [h2] at h
      simp only at h
      split at h
      · rename_i hc
        cases h
        simp only [Bool.and_eq_true, decide_eq_true_eq] at hc
        obtain ⟨d1, b1, l1, m1⟩ := gets_drop (at_ := 0) (by simpa using h1)
        obtain ⟨g1, g2⟩ := rd_len h2
        obtain ⟨g3, g4⟩ := rd_drop l1 h2
        refine ⟨?_, hc.2, g2⟩
        rw [encCs, g1]
        rw [g3, hc.1, List.drop_length, List.append_nil] at d1
        simpa using d1.symm
      · cases h
theorem read_enc (chk : Bool) (a last z : List UInt8) (c : Cl) (h0 : 0 ≤ c.seq) (h1 : c.seq ≤ 9223372036854775807) (h2 : c.key.length ≤ 9223372036854775807) (h3 : c.val.length ≤ 9223372036854775807) (hl : last.length ≤ 9223372036854775807) :
    readC chk (a ++ encOne last c ++ z) a.length last = some (c, (a ++ encOne last c).length) := by
  have hn1 := com_le1 last c.key
  have hn2 := com_le2 last c.key
  generalize hn : com last c.key = n at *
  have e1 := getsP (s := a ++ encOne last c ++ z) (a := a) (c := putT (c.key.drop n) ++ putN c.seq.toNat ++ putT c.val ++ z) (n := n) (by omega) (by rw [encOne, hn]; simp only [List.append_assoc]) rfl
  have e2 := getTsP (s := a ++ encOne last c ++ z) (a := a ++ putN n) (c := putN c.seq.toNat ++ putT c.val ++ z) (t := c.key.drop n) (by simp; omega) (by rw [encOne, hn]; simp only [List.append_assoc]) rfl
  have e3 := getsP (s := a ++ encOne last c ++ z) (a := a ++ putN n ++ putT (c.key.drop n)) (c := putT c.val ++ z) (n := c.seq.toNat) (by omega) (by rw [encOne, hn]; simp only [List.append_assoc]) rfl
  have e4 := getTsP (s := a ++ encOne last c ++ z) (a := a ++ putN n ++ putT (c.key.drop n) ++ putN c.seq.toNat) (c := z) (t := c.val) h3 (by rw [encOne, hn]; simp only [List.append_assoc]) rfl
  have hk : last.take n ++ c.key.drop n = c.key := by rw [← hn]; exact com_head last c.key
  have hq : ((c.seq.toNat : Nat) : Int) = c.seq := by omega
  unfold readC
  rw [e1]
  simp only
  rw [if_pos hn1, e2]
  simp only
  rw [hk, hn, if_pos (by simp), e3]
  simp only
  rw [e4, hq]
  simp only [Option.some.injEq, Prod.mk.injEq, true_and]
  rw [encOne, hn]
  simp only [List.append_assoc]
theorem rd_enc (chk : Bool) : ∀ (L : List Cl) (a last z : List UInt8), (∀ c ∈ L, 0 ≤ c.seq ∧ c.seq ≤ 9223372036854775807 ∧ c.key.length ≤ 9223372036854775807 ∧ c.val.length ≤ 9223372036854775807) → last.length ≤ 9223372036854775807 →
    rdC chk (a ++ encL last L ++ z) L.length a.length last = some (L, (a ++ encL last L).length)
  | [], a, last, z, _, _ => by simp [rdC, encL]
  | c :: L, a, last, z, h, hl => by
    have hc := h c (by simp)
    have e := read_enc chk a last (encL c.key L ++ z) c hc.1 hc.2.1 hc.2.2.1 hc.2.2.2 hl
    have e2 := rd_enc chk L (a ++ encOne last c) c.key z (fun x hx => h x (by simp [hx])) hc.2.2.1
    have hs : a ++ encL last (c :: L) ++ z = a ++ encOne last c ++ (encL c.key L ++ z) := by simp only [encL, List.append_assoc]
    have hs2 : a ++ encL last (c :: L) ++ z = a ++ encOne last c ++ encL c.key L ++ z := by simp only [encL, List.append_assoc]
    rw [List.length_cons, rdC, hs, e]
    simp only
    rw [← hs, hs2, e2]
    simp only [encL, List.append_assoc]
theorem dec_encC {L : List Cl} (h : srt none L = true) (hq : ∀ c ∈ L, c.seq ≤ 9223372036854775807) (hl : L.length ≤ 9223372036854775807) : decC (encCs L) = some L := by
  have hm := srt_may h
  have e1 := getsP (s := encCs L) (a := []) (c := encL [] L) (n := L.length) (i := 0) hl (by simp [encCs]) rfl
  have e2 := rd_enc true L (putN L.length) [] [] (fun c hc => by
    have h1 := mayC_true.1 (hm c hc)
    exact ⟨h1.2.2.1, hq c hc, by omega, by omega⟩) (by simp)
  unfold decC
  rw [show ((0 : Nat) : Int) = 0 from rfl] at e1
  rw [e1]
  simp only [List.nil_append]
  rw [List.append_nil] at e2
  rw [show encCs L = putN L.length ++ encL [] L from rfl, e2]
  simp [h]
/-- Read so far: these, up to a place; so many are left. -/
def StG (chk : Bool) (s : List UInt8) (L : List Cl) (at_ k : Nat) : Prop := ∃ n a, gets s 0 = some (n, a) ∧ n = L.length + k ∧ rdC chk s n a [] = (rdC chk s k at_ (lastK [] L)).map (fun x => (L ++ x.1, x.2))
theorem stG_start {chk : Bool} {s : List UInt8} {n a : Nat} (h : gets s 0 = some (n, a)) : StG chk s [] a n := by
  refine ⟨n, a, h, by simp, ?_⟩
  simp only [lastK, List.nil_append]
  cases rdC chk s n a [] <;> rfl
theorem stG_step {chk : Bool} {s : List UInt8} {L : List Cl} {at_ k nx : Nat} {c : Cl} (h : StG chk s L at_ (k + 1)) (hr : readC chk s at_ (lastK [] L) = some (c, nx)) : StG chk s (L ++ [c]) nx k := by
  obtain ⟨n, a, h1, h2, h3⟩ := h
  refine ⟨n, a, h1, by simp; omega, ?_⟩
  rw [h3, rdC, hr, lastK_snoc]
  simp only
  cases rdC chk s k nx c.key <;> simp
theorem stG_none {chk : Bool} {s : List UInt8} {L : List Cl} {at_ k : Nat} (h : StG chk s L at_ (k + 1)) (hr : readC chk s at_ (lastK [] L) = none) : ∃ n a, gets s 0 = some (n, a) ∧ rdC chk s n a [] = none := by
  obtain ⟨n, a, h1, h2, h3⟩ := h
  refine ⟨n, a, h1, ?_⟩
  rw [h3, rdC, hr]
  rfl
theorem stG_end {chk : Bool} {s : List UInt8} {L : List Cl} {at_ : Nat} (h : StG chk s L at_ 0) : ∃ n a, gets s 0 = some (n, a) ∧ rdC chk s n a [] = some (L, at_) := by
  obtain ⟨n, a, h1, h2, h3⟩ := h
  refine ⟨n, a, h1, ?_⟩
  rw [h3]; simp [rdC]
theorem decC_none1 {s : List UInt8} {L : List Cl} {at_ k : Nat} (h : StG true s L at_ (k + 1)) (hr : readC true s at_ (lastK [] L) = none) : decC s = none := by
  obtain ⟨n, a, h1, h2⟩ := stG_none h hr
  rw [decC, h1]; simp only; rw [h2]
theorem decC_none2 {s : List UInt8} {L : List Cl} {at_ k nx : Nat} {c : Cl} (h : StG true s L at_ (k + 1)) (hr : readC true s at_ (lastK [] L) = some (c, nx)) (hb : nextB (lastO none L) c = false) : decC s = none := by
  obtain ⟨n, a, h1, h2, h3⟩ := stG_step h hr
  rw [decC, h1]
  simp only
  rw [h3]
  cases hq : rdC true s k nx (lastK [] (L ++ [c])) with
  | none => rfl
  | some x =>
    simp only [Option.map]
    rw [if_neg]
    simp only [srt_append, srt, hb, Bool.and_false, Bool.false_and]
    simp
theorem decC_end {s : List UInt8} {L : List Cl} {at_ : Nat} (h : StG true s L at_ 0) (hs : srt none L = true) : decC s = if at_ = s.length then some L else none := by
  obtain ⟨n, a, h1, h2⟩ := stG_end h
  rw [decC, h1]
  simp only
  rw [h2]
  simp [hs]
theorem decC_nogets {s : List UInt8} (h : gets s 0 = none) : decC s = none := by rw [decC, h]
/-- The first cell of a key. -/
def findL (k : List UInt8) (L : List Cl) : Option Cl := L.find? (fun c => decide (c.key = k))
def findC (s k : List UInt8) : Option Cl := match decC s with
  | none => none
  | some L => findL k L
theorem findL_snoc (k : List UInt8) (L : List Cl) (c : Cl) : findL k (L ++ [c]) = match findL k L with
  | some x => some x
  | none => if c.key = k then some c else none := by
  rw [findL, List.find?_append]
  unfold findL
  cases h : L.find? (fun c => decide (c.key = k)) with
  | none => by_cases e : c.key = k <;> simp [e]
  | some x => simp

end Go.Proofs.YtnhljlmelbiljaaGreat.M
